/- Lines of a bank's text: what the program and the specification lay of a bank, an account, an order. Conditions: they lie in memory; numbers of at most sixteen digits; of the program: the library's table of powers of ten as its text lays it. -/
import Derived.Test.YtodbcdclglaniaaDoorRow
import Derived.BigRegion
namespace Go.Proofs.YtodbcdclglaniaaDoor
open Go.RowKit
set_option maxRecDepth 8000

theorem PtrC.lit2 {w : World} (ps : List (Nat × Nat × Int)) (hp : ∀ p ∈ ps, p.1 < w.heap.size ∧ w.cell? ⟨p.1, p.2.1, none⟩ = some (.int .i64 p.2.2)) : PtrC (w.alloc (.cells (ps.map fun p => Value.pointer (some ⟨p.1, p.2.1, none⟩)).toArray 62)) (some ⟨w.heap.size, 0, none⟩) (ps.map (·.2.2)) := by
  refine Or.inr ⟨w.heap.size, 0, rfl, by simp, fun i hi => ?_⟩
  have hi' : i < ps.length := by simpa using hi
  obtain ⟨h1, h2⟩ := hp _ (List.getElem_mem hi')
  refine ⟨ps[i].1, ps[i].2.1, ?_, by simp; omega, ?_⟩
  · rw [World.cell?_alloc_mark]
    simp [hi']
  · rw [World.cell?_alloc_lt _ _ _ h1, h2]
    simp
/-- What the numbers of a thing come to. -/
def NumOut (w : World) (m : Nat) (ns : List Int) (e : Ending) (w' : World) : Prop := ∃ a c, e = .returned (.slice a m c) ∧ PtrC w' a ns ∧ Below w.heap.size w w'

set_option maxHeartbeats 4000000 in
theorem numsOrder (R : Nat) (o0 o1 o2 o3 o4 o5 o6 : Int) (w : World) (hR : R < w.heap.size) (c0 : w.cell? ⟨R, 0, none⟩ = some (.int .i64 o0)) (c1 : w.cell? ⟨R, 1, none⟩ = some (.int .i64 o1)) (c2 : w.cell? ⟨R, 2, none⟩ = some (.int .i64 o2)) (c3 : w.cell? ⟨R, 3, none⟩ = some (.int .i64 o3)) (c4 : w.cell? ⟨R, 4, none⟩ = some (.int .i64 o4)) (c5 : w.cell? ⟨R, 5, none⟩ = some (.int .i64 o5)) (c6 : w.cell? ⟨R, 6, none⟩ = some (.int .i64 o6)) :
    Calls Tryd.prog 24 #[.pointer (some ⟨R, 0, none⟩)] w fun e w' => NumOut w 7 [o0, o1, o2, o3, o4, o5, o6] e w' := by
  have FI : Hid (PtrC ((w.alloc (.cells #[.pointer (some ⟨R, 0, none⟩), .pointer (some ⟨R, 1, none⟩), .pointer (some ⟨R, 2, none⟩), .pointer (some ⟨R, 3, none⟩), .pointer (some ⟨R, 4, none⟩), .pointer (some ⟨R, 5, none⟩), .pointer (some ⟨R, 6, none⟩)] 62)).drew) (some ⟨w.heap.size, 0, none⟩) [o0, o1, o2, o3, o4, o5, o6] ∧ Below w.heap.size w ((w.alloc (.cells #[.pointer (some ⟨R, 0, none⟩), .pointer (some ⟨R, 1, none⟩), .pointer (some ⟨R, 2, none⟩), .pointer (some ⟨R, 3, none⟩), .pointer (some ⟨R, 4, none⟩), .pointer (some ⟨R, 5, none⟩), .pointer (some ⟨R, 6, none⟩)] 62)).drew)) :=
    ⟨PtrC.lit2 [(R, 0, o0), (R, 1, o1), (R, 2, o2), (R, 3, o3), (R, 4, o4), (R, 5, o5), (R, 6, o6)] (by intro p hp; simp at hp; rcases hp with rfl | rfl | rfl | rfl | rfl | rfl | rfl <;> exact ⟨hR, by assumption⟩), ((Below.refl _ _).alloc (Nat.le_refl _) _).drew⟩
  clear c0 c1 c2 c3 c4 c5 c6
  go_enter Tryd.func24, Tryd.ntmps24
  go_wp2_with fail
  go_region
  all_goals go_wp2
  all_goals go_ret
  all_goals exact ⟨_, _, rfl, FI.out.1, FI.out.2⟩
set_option maxHeartbeats 4000000 in
theorem numsBank (R : Nat) (o0 o3 o4 o5 o6 : Int) (w : World) (hR : R < w.heap.size) (c0 : w.cell? ⟨R, 0, none⟩ = some (.int .i64 o0)) (c3 : w.cell? ⟨R, 3, none⟩ = some (.int .i64 o3)) (c4 : w.cell? ⟨R, 4, none⟩ = some (.int .i64 o4)) (c5 : w.cell? ⟨R, 5, none⟩ = some (.int .i64 o5)) (c6 : w.cell? ⟨R, 6, none⟩ = some (.int .i64 o6)) :
    Calls Tryd.prog 21 #[.pointer (some ⟨R, 0, none⟩)] w fun e w' => NumOut w 5 [o0, o3, o4, o5, o6] e w' := by
  have FI : Hid (PtrC ((w.alloc (.cells #[.pointer (some ⟨R, 0, none⟩), .pointer (some ⟨R, 3, none⟩), .pointer (some ⟨R, 4, none⟩), .pointer (some ⟨R, 5, none⟩), .pointer (some ⟨R, 6, none⟩)] 62)).drew) (some ⟨w.heap.size, 0, none⟩) [o0, o3, o4, o5, o6] ∧ Below w.heap.size w ((w.alloc (.cells #[.pointer (some ⟨R, 0, none⟩), .pointer (some ⟨R, 3, none⟩), .pointer (some ⟨R, 4, none⟩), .pointer (some ⟨R, 5, none⟩), .pointer (some ⟨R, 6, none⟩)] 62)).drew)) :=
    ⟨PtrC.lit2 [(R, 0, o0), (R, 3, o3), (R, 4, o4), (R, 5, o5), (R, 6, o6)] (by intro p hp; simp at hp; rcases hp with rfl | rfl | rfl | rfl | rfl <;> exact ⟨hR, by assumption⟩), ((Below.refl _ _).alloc (Nat.le_refl _) _).drew⟩
  clear c0 c3 c4 c5 c6
  go_enter Tryd.func21, Tryd.ntmps21
  go_wp2_with fail
  go_region
  all_goals go_wp2
  all_goals go_ret
  all_goals exact ⟨_, _, rfl, FI.out.1, FI.out.2⟩
set_option maxHeartbeats 4000000 in
theorem numsAcc (R Q : Nat) (o0 o1 o2 o3 o4 fz o6 o7 : Int) (w : World) (hR : R < w.heap.size) (hQ : Q < w.heap.size) (c0 : w.cell? ⟨R, 0, none⟩ = some (.int .i64 o0)) (c1 : w.cell? ⟨R, 1, none⟩ = some (.int .i64 o1)) (c2 : w.cell? ⟨R, 2, none⟩ = some (.int .i64 o2)) (c3 : w.cell? ⟨R, 3, none⟩ = some (.int .i64 o3)) (c4 : w.cell? ⟨R, 4, none⟩ = some (.int .i64 o4)) (cz : w.cell? ⟨Q, 0, none⟩ = some (.int .i64 fz)) (c6 : w.cell? ⟨R, 6, none⟩ = some (.int .i64 o6)) (c7 : w.cell? ⟨R, 7, none⟩ = some (.int .i64 o7)) :
    Calls Tryd.prog 23 #[.pointer (some ⟨R, 0, none⟩), .pointer (some ⟨Q, 0, none⟩)] w fun e w' => NumOut w 8 [o0, o1, o2, o3, o4, fz, o6, o7] e w' := by
  have FI : Hid (PtrC ((w.alloc (.cells #[.pointer (some ⟨R, 0, none⟩), .pointer (some ⟨R, 1, none⟩), .pointer (some ⟨R, 2, none⟩), .pointer (some ⟨R, 3, none⟩), .pointer (some ⟨R, 4, none⟩), .pointer (some ⟨Q, 0, none⟩), .pointer (some ⟨R, 6, none⟩), .pointer (some ⟨R, 7, none⟩)] 62)).drew) (some ⟨w.heap.size, 0, none⟩) [o0, o1, o2, o3, o4, fz, o6, o7] ∧ Below w.heap.size w ((w.alloc (.cells #[.pointer (some ⟨R, 0, none⟩), .pointer (some ⟨R, 1, none⟩), .pointer (some ⟨R, 2, none⟩), .pointer (some ⟨R, 3, none⟩), .pointer (some ⟨R, 4, none⟩), .pointer (some ⟨Q, 0, none⟩), .pointer (some ⟨R, 6, none⟩), .pointer (some ⟨R, 7, none⟩)] 62)).drew)) :=
    ⟨PtrC.lit2 [(R, 0, o0), (R, 1, o1), (R, 2, o2), (R, 3, o3), (R, 4, o4), (Q, 0, fz), (R, 6, o6), (R, 7, o7)] (by intro p hp; simp at hp; rcases hp with rfl | rfl | rfl | rfl | rfl | rfl | rfl | rfl <;> exact ⟨by assumption, by assumption⟩), ((Below.refl _ _).alloc (Nat.le_refl _) _).drew⟩
  clear c0 c1 c2 c3 c4 cz c6 c7
  go_enter Tryd.func23, Tryd.ntmps23
  go_wp2_with fail
  go_region
  all_goals go_wp2
  all_goals go_ret
  all_goals exact ⟨_, _, rfl, FI.out.1, FI.out.2⟩
/-- A line. -/
def lineB (S : ByteArray) (ns : List Int) : ByteArray := rowB S ns ++ ⟨#[10]⟩
set_option maxHeartbeats 2000000 in
theorem implLine (S : ByteArray) (hS : S.size ≤ 100) (a : Option Addr) (n c : Nat) (ns : List Int) (he : ns.length = n) (hn : n ≤ 8) (hs : ∀ z ∈ ns, Sml z) (w : World) (h : PtrC w a ns) (hp : Pow w) :
    Calls Tryd.prog 20 #[.string S, .slice a n c] w fun e w' => e = .returned (.string (lineB S ns)) ∧ Below w.heap.size w w' := by
  have hsz := rowB_size (k := 100) hs hS
  have hadd := add_run (rowB S ns) ⟨#[10]⟩ (by omega) (by show (1 : Nat) ≤ _; omega)
  have C : Hid (Calls Tryd.prog 34 #[.string S, .slice a n c] w fun e w' => e = .returned (.string (rowB S ns)) ∧ Below w.heap.size w w') := implRow S hS a n c ns he hn hs w h hp
  have HL : Hid (rowB S ns ++ ⟨#[10]⟩ = lineB S ns) := rfl
  clear hsz h hp hs he hS
  generalize lineB S ns = l at *
  generalize rowB S ns = t at *
  generalize t ++ (⟨#[10]⟩ : ByteArray) = t2 at *
  go_enter Tryd.func20, Tryd.ntmps20
  go_wp2_with fail
  refine C.out.mono ?_
  rintro e w1 ⟨rfl, B1⟩
  have HB : Hid (Below w.heap.size w w1) := B1
  clear B1 C
  go_wp2
  go_ret
  exact ⟨congrArg (fun x => Ending.returned (.string x)) HL.out, HB.out⟩
def flagZ (b : Bool) : Int := if b then 1 else 0
theorem implFlag (b : Bool) (w : World) : Calls Tryd.prog 22 #[.bool b] w fun e w' => e = .returned (.int .i64 (flagZ b)) ∧ w' = w := by
  cases b
  · go_enter Tryd.func22, Tryd.ntmps22
    go_wp2
    go_ret
    exact ⟨rfl, rfl⟩
  · go_enter Tryd.func22, Tryd.ntmps22
    go_wp2
    go_ret
    exact ⟨rfl, rfl⟩
theorem specFlag (b : Bool) (w : World) : Calls Tryd.prog 40 #[.bool b] w fun e w' => e = .returned (.int .i64 (flagZ b)) ∧ w' = w := by
  cases b
  · go_enter Tryd.func40, Tryd.ntmps40
    go_wp2
    go_ret
    exact ⟨rfl, rfl⟩
  · go_enter Tryd.func40, Tryd.ntmps40
    go_wp2
    go_ret
    exact ⟨rfl, rfl⟩
end Go.Proofs.YtodbcdclglaniaaDoor
