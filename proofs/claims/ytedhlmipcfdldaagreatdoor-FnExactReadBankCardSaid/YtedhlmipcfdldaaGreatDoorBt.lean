/- Lines of a bank's text: what the program and the specification lay of a bank, an account, an order. Conditions: they lie in memory; numbers of at most sixteen digits; of the program: the library's table of powers of ten as its text lays it. -/
import Derived.Test.YtedhlmipcfdldaaGreatDoorRow
import Derived.BigRegion
namespace Go.Proofs.YtedhlmipcfdldaaGreatDoor
open Go.RowKit
set_option maxRecDepth 8000

theorem PtrC.lit2 {w : World} (ps : List (Nat × Nat × Int)) (hp : ∀ p ∈ ps, p.1 < w.heap.size ∧ w.cell? ⟨p.1, p.2.1, none⟩ = some (.int .i64 p.2.2)) : PtrC (w.alloc (.cells (ps.map fun p => Value.pointer (some ⟨p.1, p.2.1, none⟩)).toArray 74)) (some ⟨w.heap.size, 0, none⟩) (ps.map (·.2.2)) := by
  refine Or.inr ⟨w.heap.size, 0, rfl, by simp, fun i hi => ?_⟩
  have hi' : i < ps.length := by simpa using hi
  obtain ⟨h1, h2⟩ := hp _ (List.getElem_mem hi')
  refine ⟨ps[i].1, ps[i].2.1, ?_, by simp; omega, ?_⟩
  · rw [World.cell?_alloc_mark]
    simp [hi']
  · rw [World.cell?_alloc_lt _ _ _ h1, h2]
    simp
/-- What the numbers of a thing come to. -/
def NumOut (w : World) (m : Nat) (ns : List Int) (e : Ending) (w' : World) : Prop := ∃ a c, e = .returned (.slice a m c) ∧ PtrC w' a ns ∧ Below w.heap.size w w'

set_option maxHeartbeats 4000000 in
theorem numsOrder (R : Nat) (o0 o1 o2 o3 o4 o5 o6 : Int) (w : World) (hR : R < w.heap.size) (c0 : w.cell? ⟨R, 0, none⟩ = some (.int .i64 o0)) (c1 : w.cell? ⟨R, 1, none⟩ = some (.int .i64 o1)) (c2 : w.cell? ⟨R, 2, none⟩ = some (.int .i64 o2)) (c3 : w.cell? ⟨R, 3, none⟩ = some (.int .i64 o3)) (c4 : w.cell? ⟨R, 4, none⟩ = some (.int .i64 o4)) (c5 : w.cell? ⟨R, 5, none⟩ = some (.int .i64 o5)) (c6 : w.cell? ⟨R, 6, none⟩ = some (.int .i64 o6)) :
    Calls Tryz.prog 45 #[.pointer (some ⟨R, 0, none⟩)] w fun e w' => NumOut w 7 [o0, o1, o2, o3, o4, o5, o6] e w' := by
  have FI : Hid (PtrC ((w.alloc (.cells #[.pointer (some ⟨R, 0, none⟩), .pointer (some ⟨R, 1, none⟩), .pointer (some ⟨R, 2, none⟩), .pointer (some ⟨R, 3, none⟩), .pointer (some ⟨R, 4, none⟩), .pointer (some ⟨R, 5, none⟩), .pointer (some ⟨R, 6, none⟩)] 74)).drew) (some ⟨w.heap.size, 0, none⟩) [o0, o1, o2, o3, o4, o5, o6] ∧ Below w.heap.size w ((w.alloc (.cells #[.pointer (some ⟨R, 0, none⟩), .pointer (some ⟨R, 1, none⟩), .pointer (some ⟨R, 2, none⟩), .pointer (some ⟨R, 3, none⟩), .pointer (some ⟨R, 4, none⟩), .pointer (some ⟨R, 5, none⟩), .pointer (some ⟨R, 6, none⟩)] 74)).drew)) :=
    ⟨PtrC.lit2 [(R, 0, o0), (R, 1, o1), (R, 2, o2), (R, 3, o3), (R, 4, o4), (R, 5, o5), (R, 6, o6)] (by intro p hp; simp at hp; rcases hp with rfl | rfl | rfl | rfl | rfl | rfl | rfl <;> exact ⟨hR, by assumption⟩), ((Below.refl _ _).alloc (Nat.le_refl _) _).drew⟩
  clear c0 c1 c2 c3 c4 c5 c6
  go_enter Tryz.func45, Tryz.ntmps45
  go_wp2_with fail
  go_region
  all_goals go_wp2
  all_goals go_ret
  all_goals exact ⟨_, _, rfl, FI.out.1, FI.out.2⟩
set_option maxHeartbeats 4000000 in
theorem numsBank (R : Nat) (o0 o3 o4 o5 o6 : Int) (w : World) (hR : R < w.heap.size) (c0 : w.cell? ⟨R, 0, none⟩ = some (.int .i64 o0)) (c3 : w.cell? ⟨R, 3, none⟩ = some (.int .i64 o3)) (c4 : w.cell? ⟨R, 4, none⟩ = some (.int .i64 o4)) (c5 : w.cell? ⟨R, 5, none⟩ = some (.int .i64 o5)) (c6 : w.cell? ⟨R, 6, none⟩ = some (.int .i64 o6)) :
    Calls Tryz.prog 26 #[.pointer (some ⟨R, 0, none⟩)] w fun e w' => NumOut w 5 [o0, o3, o4, o5, o6] e w' := by
  have FI : Hid (PtrC ((w.alloc (.cells #[.pointer (some ⟨R, 0, none⟩), .pointer (some ⟨R, 3, none⟩), .pointer (some ⟨R, 4, none⟩), .pointer (some ⟨R, 5, none⟩), .pointer (some ⟨R, 6, none⟩)] 74)).drew) (some ⟨w.heap.size, 0, none⟩) [o0, o3, o4, o5, o6] ∧ Below w.heap.size w ((w.alloc (.cells #[.pointer (some ⟨R, 0, none⟩), .pointer (some ⟨R, 3, none⟩), .pointer (some ⟨R, 4, none⟩), .pointer (some ⟨R, 5, none⟩), .pointer (some ⟨R, 6, none⟩)] 74)).drew)) :=
    ⟨PtrC.lit2 [(R, 0, o0), (R, 3, o3), (R, 4, o4), (R, 5, o5), (R, 6, o6)] (by intro p hp; simp at hp; rcases hp with rfl | rfl | rfl | rfl | rfl <;> exact ⟨hR, by assumption⟩), ((Below.refl _ _).alloc (Nat.le_refl _) _).drew⟩
  clear c0 c3 c4 c5 c6
  go_enter Tryz.func26, Tryz.ntmps26
  go_wp2_with fail
  go_region
  all_goals go_wp2
  all_goals go_ret
  all_goals exact ⟨_, _, rfl, FI.out.1, FI.out.2⟩
set_option maxHeartbeats 4000000 in
theorem numsAcc (R Q : Nat) (o0 o1 o2 o3 o4 fz o6 o7 : Int) (w : World) (hR : R < w.heap.size) (hQ : Q < w.heap.size) (c0 : w.cell? ⟨R, 0, none⟩ = some (.int .i64 o0)) (c1 : w.cell? ⟨R, 1, none⟩ = some (.int .i64 o1)) (c2 : w.cell? ⟨R, 2, none⟩ = some (.int .i64 o2)) (c3 : w.cell? ⟨R, 3, none⟩ = some (.int .i64 o3)) (c4 : w.cell? ⟨R, 4, none⟩ = some (.int .i64 o4)) (cz : w.cell? ⟨Q, 0, none⟩ = some (.int .i64 fz)) (c6 : w.cell? ⟨R, 6, none⟩ = some (.int .i64 o6)) (c7 : w.cell? ⟨R, 7, none⟩ = some (.int .i64 o7)) :
    Calls Tryz.prog 43 #[.pointer (some ⟨R, 0, none⟩), .pointer (some ⟨Q, 0, none⟩)] w fun e w' => NumOut w 8 [o0, o1, o2, o3, o4, fz, o6, o7] e w' := by
  have FI : Hid (PtrC ((w.alloc (.cells #[.pointer (some ⟨R, 0, none⟩), .pointer (some ⟨R, 1, none⟩), .pointer (some ⟨R, 2, none⟩), .pointer (some ⟨R, 3, none⟩), .pointer (some ⟨R, 4, none⟩), .pointer (some ⟨Q, 0, none⟩), .pointer (some ⟨R, 6, none⟩), .pointer (some ⟨R, 7, none⟩)] 74)).drew) (some ⟨w.heap.size, 0, none⟩) [o0, o1, o2, o3, o4, fz, o6, o7] ∧ Below w.heap.size w ((w.alloc (.cells #[.pointer (some ⟨R, 0, none⟩), .pointer (some ⟨R, 1, none⟩), .pointer (some ⟨R, 2, none⟩), .pointer (some ⟨R, 3, none⟩), .pointer (some ⟨R, 4, none⟩), .pointer (some ⟨Q, 0, none⟩), .pointer (some ⟨R, 6, none⟩), .pointer (some ⟨R, 7, none⟩)] 74)).drew)) :=
    ⟨PtrC.lit2 [(R, 0, o0), (R, 1, o1), (R, 2, o2), (R, 3, o3), (R, 4, o4), (Q, 0, fz), (R, 6, o6), (R, 7, o7)] (by intro p hp; simp at hp; rcases hp with rfl | rfl | rfl | rfl | rfl | rfl | rfl | rfl <;> exact ⟨by assumption, by assumption⟩), ((Below.refl _ _).alloc (Nat.le_refl _) _).drew⟩
  clear c0 c1 c2 c3 c4 cz c6 c7
  go_enter Tryz.func43, Tryz.ntmps43
  go_wp2_with fail
  go_region
  all_goals go_wp2
  all_goals go_ret
  all_goals exact ⟨_, _, rfl, FI.out.1, FI.out.2⟩
/-- A line. -/
def lineB (S : ByteArray) (ns : List Int) : ByteArray := rowB S ns ++ ⟨#[10]⟩
def flagZ (b : Bool) : Int := if b then 1 else 0
theorem implFlag (b : Bool) (w : World) : Calls Tryz.prog 44 #[.bool b] w fun e w' => e = .returned (.int .i64 (flagZ b)) ∧ w' = w := by
  cases b
  · go_enter Tryz.func44, Tryz.ntmps44
    go_wp2
    go_ret
    exact ⟨rfl, rfl⟩
  · go_enter Tryz.func44, Tryz.ntmps44
    go_wp2
    go_ret
    exact ⟨rfl, rfl⟩
theorem specFlag (b : Bool) (w : World) : Calls Tryz.prog 38 #[.bool b] w fun e w' => e = .returned (.int .i64 (flagZ b)) ∧ w' = w := by
  cases b
  · go_enter Tryz.func38, Tryz.ntmps38
    go_wp2
    go_ret
    exact ⟨rfl, rfl⟩
  · go_enter Tryz.func38, Tryz.ntmps38
    go_wp2
    go_ret
    exact ⟨rfl, rfl⟩
end Go.Proofs.YtedhlmipcfdldaaGreatDoor
