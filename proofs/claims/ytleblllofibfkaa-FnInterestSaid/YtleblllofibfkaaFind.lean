/- AccountOf, of the program and of the specification, and the law FnExactAccountOf. Conditions: the accounts lie in memory. -/
import Derived.Test.YtleblllofibfkaaTotal
namespace Go.Proofs.Ytleblllofibfkaa
open Go.RowKit
set_option maxRecDepth 8000

/-- The account that is handed back where there is none. -/
def noAcc : Acc := ⟨0, 0, 0, 0, 0, false, 0, 0⟩

set_option maxHeartbeats 1000000 in
theorem implFind_no (a : Option Addr) (n c : Nat) (F : Nat → Acc) (id : Int) (w : World) (h : Fo w a n F) (hR : ¬ (Right F n ∧ ∃ i, place F n id = some i)) :
    Calls Try.prog 29 #[.slice a n c, .int .i64 id] w fun e w' => e = .returned (.tuple #[.agg #[.int .i64 0, .int .i64 0, .int .i64 0, .int .i64 0, .int .i64 0, .bool false, .int .i64 0, .int .i64 0], .bool false]) ∧ Below w.heap.size w w' := by
  have H : Hid (Fo w a n F) := h
  have HR : Hid (¬ (Right F n ∧ ∃ i, place F n id = some i)) := hR
  clear h hR
  go_enter Try.func29, Try.ntmps29
  by_cases hr : Right F n
  · have hp : place F n id = none := by
      cases hp : place F n id with
      | none => rfl
      | some i => exact absurd ⟨hr, i, hp⟩ HR.out
    go_wp2_with fail
    refine (implOk_yes a n c F _ (H.out.alloc _) hr).mono ?_
    rintro e w1 ⟨rfl, B1⟩
    go_wp2_with fail
    refine (implAt a n c F id _ ((H.out.alloc _).below B1)).mono ?_
    rintro e w2 ⟨rfl, B2⟩
    rw [placeI_none hp]
    have B12 := B1.trans (B2.mono B1.size)
    have hc : ∀ o, w2.cell? ⟨w.heap.size, o, none⟩ = (w.alloc (.cells #[.int .i64 0, .int .i64 0, .int .i64 0, .int .i64 0, .int .i64 0, .bool false, .int .i64 0, .int .i64 0] 33)).cell? ⟨w.heap.size, o, none⟩ := fun o => B12.cell (p := ⟨w.heap.size, o, none⟩) (by simp)
    have hf : ∀ o, w2.frozen? ⟨w.heap.size, o, none⟩ = (w.alloc (.cells #[.int .i64 0, .int .i64 0, .int .i64 0, .int .i64 0, .int .i64 0, .bool false, .int .i64 0, .int .i64 0] 33)).frozen? ⟨w.heap.size, o, none⟩ := fun o => B12.frozen (p := ⟨w.heap.size, o, none⟩) (by simp)
    have BB : Hid (Below w.heap.size w w2) := ((Below.refl _ _).alloc (Nat.le_refl _) _).trans (B12.mono (by simp))
    have hz : w.heap.size < w2.heap.size := by have := B12.size; simp at this; omega
    clear B1 B2 B12 hr hp
    go_wp2
    refine bodyPost_ret (v := .tuple #[.agg #[.int .i64 0, .int .i64 0, .int .i64 0, .int .i64 0, .int .i64 0, .bool false, .int .i64 0, .int .i64 0], .bool false]) (by simp [results, Try.results29, go_sem, hc]) rfl ⟨rfl, ?_⟩
    exact set8_below BB.out w.heap.size 0 noAcc (Nat.le_refl _)
  · go_wp2_with fail
    refine (implOk_no a n c F _ (H.out.alloc _) hr).mono ?_
    rintro e w1 ⟨rfl, B1⟩
    have hc : ∀ o, w1.cell? ⟨w.heap.size, o, none⟩ = (w.alloc (.cells #[.int .i64 0, .int .i64 0, .int .i64 0, .int .i64 0, .int .i64 0, .bool false, .int .i64 0, .int .i64 0] 33)).cell? ⟨w.heap.size, o, none⟩ := fun o => B1.cell (p := ⟨w.heap.size, o, none⟩) (by simp)
    have hf : ∀ o, w1.frozen? ⟨w.heap.size, o, none⟩ = (w.alloc (.cells #[.int .i64 0, .int .i64 0, .int .i64 0, .int .i64 0, .int .i64 0, .bool false, .int .i64 0, .int .i64 0] 33)).frozen? ⟨w.heap.size, o, none⟩ := fun o => B1.frozen (p := ⟨w.heap.size, o, none⟩) (by simp)
    have BB : Hid (Below w.heap.size w w1) := ((Below.refl _ _).alloc (Nat.le_refl _) _).trans (B1.mono (by simp))
    have hz : w.heap.size < w1.heap.size := by have := B1.size; simp at this; omega
    clear B1 hr
    go_wp2
    refine bodyPost_ret (v := .tuple #[.agg #[.int .i64 0, .int .i64 0, .int .i64 0, .int .i64 0, .int .i64 0, .bool false, .int .i64 0, .int .i64 0], .bool false]) (by simp [results, Try.results29, go_sem, hc]) rfl ⟨rfl, ?_⟩
    exact set8_below BB.out w.heap.size 0 noAcc (Nat.le_refl _)

set_option maxHeartbeats 1000000 in
theorem implFind_yes (a : Option Addr) (n c : Nat) (F : Nat → Acc) (id : Int) (i : Nat) (w : World) (h : Fo w a n F) (hR : Right F n) (hp : place F n id = some i) :
    Calls Try.prog 29 #[.slice a n c, .int .i64 id] w fun e w' => e = .returned (.tuple #[.agg #[.int .i64 (F i).id, .int .i64 (F i).up, .int .i64 (F i).limit, .int .i64 (F i).rate, .int .i64 (F i).target, .bool (F i).frozen, .int .i64 (F i).balance, .int .i64 (F i).carry], .bool true]) ∧ Below w.heap.size w w' := by
  have H : Hid (Fo w a n F) := h
  have hin := (place_some hp).1
  have hn := h.1
  clear h
  go_enter Try.func29, Try.ntmps29
  go_wp2_with fail
  refine (implOk_yes a n c F _ (H.out.alloc _) hR).mono ?_
  rintro e w1 ⟨rfl, B1⟩
  go_wp2_with fail
  refine (implAt a n c F id _ ((H.out.alloc _).below B1)).mono ?_
  rintro e w2 ⟨rfl, B2⟩
  rw [placeI_some hp]
  have B12 := B1.trans (B2.mono B1.size)
  have hc : ∀ o, w2.cell? ⟨w.heap.size, o, none⟩ = (w.alloc (.cells #[.int .i64 0, .int .i64 0, .int .i64 0, .int .i64 0, .int .i64 0, .bool false, .int .i64 0, .int .i64 0] 33)).cell? ⟨w.heap.size, o, none⟩ := fun o => B12.cell (p := ⟨w.heap.size, o, none⟩) (by simp)
  have hf : ∀ o, w2.frozen? ⟨w.heap.size, o, none⟩ = (w.alloc (.cells #[.int .i64 0, .int .i64 0, .int .i64 0, .int .i64 0, .int .i64 0, .bool false, .int .i64 0, .int .i64 0] 33)).frozen? ⟨w.heap.size, o, none⟩ := fun o => B12.frozen (p := ⟨w.heap.size, o, none⟩) (by simp)
  have BB : Hid (Below w.heap.size w w2) := ((Below.refl _ _).alloc (Nat.le_refl _) _).trans (B12.mono (by simp))
  have hz : w.heap.size < w2.heap.size := by have := B12.size; simp at this; omega
  obtain ⟨b, o, rfl, hb0, hA0⟩ := H.out.acc hin
  have hA := hA0.of_cells (w' := w2) (fun q => BB.out.cell (p := ⟨b, q, none⟩) hb0)
  obtain ⟨c0, c1, c2, c3, c4, c5, c6, c7⟩ := hA
  have hne : b ≠ w.heap.size := by omega
  clear hA0
  clear B1 B2 B12 hR hp
  go_wp2
  refine bodyPost_ret (v := .tuple #[.agg #[.int .i64 (F i).id, .int .i64 (F i).up, .int .i64 (F i).limit, .int .i64 (F i).rate, .int .i64 (F i).target, .bool (F i).frozen, .int .i64 (F i).balance, .int .i64 (F i).carry], .bool true]) (by simp [results, Try.results29, go_sem, hc]) rfl ⟨rfl, ?_⟩
  exact set8_below BB.out w.heap.size 0 (F i) (Nat.le_refl _)

end Go.Proofs.Ytleblllofibfkaa
