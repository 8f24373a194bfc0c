/- Contracts of the program's length of a month (the table read), of the days ahead of a year, of the year of a day. Conditions: years from 1 to 20000, months from 1 to 12, the table of months as its text lays it. -/
import Derived.Test.YtenlgmjlblggmaaDoorOne
namespace Go.Proofs.YtenlgmjlblggmaaDoor
open Go.RowKit

/-- The table of the months' lengths, as its text lays it: month m in the cell m - 1. -/
def Tab (w : World) : Prop := 0 < w.heap.size ∧
  w.cell? ⟨0, 0, none⟩ = some (.int .i64 31) ∧ w.cell? ⟨0, 1, none⟩ = some (.int .i64 28) ∧ w.cell? ⟨0, 2, none⟩ = some (.int .i64 31) ∧
  w.cell? ⟨0, 3, none⟩ = some (.int .i64 30) ∧ w.cell? ⟨0, 4, none⟩ = some (.int .i64 31) ∧ w.cell? ⟨0, 5, none⟩ = some (.int .i64 30) ∧
  w.cell? ⟨0, 6, none⟩ = some (.int .i64 31) ∧ w.cell? ⟨0, 7, none⟩ = some (.int .i64 31) ∧ w.cell? ⟨0, 8, none⟩ = some (.int .i64 30) ∧
  w.cell? ⟨0, 9, none⟩ = some (.int .i64 31) ∧ w.cell? ⟨0, 10, none⟩ = some (.int .i64 30) ∧ w.cell? ⟨0, 11, none⟩ = some (.int .i64 31)

theorem Tab.below {B : Nat} {w w' : World} (h : Tab w) (hb : Below B w w') (hB : 0 < B) : Tab w' := by
  have c : ∀ i, w'.cell? ⟨0, i, none⟩ = w.cell? ⟨0, i, none⟩ := fun i => hb.cell (p := ⟨0, i, none⟩) hB
  unfold Tab at h ⊢
  simp only [c]
  exact ⟨Nat.lt_of_lt_of_le h.1 hb.size, h.2⟩
theorem Tab.alloc {w : World} (h : Tab w) (o : Obj) : Tab (w.alloc o) := h.below ((Below.refl w.heap.size w).alloc (Nat.le_refl _) o) h.1
theorem Tab.drew {w : World} (h : Tab w) : Tab w.drew := h
theorem Tab.drewN {w : World} (h : Tab w) (n : Nat) : Tab (w.drewN n) := h

theorem implDim (y m : Int) (w : World) (h0 : 0 ≤ y) (h1 : 1 ≤ m) (h2 : m ≤ 12) (ht : Tab w) :
    Calls Tryd.prog 28 #[.int .i64 y, .int .i64 m] w fun e w' => e = .returned (.int .i64 (Cal.dim y m)) ∧ w' = w := by
  obtain ⟨hz, c0, c1, c2, c3, c4, c5, c6, c7, c8, c9, c10, c11⟩ := ht
  by_cases hm : m = 2
  · subst hm
    cases hl : leapB y with
    | true =>
      have e : Cal.dim y 2 = 29 := by simp [Cal.dim, lp_of hl]
      rw [e]
      go_enter Tryd.func28, Tryd.ntmps28
      go_wp2_with (go_at_call 34; refine (implLeap _ _ (by omega)).mono ?_; rintro e w' ⟨rfl, rfl⟩)
      go_ret
      exact ⟨rfl, rfl⟩
    | false =>
      have e : Cal.dim y 2 = 28 := by simp [Cal.dim, lp_not hl]
      rw [e]
      go_enter Tryd.func28, Tryd.ntmps28
      go_wp2_with (go_at_call 34; refine (implLeap _ _ (by omega)).mono ?_; rintro e w' ⟨rfl, rfl⟩)
      go_ret
      exact ⟨rfl, rfl⟩
  · rcases cases12 m h1 h2 with h | h | h | h | h | h | h | h | h | h | h | h
    all_goals
      first
      | exact absurd h hm
      | (subst h
         clear h1 h2 hm
         rw [show Cal.dim y _ = _ from by simp [Cal.dim]; rfl]
         go_enter Tryd.func28, Tryd.ntmps28
         go_wp2
         go_ret
         exact ⟨rfl, rfl⟩)

end Go.Proofs.YtenlgmjlblggmaaDoor
