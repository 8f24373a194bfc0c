/- Contracts of the program's look for a root above an account. Conditions: the accounts lie in memory, at most 1048576 of them. -/
import Derived.Test.YtedhlmipcfdldaaGreatDoorFAt
namespace Go.Proofs.YtedhlmipcfdldaaGreatDoor
open Go.RowKit
set_option maxRecDepth 8000

/-- Eight stores, one behind the other. -/
def set8 (w : World) (R p : Nat) (a : Acc) : World :=
  (((((((w.setCell ⟨R, p, none⟩ (.int .i64 a.id)).setCell ⟨R, p + 1, none⟩ (.int .i64 a.up)).setCell ⟨R, p + 2, none⟩ (.int .i64 a.limit)).setCell ⟨R, p + 3, none⟩ (.int .i64 a.rate)).setCell ⟨R, p + 4, none⟩ (.int .i64 a.target)).setCell ⟨R, p + 5, none⟩ (.bool a.frozen)).setCell ⟨R, p + 6, none⟩ (.int .i64 a.balance)).setCell ⟨R, p + 7, none⟩ (.int .i64 a.carry)

theorem set8_out (w : World) (R p : Nat) (a : Acc) (x : Addr) (h : x.block ≠ R ∨ x.off < p ∨ p + 8 ≤ x.off) : (set8 w R p a).cell? x = w.cell? x := by
  have ne : ∀ j, j < 8 → (⟨R, p + j, none⟩ : Addr) ≠ x := by
    intro j hj e
    subst e
    simp at h
    omega
  have ne' : (⟨R, p, none⟩ : Addr) ≠ x := ne 0 (by omega)
  unfold set8
  rw [World.cell?_setCell_other _ _ _ _ (ne 7 (by omega)), World.cell?_setCell_other _ _ _ _ (ne 6 (by omega)), World.cell?_setCell_other _ _ _ _ (ne 5 (by omega)), World.cell?_setCell_other _ _ _ _ (ne 4 (by omega)),
    World.cell?_setCell_other _ _ _ _ (ne 3 (by omega)), World.cell?_setCell_other _ _ _ _ (ne 2 (by omega)), World.cell?_setCell_other _ _ _ _ (ne 1 (by omega)), World.cell?_setCell_other _ _ _ _ (ne' : (⟨R, p, none⟩ : Addr) ≠ x)]
theorem set8_frozen (w : World) (R p : Nat) (a : Acc) (x : Addr) : (set8 w R p a).frozen? x = w.frozen? x := by
  unfold set8; simp
theorem set8_size (w : World) (R p : Nat) (a : Acc) : (set8 w R p a).heap.size = w.heap.size := by
  unfold set8; simp [World.setCell]
theorem set8_at (w : World) (R p : Nat) (a : Acc) (h : ∀ j, j < 8 → (w.cell? ⟨R, p + j, none⟩).isSome = true) : AccAt (set8 w R p a) R p a := by
  have o : ∀ (v : World) (i j : Nat) (u : Value), i ≠ j → (v.setCell ⟨R, i, none⟩ u).cell? ⟨R, j, none⟩ = v.cell? ⟨R, j, none⟩ := fun v i j u hij => World.cell?_setCell_other _ _ _ _ (by intro e; have := congrArg Addr.off e; simp at this; omega)
  have h0 := h 0 (by omega)
  unfold set8 AccAt
  refine ⟨?_, ?_, ?_, ?_, ?_, ?_, ?_, ?_⟩
  · rw [o _ (p + 7) p _ (by omega), o _ (p + 6) p _ (by omega), o _ (p + 5) p _ (by omega), o _ (p + 4) p _ (by omega), o _ (p + 3) p _ (by omega), o _ (p + 2) p _ (by omega), o _ (p + 1) p _ (by omega)]
    exact World.cell?_setCell_same' _ _ _ h0
  · rw [o _ (p + 7) (p + 1) _ (by omega), o _ (p + 6) (p + 1) _ (by omega), o _ (p + 5) (p + 1) _ (by omega), o _ (p + 4) (p + 1) _ (by omega), o _ (p + 3) (p + 1) _ (by omega), o _ (p + 2) (p + 1) _ (by omega)]
    exact World.cell?_setCell_same' _ _ _ (by rw [o _ p (p + 1) _ (by omega)]; exact h 1 (by omega))
  · rw [o _ (p + 7) (p + 2) _ (by omega), o _ (p + 6) (p + 2) _ (by omega), o _ (p + 5) (p + 2) _ (by omega), o _ (p + 4) (p + 2) _ (by omega), o _ (p + 3) (p + 2) _ (by omega)]
    exact World.cell?_setCell_same' _ _ _ (by rw [o _ (p + 1) (p + 2) _ (by omega), o _ p (p + 2) _ (by omega)]; exact h 2 (by omega))
  · rw [o _ (p + 7) (p + 3) _ (by omega), o _ (p + 6) (p + 3) _ (by omega), o _ (p + 5) (p + 3) _ (by omega), o _ (p + 4) (p + 3) _ (by omega)]
    exact World.cell?_setCell_same' _ _ _ (by rw [o _ (p + 2) (p + 3) _ (by omega), o _ (p + 1) (p + 3) _ (by omega), o _ p (p + 3) _ (by omega)]; exact h 3 (by omega))
  · rw [o _ (p + 7) (p + 4) _ (by omega), o _ (p + 6) (p + 4) _ (by omega), o _ (p + 5) (p + 4) _ (by omega)]
    exact World.cell?_setCell_same' _ _ _ (by rw [o _ (p + 3) (p + 4) _ (by omega), o _ (p + 2) (p + 4) _ (by omega), o _ (p + 1) (p + 4) _ (by omega), o _ p (p + 4) _ (by omega)]; exact h 4 (by omega))
  · rw [o _ (p + 7) (p + 5) _ (by omega), o _ (p + 6) (p + 5) _ (by omega)]
    exact World.cell?_setCell_same' _ _ _ (by rw [o _ (p + 4) (p + 5) _ (by omega), o _ (p + 3) (p + 5) _ (by omega), o _ (p + 2) (p + 5) _ (by omega), o _ (p + 1) (p + 5) _ (by omega), o _ p (p + 5) _ (by omega)]; exact h 5 (by omega))
  · rw [o _ (p + 7) (p + 6) _ (by omega)]
    exact World.cell?_setCell_same' _ _ _ (by rw [o _ (p + 5) (p + 6) _ (by omega), o _ (p + 4) (p + 6) _ (by omega), o _ (p + 3) (p + 6) _ (by omega), o _ (p + 2) (p + 6) _ (by omega), o _ (p + 1) (p + 6) _ (by omega), o _ p (p + 6) _ (by omega)]; exact h 6 (by omega))
  · exact World.cell?_setCell_same' _ _ _ (by rw [o _ (p + 6) (p + 7) _ (by omega), o _ (p + 5) (p + 7) _ (by omega), o _ (p + 4) (p + 7) _ (by omega), o _ (p + 3) (p + 7) _ (by omega), o _ (p + 2) (p + 7) _ (by omega), o _ (p + 1) (p + 7) _ (by omega), o _ p (p + 7) _ (by omega)]; exact h 7 (by omega))
theorem set8_below {B : Nat} {v w : World} (hb : Below B v w) (R p : Nat) (a : Acc) (hR : B ≤ R) : Below B v (set8 w R p a) := by
  unfold set8
  exact (((((((hb.setCell (p := ⟨R, p, none⟩) hR _).setCell (p := ⟨R, p + 1, none⟩) hR _).setCell (p := ⟨R, p + 2, none⟩) hR _).setCell (p := ⟨R, p + 3, none⟩) hR _).setCell (p := ⟨R, p + 4, none⟩) hR _).setCell (p := ⟨R, p + 5, none⟩) hR _).setCell (p := ⟨R, p + 6, none⟩) hR _).setCell (p := ⟨R, p + 7, none⟩) hR _

/-- A box with an account in it, of a call's own. -/
def Box (w : World) (R : Nat) (a : Acc) : Prop := AccAt w R 0 a ∧ (∀ o, w.frozen? ⟨R, o, none⟩ = false) ∧ R < w.heap.size
theorem Box.below {w w' : World} {R : Nat} {a : Acc} (h : Box w R a) (hb : Below w.heap.size w w') : Box w' R a :=
  ⟨h.1.of_cells (fun q => hb.cell (p := ⟨R, q, none⟩) h.2.2), fun o => by rw [hb.frozen (p := ⟨R, o, none⟩) h.2.2]; exact h.2.1 o, Nat.lt_of_lt_of_le h.2.2 hb.size⟩
theorem Box.set {w : World} {R : Nat} {a : Acc} (h : Box w R a) (c : Acc) : Box (set8 w R 0 c) R c := by
  obtain ⟨⟨h0, h1, h2, h3, h4, h5, h6, h7⟩, hf, hz⟩ := h
  refine ⟨set8_at w R 0 c (fun j hj => ?_), fun o => by rw [set8_frozen]; exact hf o, by rw [set8_size]; exact hz⟩
  have : j = 0 ∨ j = 1 ∨ j = 2 ∨ j = 3 ∨ j = 4 ∨ j = 5 ∨ j = 6 ∨ j = 7 := by omega
  rcases this with e | e | e | e | e | e | e | e <;> subst e
  · rw [h0]; rfl
  · rw [h1]; rfl
  · rw [h2]; rfl
  · rw [h3]; rfl
  · rw [h4]; rfl
  · rw [h5]; rfl
  · rw [h6]; rfl
  · rw [h7]; rfl
theorem Box.new (w : World) (a : Acc) (t : TypeId) : Box (w.alloc (.cells #[.int .i64 a.id, .int .i64 a.up, .int .i64 a.limit, .int .i64 a.rate, .int .i64 a.target, .bool a.frozen, .int .i64 a.balance, .int .i64 a.carry] t)) w.heap.size a :=
  ⟨⟨by simp [go_sem], by simp [go_sem], by simp [go_sem], by simp [go_sem], by simp [go_sem], by simp [go_sem], by simp [go_sem], by simp [go_sem]⟩, fun o => by simp [go_sem], by simp⟩
end Go.Proofs.YtedhlmipcfdldaaGreatDoor
