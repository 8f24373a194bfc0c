/- Small things that the texts of this seat share. No conditions. -/
import Derived.Test.YtedhlmipcfdldaaGreatDoorCut
import Derived.Test.YtedhlmipcfdldaaGreatDoorRow
namespace Go.Proofs.YtedhlmipcfdldaaGreatDoor
open Go.RowKit
set_option maxRecDepth 8000

theorem neList {x y : ByteArray} (h : x ≠ y) : (x.toList == y.toList) = false := by
  rw [beq_eq_false_iff_ne, Lib.toList_data, Lib.toList_data]
  exact fun e => h (ext_ofD e)
theorem eqList (x : ByteArray) : (x.toList == x.toList) = true := by simp
/-- A block that holds a list of values. -/
def Vals (w : World) (R : Nat) (vs : List Value) : Prop := (∀ j v, vs[j]? = some v → w.cell? ⟨R, j, none⟩ = some v) ∧ (∀ o, w.frozen? ⟨R, o, none⟩ = false) ∧ R < w.heap.size
theorem Vals.kept {n₀ : Nat} {w w' : World} {R : Nat} {vs : List Value} (h : Vals w R vs) (hb : Below n₀ w w') (hR : R < n₀) : Vals w' R vs :=
  ⟨fun j v hj => (hb.cell (p := ⟨R, j, none⟩) hR).trans (h.1 j v hj), fun o => (hb.frozen (p := ⟨R, o, none⟩) hR).trans (h.2.1 o), Nat.lt_of_lt_of_le h.2.2 hb.size⟩
theorem Vals.far {w : World} {R : Nat} {vs : List Value} (h : Vals w R vs) {Q : Nat} (hne : Q ≠ R) (q : Nat) (u : Value) : Vals (w.setCell ⟨Q, q, none⟩ u) R vs :=
  ⟨fun j v hj => (World.cell?_setCell_other _ _ _ _ (by intro e; exact hne (congrArg Addr.block e))).trans (h.1 j v hj), fun o => by rw [World.frozen?_setCell]; exact h.2.1 o, by simpa [World.setCell] using h.2.2⟩
theorem Vals.set {w : World} {R : Nat} {vs : List Value} (h : Vals w R vs) (q : Nat) (u : Value) : Vals (w.setCell ⟨R, q, none⟩ u) R (vs.set q u) := by
  refine ⟨fun j v hj => ?_, fun o => by rw [World.frozen?_setCell]; exact h.2.1 o, by simpa [World.setCell] using h.2.2⟩
  rw [List.getElem?_set] at hj
  by_cases e : q = j
  · subst e
    rw [if_pos rfl] at hj
    split at hj
    · rename_i hl
      have hc := h.1 q _ (List.getElem?_eq_getElem hl)
      obtain rfl : u = v := by simpa using hj
      exact World.cell?_setCell_same _ _ _ (by rw [hc])
    · cases hj
  · rw [if_neg e] at hj
    exact (World.cell?_setCell_other _ _ _ _ (by intro e'; exact e (congrArg Addr.off e'))).trans (h.1 j v hj)
theorem Vals.new (w : World) (vs : List Value) (T : Nat) : Vals (w.alloc (.cells vs.toArray T)) w.heap.size vs :=
  ⟨fun j v hj => by simp [go_sem, hj], fun o => by simp [go_sem], by simp⟩


theorem IntC.lit (w : World) (ns : List Int) : IntC (w.alloc (.cells (ns.map (Value.int .i64)).toArray 2)) (some ⟨w.heap.size, 0, none⟩) ns := by
  refine Or.inr ⟨w.heap.size, 0, rfl, by simp, fun i hi => ?_⟩
  rw [World.cell?_alloc_mark]
  simp [hi]
theorem IntC.below {w w' : World} {a : Option Addr} {ns : List Int} (h : IntC w a ns) (hb : Below w.heap.size w w') : IntC w' a ns := by
  rcases h with e | ⟨b, o, h1, h2, h3⟩
  · exact Or.inl e
  · exact Or.inr ⟨b, o, h1, Nat.lt_of_lt_of_le h2 hb.size, fun i hi => (hb.cell (p := ⟨b, o + i, none⟩) h2).trans (h3 i hi)⟩
/-- Pointers to cells of one block, laid in a row. -/
def PtrP (w : World) (a : Option Addr) (R : Nat) (ps : List Nat) : Prop := ps = [] ∨ ∃ b, a = some ⟨b, 0, none⟩ ∧ b < w.heap.size ∧ R < b ∧ ∀ i (hi : i < ps.length), w.cell? ⟨b, i, none⟩ = some (.pointer (some ⟨R, ps[i], none⟩))
theorem PtrP.lit {w : World} {R : Nat} (hR : R < w.heap.size) (ps : List Nat) : PtrP (w.alloc (.cells (ps.map fun p => Value.pointer (some ⟨R, p, none⟩)).toArray 73)) (some ⟨w.heap.size, 0, none⟩) R ps := by
  refine Or.inr ⟨w.heap.size, rfl, by simp, hR, fun i hi => ?_⟩
  rw [World.cell?_alloc_mark]
  simp [hi]
end Go.Proofs.YtedhlmipcfdldaaGreatDoor
