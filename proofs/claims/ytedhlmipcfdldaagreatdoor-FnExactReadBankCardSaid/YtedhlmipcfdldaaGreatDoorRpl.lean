/- Places of numbers in memory, and the pointers to them. Conditions: the places are apart. -/
import Derived.Test.YtedhlmipcfdldaaGreatDoorRln
import Derived.Test.YtedhlmipcfdldaaGreatDoorBw
namespace Go.Proofs.YtedhlmipcfdldaaGreatDoor
open Go.RowKit Go.Shelf
set_option maxRecDepth 8000

/-- n places T with their pointers in block b, filled with pre; X: what lies beside them. -/
def QT (T : Nat → Nat × Nat) (n b : Nat) (X : World → Prop) (pre : List Int) (w : World) : Prop := b < w.heap.size ∧ (∀ i, i < n → w.cell? ⟨b, i, none⟩ = some (.pointer (some ⟨(T i).1, (T i).2, none⟩))) ∧ (∀ i, i < n → w.cell? ⟨(T i).1, (T i).2, none⟩ = some (.int .i64 (pre.getD i 0)) ∧ w.frozen? ⟨(T i).1, (T i).2, none⟩ = false ∧ (T i).1 < w.heap.size) ∧ X w
theorem getD_snoc (pre : List Int) (m : Int) (i : Nat) : (pre ++ [m]).getD i 0 = if i = pre.length then m else pre.getD i 0 := by
  simp only [List.getD]
  split
  · rename_i h
    rw [h]
    simp
  · rename_i h
    by_cases hl : i < pre.length
    · rw [List.getElem?_append_left hl]
    · rw [List.getElem?_append_right (by omega), List.getElem?_eq_none (by simp; omega), List.getElem?_eq_none (by omega)]
theorem plcQT {p lo b n : Nat} {T : Nat → Nat × Nat} {X : World → Prop} (hinj : ∀ i j, i < n → j < n → T i = T j → i = j) (hlo : ∀ i, i < n → lo ≤ (T i).1 ∧ (T i).1 ≠ b) (hp : p < lo) (hb : b ≠ p) (hX : ∀ w w', X w → Stp p w w' → X w') (hXs : ∀ w i (m : Int), i < n → X w → X (w.setCell ⟨(T i).1, (T i).2, none⟩ (.int .i64 m))) : Plc p lo (some ⟨b, 0, none⟩) n T (QT T n b X) := by
  refine ⟨fun pre w w' h hs => ⟨Nat.lt_of_lt_of_le h.1 hs.size, fun i hi => (hs.cell (p := ⟨b, i, none⟩) h.1 hb).trans (h.2.1 i hi), fun i hi => ?_, hX _ _ h.2.2.2 hs⟩, fun pre w h hl => ?_⟩
  · have h1 := hlo i hi
    obtain ⟨a1, a2, a3⟩ := h.2.2.1 i hi
    exact ⟨(hs.cell (p := ⟨(T i).1, (T i).2, none⟩) a3 (by show (T i).1 ≠ p; omega)).trans a1, (hs.frozen (p := ⟨(T i).1, (T i).2, none⟩) a3 (by show (T i).1 ≠ p; omega)).trans a2, Nat.lt_of_lt_of_le a3 hs.size⟩
  · obtain ⟨a1, a2, a3⟩ := h.2.2.1 _ hl
    refine ⟨b, _, rfl, h.2.1 _ hl, (hlo _ hl).1, a1, a2, fun m => ⟨by simpa [World.setCell] using h.1, fun i hi => ?_, fun i hi => ?_, hXs _ _ m hl h.2.2.2⟩⟩
    · exact (World.cell?_setCell_other _ _ _ _ (by intro e; exact (hlo _ hl).2 (congrArg Addr.block e))).trans (h.2.1 i hi)
    · obtain ⟨b1, b2, b3⟩ := h.2.2.1 i hi
      refine ⟨?_, by rw [World.frozen?_setCell]; exact b2, by simpa [World.setCell] using b3⟩
      rw [getD_snoc]
      by_cases e : i = pre.length
      · rw [if_pos e]
        subst e
        exact World.cell?_setCell_same _ _ _ (by rw [a1])
      · rw [if_neg e]
        refine (World.cell?_setCell_other _ _ _ _ (by
          intro e'
          refine e (hinj i _ hi hl ?_)
          have e1 := congrArg Addr.block e'
          have e2 := congrArg Addr.off e'
          simp only at e1 e2
          exact (Prod.ext e1 e2).symm)).trans b1
/-- What a function that hands pointers back comes to. -/
def PtsOut (w : World) (L : List (Nat × Nat)) (e : Ending) (w' : World) : Prop := ∃ b c, e = .returned (.slice (some ⟨b, 0, none⟩) L.length c) ∧ w.heap.size ≤ b ∧ b < w'.heap.size ∧ (∀ i, i < L.length → w'.cell? ⟨b, i, none⟩ = some (.pointer (some ⟨(L.getD i (0, 0)).1, (L.getD i (0, 0)).2, none⟩))) ∧ Below w.heap.size w w'
theorem PtsOut.lit (w : World) (L : List (Nat × Nat)) : PtsOut w L (.returned (.slice (some ⟨w.heap.size, 0, none⟩) L.length L.length)) ((w.alloc (.cells (L.map fun q => Value.pointer (some ⟨q.1, q.2, none⟩)).toArray 74)).drew) := by
  refine ⟨_, _, rfl, Nat.le_refl _, by show _ < (w.alloc _).heap.size; simp, fun i hi => ?_, ((Below.refl _ _).alloc (Nat.le_refl _) _).drew⟩
  show (w.alloc _).cell? _ = _
  rw [World.cell?_alloc_mark]
  simp [hi, List.getD]
set_option maxHeartbeats 2000000 in
theorem ordPts (R : Nat) (w : World) : Calls Tryz.prog 45 #[.pointer (some ⟨R, 0, none⟩)] w fun e w' => PtsOut w [(R, 0), (R, 1), (R, 2), (R, 3), (R, 4), (R, 5), (R, 6)] e w' := by
  have FI : Hid (PtsOut w [(R, 0), (R, 1), (R, 2), (R, 3), (R, 4), (R, 5), (R, 6)] (.returned (.slice (some ⟨w.heap.size, 0, none⟩) 7 7)) ((w.alloc (.cells #[.pointer (some ⟨R, 0, none⟩), .pointer (some ⟨R, 1, none⟩), .pointer (some ⟨R, 2, none⟩), .pointer (some ⟨R, 3, none⟩), .pointer (some ⟨R, 4, none⟩), .pointer (some ⟨R, 5, none⟩), .pointer (some ⟨R, 6, none⟩)] 74)).drew)) := PtsOut.lit w _
  go_enter Tryz.func45, Tryz.ntmps45
  go_wp2_with fail
  go_region
  all_goals go_wp2
  all_goals go_ret
  all_goals exact FI.out
set_option maxHeartbeats 2000000 in
theorem accPts (R Q : Nat) (w : World) : Calls Tryz.prog 43 #[.pointer (some ⟨R, 0, none⟩), .pointer (some ⟨Q, 0, none⟩)] w fun e w' => PtsOut w [(R, 0), (R, 1), (R, 2), (R, 3), (R, 4), (Q, 0), (R, 6), (R, 7)] e w' := by
  have FI : Hid (PtsOut w [(R, 0), (R, 1), (R, 2), (R, 3), (R, 4), (Q, 0), (R, 6), (R, 7)] (.returned (.slice (some ⟨w.heap.size, 0, none⟩) 8 8)) ((w.alloc (.cells #[.pointer (some ⟨R, 0, none⟩), .pointer (some ⟨R, 1, none⟩), .pointer (some ⟨R, 2, none⟩), .pointer (some ⟨R, 3, none⟩), .pointer (some ⟨R, 4, none⟩), .pointer (some ⟨Q, 0, none⟩), .pointer (some ⟨R, 6, none⟩), .pointer (some ⟨R, 7, none⟩)] 74)).drew)) := PtsOut.lit w _
  go_enter Tryz.func43, Tryz.ntmps43
  go_wp2_with fail
  go_region
  all_goals go_wp2
  all_goals go_ret
  all_goals exact FI.out
set_option maxHeartbeats 2000000 in
theorem bankPts (R : Nat) (w : World) : Calls Tryz.prog 26 #[.pointer (some ⟨R, 0, none⟩)] w fun e w' => PtsOut w [(R, 0), (R, 3), (R, 4), (R, 5), (R, 6)] e w' := by
  have FI : Hid (PtsOut w [(R, 0), (R, 3), (R, 4), (R, 5), (R, 6)] (.returned (.slice (some ⟨w.heap.size, 0, none⟩) 5 5)) ((w.alloc (.cells #[.pointer (some ⟨R, 0, none⟩), .pointer (some ⟨R, 3, none⟩), .pointer (some ⟨R, 4, none⟩), .pointer (some ⟨R, 5, none⟩), .pointer (some ⟨R, 6, none⟩)] 74)).drew)) := PtsOut.lit w _
  go_enter Tryz.func26, Tryz.ntmps26
  go_wp2_with fail
  go_region
  all_goals go_wp2
  all_goals go_ret
  all_goals exact FI.out
end Go.Proofs.YtedhlmipcfdldaaGreatDoor
