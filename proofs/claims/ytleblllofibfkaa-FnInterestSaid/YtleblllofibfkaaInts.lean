/- Lists of numbers that the calls make: compared, marked and looked at. Conditions: they lie in memory, at most 1048576 of them. -/
import Derived.Test.YtleblllofibfkaaFind
namespace Go.Proofs.Ytleblllofibfkaa
open Go.RowKit
set_option maxRecDepth 8000

/-- Numbers in memory of a call's own from block B on; none of them may be nil. -/
def IL (w : World) (B : Nat) (v : Value) (l : List Int) : Prop := w.ownsRow B 2 1 v l.length (l.map (Value.int .i64))
theorem IL.nil (w : World) (B : Nat) : IL w B (.slice none 0 0) [] := World.ownsRow_nil w B 2 1
theorem IL.empty (w : World) (B : Nat) (hB : B ≤ w.heap.size) : IL (w.alloc (.cells #[] 2)) B (.slice (some ⟨w.heap.size, 0, none⟩) 0 0) [] := World.ownsRow_lit w #[] 0 hB (Nat.zero_le _) (by simp)
theorem IL.mono {w : World} {B B' : Nat} {v : Value} {l : List Int} (h : IL w B v l) (hB : B' ≤ B) : IL w B' v l := by
  refine ⟨h.1, ?_⟩
  rcases h.2 with h0 | ⟨g, cap, cur, hv, hg, r⟩
  · exact Or.inl h0
  · exact Or.inr ⟨g, cap, cur, hv, Nat.le_trans hB hg, r⟩
theorem IL.kept {w w' : World} {B : Nat} {v : Value} {l : List Int} (h : IL w B v l) (hb : Below w.heap.size w w') : IL w' B v l :=
  World.ownsRow.kept (row := none) h ⟨hb.os, hb.tape, hb.output, hb.size, fun k hk _ => hb.block k hk⟩ (by cases hv : v.ownBlock <;> simp)
/-- The shape of the slice: nil, or its block. -/
theorem IL.shape {w : World} {B : Nat} {v : Value} {l : List Int} (h : IL w B v l) :
    ∃ a cap, v = .slice a l.length cap ∧ (∀ g, v.ownBlock = some g → B ≤ g ∧ g < w.heap.size) ∧
      ∀ i, i < l.length → ∃ g, a = some ⟨g, 0, none⟩ ∧ v.ownBlock = some g ∧ B ≤ g ∧ g < w.heap.size ∧ w.cell? ⟨g, i, none⟩ = some (.int .i64 (l.getD i 0)) ∧ w.frozen? ⟨g, i, none⟩ = false := by
  have hlt := World.ownsRow.lt h
  rcases h.2 with ⟨hv, hn⟩ | ⟨g, cap, cur, hv, hg, r⟩
  · refine ⟨none, 0, by rw [hv, hn], fun g hg => hlt g hg, fun i hi => ?_⟩
    omega
  · refine ⟨some ⟨g, 0, none⟩, cap, hv, fun g hg => hlt g hg, fun i hi => ?_⟩
    have ho : v.ownBlock = some g := by rw [hv]; rfl
    have hs : w.ownsRow B 2 1 (.slice (some ⟨g, 0, none⟩) l.length cap) l.length (l.map (Value.int .i64)) := by rw [← hv]; exact h
    have hc := World.ownsRow.cellAt hs i (by omega)
    refine ⟨g, rfl, ho, hg, (hlt g ho).2, ?_, World.ownsRow.frozenAt hs i⟩
    rw [hc]
    simp [List.getD, List.getElem?_eq_getElem hi]

theorem grown_trans {a b c : World} {row : Option Nat} (h : a.grownBy b row) (k : b.grownBy c row) : a.grownBy c row :=
  ⟨k.os.trans h.os, k.tape.trans h.tape, k.output.trans h.output, Nat.le_trans h.size k.size, fun i hi hn => (k.block i (Nat.lt_of_lt_of_le hi h.size) hn).trans (h.block i hi hn)⟩
theorem grown_set (w : World) (R o : Nat) (u : Value) : w.grownBy (w.setCell ⟨R, o, none⟩ u) (some R) :=
  ⟨rfl, rfl, rfl, by simp [World.setCell], fun k _ hn => Below.heap_setCell _ _ _ _ (fun e => hn (by rw [e]))⟩
/-- Numbers that rise by one from k on. -/
def Marked (k : Int) (j : Nat) (L : List Int) : Prop := ∀ i, i < j → L.getD i 0 = k + i
theorem IL.stored {w : World} {B g cap : Nat} {l : List Int} (h : IL w B (.slice (some ⟨g, 0, none⟩) l.length cap) l) (j : Nat) (x : Int) :
    IL (w.setCell ⟨g, j, none⟩ (.int .i64 x)) B (.slice (some ⟨g, 0, none⟩) l.length cap) (l.set j x) ∧ w.grownBy (w.setCell ⟨g, j, none⟩ (.int .i64 x)) (some g) := by
  obtain ⟨h1, h2⟩ := World.ownsRow.stored h j (.int .i64 x)
  refine ⟨?_, h2⟩
  unfold IL
  rw [List.length_set, List.map_set]
  exact h1

/-- A row of cells of a call's own, whatever they hold. -/
def Cells (w : World) (R m : Nat) : Prop := (∀ o, o < m → (w.cell? ⟨R, o, none⟩).isSome = true) ∧ (∀ o, w.frozen? ⟨R, o, none⟩ = false) ∧ R < w.heap.size
theorem Cells.set {w : World} {R m : Nat} (h : Cells w R m) (o : Nat) (u : Value) : Cells (w.setCell ⟨R, o, none⟩ u) R m := by
  refine ⟨fun q hq => ?_, fun q => by rw [World.frozen?_setCell]; exact h.2.1 q, by simpa [World.setCell] using h.2.2⟩
  obtain ⟨v, hv⟩ := Option.isSome_iff_exists.1 (h.1 q hq)
  obtain ⟨v', hv'⟩ := cell?_setCell_some (p := ⟨R, o, none⟩) (x := u) hv
  rw [hv']; rfl

end Go.Proofs.Ytleblllofibfkaa
