/- The program's path from an account to its root. Conditions: the accounts lie in memory and are a right forest. -/
import Derived.Test.YtleblllofibfkaaKids
namespace Go.Proofs.Ytleblllofibfkaa
open Go.RowKit
set_option maxRecDepth 8000

/-- The eight cells of an account. -/
def accCells (a : Acc) : List Value := [.int .i64 a.id, .int .i64 a.up, .int .i64 a.limit, .int .i64 a.rate, .int .i64 a.target, .bool a.frozen, .int .i64 a.balance, .int .i64 a.carry]
/-- Accounts in memory of a call's own. -/
def AL (w : World) (B : Nat) (v : Value) (l : List Acc) : Prop := w.ownsRow B 33 8 v l.length (l.flatMap accCells)
theorem flat_len (l : List Acc) : (l.flatMap accCells).length = l.length * 8 := by
  induction l with
  | nil => rfl
  | cons a l ih => simp only [List.flatMap_cons, List.length_append, ih, List.length_cons, accCells, List.length_nil]; omega
theorem flat_get (l : List Acc) : ∀ (i j : Nat) (hi : i < l.length) (_ : j < 8), (l.flatMap accCells)[i * 8 + j]? = (accCells l[i])[j]? := by
  induction l with
  | nil => intro i j hi; simp at hi
  | cons a l ih =>
    intro i j hi hj
    rw [List.flatMap_cons]
    cases i with
    | zero =>
      rw [List.getElem?_append_left (by simp [accCells]; omega)]
      simp
    | succ i =>
      have hl : (accCells a).length = 8 := rfl
      rw [List.getElem?_append_right (by rw [hl]; omega), hl]
      have e : (i + 1) * 8 + j - 8 = i * 8 + j := by omega
      rw [e, ih i j (by simpa using hi) hj]
      simp
theorem AL.kept {w w' : World} {B : Nat} {v : Value} {l : List Acc} (h : AL w B v l) (hb : Below w.heap.size w w') : AL w' B v l :=
  World.ownsRow.kept (row := none) h ⟨hb.os, hb.tape, hb.output, hb.size, fun k hk _ => hb.block k hk⟩ (by cases hv : v.ownBlock <;> simp)
theorem AL.shape {w : World} {B : Nat} {v : Value} {l : List Acc} (h : AL w B v l) :
    ∃ a cap, v = .slice a l.length cap ∧ (∀ g, v.ownBlock = some g → B ≤ g ∧ g < w.heap.size) ∧
      ∀ i (hi : i < l.length), ∃ g, a = some ⟨g, 0, none⟩ ∧ B ≤ g ∧ g < w.heap.size ∧ AccAt w g (i * 8) l[i] := by
  have hlt := World.ownsRow.lt h
  rcases h.2 with ⟨hv, hn⟩ | ⟨g, cap, cur, hv, hg, r⟩
  · refine ⟨none, 0, by rw [hv, hn], fun g hg => hlt g hg, fun i hi => ?_⟩
    omega
  · refine ⟨some ⟨g, 0, none⟩, cap, hv, fun g hg => hlt g hg, fun i hi => ?_⟩
    have ho : v.ownBlock = some g := by rw [hv]; rfl
    have hs : w.ownsRow B 33 8 (.slice (some ⟨g, 0, none⟩) l.length cap) l.length (l.flatMap accCells) := by rw [← hv]; exact h
    have hc : ∀ j, j < 8 → w.cell? ⟨g, i * 8 + j, none⟩ = (accCells l[i])[j]? := fun j hj => by
      rw [World.ownsRow.cellAt hs (i * 8 + j) (by omega), flat_get l i j hi hj]
    exact ⟨g, rfl, hg, (hlt g ho).2, hc 0 (by omega), hc 1 (by omega), hc 2 (by omega), hc 3 (by omega), hc 4 (by omega), hc 5 (by omega), hc 6 (by omega), hc 7 (by omega)⟩

theorem Right.id_pos {F : Nat → Acc} {n : Nat} (h : Right F n) {j : Nat} (hj : j < n) : 1 ≤ (F j).id := (h.2.1 j hj).1.1
theorem chain_step {F : Nat → Acc} {n m : Nat} {cur : Int} {j : Nat} (h0 : cur ≠ 0) (hp : place F n cur = some j) (hs : (chain F n m cur).isSome = true) : ∃ m', m = m' + 1 ∧ chain F n m cur = (chain F n m' (F j).up).map (cur :: ·) := by
  cases m with
  | zero => simp [chain, h0] at hs
  | succ m' => exact ⟨m', rfl, by simp [chain, h0, hp]⟩

end Go.Proofs.Ytleblllofibfkaa
