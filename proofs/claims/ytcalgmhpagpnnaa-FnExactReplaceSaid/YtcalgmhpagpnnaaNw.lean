/- A file of one's own at the end of a list of one's own. No conditions. -/
import Derived.Test.YtcalgmhpagpnnaaFr
import Derived.Test.YtcalgmhpagpnnaaLs
import Derived.OwnWalk
namespace Go.Proofs.Ytcalgmhpagpnnaa
open Go.RowKit
set_option maxRecDepth 8000

theorem flNews (w : World) (f : Fl) : ∀ j u, (FlC f)[j]? = some u → (w.alloc (.cells #[.string f.name, .string f.data] 75)).cell? (Addr.add ⟨w.heap.size, 0, none⟩ j) = some u := by
  intro j u h
  have hj : j < 2 := (List.getElem?_eq_some_iff.1 h).1
  have e : (w.alloc (.cells #[.string f.name, .string f.data] 75)).heap[w.heap.size]? = some (.cells #[.string f.name, .string f.data] 75) := (MapKept.heap_alloc w _).1
  have ea : Addr.add ⟨w.heap.size, 0, none⟩ j = ⟨w.heap.size, j, none⟩ := by
    unfold Addr.add
    by_cases h0 : j = 0 <;> simp [h0]
  rw [ea, ← h]
  unfold World.cell?
  simp only [e]
  simp [FlC]
theorem flOne (f : Fl) : ∀ u ∈ FlC f, u.oneCell' = true := by
  intro u hu
  simp [FlC] at hu
  rcases hu with rfl | rfl <;> rfl
theorem FlL.snoc {w2 : World} {B : Nat} {v : Value} {M : List Fl} {f : Fl} (h : w2.ownsRow B 75 2 v (M.length + 1) (M.flatMap FlC ++ FlC f)) : FlL w2 B v (M ++ [f]) := by
  unfold FlL
  rw [List.flatMap_append, List.length_append]
  simpa using h
theorem FlL.lt {w : World} {B : Nat} {v : Value} {M : List Fl} (h : FlL w B v M) : ∀ g, v.ownBlock = some g → B ≤ g := fun g hg => (World.ownsRow.lt h g hg).1
end Go.Proofs.Ytcalgmhpagpnnaa
