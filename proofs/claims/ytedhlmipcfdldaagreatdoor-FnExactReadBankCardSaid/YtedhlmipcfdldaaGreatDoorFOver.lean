/- A region that draws its order, whose operations only read and whose callees only read and make memory: one walk, in the order of the text, over the class of worlds that have grown. Of whatever program; no conditions. -/
import Derived.WalkKit
import Derived.WalkLawsBesides
import Derived.Below
import Derived.Deep.QuietTactic
import Derived.BigQuiet
namespace Go.Proofs.YtedhlmipcfdldaaGreatDoor
open Go.RowKit
set_option maxRecDepth 8000

/-- The world v, with all that was there in w as it was in w. -/
def over (w v : World) : World := { v with os := w.os, tape := w.tape, output := w.output, heap := w.heap ++ v.heap.extract w.heap.size v.heap.size }

theorem over_block (w v : World) (k : Nat) (hk : k < w.heap.size) : (over w v).heap[k]? = w.heap[k]? := by
  show (w.heap ++ v.heap.extract w.heap.size v.heap.size)[k]? = _
  rw [Array.getElem?_append_left hk]
theorem over_size (w v : World) : w.heap.size ≤ (over w v).heap.size := by
  show w.heap.size ≤ (w.heap ++ v.heap.extract w.heap.size v.heap.size).size
  simp
theorem below_over (w v : World) : Below w.heap.size w (over w v) := ⟨rfl, rfl, rfl, over_size w v, fun k hk => over_block w v k hk⟩
theorem over_of_below {w v : World} (h : Below w.heap.size w v) : v = over w v := by
  have hh : v.heap = w.heap ++ v.heap.extract w.heap.size v.heap.size := by
    apply Array.ext_getElem?
    intro i
    by_cases hi : i < w.heap.size
    · rw [Array.getElem?_append_left hi, h.block i hi]
    · rw [Array.getElem?_append_right (by omega), Array.getElem?_extract]
      have := h.size
      by_cases hv : i < v.heap.size
      · rw [if_pos (by omega)]; congr 1; omega
      · rw [if_neg (by omega)]; simp; omega
  obtain ⟨h1, h2, h3, h4, h5⟩ := h
  cases v
  simp only [over]
  congr
theorem over_drawn (w : World) : ({ w with drawn := w.drawn + 1 } : World) = over w { w with drawn := w.drawn + 1 } := over_of_below ⟨rfl, rfl, rfl, Nat.le_refl _, fun _ _ => rfl⟩

theorem wp_region_over {P : Program} {id : Nat} {Q : Exit → Act → World → Prop} {a : Act} {w : World} {l : List Oper} (hm : P.follows .mixedOrders = true) (hB : Region.lexB .any l.toArray = true)
    (h : wpQuiet P l.toArray (fun w' => ∃ v, w' = over w v) (fun a' => ∀ w', (∃ v, w' = over w v) → Q .normal a' w') l a) : (Code.region id l.toArray true).wp P Q a w :=
  wp_region_quiet (C := fun w' => ∃ v, w' = over w v) hm hB ⟨_, over_drawn w⟩ (by simpa using h)

/-- A callee that makes memory alone, met inside such a region. -/
theorem Calls.over_of {P : Program} {f : FuncId} {args : Array Value} {w v : World} {u : Value}
    (h : Calls P f args (over w v) fun e w' => e = .returned u ∧ Below (over w v).heap.size (over w v) w') : Calls P f args (over w v) fun e w'' => e = .returned u ∧ ∃ x, w'' = over w x :=
  h.mono fun _ w' ⟨he, hb⟩ => ⟨he, w', over_of_below ((below_over w v).trans (hb.mono (over_size w v)))⟩
end Go.Proofs.YtedhlmipcfdldaaGreatDoor
