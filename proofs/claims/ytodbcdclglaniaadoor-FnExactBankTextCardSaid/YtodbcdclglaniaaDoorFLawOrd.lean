/- The law FnExactOrderOk returns true, whatever the order. No conditions. -/
import Derived.Test.YtodbcdclglaniaaDoorFOrd
namespace Go.Proofs.YtodbcdclglaniaaDoor
open Go.RowKit
set_option maxRecDepth 8000

theorem tells_same {P : Prop} {b c : Bool} (h1 : (b = true → P) ∧ (b = false → ¬ P)) (h2 : (c = true → P) ∧ (c = false → ¬ P)) : c = b := by
  cases b <;> cases c
  · rfl
  · exact absurd (h2.1 rfl) (h1.2 rfl)
  · exact absurd (h1.1 rfl) (h2.2 rfl)
  · rfl

end Go.Proofs.YtodbcdclglaniaaDoor
