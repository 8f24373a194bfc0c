/- The closed facts of the row of FnExactRan, the great ones each by itself. No conditions. -/
import Derived.Test.YtghkbhggopiajaaGreatDoorFrameXq
namespace Go.Proofs.YtghkbhggopiajaaGreatDoor
open Go.ChangeShapes Go.WideShapes Go.ChangeAt Go.RowKit
theorem fnExactRan_inPlace : (Rows.fnExactRanRow.inPlace == Tryz.prog.inPlace 9) = true := by kernel_rfl
theorem fnExactRan_unfollowed : (Rows.fnExactRanRow.unfollowed == Tryz.prog.unfollowed 9) = true := by kernel_rfl
theorem fnExactRan_recurses : (Rows.fnExactRanRow.recurses == Tryz.prog.recurses 9) = true := by kernel_rfl
theorem fnExactRan_varsNamed : (Rows.fnExactRanRow.named == Tryz.prog.varsNamed 9) = true := by kernel_rfl
theorem fnExactRan_closed : joinedFacts Tryz.prog 9 Tryz.f9 Rows.fnExactRanSpec Rows.fnExactRanRow = true := by
 unfold joinedFacts
 rw [fnExactRan_inPlace, fnExactRan_unfollowed, fnExactRan_recurses, fnExactRan_varsNamed]
 kernel_rfl
end Go.Proofs.YtghkbhggopiajaaGreatDoor
