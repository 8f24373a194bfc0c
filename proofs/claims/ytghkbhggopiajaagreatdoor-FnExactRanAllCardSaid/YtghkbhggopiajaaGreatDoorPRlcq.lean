/- The closed facts of the row of FnExactRanAll. -/
import Derived.Test.YtghkbhggopiajaaGreatDoorFrameXq
namespace Go.Proofs.YtghkbhggopiajaaGreatDoor
open Go.ChangeShapes Go.WideShapes Go.ChangeAt Go.RowKit
theorem fnExactRanAll_inPlace:(Rows.fnExactRanAllRow.inPlace == Tryz.prog.inPlace 10)=true:=by kernel_rfl
theorem fnExactRanAll_unfollowed:(Rows.fnExactRanAllRow.unfollowed == Tryz.prog.unfollowed 10)=true:=by kernel_rfl
theorem fnExactRanAll_recurses:(Rows.fnExactRanAllRow.recurses == Tryz.prog.recurses 10)=true:=by kernel_rfl
theorem fnExactRanAll_varsNamed:(Rows.fnExactRanAllRow.named == Tryz.prog.varsNamed 10)=true:=by kernel_rfl
theorem fnExactRanAll_closed:joinedFacts Tryz.prog 10 Tryz.f10 Rows.fnExactRanAllSpec Rows.fnExactRanAllRow=true:=by
 unfold joinedFacts
 rw[fnExactRanAll_inPlace,fnExactRanAll_unfollowed,fnExactRanAll_recurses,fnExactRanAll_varsNamed]
 kernel_rfl
end Go.Proofs.YtghkbhggopiajaaGreatDoor
