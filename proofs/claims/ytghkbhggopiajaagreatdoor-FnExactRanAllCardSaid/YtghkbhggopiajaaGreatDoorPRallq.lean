/- FnExactRanAll. -/
import Derived.Test.YtghkbhggopiajaaGreatDoorLawRlbq
import Derived.Test.YtghkbhggopiajaaGreatDoorPRlcq
namespace Go.Proofs.YtghkbhggopiajaaGreatDoor
open Go.ChangeShapes Go.WideShapes Go.ChangeAt Go.RowKit
set_option linter.unusedVariables false
theorem fnExactRanAll_row:Rows.fnExactRanAllRow.holds Tryz.pinned (OpenSpec.ofChange Rows.fnExactRanAllSpec):=
 OpenClaim.holds_of_wide 10 Tryz.f10 rfl rfl rfl rfl rfl rfl rfl ⟨rfl,rfl,rfl,rfl,rfl⟩ rfl rfl rfl rfl rfl (by kernel_rfl) Tryz.func10 fnExactRanAll_closed
  (of_decide_eq_true (by kernel_rfl)) (by unfold Func.isWrapper;first|(rw[if_pos (by decide +kernel)];kernel_rfl)|(rw[if_neg (by decide +kernel)];exact ⟨rfl,rfl⟩))
  (fun os started H enc _=>fnExactRanAll_lifted os started H enc)
theorem fnExactRanAll_card:Rows.FnExactRanAllCardSaid:=
 Claim7.holds_tied_plain_at .later [] [.handle, .sentinel, .sentinel, .sentinel, .sentinel, .sentinel, .sentinel, .sentinel] true (true, "163fa5250f53aa59fba3c148979fa9c187c0df7dcda75f9c707cb89eefab92af") true
  fnExactRanAll_row (fun _ h=>by cases h) (by kernel_rfl) (fun _ h=>by cases h) fnExactRanAll_row_tie rfl ⟨rfl,rfl⟩ (by kernel_rfl) rfl
  (fun f fn hf hfn=>by
   obtain rfl : f = 10 := Option.some.inj ((show Tryz.prog.funcNamed "loop.example/g00362/laws.FnExactRanAll" = some 10 by kernel_rfl).symm.trans hf) |>.symm
   obtain rfl:fn=Tryz.f10:=(Option.some.inj (Tryz.func10.symm.trans hfn)).symm
   exact ⟨by kernel_rfl,fun j t ht=>by
    rw[Tryz.params10] at ht
    have hm:t ∈ [69,80]:=by simpa using Array.mem_of_getElem? ht
    have hall:([69,80].all fun u=> !Tryz.prog.wantsStandIn u)=true:=by kernel_rfl
    exact (show Tryz.prog.wantsStandIn t=false by simpa using List.all_eq_true.1 hall t hm)⟩)
  (by kernel_rfl)
#print axioms fnExactRanAll_card
end Go.Proofs.YtghkbhggopiajaaGreatDoor
