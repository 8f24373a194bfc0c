/-
  FnExactRan: the law returns true, whatever the bank and the op; the input reads as it did.
  The frame is the guide's way; the walk is ours.
-/
import Derived.Test.YtghkbhggopiajaaGreatDoorPRaq
import Derived.Test.YtghkbhggopiajaaGreatDoorPRcq
namespace Go.Proofs.YtghkbhggopiajaaGreatDoor
open Go.ChangeShapes Go.WideShapes Go.ChangeAt Go.RowKit
set_option linter.unusedVariables false
theorem fnExactRan_row : Rows.fnExactRanRow.holds Tryz.pinned (OpenSpec.ofChange Rows.fnExactRanSpec) :=
 OpenClaim.holds_of_wide 9 Tryz.f9 rfl rfl rfl rfl rfl rfl rfl ⟨rfl, rfl, rfl, rfl, rfl⟩ rfl rfl rfl rfl rfl (by kernel_rfl) Tryz.func9 fnExactRan_closed
  (of_decide_eq_true (by kernel_rfl)) (by unfold Func.isWrapper; first | (rw [if_pos (by decide +kernel)]; kernel_rfl) | (rw [if_neg (by decide +kernel)]; exact ⟨rfl, rfl⟩))
  (fun os started H enc _ => fnExactRan_lifted os started H enc)
theorem fnExactRan_card : Rows.FnExactRanCardSaid :=
 Claim7.holds_tied_plain_at .later [] [.handle, .sentinel, .sentinel, .sentinel, .sentinel, .sentinel, .sentinel, .sentinel] true (true, "163fa5250f53aa59fba3c148979fa9c187c0df7dcda75f9c707cb89eefab92af") true
  fnExactRan_row (fun _ h => by cases h) (by kernel_rfl) (fun _ h => by cases h) fnExactRan_row_tie rfl ⟨rfl, rfl⟩ (by kernel_rfl) rfl
  (fun f fn hf hfn => by
   obtain rfl : f = 9 := Option.some.inj ((show Tryz.prog.funcNamed "loop.example/g00362/laws.FnExactRan" = some 9 by kernel_rfl).symm.trans hf) |>.symm
   obtain rfl : fn = Tryz.f9 := (Option.some.inj (Tryz.func9.symm.trans hfn)).symm
   exact ⟨by kernel_rfl, fun j t ht => by
    rw [Tryz.params9] at ht
    have hm : t ∈ [69, 77] := by simpa using Array.mem_of_getElem? ht
    have hall : ([69, 77].all fun u => !Tryz.prog.wantsStandIn u) = true := by kernel_rfl
    exact (show Tryz.prog.wantsStandIn t = false by simpa using List.all_eq_true.1 hall t hm)⟩)
  (by kernel_rfl)
#print axioms fnExactRan_card
end Go.Proofs.YtghkbhggopiajaaGreatDoor
