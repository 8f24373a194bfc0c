/- What the frames of the exact laws share. -/
import Derived.Test.YtghkbhggopiajaaGreatDoorCards
import Derived.Test.YtghkbhggopiajaaGreatDoorTie
import Derived.Test.YtghkbhggopiajaaGreatDoorGeq
import Derived.ProofKit
import Derived.OpenShut
import Derived.OpenVars
import Derived.LaidMore
import Derived.MakeChecks
import Derived.SevenTiedAt
namespace Go.Proofs.YtghkbhggopiajaaGreatDoor
open Go.ChangeShapes Go.WideShapes Go.ChangeAt Go.RowKit
set_option linter.unusedVariables false
theorem own:ownKnob Tryz.prog.godebug=none:=by kernel_rfl
theorem laidOut:laidOutB Tryz.prog=true:=by kernel_rfl
def vars7 : List String := ["loop.example/g00362/impl.errForm", "loop.example/g00362/impl.errFull", "loop.example/g00362/impl.errNone", "loop.example/g00362/impl.errThere", "loop.example/g00362/impl.errFrozen", "loop.example/g00362/impl.errShort", "loop.example/g00362/impl.errBusy"]
theorem rowed:varsRowed Tryz.prog vars7=true:=by kernel_rfl
theorem trodVars_len {H:Type} {enc:TypeId×Value->H} {W:World} {sp:Nat->Bool}:∀(names:List String) (gs:List (DataW H)) (q:List MemPlace),DataW.TrodVars enc Tryz.prog W sp names gs q->gs.length=names.length
 | [],[],_,_=>rfl
 | [],_::_,_,h=>by cases h
 | _::_,[],_,h=>by cases h
 | _::ns,_::gs,_,h=>by
  obtain ⟨_,_,_,_,_,q',_,_,_,_,h',_⟩:=h
  simp[trodVars_len ns gs q' h']
theorem list7 {A:Type} {l:List A} (h:l.length=7):∃a b c d e f g,l=[a,b,c,d,e,f,g]:=by
 match l,h with
 | [a,b,c,d,e,f,g],_=>exact ⟨a,b,c,d,e,f,g,rfl⟩
theorem door_met (os:Os) (args:Array Value):laidMetH Tryz.prog Rows.fnSweptRow.laid ((World.doorLaid Tryz.prog 4000 os).forCall (fun _ _=>0) ⟨#[],args,[]⟩).memory:=
 laidMetH_of_parts3 (fuel:=8) (laidMet_of_run' 8 (by kernel_rfl) (by kernel_rfl)) (by kernel_rfl) (by kernel_rfl)
end Go.Proofs.YtghkbhggopiajaaGreatDoor
