/- What the frames of the drawn laws share. -/
import Derived.Test.YtghkbhggopiajaaGreatDoorCards
import Derived.Test.YtghkbhggopiajaaGreatDoorTie
import Derived.Test.YtghkbhggopiajaaGreatDoorDrawsr
import Derived.Test.YtghkbhggopiajaaGreatDoorGer
import Derived.OpenVars
import Derived.LaidMore
import Derived.MakeChecks
import Derived.SevenTiedAt
namespace Go.Proofs.YtghkbhggopiajaaGreatDoor
open Go.Proofs.Tryz renaming prog → Pg
open Go.ChangeShapes Go.WideShapes Go.ChangeAt Go.RowKit
set_option linter.unusedVariables false
theorem vS:ownKnob Pg.godebug=none:=by kernel_rfl
theorem pE:laidOutB Pg=true:=by kernel_rfl
def rq : List String := ["loop.example/g00362/impl.errForm", "loop.example/g00362/impl.errFull", "loop.example/g00362/impl.errNone", "loop.example/g00362/impl.errThere", "loop.example/g00362/impl.errFrozen", "loop.example/g00362/impl.errShort", "loop.example/g00362/impl.errBusy"]
theorem tR:varsRowed Pg rq=true:=by kernel_rfl
theorem gP {H:Type} {enc:TypeId×Value->H} {W:World} {sp:Nat->Bool}:∀(names:List String) (gs:List (DataW H)) (q:List MemPlace),DataW.TrodVars enc Pg W sp names gs q->gs.length=names.length
 | [],[],_,_=>rfl
 | [],_::_,_,h=>by cases h
 | _::_,[],_,h=>by cases h
 | _::ns,_::gs,_,h=>by
  obtain ⟨_,_,_,_,_,q',_,_,_,_,h',_⟩:=h
  simp[gP ns gs q' h']
theorem tS {A:Type} {l:List A} (h:l.length=7):∃a b c d e f g,l=[a,b,c,d,e,f,g]:=by
 match l,h with
 | [a,b,c,d,e,f,g],_=>exact ⟨a,b,c,d,e,f,g,rfl⟩
theorem so {H:Type} {enc:TypeId×Value->H} {W:World} {a0:Option Addr} {len0 cap0:Nat} {d:DataW H} {p:List MemPlace} (h:DataW.Trod enc Pg W 0 (fun _=>true) true 22 (.slice a0 len0 cap0) d p):Code W a0 len0:=by
 obtain ⟨fuel,hf⟩:=h
 rcases open_ints Tryz.underlying22 Tryz.underlying5 (by kernel_rfl) hf with ⟨hcs,_⟩|⟨x,l,c,zs,hcs,_,hl,hm,hz,_,hcell,hwz⟩
 ·simp[Value.cells] at hcs
  obtain ⟨rfl,rfl,rfl⟩:=hcs
  exact ⟨by omega,fun i hi=>absurd hi (Nat.not_lt_zero _)⟩
 ·simp[Value.cells] at hcs
  obtain ⟨rfl,rfl,rfl⟩:=hcs
  unfold maxLen at hm
  refine ⟨by omega,fun i hi=>?_⟩
  have hz':zs.length=cap0:=by simpa using hz
  obtain ⟨b,off,spot⟩:=x
  have hc:=hcell i (by omega)
  have hspot:spot=none:=by simpa [Addr.add] using World.cell?_spot (hcell 0 (by omega))
  subst hspot
  have hadd:(⟨b,off,none⟩:Addr).add i=⟨b,off+i,none⟩:=by
   by_cases h0:i=0
   ·subst h0;simp[Addr.add]
   ·simp[Addr.add,h0]
  have hc0:W.cell? ⟨b,off+i,none⟩=some (.int .u8 (zs.getD i 0)):=by rw[←hadd];exact hc
  have hb:b<W.heap.size:=World.block_lt_of_cell? W _ hc0
  have hmem:zs.getD i 0 ∈ zs:=by
   have e:zs.getD i 0=zs[i]'(by omega):=by simp[List.getD,List.getElem?_eq_getElem (show i<zs.length by omega)]
   rw[e]
   exact List.getElem_mem _
  have hbd:=bounds_u8 (hwz _ hmem)
  exact ⟨b,off,zs.getD i 0,rfl,hb,hc0,hbd.1,hbd.2⟩
theorem rr (os:Os) (args:Array Value):laidMetH Pg Rows.fnSweptRow.laid ((World.doorLaid Pg 4000 os).forCall (fun _ _=>0) ⟨#[],args,[]⟩).memory:=
 laidMetH_of_parts3 (fuel:=8) (laidMet_of_run' 8 (by kernel_rfl) (by kernel_rfl)) (by kernel_rfl) (by kernel_rfl)
end Go.Proofs.YtghkbhggopiajaaGreatDoor
