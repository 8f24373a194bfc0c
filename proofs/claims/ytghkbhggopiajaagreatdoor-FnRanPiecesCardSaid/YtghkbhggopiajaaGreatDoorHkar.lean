/- The program's look-ups of an account. -/
import Derived.Test.YtghkbhggopiajaaGreatDoorErrsr
import Derived.Test.YtghkbhggopiajaaGreatDoorListsr
import Derived.Shelf.Abstract
namespace Go.Proofs.YtghkbhggopiajaaGreatDoor
open Value renaming int → Ii,slice → Sl
open IntKind renaming i64 → Jj
open Nat renaming le_refl → Nf
open Go.RowKit.Below renaming refl → Bf
open Go.Proofs.Tryz renaming prog → Pg
set_option maxHeartbeats 4000000
set_option maxRecDepth 8000
open Go.RowKit
theorem da {B:Nat} (W:World):Below B W W.drew:=⟨rfl,rfl,rfl,Nf _,fun _ _=>rfl⟩
theorem aQ (a:Option Addr) (n c:Nat) (F:Nat->aj) (id:Int) (j:Nat) (w:World) (h:Fo w a n F) (hj:ao F n id=some j):
  Calls Pg 233 #[Sl a n c,Ii Jj id] w fun e w'=>e=.returned (.tuple #[.agg #[Ii Jj (F j).id,Ii Jj (F j).up,Ii Jj (F j).limit,Ii Jj (F j).rate,Ii Jj (F j).target,.bool (F j).frozen,Ii Jj (F j).balance,Ii Jj (F j).carry],.nilIface])/\Below w.heap.size w w':=by
 have hjn:=(ar hj).1
 have hn:=h.1
 have HP:Hid (aK F n id=(j:Int)):=aE hj
 have H:=aa h
 have X0:Hid (bV (w.alloc (.cells #[Ii Jj 0,Ii Jj 0,Ii Jj 0,Ii Jj 0,Ii Jj 0,.bool false,Ii Jj 0,Ii Jj 0] 30)) w.heap.size ⟨0,0,0,0,0,false,0,0⟩):=bV.new w ⟨0,0,0,0,0,false,0,0⟩ 30
 clear h hj
 go_enter Tryz.func233,Tryz.ntmps233
 go_wp2_with fail
 refine (dp a n c F id _ (H.out.alloc _)).mono ?_
 rw[HP.out]
 rintro e w1 ⟨rfl,B1⟩
 have X1:=aa (X0.out.below B1)
 have B1':Hid (Below w.heap.size w w1):=((Bf _ _).alloc (Nf _) _).trans (B1.mono (by simp))
 clear B1 X0
 obtain ⟨b,q,rfl,hb,hA⟩:=(H.out.below B1'.out).acc hjn
 obtain ⟨c0,c1,c2,c3,c4,c5,c6,c7⟩:=hA
 obtain ⟨⟨r0,r1,r2,r3,r4,r5,r6,r7⟩,rf,_⟩:=X1.out
 simp only[Nat.zero_add] at r0 r1 r2 r3 r4 r5 r6 r7
 go_wp2
 refine bodyPost_ret (v:=.tuple #[.agg #[Ii Jj (F j).id,Ii Jj (F j).up,Ii Jj (F j).limit,Ii Jj (F j).rate,Ii Jj (F j).target,.bool (F j).frozen,Ii Jj (F j).balance,Ii Jj (F j).carry],.nilIface]) (by simp[results,Tryz.results233,go_sem,r0,r1,r2,r3,r4,r5,r6,r7]) rfl ⟨rfl,?_⟩
 have z:=bq B1'.out w.heap.size 0 (F j) (Nf _)
 unfold dT at z
 simpa using z
theorem cF (a:Option Addr) (n c:Nat) (F:Nat->aj) (id:Int) (p:Nat->Addr) (w:World) (h:Fo w a n F) (hj:ao F n id=none) (hG:GE w p):
  Calls Pg 233 #[Sl a n c,Ii Jj id] w fun e w'=>e=.returned (.tuple #[.agg #[Ii Jj 0,Ii Jj 0,Ii Jj 0,Ii Jj 0,Ii Jj 0,.bool false,Ii Jj 0,Ii Jj 0],.iface 185 (.agg #[Ii Jj id,.iface 271 (.pointer (some (p 2)))])])/\Below w.heap.size w w':=by
 have HP:Hid (aK F n id= -1):=bE hj
 have H:=aa h
 have X0:Hid (bV (w.alloc (.cells #[Ii Jj 0,Ii Jj 0,Ii Jj 0,Ii Jj 0,Ii Jj 0,.bool false,Ii Jj 0,Ii Jj 0] 30)) w.heap.size ⟨0,0,0,0,0,false,0,0⟩):=bV.new w ⟨0,0,0,0,0,false,0,0⟩ 30
 have G0:=aa hG
 clear h hj hG
 go_enter Tryz.func233,Tryz.ntmps233
 go_wp2_with fail
 refine (dp a n c F id _ (H.out.alloc _)).mono ?_
 rw[HP.out]
 rintro e w1 ⟨rfl,B1⟩
 have X1:=aa (X0.out.below B1)
 have B1':Hid (Below w.heap.size w w1):=((Bf _ _).alloc (Nf _) _).trans (B1.mono (by simp))
 clear B1 X0
 have gv:=(G0.out.below B1'.out).var 2 (by omega)
 have hz7:=G0.out.size
 have ne2:¬w.heap.size=2:=by omega
 have ne2':¬2=w.heap.size:=by omega
 obtain ⟨⟨r0,r1,r2,r3,r4,r5,r6,r7⟩,rf,_⟩:=X1.out
 simp only[Nat.zero_add] at r0 r1 r2 r3 r4 r5 r6 r7
 go_wp2
 go_region
 all_goals go_wp2
 all_goals refine bodyPost_ret (v:=.tuple #[.agg #[Ii Jj 0,Ii Jj 0,Ii Jj 0,Ii Jj 0,Ii Jj 0,.bool false,Ii Jj 0,Ii Jj 0],.iface 185 (.agg #[Ii Jj id,.iface 271 (.pointer (some (p 2)))])]) ?_ rfl ⟨rfl,?_⟩
 ·simp[results,Tryz.results233,go_sem,r0,r1,r2,r3,r4,r5,r6,r7]
 ·have z:=Below.trans (bq B1'.out w.heap.size 0 ⟨0,0,0,0,0,false,0,0⟩ (Nf _)) (da (dT w1 w.heap.size 0 ⟨0,0,0,0,0,false,0,0⟩))
  unfold dT at z
  simpa using z
theorem ey (a:Option Addr) (n c:Nat) (F:Nat->aj) (id:Int) (j:Nat) (w:World) (h:Fo w a n F) (hj:ao F n id=some j) (hf:(F j).frozen=false):
  Calls Pg 236 #[Sl a n c,Ii Jj id] w fun e w'=>e=.returned (.tuple #[.agg #[Ii Jj (F j).id,Ii Jj (F j).up,Ii Jj (F j).limit,Ii Jj (F j).rate,Ii Jj (F j).target,.bool false,Ii Jj (F j).balance,Ii Jj (F j).carry],.nilIface])/\Below w.heap.size w w':=by
 have H:=aa h
 have HJ:=aa hj
 have HF:=aa hf
 have X0:Hid (bV (w.alloc (.cells #[Ii Jj 0,Ii Jj 0,Ii Jj 0,Ii Jj 0,Ii Jj 0,.bool false,Ii Jj 0,Ii Jj 0] 30)) w.heap.size ⟨0,0,0,0,0,false,0,0⟩):=bV.new w ⟨0,0,0,0,0,false,0,0⟩ 30
 clear h hj hf
 go_enter Tryz.func236,Tryz.ntmps236
 go_wp2_with fail
 refine (aQ a n c F id j _ (H.out.alloc _) HJ.out).mono ?_
 rw[HF.out]
 rintro e w1 ⟨rfl,B1⟩
 have X1:=aa (X0.out.below B1)
 have B1':Hid (Below w.heap.size w w1):=((Bf _ _).alloc (Nf _) _).trans (B1.mono (by simp))
 clear B1 X0
 have X2:Hid (bV (w1.alloc (.cells #[Ii Jj (F j).id,Ii Jj (F j).up,Ii Jj (F j).limit,Ii Jj (F j).rate,Ii Jj (F j).target,.bool false,Ii Jj (F j).balance,Ii Jj (F j).carry] 30)) w.heap.size ⟨0,0,0,0,0,false,0,0⟩):=X1.out.below ((Bf _ _).alloc (Nf _) _)
 obtain ⟨⟨r0,r1,r2,r3,r4,r5,r6,r7⟩,rf,_⟩:=X2.out
 simp only[Nat.zero_add] at r0 r1 r2 r3 r4 r5 r6 r7
 go_wp2
 refine bodyPost_ret (v:=.tuple #[.agg #[Ii Jj (F j).id,Ii Jj (F j).up,Ii Jj (F j).limit,Ii Jj (F j).rate,Ii Jj (F j).target,.bool false,Ii Jj (F j).balance,Ii Jj (F j).carry],.nilIface]) (by simp[results,Tryz.results236,go_sem,r0,r1,r2,r3,r4,r5,r6,r7]) rfl ⟨rfl,?_⟩
 have z:=bq (B1'.out.alloc B1'.out.size (.cells #[Ii Jj (F j).id,Ii Jj (F j).up,Ii Jj (F j).limit,Ii Jj (F j).rate,Ii Jj (F j).target,.bool false,Ii Jj (F j).balance,Ii Jj (F j).carry] 30)) w.heap.size 0 {F j with frozen:=false} (Nf _)
 unfold dT at z
 simpa using z
theorem dW (a:Option Addr) (n c:Nat) (F:Nat->aj) (id:Int) (j:Nat) (p:Nat->Addr) (w:World) (h:Fo w a n F) (hj:ao F n id=some j) (hf:(F j).frozen=true) (hG:GE w p):
  Calls Pg 236 #[Sl a n c,Ii Jj id] w fun e w'=>e=.returned (.tuple #[.agg #[Ii Jj (F j).id,Ii Jj (F j).up,Ii Jj (F j).limit,Ii Jj (F j).rate,Ii Jj (F j).target,.bool true,Ii Jj (F j).balance,Ii Jj (F j).carry],.iface 185 (.agg #[Ii Jj id,.iface 271 (.pointer (some (p 4)))])])/\Below w.heap.size w w':=by
 have H:=aa h
 have HJ:=aa hj
 have HF:=aa hf
 have X0:Hid (bV (w.alloc (.cells #[Ii Jj 0,Ii Jj 0,Ii Jj 0,Ii Jj 0,Ii Jj 0,.bool false,Ii Jj 0,Ii Jj 0] 30)) w.heap.size ⟨0,0,0,0,0,false,0,0⟩):=bV.new w ⟨0,0,0,0,0,false,0,0⟩ 30
 have G0:=aa hG
 clear hG
 clear h hj hf
 go_enter Tryz.func236,Tryz.ntmps236
 go_wp2_with fail
 refine (aQ a n c F id j _ (H.out.alloc _) HJ.out).mono ?_
 rw[HF.out]
 rintro e w1 ⟨rfl,B1⟩
 have X1:=aa (X0.out.below B1)
 have B1':Hid (Below w.heap.size w w1):=((Bf _ _).alloc (Nf _) _).trans (B1.mono (by simp))
 clear B1 X0
 have X2:Hid (bV (w1.alloc (.cells #[Ii Jj (F j).id,Ii Jj (F j).up,Ii Jj (F j).limit,Ii Jj (F j).rate,Ii Jj (F j).target,.bool true,Ii Jj (F j).balance,Ii Jj (F j).carry] 30)) w.heap.size ⟨0,0,0,0,0,false,0,0⟩):=X1.out.below ((Bf _ _).alloc (Nf _) _)
 obtain ⟨⟨r0,r1,r2,r3,r4,r5,r6,r7⟩,rf,_⟩:=X2.out
 simp only[Nat.zero_add] at r0 r1 r2 r3 r4 r5 r6 r7
 have gv:=((G0.out.below B1'.out).below ((Bf _ _).alloc (Nf _) (.cells #[Ii Jj (F j).id,Ii Jj (F j).up,Ii Jj (F j).limit,Ii Jj (F j).rate,Ii Jj (F j).target,.bool true,Ii Jj (F j).balance,Ii Jj (F j).carry] 30))).var 4 (by omega)
 go_wp2
 refine bodyPost_ret (v:=.tuple #[.agg #[Ii Jj (F j).id,Ii Jj (F j).up,Ii Jj (F j).limit,Ii Jj (F j).rate,Ii Jj (F j).target,.bool true,Ii Jj (F j).balance,Ii Jj (F j).carry],.iface 185 (.agg #[Ii Jj id,.iface 271 (.pointer (some (p 4)))])]) (by simp[results,Tryz.results236,go_sem,r0,r1,r2,r3,r4,r5,r6,r7]) rfl ⟨rfl,?_⟩
 have z:=bq (B1'.out.alloc B1'.out.size (.cells #[Ii Jj (F j).id,Ii Jj (F j).up,Ii Jj (F j).limit,Ii Jj (F j).rate,Ii Jj (F j).target,.bool true,Ii Jj (F j).balance,Ii Jj (F j).carry] 30)) w.heap.size 0 {F j with frozen:=true} (Nf _)
 unfold dT at z
 simpa using z
theorem iY (a:Option Addr) (n c:Nat) (F:Nat->aj) (id:Int) (p:Nat->Addr) (w:World) (h:Fo w a n F) (hj:ao F n id=none) (hG:GE w p):
  Calls Pg 236 #[Sl a n c,Ii Jj id] w fun e w'=>e=.returned (.tuple #[.agg #[Ii Jj 0,Ii Jj 0,Ii Jj 0,Ii Jj 0,Ii Jj 0,.bool false,Ii Jj 0,Ii Jj 0],.iface 185 (.agg #[Ii Jj id,.iface 271 (.pointer (some (p 2)))])])/\Below w.heap.size w w':=by
 have H:=aa h
 have HJ:=aa hj
 have G0:=aa hG
 have X0:Hid (bV (w.alloc (.cells #[Ii Jj 0,Ii Jj 0,Ii Jj 0,Ii Jj 0,Ii Jj 0,.bool false,Ii Jj 0,Ii Jj 0] 30)) w.heap.size ⟨0,0,0,0,0,false,0,0⟩):=bV.new w ⟨0,0,0,0,0,false,0,0⟩ 30
 clear h hj hG
 go_enter Tryz.func236,Tryz.ntmps236
 go_wp2_with fail
 refine (cF a n c F id p _ (H.out.alloc _) HJ.out (G0.out.below ((Bf _ _).alloc (Nf _) _))).mono ?_
 rintro e w1 ⟨rfl,B1⟩
 have X1:=aa (X0.out.below B1)
 have B1':Hid (Below w.heap.size w w1):=((Bf _ _).alloc (Nf _) _).trans (B1.mono (by simp))
 clear B1 X0
 have X2:Hid (bV (w1.alloc (.cells #[Ii Jj 0,Ii Jj 0,Ii Jj 0,Ii Jj 0,Ii Jj 0,.bool false,Ii Jj 0,Ii Jj 0] 30)) w.heap.size ⟨0,0,0,0,0,false,0,0⟩):=X1.out.below ((Bf _ _).alloc (Nf _) _)
 obtain ⟨⟨r0,r1,r2,r3,r4,r5,r6,r7⟩,rf,_⟩:=X2.out
 simp only[Nat.zero_add] at r0 r1 r2 r3 r4 r5 r6 r7
 go_wp2
 refine bodyPost_ret (v:=.tuple #[.agg #[Ii Jj 0,Ii Jj 0,Ii Jj 0,Ii Jj 0,Ii Jj 0,.bool false,Ii Jj 0,Ii Jj 0],.iface 185 (.agg #[Ii Jj id,.iface 271 (.pointer (some (p 2)))])]) (by simp[results,Tryz.results236,go_sem,r0,r1,r2,r3,r4,r5,r6,r7]) rfl ⟨rfl,?_⟩
 have z:=bq (B1'.out.alloc B1'.out.size (.cells #[Ii Jj 0,Ii Jj 0,Ii Jj 0,Ii Jj 0,Ii Jj 0,.bool false,Ii Jj 0,Ii Jj 0] 30)) w.heap.size 0 ⟨0,0,0,0,0,false,0,0⟩ (Nf _)
 unfold dT at z
 simpa using z
open Go.RowKit
def ej (pr:aj->Bool) (P:List aj):Int:=match P.findIdx? pr with|some i=>i|none=> -1
theorem kL {pr:aj->Bool} {P:List aj} {k:Nat} (hk:k<P.length) (hp:pr (FL P k)=true) (hno:∀j,j<k->pr (FL P j)=false):ej pr P=(k:Int):=by
 have:P.findIdx? pr=some k:=by
  rw[List.findIdx?_eq_some_iff_getElem]
  refine ⟨hk,by rw[←dC hk];exact hp,fun j hj=>?_⟩
  rw[←dC (show j<P.length by omega),hno j hj]
  simp
 simp[ej,this]
theorem jC {pr:aj->Bool} {P:List aj} (hno:∀j,j<P.length->pr (FL P j)=false):ej pr P= -1:=by
 have:P.findIdx? pr=none:=by
  rw[List.findIdx?_eq_none_iff]
  intro x hx
  obtain ⟨j,hj,rfl⟩:=List.getElem_of_mem hx
  rw[←dC hj]
  exact hno j hj
 simp[ej,this]
theorem kM (a:Option Addr) (c:Nat) (P:List aj) (g:Nat) (lb:Array Value) (pr:aj->Bool) (w:World) (h:Fo w a P.length (FL P)) (entered:∀args w,(callFunc g args).run Pg w=.ok (.enter g args) w)
  (hc:∀x W,Below w.heap.size w W->Calls Pg g (#[.agg #[Ii Jj x.id,Ii Jj x.up,Ii Jj x.limit,Ii Jj x.rate,Ii Jj x.target,.bool x.frozen,Ii Jj x.balance,Ii Jj x.carry]]++lb) W fun e w'=>e=.returned (.bool (pr x))/\Below W.heap.size W w'):
  Calls Pg 188 #[Sl a P.length c,.func (.func g) #[] lb] w fun e w'=>e=.returned (Ii Jj (ej pr P))/\Below w.heap.size w w':=by
 have H:=aa h
 have hn:=h.1
 have HC:Hid (∀x W,Below w.heap.size w W->Calls Pg g (#[.agg #[Ii Jj x.id,Ii Jj x.up,Ii Jj x.limit,Ii Jj x.rate,Ii Jj x.target,.bool x.frozen,Ii Jj x.balance,Ii Jj x.carry]]++lb) W fun e w'=>e=.returned (.bool (pr x))/\Below W.heap.size W w'):=hc
 clear h hc
 go_enter Tryz.func188,Tryz.ntmps188
 go_wp2
 go_loopw[8] (fun i wr=>∃k:Nat,k<=P.length/\i=Ii Jj k/\Hid (∀j,j<k->pr (FL P j)=false)/\Hid (Below w.heap.size w wr)) (fun i _=>P.length-(intOf i).toNat)
 case atStart=>exact ⟨0,Nat.zero_le _,rfl,fun j hj=>absurd hj (Nat.not_lt_zero _),Bf _ _⟩
 case round=>
  obtain ⟨k,hk,rfl,hno,hB⟩:=hrel
  by_cases hlt:k<P.length
  ·obtain ⟨b,q,rfl,hb,hA⟩:=(H.out.below hB.out).acc hlt
   obtain ⟨c0,c1,c2,c3,c4,c5,c6,c7⟩:=hA
   cases hpr:pr (FL P k) with
   | true=>
    have E:Hid (ej pr P=(k:Int)):=kL hlt hpr hno.out
    have HK:Hid (∀W,Below w.heap.size w W->Calls Pg g (#[.agg #[Ii Jj (FL P k).id,Ii Jj (FL P k).up,Ii Jj (FL P k).limit,Ii Jj (FL P k).rate,Ii Jj (FL P k).target,.bool (FL P k).frozen,Ii Jj (FL P k).balance,Ii Jj (FL P k).carry]]++lb) W fun e w'=>e=.returned (.bool true)/\Below W.heap.size W w'):=fun W hW=>by rw[←hpr];exact HC.out (FL P k) W hW
    clear hpr
    go_wp2_with fail
    refine (HK.out _ hB.out).mono ?_
    rintro e w1 ⟨rfl,B1⟩
    have B1':=aa (hB.out.trans (B1.mono hB.out.size))
    clear B1
    go_wp2
    go_ret
    rw[E.out]
    exact ⟨rfl,B1'.out⟩
   | false=>
    have HN:Hid (∀j,j<k+1->pr (FL P j)=false):=fun j hj=>by
     by_cases e:j=k
     ·subst e;exact hpr
     ·exact hno.out j (by omega)
    have HK:Hid (∀W,Below w.heap.size w W->Calls Pg g (#[.agg #[Ii Jj (FL P k).id,Ii Jj (FL P k).up,Ii Jj (FL P k).limit,Ii Jj (FL P k).rate,Ii Jj (FL P k).target,.bool (FL P k).frozen,Ii Jj (FL P k).balance,Ii Jj (FL P k).carry]]++lb) W fun e w'=>e=.returned (.bool false)/\Below W.heap.size W w'):=fun W hW=>by rw[←hpr];exact HC.out (FL P k) W hW
    clear hpr
    go_wp2_with fail
    refine (HK.out _ hB.out).mono ?_
    rintro e w1 ⟨rfl,B1⟩
    have B1':=aa (hB.out.trans (B1.mono hB.out.size))
    clear B1
    go_wp2
    go_roundw
    case rel=>exact ⟨k+1,by omega,by go_num,HN,B1'⟩
    case measure=>simp[intOf];omega
  ·have hkn:k=P.length:=by omega
   have E:Hid (ej pr P= -1):=jC (fun j hj=>hno.out j (by omega))
   go_wp2
   go_ret
   rw[E.out]
   exact ⟨rfl,hB.out⟩
theorem lK (a:Option Addr) (c:Nat) (P:List aj) (g:Nat) (lb:Array Value) (pr:aj->Bool) (w:World) (h:Fo w a P.length (FL P)) (entered:∀args w,(callFunc g args).run Pg w=.ok (.enter g args) w)
  (hc:∀x W,Below w.heap.size w W->Calls Pg g (#[.agg #[Ii Jj x.id,Ii Jj x.up,Ii Jj x.limit,Ii Jj x.rate,Ii Jj x.target,.bool x.frozen,Ii Jj x.balance,Ii Jj x.carry]]++lb) W fun e w'=>e=.returned (.bool (pr x))/\Below W.heap.size W w'):
  Calls Pg 242 #[Sl a P.length c,.func (.func g) #[] lb] w fun e w'=>af e (0<=ej pr P)/\Below w.heap.size w w':=by
 obtain ⟨v,hve⟩:∃v,v=ej pr P:=⟨_,rfl⟩
 have IX:Hid (Calls Pg 188 #[Sl a P.length c,.func (.func g) #[] lb] w fun e w'=>e=.returned (Ii Jj v)/\Below w.heap.size w w'):=by rw[hve];exact kM a c P g lb pr w h entered hc
 have HV:=aa hve
 clear h entered hc hve
 go_enter Tryz.func242,Tryz.ntmps242
 go_wp2_with fail
 refine IX.out.mono ?_
 rintro e w1 ⟨rfl,B1⟩
 have B1':=aa B1
 clear B1
 by_cases hv:0<=v
 ·have hd:decide (0<=v)=true:=decide_eq_true hv
  go_wp2
  go_ret
  exact ⟨af.yes (by rw[←HV.out];exact hv),B1'.out⟩
 ·have hv':v<0:=by omega
  have hd:decide (0<=v)=false:=decide_eq_false hv
  go_wp2
  go_ret
  exact ⟨af.no (by rw[←HV.out];omega),B1'.out⟩
theorem sw (x:aj) (id:Int) (B:Nat) (w:World) (h:w.cell? ⟨B,0,none⟩=some (Ii Jj id)) (hB:B<w.heap.size):
  Calls Pg 243 #[.agg #[Ii Jj x.id,Ii Jj x.up,Ii Jj x.limit,Ii Jj x.rate,Ii Jj x.target,.bool x.frozen,Ii Jj x.balance,Ii Jj x.carry],.pointer (some ⟨B,0,none⟩)] w fun e w'=>e=.returned (.bool (x.id == id))/\Below w.heap.size w w':=by
 have hne:¬w.heap.size=B:=by omega
 have hne':¬B=w.heap.size:=by omega
 go_enter Tryz.func243,Tryz.ntmps243
 go_wp2
 go_ret
 exact ⟨rfl,(Bf _ _).alloc (Nf _) _⟩
theorem rI (P:List aj) (l:List Int) (id:Int) (hl:P.map (·.id)=l):0<=ej (fun x=>x.id == id) P↔id ∈ l:=by
 subst hl
 unfold ej
 cases hf:P.findIdx? (fun x=>x.id == id) with
 | none=>
  have:=List.findIdx?_eq_none_iff.1 hf
  simp only[List.mem_map]
  constructor
  ·intro h;omega
  ·rintro ⟨x,hx,e⟩
   have:=this x hx
   simp[e] at this
 | some i=>
  obtain ⟨hi,hp,_⟩:=List.findIdx?_eq_some_iff_getElem.1 hf
  constructor
  ·intro _
   exact List.mem_map.2 ⟨P[i],List.getElem_mem _,by simpa using hp⟩
  ·intro _;simp
theorem nw (a:Option Addr) (n c:Nat) (F:Nat->aj) (id to:Int) (l:List Int) (w:World) (h:Fo w a n F) (hR:al F n) (hl:aD F n n to=some l):
  Calls Pg 241 #[Sl a n c,Ii Jj id,Ii Jj to] w fun e w'=>af e (id ∈ l)/\Below w.heap.size w w':=by
 have H:=aa h
 have HR:=aa hR
 have HL:=aa hl
 have hn12:=hR.1
 have X0:Hid ((w.alloc (.cells #[Ii Jj id] 2)).cell? ⟨w.heap.size,0,none⟩=some (Ii Jj id)):=(by simp[go_sem]:(w.alloc (.cells #[Ii Jj id] 2)).cell? ⟨w.heap.size,0,none⟩=some (Ii Jj id))
 clear h hR hl
 go_enter Tryz.func241,Tryz.ntmps241
 go_wp2_with fail
 refine (ld a n c F to l _ (H.out.alloc _) HR.out HL.out).mono ?_
 rintro e w1 ⟨v,P,rfl,A1,hP,hPn,B1⟩
 obtain ⟨av,cv,hv,_,_⟩:=A1.shape
 subst hv
 have hz:w.heap.size<w1.heap.size:=Nat.lt_of_lt_of_le (by simp) B1.size
 have X1:Hid (w1.cell? ⟨w.heap.size,0,none⟩=some (Ii Jj id)):=by
  show w1.cell? ⟨w.heap.size,0,none⟩=some (Ii Jj id)
  rw[B1.cell (p:=⟨w.heap.size,0,none⟩) (by simp)];exact X0.out
 have B1':Hid (Below w.heap.size w w1):=((Bf _ _).alloc (Nf _) _).trans (B1.mono (by simp))
 have FP:Hid (Fo w1 av P.length (FL P)):=(A1.fo (by omega)).2
 have HI:Hid (0<=ej (fun x=>x.id == id) P↔id ∈ l):=rI P l id hP
 clear B1 A1 X0 hP
 have CF:=lK av cv P 243 #[.pointer (some ⟨w.heap.size,0,none⟩)] (fun x=>x.id == id) w1 FP.out (enters_of Tryz.func243 (by kernel_rfl) rfl) (fun x W hW=>sw x id w.heap.size W (by rw[hW.cell (p:=⟨w.heap.size,0,none⟩) hz];exact X1.out) (Nat.lt_of_lt_of_le hz hW.size))
 have HCF:Hid (Calls Pg 242 #[Sl av P.length cv,.func (.func 243) #[] #[.pointer (some ⟨w.heap.size,0,none⟩)]] w1 fun e w'=>af e (0<=ej (fun x=>x.id == id) P)/\Below w1.heap.size w1 w'):=CF
 clear CF
 go_wp2_with fail
 refine HCF.out.mono ?_
 rintro e w2 ⟨⟨bo,rfl,h1,h2⟩,B2⟩
 have T:Hid (af (.returned (.bool bo)) (id ∈ l)):=⟨bo,rfl,fun e=>HI.out.1 (h1 e),fun e hh=>h2 e (HI.out.2 hh)⟩
 have B2':=aa (B1'.out.trans (B2.mono B1'.out.size))
 clear B2 h1 h2
 go_wp2
 go_ret
 exact ⟨T.out,B2'.out⟩
open Go.RowKit
theorem gE (a:Option Addr) (n c:Nat) (F:Nat->aj) (id to:Int) (l:List Int) (w:World) (h:Fo w a n F) (hR:al F n) (hl:aD F n n to=some l) (hm:id ∈ l):
  Calls Pg 241 #[Sl a n c,Ii Jj id,Ii Jj to] w fun e w'=>e=.returned (.bool true)/\Below w.heap.size w w':=
 (nw a n c F id to l w h hR hl).mono fun e w' ⟨⟨b,he,_,h2⟩,hB⟩=>⟨by cases b with|true=>exact he|false=>exact absurd hm (h2 rfl),hB⟩
theorem im (a:Option Addr) (n c:Nat) (F:Nat->aj) (id to:Int) (l:List Int) (w:World) (h:Fo w a n F) (hR:al F n) (hl:aD F n n to=some l) (hm:id ∉ l):
  Calls Pg 241 #[Sl a n c,Ii Jj id,Ii Jj to] w fun e w'=>e=.returned (.bool false)/\Below w.heap.size w w':=
 (nw a n c F id to l w h hR hl).mono fun e w' ⟨⟨b,he,h1,_⟩,hB⟩=>⟨by cases b with|false=>exact he|true=>exact absurd (h1 rfl) hm,hB⟩
def iD (F:Nat->aj) (n:Nat) (lt:List Int) (m:Int) (j:Nat):Prop:=(F j).limit≠ -1/\(F j).id ∉ lt/\ax F n j+(F j).limit<m
def dH (F:Nat->aj) (n:Nat) (lf lt:List Int) (m:Int):Prop:=∃j,j<n/\(F j).id ∈ lf/\iD F n lt m j
def qv (p:Nat->Addr) (S:Prop) (e:Ending):Prop:=(S/\∃i,e=.returned (jn p i 5))\/(¬S/\e=.returned .nilIface)
theorem iZ (a:Option Addr) (n c:Nat) (F:Nat->aj) (from_ to m:Int) (lf lt:List Int) (p:Nat->Addr) (w:World) (h:Fo w a n F) (hR:al F n) (hlf:aD F n n from_=some lf) (hlt:aD F n n to=some lt) (hG:GE w p):
  Calls Pg 239 #[Sl a n c,Ii Jj from_,Ii Jj to,Ii Jj m] w fun e w'=>qv p (dH F n lf lt m) e/\Below w.heap.size w w':=by
 have H:=aa h
 have HR:=aa hR
 have HLT:=aa hlt
 have HLF:=aa hlf
 have G0:=aa hG
 have hn12:=hR.1
 clear h hR hlf hlt hG
 go_enter Tryz.func239,Tryz.ntmps239
 go_wp2_with fail
 refine (gI a n c F from_ lf _ H.out HR.out HLF.out).mono ?_
 rintro e w1 ⟨v,P,rfl,A1,hP,hPn,hPF,B1⟩
 obtain ⟨av,cv,hv,_,_⟩:=A1.shape
 subst hv
 have A1':=aa A1
 have B1':=aa B1
 have HP:=aa hP
 have HPF:=aa hPF
 clear A1 B1 hP hPF
 go_wp2
 go_loopw[15] (fun i wr=>∃k:Nat,k<=P.length/\i=Ii Jj k/\Hid (∀j,j<n->(F j).id ∈ (P.take k).map (·.id)->¬iD F n lt m j)/\Hid (AL wr w.heap.size (Sl av P.length cv) P)/\Hid (Below w.heap.size w wr)) (fun i _=>P.length-(intOf i).toNat)
 case atStart=>exact ⟨0,Nat.zero_le _,rfl,fun j _ hj=>by simp at hj,A1',B1'⟩
 case round=>
  obtain ⟨k,hk,rfl,hno,hA,hB⟩:=hrel
  clear A1' B1'
  by_cases hlt:k<P.length
  ·obtain ⟨j,hj,hx⟩:=HPF.out P[k] (List.getElem_mem _)
   obtain ⟨b,q,rfl,hb,hAc⟩:=(hA.out.fo (by omega)).2.acc hlt
   rw[dC hlt,hx] at hAc
   obtain ⟨c0,c1,c2,c3,c4,c5,c6,c7⟩:=hAc
   have hxid:P[k].id=(F j).id:=by rw[hx]
   have HTK:Hid (∀x,x ∈ (P.take (k+1)).map (·.id)↔x ∈ (P.take k).map (·.id)\/x=(F j).id):=fun x=>by
    rw[List.take_succ_eq_append_getElem hlt,List.map_append,List.mem_append]
    simp[hxid]
   have HNE:Hid (¬iD F n lt m j->∀i,i<n->(F i).id ∈ (P.take (k+1)).map (·.id)->¬iD F n lt m i):=fun hn i hi hm=>by
    rcases (HTK.out _).1 hm with h1|h1
    ·exact hno.out i hi h1
    ·have e:i=j:=HR.out.inj hi hj h1
     subst e;exact hn
   have HIN:Hid (iD F n lt m j->dH F n lf lt m):=fun hs=>⟨j,hj,by
    rw[←HP.out,←hxid]
    exact List.mem_map.2 ⟨P[k],List.getElem_mem _,rfl⟩,hs⟩
   have FW:Hid (Fo (wr.alloc (.cells #[Ii Jj (F j).id,Ii Jj (F j).up,Ii Jj (F j).limit,Ii Jj (F j).rate,Ii Jj (F j).target,.bool (F j).frozen,Ii Jj (F j).balance,Ii Jj (F j).carry] 30)) a n F):=(H.out.below hB.out).alloc _
   have FOV:Hid (∀u,Fo (bH (wr.alloc (.cells #[Ii Jj (F j).id,Ii Jj (F j).up,Ii Jj (F j).limit,Ii Jj (F j).rate,Ii Jj (F j).target,.bool (F j).frozen,Ii Jj (F j).balance,Ii Jj (F j).carry] 30)) u) a n F):=fun u=>FW.out.below (ap _ u)
   have hov:∀u q,(bH (wr.alloc (.cells #[Ii Jj (F j).id,Ii Jj (F j).up,Ii Jj (F j).limit,Ii Jj (F j).rate,Ii Jj (F j).target,.bool (F j).frozen,Ii Jj (F j).balance,Ii Jj (F j).carry] 30)) u).cell? ⟨wr.heap.size,q,none⟩=(wr.alloc (.cells #[Ii Jj (F j).id,Ii Jj (F j).up,Ii Jj (F j).limit,Ii Jj (F j).rate,Ii Jj (F j).target,.bool (F j).frozen,Ii Jj (F j).balance,Ii Jj (F j).carry] 30)).cell? ⟨wr.heap.size,q,none⟩:=fun u q=>(ap _ u).cell (p:=⟨wr.heap.size,q,none⟩) (by simp)
   obtain ⟨s1,s2⟩:=sk HR.out hj
   clear hx hxid
   by_cases hl:(F j).limit= -1
   ·have HN1:Hid (∀i,i<n->(F i).id ∈ (P.take (k+1)).map (·.id)->¬iD F n lt m i):=HNE.out (fun hh=>hh.1 hl)
    have hlb:((F j).limit != -1)=false:=by simp[hl]
    clear hl
    go_wp2
    refine aw (by kernel_rfl) (by kernel_rfl) ?_
    repeat (go_big_quiet_step ((first|(go_at_call 241;exact Calls.over_of (gE a n c F (F j).id to lt _ (FOV.out _) HR.out HLT.out (by assumption))))))
    refine wpQuiet_nil ?_
    intro _ hw'
    obtain ⟨vq,hw''⟩:=hw'
    subst hw''
    have XV:Hid (AL (bH (wr.alloc (.cells #[Ii Jj (F j).id,Ii Jj (F j).up,Ii Jj (F j).limit,Ii Jj (F j).rate,Ii Jj (F j).target,.bool (F j).frozen,Ii Jj (F j).balance,Ii Jj (F j).carry] 30)) vq) w.heap.size (Sl (some ⟨b,q,none⟩) P.length cv) P/\Below w.heap.size w (bH (wr.alloc (.cells #[Ii Jj (F j).id,Ii Jj (F j).up,Ii Jj (F j).limit,Ii Jj (F j).rate,Ii Jj (F j).target,.bool (F j).frozen,Ii Jj (F j).balance,Ii Jj (F j).carry] 30)) vq)):=⟨AL.kept (World.ownsRow.alloc hA.out _) (ap _ vq),(hB.out.alloc hB.out.size _).trans ((ap _ vq).mono (by have:=hB.out.size;simp;omega))⟩
    go_wp2
    go_roundw
    case rel=>exact ⟨k+1,by omega,by go_num,HN1,XV.out.1,XV.out.2⟩
    case measure=>simp[intOf];omega
   have hlb:((F j).limit != -1)=true:=by simp[hl]
   by_cases hm:(F j).id ∈ lt
   ·have HN1:Hid (∀i,i<n->(F i).id ∈ (P.take (k+1)).map (·.id)->¬iD F n lt m i):=HNE.out (fun hh=>hh.2.1 hm)
    have HM:=aa hm
    clear hl hm
    go_wp2
    refine aw (by kernel_rfl) (by kernel_rfl) ?_
    repeat (go_big_quiet_step ((first|(go_at_call 241;exact Calls.over_of (gE a n c F (F j).id to lt _ (FOV.out _) HR.out HLT.out HM.out)))))
    refine wpQuiet_nil ?_
    intro _ hw'
    obtain ⟨vq,hw''⟩:=hw'
    subst hw''
    have XV:Hid (AL (bH (wr.alloc (.cells #[Ii Jj (F j).id,Ii Jj (F j).up,Ii Jj (F j).limit,Ii Jj (F j).rate,Ii Jj (F j).target,.bool (F j).frozen,Ii Jj (F j).balance,Ii Jj (F j).carry] 30)) vq) w.heap.size (Sl (some ⟨b,q,none⟩) P.length cv) P/\Below w.heap.size w (bH (wr.alloc (.cells #[Ii Jj (F j).id,Ii Jj (F j).up,Ii Jj (F j).limit,Ii Jj (F j).rate,Ii Jj (F j).target,.bool (F j).frozen,Ii Jj (F j).balance,Ii Jj (F j).carry] 30)) vq)):=⟨AL.kept (World.ownsRow.alloc hA.out _) (ap _ vq),(hB.out.alloc hB.out.size _).trans ((ap _ vq).mono (by have:=hB.out.size;simp;omega))⟩
    go_wp2
    go_roundw
    case rel=>exact ⟨k+1,by omega,by go_num,HN1,XV.out.1,XV.out.2⟩
    case measure=>simp[intOf];omega
   have HM:=aa hm
   by_cases hs:ax F n j+(F j).limit<m
   ·have HS:Hid (dH F n lf lt m):=HIN.out ⟨hl,hm,hs⟩
    have hsd:decide (ax F n j+(F j).limit<m)=true:=decide_eq_true hs
    clear hl hm
    go_wp2
    refine aw (by kernel_rfl) (by kernel_rfl) ?_
    repeat (go_big_quiet_step ((first|(go_at_call 241;exact Calls.over_of (im a n c F (F j).id to lt _ (FOV.out _) HR.out HLT.out HM.out))|(go_at_call 151;exact Calls.over_of (eJ a n c F j _ (FOV.out _) HR.out hj)))))
    refine wpQuiet_nil ?_
    intro _ hw'
    obtain ⟨vq,hw''⟩:=hw'
    subst hw''
    have XV:Hid (AL (bH (wr.alloc (.cells #[Ii Jj (F j).id,Ii Jj (F j).up,Ii Jj (F j).limit,Ii Jj (F j).rate,Ii Jj (F j).target,.bool (F j).frozen,Ii Jj (F j).balance,Ii Jj (F j).carry] 30)) vq) w.heap.size (Sl (some ⟨b,q,none⟩) P.length cv) P/\Below w.heap.size w (bH (wr.alloc (.cells #[Ii Jj (F j).id,Ii Jj (F j).up,Ii Jj (F j).limit,Ii Jj (F j).rate,Ii Jj (F j).target,.bool (F j).frozen,Ii Jj (F j).balance,Ii Jj (F j).carry] 30)) vq)):=⟨AL.kept (World.ownsRow.alloc hA.out _) (ap _ vq),(hB.out.alloc hB.out.size _).trans ((ap _ vq).mono (by have:=hB.out.size;simp;omega))⟩
    have gv:=(G0.out.below XV.out.2).var 5 (by omega)
    have gz:=G0.out.size
    go_wp2
    go_ret
    exact ⟨Or.inl ⟨HS.out,_,rfl⟩,XV.out.2⟩
   ·have HN1:Hid (∀i,i<n->(F i).id ∈ (P.take (k+1)).map (·.id)->¬iD F n lt m i):=HNE.out (fun hh=>hs hh.2.2)
    have hsd:decide (ax F n j+(F j).limit<m)=false:=decide_eq_false hs
    clear hl hm
    go_wp2
    refine aw (by kernel_rfl) (by kernel_rfl) ?_
    repeat (go_big_quiet_step ((first|(go_at_call 241;exact Calls.over_of (im a n c F (F j).id to lt _ (FOV.out _) HR.out HLT.out HM.out))|(go_at_call 151;exact Calls.over_of (eJ a n c F j _ (FOV.out _) HR.out hj)))))
    refine wpQuiet_nil ?_
    intro _ hw'
    obtain ⟨vq,hw''⟩:=hw'
    subst hw''
    have XV:Hid (AL (bH (wr.alloc (.cells #[Ii Jj (F j).id,Ii Jj (F j).up,Ii Jj (F j).limit,Ii Jj (F j).rate,Ii Jj (F j).target,.bool (F j).frozen,Ii Jj (F j).balance,Ii Jj (F j).carry] 30)) vq) w.heap.size (Sl (some ⟨b,q,none⟩) P.length cv) P/\Below w.heap.size w (bH (wr.alloc (.cells #[Ii Jj (F j).id,Ii Jj (F j).up,Ii Jj (F j).limit,Ii Jj (F j).rate,Ii Jj (F j).target,.bool (F j).frozen,Ii Jj (F j).balance,Ii Jj (F j).carry] 30)) vq)):=⟨AL.kept (World.ownsRow.alloc hA.out _) (ap _ vq),(hB.out.alloc hB.out.size _).trans ((ap _ vq).mono (by have:=hB.out.size;simp;omega))⟩
    go_wp2
    go_roundw
    case rel=>exact ⟨k+1,by omega,by go_num,HN1,XV.out.1,XV.out.2⟩
    case measure=>simp[intOf];omega
  ·have hkn:k=P.length:=by omega
   have HS:Hid (¬dH F n lf lt m):=by
    rintro ⟨j,hj,hm,hi⟩
    refine hno.out j hj ?_ hi
    rw[hkn,List.take_length,HP.out]
    exact hm
   go_wp2
   go_ret
   exact ⟨Or.inr ⟨HS.out,rfl⟩,hB.out⟩
end Go.Proofs.YtghkbhggopiajaaGreatDoor
