/- BankText of the specification, walked. -/
import Derived.Test.YtjhgchlfpolkcaaGreatDoorBvx
import Derived.Deep.RegionHeld3
import Derived.Deep.DeepCutAuto
namespace Go.Proofs.YtjhgchlfpolkcaaGreatDoor
open Value renaming int → Ii,slice → Sl
open IntKind renaming i64 → Jj
open Nat renaming le_refl → Nf
open Go.RowKit.Below renaming refl → Bf
open Go.Proofs.Tryz renaming prog → Pg
set_option maxHeartbeats 8000000
open Go.RowKit
set_option maxRecDepth 8000
theorem bn.lit3 (w:World) (ns:List Int):bn (w.alloc (.cells (ns.map (Value.int .i64)).toArray 2)) (some ⟨w.heap.size,0,none⟩) ns:=by
 refine Or.inr ⟨w.heap.size,0,rfl,by simp,fun i hi=>?_⟩
 rw[World.cell?_alloc_mark]
 simp[hi]
theorem rC (A:am) (w:World):Calls Pg 47 #[.agg #[Ii Jj A.id,Ii Jj A.src,Ii Jj A.dst,Ii Jj A.amount,Ii Jj A.first,Ii Jj A.every,Ii Jj A.times]] w fun e w'=>∃a c,e=.returned (Sl a 7 c)/\bn w' a (dz A)/\Below w.heap.size w w':=by
 have FI:Hid (bn ((w.alloc (.cells #[Ii Jj A.id,Ii Jj A.src,Ii Jj A.dst,Ii Jj A.amount,Ii Jj A.first,Ii Jj A.every,Ii Jj A.times] 35)).alloc (.cells #[Ii Jj A.id,Ii Jj A.src,Ii Jj A.dst,Ii Jj A.amount,Ii Jj A.first,Ii Jj A.every,Ii Jj A.times] 2)) (some ⟨w.heap.size+1,0,none⟩) (dz A)/\Below w.heap.size w ((w.alloc (.cells #[Ii Jj A.id,Ii Jj A.src,Ii Jj A.dst,Ii Jj A.amount,Ii Jj A.first,Ii Jj A.every,Ii Jj A.times] 35)).alloc (.cells #[Ii Jj A.id,Ii Jj A.src,Ii Jj A.dst,Ii Jj A.amount,Ii Jj A.first,Ii Jj A.every,Ii Jj A.times] 2))):=by
  have:=bn.lit3 (w.alloc (.cells #[Ii Jj A.id,Ii Jj A.src,Ii Jj A.dst,Ii Jj A.amount,Ii Jj A.first,Ii Jj A.every,Ii Jj A.times] 35)) (dz A)
  rw[World.size_alloc] at this
  exact ⟨this,((Bf _ _).alloc (Nf _) _).alloc (by simp) _⟩
 go_enter Tryz.func47,Tryz.ntmps47
 go_wp2
 go_ret
 exact ⟨_,_,rfl,FI.out.1,FI.out.2⟩
theorem sA (a b:Option Addr) (n c m d:Nat) (F:Nat->al) (O:Nat->am) (k:Bk) (w:World) (hF:Fo w a n F) (hO:aJ w b m O) (h:aj F n O m k):
  Calls Pg 37 #[.agg #[Ii Jj k.day,Sl a n c,Sl b m d,Ii Jj k.inn,Ii Jj k.out,Ii Jj k.posted,Ii Jj k.missed]] w fun e w'=>e=.returned (.string (cZ F n O m k))/\Below w.heap.size w w':=by
 obtain ⟨W0,hW0,X0⟩:∃W0,W0=w.alloc (.cells #[Ii Jj k.day,Sl a n c,Sl b m d,Ii Jj k.inn,Ii Jj k.out,Ii Jj k.posted,Ii Jj k.missed] 27)/\Hid (bj W0 w.heap.size a b n c m d F O k w):=⟨_,rfl,⟨eK.new w _ _ k 27,hF.alloc _,hO.alloc _,(Bf _ _).alloc (Nf _) _⟩⟩
 have HW0:Hid (W0=_):=hW0
 have HN:Hid (aj F n O m k):=h
 have hn12:n<=12:=h.2.1.1
 have hm8:m<=8:=h.2.2.1.1
 have OKA:Hid (∀j,j<n->ey (F j)):=h.2.1.2.1
 have OKO:Hid (∀j,j<m->aE (O j)):=h.2.2.1.2.1
 obtain ⟨V1,hV1,X1⟩:∃V1,V1=W0.alloc (.cells #[Ii Jj k.day,Ii Jj k.inn,Ii Jj k.out,Ii Jj k.posted,Ii Jj k.missed] 2)/\Hid (bj V1 w.heap.size a b n c m d F O k w/\bn V1 (some ⟨w.heap.size+1,0,none⟩) (ex k)):=by
  refine ⟨_,rfl,X0.out.below ((Bf _ _).alloc (Nf _) _),?_⟩
  have:=bn.lit3 W0 (ex k)
  rw[show W0.heap.size=w.heap.size+1 by rw[hW0];simp] at this
  exact this
 have HV1:Hid (V1=_):=hV1
 have hrs:=cU (k:=100) (S:=cD) (fP h) (by decide)
 have hadd0:=cR (be cD (ex k)) ⟨#[10]⟩ (by have:(ex k).length=5:=rfl;omega) (by show (1:Nat)<=_;omega)
 clear hF hO h hW0 hV1 hrs
 go_enter Tryz.func37,Tryz.ntmps37
 go_wp2_with fail
 rw[←HW0.out,←HV1.out]
 clear HW0 HV1 X0
 refine (cw cD (by decide) _ 5 _ (ex k) rfl (by omega) (fP HN.out) _ X1.out.2).mono ?_
 rintro e w3 ⟨rfl,B3⟩
 have X3:Hid (bj w3 w.heap.size a b n c m d F O k w):=X1.out.1.below B3
 clear B3 X1
 obtain ⟨T0,hT0⟩:∃T0,T0=cX cD (ex k):=⟨_,rfl⟩
 have HT0:Hid (T0=cX cD (ex k)):=hT0
 have HS0:Hid (T0.size<=253):=by show T0.size<=253;rw[hT0];exact df (by decide) (by simp[ex]) (fP HN.out)
 rw[show be cD (ex k)++(⟨#[10]⟩:ByteArray)=T0 from hT0.symm] at hadd0
 clear hT0
 generalize be cD (ex k)=rb at*
 obtain ⟨⟨c0,c1,c2,c3,c4,c5,c6,cl⟩,_⟩:=X3.out
 go_wp2
 clear hadd0
 go_loopw[3,4] (fun s i wr=>∃(j:Nat) (T:ByteArray),j<=n/\i=Ii Jj j/\s=.string T/\Hid (T=ev T0 F j)/\Hid (bj wr w.heap.size a b n c m d F O k w)) (fun _ i _=>n-(intOf i).toNat)
 case atStart=>exact ⟨0,T0,Nat.zero_le _,rfl,rfl,(rfl:T0=ev T0 F 0),X3⟩
 case round=>
  obtain ⟨j,T,hj,rfl,rfl,hT,hX⟩:=hrel
  clear X3 c0 c1 c2 c3 c4 c5 c6 cl
  obtain ⟨⟨c0,c1,c2,c3,c4,c5,c6,cl⟩,_⟩:=hX.out
  by_cases hlt:j<n
  ·have hlt':(j:Int)<(n:Int):=by omega
   obtain ⟨A,hA⟩:∃A,A=F j:=⟨_,rfl⟩
   obtain ⟨bb,oo,rfl,hb0,hA0⟩:=hX.out.2.1.acc hlt
   rw[←hA] at hA0
   have okA:Hid (ey A):=by show ey A;rw[hA];exact OKA.out j hlt
   have hTs:T.size<=10000:=by
    have:=ec (F:=F) HS0.out j (fun i hi=>OKA.out i (by omega))
    rw[hT.out];omega
   have hrs:=cU (k:=100) (S:=bH) (gB okA.out) (by decide)
   have hl8:(dn A).length=8:=rfl
   have hadd1:=cR T (be bH (dn A)) (by omega) (by omega)
   have hadd2:=cR (T++be bH (dn A)) ⟨#[10]⟩ (by rw[ByteArray.size_append];omega) (by show (1:Nat)<=_;omega)
   have HN2:Hid (T++be bH (dn A)++⟨#[10]⟩=ev T0 F (j+1)):=by
    show _=ev T0 F j++(be bH (dn (F j))++⟨#[10]⟩)
    rw[←hT.out,←hA,ByteArray.append_assoc]
   obtain ⟨V,hV,YV⟩:∃V,V=wr.alloc (.cells #[Ii Jj A.id,Ii Jj A.up,Ii Jj A.limit,Ii Jj A.rate,Ii Jj A.target,.bool A.frozen,Ii Jj A.balance,Ii Jj A.carry] 53)/\Hid ((V.cell? ⟨wr.heap.size,0,none⟩=some (Ii Jj A.id)/\V.cell? ⟨wr.heap.size,1,none⟩=some (Ii Jj A.up)/\V.cell? ⟨wr.heap.size,2,none⟩=some (Ii Jj A.limit)/\V.cell? ⟨wr.heap.size,3,none⟩=some (Ii Jj A.rate)/\V.cell? ⟨wr.heap.size,4,none⟩=some (Ii Jj A.target)/\V.cell? ⟨wr.heap.size,5,none⟩=some (.bool A.frozen)/\V.cell? ⟨wr.heap.size,6,none⟩=some (Ii Jj A.balance)/\V.cell? ⟨wr.heap.size,7,none⟩=some (Ii Jj A.carry))/\bj V w.heap.size (some ⟨bb,oo,none⟩) b n c m d F O k w/\wr.heap.size<V.heap.size):=by
    refine ⟨_,rfl,⟨?_,?_,?_,?_,?_,?_,?_,?_⟩,hX.out.below ((Bf _ _).alloc (Nf _) _),by simp⟩ <;>simp[go_sem]
   have HV:Hid (V=_):=hV
   clear hT hTs hrs hV hA hl8
   obtain ⟨z0,z1,z2,z3,z4,z5,z6,z7⟩:=hA0
   go_upto_region 6 with fail
   rw[←HV.out]
   clear HV z0 z1 z2 z3 z4 z5 z6 z7 hX c0 c1 c2 c3 c4 c5 c6 cl
   have k0:(V.drew.cell? ⟨wr.heap.size,0,none⟩=some (Ii Jj A.id)/\V.drew.cell? ⟨wr.heap.size,1,none⟩=some (Ii Jj A.up)/\V.drew.cell? ⟨wr.heap.size,2,none⟩=some (Ii Jj A.limit)/\V.drew.cell? ⟨wr.heap.size,3,none⟩=some (Ii Jj A.rate)/\V.drew.cell? ⟨wr.heap.size,4,none⟩=some (Ii Jj A.target)/\V.drew.cell? ⟨wr.heap.size,5,none⟩=some (.bool A.frozen)/\V.drew.cell? ⟨wr.heap.size,6,none⟩=some (Ii Jj A.balance)/\V.drew.cell? ⟨wr.heap.size,7,none⟩=some (Ii Jj A.carry)):=YV.out.1
   have kA:∀ob,((V.drew.alloc ob).cell? ⟨wr.heap.size,0,none⟩=some (Ii Jj A.id)/\(V.drew.alloc ob).cell? ⟨wr.heap.size,1,none⟩=some (Ii Jj A.up)/\(V.drew.alloc ob).cell? ⟨wr.heap.size,2,none⟩=some (Ii Jj A.limit)/\(V.drew.alloc ob).cell? ⟨wr.heap.size,3,none⟩=some (Ii Jj A.rate)/\(V.drew.alloc ob).cell? ⟨wr.heap.size,4,none⟩=some (Ii Jj A.target)/\(V.drew.alloc ob).cell? ⟨wr.heap.size,5,none⟩=some (.bool A.frozen)/\(V.drew.alloc ob).cell? ⟨wr.heap.size,6,none⟩=some (Ii Jj A.balance)/\(V.drew.alloc ob).cell? ⟨wr.heap.size,7,none⟩=some (Ii Jj A.carry)):=fun ob=>⟨(World.cell?_alloc_lt _ _ _ YV.out.2.2).trans YV.out.1.1,(World.cell?_alloc_lt _ _ _ YV.out.2.2).trans YV.out.1.2.1,(World.cell?_alloc_lt _ _ _ YV.out.2.2).trans YV.out.1.2.2.1,(World.cell?_alloc_lt _ _ _ YV.out.2.2).trans YV.out.1.2.2.2.1,(World.cell?_alloc_lt _ _ _ YV.out.2.2).trans YV.out.1.2.2.2.2.1,(World.cell?_alloc_lt _ _ _ YV.out.2.2).trans YV.out.1.2.2.2.2.2.1,(World.cell?_alloc_lt _ _ _ YV.out.2.2).trans YV.out.1.2.2.2.2.2.2.1,(World.cell?_alloc_lt _ _ _ YV.out.2.2).trans YV.out.1.2.2.2.2.2.2.2⟩
   have kB:∀ob,(((V.alloc ob).drew).cell? ⟨wr.heap.size,0,none⟩=some (Ii Jj A.id)/\((V.alloc ob).drew).cell? ⟨wr.heap.size,1,none⟩=some (Ii Jj A.up)/\((V.alloc ob).drew).cell? ⟨wr.heap.size,2,none⟩=some (Ii Jj A.limit)/\((V.alloc ob).drew).cell? ⟨wr.heap.size,3,none⟩=some (Ii Jj A.rate)/\((V.alloc ob).drew).cell? ⟨wr.heap.size,4,none⟩=some (Ii Jj A.target)/\((V.alloc ob).drew).cell? ⟨wr.heap.size,5,none⟩=some (.bool A.frozen)/\((V.alloc ob).drew).cell? ⟨wr.heap.size,6,none⟩=some (Ii Jj A.balance)/\((V.alloc ob).drew).cell? ⟨wr.heap.size,7,none⟩=some (Ii Jj A.carry)):=fun ob=>kA ob
   have LI:Hid (bn (V.drew.alloc (.cells #[Ii Jj A.id,Ii Jj A.up,Ii Jj A.limit,Ii Jj A.rate,Ii Jj A.target,Ii Jj (ci A.frozen),Ii Jj A.balance,Ii Jj A.carry] 2)) (some ⟨V.heap.size,0,none⟩) (dn A)/\bj (V.drew.alloc (.cells #[Ii Jj A.id,Ii Jj A.up,Ii Jj A.limit,Ii Jj A.rate,Ii Jj A.target,Ii Jj (ci A.frozen),Ii Jj A.balance,Ii Jj A.carry] 2)) w.heap.size (some ⟨bb,oo,none⟩) b n c m d F O k w):=⟨bn.lit3 V.drew (dn A),(YV.out.2.1.below ((Bf _ _).drew)).below ((Bf _ _).alloc (Nf _) _)⟩
   have CR:Hid (Calls Pg 46 #[.string ⟨#[97,99,99,111,117,110,116]⟩,Sl (some ⟨V.heap.size,0,none⟩) 8 8] (V.drew.alloc (.cells #[Ii Jj A.id,Ii Jj A.up,Ii Jj A.limit,Ii Jj A.rate,Ii Jj A.target,Ii Jj (ci A.frozen),Ii Jj A.balance,Ii Jj A.carry] 2)) fun e w'=>e=.returned (.string (be bH (dn A)))/\Below (V.drew.alloc (.cells #[Ii Jj A.id,Ii Jj A.up,Ii Jj A.limit,Ii Jj A.rate,Ii Jj A.target,Ii Jj (ci A.frozen),Ii Jj A.balance,Ii Jj A.carry] 2)).heap.size (V.drew.alloc (.cells #[Ii Jj A.id,Ii Jj A.up,Ii Jj A.limit,Ii Jj A.rate,Ii Jj A.target,Ii Jj (ci A.frozen),Ii Jj A.balance,Ii Jj A.carry] 2)) w'):=cw bH (by decide) _ 8 _ (dn A) rfl (by omega) (gB okA.out) _ LI.out.1
   have KB:Hid (∀u2,Below (V.drew.alloc (.cells #[Ii Jj A.id,Ii Jj A.up,Ii Jj A.limit,Ii Jj A.rate,Ii Jj A.target,Ii Jj (ci A.frozen),Ii Jj A.balance,Ii Jj A.carry] 2)).heap.size (V.drew.alloc (.cells #[Ii Jj A.id,Ii Jj A.up,Ii Jj A.limit,Ii Jj A.rate,Ii Jj A.target,Ii Jj (ci A.frozen),Ii Jj A.balance,Ii Jj A.carry] 2)) u2->(u2.cell? ⟨wr.heap.size,0,none⟩=some (Ii Jj A.id)/\u2.cell? ⟨wr.heap.size,1,none⟩=some (Ii Jj A.up)/\u2.cell? ⟨wr.heap.size,2,none⟩=some (Ii Jj A.limit)/\u2.cell? ⟨wr.heap.size,3,none⟩=some (Ii Jj A.rate)/\u2.cell? ⟨wr.heap.size,4,none⟩=some (Ii Jj A.target)/\u2.cell? ⟨wr.heap.size,5,none⟩=some (.bool A.frozen)/\u2.cell? ⟨wr.heap.size,6,none⟩=some (Ii Jj A.balance)/\u2.cell? ⟨wr.heap.size,7,none⟩=some (Ii Jj A.carry))):=fun u2 hb=>by
    have hz:wr.heap.size<(V.drew.alloc (.cells #[Ii Jj A.id,Ii Jj A.up,Ii Jj A.limit,Ii Jj A.rate,Ii Jj A.target,Ii Jj (ci A.frozen),Ii Jj A.balance,Ii Jj A.carry] 2)).heap.size:=by have:=YV.out.2.2;simp;show _<V.heap.size+1;omega
    obtain ⟨q0,q1,q2,q3,q4,q5,q6,q7⟩:=kA (.cells #[Ii Jj A.id,Ii Jj A.up,Ii Jj A.limit,Ii Jj A.rate,Ii Jj A.target,Ii Jj (ci A.frozen),Ii Jj A.balance,Ii Jj A.carry] 2)
    exact ⟨(hb.cell (p:=⟨wr.heap.size,0,none⟩) hz).trans q0,(hb.cell (p:=⟨wr.heap.size,1,none⟩) hz).trans q1,(hb.cell (p:=⟨wr.heap.size,2,none⟩) hz).trans q2,(hb.cell (p:=⟨wr.heap.size,3,none⟩) hz).trans q3,(hb.cell (p:=⟨wr.heap.size,4,none⟩) hz).trans q4,(hb.cell (p:=⟨wr.heap.size,5,none⟩) hz).trans q5,(hb.cell (p:=⟨wr.heap.size,6,none⟩) hz).trans q6,(hb.cell (p:=⟨wr.heap.size,7,none⟩) hz).trans q7⟩
   have CR2:Hid (Calls Pg 46 #[.string ⟨#[97,99,99,111,117,110,116]⟩,Sl (some ⟨V.heap.size,0,none⟩) 8 8] ((V.alloc (.cells #[Ii Jj A.id,Ii Jj A.up,Ii Jj A.limit,Ii Jj A.rate,Ii Jj A.target,Ii Jj (ci A.frozen),Ii Jj A.balance,Ii Jj A.carry] 2)).drew) fun e w'=>e=.returned (.string (be bH (dn A)))/\Below (V.drew.alloc (.cells #[Ii Jj A.id,Ii Jj A.up,Ii Jj A.limit,Ii Jj A.rate,Ii Jj A.target,Ii Jj (ci A.frozen),Ii Jj A.balance,Ii Jj A.carry] 2)).heap.size (V.drew.alloc (.cells #[Ii Jj A.id,Ii Jj A.up,Ii Jj A.limit,Ii Jj A.rate,Ii Jj A.target,Ii Jj (ci A.frozen),Ii Jj A.balance,Ii Jj A.carry] 2)) w'):=CR.out
   have XB:Hid (∀u2,Below (V.drew.alloc (.cells #[Ii Jj A.id,Ii Jj A.up,Ii Jj A.limit,Ii Jj A.rate,Ii Jj A.target,Ii Jj (ci A.frozen),Ii Jj A.balance,Ii Jj A.carry] 2)).heap.size (V.drew.alloc (.cells #[Ii Jj A.id,Ii Jj A.up,Ii Jj A.limit,Ii Jj A.rate,Ii Jj A.target,Ii Jj (ci A.frozen),Ii Jj A.balance,Ii Jj A.carry] 2)) u2->Hid (bj u2 w.heap.size (some ⟨bb,oo,none⟩) b n c m d F O k w)):=fun u2 hb=>LI.out.2.below hb
   generalize be bH (dn A)=rw1 at*
   generalize T++rw1=T1 at*
   generalize T1++(⟨#[10]⟩:ByteArray)=T2 at*
   go_region_held3 (fun V=>(V.cell? ⟨wr.heap.size,0,none⟩=some (Ii Jj A.id)/\V.cell? ⟨wr.heap.size,1,none⟩=some (Ii Jj A.up)/\V.cell? ⟨wr.heap.size,2,none⟩=some (Ii Jj A.limit)/\V.cell? ⟨wr.heap.size,3,none⟩=some (Ii Jj A.rate)/\V.cell? ⟨wr.heap.size,4,none⟩=some (Ii Jj A.target)/\V.cell? ⟨wr.heap.size,5,none⟩=some (.bool A.frozen)/\V.cell? ⟨wr.heap.size,6,none⟩=some (Ii Jj A.balance)/\V.cell? ⟨wr.heap.size,7,none⟩=some (Ii Jj A.carry))) (first|with_reducible exact k0|with_reducible exact kA _|with_reducible exact kB _|with_reducible exact k2) (first|(go_at_call 79;refine (ro A.frozen _).mono ?_;rintro e wz ⟨rfl,hwz⟩;subst hwz)|(go_at_call 46;(first|with_reducible refine CR.out.mono ?_|with_reducible refine CR2.out.mono ?_);rintro e u2 ⟨rfl,B2⟩;have k2:=KB.out u2 B2;have X2:=XB.out u2 B2;clear B2))
   all_goals go_wp2
   all_goals go_roundw
   all_goals first|exact ⟨j+1,T2,by omega,by go_num,rfl,HN2,X2⟩|(simp[intOf];omega)
  ·obtain rfl:j=n:=by omega
   clear hj hlt
   go_wp2
   go_loopw[3,6] (fun s i wr=>∃(i':Nat) (T':ByteArray),i'<=m/\i=Ii Jj i'/\s=.string T'/\Hid (T'=gL (ev T0 F j) O i')/\Hid (bj wr w.heap.size a b j c m d F O k w)) (fun _ i _=>m-(intOf i).toNat)
   case atStart=>exact ⟨0,T,Nat.zero_le _,rfl,rfl,hT,hX⟩
   case round=>
    obtain ⟨i,T',hi,rfl,rfl,hT',hX'⟩:=hrel
    clear hX c0 c1 c2 c3 c4 c5 c6 cl
    obtain ⟨⟨c0,c1,c2,c3,c4,c5,c6,cl⟩,_⟩:=hX'.out
    by_cases hlt:i<m
    ·have hlt':(i:Int)<(m:Int):=by omega
     obtain ⟨A,hA⟩:∃A,A=O i:=⟨_,rfl⟩
     obtain ⟨bb,oo,rfl,hb0,hA0⟩:=hX'.out.2.2.1.acc hlt
     rw[←hA] at hA0
     have okA:Hid (aE A):=by show aE A;rw[hA];exact OKO.out i hlt
     have hTs:T'.size<=10000:=by
      have h1:=ec (F:=F) HS0.out j OKA.out
      have h2:=fT (O:=O) h1 i (fun q hq=>OKO.out q (by omega))
      rw[hT'.out];omega
     have hrs:=cU (k:=100) (S:=bK) (gK okA.out) (by decide)
     have hl7:(dz A).length=7:=rfl
     have hadd1:=cR T' (be bK (dz A)) (by omega) (by omega)
     have hadd2:=cR (T'++be bK (dz A)) ⟨#[10]⟩ (by rw[ByteArray.size_append];omega) (by show (1:Nat)<=_;omega)
     have HN2:Hid (T'++be bK (dz A)++⟨#[10]⟩=gL (ev T0 F j) O (i+1)):=by
      show _=gL (ev T0 F j) O i++(be bK (dz (O i))++⟨#[10]⟩)
      rw[←hT'.out,←hA,ByteArray.append_assoc]
     clear hT' hTs hrs hA hl7
     obtain ⟨z0,z1,z2,z3,z4,z5,z6⟩:=hA0
     go_wp2_with fail
     refine (rC A _).mono ?_
     rintro e w5 ⟨pa',pc',rfl,P5,B5⟩
     have X5:Hid (bj w5 w.heap.size a (some ⟨bb,oo,none⟩) j c m d F O k w/\bn w5 pa' (dz A)):=⟨hX'.out.below B5,P5⟩
     clear P5 B5 hX' z0 z1 z2 z3 z4 z5 z6 c0 c1 c2 c3 c4 c5 c6 cl
     go_wp2_with fail
     refine (cw bK (by decide) pa' 7 pc' (dz A) rfl (by omega) (gK okA.out) _ X5.out.2).mono ?_
     rintro e w6 ⟨rfl,B6⟩
     have X6:Hid (bj w6 w.heap.size a (some ⟨bb,oo,none⟩) j c m d F O k w):=X5.out.1.below B6
     clear B6 X5
     generalize be bK (dz A)=rw1 at*
     generalize T'++rw1=T1 at*
     generalize T1++(⟨#[10]⟩:ByteArray)=T2 at*
     go_wp2
     go_roundw
     case rel=>exact ⟨i+1,T2,by omega,by go_num,rfl,HN2,X6⟩
     case measure=>simp[intOf];omega
    ·obtain rfl:i=m:=by omega
     have HE:Hid (T'=cZ F j O i k):=by
      show T'=cZ F j O i k
      unfold cZ
      rw[←HT0.out];exact hT'.out
     clear hT'
     go_wp2
     go_ret
     exact ⟨congrArg (fun x=>Ending.returned (.string x)) HE.out,hX'.out.2.2.2⟩
theorem jx (a b:Option Addr) (n c m d:Nat) (F:Nat->al) (O:Nat->am) (k:Bk) (w:World) (hF:Fo w a n F) (hO:aJ w b m O) (t:ByteArray) (ht:(aj F n O m k->t=cZ F n O m k)/\(¬aj F n O m k->t=⟨#[]⟩)):
  Calls Pg 11 #[.agg #[Ii Jj k.day,Sl a n c,Sl b m d,Ii Jj k.inn,Ii Jj k.out,Ii Jj k.posted,Ii Jj k.missed]] w fun e w'=>e=.returned (.string t)/\Below w.heap.size w w':=by
 obtain ⟨W0,hW0,X0⟩:∃W0,W0=w.alloc (.cells #[Ii Jj k.day,Sl a n c,Sl b m d,Ii Jj k.inn,Ii Jj k.out,Ii Jj k.posted,Ii Jj k.missed] 27)/\Hid (bj W0 w.heap.size a b n c m d F O k w):=⟨_,rfl,⟨eK.new w _ _ k 27,hF.alloc _,hO.alloc _,(Bf _ _).alloc (Nf _) _⟩⟩
 have HW0:Hid (W0=_):=hW0
 have HT:Hid ((aj F n O m k->t=cZ F n O m k)/\(¬aj F n O m k->t=⟨#[]⟩)):=ht
 clear hF hO ht hW0
 go_enter Tryz.func11,Tryz.ntmps11
 go_wp2_with fail
 rw[←HW0.out]
 refine (cC a b n c m d F O k _ X0.out.2.1 X0.out.2.2.1).mono ?_
 rintro e w1 ⟨ht,B1⟩
 have X1:Hid (bj w1 w.heap.size a b n c m d F O k w):=X0.out.below B1
 clear B1 X0 HW0
 by_cases hk:aj F n O m k
 ·have he:=TellsT.true ht hk
  subst he
  have HE:=HT.out.1 hk
  subst HE
  have CT:Hid (∀W,bj W w.heap.size a b n c m d F O k w->Calls Pg 37 #[.agg #[Ii Jj k.day,Sl a n c,Sl b m d,Ii Jj k.inn,Ii Jj k.out,Ii Jj k.posted,Ii Jj k.missed]] W fun e w'=>e=.returned (.string (cZ F n O m k))/\Below W.heap.size W w'):=fun W hW=>sA a b n c m d F O k W hW.2.1 hW.2.2.1 hk
  clear ht HT
  obtain ⟨⟨c0,c1,c2,c3,c4,c5,c6,cl⟩,_⟩:=X1.out
  go_wp2_with fail
  refine (CT.out _ X1.out).mono ?_
  rintro e w2 ⟨rfl,B2⟩
  have X2:Hid (bj w2 w.heap.size a b n c m d F O k w):=X1.out.below B2
  clear B2 CT c0 c1 c2 c3 c4 c5 c6 cl
  go_wp2
  go_ret
  exact ⟨rfl,X2.out.2.2.2⟩
 ·have he:=TellsT.false ht hk
  subst he
  have HE:=HT.out.2 hk
  subst HE
  clear ht HT
  go_wp2
  go_ret
  exact ⟨rfl,X1.out.2.2.2⟩
end Go.Proofs.YtjhgchlfpolkcaaGreatDoor
