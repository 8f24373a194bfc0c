/- Ran of the specification. -/
import Derived.Test.YtjhgchlfpolkcaaGreatDoorRallx
namespace Go.Proofs.YtjhgchlfpolkcaaGreatDoor
open Value renaming int → Ii,slice → Sl
open IntKind renaming i64 → Jj
open Nat renaming le_refl → Nf
open Go.RowKit
set_option maxRecDepth 8000
set_option linter.unusedVariables false
theorem hZ {w:World} {p:Addr} {L:List am} (H:aJ w (some p) L.length (ai L)) (r:Nat) (hr:r<=L.length):∀j u,((L.take r).flatMap au)[j]? =some u->w.cell? (p.add j)=some u:=fun j u hj=>by
 refine hY H j u ?_
 rw[←jc L r hr,List.getElem?_take] at hj
 split at hj
 ·exact hj
 ·simp at hj
theorem nu (L:List am) (r:Nat):(L.drop r).flatMap au=(L.flatMap au).drop (r*7):=by
 by_cases hr:r<=L.length
 ·have h:=jc L r hr
  have hl:((L.take r).flatMap au).length=r*7:=by rw[bq];simp;omega
  have e:L.flatMap au=(L.take r).flatMap au++(L.drop r).flatMap au:=by rw[←List.flatMap_append,List.take_append_drop]
  rw[e,List.drop_append_of_le_length (by omega),show ((L.take r).flatMap au).drop (r*7)=[] from List.drop_of_length_le (by omega),List.nil_append]
 ·rw[List.drop_of_length_le (by omega),List.drop_of_length_le (by rw[bq];omega)]
  rfl
theorem hU {w:World} {pb po:Nat} {L:List am} (H:aJ w (some ⟨pb,po,none⟩) L.length (ai L)) (r:Nat):∀j u,((L.drop r).flatMap au)[j]? =some u->w.cell? ((⟨pb,po+r*7,none⟩:Addr).add j)=some u:=fun j u hj=>by
 rw[nu,List.getElem?_drop] at hj
 have:=hY H (r*7+j) u hj
 rw[Addr.add_lit] at this ⊢
 rw[show po+r*7+j=po+(r*7+j) by omega]
 exact this
set_option maxHeartbeats 8000000 in
theorem mT (a b:Option Addr) (c d:Nat) (L:List al) (O:List am) (k:Bk) (n:Int) (x:bB) (o:am) (w:World) (hF:Fo w a L.length (FL L)) (hO:aJ w b O.length (ai O)) (hd:O.length<=d) (hb:aj (FL L) L.length (ai O) O.length k) (hok:aA 21 x o n) (ht:dy O n):
  Calls Tryz.prog 88 #[.agg #[Ii Jj k.day,Sl a L.length c,Sl b O.length d,Ii Jj k.inn,Ii Jj k.out,Ii Jj k.posted,Ii Jj k.missed],.agg #[Ii Jj 21,Ii Jj x.k,Ii Jj x.i,Ii Jj x.t,Ii Jj x.m,Ii Jj x.r,Ii Jj o.id,Ii Jj o.src,Ii Jj o.dst,Ii Jj o.amount,Ii Jj o.first,Ii Jj o.every,Ii Jj o.times,Ii Jj n]] w fun e w'=>cY (cM L O k ⟨0,L,dp O n,k⟩) w e w':=by
 have HOK:Hid (aj (FL L) L.length (ai O) O.length k):=hb
 have hl12:L.length<=12:=hb.2.1.1
 have hol:O.length<=8:=hb.2.2.1.1
 have FORM:=ac (fun W=>d8 hok W)
 obtain ⟨i0,hi,hz0,hz1,hz2⟩:=info_parts fS
 obtain ⟨r,hrl,_,hr,hidx⟩:=iw hb.2.2.1 ht
 obtain ⟨pb,po,hbp,_,_⟩:=hO.acc hrl
 have HBP:Hid (b=some ⟨pb,po,none⟩):=hbp
 have HR:Hid (dp O n=O.take r++O.drop (r+1)):=by show dp O n=_;rw[←hr];rfl
 have hcl:=qg O n
 have PL:Hid (∀W,aJ W b O.length (ai O)->Calls Tryz.prog 106 #[Sl b O.length d,Ii Jj n] W fun e w'=>e=.returned (Ii Jj (r:Int))/\Below W.heap.size W w'):=fun W h1=>(f0 b d O n W h1).mono (by
  rintro e w' ⟨rfl,h⟩
  rw[hidx]
  exact ⟨rfl,h⟩)
 clear ht hidx hr hbp
 clear hb hok
 have HF:Hid (Fo w a L.length (FL L)):=hF
 have HO:Hid (aJ w b O.length (ai O)):=hO
 obtain ⟨W0,hW0,hs0,b0,z1,z2,z3⟩:=cn a b c d L O k 21 n x o w
 have HW0:=ac hW0
 have HB0:=ac b0
 have Z1:=ac z1
 have Z2:=ac z2
 have Z3:=ac z3
 clear hW0 b0 z1 z2 z3 hF hO
 go_enter Tryz.func88,Tryz.ntmps88
 go_wp2_with fail
 rw[←HW0.out]
 clear HW0
 refine (ay a b c d L O k _ (HF.out.below HB0.out) (HO.out.below HB0.out)).mono ?_
 rintro e w1 ⟨v1,u1,rfl,A1,O1,D1⟩
 rw[hs0] at A1 O1
 obtain ⟨a1,c1',hv⟩:=A1.len
 subst hv
 obtain ⟨b1,d1,hv⟩:=O1.len
 subst hv
 have OFFA:Hid (∀q,(Value.slice a1 L.length c1').ownBlock=some q->q≠w1.heap.size):=fun q hq=>by have:=(World.ownsRow.lt A1 q hq).2;omega
 obtain ⟨W2,hW2⟩:∃W2,W2=w1.alloc (.cells #[Ii Jj k.day,Sl a1 L.length c1',Sl b1 O.length d1,Ii Jj k.inn,Ii Jj k.out,Ii Jj k.posted,Ii Jj k.missed] 27):=⟨_,rfl⟩
 have D2:Below w1.heap.size w1 W2:=by rw[hW2];exact (Below.refl _ _).alloc (Nf _) _
 have hs1:=D1.size
 have hs2:W2.heap.size=w1.heap.size+1:=by rw[hW2];simp
 have E2:Below W0.heap.size W0 W2:=D1.trans (D2.mono D1.size)
 have PX:Hid (af W2 w1.heap.size (Ii Jj k.day) (Sl a1 L.length c1') (Sl b1 O.length d1) (Ii Jj (k.inn)) (Ii Jj (k.out)) (Ii Jj k.posted) (Ii Jj k.missed)):=by
  show af _ _ _ _ _ _ _ _ _;rw[hW2];exact af.new w1 _ _ _ _ _ _ _ 27
 have P1:Hid (af W2 w.heap.size (Ii Jj k.day) (Sl a L.length c) (Sl b O.length d) (Ii Jj (k.inn)) (Ii Jj (k.out)) (Ii Jj k.posted) (Ii Jj k.missed)):=Z1.out.kept E2 (by omega)
 have P2:Hid (aG W2 (w.heap.size+1) 21 x o n):=Z2.out.kept E2 (by omega)
 have P3:Hid (af W2 (w.heap.size+1+1) (Ii Jj 0) (Sl none 0 0) (Sl none 0 0) (Ii Jj 0) (Ii Jj 0) (Ii Jj 0) (Ii Jj 0)):=Z3.out.kept E2 (by omega)
 have PA:Hid (AL W2 (w.heap.size+1+1+1) (Sl a1 L.length c1') L):=A1.kept D2
 have PO:Hid (ag W2 (w.heap.size+1+1+1) (Sl b1 O.length d1) O):=O1.kept D2
 have PB:Hid (Below w.heap.size w W2):=HB0.out.trans (E2.mono HB0.out.size)
 have HW2:Hid (W2=_):=hW2
 clear hW2 D1 D2 E2 A1 O1 Z1 Z2 Z3 HB0
 obtain ⟨⟨c0,c1,c2,c3,c4,c5,c6,c7,c8,c9,c10,c11,c12,c13⟩,cz⟩:=P2.out
 go_upto_region 10 with fail
 rw[←HW2.out]
 clear HW2
 go_wp2_with fail
 refine (FORM.out _).mono ?_
 rintro e w3 ⟨rfl,E3⟩
 clear c0 c1 c2 c3 c4 c5 c6 c7 c8 c9 c10 c11 c12 c13 cz FORM
 replace P1:=ac (P1.out.kept E3 (by omega))
 replace P3:=ac (P3.out.kept E3 (by omega))
 replace P2:=ac (P2.out.kept E3 (by omega))
 replace PX:=ac (PX.out.kept E3 (by omega))
 replace PA:=ac (PA.out.kept E3)
 replace PO:=ac (PO.out.kept E3)
 replace PB:=ac (PB.out.trans (E3.mono PB.out.size))
 have hs3:w1.heap.size+1<=w3.heap.size:=by have:=E3.size;omega
 clear E3 hs2
 have hs3':(w.heap.size+1+1+1)<=w1.heap.size:=by omega
 clear hs1 hs0
 obtain ⟨⟨c0,c1,c2,c3,c4,c5,c6,c7,c8,c9,c10,c11,c12,c13⟩,cz⟩:=P2.out
 obtain ⟨⟨s0,s1,s2,s3,s4,s5,s6⟩,sf,sz⟩:=P1.out
 go_wp2_with fail
 refine (PL.out _ (HO.out.below PB.out)).mono ?_
 rintro e w4 ⟨rfl,E4⟩
 clear c0 c1 c2 c3 c4 c5 c6 c7 c8 c9 c10 c11 c12 c13 cz s0 s1 s2 s3 s4 s5 s6 sf sz PL
 replace P1:=ac (P1.out.kept E4 (by omega))
 replace P3:=ac (P3.out.kept E4 (by omega))
 replace P2:=ac (P2.out.kept E4 (by omega))
 replace PX:=ac (PX.out.kept E4 (by omega))
 replace PA:=ac (PA.out.kept E4)
 replace PO:=ac (PO.out.kept E4)
 replace PB:=ac (PB.out.trans (E4.mono PB.out.size))
 have hs4:=E4.size
 clear E4
 obtain rfl:=HBP.out
 clear HBP
 obtain ⟨A,hA,hsrc⟩:∃A:Addr,(if d=r+1 then some (⟨pb,po,none⟩:Addr) else some ⟨pb,po+(r+1)*7,none⟩)=some A/\Hid (∀W,aJ W (some ⟨pb,po,none⟩) O.length (ai O)->∀t u,((O.drop (r+1)).flatMap au)[t]? =some u->W.cell? (A.add t)=some u):=by
  by_cases e:d=r+1
  ·refine ⟨⟨pb,po,none⟩,by simp[e],fun W hW t u hu=>?_⟩
   rw[List.drop_of_length_le (by omega)] at hu
   simp at hu
  ·exact ⟨⟨pb,po+(r+1)*7,none⟩,by simp[e],fun W hW t u hu=>hU hW (r+1) t u hu⟩
 have DA:Below w4.heap.size w4 (w4.drew.alloc (.cells #[] 35)):=(show Below w4.heap.size w4 w4.drew from ⟨rfl,rfl,rfl,Nf _,fun _ _=>rfl⟩).alloc (Nf _) _
 have E0:Hid (ag (w4.drew.alloc (.cells #[] 35)) w4.heap.size (Sl (some ⟨w4.heap.size,0,none⟩) 0 0) []):=ag.empty w4.drew _ (Nf _)
 have HC1:Hid (∀j u,((O.take r).flatMap au)[j]? =some u->((w4.drew.alloc (.cells #[] 35))).cell? ((⟨pb,po,none⟩:Addr).add j)=some u):=hZ (HO.out.below (PB.out.trans (DA.mono PB.out.size))) r (by omega)
 have hl1:Hid (((O.take r).flatMap au).length=r*7):=by show ((O.take r).flatMap au).length=r*7;rw[bq];simp;omega
 have hl2:Hid (((O.drop (r+1)).flatMap au).length=(O.length-(r+1))*7):=by show ((O.drop (r+1)).flatMap au).length=_;rw[bq];simp
 have h63:Hid (0+r<=maxLen):=by show 0+r<=maxLen;unfold maxLen;omega
 have hby:Hid ((0+r)*56<=140737488355328):=by show (0+r)*56<=140737488355328;omega
 have h63b:Hid (r+(O.length-(r+1))<=maxLen):=by show r+(O.length-(r+1))<=maxLen;unfold maxLen;omega
 have hbyb:Hid ((r+(O.length-(r+1)))*56<=140737488355328):=by show (r+(O.length-(r+1)))*56<=140737488355328;omega
 have hsA:Hid (w4.heap.size<=((w4.drew.alloc (.cells #[] 35))).heap.size):=by show w4.heap.size<=((w4.drew.alloc (.cells #[] 35))).heap.size;simp
 have AF1:Hid (∀v5 w5,World.ownsRow w5 w4.heap.size 35 7 v5 (0+r) ([]++(O.take r).flatMap au)->World.grownBy (w4.drew.alloc (.cells #[] 35)) w5 (Value.slice (some ⟨w4.heap.size,0,none⟩) 0 0).ownBlock->∃a5 c5,v5=Sl a5 r c5/\World.ownsRow w5 w4.heap.size 35 7 (Sl a5 r c5) r ((O.take r).flatMap au)/\w5.cell? ⟨w.heap.size,2,none⟩=some (Sl (some ⟨pb,po,none⟩) O.length d)/\Below w4.heap.size w4 w5):=by
  intro v5 w5 hown hgrow
  rw[Nat.zero_add,List.nil_append] at hown
  have D5:Below w4.heap.size w4 w5:=DA.trans ((Below.refl _ _).grown hgrow (by simp) (fun j hj=>by simp[Value.ownBlock] at hj;omega))
  obtain ⟨a5,c5,hv⟩:∃a5 c5,v5=Sl a5 r c5:=by
   rcases hown.2 with ⟨e,e2⟩|⟨g,cap,cur,e,_⟩
   ·exact ⟨none,0,by rw[e,e2]⟩
   ·exact ⟨_,_,e⟩
  subst hv
  exact ⟨a5,c5,rfl,hown,(D5.cell (p:=⟨w.heap.size,2,none⟩) P1.out.2.2).trans P1.out.1.2.2.1,D5⟩
 have AF2:Hid (∀a5 c5 w5 v6 w6,World.ownsRow w5 w4.heap.size 35 7 (Sl a5 r c5) r ((O.take r).flatMap au)->Below w4.heap.size w4 w5->World.ownsRow w6 w4.heap.size 35 7 v6 (r+(O.length-(r+1))) ((O.take r).flatMap au++(O.drop (r+1)).flatMap au)->World.grownBy w5 w6 (Value.slice a5 r c5).ownBlock->∃a6 c6,v6=Sl a6 (dp O n).length c6/\ag w6 w4.heap.size (Sl a6 (dp O n).length c6) (dp O n)/\w6.cell? ⟨w.heap.size,2,none⟩=some (Sl (some ⟨pb,po,none⟩) O.length d)/\Below w4.heap.size w4 w6):=by
  intro a5 c5 w5 v6 w6 h5 B5 hown hgrow
  have D6:Below w4.heap.size w4 w6:=B5.grown hgrow B5.size (fun q hq=>(World.ownsRow.lt h5 q hq).1)
  have O6:ag w6 w4.heap.size v6 (dp O n):=by
   unfold ag
   rw[HR.out]
   have hlen:(O.take r++O.drop (r+1)).length=r+(O.length-(r+1)):=by simp;omega
   rw[hlen,List.flatMap_append]
   exact hown
  obtain ⟨a6,c6,rfl⟩:=O6.len
  exact ⟨a6,c6,rfl,O6,(D6.cell (p:=⟨w.heap.size,2,none⟩) P1.out.2.2).trans P1.out.1.2.2.1,D6⟩
 have tA:Hid (((w4.drew.alloc (.cells #[] 35))).cell? ⟨w.heap.size,2,none⟩=some (Sl (some ⟨pb,po,none⟩) O.length d)):=(DA.cell (p:=⟨w.heap.size,2,none⟩) P1.out.2.2).trans P1.out.1.2.2.1
 have HPX:Hid (∀w6,Below w4.heap.size w4 w6->af w6 w1.heap.size (Ii Jj k.day) (Sl a1 L.length c1') (Sl b1 O.length d1) (Ii Jj (k.inn)) (Ii Jj (k.out)) (Ii Jj k.posted) (Ii Jj k.missed)):=fun w6 h=>PX.out.kept h PX.out.2.2
 obtain ⟨⟨s0,s1,s2,s3,s4,s5,s6⟩,sf,sz⟩:=P1.out
 have ne4:¬w.heap.size=w1.heap.size:=by omega
 have ne3:¬w1.heap.size=w.heap.size:=by omega
 have hw1:IntKind.i64.wrap ((r:Int)+1)=(r:Int)+1:=by rw[IntKind.wrap_i64];omega
 have b0:(0:Int)<=(r:Int):=by omega
 have b1':(r:Int)<=(d:Int):=by omega
 have b2:(r:Int)+1<=(d:Int):=by omega
 have b3:(0:Int)<=(r:Int)+1:=by omega
 have b4:(r:Int)+1<=(O.length:Int):=by omega
 have b6:((r:Int)+1).toNat=r+1:=by omega
 have b8:(O.length:Int)<=(d:Int):=by omega
 have hrn:r<=O.length:=by omega
 have hrd:r<=d:=by omega
 have hs4':w1.heap.size<w4.heap.size:=by omega
 clear DA
 go_upto_region 24 with fail
 go_region_held3 (fun V=>V.cell? ⟨w.heap.size,2,none⟩=some (Sl (some ⟨pb,po,none⟩) O.length d)) (first|exact s2|exact tA.out|exact k5|exact k6|(rw[World.cell?_setCell_other _ _ _ _ (by intro e;exact ne4 (congrArg Addr.block e).symm)];exact k6))
  (first
   | (refine az _ (by rfl) _ _ 25 (by rfl) w4.heap.size 35 i0 _ 7 56 Tryz.underlying25 hi hz0 hz1 hz2 rfl (by decide) _ _ _ (by rfl) E0.out ⟨pb,po,none⟩ r d ((O.take r).flatMap au) (by rfl) hl1.out HC1.out (dJ _) h63.out hby.out hsA.out ?_;intro v5 w5 hown hgrow;obtain ⟨a5,c5,rfl,O5,k5,B5⟩:=AF1.out v5 w5 hown hgrow;clear hown hgrow)
   | (refine az _ (by rfl) _ _ 25 (by rfl) w4.heap.size 35 i0 _ 7 56 Tryz.underlying25 hi hz0 hz1 hz2 rfl (by decide) _ _ _ (by rfl) O5 A (O.length-(r+1)) (d-(r+1)) ((O.drop (r+1)).flatMap au) (by rfl) hl2.out (hsrc.out w5 (HO.out.below (PB.out.trans (B5.mono PB.out.size)))) (dJ _) h63b.out hbyb.out B5.size ?_;intro v6 w6 hown hgrow;obtain ⟨a6,c6,rfl,O6,k6,B6⟩:=AF2.out a5 c5 w5 v6 w6 O5 B5 hown hgrow;clear hown hgrow;obtain ⟨⟨x0,x1,x2,x3,x4,x5,x6⟩,xf,xz⟩:=HPX.out w6 B6))
 obtain ⟨V7,hV7⟩:∃V7,V7=w6.setCell ⟨w1.heap.size,2,none⟩ (Sl a6 (dp O n).length c6):=⟨_,rfl⟩
 have hz7:V7.heap.size=w6.heap.size:=by rw[hV7];simp[World.setCell]
 have hs6:=B6.size
 have XT:Hid (af V7 w1.heap.size (Ii Jj (k.day)) (Sl a1 L.length c1') (Sl a6 (dp O n).length c6) (Ii Jj (k.inn)) (Ii Jj (k.out)) (Ii Jj (k.posted)) (Ii Jj (k.missed))):=by show af _ _ _ _ _ _ _ _ _;rw[hV7];exact (PX.out.kept B6 PX.out.2.2).set2 _
 have AT:Hid (AL V7 (w.heap.size+1+1+1) (Sl a1 L.length c1') L):=by show AL _ _ _ _;rw[hV7];exact (PA.out.kept B6).off OFFA.out _ _
 have OT:Hid (ag V7 (w.heap.size+1+1+1) (Sl a6 (dp O n).length c6) (dp O n)):=by
  show ag _ _ _ _;rw[hV7]
  exact ag.mono (O6.far hs4' _ _) (by omega)
 have P1':Hid (af V7 w.heap.size (Ii Jj k.day) (Sl a L.length c) (Sl (some ⟨pb,po,none⟩) O.length d) (Ii Jj (k.inn)) (Ii Jj (k.out)) (Ii Jj k.posted) (Ii Jj k.missed)):=by show af _ _ _ _ _ _ _ _ _;rw[hV7];exact (P1.out.kept B6 P1.out.2.2).far (by omega) _ _
 have P3':Hid (af V7 (w.heap.size+1+1) (Ii Jj 0) (Sl none 0 0) (Sl none 0 0) (Ii Jj 0) (Ii Jj 0) (Ii Jj 0) (Ii Jj 0)):=by show af _ _ _ _ _ _ _ _ _;rw[hV7];exact (P3.out.kept B6 P3.out.2.2).far (by omega) _ _
 have PB':Hid (Below w.heap.size w V7):=by show Below _ _ _;rw[hV7];exact ak (PB.out.trans (B6.mono PB.out.size)) (by omega) _ _
 rw[←hV7]
 clear hV7 O5 O6 B5 B6 k5 k6 x0 x1 x2 x3 x4 x5 x6 xf xz s0 s1 s2 s3 s4 s5 s6 sf sz PX PA PO P1 P2 P3 PB E0 HC1 tA AF1 AF2 HPX
 have P1:=P1'
 have P3:=P3'
 have PB:=PB'
 clear P1' P3' PB'
 have BNK:Hid (Calls Tryz.prog 36 #[.agg #[Ii Jj (k.day),Sl a1 L.length c1',Sl a6 (dp O n).length c6,Ii Jj (k.inn),Ii Jj (k.out),Ii Jj (k.posted),Ii Jj (k.missed)]] V7 fun e w'=>ae e (Rn.mk 0 L (dp O n) k).ok/\Below V7.heap.size V7 w'):=by
  have:=cC a1 a6 (L.length) c1' ((dp O n).length) c6 (FL L) (ai (dp O n)) k V7 (AT.out.fo (by omega)).2 (OT.out.list (by omega)).2
  exact this
 obtain ⟨⟨x0,x1,x2,x3,x4,x5,x6⟩,xf,xz⟩:=XT.out
 go_wp2_with fail
 refine BNK.out.mono ?_
 rintro e w8 ⟨⟨bb,rfl,hb1,hb2⟩,B8⟩
 have hs8:=B8.size
 clear x0 x1 x2 x3 x4 x5 x6 xf xz
 have XT':Hid (af w8 w1.heap.size (Ii Jj (k.day)) (Sl a1 L.length c1') (Sl a6 (dp O n).length c6) (Ii Jj (k.inn)) (Ii Jj (k.out)) (Ii Jj (k.posted)) (Ii Jj (k.missed))):=XT.out.kept B8 XT.out.2.2
 have AT':Hid (AL w8 (w.heap.size+1+1+1) (Sl a1 L.length c1') L):=AT.out.kept B8
 have OT':Hid (ag w8 (w.heap.size+1+1+1) (Sl a6 (dp O n).length c6) (dp O n)):=OT.out.kept B8
 have P1':Hid (af w8 w.heap.size (Ii Jj k.day) (Sl a L.length c) (Sl (some ⟨pb,po,none⟩) O.length d) (Ii Jj (k.inn)) (Ii Jj (k.out)) (Ii Jj k.posted) (Ii Jj k.missed)):=P1.out.kept B8 P1.out.2.2
 have P3':Hid (af w8 (w.heap.size+1+1) (Ii Jj 0) (Sl none 0 0) (Sl none 0 0) (Ii Jj 0) (Ii Jj 0) (Ii Jj 0) (Ii Jj 0)):=P3.out.kept B8 P3.out.2.2
 have PB':Hid (Below w.heap.size w w8):=PB.out.trans (B8.mono PB.out.size)
 clear XT AT OT P1 P3 PB B8 BNK
 have P1:=P1'
 have P3:=P3'
 have PB:=PB'
 clear P1' P3' PB'
 cases bb with
 | true=>
  have HN:Hid ((Rn.mk 0 L (dp O n) k).ok):=hb1 rfl
  obtain ⟨⟨x0,x1,x2,x3,x4,x5,x6⟩,xf,xz⟩:=XT'.out
  obtain ⟨⟨r0,r1,r2,r3,r4,r5,r6⟩,rf,rz⟩:=P3.out
  clear hb1 hb2
  go_wp2
  refine bodyPost_ret (v:=.tuple #[.agg #[Ii Jj (k.day),Sl a1 L.length c1',Sl a6 (dp O n).length c6,Ii Jj (k.inn),Ii Jj (k.out),Ii Jj (k.posted),Ii Jj (k.missed)],Ii Jj 0]) (by simp[results,Tryz.results88,go_sem,r0,r1,r2,r3,r4,r5,r6]) rfl ?_
  rw[eF (q:=(Rn.mk 0 L (dp O n) k)) rfl HN.out]
  refine ⟨Sl a1 L.length c1',Sl a6 (dp O n).length c6,?_,?_,?_,?_⟩
  ·rfl
  ·refine AL.mono (B:=(w.heap.size+1+1+1)) ?_ (by omega)
   repeat (refine AL.far ?_ (by omega) _ _)
   exact AT'.out
  ·refine ag.mono (B:=(w.heap.size+1+1+1)) ?_ (by omega)
   repeat (refine ag.far ?_ (by omega) _ _)
   exact OT'.out
  ·repeat (refine ak ?_ (by omega) _ _)
   exact PB.out
 | false=>
  have HN:Hid (¬(Rn.mk 0 L (dp O n) k).ok):=hb2 rfl
  have HFIN:Hid (cM L O k (Rn.mk 0 L (dp O n) k)=⟨7,L,O,k⟩):=dR (q:=(Rn.mk 0 L (dp O n) k)) rfl HN.out
  clear hb1 hb2 XT' AT' OT'
  obtain ⟨⟨s0,s1,s2,s3,s4,s5,s6⟩,sf,sz⟩:=P1.out
  go_wp2_with fail
  refine (ay _ _ c d L O k _ (HF.out.below PB.out) (HO.out.below PB.out)).mono ?_
  rintro e w9 ⟨v9,u9,rfl,A9,O9,B9⟩
  obtain ⟨a9,c9,hv⟩:=A9.len
  subst hv
  obtain ⟨b9,d9,hv⟩:=O9.len
  subst hv
  clear s0 s1 s2 s3 s4 s5 s6 sf sz
  have hs9:w.heap.size+1+1<w8.heap.size:=P3.out.2.2
  obtain ⟨⟨r0,r1,r2,r3,r4,r5,r6⟩,rf,rz⟩:=P3.out.kept B9 hs9
  have HA9:Hid (AL w9 w8.heap.size (Sl a9 L.length c9) L):=A9
  have HO9:Hid (ag w9 w8.heap.size (Sl b9 O.length d9) O):=O9
  have HB9:Hid (Below w.heap.size w w9):=PB.out.trans (B9.mono PB.out.size)
  clear A9 O9 B9 P1 P3 PB
  go_wp2
  refine bodyPost_ret (v:=.tuple #[.agg #[Ii Jj (k.day),Sl a9 L.length c9,Sl b9 O.length d9,Ii Jj (k.inn),Ii Jj (k.out),Ii Jj (k.posted),Ii Jj (k.missed)],Ii Jj 7]) (by simp[results,Tryz.results88,go_sem,r0,r1,r2,r3,r4,r5,r6]) rfl ?_
  rw[HFIN.out]
  refine ⟨_,_,rfl,?_,?_,?_⟩
  ·refine AL.mono (B:=w8.heap.size) ?_ (by omega)
   repeat (refine AL.far ?_ hs9 _ _)
   exact HA9.out
  ·refine ag.mono (B:=w8.heap.size) ?_ (by omega)
   repeat (refine ag.far ?_ hs9 _ _)
   exact HO9.out
  ·repeat (refine ak ?_ (by omega) _ _)
   exact HB9.out
end Go.Proofs.YtjhgchlfpolkcaaGreatDoor
