/- Ran of the specification. -/
import Derived.Test.YtghkbhggopiajaaGreatDoorRanIr
namespace Go.Proofs.YtghkbhggopiajaaGreatDoor
open Value renaming int → Ii,slice → Sl
open IntKind renaming i64 → Jj
open Nat renaming le_refl → Nf
open Go.RowKit
set_option maxRecDepth 8000
set_option linter.unusedVariables false
theorem ir {w:World} {p:Addr} {L:List au} (H:aG w (some p) L.length (ae L)) (r:Nat) (hr:r<=L.length):∀j u,((L.take r).flatMap an)[j]? =some u->w.cell? (p.add j)=some u:=fun j u hj=>by
 refine ii H j u ?_
 rw[←eC L r hr,List.getElem?_take] at hj
 split at hj
 ·exact hj
 ·simp at hj
theorem pj (L:List au) (r:Nat):(L.drop r).flatMap an=(L.flatMap an).drop (r*7):=by
 by_cases hr:r<=L.length
 ·have h:=eC L r hr
  have hl:((L.take r).flatMap an).length=r*7:=by rw[aA];simp;omega
  have e:L.flatMap an=(L.take r).flatMap an++(L.drop r).flatMap an:=by rw[←List.flatMap_append,List.take_append_drop]
  rw[e,List.drop_append_of_le_length (by omega),show ((L.take r).flatMap an).drop (r*7)=[] from List.drop_of_length_le (by omega),List.nil_append]
 ·rw[List.drop_of_length_le (by omega),List.drop_of_length_le (by rw[aA];omega)]
  rfl
theorem it {w:World} {pb po:Nat} {L:List au} (H:aG w (some ⟨pb,po,none⟩) L.length (ae L)) (r:Nat):∀j u,((L.drop r).flatMap an)[j]? =some u->w.cell? ((⟨pb,po+r*7,none⟩:Addr).add j)=some u:=fun j u hj=>by
 rw[pj,List.getElem?_drop] at hj
 have:=ii H (r*7+j) u hj
 rw[Addr.add_lit] at this ⊢
 rw[show po+r*7+j=po+(r*7+j) by omega]
 exact this
set_option maxHeartbeats 8000000 in
theorem nS (a b:Option Addr) (c d:Nat) (L:List aj) (O:List au) (k:Bk) (n:Int) (x:cV) (o:au) (w:World) (hF:Fo w a L.length (FL L)) (hO:aG w b O.length (ae O)) (hd:O.length<=d) (hb:aq (FL L) L.length (ae O) O.length k) (hok:ba 21 x o n) (ht:bv O n):
  Calls Tryz.prog 84 #[.agg #[Ii Jj k.day,Sl a L.length c,Sl b O.length d,Ii Jj k.inn,Ii Jj k.out,Ii Jj k.posted,Ii Jj k.missed],.agg #[Ii Jj 21,Ii Jj x.k,Ii Jj x.i,Ii Jj x.t,Ii Jj x.m,Ii Jj x.r,Ii Jj o.id,Ii Jj o.src,Ii Jj o.dst,Ii Jj o.amount,Ii Jj o.first,Ii Jj o.every,Ii Jj o.times,Ii Jj n]] w fun e w'=>ch (cG L O k ⟨0,L,cQ O n,k⟩) w e w':=by
 have HOK:=aa hb
 have hl12:L.length<=12:=hb.2.1.1
 have hol:O.length<=8:=hb.2.2.1.1
 have FORM:=aa (fun W=>dm hok W)
 obtain ⟨i0,hi,hz0,hz1,hz2⟩:=info_parts dd
 obtain ⟨r,hrl,_,hr,hidx⟩:=fM hb.2.2.1 ht
 obtain ⟨pb,po,hbp,_,_⟩:=hO.acc hrl
 have HBP:=aa hbp
 have HR:Hid (cQ O n=O.take r++O.drop (r+1)):=by show cQ O n=_;rw[←hr];rfl
 have hcl:=nJ O n
 have PL:Hid (∀W,aG W b O.length (ae O)->Calls Tryz.prog 134 #[Sl b O.length d,Ii Jj n] W fun e w'=>e=.returned (Ii Jj (r:Int))/\Below W.heap.size W w'):=fun W h1=>(f7 b d O n W h1).mono (by
  rintro e w' ⟨rfl,h⟩
  rw[hidx]
  exact ⟨rfl,h⟩)
 clear ht hidx hr hbp
 clear hb hok
 have HF:=aa hF
 have HO:=aa hO
 obtain ⟨W0,hW0,hs0,b0,z1,z2,z3⟩:=bY a b c d L O k 21 n x o w
 have HW0:=aa hW0
 have HB0:=aa b0
 have Z1:=aa z1
 have Z2:=aa z2
 have Z3:=aa z3
 clear hW0 b0 z1 z2 z3 hF hO
 go_enter Tryz.func84,Tryz.ntmps84
 go_wp2_with fail
 rw[←HW0.out]
 clear HW0
 refine (aC a b c d L O k _ (HF.out.below HB0.out) (HO.out.below HB0.out)).mono ?_
 rintro e w1 ⟨v1,u1,rfl,A1,O1,D1⟩
 rw[hs0] at A1 O1
 obtain ⟨a1,c1',hv⟩:=A1.len
 subst hv
 obtain ⟨b1,d1,hv⟩:=O1.len
 subst hv
 have OFFA:Hid (∀q,(Value.slice a1 L.length c1').ownBlock=some q->q≠w1.heap.size):=fun q hq=>by have:=(World.ownsRow.lt A1 q hq).2;omega
 obtain ⟨W2,hW2⟩:∃W2,W2=w1.alloc (.cells #[Ii Jj k.day,Sl a1 L.length c1',Sl b1 O.length d1,Ii Jj k.inn,Ii Jj k.out,Ii Jj k.posted,Ii Jj k.missed] 38):=⟨_,rfl⟩
 have D2:Below w1.heap.size w1 W2:=by rw[hW2];exact (Below.refl _ _).alloc (Nf _) _
 have hs1:=D1.size
 have hs2:W2.heap.size=w1.heap.size+1:=by rw[hW2];simp
 have E2:Below W0.heap.size W0 W2:=D1.trans (D2.mono D1.size)
 have PX:Hid (bW W2 w1.heap.size (Sl a1 L.length c1') (Sl b1 O.length d1) k):=by
  show ak _ _ _ _ _ _ _ _ _;rw[hW2];exact ak.new w1 _ _ _ _ _ _ _ 38
 have P1:=aa (Z1.out.kept E2 (by omega))
 have P2:=aa (Z2.out.kept E2 (by omega))
 have P3:=aa (Z3.out.kept E2 (by omega))
 have PA:=aa (A1.kept D2)
 have PO:=aa (O1.kept D2)
 have PB:=aa (HB0.out.trans (E2.mono HB0.out.size))
 have HW2:=aa hW2
 clear hW2 D1 D2 E2 A1 O1 Z1 Z2 Z3 HB0
 obtain ⟨⟨c0,c1,c2,c3,c4,c5,c6,c7,c8,c9,c10,c11,c12,c13⟩,cz⟩:=P2.out
 go_upto_region 10 with fail
 rw[←HW2.out]
 clear HW2
 go_wp2_with fail
 refine (FORM.out _).mono ?_
 rintro e w3 ⟨rfl,E3⟩
 clear c0 c1 c2 c3 c4 c5 c6 c7 c8 c9 c10 c11 c12 c13 cz FORM
 replace P1:=aa (P1.out.kept E3 (by omega))
 replace P3:=aa (P3.out.kept E3 (by omega))
 replace P2:=aa (P2.out.kept E3 (by omega))
 replace PX:=aa (PX.out.kept E3 (by omega))
 replace PA:=aa (PA.out.kept E3)
 replace PO:=aa (PO.out.kept E3)
 replace PB:=aa (PB.out.trans (E3.mono PB.out.size))
 have hs3:w1.heap.size+1<=w3.heap.size:=by have:=E3.size;omega
 clear E3 hs2
 have hs3':(w.heap.size+1+1+1)<=w1.heap.size:=by omega
 clear hs1 hs0
 obtain ⟨⟨c0,c1,c2,c3,c4,c5,c6,c7,c8,c9,c10,c11,c12,c13⟩,cz⟩:=P2.out
 obtain ⟨⟨s0,s1,s2,s3,s4,s5,s6⟩,sf,sz⟩:=P1.out
 go_wp2_with fail
 refine (PL.out _ (HO.out.below PB.out)).mono ?_
 rintro e w4 ⟨rfl,E4⟩
 clear c0 c1 c2 c3 c4 c5 c6 c7 c8 c9 c10 c11 c12 c13 cz s0 s1 s2 s3 s4 s5 s6 sf sz PL
 replace P1:=aa (P1.out.kept E4 (by omega))
 replace P3:=aa (P3.out.kept E4 (by omega))
 replace P2:=aa (P2.out.kept E4 (by omega))
 replace PX:=aa (PX.out.kept E4 (by omega))
 replace PA:=aa (PA.out.kept E4)
 replace PO:=aa (PO.out.kept E4)
 replace PB:=aa (PB.out.trans (E4.mono PB.out.size))
 have hs4:=E4.size
 clear E4
 obtain rfl:=HBP.out
 clear HBP
 obtain ⟨A,hA,hsrc⟩:∃A:Addr,(if d=r+1 then some (⟨pb,po,none⟩:Addr) else some ⟨pb,po+(r+1)*7,none⟩)=some A/\Hid (∀W,aG W (some ⟨pb,po,none⟩) O.length (ae O)->∀t u,((O.drop (r+1)).flatMap an)[t]? =some u->W.cell? (A.add t)=some u):=by
  by_cases e:d=r+1
  ·refine ⟨⟨pb,po,none⟩,by simp[e],fun W hW t u hu=>?_⟩
   rw[List.drop_of_length_le (by omega)] at hu
   simp at hu
  ·exact ⟨⟨pb,po+(r+1)*7,none⟩,by simp[e],fun W hW t u hu=>it hW (r+1) t u hu⟩
 have DA:Below w4.heap.size w4 (w4.drew.alloc (.cells #[] 45)):=(show Below w4.heap.size w4 w4.drew from ⟨rfl,rfl,rfl,Nf _,fun _ _=>rfl⟩).alloc (Nf _) _
 have E0:Hid (ah (w4.drew.alloc (.cells #[] 45)) w4.heap.size (Sl (some ⟨w4.heap.size,0,none⟩) 0 0) []):=ah.empty w4.drew _ (Nf _)
 have HC1:Hid (∀j u,((O.take r).flatMap an)[j]? =some u->((w4.drew.alloc (.cells #[] 45))).cell? ((⟨pb,po,none⟩:Addr).add j)=some u):=ir (HO.out.below (PB.out.trans (DA.mono PB.out.size))) r (by omega)
 have hl1:Hid (((O.take r).flatMap an).length=r*7):=by show ((O.take r).flatMap an).length=r*7;rw[aA];simp;omega
 have hl2:Hid (((O.drop (r+1)).flatMap an).length=(O.length-(r+1))*7):=by show ((O.drop (r+1)).flatMap an).length=_;rw[aA];simp
 have h63:Hid (0+r<=maxLen):=by show 0+r<=maxLen;unfold maxLen;omega
 have hby:Hid ((0+r)*56<=140737488355328):=by show (0+r)*56<=140737488355328;omega
 have h63b:Hid (r+(O.length-(r+1))<=maxLen):=by show r+(O.length-(r+1))<=maxLen;unfold maxLen;omega
 have hbyb:Hid ((r+(O.length-(r+1)))*56<=140737488355328):=by show (r+(O.length-(r+1)))*56<=140737488355328;omega
 have hsA:Hid (w4.heap.size<=((w4.drew.alloc (.cells #[] 45))).heap.size):=by show w4.heap.size<=((w4.drew.alloc (.cells #[] 45))).heap.size;simp
 have AF1:Hid (∀v5 w5,World.ownsRow w5 w4.heap.size 45 7 v5 (0+r) ([]++(O.take r).flatMap an)->World.grownBy (w4.drew.alloc (.cells #[] 45)) w5 (Value.slice (some ⟨w4.heap.size,0,none⟩) 0 0).ownBlock->∃a5 c5,v5=Sl a5 r c5/\World.ownsRow w5 w4.heap.size 45 7 (Sl a5 r c5) r ((O.take r).flatMap an)/\w5.cell? ⟨w.heap.size,2,none⟩=some (Sl (some ⟨pb,po,none⟩) O.length d)/\Below w4.heap.size w4 w5):=by
  intro v5 w5 hown hgrow
  rw[Nat.zero_add,List.nil_append] at hown
  have D5:Below w4.heap.size w4 w5:=DA.trans ((Below.refl _ _).grown hgrow (by simp) (fun j hj=>by simp[Value.ownBlock] at hj;omega))
  obtain ⟨a5,c5,hv⟩:∃a5 c5,v5=Sl a5 r c5:=by
   rcases hown.2 with ⟨e,e2⟩|⟨g,cap,cur,e,_⟩
   ·exact ⟨none,0,by rw[e,e2]⟩
   ·exact ⟨_,_,e⟩
  subst hv
  exact ⟨a5,c5,rfl,hown,(D5.cell (p:=⟨w.heap.size,2,none⟩) P1.out.2.2).trans P1.out.1.2.2.1,D5⟩
 have AF2:Hid (∀a5 c5 w5 v6 w6,World.ownsRow w5 w4.heap.size 45 7 (Sl a5 r c5) r ((O.take r).flatMap an)->Below w4.heap.size w4 w5->World.ownsRow w6 w4.heap.size 45 7 v6 (r+(O.length-(r+1))) ((O.take r).flatMap an++(O.drop (r+1)).flatMap an)->World.grownBy w5 w6 (Value.slice a5 r c5).ownBlock->∃a6 c6,v6=Sl a6 (cQ O n).length c6/\ah w6 w4.heap.size (Sl a6 (cQ O n).length c6) (cQ O n)/\w6.cell? ⟨w.heap.size,2,none⟩=some (Sl (some ⟨pb,po,none⟩) O.length d)/\Below w4.heap.size w4 w6):=by
  intro a5 c5 w5 v6 w6 h5 B5 hown hgrow
  have D6:Below w4.heap.size w4 w6:=B5.grown hgrow B5.size (fun q hq=>(World.ownsRow.lt h5 q hq).1)
  have O6:ah w6 w4.heap.size v6 (cQ O n):=by
   unfold ah
   rw[HR.out]
   have hlen:(O.take r++O.drop (r+1)).length=r+(O.length-(r+1)):=by simp;omega
   rw[hlen,List.flatMap_append]
   exact hown
  obtain ⟨a6,c6,rfl⟩:=O6.len
  exact ⟨a6,c6,rfl,O6,(D6.cell (p:=⟨w.heap.size,2,none⟩) P1.out.2.2).trans P1.out.1.2.2.1,D6⟩
 have tA:Hid (((w4.drew.alloc (.cells #[] 45))).cell? ⟨w.heap.size,2,none⟩=some (Sl (some ⟨pb,po,none⟩) O.length d)):=(DA.cell (p:=⟨w.heap.size,2,none⟩) P1.out.2.2).trans P1.out.1.2.2.1
 have HPX:Hid (∀w6,Below w4.heap.size w4 w6->bW w6 w1.heap.size (Sl a1 L.length c1') (Sl b1 O.length d1) k):=fun w6 h=>PX.out.kept h PX.out.2.2
 obtain ⟨⟨s0,s1,s2,s3,s4,s5,s6⟩,sf,sz⟩:=P1.out
 have ne4:¬w.heap.size=w1.heap.size:=by omega
 have ne3:¬w1.heap.size=w.heap.size:=by omega
 have hw1:IntKind.i64.wrap ((r:Int)+1)=(r:Int)+1:=by rw[IntKind.wrap_i64];omega
 have b0:(0:Int)<=(r:Int):=by omega
 have b1':(r:Int)<=(d:Int):=by omega
 have b2:(r:Int)+1<=(d:Int):=by omega
 have b3:(0:Int)<=(r:Int)+1:=by omega
 have b4:(r:Int)+1<=(O.length:Int):=by omega
 have b6:((r:Int)+1).toNat=r+1:=by omega
 have b8:(O.length:Int)<=(d:Int):=by omega
 have hrn:r<=O.length:=by omega
 have hrd:r<=d:=by omega
 have hs4':w1.heap.size<w4.heap.size:=by omega
 clear DA
 go_upto_region 24 with fail
 go_region_held3 (fun V=>V.cell? ⟨w.heap.size,2,none⟩=some (Sl (some ⟨pb,po,none⟩) O.length d)) (first|exact s2|exact tA.out|exact k5|exact k6|(rw[World.cell?_setCell_other _ _ _ _ (by intro e;exact ne4 (congrArg Addr.block e).symm)];exact k6))
  (first
   | (refine aT _ (by rfl) _ _ 36 (by rfl) w4.heap.size 45 i0 _ 7 56 Tryz.underlying36 hi hz0 hz1 hz2 rfl (by decide) _ _ _ (by rfl) E0.out ⟨pb,po,none⟩ r d ((O.take r).flatMap an) (by rfl) hl1.out HC1.out (cL _) h63.out hby.out hsA.out ?_;intro v5 w5 hown hgrow;obtain ⟨a5,c5,rfl,O5,k5,B5⟩:=AF1.out v5 w5 hown hgrow;clear hown hgrow)
   | (refine aT _ (by rfl) _ _ 36 (by rfl) w4.heap.size 45 i0 _ 7 56 Tryz.underlying36 hi hz0 hz1 hz2 rfl (by decide) _ _ _ (by rfl) O5 A (O.length-(r+1)) (d-(r+1)) ((O.drop (r+1)).flatMap an) (by rfl) hl2.out (hsrc.out w5 (HO.out.below (PB.out.trans (B5.mono PB.out.size)))) (cL _) h63b.out hbyb.out B5.size ?_;intro v6 w6 hown hgrow;obtain ⟨a6,c6,rfl,O6,k6,B6⟩:=AF2.out a5 c5 w5 v6 w6 O5 B5 hown hgrow;clear hown hgrow;obtain ⟨⟨x0,x1,x2,x3,x4,x5,x6⟩,xf,xz⟩:=HPX.out w6 B6))
 obtain ⟨V7,hV7⟩:∃V7,V7=w6.setCell ⟨w1.heap.size,2,none⟩ (Sl a6 (cQ O n).length c6):=⟨_,rfl⟩
 have hz7:V7.heap.size=w6.heap.size:=by rw[hV7];simp[World.setCell]
 have hs6:=B6.size
 have XT:Hid (bW V7 w1.heap.size (Sl a1 L.length c1') (Sl a6 (cQ O n).length c6) k):=by show ak _ _ _ _ _ _ _ _ _;rw[hV7];exact (PX.out.kept B6 PX.out.2.2).set2 _
 have AT:Hid (AL V7 (w.heap.size+1+1+1) (Sl a1 L.length c1') L):=by show AL _ _ _ _;rw[hV7];exact (PA.out.kept B6).off OFFA.out _ _
 have OT:Hid (ah V7 (w.heap.size+1+1+1) (Sl a6 (cQ O n).length c6) (cQ O n)):=by
  show ah _ _ _ _;rw[hV7]
  exact ah.mono (O6.far hs4' _ _) (by omega)
 have P1':Hid (bW V7 w.heap.size (Sl a L.length c) (Sl (some ⟨pb,po,none⟩) O.length d) k):=by show ak _ _ _ _ _ _ _ _ _;rw[hV7];exact (P1.out.kept B6 P1.out.2.2).far (by omega) _ _
 have P3':Hid (fu V7 (w.heap.size+1+1)):=by show ak _ _ _ _ _ _ _ _ _;rw[hV7];exact (P3.out.kept B6 P3.out.2.2).far (by omega) _ _
 have PB':Hid (Below w.heap.size w V7):=by show Below _ _ _;rw[hV7];exact ai (PB.out.trans (B6.mono PB.out.size)) (by omega) _ _
 rw[←hV7]
 clear hV7 O5 O6 B5 B6 k5 k6 x0 x1 x2 x3 x4 x5 x6 xf xz s0 s1 s2 s3 s4 s5 s6 sf sz PX PA PO P1 P2 P3 PB E0 HC1 tA AF1 AF2 HPX
 have P1:=P1'
 have P3:=P3'
 have PB:=PB'
 clear P1' P3' PB'
 have BNK:Hid (Calls Tryz.prog 31 #[.agg #[Ii Jj (k.day),Sl a1 L.length c1',Sl a6 (cQ O n).length c6,Ii Jj (k.inn),Ii Jj (k.out),Ii Jj (k.posted),Ii Jj (k.missed)]] V7 fun e w'=>af e (Rn.mk 0 L (cQ O n) k).ok/\Below V7.heap.size V7 w'):=by
  have:=ck a1 a6 (L.length) c1' ((cQ O n).length) c6 (FL L) (ae (cQ O n)) k V7 (AT.out.fo (by omega)).2 (OT.out.list (by omega)).2
  exact this
 obtain ⟨⟨x0,x1,x2,x3,x4,x5,x6⟩,xf,xz⟩:=XT.out
 go_wp2_with fail
 refine BNK.out.mono ?_
 rintro e w8 ⟨⟨bb,rfl,hb1,hb2⟩,B8⟩
 have hs8:=B8.size
 clear x0 x1 x2 x3 x4 x5 x6 xf xz
 have XT':=aa (XT.out.kept B8 XT.out.2.2)
 have AT':=aa (AT.out.kept B8)
 have OT':=aa (OT.out.kept B8)
 have P1':=aa (P1.out.kept B8 P1.out.2.2)
 have P3':=aa (P3.out.kept B8 P3.out.2.2)
 have PB':=aa (PB.out.trans (B8.mono PB.out.size))
 clear XT AT OT P1 P3 PB B8 BNK
 have P1:=P1'
 have P3:=P3'
 have PB:=PB'
 clear P1' P3' PB'
 cases bb with
 | true=>
  have HN:Hid ((Rn.mk 0 L (cQ O n) k).ok):=hb1 rfl
  obtain ⟨⟨x0,x1,x2,x3,x4,x5,x6⟩,xf,xz⟩:=XT'.out
  obtain ⟨⟨r0,r1,r2,r3,r4,r5,r6⟩,rf,rz⟩:=P3.out
  clear hb1 hb2
  go_wp2
  refine bodyPost_ret (v:=.tuple #[.agg #[Ii Jj (k.day),Sl a1 L.length c1',Sl a6 (cQ O n).length c6,Ii Jj (k.inn),Ii Jj (k.out),Ii Jj (k.posted),Ii Jj (k.missed)],Ii Jj 0]) (by simp[results,Tryz.results84,go_sem,r0,r1,r2,r3,r4,r5,r6]) rfl ?_
  rw[dQ (q:=(Rn.mk 0 L (cQ O n) k)) rfl HN.out]
  refine ⟨Sl a1 L.length c1',Sl a6 (cQ O n).length c6,?_,?_,?_,?_⟩
  ·rfl
  ·refine AL.mono (B:=(w.heap.size+1+1+1)) ?_ (by omega)
   repeat (refine AL.far ?_ (by omega) _ _)
   exact AT'.out
  ·refine ah.mono (B:=(w.heap.size+1+1+1)) ?_ (by omega)
   repeat (refine ah.far ?_ (by omega) _ _)
   exact OT'.out
  ·repeat (refine ai ?_ (by omega) _ _)
   exact PB.out
 | false=>
  have HN:Hid (¬(Rn.mk 0 L (cQ O n) k).ok):=hb2 rfl
  have HFIN:Hid (cG L O k (Rn.mk 0 L (cQ O n) k)=⟨7,L,O,k⟩):=dl (q:=(Rn.mk 0 L (cQ O n) k)) rfl HN.out
  clear hb1 hb2 XT' AT' OT'
  obtain ⟨⟨s0,s1,s2,s3,s4,s5,s6⟩,sf,sz⟩:=P1.out
  go_wp2_with fail
  refine (aC _ _ c d L O k _ (HF.out.below PB.out) (HO.out.below PB.out)).mono ?_
  rintro e w9 ⟨v9,u9,rfl,A9,O9,B9⟩
  obtain ⟨a9,c9,hv⟩:=A9.len
  subst hv
  obtain ⟨b9,d9,hv⟩:=O9.len
  subst hv
  clear s0 s1 s2 s3 s4 s5 s6 sf sz
  have hs9:w.heap.size+1+1<w8.heap.size:=P3.out.2.2
  obtain ⟨⟨r0,r1,r2,r3,r4,r5,r6⟩,rf,rz⟩:=P3.out.kept B9 hs9
  have HA9:=aa A9
  have HO9:=aa O9
  have HB9:=aa (PB.out.trans (B9.mono PB.out.size))
  clear A9 O9 B9 P1 P3 PB
  go_wp2
  refine bodyPost_ret (v:=.tuple #[.agg #[Ii Jj (k.day),Sl a9 L.length c9,Sl b9 O.length d9,Ii Jj (k.inn),Ii Jj (k.out),Ii Jj (k.posted),Ii Jj (k.missed)],Ii Jj 7]) (by simp[results,Tryz.results84,go_sem,r0,r1,r2,r3,r4,r5,r6]) rfl ?_
  rw[HFIN.out]
  refine ⟨_,_,rfl,?_,?_,?_⟩
  ·refine AL.mono (B:=w8.heap.size) ?_ (by omega)
   repeat (refine AL.far ?_ hs9 _ _)
   exact HA9.out
  ·refine ah.mono (B:=w8.heap.size) ?_ (by omega)
   repeat (refine ah.far ?_ hs9 _ _)
   exact HO9.out
  ·repeat (refine ai ?_ (by omega) _ _)
   exact HB9.out
end Go.Proofs.YtghkbhggopiajaaGreatDoor
