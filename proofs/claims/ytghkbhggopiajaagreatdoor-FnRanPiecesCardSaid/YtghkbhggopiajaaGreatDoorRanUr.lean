/- Ran of the specification. -/
import Derived.Test.YtghkbhggopiajaaGreatDoorRanIr
namespace Go.Proofs.YtghkbhggopiajaaGreatDoor
open Value renaming int → Ii,slice → Sl
open IntKind renaming i64 → Jj
open Nat renaming le_refl → Nf
open Go.Proofs.Tryz renaming prog → Pg
set_option maxHeartbeats 8000000
open Go.RowKit
set_option maxRecDepth 8000
set_option linter.unusedVariables false
theorem jT (a b:Option Addr) (c d:Nat) (L:List aj) (O:List au) (k:Bk) (n:Int) (x:cV) (o:au) (w:World) (hF:Fo w a L.length (FL L)) (hO:aG w b O.length (ae O)) (hd:O.length<=d) (hb:aq (FL L) L.length (ae O) O.length k) (hok:ba 22 x o n) (ht:¬cU L O k):
  Calls Pg 84 #[.agg #[Ii Jj k.day,Sl a L.length c,Sl b O.length d,Ii Jj k.inn,Ii Jj k.out,Ii Jj k.posted,Ii Jj k.missed],.agg #[Ii Jj 22,Ii Jj x.k,Ii Jj x.i,Ii Jj x.t,Ii Jj x.m,Ii Jj x.r,Ii Jj o.id,Ii Jj o.src,Ii Jj o.dst,Ii Jj o.amount,Ii Jj o.first,Ii Jj o.every,Ii Jj o.times,Ii Jj n]] w fun e w'=>ch (cG L O k ⟨7,L,O,k⟩) w e w':=by
 have HOK:=aa hb
 have hl12:L.length<=12:=hb.2.1.1
 have hol:O.length<=8:=hb.2.2.1.1
 have FORM:=aa (fun W=>dm hok W)
 have PL:Hid (∀W,Fo W a L.length (FL L)->aG W b O.length (ae O)->Calls Pg 72 #[.agg #[Ii Jj k.day,Sl a L.length c,Sl b O.length d,Ii Jj k.inn,Ii Jj k.out,Ii Jj k.posted,Ii Jj k.missed]] W fun e w'=>e=.returned (.tuple #[.agg #[Ii Jj 0,Sl none 0 0,Sl none 0 0,Ii Jj 0,Ii Jj 0,Ii Jj 0,Ii Jj 0],.bool false])/\Below W.heap.size W w'):=fun W h1 h2=>(jG a b c d L O k W h1 h2 hb).mono (by
  rintro e w' (⟨h,_⟩|⟨_,h⟩)
  ·exact absurd h ht
  ·exact h)
 have HFIN:Hid (cG L O k ⟨7,L,O,k⟩=⟨7,L,O,k⟩):=fp (by simp)
 clear ht
 clear hb hok
 have HF:=aa hF
 have HO:=aa hO
 obtain ⟨W0,hW0,hs0,b0,z1,z2,z3⟩:=bY a b c d L O k 22 n x o w
 have HW0:=aa hW0
 have HB0:=aa b0
 have Z1:=aa z1
 have Z2:=aa z2
 have Z3:=aa z3
 clear hW0 b0 z1 z2 z3 hF hO
 go_enter Tryz.func84,Tryz.ntmps84
 go_wp2_with fail
 rw[←HW0.out]
 clear HW0
 refine (aC a b c d L O k _ (HF.out.below HB0.out) (HO.out.below HB0.out)).mono ?_
 rintro e w1 ⟨v1,u1,rfl,A1,O1,D1⟩
 rw[hs0] at A1 O1
 obtain ⟨a1,c1',hv⟩:=A1.len
 subst hv
 obtain ⟨b1,d1,hv⟩:=O1.len
 subst hv
 obtain ⟨W2,hW2⟩:∃W2,W2=w1.alloc (.cells #[Ii Jj k.day,Sl a1 L.length c1',Sl b1 O.length d1,Ii Jj k.inn,Ii Jj k.out,Ii Jj k.posted,Ii Jj k.missed] 38):=⟨_,rfl⟩
 have D2:Below w1.heap.size w1 W2:=by rw[hW2];exact (Below.refl _ _).alloc (Nf _) _
 have hs1:=D1.size
 have hs2:W2.heap.size=w1.heap.size+1:=by rw[hW2];simp
 have E2:Below W0.heap.size W0 W2:=D1.trans (D2.mono D1.size)
 have PX:Hid (bW W2 w1.heap.size (Sl a1 L.length c1') (Sl b1 O.length d1) k):=by
  show ak _ _ _ _ _ _ _ _ _;rw[hW2];exact ak.new w1 _ _ _ _ _ _ _ 38
 have P1:=aa (Z1.out.kept E2 (by omega))
 have P2:=aa (Z2.out.kept E2 (by omega))
 have P3:=aa (Z3.out.kept E2 (by omega))
 have PA:=aa (A1.kept D2)
 have PO:=aa (O1.kept D2)
 have PB:=aa (HB0.out.trans (E2.mono HB0.out.size))
 have HW2:=aa hW2
 clear hW2 D1 D2 E2 A1 O1 Z1 Z2 Z3 HB0
 obtain ⟨⟨c0,c1,c2,c3,c4,c5,c6,c7,c8,c9,c10,c11,c12,c13⟩,cz⟩:=P2.out
 go_upto_region 10 with fail
 rw[←HW2.out]
 clear HW2
 go_wp2_with fail
 refine (FORM.out _).mono ?_
 rintro e w3 ⟨rfl,E3⟩
 clear c0 c1 c2 c3 c4 c5 c6 c7 c8 c9 c10 c11 c12 c13 cz FORM
 replace P1:=aa (P1.out.kept E3 (by omega))
 replace P3:=aa (P3.out.kept E3 (by omega))
 replace P2:=aa (P2.out.kept E3 (by omega))
 replace PX:=aa (PX.out.kept E3 (by omega))
 replace PA:=aa (PA.out.kept E3)
 replace PO:=aa (PO.out.kept E3)
 replace PB:=aa (PB.out.trans (E3.mono PB.out.size))
 have hs3:w1.heap.size+1<=w3.heap.size:=by have:=E3.size;omega
 clear E3 hs2
 have hs3':(w.heap.size+1+1+1)<=w1.heap.size:=by omega
 clear hs1 hs0
 obtain ⟨⟨c0,c1,c2,c3,c4,c5,c6,c7,c8,c9,c10,c11,c12,c13⟩,cz⟩:=P2.out
 obtain ⟨⟨s0,s1,s2,s3,s4,s5,s6⟩,sf,sz⟩:=P1.out
 go_wp2_with fail
 refine (PL.out _ (HF.out.below PB.out) (HO.out.below PB.out)).mono ?_
 rintro e w4 ⟨rfl,E4⟩
 clear c0 c1 c2 c3 c4 c5 c6 c7 c8 c9 c10 c11 c12 c13 cz s0 s1 s2 s3 s4 s5 s6 sf sz PL
 replace P1:=aa (P1.out.kept E4 (by omega))
 replace P3:=aa (P3.out.kept E4 (by omega))
 replace P2:=aa (P2.out.kept E4 (by omega))
 replace PX:=aa (PX.out.kept E4 (by omega))
 replace PA:=aa (PA.out.kept E4)
 replace PO:=aa (PO.out.kept E4)
 replace PB:=aa (PB.out.trans (E4.mono PB.out.size))
 have hs4:=E4.size
 obtain ⟨V5,hV5⟩:∃V5,V5=(((((((w4.setCell ⟨w1.heap.size,0,none⟩ (Ii Jj 0)).setCell ⟨w1.heap.size,1,none⟩ (Sl none 0 0)).setCell ⟨w1.heap.size,2,none⟩ (Sl none 0 0)).setCell ⟨w1.heap.size,3,none⟩ (Ii Jj 0)).setCell ⟨w1.heap.size,4,none⟩ (Ii Jj 0)).setCell ⟨w1.heap.size,5,none⟩ (Ii Jj 0)).setCell ⟨w1.heap.size,6,none⟩ (Ii Jj 0)):=⟨_,rfl⟩
 have hz5:V5.heap.size=w4.heap.size:=by rw[hV5];simp[World.setCell]
 have XT:Hid (ak V5 w1.heap.size (Ii Jj (0)) (Sl none 0 0) (Sl none 0 0) (Ii Jj (0)) (Ii Jj (0)) (Ii Jj (0)) (Ii Jj (0))):=by show ak _ _ _ _ _ _ _ _ _;rw[hV5];exact (((((((PX.out.set0 _).set1 _).set2 _).set3 _).set4 _).set5 _).set6 _)
 have P1':Hid (bW V5 w.heap.size (Sl a L.length c) (Sl b O.length d) k):=by show ak _ _ _ _ _ _ _ _ _;rw[hV5];exact ((((((P1.out.far (by omega) _ _).far (by omega) _ _).far (by omega) _ _).far (by omega) _ _).far (by omega) _ _).far (by omega) _ _).far (by omega) _ _
 have P3':Hid (fu V5 (w.heap.size+1+1)):=by show ak _ _ _ _ _ _ _ _ _;rw[hV5];exact ((((((P3.out.far (by omega) _ _).far (by omega) _ _).far (by omega) _ _).far (by omega) _ _).far (by omega) _ _).far (by omega) _ _).far (by omega) _ _
 have PB':Hid (Below w.heap.size w V5):=by show Below _ _ _;rw[hV5];exact (ai (ai (ai (ai (ai (ai (ai PB.out (by omega) _ _) (by omega) _ _) (by omega) _ _) (by omega) _ _) (by omega) _ _) (by omega) _ _) (by omega) _ _)
 obtain ⟨⟨x0,x1,x2,x3,x4,x5,x6⟩,xf,xz⟩:=PX.out
 have HV5:=aa hV5
 clear hV5 E4 PX PA PO P1 P2 P3 PB
 go_upto_region 27 with fail
 rw[←HV5.out]
 clear HV5 x0 x1 x2 x3 x4 x5 x6 xf xz
 have P1:=P1'
 have P3:=P3'
 have PB:=PB'
 clear P1' P3' PB'
 clear XT
 obtain ⟨⟨s0,s1,s2,s3,s4,s5,s6⟩,sf,sz⟩:=P1.out
 go_wp2_with fail
 refine (aC a b c d L O k _ (HF.out.below PB.out) (HO.out.below PB.out)).mono ?_
 rintro e w9 ⟨v9,u9,rfl,A9,O9,B9⟩
 obtain ⟨a9,c9,hv⟩:=A9.len
 subst hv
 obtain ⟨b9,d9,hv⟩:=O9.len
 subst hv
 clear s0 s1 s2 s3 s4 s5 s6 sf sz
 have hs9:w.heap.size+1+1<V5.heap.size:=P3.out.2.2
 obtain ⟨⟨r0,r1,r2,r3,r4,r5,r6⟩,rf,rz⟩:=P3.out.kept B9 hs9
 have HA9:=aa A9
 have HO9:=aa O9
 have HB9:=aa (PB.out.trans (B9.mono PB.out.size))
 clear A9 O9 B9 P1 P3 PB
 go_wp2
 refine bodyPost_ret (v:=.tuple #[.agg #[Ii Jj (k.day),Sl a9 L.length c9,Sl b9 O.length d9,Ii Jj (k.inn),Ii Jj (k.out),Ii Jj (k.posted),Ii Jj (k.missed)],Ii Jj 7]) (by simp[results,Tryz.results84,go_sem,r0,r1,r2,r3,r4,r5,r6]) rfl ?_
 rw[HFIN.out]
 refine ⟨_,_,rfl,?_,?_,?_⟩
 ·refine AL.mono (B:=V5.heap.size) ?_ (by omega)
  repeat (refine AL.far ?_ hs9 _ _)
  exact HA9.out
 ·refine ah.mono (B:=V5.heap.size) ?_ (by omega)
  repeat (refine ah.far ?_ hs9 _ _)
  exact HO9.out
 ·repeat (refine ai ?_ (by omega) _ _)
  exact HB9.out
theorem iO (a b:Option Addr) (c d:Nat) (L:List aj) (O:List au) (k:Bk) (n:Int) (x:cV) (o:au) (w:World) (hF:Fo w a L.length (FL L)) (hO:aG w b O.length (ae O)) (hd:O.length<=d) (hb:aq (FL L) L.length (ae O) O.length k) (hok:ba 22 x o n) (ht:cU L O k):
  Calls Pg 84 #[.agg #[Ii Jj k.day,Sl a L.length c,Sl b O.length d,Ii Jj k.inn,Ii Jj k.out,Ii Jj k.posted,Ii Jj k.missed],.agg #[Ii Jj 22,Ii Jj x.k,Ii Jj x.i,Ii Jj x.t,Ii Jj x.m,Ii Jj x.r,Ii Jj o.id,Ii Jj o.src,Ii Jj o.dst,Ii Jj o.amount,Ii Jj o.first,Ii Jj o.every,Ii Jj o.times,Ii Jj n]] w fun e w'=>ch (cG L O k ⟨0,ct L O k,bU O k,bh L O k⟩) w e w':=by
 have HOK:=aa hb
 have hl12:L.length<=12:=hb.2.1.1
 have hol:O.length<=8:=hb.2.2.1.1
 have FORM:=aa (fun W=>dm hok W)
 have PL:Hid (∀W,Fo W a L.length (FL L)->aG W b O.length (ae O)->Calls Pg 72 #[.agg #[Ii Jj k.day,Sl a L.length c,Sl b O.length d,Ii Jj k.inn,Ii Jj k.out,Ii Jj k.posted,Ii Jj k.missed]] W fun e w'=>∃v u,e=.returned (.tuple #[.agg #[Ii Jj ((bh L O k).day),v,u,Ii Jj ((bh L O k).inn),Ii Jj ((bh L O k).out),Ii Jj ((bh L O k).posted),Ii Jj ((bh L O k).missed)],.bool true])/\AL w' W.heap.size v (ct L O k)/\ah w' W.heap.size u (bU O k)/\Below W.heap.size W w'):=fun W h1 h2=>(jG a b c d L O k W h1 h2 hb).mono (by
  rintro e w' (⟨_,h⟩|⟨h,_⟩)
  ·exact h
  ·exact absurd ht h)
 have hla:(ct L O k).length<=L.length:=Nat.le_of_eq (db _ _)
 have hlo:(bU O k).length<=O.length:=List.length_filter_le _ _
 clear ht
 generalize bh L O k=K2 at*
 generalize ct L O k=A2 at*
 generalize bU O k=O2 at*
 clear hb hok
 have HF:=aa hF
 have HO:=aa hO
 obtain ⟨W0,hW0,hs0,b0,z1,z2,z3⟩:=bY a b c d L O k 22 n x o w
 have HW0:=aa hW0
 have HB0:=aa b0
 have Z1:=aa z1
 have Z2:=aa z2
 have Z3:=aa z3
 clear hW0 b0 z1 z2 z3 hF hO
 go_enter Tryz.func84,Tryz.ntmps84
 go_wp2_with fail
 rw[←HW0.out]
 clear HW0
 refine (aC a b c d L O k _ (HF.out.below HB0.out) (HO.out.below HB0.out)).mono ?_
 rintro e w1 ⟨v1,u1,rfl,A1,O1,D1⟩
 rw[hs0] at A1 O1
 obtain ⟨a1,c1',hv⟩:=A1.len
 subst hv
 obtain ⟨b1,d1,hv⟩:=O1.len
 subst hv
 obtain ⟨W2,hW2⟩:∃W2,W2=w1.alloc (.cells #[Ii Jj k.day,Sl a1 L.length c1',Sl b1 O.length d1,Ii Jj k.inn,Ii Jj k.out,Ii Jj k.posted,Ii Jj k.missed] 38):=⟨_,rfl⟩
 have D2:Below w1.heap.size w1 W2:=by rw[hW2];exact (Below.refl _ _).alloc (Nf _) _
 have hs1:=D1.size
 have hs2:W2.heap.size=w1.heap.size+1:=by rw[hW2];simp
 have E2:Below W0.heap.size W0 W2:=D1.trans (D2.mono D1.size)
 have PX:Hid (bW W2 w1.heap.size (Sl a1 L.length c1') (Sl b1 O.length d1) k):=by
  show ak _ _ _ _ _ _ _ _ _;rw[hW2];exact ak.new w1 _ _ _ _ _ _ _ 38
 have P1:=aa (Z1.out.kept E2 (by omega))
 have P2:=aa (Z2.out.kept E2 (by omega))
 have P3:=aa (Z3.out.kept E2 (by omega))
 have PA:=aa (A1.kept D2)
 have PO:=aa (O1.kept D2)
 have PB:=aa (HB0.out.trans (E2.mono HB0.out.size))
 have HW2:=aa hW2
 clear hW2 D1 D2 E2 A1 O1 Z1 Z2 Z3 HB0
 obtain ⟨⟨c0,c1,c2,c3,c4,c5,c6,c7,c8,c9,c10,c11,c12,c13⟩,cz⟩:=P2.out
 go_upto_region 10 with fail
 rw[←HW2.out]
 clear HW2
 go_wp2_with fail
 refine (FORM.out _).mono ?_
 rintro e w3 ⟨rfl,E3⟩
 clear c0 c1 c2 c3 c4 c5 c6 c7 c8 c9 c10 c11 c12 c13 cz FORM
 replace P1:=aa (P1.out.kept E3 (by omega))
 replace P3:=aa (P3.out.kept E3 (by omega))
 replace P2:=aa (P2.out.kept E3 (by omega))
 replace PX:=aa (PX.out.kept E3 (by omega))
 replace PA:=aa (PA.out.kept E3)
 replace PO:=aa (PO.out.kept E3)
 replace PB:=aa (PB.out.trans (E3.mono PB.out.size))
 have hs3:w1.heap.size+1<=w3.heap.size:=by have:=E3.size;omega
 clear E3 hs2
 have hs3':(w.heap.size+1+1+1)<=w1.heap.size:=by omega
 clear hs1 hs0
 obtain ⟨⟨c0,c1,c2,c3,c4,c5,c6,c7,c8,c9,c10,c11,c12,c13⟩,cz⟩:=P2.out
 obtain ⟨⟨s0,s1,s2,s3,s4,s5,s6⟩,sf,sz⟩:=P1.out
 go_wp2_with fail
 refine (PL.out _ (HF.out.below PB.out) (HO.out.below PB.out)).mono ?_
 rintro e w4 ⟨v4,u4,rfl,A4,O4,E4⟩
 obtain ⟨a4,c4',hv⟩:=A4.len
 subst hv
 obtain ⟨b4,d4,hv⟩:=O4.len
 subst hv
 clear c0 c1 c2 c3 c4 c5 c6 c7 c8 c9 c10 c11 c12 c13 cz s0 s1 s2 s3 s4 s5 s6 sf sz PL
 replace P1:=aa (P1.out.kept E4 (by omega))
 replace P3:=aa (P3.out.kept E4 (by omega))
 replace P2:=aa (P2.out.kept E4 (by omega))
 replace PX:=aa (PX.out.kept E4 (by omega))
 replace PA:=aa (PA.out.kept E4)
 replace PO:=aa (PO.out.kept E4)
 replace PB:=aa (PB.out.trans (E4.mono PB.out.size))
 have hs4:=E4.size
 obtain ⟨V5,hV5⟩:∃V5,V5=(((((((w4.setCell ⟨w1.heap.size,0,none⟩ (Ii Jj K2.day)).setCell ⟨w1.heap.size,1,none⟩ (Sl a4 A2.length c4')).setCell ⟨w1.heap.size,2,none⟩ (Sl b4 O2.length d4)).setCell ⟨w1.heap.size,3,none⟩ (Ii Jj K2.inn)).setCell ⟨w1.heap.size,4,none⟩ (Ii Jj K2.out)).setCell ⟨w1.heap.size,5,none⟩ (Ii Jj K2.posted)).setCell ⟨w1.heap.size,6,none⟩ (Ii Jj K2.missed)):=⟨_,rfl⟩
 have hz5:V5.heap.size=w4.heap.size:=by rw[hV5];simp[World.setCell]
 have XT:Hid (bW V5 w1.heap.size (Sl a4 A2.length c4') (Sl b4 O2.length d4) K2):=by show ak _ _ _ _ _ _ _ _ _;rw[hV5];exact (((((((PX.out.set0 _).set1 _).set2 _).set3 _).set4 _).set5 _).set6 _)
 have AT:Hid (AL V5 (w.heap.size+1+1+1) (Sl a4 A2.length c4') A2):=by
  show AL _ _ _ _;rw[hV5]
  exact AL.mono (((((((A4.far (by omega) _ _).far (by omega) _ _).far (by omega) _ _).far (by omega) _ _).far (by omega) _ _).far (by omega) _ _).far (by omega) _ _) (by omega)
 have OT:Hid (ah V5 (w.heap.size+1+1+1) (Sl b4 O2.length d4) O2):=by
  show ah _ _ _ _;rw[hV5]
  exact ah.mono (((((((O4.far (by omega) _ _).far (by omega) _ _).far (by omega) _ _).far (by omega) _ _).far (by omega) _ _).far (by omega) _ _).far (by omega) _ _) (by omega)
 have P1':Hid (bW V5 w.heap.size (Sl a L.length c) (Sl b O.length d) k):=by show ak _ _ _ _ _ _ _ _ _;rw[hV5];exact ((((((P1.out.far (by omega) _ _).far (by omega) _ _).far (by omega) _ _).far (by omega) _ _).far (by omega) _ _).far (by omega) _ _).far (by omega) _ _
 have P3':Hid (fu V5 (w.heap.size+1+1)):=by show ak _ _ _ _ _ _ _ _ _;rw[hV5];exact ((((((P3.out.far (by omega) _ _).far (by omega) _ _).far (by omega) _ _).far (by omega) _ _).far (by omega) _ _).far (by omega) _ _).far (by omega) _ _
 have PB':Hid (Below w.heap.size w V5):=by show Below _ _ _;rw[hV5];exact (ai (ai (ai (ai (ai (ai (ai PB.out (by omega) _ _) (by omega) _ _) (by omega) _ _) (by omega) _ _) (by omega) _ _) (by omega) _ _) (by omega) _ _)
 obtain ⟨⟨x0,x1,x2,x3,x4,x5,x6⟩,xf,xz⟩:=PX.out
 have HV5:=aa hV5
 clear hV5 A4 O4 E4 PX PA PO P1 P2 P3 PB
 go_upto_region 27 with fail
 rw[←HV5.out]
 clear HV5 x0 x1 x2 x3 x4 x5 x6 xf xz
 have P1:=P1'
 have P3:=P3'
 have PB:=PB'
 clear P1' P3' PB'
 have BNK:Hid (Calls Pg 31 #[.agg #[Ii Jj (K2.day),Sl a4 A2.length c4',Sl b4 O2.length d4,Ii Jj (K2.inn),Ii Jj (K2.out),Ii Jj (K2.posted),Ii Jj (K2.missed)]] V5 fun e w'=>af e (Rn.mk 0 A2 O2 K2).ok/\Below V5.heap.size V5 w'):=by
  have:=ck a4 b4 (A2.length) c4' (O2.length) d4 (FL A2) (ae O2) K2 V5 (AT.out.fo (by omega)).2 (OT.out.list (by omega)).2
  exact this
 obtain ⟨⟨x0,x1,x2,x3,x4,x5,x6⟩,xf,xz⟩:=XT.out
 go_wp2_with fail
 refine BNK.out.mono ?_
 rintro e w8 ⟨⟨bb,rfl,hb1,hb2⟩,B8⟩
 have hs8:=B8.size
 clear x0 x1 x2 x3 x4 x5 x6 xf xz
 have XT':=aa (XT.out.kept B8 XT.out.2.2)
 have AT':=aa (AT.out.kept B8)
 have OT':=aa (OT.out.kept B8)
 have P1':=aa (P1.out.kept B8 P1.out.2.2)
 have P3':=aa (P3.out.kept B8 P3.out.2.2)
 have PB':=aa (PB.out.trans (B8.mono PB.out.size))
 clear XT AT OT P1 P3 PB B8 BNK
 have P1:=P1'
 have P3:=P3'
 have PB:=PB'
 clear P1' P3' PB'
 cases bb with
 | true=>
  have HN:Hid ((Rn.mk 0 A2 O2 K2).ok):=hb1 rfl
  obtain ⟨⟨x0,x1,x2,x3,x4,x5,x6⟩,xf,xz⟩:=XT'.out
  obtain ⟨⟨r0,r1,r2,r3,r4,r5,r6⟩,rf,rz⟩:=P3.out
  clear hb1 hb2
  go_wp2
  refine bodyPost_ret (v:=.tuple #[.agg #[Ii Jj (K2.day),Sl a4 A2.length c4',Sl b4 O2.length d4,Ii Jj (K2.inn),Ii Jj (K2.out),Ii Jj (K2.posted),Ii Jj (K2.missed)],Ii Jj 0]) (by simp[results,Tryz.results84,go_sem,r0,r1,r2,r3,r4,r5,r6]) rfl ?_
  rw[dQ (q:=(Rn.mk 0 A2 O2 K2)) rfl HN.out]
  refine ⟨Sl a4 A2.length c4',Sl b4 O2.length d4,?_,?_,?_,?_⟩
  ·rfl
  ·refine AL.mono (B:=(w.heap.size+1+1+1)) ?_ (by omega)
   repeat (refine AL.far ?_ (by omega) _ _)
   exact AT'.out
  ·refine ah.mono (B:=(w.heap.size+1+1+1)) ?_ (by omega)
   repeat (refine ah.far ?_ (by omega) _ _)
   exact OT'.out
  ·repeat (refine ai ?_ (by omega) _ _)
   exact PB.out
 | false=>
  have HN:Hid (¬(Rn.mk 0 A2 O2 K2).ok):=hb2 rfl
  have HFIN:Hid (cG L O k (Rn.mk 0 A2 O2 K2)=⟨7,L,O,k⟩):=dl (q:=(Rn.mk 0 A2 O2 K2)) rfl HN.out
  clear hb1 hb2 XT' AT' OT'
  obtain ⟨⟨s0,s1,s2,s3,s4,s5,s6⟩,sf,sz⟩:=P1.out
  go_wp2_with fail
  refine (aC a b c d L O k _ (HF.out.below PB.out) (HO.out.below PB.out)).mono ?_
  rintro e w9 ⟨v9,u9,rfl,A9,O9,B9⟩
  obtain ⟨a9,c9,hv⟩:=A9.len
  subst hv
  obtain ⟨b9,d9,hv⟩:=O9.len
  subst hv
  clear s0 s1 s2 s3 s4 s5 s6 sf sz
  have hs9:w.heap.size+1+1<w8.heap.size:=P3.out.2.2
  obtain ⟨⟨r0,r1,r2,r3,r4,r5,r6⟩,rf,rz⟩:=P3.out.kept B9 hs9
  have HA9:=aa A9
  have HO9:=aa O9
  have HB9:=aa (PB.out.trans (B9.mono PB.out.size))
  clear A9 O9 B9 P1 P3 PB
  go_wp2
  refine bodyPost_ret (v:=.tuple #[.agg #[Ii Jj (k.day),Sl a9 L.length c9,Sl b9 O.length d9,Ii Jj (k.inn),Ii Jj (k.out),Ii Jj (k.posted),Ii Jj (k.missed)],Ii Jj 7]) (by simp[results,Tryz.results84,go_sem,r0,r1,r2,r3,r4,r5,r6]) rfl ?_
  rw[HFIN.out]
  refine ⟨_,_,rfl,?_,?_,?_⟩
  ·refine AL.mono (B:=w8.heap.size) ?_ (by omega)
   repeat (refine AL.far ?_ hs9 _ _)
   exact HA9.out
  ·refine ah.mono (B:=w8.heap.size) ?_ (by omega)
   repeat (refine ah.far ?_ hs9 _ _)
   exact HO9.out
  ·repeat (refine ai ?_ (by omega) _ _)
   exact HB9.out
theorem lX (a b:Option Addr) (c d:Nat) (L:List aj) (O:List au) (k:Bk) (n:Int) (x:cV) (o:au) (w:World) (hF:Fo w a L.length (FL L)) (hO:aG w b O.length (ae O)) (hd:O.length<=d) (hb:aq (FL L) L.length (ae O) O.length k) (hok:ba 21 x o n) (ht:¬bv O n):
  Calls Pg 84 #[.agg #[Ii Jj k.day,Sl a L.length c,Sl b O.length d,Ii Jj k.inn,Ii Jj k.out,Ii Jj k.posted,Ii Jj k.missed],.agg #[Ii Jj 21,Ii Jj x.k,Ii Jj x.i,Ii Jj x.t,Ii Jj x.m,Ii Jj x.r,Ii Jj o.id,Ii Jj o.src,Ii Jj o.dst,Ii Jj o.amount,Ii Jj o.first,Ii Jj o.every,Ii Jj o.times,Ii Jj n]] w fun e w'=>ch (cG L O k ⟨3,L,O,k⟩) w e w':=by
 have HOK:=aa hb
 have hl12:L.length<=12:=hb.2.1.1
 have hol:O.length<=8:=hb.2.2.1.1
 have FORM:=aa (fun W=>dm hok W)
 have PL:Hid (∀W,aG W b O.length (ae O)->Calls Pg 134 #[Sl b O.length d,Ii Jj n] W fun e w'=>e=.returned (Ii Jj (-1))/\Below W.heap.size W w'):=fun W h1=>(f7 b d O n W h1).mono (by
  rintro e w' ⟨rfl,h⟩
  rw[jK ht]
  exact ⟨rfl,h⟩)
 have HFIN:Hid (cG L O k ⟨3,L,O,k⟩=⟨3,L,O,k⟩):=fp (by simp)
 clear ht
 clear hb hok
 have HF:=aa hF
 have HO:=aa hO
 obtain ⟨W0,hW0,hs0,b0,z1,z2,z3⟩:=bY a b c d L O k 21 n x o w
 have HW0:=aa hW0
 have HB0:=aa b0
 have Z1:=aa z1
 have Z2:=aa z2
 have Z3:=aa z3
 clear hW0 b0 z1 z2 z3 hF hO
 go_enter Tryz.func84,Tryz.ntmps84
 go_wp2_with fail
 rw[←HW0.out]
 clear HW0
 refine (aC a b c d L O k _ (HF.out.below HB0.out) (HO.out.below HB0.out)).mono ?_
 rintro e w1 ⟨v1,u1,rfl,A1,O1,D1⟩
 rw[hs0] at A1 O1
 obtain ⟨a1,c1',hv⟩:=A1.len
 subst hv
 obtain ⟨b1,d1,hv⟩:=O1.len
 subst hv
 obtain ⟨W2,hW2⟩:∃W2,W2=w1.alloc (.cells #[Ii Jj k.day,Sl a1 L.length c1',Sl b1 O.length d1,Ii Jj k.inn,Ii Jj k.out,Ii Jj k.posted,Ii Jj k.missed] 38):=⟨_,rfl⟩
 have D2:Below w1.heap.size w1 W2:=by rw[hW2];exact (Below.refl _ _).alloc (Nf _) _
 have hs1:=D1.size
 have hs2:W2.heap.size=w1.heap.size+1:=by rw[hW2];simp
 have E2:Below W0.heap.size W0 W2:=D1.trans (D2.mono D1.size)
 have PX:Hid (bW W2 w1.heap.size (Sl a1 L.length c1') (Sl b1 O.length d1) k):=by
  show ak _ _ _ _ _ _ _ _ _;rw[hW2];exact ak.new w1 _ _ _ _ _ _ _ 38
 have P1:=aa (Z1.out.kept E2 (by omega))
 have P2:=aa (Z2.out.kept E2 (by omega))
 have P3:=aa (Z3.out.kept E2 (by omega))
 have PA:=aa (A1.kept D2)
 have PO:=aa (O1.kept D2)
 have PB:=aa (HB0.out.trans (E2.mono HB0.out.size))
 have HW2:=aa hW2
 clear hW2 D1 D2 E2 A1 O1 Z1 Z2 Z3 HB0
 obtain ⟨⟨c0,c1,c2,c3,c4,c5,c6,c7,c8,c9,c10,c11,c12,c13⟩,cz⟩:=P2.out
 go_upto_region 10 with fail
 rw[←HW2.out]
 clear HW2
 go_wp2_with fail
 refine (FORM.out _).mono ?_
 rintro e w3 ⟨rfl,E3⟩
 clear c0 c1 c2 c3 c4 c5 c6 c7 c8 c9 c10 c11 c12 c13 cz FORM
 replace P1:=aa (P1.out.kept E3 (by omega))
 replace P3:=aa (P3.out.kept E3 (by omega))
 replace P2:=aa (P2.out.kept E3 (by omega))
 replace PX:=aa (PX.out.kept E3 (by omega))
 replace PA:=aa (PA.out.kept E3)
 replace PO:=aa (PO.out.kept E3)
 replace PB:=aa (PB.out.trans (E3.mono PB.out.size))
 have hs3:w1.heap.size+1<=w3.heap.size:=by have:=E3.size;omega
 clear E3 hs2
 have hs3':(w.heap.size+1+1+1)<=w1.heap.size:=by omega
 clear hs1 hs0
 obtain ⟨⟨c0,c1,c2,c3,c4,c5,c6,c7,c8,c9,c10,c11,c12,c13⟩,cz⟩:=P2.out
 obtain ⟨⟨s0,s1,s2,s3,s4,s5,s6⟩,sf,sz⟩:=P1.out
 go_wp2_with fail
 refine (PL.out _ (HO.out.below PB.out)).mono ?_
 rintro e w4 ⟨rfl,E4⟩
 clear c0 c1 c2 c3 c4 c5 c6 c7 c8 c9 c10 c11 c12 c13 cz s0 s1 s2 s3 s4 s5 s6 sf sz PL
 replace P1:=aa (P1.out.kept E4 (by omega))
 replace P3:=aa (P3.out.kept E4 (by omega))
 replace P2:=aa (P2.out.kept E4 (by omega))
 replace PX:=aa (PX.out.kept E4 (by omega))
 replace PA:=aa (PA.out.kept E4)
 replace PO:=aa (PO.out.kept E4)
 replace PB:=aa (PB.out.trans (E4.mono PB.out.size))
 have hs4:=E4.size
 clear E4 PX PA PO P2
 obtain ⟨⟨s0,s1,s2,s3,s4,s5,s6⟩,sf,sz⟩:=P1.out
 go_wp2_with fail
 refine (aC a b c d L O k _ (HF.out.below PB.out) (HO.out.below PB.out)).mono ?_
 rintro e w9 ⟨v9,u9,rfl,A9,O9,B9⟩
 obtain ⟨a9,c9,hv⟩:=A9.len
 subst hv
 obtain ⟨b9,d9,hv⟩:=O9.len
 subst hv
 clear s0 s1 s2 s3 s4 s5 s6 sf sz
 have hs9:w.heap.size+1+1<w4.heap.size:=P3.out.2.2
 obtain ⟨⟨r0,r1,r2,r3,r4,r5,r6⟩,rf,rz⟩:=P3.out.kept B9 hs9
 have HA9:=aa A9
 have HO9:=aa O9
 have HB9:=aa (PB.out.trans (B9.mono PB.out.size))
 clear A9 O9 B9 P1 P3 PB
 go_wp2
 refine bodyPost_ret (v:=.tuple #[.agg #[Ii Jj (k.day),Sl a9 L.length c9,Sl b9 O.length d9,Ii Jj (k.inn),Ii Jj (k.out),Ii Jj (k.posted),Ii Jj (k.missed)],Ii Jj 3]) (by simp[results,Tryz.results84,go_sem,r0,r1,r2,r3,r4,r5,r6]) rfl ?_
 rw[HFIN.out]
 refine ⟨_,_,rfl,?_,?_,?_⟩
 ·refine AL.mono (B:=w4.heap.size) ?_ (by omega)
  repeat (refine AL.far ?_ hs9 _ _)
  exact HA9.out
 ·refine ah.mono (B:=w4.heap.size) ?_ (by omega)
  repeat (refine ah.far ?_ hs9 _ _)
  exact HO9.out
 ·repeat (refine ai ?_ (by omega) _ _)
  exact HB9.out
theorem kt (a b:Option Addr) (c d:Nat) (L:List aj) (O:List au) (k:Bk) (n:Int) (x:cV) (o:au) (w:World) (hF:Fo w a L.length (FL L)) (hO:aG w b O.length (ae O)) (hd:O.length<=d) (hb:aq (FL L) L.length (ae O) O.length k) (hok:ba 20 x o n) (ht:bv O o.id):
  Calls Pg 84 #[.agg #[Ii Jj k.day,Sl a L.length c,Sl b O.length d,Ii Jj k.inn,Ii Jj k.out,Ii Jj k.posted,Ii Jj k.missed],.agg #[Ii Jj 20,Ii Jj x.k,Ii Jj x.i,Ii Jj x.t,Ii Jj x.m,Ii Jj x.r,Ii Jj o.id,Ii Jj o.src,Ii Jj o.dst,Ii Jj o.amount,Ii Jj o.first,Ii Jj o.every,Ii Jj o.times,Ii Jj n]] w fun e w'=>ch (cG L O k ⟨4,L,O,k⟩) w e w':=by
 have HOK:=aa hb
 have hl12:L.length<=12:=hb.2.1.1
 have hol:O.length<=8:=hb.2.2.1.1
 have FORM:=aa (fun W=>dm hok W)
 obtain ⟨r,hrl,_,_,hidx⟩:=fM hb.2.2.1 ht
 have PL:Hid (∀W,aG W b O.length (ae O)->Calls Pg 134 #[Sl b O.length d,Ii Jj o.id] W fun e w'=>e=.returned (Ii Jj (r:Int))/\Below W.heap.size W w'):=fun W h1=>(f7 b d O o.id W h1).mono (by
  rintro e w' ⟨rfl,h⟩
  rw[hidx]
  exact ⟨rfl,h⟩)
 clear hidx
 have HFIN:Hid (cG L O k ⟨4,L,O,k⟩=⟨4,L,O,k⟩):=fp (by simp)
 clear ht
 clear hb hok
 have HF:=aa hF
 have HO:=aa hO
 obtain ⟨W0,hW0,hs0,b0,z1,z2,z3⟩:=bY a b c d L O k 20 n x o w
 have HW0:=aa hW0
 have HB0:=aa b0
 have Z1:=aa z1
 have Z2:=aa z2
 have Z3:=aa z3
 clear hW0 b0 z1 z2 z3 hF hO
 go_enter Tryz.func84,Tryz.ntmps84
 go_wp2_with fail
 rw[←HW0.out]
 clear HW0
 refine (aC a b c d L O k _ (HF.out.below HB0.out) (HO.out.below HB0.out)).mono ?_
 rintro e w1 ⟨v1,u1,rfl,A1,O1,D1⟩
 rw[hs0] at A1 O1
 obtain ⟨a1,c1',hv⟩:=A1.len
 subst hv
 obtain ⟨b1,d1,hv⟩:=O1.len
 subst hv
 obtain ⟨W2,hW2⟩:∃W2,W2=w1.alloc (.cells #[Ii Jj k.day,Sl a1 L.length c1',Sl b1 O.length d1,Ii Jj k.inn,Ii Jj k.out,Ii Jj k.posted,Ii Jj k.missed] 38):=⟨_,rfl⟩
 have D2:Below w1.heap.size w1 W2:=by rw[hW2];exact (Below.refl _ _).alloc (Nf _) _
 have hs1:=D1.size
 have hs2:W2.heap.size=w1.heap.size+1:=by rw[hW2];simp
 have E2:Below W0.heap.size W0 W2:=D1.trans (D2.mono D1.size)
 have PX:Hid (bW W2 w1.heap.size (Sl a1 L.length c1') (Sl b1 O.length d1) k):=by
  show ak _ _ _ _ _ _ _ _ _;rw[hW2];exact ak.new w1 _ _ _ _ _ _ _ 38
 have P1:=aa (Z1.out.kept E2 (by omega))
 have P2:=aa (Z2.out.kept E2 (by omega))
 have P3:=aa (Z3.out.kept E2 (by omega))
 have PA:=aa (A1.kept D2)
 have PO:=aa (O1.kept D2)
 have PB:=aa (HB0.out.trans (E2.mono HB0.out.size))
 have HW2:=aa hW2
 clear hW2 D1 D2 E2 A1 O1 Z1 Z2 Z3 HB0
 obtain ⟨⟨c0,c1,c2,c3,c4,c5,c6,c7,c8,c9,c10,c11,c12,c13⟩,cz⟩:=P2.out
 go_upto_region 10 with fail
 rw[←HW2.out]
 clear HW2
 go_wp2_with fail
 refine (FORM.out _).mono ?_
 rintro e w3 ⟨rfl,E3⟩
 clear c0 c1 c2 c3 c4 c5 c6 c7 c8 c9 c10 c11 c12 c13 cz FORM
 replace P1:=aa (P1.out.kept E3 (by omega))
 replace P3:=aa (P3.out.kept E3 (by omega))
 replace P2:=aa (P2.out.kept E3 (by omega))
 replace PX:=aa (PX.out.kept E3 (by omega))
 replace PA:=aa (PA.out.kept E3)
 replace PO:=aa (PO.out.kept E3)
 replace PB:=aa (PB.out.trans (E3.mono PB.out.size))
 have hs3:w1.heap.size+1<=w3.heap.size:=by have:=E3.size;omega
 clear E3 hs2
 have hs3':(w.heap.size+1+1+1)<=w1.heap.size:=by omega
 clear hs1 hs0
 obtain ⟨⟨c0,c1,c2,c3,c4,c5,c6,c7,c8,c9,c10,c11,c12,c13⟩,cz⟩:=P2.out
 obtain ⟨⟨s0,s1,s2,s3,s4,s5,s6⟩,sf,sz⟩:=P1.out
 go_wp2_with fail
 refine (PL.out _ (HO.out.below PB.out)).mono ?_
 rintro e w4 ⟨rfl,E4⟩
 clear c0 c1 c2 c3 c4 c5 c6 c7 c8 c9 c10 c11 c12 c13 cz s0 s1 s2 s3 s4 s5 s6 sf sz PL
 replace P1:=aa (P1.out.kept E4 (by omega))
 replace P3:=aa (P3.out.kept E4 (by omega))
 replace P2:=aa (P2.out.kept E4 (by omega))
 replace PX:=aa (PX.out.kept E4 (by omega))
 replace PA:=aa (PA.out.kept E4)
 replace PO:=aa (PO.out.kept E4)
 replace PB:=aa (PB.out.trans (E4.mono PB.out.size))
 have hs4:=E4.size
 clear E4 PX PA PO P2
 obtain ⟨⟨s0,s1,s2,s3,s4,s5,s6⟩,sf,sz⟩:=P1.out
 go_wp2_with fail
 refine (aC a b c d L O k _ (HF.out.below PB.out) (HO.out.below PB.out)).mono ?_
 rintro e w9 ⟨v9,u9,rfl,A9,O9,B9⟩
 obtain ⟨a9,c9,hv⟩:=A9.len
 subst hv
 obtain ⟨b9,d9,hv⟩:=O9.len
 subst hv
 clear s0 s1 s2 s3 s4 s5 s6 sf sz
 have hs9:w.heap.size+1+1<w4.heap.size:=P3.out.2.2
 obtain ⟨⟨r0,r1,r2,r3,r4,r5,r6⟩,rf,rz⟩:=P3.out.kept B9 hs9
 have HA9:=aa A9
 have HO9:=aa O9
 have HB9:=aa (PB.out.trans (B9.mono PB.out.size))
 clear A9 O9 B9 P1 P3 PB
 go_wp2
 refine bodyPost_ret (v:=.tuple #[.agg #[Ii Jj (k.day),Sl a9 L.length c9,Sl b9 O.length d9,Ii Jj (k.inn),Ii Jj (k.out),Ii Jj (k.posted),Ii Jj (k.missed)],Ii Jj 4]) (by simp[results,Tryz.results84,go_sem,r0,r1,r2,r3,r4,r5,r6]) rfl ?_
 rw[HFIN.out]
 refine ⟨_,_,rfl,?_,?_,?_⟩
 ·refine AL.mono (B:=w4.heap.size) ?_ (by omega)
  repeat (refine AL.far ?_ hs9 _ _)
  exact HA9.out
 ·refine ah.mono (B:=w4.heap.size) ?_ (by omega)
  repeat (refine ah.far ?_ hs9 _ _)
  exact HO9.out
 ·repeat (refine ai ?_ (by omega) _ _)
  exact HB9.out
end Go.Proofs.YtghkbhggopiajaaGreatDoor
