/- Ran of the specification. -/
import Derived.Test.YtghkbhggopiajaaGreatDoorRanIe
set_option maxHeartbeats 8000000
namespace Go.Proofs.YtghkbhggopiajaaGreatDoor
open Go.RowKit
set_option maxRecDepth 8000
set_option linter.unusedVariables false
theorem specRan_day_no (a b:Option Addr) (c d:Nat) (L:List Acc) (O:List Ord) (k:Bk) (n:Int) (x:OpF) (o:Ord) (w:World) (hF:Fo w a L.length (FL L)) (hO:Ords w b O.length (OrdF O)) (hd:O.length<=d) (hb:bankOk (FL L) L.length (OrdF O) O.length k) (hok:bopOk 22 x o n) (ht:¬endOk L O k):
  Calls Tryz.prog 84 #[.agg #[.int .i64 k.day,.slice a L.length c,.slice b O.length d,.int .i64 k.inn,.int .i64 k.out,.int .i64 k.posted,.int .i64 k.missed],.agg #[.int .i64 22,.int .i64 x.k,.int .i64 x.i,.int .i64 x.t,.int .i64 x.m,.int .i64 x.r,.int .i64 o.id,.int .i64 o.src,.int .i64 o.dst,.int .i64 o.amount,.int .i64 o.first,.int .i64 o.every,.int .i64 o.times,.int .i64 n]] w fun e w'=>RanOut (finR L O k ⟨7,L,O,k⟩) w e w':=by
 have HOK:=hidOf hb
 have hl12:L.length<=12:=hb.2.1.1
 have hol:O.length<=8:=hb.2.2.1.1
 have FORM:=hidOf (fun W=>form_yes hok W)
 have PL:Hid (∀W,Fo W a L.length (FL L)->Ords W b O.length (OrdF O)->Calls Tryz.prog 72 #[.agg #[.int .i64 k.day,.slice a L.length c,.slice b O.length d,.int .i64 k.inn,.int .i64 k.out,.int .i64 k.posted,.int .i64 k.missed]] W fun e w'=>e=.returned (.tuple #[.agg #[.int .i64 0,.slice none 0 0,.slice none 0 0,.int .i64 0,.int .i64 0,.int .i64 0,.int .i64 0],.bool false])/\Below W.heap.size W w'):=fun W h1 h2=>(specEnded5 a b c d L O k W h1 h2 hb).mono (by
  rintro e w' (⟨h,_⟩|⟨_,h⟩)
  ·exact absurd h ht
  ·exact h)
 have HFIN:Hid (finR L O k ⟨7,L,O,k⟩=⟨7,L,O,k⟩):=fin_no (by simp)
 clear ht
 clear hb hok
 have HF:=hidOf hF
 have HO:=hidOf hO
 obtain ⟨W0,hW0,hs0,b0,z1,z2,z3⟩:=ran_head a b c d L O k 22 n x o w
 have HW0:=hidOf hW0
 have HB0:=hidOf b0
 have Z1:=hidOf z1
 have Z2:=hidOf z2
 have Z3:=hidOf z3
 clear hW0 b0 z1 z2 z3 hF hO
 go_enter Tryz.func84,Tryz.ntmps84
 go_wp2_with fail
 rw[←HW0.out]
 clear HW0
 refine (specCopyBank a b c d L O k _ (HF.out.below HB0.out) (HO.out.below HB0.out)).mono ?_
 rintro e w1 ⟨v1,u1,rfl,A1,O1,D1⟩
 rw[hs0] at A1 O1
 obtain ⟨a1,c1',hv⟩:=A1.len
 subst hv
 obtain ⟨b1,d1,hv⟩:=O1.len
 subst hv
 obtain ⟨W2,hW2⟩:∃W2,W2=w1.alloc (.cells #[.int .i64 k.day,.slice a1 L.length c1',.slice b1 O.length d1,.int .i64 k.inn,.int .i64 k.out,.int .i64 k.posted,.int .i64 k.missed] 38):=⟨_,rfl⟩
 have D2:Below w1.heap.size w1 W2:=by rw[hW2];exact (Below.refl _ _).alloc (Nat.le_refl _) _
 have hs1:=D1.size
 have hs2:W2.heap.size=w1.heap.size+1:=by rw[hW2];simp
 have E2:Below W0.heap.size W0 W2:=D1.trans (D2.mono D1.size)
 have PX:Hid (BxK W2 w1.heap.size (.slice a1 L.length c1') (.slice b1 O.length d1) k):=by
  show Box7 _ _ _ _ _ _ _ _ _;rw[hW2];exact Box7.new w1 _ _ _ _ _ _ _ 38
 have P1:=hidOf (Z1.out.kept E2 (by omega))
 have P2:=hidOf (Z2.out.kept E2 (by omega))
 have P3:=hidOf (Z3.out.kept E2 (by omega))
 have PA:=hidOf (A1.kept D2)
 have PO:=hidOf (O1.kept D2)
 have PB:=hidOf (HB0.out.trans (E2.mono HB0.out.size))
 have HW2:=hidOf hW2
 clear hW2 D1 D2 E2 A1 O1 Z1 Z2 Z3 HB0
 obtain ⟨⟨c0,c1,c2,c3,c4,c5,c6,c7,c8,c9,c10,c11,c12,c13⟩,cz⟩:=P2.out
 go_upto_region 10 with fail
 rw[←HW2.out]
 clear HW2
 go_wp2_with fail
 refine (FORM.out _).mono ?_
 rintro e w3 ⟨rfl,E3⟩
 clear c0 c1 c2 c3 c4 c5 c6 c7 c8 c9 c10 c11 c12 c13 cz FORM
 replace P1:=hidOf (P1.out.kept E3 (by omega))
 replace P3:=hidOf (P3.out.kept E3 (by omega))
 replace P2:=hidOf (P2.out.kept E3 (by omega))
 replace PX:=hidOf (PX.out.kept E3 (by omega))
 replace PA:=hidOf (PA.out.kept E3)
 replace PO:=hidOf (PO.out.kept E3)
 replace PB:=hidOf (PB.out.trans (E3.mono PB.out.size))
 have hs3:w1.heap.size+1<=w3.heap.size:=by have:=E3.size;omega
 clear E3 hs2
 have hs3':(w.heap.size+1+1+1)<=w1.heap.size:=by omega
 clear hs1 hs0
 obtain ⟨⟨c0,c1,c2,c3,c4,c5,c6,c7,c8,c9,c10,c11,c12,c13⟩,cz⟩:=P2.out
 obtain ⟨⟨s0,s1,s2,s3,s4,s5,s6⟩,sf,sz⟩:=P1.out
 go_wp2_with fail
 refine (PL.out _ (HF.out.below PB.out) (HO.out.below PB.out)).mono ?_
 rintro e w4 ⟨rfl,E4⟩
 clear c0 c1 c2 c3 c4 c5 c6 c7 c8 c9 c10 c11 c12 c13 cz s0 s1 s2 s3 s4 s5 s6 sf sz PL
 replace P1:=hidOf (P1.out.kept E4 (by omega))
 replace P3:=hidOf (P3.out.kept E4 (by omega))
 replace P2:=hidOf (P2.out.kept E4 (by omega))
 replace PX:=hidOf (PX.out.kept E4 (by omega))
 replace PA:=hidOf (PA.out.kept E4)
 replace PO:=hidOf (PO.out.kept E4)
 replace PB:=hidOf (PB.out.trans (E4.mono PB.out.size))
 have hs4:=E4.size
 obtain ⟨V5,hV5⟩:∃V5,V5=(((((((w4.setCell ⟨w1.heap.size,0,none⟩ (.int .i64 0)).setCell ⟨w1.heap.size,1,none⟩ (.slice none 0 0)).setCell ⟨w1.heap.size,2,none⟩ (.slice none 0 0)).setCell ⟨w1.heap.size,3,none⟩ (.int .i64 0)).setCell ⟨w1.heap.size,4,none⟩ (.int .i64 0)).setCell ⟨w1.heap.size,5,none⟩ (.int .i64 0)).setCell ⟨w1.heap.size,6,none⟩ (.int .i64 0)):=⟨_,rfl⟩
 have hz5:V5.heap.size=w4.heap.size:=by rw[hV5];simp[World.setCell]
 have XT:Hid (Box7 V5 w1.heap.size (.int .i64 (0)) (.slice none 0 0) (.slice none 0 0) (.int .i64 (0)) (.int .i64 (0)) (.int .i64 (0)) (.int .i64 (0))):=by show Box7 _ _ _ _ _ _ _ _ _;rw[hV5];exact (((((((PX.out.set0 _).set1 _).set2 _).set3 _).set4 _).set5 _).set6 _)
 have P1':Hid (BxK V5 w.heap.size (.slice a L.length c) (.slice b O.length d) k):=by show Box7 _ _ _ _ _ _ _ _ _;rw[hV5];exact ((((((P1.out.far (by omega) _ _).far (by omega) _ _).far (by omega) _ _).far (by omega) _ _).far (by omega) _ _).far (by omega) _ _).far (by omega) _ _
 have P3':Hid (BxZ V5 (w.heap.size+1+1)):=by show Box7 _ _ _ _ _ _ _ _ _;rw[hV5];exact ((((((P3.out.far (by omega) _ _).far (by omega) _ _).far (by omega) _ _).far (by omega) _ _).far (by omega) _ _).far (by omega) _ _).far (by omega) _ _
 have PB':Hid (Below w.heap.size w V5):=by show Below _ _ _;rw[hV5];exact (below_far (below_far (below_far (below_far (below_far (below_far (below_far PB.out (by omega) _ _) (by omega) _ _) (by omega) _ _) (by omega) _ _) (by omega) _ _) (by omega) _ _) (by omega) _ _)
 obtain ⟨⟨x0,x1,x2,x3,x4,x5,x6⟩,xf,xz⟩:=PX.out
 have HV5:=hidOf hV5
 clear hV5 E4 PX PA PO P1 P2 P3 PB
 go_upto_region 27 with fail
 rw[←HV5.out]
 clear HV5 x0 x1 x2 x3 x4 x5 x6 xf xz
 have P1:=P1'
 have P3:=P3'
 have PB:=PB'
 clear P1' P3' PB'
 clear XT
 obtain ⟨⟨s0,s1,s2,s3,s4,s5,s6⟩,sf,sz⟩:=P1.out
 go_wp2_with fail
 refine (specCopyBank a b c d L O k _ (HF.out.below PB.out) (HO.out.below PB.out)).mono ?_
 rintro e w9 ⟨v9,u9,rfl,A9,O9,B9⟩
 obtain ⟨a9,c9,hv⟩:=A9.len
 subst hv
 obtain ⟨b9,d9,hv⟩:=O9.len
 subst hv
 clear s0 s1 s2 s3 s4 s5 s6 sf sz
 have hs9:w.heap.size+1+1<V5.heap.size:=P3.out.2.2
 obtain ⟨⟨r0,r1,r2,r3,r4,r5,r6⟩,rf,rz⟩:=P3.out.kept B9 hs9
 have HA9:=hidOf A9
 have HO9:=hidOf O9
 have HB9:=hidOf (PB.out.trans (B9.mono PB.out.size))
 clear A9 O9 B9 P1 P3 PB
 go_wp2
 refine bodyPost_ret (v:=.tuple #[.agg #[.int .i64 (k.day),.slice a9 L.length c9,.slice b9 O.length d9,.int .i64 (k.inn),.int .i64 (k.out),.int .i64 (k.posted),.int .i64 (k.missed)],.int .i64 7]) (by simp[results,Tryz.results84,go_sem,r0,r1,r2,r3,r4,r5,r6]) rfl ?_
 rw[HFIN.out]
 refine ⟨_,_,rfl,?_,?_,?_⟩
 ·refine AL.mono (B:=V5.heap.size) ?_ (by omega)
  repeat (refine AL.far ?_ hs9 _ _)
  exact HA9.out
 ·refine OrdL.mono (B:=V5.heap.size) ?_ (by omega)
  repeat (refine OrdL.far ?_ hs9 _ _)
  exact HO9.out
 ·repeat (refine below_far ?_ (by omega) _ _)
  exact HB9.out
theorem specRan_day_yes (a b:Option Addr) (c d:Nat) (L:List Acc) (O:List Ord) (k:Bk) (n:Int) (x:OpF) (o:Ord) (w:World) (hF:Fo w a L.length (FL L)) (hO:Ords w b O.length (OrdF O)) (hd:O.length<=d) (hb:bankOk (FL L) L.length (OrdF O) O.length k) (hok:bopOk 22 x o n) (ht:endOk L O k):
  Calls Tryz.prog 84 #[.agg #[.int .i64 k.day,.slice a L.length c,.slice b O.length d,.int .i64 k.inn,.int .i64 k.out,.int .i64 k.posted,.int .i64 k.missed],.agg #[.int .i64 22,.int .i64 x.k,.int .i64 x.i,.int .i64 x.t,.int .i64 x.m,.int .i64 x.r,.int .i64 o.id,.int .i64 o.src,.int .i64 o.dst,.int .i64 o.amount,.int .i64 o.first,.int .i64 o.every,.int .i64 o.times,.int .i64 n]] w fun e w'=>RanOut (finR L O k ⟨0,endA L O k,endO O k,endK L O k⟩) w e w':=by
 have HOK:=hidOf hb
 have hl12:L.length<=12:=hb.2.1.1
 have hol:O.length<=8:=hb.2.2.1.1
 have FORM:=hidOf (fun W=>form_yes hok W)
 have PL:Hid (∀W,Fo W a L.length (FL L)->Ords W b O.length (OrdF O)->Calls Tryz.prog 72 #[.agg #[.int .i64 k.day,.slice a L.length c,.slice b O.length d,.int .i64 k.inn,.int .i64 k.out,.int .i64 k.posted,.int .i64 k.missed]] W fun e w'=>∃v u,e=.returned (.tuple #[.agg #[.int .i64 ((endK L O k).day),v,u,.int .i64 ((endK L O k).inn),.int .i64 ((endK L O k).out),.int .i64 ((endK L O k).posted),.int .i64 ((endK L O k).missed)],.bool true])/\AL w' W.heap.size v (endA L O k)/\OrdL w' W.heap.size u (endO O k)/\Below W.heap.size W w'):=fun W h1 h2=>(specEnded5 a b c d L O k W h1 h2 hb).mono (by
  rintro e w' (⟨_,h⟩|⟨h,_⟩)
  ·exact h
  ·exact absurd ht h)
 have hla:(endA L O k).length<=L.length:=Nat.le_of_eq (toL_len _ _)
 have hlo:(endO O k).length<=O.length:=List.length_filter_le _ _
 clear ht
 generalize endK L O k=K2 at*
 generalize endA L O k=A2 at*
 generalize endO O k=O2 at*
 clear hb hok
 have HF:=hidOf hF
 have HO:=hidOf hO
 obtain ⟨W0,hW0,hs0,b0,z1,z2,z3⟩:=ran_head a b c d L O k 22 n x o w
 have HW0:=hidOf hW0
 have HB0:=hidOf b0
 have Z1:=hidOf z1
 have Z2:=hidOf z2
 have Z3:=hidOf z3
 clear hW0 b0 z1 z2 z3 hF hO
 go_enter Tryz.func84,Tryz.ntmps84
 go_wp2_with fail
 rw[←HW0.out]
 clear HW0
 refine (specCopyBank a b c d L O k _ (HF.out.below HB0.out) (HO.out.below HB0.out)).mono ?_
 rintro e w1 ⟨v1,u1,rfl,A1,O1,D1⟩
 rw[hs0] at A1 O1
 obtain ⟨a1,c1',hv⟩:=A1.len
 subst hv
 obtain ⟨b1,d1,hv⟩:=O1.len
 subst hv
 obtain ⟨W2,hW2⟩:∃W2,W2=w1.alloc (.cells #[.int .i64 k.day,.slice a1 L.length c1',.slice b1 O.length d1,.int .i64 k.inn,.int .i64 k.out,.int .i64 k.posted,.int .i64 k.missed] 38):=⟨_,rfl⟩
 have D2:Below w1.heap.size w1 W2:=by rw[hW2];exact (Below.refl _ _).alloc (Nat.le_refl _) _
 have hs1:=D1.size
 have hs2:W2.heap.size=w1.heap.size+1:=by rw[hW2];simp
 have E2:Below W0.heap.size W0 W2:=D1.trans (D2.mono D1.size)
 have PX:Hid (BxK W2 w1.heap.size (.slice a1 L.length c1') (.slice b1 O.length d1) k):=by
  show Box7 _ _ _ _ _ _ _ _ _;rw[hW2];exact Box7.new w1 _ _ _ _ _ _ _ 38
 have P1:=hidOf (Z1.out.kept E2 (by omega))
 have P2:=hidOf (Z2.out.kept E2 (by omega))
 have P3:=hidOf (Z3.out.kept E2 (by omega))
 have PA:=hidOf (A1.kept D2)
 have PO:=hidOf (O1.kept D2)
 have PB:=hidOf (HB0.out.trans (E2.mono HB0.out.size))
 have HW2:=hidOf hW2
 clear hW2 D1 D2 E2 A1 O1 Z1 Z2 Z3 HB0
 obtain ⟨⟨c0,c1,c2,c3,c4,c5,c6,c7,c8,c9,c10,c11,c12,c13⟩,cz⟩:=P2.out
 go_upto_region 10 with fail
 rw[←HW2.out]
 clear HW2
 go_wp2_with fail
 refine (FORM.out _).mono ?_
 rintro e w3 ⟨rfl,E3⟩
 clear c0 c1 c2 c3 c4 c5 c6 c7 c8 c9 c10 c11 c12 c13 cz FORM
 replace P1:=hidOf (P1.out.kept E3 (by omega))
 replace P3:=hidOf (P3.out.kept E3 (by omega))
 replace P2:=hidOf (P2.out.kept E3 (by omega))
 replace PX:=hidOf (PX.out.kept E3 (by omega))
 replace PA:=hidOf (PA.out.kept E3)
 replace PO:=hidOf (PO.out.kept E3)
 replace PB:=hidOf (PB.out.trans (E3.mono PB.out.size))
 have hs3:w1.heap.size+1<=w3.heap.size:=by have:=E3.size;omega
 clear E3 hs2
 have hs3':(w.heap.size+1+1+1)<=w1.heap.size:=by omega
 clear hs1 hs0
 obtain ⟨⟨c0,c1,c2,c3,c4,c5,c6,c7,c8,c9,c10,c11,c12,c13⟩,cz⟩:=P2.out
 obtain ⟨⟨s0,s1,s2,s3,s4,s5,s6⟩,sf,sz⟩:=P1.out
 go_wp2_with fail
 refine (PL.out _ (HF.out.below PB.out) (HO.out.below PB.out)).mono ?_
 rintro e w4 ⟨v4,u4,rfl,A4,O4,E4⟩
 obtain ⟨a4,c4',hv⟩:=A4.len
 subst hv
 obtain ⟨b4,d4,hv⟩:=O4.len
 subst hv
 clear c0 c1 c2 c3 c4 c5 c6 c7 c8 c9 c10 c11 c12 c13 cz s0 s1 s2 s3 s4 s5 s6 sf sz PL
 replace P1:=hidOf (P1.out.kept E4 (by omega))
 replace P3:=hidOf (P3.out.kept E4 (by omega))
 replace P2:=hidOf (P2.out.kept E4 (by omega))
 replace PX:=hidOf (PX.out.kept E4 (by omega))
 replace PA:=hidOf (PA.out.kept E4)
 replace PO:=hidOf (PO.out.kept E4)
 replace PB:=hidOf (PB.out.trans (E4.mono PB.out.size))
 have hs4:=E4.size
 obtain ⟨V5,hV5⟩:∃V5,V5=(((((((w4.setCell ⟨w1.heap.size,0,none⟩ (.int .i64 K2.day)).setCell ⟨w1.heap.size,1,none⟩ (.slice a4 A2.length c4')).setCell ⟨w1.heap.size,2,none⟩ (.slice b4 O2.length d4)).setCell ⟨w1.heap.size,3,none⟩ (.int .i64 K2.inn)).setCell ⟨w1.heap.size,4,none⟩ (.int .i64 K2.out)).setCell ⟨w1.heap.size,5,none⟩ (.int .i64 K2.posted)).setCell ⟨w1.heap.size,6,none⟩ (.int .i64 K2.missed)):=⟨_,rfl⟩
 have hz5:V5.heap.size=w4.heap.size:=by rw[hV5];simp[World.setCell]
 have XT:Hid (BxK V5 w1.heap.size (.slice a4 A2.length c4') (.slice b4 O2.length d4) K2):=by show Box7 _ _ _ _ _ _ _ _ _;rw[hV5];exact (((((((PX.out.set0 _).set1 _).set2 _).set3 _).set4 _).set5 _).set6 _)
 have AT:Hid (AL V5 (w.heap.size+1+1+1) (.slice a4 A2.length c4') A2):=by
  show AL _ _ _ _;rw[hV5]
  exact AL.mono (((((((A4.far (by omega) _ _).far (by omega) _ _).far (by omega) _ _).far (by omega) _ _).far (by omega) _ _).far (by omega) _ _).far (by omega) _ _) (by omega)
 have OT:Hid (OrdL V5 (w.heap.size+1+1+1) (.slice b4 O2.length d4) O2):=by
  show OrdL _ _ _ _;rw[hV5]
  exact OrdL.mono (((((((O4.far (by omega) _ _).far (by omega) _ _).far (by omega) _ _).far (by omega) _ _).far (by omega) _ _).far (by omega) _ _).far (by omega) _ _) (by omega)
 have P1':Hid (BxK V5 w.heap.size (.slice a L.length c) (.slice b O.length d) k):=by show Box7 _ _ _ _ _ _ _ _ _;rw[hV5];exact ((((((P1.out.far (by omega) _ _).far (by omega) _ _).far (by omega) _ _).far (by omega) _ _).far (by omega) _ _).far (by omega) _ _).far (by omega) _ _
 have P3':Hid (BxZ V5 (w.heap.size+1+1)):=by show Box7 _ _ _ _ _ _ _ _ _;rw[hV5];exact ((((((P3.out.far (by omega) _ _).far (by omega) _ _).far (by omega) _ _).far (by omega) _ _).far (by omega) _ _).far (by omega) _ _).far (by omega) _ _
 have PB':Hid (Below w.heap.size w V5):=by show Below _ _ _;rw[hV5];exact (below_far (below_far (below_far (below_far (below_far (below_far (below_far PB.out (by omega) _ _) (by omega) _ _) (by omega) _ _) (by omega) _ _) (by omega) _ _) (by omega) _ _) (by omega) _ _)
 obtain ⟨⟨x0,x1,x2,x3,x4,x5,x6⟩,xf,xz⟩:=PX.out
 have HV5:=hidOf hV5
 clear hV5 A4 O4 E4 PX PA PO P1 P2 P3 PB
 go_upto_region 27 with fail
 rw[←HV5.out]
 clear HV5 x0 x1 x2 x3 x4 x5 x6 xf xz
 have P1:=P1'
 have P3:=P3'
 have PB:=PB'
 clear P1' P3' PB'
 have BNK:Hid (Calls Tryz.prog 31 #[.agg #[.int .i64 (K2.day),.slice a4 A2.length c4',.slice b4 O2.length d4,.int .i64 (K2.inn),.int .i64 (K2.out),.int .i64 (K2.posted),.int .i64 (K2.missed)]] V5 fun e w'=>Tells e (Rn.mk 0 A2 O2 K2).ok/\Below V5.heap.size V5 w'):=by
  have:=specBank a4 b4 (A2.length) c4' (O2.length) d4 (FL A2) (OrdF O2) K2 V5 (AT.out.fo (by omega)).2 (OT.out.list (by omega)).2
  exact this
 obtain ⟨⟨x0,x1,x2,x3,x4,x5,x6⟩,xf,xz⟩:=XT.out
 go_wp2_with fail
 refine BNK.out.mono ?_
 rintro e w8 ⟨⟨bb,rfl,hb1,hb2⟩,B8⟩
 have hs8:=B8.size
 clear x0 x1 x2 x3 x4 x5 x6 xf xz
 have XT':=hidOf (XT.out.kept B8 XT.out.2.2)
 have AT':=hidOf (AT.out.kept B8)
 have OT':=hidOf (OT.out.kept B8)
 have P1':=hidOf (P1.out.kept B8 P1.out.2.2)
 have P3':=hidOf (P3.out.kept B8 P3.out.2.2)
 have PB':=hidOf (PB.out.trans (B8.mono PB.out.size))
 clear XT AT OT P1 P3 PB B8 BNK
 have P1:=P1'
 have P3:=P3'
 have PB:=PB'
 clear P1' P3' PB'
 cases bb with
 | true=>
  have HN:Hid ((Rn.mk 0 A2 O2 K2).ok):=hb1 rfl
  obtain ⟨⟨x0,x1,x2,x3,x4,x5,x6⟩,xf,xz⟩:=XT'.out
  obtain ⟨⟨r0,r1,r2,r3,r4,r5,r6⟩,rf,rz⟩:=P3.out
  clear hb1 hb2
  go_wp2
  refine bodyPost_ret (v:=.tuple #[.agg #[.int .i64 (K2.day),.slice a4 A2.length c4',.slice b4 O2.length d4,.int .i64 (K2.inn),.int .i64 (K2.out),.int .i64 (K2.posted),.int .i64 (K2.missed)],.int .i64 0]) (by simp[results,Tryz.results84,go_sem,r0,r1,r2,r3,r4,r5,r6]) rfl ?_
  rw[fin_yes (q:=(Rn.mk 0 A2 O2 K2)) rfl HN.out]
  refine ⟨.slice a4 A2.length c4',.slice b4 O2.length d4,?_,?_,?_,?_⟩
  ·rfl
  ·refine AL.mono (B:=(w.heap.size+1+1+1)) ?_ (by omega)
   repeat (refine AL.far ?_ (by omega) _ _)
   exact AT'.out
  ·refine OrdL.mono (B:=(w.heap.size+1+1+1)) ?_ (by omega)
   repeat (refine OrdL.far ?_ (by omega) _ _)
   exact OT'.out
  ·repeat (refine below_far ?_ (by omega) _ _)
   exact PB.out
 | false=>
  have HN:Hid (¬(Rn.mk 0 A2 O2 K2).ok):=hb2 rfl
  have HFIN:Hid (finR L O k (Rn.mk 0 A2 O2 K2)=⟨7,L,O,k⟩):=fin_full (q:=(Rn.mk 0 A2 O2 K2)) rfl HN.out
  clear hb1 hb2 XT' AT' OT'
  obtain ⟨⟨s0,s1,s2,s3,s4,s5,s6⟩,sf,sz⟩:=P1.out
  go_wp2_with fail
  refine (specCopyBank a b c d L O k _ (HF.out.below PB.out) (HO.out.below PB.out)).mono ?_
  rintro e w9 ⟨v9,u9,rfl,A9,O9,B9⟩
  obtain ⟨a9,c9,hv⟩:=A9.len
  subst hv
  obtain ⟨b9,d9,hv⟩:=O9.len
  subst hv
  clear s0 s1 s2 s3 s4 s5 s6 sf sz
  have hs9:w.heap.size+1+1<w8.heap.size:=P3.out.2.2
  obtain ⟨⟨r0,r1,r2,r3,r4,r5,r6⟩,rf,rz⟩:=P3.out.kept B9 hs9
  have HA9:=hidOf A9
  have HO9:=hidOf O9
  have HB9:=hidOf (PB.out.trans (B9.mono PB.out.size))
  clear A9 O9 B9 P1 P3 PB
  go_wp2
  refine bodyPost_ret (v:=.tuple #[.agg #[.int .i64 (k.day),.slice a9 L.length c9,.slice b9 O.length d9,.int .i64 (k.inn),.int .i64 (k.out),.int .i64 (k.posted),.int .i64 (k.missed)],.int .i64 7]) (by simp[results,Tryz.results84,go_sem,r0,r1,r2,r3,r4,r5,r6]) rfl ?_
  rw[HFIN.out]
  refine ⟨_,_,rfl,?_,?_,?_⟩
  ·refine AL.mono (B:=w8.heap.size) ?_ (by omega)
   repeat (refine AL.far ?_ hs9 _ _)
   exact HA9.out
  ·refine OrdL.mono (B:=w8.heap.size) ?_ (by omega)
   repeat (refine OrdL.far ?_ hs9 _ _)
   exact HO9.out
  ·repeat (refine below_far ?_ (by omega) _ _)
   exact HB9.out
theorem specRan_none (a b:Option Addr) (c d:Nat) (L:List Acc) (O:List Ord) (k:Bk) (n:Int) (x:OpF) (o:Ord) (w:World) (hF:Fo w a L.length (FL L)) (hO:Ords w b O.length (OrdF O)) (hd:O.length<=d) (hb:bankOk (FL L) L.length (OrdF O) O.length k) (hok:bopOk 21 x o n) (ht:¬thereO O n):
  Calls Tryz.prog 84 #[.agg #[.int .i64 k.day,.slice a L.length c,.slice b O.length d,.int .i64 k.inn,.int .i64 k.out,.int .i64 k.posted,.int .i64 k.missed],.agg #[.int .i64 21,.int .i64 x.k,.int .i64 x.i,.int .i64 x.t,.int .i64 x.m,.int .i64 x.r,.int .i64 o.id,.int .i64 o.src,.int .i64 o.dst,.int .i64 o.amount,.int .i64 o.first,.int .i64 o.every,.int .i64 o.times,.int .i64 n]] w fun e w'=>RanOut (finR L O k ⟨3,L,O,k⟩) w e w':=by
 have HOK:=hidOf hb
 have hl12:L.length<=12:=hb.2.1.1
 have hol:O.length<=8:=hb.2.2.1.1
 have FORM:=hidOf (fun W=>form_yes hok W)
 have PL:Hid (∀W,Ords W b O.length (OrdF O)->Calls Tryz.prog 134 #[.slice b O.length d,.int .i64 n] W fun e w'=>e=.returned (.int .i64 (-1))/\Below W.heap.size W w'):=fun W h1=>(specOrder b d O n W h1).mono (by
  rintro e w' ⟨rfl,h⟩
  rw[idx_none ht]
  exact ⟨rfl,h⟩)
 have HFIN:Hid (finR L O k ⟨3,L,O,k⟩=⟨3,L,O,k⟩):=fin_no (by simp)
 clear ht
 clear hb hok
 have HF:=hidOf hF
 have HO:=hidOf hO
 obtain ⟨W0,hW0,hs0,b0,z1,z2,z3⟩:=ran_head a b c d L O k 21 n x o w
 have HW0:=hidOf hW0
 have HB0:=hidOf b0
 have Z1:=hidOf z1
 have Z2:=hidOf z2
 have Z3:=hidOf z3
 clear hW0 b0 z1 z2 z3 hF hO
 go_enter Tryz.func84,Tryz.ntmps84
 go_wp2_with fail
 rw[←HW0.out]
 clear HW0
 refine (specCopyBank a b c d L O k _ (HF.out.below HB0.out) (HO.out.below HB0.out)).mono ?_
 rintro e w1 ⟨v1,u1,rfl,A1,O1,D1⟩
 rw[hs0] at A1 O1
 obtain ⟨a1,c1',hv⟩:=A1.len
 subst hv
 obtain ⟨b1,d1,hv⟩:=O1.len
 subst hv
 obtain ⟨W2,hW2⟩:∃W2,W2=w1.alloc (.cells #[.int .i64 k.day,.slice a1 L.length c1',.slice b1 O.length d1,.int .i64 k.inn,.int .i64 k.out,.int .i64 k.posted,.int .i64 k.missed] 38):=⟨_,rfl⟩
 have D2:Below w1.heap.size w1 W2:=by rw[hW2];exact (Below.refl _ _).alloc (Nat.le_refl _) _
 have hs1:=D1.size
 have hs2:W2.heap.size=w1.heap.size+1:=by rw[hW2];simp
 have E2:Below W0.heap.size W0 W2:=D1.trans (D2.mono D1.size)
 have PX:Hid (BxK W2 w1.heap.size (.slice a1 L.length c1') (.slice b1 O.length d1) k):=by
  show Box7 _ _ _ _ _ _ _ _ _;rw[hW2];exact Box7.new w1 _ _ _ _ _ _ _ 38
 have P1:=hidOf (Z1.out.kept E2 (by omega))
 have P2:=hidOf (Z2.out.kept E2 (by omega))
 have P3:=hidOf (Z3.out.kept E2 (by omega))
 have PA:=hidOf (A1.kept D2)
 have PO:=hidOf (O1.kept D2)
 have PB:=hidOf (HB0.out.trans (E2.mono HB0.out.size))
 have HW2:=hidOf hW2
 clear hW2 D1 D2 E2 A1 O1 Z1 Z2 Z3 HB0
 obtain ⟨⟨c0,c1,c2,c3,c4,c5,c6,c7,c8,c9,c10,c11,c12,c13⟩,cz⟩:=P2.out
 go_upto_region 10 with fail
 rw[←HW2.out]
 clear HW2
 go_wp2_with fail
 refine (FORM.out _).mono ?_
 rintro e w3 ⟨rfl,E3⟩
 clear c0 c1 c2 c3 c4 c5 c6 c7 c8 c9 c10 c11 c12 c13 cz FORM
 replace P1:=hidOf (P1.out.kept E3 (by omega))
 replace P3:=hidOf (P3.out.kept E3 (by omega))
 replace P2:=hidOf (P2.out.kept E3 (by omega))
 replace PX:=hidOf (PX.out.kept E3 (by omega))
 replace PA:=hidOf (PA.out.kept E3)
 replace PO:=hidOf (PO.out.kept E3)
 replace PB:=hidOf (PB.out.trans (E3.mono PB.out.size))
 have hs3:w1.heap.size+1<=w3.heap.size:=by have:=E3.size;omega
 clear E3 hs2
 have hs3':(w.heap.size+1+1+1)<=w1.heap.size:=by omega
 clear hs1 hs0
 obtain ⟨⟨c0,c1,c2,c3,c4,c5,c6,c7,c8,c9,c10,c11,c12,c13⟩,cz⟩:=P2.out
 obtain ⟨⟨s0,s1,s2,s3,s4,s5,s6⟩,sf,sz⟩:=P1.out
 go_wp2_with fail
 refine (PL.out _ (HO.out.below PB.out)).mono ?_
 rintro e w4 ⟨rfl,E4⟩
 clear c0 c1 c2 c3 c4 c5 c6 c7 c8 c9 c10 c11 c12 c13 cz s0 s1 s2 s3 s4 s5 s6 sf sz PL
 replace P1:=hidOf (P1.out.kept E4 (by omega))
 replace P3:=hidOf (P3.out.kept E4 (by omega))
 replace P2:=hidOf (P2.out.kept E4 (by omega))
 replace PX:=hidOf (PX.out.kept E4 (by omega))
 replace PA:=hidOf (PA.out.kept E4)
 replace PO:=hidOf (PO.out.kept E4)
 replace PB:=hidOf (PB.out.trans (E4.mono PB.out.size))
 have hs4:=E4.size
 clear E4 PX PA PO P2
 obtain ⟨⟨s0,s1,s2,s3,s4,s5,s6⟩,sf,sz⟩:=P1.out
 go_wp2_with fail
 refine (specCopyBank a b c d L O k _ (HF.out.below PB.out) (HO.out.below PB.out)).mono ?_
 rintro e w9 ⟨v9,u9,rfl,A9,O9,B9⟩
 obtain ⟨a9,c9,hv⟩:=A9.len
 subst hv
 obtain ⟨b9,d9,hv⟩:=O9.len
 subst hv
 clear s0 s1 s2 s3 s4 s5 s6 sf sz
 have hs9:w.heap.size+1+1<w4.heap.size:=P3.out.2.2
 obtain ⟨⟨r0,r1,r2,r3,r4,r5,r6⟩,rf,rz⟩:=P3.out.kept B9 hs9
 have HA9:=hidOf A9
 have HO9:=hidOf O9
 have HB9:=hidOf (PB.out.trans (B9.mono PB.out.size))
 clear A9 O9 B9 P1 P3 PB
 go_wp2
 refine bodyPost_ret (v:=.tuple #[.agg #[.int .i64 (k.day),.slice a9 L.length c9,.slice b9 O.length d9,.int .i64 (k.inn),.int .i64 (k.out),.int .i64 (k.posted),.int .i64 (k.missed)],.int .i64 3]) (by simp[results,Tryz.results84,go_sem,r0,r1,r2,r3,r4,r5,r6]) rfl ?_
 rw[HFIN.out]
 refine ⟨_,_,rfl,?_,?_,?_⟩
 ·refine AL.mono (B:=w4.heap.size) ?_ (by omega)
  repeat (refine AL.far ?_ hs9 _ _)
  exact HA9.out
 ·refine OrdL.mono (B:=w4.heap.size) ?_ (by omega)
  repeat (refine OrdL.far ?_ hs9 _ _)
  exact HO9.out
 ·repeat (refine below_far ?_ (by omega) _ _)
  exact HB9.out
theorem specRan_there (a b:Option Addr) (c d:Nat) (L:List Acc) (O:List Ord) (k:Bk) (n:Int) (x:OpF) (o:Ord) (w:World) (hF:Fo w a L.length (FL L)) (hO:Ords w b O.length (OrdF O)) (hd:O.length<=d) (hb:bankOk (FL L) L.length (OrdF O) O.length k) (hok:bopOk 20 x o n) (ht:thereO O o.id):
  Calls Tryz.prog 84 #[.agg #[.int .i64 k.day,.slice a L.length c,.slice b O.length d,.int .i64 k.inn,.int .i64 k.out,.int .i64 k.posted,.int .i64 k.missed],.agg #[.int .i64 20,.int .i64 x.k,.int .i64 x.i,.int .i64 x.t,.int .i64 x.m,.int .i64 x.r,.int .i64 o.id,.int .i64 o.src,.int .i64 o.dst,.int .i64 o.amount,.int .i64 o.first,.int .i64 o.every,.int .i64 o.times,.int .i64 n]] w fun e w'=>RanOut (finR L O k ⟨4,L,O,k⟩) w e w':=by
 have HOK:=hidOf hb
 have hl12:L.length<=12:=hb.2.1.1
 have hol:O.length<=8:=hb.2.2.1.1
 have FORM:=hidOf (fun W=>form_yes hok W)
 obtain ⟨r,hrl,_,_,hidx⟩:=there_place hb.2.2.1 ht
 have PL:Hid (∀W,Ords W b O.length (OrdF O)->Calls Tryz.prog 134 #[.slice b O.length d,.int .i64 o.id] W fun e w'=>e=.returned (.int .i64 (r:Int))/\Below W.heap.size W w'):=fun W h1=>(specOrder b d O o.id W h1).mono (by
  rintro e w' ⟨rfl,h⟩
  rw[hidx]
  exact ⟨rfl,h⟩)
 clear hidx
 have HFIN:Hid (finR L O k ⟨4,L,O,k⟩=⟨4,L,O,k⟩):=fin_no (by simp)
 clear ht
 clear hb hok
 have HF:=hidOf hF
 have HO:=hidOf hO
 obtain ⟨W0,hW0,hs0,b0,z1,z2,z3⟩:=ran_head a b c d L O k 20 n x o w
 have HW0:=hidOf hW0
 have HB0:=hidOf b0
 have Z1:=hidOf z1
 have Z2:=hidOf z2
 have Z3:=hidOf z3
 clear hW0 b0 z1 z2 z3 hF hO
 go_enter Tryz.func84,Tryz.ntmps84
 go_wp2_with fail
 rw[←HW0.out]
 clear HW0
 refine (specCopyBank a b c d L O k _ (HF.out.below HB0.out) (HO.out.below HB0.out)).mono ?_
 rintro e w1 ⟨v1,u1,rfl,A1,O1,D1⟩
 rw[hs0] at A1 O1
 obtain ⟨a1,c1',hv⟩:=A1.len
 subst hv
 obtain ⟨b1,d1,hv⟩:=O1.len
 subst hv
 obtain ⟨W2,hW2⟩:∃W2,W2=w1.alloc (.cells #[.int .i64 k.day,.slice a1 L.length c1',.slice b1 O.length d1,.int .i64 k.inn,.int .i64 k.out,.int .i64 k.posted,.int .i64 k.missed] 38):=⟨_,rfl⟩
 have D2:Below w1.heap.size w1 W2:=by rw[hW2];exact (Below.refl _ _).alloc (Nat.le_refl _) _
 have hs1:=D1.size
 have hs2:W2.heap.size=w1.heap.size+1:=by rw[hW2];simp
 have E2:Below W0.heap.size W0 W2:=D1.trans (D2.mono D1.size)
 have PX:Hid (BxK W2 w1.heap.size (.slice a1 L.length c1') (.slice b1 O.length d1) k):=by
  show Box7 _ _ _ _ _ _ _ _ _;rw[hW2];exact Box7.new w1 _ _ _ _ _ _ _ 38
 have P1:=hidOf (Z1.out.kept E2 (by omega))
 have P2:=hidOf (Z2.out.kept E2 (by omega))
 have P3:=hidOf (Z3.out.kept E2 (by omega))
 have PA:=hidOf (A1.kept D2)
 have PO:=hidOf (O1.kept D2)
 have PB:=hidOf (HB0.out.trans (E2.mono HB0.out.size))
 have HW2:=hidOf hW2
 clear hW2 D1 D2 E2 A1 O1 Z1 Z2 Z3 HB0
 obtain ⟨⟨c0,c1,c2,c3,c4,c5,c6,c7,c8,c9,c10,c11,c12,c13⟩,cz⟩:=P2.out
 go_upto_region 10 with fail
 rw[←HW2.out]
 clear HW2
 go_wp2_with fail
 refine (FORM.out _).mono ?_
 rintro e w3 ⟨rfl,E3⟩
 clear c0 c1 c2 c3 c4 c5 c6 c7 c8 c9 c10 c11 c12 c13 cz FORM
 replace P1:=hidOf (P1.out.kept E3 (by omega))
 replace P3:=hidOf (P3.out.kept E3 (by omega))
 replace P2:=hidOf (P2.out.kept E3 (by omega))
 replace PX:=hidOf (PX.out.kept E3 (by omega))
 replace PA:=hidOf (PA.out.kept E3)
 replace PO:=hidOf (PO.out.kept E3)
 replace PB:=hidOf (PB.out.trans (E3.mono PB.out.size))
 have hs3:w1.heap.size+1<=w3.heap.size:=by have:=E3.size;omega
 clear E3 hs2
 have hs3':(w.heap.size+1+1+1)<=w1.heap.size:=by omega
 clear hs1 hs0
 obtain ⟨⟨c0,c1,c2,c3,c4,c5,c6,c7,c8,c9,c10,c11,c12,c13⟩,cz⟩:=P2.out
 obtain ⟨⟨s0,s1,s2,s3,s4,s5,s6⟩,sf,sz⟩:=P1.out
 go_wp2_with fail
 refine (PL.out _ (HO.out.below PB.out)).mono ?_
 rintro e w4 ⟨rfl,E4⟩
 clear c0 c1 c2 c3 c4 c5 c6 c7 c8 c9 c10 c11 c12 c13 cz s0 s1 s2 s3 s4 s5 s6 sf sz PL
 replace P1:=hidOf (P1.out.kept E4 (by omega))
 replace P3:=hidOf (P3.out.kept E4 (by omega))
 replace P2:=hidOf (P2.out.kept E4 (by omega))
 replace PX:=hidOf (PX.out.kept E4 (by omega))
 replace PA:=hidOf (PA.out.kept E4)
 replace PO:=hidOf (PO.out.kept E4)
 replace PB:=hidOf (PB.out.trans (E4.mono PB.out.size))
 have hs4:=E4.size
 clear E4 PX PA PO P2
 obtain ⟨⟨s0,s1,s2,s3,s4,s5,s6⟩,sf,sz⟩:=P1.out
 go_wp2_with fail
 refine (specCopyBank a b c d L O k _ (HF.out.below PB.out) (HO.out.below PB.out)).mono ?_
 rintro e w9 ⟨v9,u9,rfl,A9,O9,B9⟩
 obtain ⟨a9,c9,hv⟩:=A9.len
 subst hv
 obtain ⟨b9,d9,hv⟩:=O9.len
 subst hv
 clear s0 s1 s2 s3 s4 s5 s6 sf sz
 have hs9:w.heap.size+1+1<w4.heap.size:=P3.out.2.2
 obtain ⟨⟨r0,r1,r2,r3,r4,r5,r6⟩,rf,rz⟩:=P3.out.kept B9 hs9
 have HA9:=hidOf A9
 have HO9:=hidOf O9
 have HB9:=hidOf (PB.out.trans (B9.mono PB.out.size))
 clear A9 O9 B9 P1 P3 PB
 go_wp2
 refine bodyPost_ret (v:=.tuple #[.agg #[.int .i64 (k.day),.slice a9 L.length c9,.slice b9 O.length d9,.int .i64 (k.inn),.int .i64 (k.out),.int .i64 (k.posted),.int .i64 (k.missed)],.int .i64 4]) (by simp[results,Tryz.results84,go_sem,r0,r1,r2,r3,r4,r5,r6]) rfl ?_
 rw[HFIN.out]
 refine ⟨_,_,rfl,?_,?_,?_⟩
 ·refine AL.mono (B:=w4.heap.size) ?_ (by omega)
  repeat (refine AL.far ?_ hs9 _ _)
  exact HA9.out
 ·refine OrdL.mono (B:=w4.heap.size) ?_ (by omega)
  repeat (refine OrdL.far ?_ hs9 _ _)
  exact HO9.out
 ·repeat (refine below_far ?_ (by omega) _ _)
  exact HB9.out
end Go.Proofs.YtghkbhggopiajaaGreatDoor
