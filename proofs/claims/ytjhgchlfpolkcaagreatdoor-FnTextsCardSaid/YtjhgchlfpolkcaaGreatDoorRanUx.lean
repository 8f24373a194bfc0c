/- Ran of the specification. -/
import Derived.Test.YtjhgchlfpolkcaaGreatDoorRallx
namespace Go.Proofs.YtjhgchlfpolkcaaGreatDoor
open Value renaming int → Ii,slice → Sl
open IntKind renaming i64 → Jj
open Nat renaming le_refl → Nf
open Go.Proofs.Tryz renaming prog → Pg
set_option maxHeartbeats 8000000
open Go.RowKit
set_option maxRecDepth 8000
set_option linter.unusedVariables false
theorem jD (a b:Option Addr) (c d:Nat) (L:List al) (O:List am) (k:Bk) (n:Int) (x:bB) (o:am) (w:World) (hF:Fo w a L.length (FL L)) (hO:aJ w b O.length (ai O)) (hd:O.length<=d) (hb:aj (FL L) L.length (ai O) O.length k) (hok:aA 22 x o n) (ht:¬fy L O k):
  Calls Pg 88 #[.agg #[Ii Jj k.day,Sl a L.length c,Sl b O.length d,Ii Jj k.inn,Ii Jj k.out,Ii Jj k.posted,Ii Jj k.missed],.agg #[Ii Jj 22,Ii Jj x.k,Ii Jj x.i,Ii Jj x.t,Ii Jj x.m,Ii Jj x.r,Ii Jj o.id,Ii Jj o.src,Ii Jj o.dst,Ii Jj o.amount,Ii Jj o.first,Ii Jj o.every,Ii Jj o.times,Ii Jj n]] w fun e w'=>cY (cM L O k ⟨7,L,O,k⟩) w e w':=by
 have HOK:Hid (aj (FL L) L.length (ai O) O.length k):=hb
 have hl12:L.length<=12:=hb.2.1.1
 have hol:O.length<=8:=hb.2.2.1.1
 have FORM:=ac (fun W=>d8 hok W)
 have PL:Hid (∀W,Fo W a L.length (FL L)->aJ W b O.length (ai O)->Calls Pg 105 #[.agg #[Ii Jj k.day,Sl a L.length c,Sl b O.length d,Ii Jj k.inn,Ii Jj k.out,Ii Jj k.posted,Ii Jj k.missed]] W fun e w'=>e=.returned (.tuple #[.agg #[Ii Jj 0,Sl none 0 0,Sl none 0 0,Ii Jj 0,Ii Jj 0,Ii Jj 0,Ii Jj 0],.bool false])/\Below W.heap.size W w'):=fun W h1 h2=>(jA a b c d L O k W h1 h2 hb).mono (by
  rintro e w' (⟨h,_⟩|⟨_,h⟩)
  ·exact absurd h ht
  ·exact h)
 have HFIN:Hid (cM L O k ⟨7,L,O,k⟩=⟨7,L,O,k⟩):=gc (by simp)
 clear ht
 clear hb hok
 have HF:Hid (Fo w a L.length (FL L)):=hF
 have HO:Hid (aJ w b O.length (ai O)):=hO
 obtain ⟨W0,hW0,hs0,b0,z1,z2,z3⟩:=cn a b c d L O k 22 n x o w
 have HW0:=ac hW0
 have HB0:=ac b0
 have Z1:=ac z1
 have Z2:=ac z2
 have Z3:=ac z3
 clear hW0 b0 z1 z2 z3 hF hO
 go_enter Tryz.func88,Tryz.ntmps88
 go_wp2_with fail
 rw[←HW0.out]
 clear HW0
 refine (ay a b c d L O k _ (HF.out.below HB0.out) (HO.out.below HB0.out)).mono ?_
 rintro e w1 ⟨v1,u1,rfl,A1,O1,D1⟩
 rw[hs0] at A1 O1
 obtain ⟨a1,c1',hv⟩:=A1.len
 subst hv
 obtain ⟨b1,d1,hv⟩:=O1.len
 subst hv
 obtain ⟨W2,hW2⟩:∃W2,W2=w1.alloc (.cells #[Ii Jj k.day,Sl a1 L.length c1',Sl b1 O.length d1,Ii Jj k.inn,Ii Jj k.out,Ii Jj k.posted,Ii Jj k.missed] 27):=⟨_,rfl⟩
 have D2:Below w1.heap.size w1 W2:=by rw[hW2];exact (Below.refl _ _).alloc (Nf _) _
 have hs1:=D1.size
 have hs2:W2.heap.size=w1.heap.size+1:=by rw[hW2];simp
 have E2:Below W0.heap.size W0 W2:=D1.trans (D2.mono D1.size)
 have PX:Hid (af W2 w1.heap.size (Ii Jj k.day) (Sl a1 L.length c1') (Sl b1 O.length d1) (Ii Jj (k.inn)) (Ii Jj (k.out)) (Ii Jj k.posted) (Ii Jj k.missed)):=by
  show af _ _ _ _ _ _ _ _ _;rw[hW2];exact af.new w1 _ _ _ _ _ _ _ 27
 have P1:Hid (af W2 w.heap.size (Ii Jj k.day) (Sl a L.length c) (Sl b O.length d) (Ii Jj (k.inn)) (Ii Jj (k.out)) (Ii Jj k.posted) (Ii Jj k.missed)):=Z1.out.kept E2 (by omega)
 have P2:Hid (aG W2 (w.heap.size+1) 22 x o n):=Z2.out.kept E2 (by omega)
 have P3:Hid (af W2 (w.heap.size+1+1) (Ii Jj 0) (Sl none 0 0) (Sl none 0 0) (Ii Jj 0) (Ii Jj 0) (Ii Jj 0) (Ii Jj 0)):=Z3.out.kept E2 (by omega)
 have PA:Hid (AL W2 (w.heap.size+1+1+1) (Sl a1 L.length c1') L):=A1.kept D2
 have PO:Hid (ag W2 (w.heap.size+1+1+1) (Sl b1 O.length d1) O):=O1.kept D2
 have PB:Hid (Below w.heap.size w W2):=HB0.out.trans (E2.mono HB0.out.size)
 have HW2:Hid (W2=_):=hW2
 clear hW2 D1 D2 E2 A1 O1 Z1 Z2 Z3 HB0
 obtain ⟨⟨c0,c1,c2,c3,c4,c5,c6,c7,c8,c9,c10,c11,c12,c13⟩,cz⟩:=P2.out
 go_upto_region 10 with fail
 rw[←HW2.out]
 clear HW2
 go_wp2_with fail
 refine (FORM.out _).mono ?_
 rintro e w3 ⟨rfl,E3⟩
 clear c0 c1 c2 c3 c4 c5 c6 c7 c8 c9 c10 c11 c12 c13 cz FORM
 replace P1:=ac (P1.out.kept E3 (by omega))
 replace P3:=ac (P3.out.kept E3 (by omega))
 replace P2:=ac (P2.out.kept E3 (by omega))
 replace PX:=ac (PX.out.kept E3 (by omega))
 replace PA:=ac (PA.out.kept E3)
 replace PO:=ac (PO.out.kept E3)
 replace PB:=ac (PB.out.trans (E3.mono PB.out.size))
 have hs3:w1.heap.size+1<=w3.heap.size:=by have:=E3.size;omega
 clear E3 hs2
 have hs3':(w.heap.size+1+1+1)<=w1.heap.size:=by omega
 clear hs1 hs0
 obtain ⟨⟨c0,c1,c2,c3,c4,c5,c6,c7,c8,c9,c10,c11,c12,c13⟩,cz⟩:=P2.out
 obtain ⟨⟨s0,s1,s2,s3,s4,s5,s6⟩,sf,sz⟩:=P1.out
 go_wp2_with fail
 refine (PL.out _ (HF.out.below PB.out) (HO.out.below PB.out)).mono ?_
 rintro e w4 ⟨rfl,E4⟩
 clear c0 c1 c2 c3 c4 c5 c6 c7 c8 c9 c10 c11 c12 c13 cz s0 s1 s2 s3 s4 s5 s6 sf sz PL
 replace P1:=ac (P1.out.kept E4 (by omega))
 replace P3:=ac (P3.out.kept E4 (by omega))
 replace P2:=ac (P2.out.kept E4 (by omega))
 replace PX:=ac (PX.out.kept E4 (by omega))
 replace PA:=ac (PA.out.kept E4)
 replace PO:=ac (PO.out.kept E4)
 replace PB:=ac (PB.out.trans (E4.mono PB.out.size))
 have hs4:=E4.size
 obtain ⟨V5,hV5⟩:∃V5,V5=(((((((w4.setCell ⟨w1.heap.size,0,none⟩ (Ii Jj 0)).setCell ⟨w1.heap.size,1,none⟩ (Sl none 0 0)).setCell ⟨w1.heap.size,2,none⟩ (Sl none 0 0)).setCell ⟨w1.heap.size,3,none⟩ (Ii Jj 0)).setCell ⟨w1.heap.size,4,none⟩ (Ii Jj 0)).setCell ⟨w1.heap.size,5,none⟩ (Ii Jj 0)).setCell ⟨w1.heap.size,6,none⟩ (Ii Jj 0)):=⟨_,rfl⟩
 have hz5:V5.heap.size=w4.heap.size:=by rw[hV5];simp[World.setCell]
 have XT:Hid (af V5 w1.heap.size (Ii Jj (0)) (Sl none 0 0) (Sl none 0 0) (Ii Jj (0)) (Ii Jj (0)) (Ii Jj (0)) (Ii Jj (0))):=by show af _ _ _ _ _ _ _ _ _;rw[hV5];exact (((((((PX.out.set0 _).set1 _).set2 _).set3 _).set4 _).set5 _).set6 _)
 have P1':Hid (af V5 w.heap.size (Ii Jj k.day) (Sl a L.length c) (Sl b O.length d) (Ii Jj (k.inn)) (Ii Jj (k.out)) (Ii Jj k.posted) (Ii Jj k.missed)):=by show af _ _ _ _ _ _ _ _ _;rw[hV5];exact ((((((P1.out.far (by omega) _ _).far (by omega) _ _).far (by omega) _ _).far (by omega) _ _).far (by omega) _ _).far (by omega) _ _).far (by omega) _ _
 have P3':Hid (af V5 (w.heap.size+1+1) (Ii Jj 0) (Sl none 0 0) (Sl none 0 0) (Ii Jj 0) (Ii Jj 0) (Ii Jj 0) (Ii Jj 0)):=by show af _ _ _ _ _ _ _ _ _;rw[hV5];exact ((((((P3.out.far (by omega) _ _).far (by omega) _ _).far (by omega) _ _).far (by omega) _ _).far (by omega) _ _).far (by omega) _ _).far (by omega) _ _
 have PB':Hid (Below w.heap.size w V5):=by show Below _ _ _;rw[hV5];exact (ak (ak (ak (ak (ak (ak (ak PB.out (by omega) _ _) (by omega) _ _) (by omega) _ _) (by omega) _ _) (by omega) _ _) (by omega) _ _) (by omega) _ _)
 obtain ⟨⟨x0,x1,x2,x3,x4,x5,x6⟩,xf,xz⟩:=PX.out
 have HV5:Hid (V5=_):=hV5
 clear hV5 E4 PX PA PO P1 P2 P3 PB
 go_upto_region 27 with fail
 rw[←HV5.out]
 clear HV5 x0 x1 x2 x3 x4 x5 x6 xf xz
 have P1:=P1'
 have P3:=P3'
 have PB:=PB'
 clear P1' P3' PB'
 clear XT
 obtain ⟨⟨s0,s1,s2,s3,s4,s5,s6⟩,sf,sz⟩:=P1.out
 go_wp2_with fail
 refine (ay a b c d L O k _ (HF.out.below PB.out) (HO.out.below PB.out)).mono ?_
 rintro e w9 ⟨v9,u9,rfl,A9,O9,B9⟩
 obtain ⟨a9,c9,hv⟩:=A9.len
 subst hv
 obtain ⟨b9,d9,hv⟩:=O9.len
 subst hv
 clear s0 s1 s2 s3 s4 s5 s6 sf sz
 have hs9:w.heap.size+1+1<V5.heap.size:=P3.out.2.2
 obtain ⟨⟨r0,r1,r2,r3,r4,r5,r6⟩,rf,rz⟩:=P3.out.kept B9 hs9
 have HA9:Hid (AL w9 V5.heap.size (Sl a9 L.length c9) L):=A9
 have HO9:Hid (ag w9 V5.heap.size (Sl b9 O.length d9) O):=O9
 have HB9:Hid (Below w.heap.size w w9):=PB.out.trans (B9.mono PB.out.size)
 clear A9 O9 B9 P1 P3 PB
 go_wp2
 refine bodyPost_ret (v:=.tuple #[.agg #[Ii Jj (k.day),Sl a9 L.length c9,Sl b9 O.length d9,Ii Jj (k.inn),Ii Jj (k.out),Ii Jj (k.posted),Ii Jj (k.missed)],Ii Jj 7]) (by simp[results,Tryz.results88,go_sem,r0,r1,r2,r3,r4,r5,r6]) rfl ?_
 rw[HFIN.out]
 refine ⟨_,_,rfl,?_,?_,?_⟩
 ·refine AL.mono (B:=V5.heap.size) ?_ (by omega)
  repeat (refine AL.far ?_ hs9 _ _)
  exact HA9.out
 ·refine ag.mono (B:=V5.heap.size) ?_ (by omega)
  repeat (refine ag.far ?_ hs9 _ _)
  exact HO9.out
 ·repeat (refine ak ?_ (by omega) _ _)
  exact HB9.out
theorem iG (a b:Option Addr) (c d:Nat) (L:List al) (O:List am) (k:Bk) (n:Int) (x:bB) (o:am) (w:World) (hF:Fo w a L.length (FL L)) (hO:aJ w b O.length (ai O)) (hd:O.length<=d) (hb:aj (FL L) L.length (ai O) O.length k) (hok:aA 22 x o n) (ht:fy L O k):
  Calls Pg 88 #[.agg #[Ii Jj k.day,Sl a L.length c,Sl b O.length d,Ii Jj k.inn,Ii Jj k.out,Ii Jj k.posted,Ii Jj k.missed],.agg #[Ii Jj 22,Ii Jj x.k,Ii Jj x.i,Ii Jj x.t,Ii Jj x.m,Ii Jj x.r,Ii Jj o.id,Ii Jj o.src,Ii Jj o.dst,Ii Jj o.amount,Ii Jj o.first,Ii Jj o.every,Ii Jj o.times,Ii Jj n]] w fun e w'=>cY (cM L O k ⟨0,eM L O k,eJ O k,dq L O k⟩) w e w':=by
 have HOK:Hid (aj (FL L) L.length (ai O) O.length k):=hb
 have hl12:L.length<=12:=hb.2.1.1
 have hol:O.length<=8:=hb.2.2.1.1
 have FORM:=ac (fun W=>d8 hok W)
 have PL:Hid (∀W,Fo W a L.length (FL L)->aJ W b O.length (ai O)->Calls Pg 105 #[.agg #[Ii Jj k.day,Sl a L.length c,Sl b O.length d,Ii Jj k.inn,Ii Jj k.out,Ii Jj k.posted,Ii Jj k.missed]] W fun e w'=>∃v u,e=.returned (.tuple #[.agg #[Ii Jj ((dq L O k).day),v,u,Ii Jj ((dq L O k).inn),Ii Jj ((dq L O k).out),Ii Jj ((dq L O k).posted),Ii Jj ((dq L O k).missed)],.bool true])/\AL w' W.heap.size v (eM L O k)/\ag w' W.heap.size u (eJ O k)/\Below W.heap.size W w'):=fun W h1 h2=>(jA a b c d L O k W h1 h2 hb).mono (by
  rintro e w' (⟨_,h⟩|⟨h,_⟩)
  ·exact h
  ·exact absurd ht h)
 have hla:(eM L O k).length<=L.length:=Nat.le_of_eq (dN _ _)
 have hlo:(eJ O k).length<=O.length:=List.length_filter_le _ _
 clear ht
 generalize dq L O k=K2 at*
 generalize eM L O k=A2 at*
 generalize eJ O k=O2 at*
 clear hb hok
 have HF:Hid (Fo w a L.length (FL L)):=hF
 have HO:Hid (aJ w b O.length (ai O)):=hO
 obtain ⟨W0,hW0,hs0,b0,z1,z2,z3⟩:=cn a b c d L O k 22 n x o w
 have HW0:=ac hW0
 have HB0:=ac b0
 have Z1:=ac z1
 have Z2:=ac z2
 have Z3:=ac z3
 clear hW0 b0 z1 z2 z3 hF hO
 go_enter Tryz.func88,Tryz.ntmps88
 go_wp2_with fail
 rw[←HW0.out]
 clear HW0
 refine (ay a b c d L O k _ (HF.out.below HB0.out) (HO.out.below HB0.out)).mono ?_
 rintro e w1 ⟨v1,u1,rfl,A1,O1,D1⟩
 rw[hs0] at A1 O1
 obtain ⟨a1,c1',hv⟩:=A1.len
 subst hv
 obtain ⟨b1,d1,hv⟩:=O1.len
 subst hv
 obtain ⟨W2,hW2⟩:∃W2,W2=w1.alloc (.cells #[Ii Jj k.day,Sl a1 L.length c1',Sl b1 O.length d1,Ii Jj k.inn,Ii Jj k.out,Ii Jj k.posted,Ii Jj k.missed] 27):=⟨_,rfl⟩
 have D2:Below w1.heap.size w1 W2:=by rw[hW2];exact (Below.refl _ _).alloc (Nf _) _
 have hs1:=D1.size
 have hs2:W2.heap.size=w1.heap.size+1:=by rw[hW2];simp
 have E2:Below W0.heap.size W0 W2:=D1.trans (D2.mono D1.size)
 have PX:Hid (af W2 w1.heap.size (Ii Jj k.day) (Sl a1 L.length c1') (Sl b1 O.length d1) (Ii Jj (k.inn)) (Ii Jj (k.out)) (Ii Jj k.posted) (Ii Jj k.missed)):=by
  show af _ _ _ _ _ _ _ _ _;rw[hW2];exact af.new w1 _ _ _ _ _ _ _ 27
 have P1:Hid (af W2 w.heap.size (Ii Jj k.day) (Sl a L.length c) (Sl b O.length d) (Ii Jj (k.inn)) (Ii Jj (k.out)) (Ii Jj k.posted) (Ii Jj k.missed)):=Z1.out.kept E2 (by omega)
 have P2:Hid (aG W2 (w.heap.size+1) 22 x o n):=Z2.out.kept E2 (by omega)
 have P3:Hid (af W2 (w.heap.size+1+1) (Ii Jj 0) (Sl none 0 0) (Sl none 0 0) (Ii Jj 0) (Ii Jj 0) (Ii Jj 0) (Ii Jj 0)):=Z3.out.kept E2 (by omega)
 have PA:Hid (AL W2 (w.heap.size+1+1+1) (Sl a1 L.length c1') L):=A1.kept D2
 have PO:Hid (ag W2 (w.heap.size+1+1+1) (Sl b1 O.length d1) O):=O1.kept D2
 have PB:Hid (Below w.heap.size w W2):=HB0.out.trans (E2.mono HB0.out.size)
 have HW2:Hid (W2=_):=hW2
 clear hW2 D1 D2 E2 A1 O1 Z1 Z2 Z3 HB0
 obtain ⟨⟨c0,c1,c2,c3,c4,c5,c6,c7,c8,c9,c10,c11,c12,c13⟩,cz⟩:=P2.out
 go_upto_region 10 with fail
 rw[←HW2.out]
 clear HW2
 go_wp2_with fail
 refine (FORM.out _).mono ?_
 rintro e w3 ⟨rfl,E3⟩
 clear c0 c1 c2 c3 c4 c5 c6 c7 c8 c9 c10 c11 c12 c13 cz FORM
 replace P1:=ac (P1.out.kept E3 (by omega))
 replace P3:=ac (P3.out.kept E3 (by omega))
 replace P2:=ac (P2.out.kept E3 (by omega))
 replace PX:=ac (PX.out.kept E3 (by omega))
 replace PA:=ac (PA.out.kept E3)
 replace PO:=ac (PO.out.kept E3)
 replace PB:=ac (PB.out.trans (E3.mono PB.out.size))
 have hs3:w1.heap.size+1<=w3.heap.size:=by have:=E3.size;omega
 clear E3 hs2
 have hs3':(w.heap.size+1+1+1)<=w1.heap.size:=by omega
 clear hs1 hs0
 obtain ⟨⟨c0,c1,c2,c3,c4,c5,c6,c7,c8,c9,c10,c11,c12,c13⟩,cz⟩:=P2.out
 obtain ⟨⟨s0,s1,s2,s3,s4,s5,s6⟩,sf,sz⟩:=P1.out
 go_wp2_with fail
 refine (PL.out _ (HF.out.below PB.out) (HO.out.below PB.out)).mono ?_
 rintro e w4 ⟨v4,u4,rfl,A4,O4,E4⟩
 obtain ⟨a4,c4',hv⟩:=A4.len
 subst hv
 obtain ⟨b4,d4,hv⟩:=O4.len
 subst hv
 clear c0 c1 c2 c3 c4 c5 c6 c7 c8 c9 c10 c11 c12 c13 cz s0 s1 s2 s3 s4 s5 s6 sf sz PL
 replace P1:=ac (P1.out.kept E4 (by omega))
 replace P3:=ac (P3.out.kept E4 (by omega))
 replace P2:=ac (P2.out.kept E4 (by omega))
 replace PX:=ac (PX.out.kept E4 (by omega))
 replace PA:=ac (PA.out.kept E4)
 replace PO:=ac (PO.out.kept E4)
 replace PB:=ac (PB.out.trans (E4.mono PB.out.size))
 have hs4:=E4.size
 obtain ⟨V5,hV5⟩:∃V5,V5=(((((((w4.setCell ⟨w1.heap.size,0,none⟩ (Ii Jj K2.day)).setCell ⟨w1.heap.size,1,none⟩ (Sl a4 A2.length c4')).setCell ⟨w1.heap.size,2,none⟩ (Sl b4 O2.length d4)).setCell ⟨w1.heap.size,3,none⟩ (Ii Jj K2.inn)).setCell ⟨w1.heap.size,4,none⟩ (Ii Jj K2.out)).setCell ⟨w1.heap.size,5,none⟩ (Ii Jj K2.posted)).setCell ⟨w1.heap.size,6,none⟩ (Ii Jj K2.missed)):=⟨_,rfl⟩
 have hz5:V5.heap.size=w4.heap.size:=by rw[hV5];simp[World.setCell]
 have XT:Hid (af V5 w1.heap.size (Ii Jj (K2.day)) (Sl a4 A2.length c4') (Sl b4 O2.length d4) (Ii Jj (K2.inn)) (Ii Jj (K2.out)) (Ii Jj (K2.posted)) (Ii Jj (K2.missed))):=by show af _ _ _ _ _ _ _ _ _;rw[hV5];exact (((((((PX.out.set0 _).set1 _).set2 _).set3 _).set4 _).set5 _).set6 _)
 have AT:Hid (AL V5 (w.heap.size+1+1+1) (Sl a4 A2.length c4') A2):=by
  show AL _ _ _ _;rw[hV5]
  exact AL.mono (((((((A4.far (by omega) _ _).far (by omega) _ _).far (by omega) _ _).far (by omega) _ _).far (by omega) _ _).far (by omega) _ _).far (by omega) _ _) (by omega)
 have OT:Hid (ag V5 (w.heap.size+1+1+1) (Sl b4 O2.length d4) O2):=by
  show ag _ _ _ _;rw[hV5]
  exact ag.mono (((((((O4.far (by omega) _ _).far (by omega) _ _).far (by omega) _ _).far (by omega) _ _).far (by omega) _ _).far (by omega) _ _).far (by omega) _ _) (by omega)
 have P1':Hid (af V5 w.heap.size (Ii Jj k.day) (Sl a L.length c) (Sl b O.length d) (Ii Jj (k.inn)) (Ii Jj (k.out)) (Ii Jj k.posted) (Ii Jj k.missed)):=by show af _ _ _ _ _ _ _ _ _;rw[hV5];exact ((((((P1.out.far (by omega) _ _).far (by omega) _ _).far (by omega) _ _).far (by omega) _ _).far (by omega) _ _).far (by omega) _ _).far (by omega) _ _
 have P3':Hid (af V5 (w.heap.size+1+1) (Ii Jj 0) (Sl none 0 0) (Sl none 0 0) (Ii Jj 0) (Ii Jj 0) (Ii Jj 0) (Ii Jj 0)):=by show af _ _ _ _ _ _ _ _ _;rw[hV5];exact ((((((P3.out.far (by omega) _ _).far (by omega) _ _).far (by omega) _ _).far (by omega) _ _).far (by omega) _ _).far (by omega) _ _).far (by omega) _ _
 have PB':Hid (Below w.heap.size w V5):=by show Below _ _ _;rw[hV5];exact (ak (ak (ak (ak (ak (ak (ak PB.out (by omega) _ _) (by omega) _ _) (by omega) _ _) (by omega) _ _) (by omega) _ _) (by omega) _ _) (by omega) _ _)
 obtain ⟨⟨x0,x1,x2,x3,x4,x5,x6⟩,xf,xz⟩:=PX.out
 have HV5:Hid (V5=_):=hV5
 clear hV5 A4 O4 E4 PX PA PO P1 P2 P3 PB
 go_upto_region 27 with fail
 rw[←HV5.out]
 clear HV5 x0 x1 x2 x3 x4 x5 x6 xf xz
 have P1:=P1'
 have P3:=P3'
 have PB:=PB'
 clear P1' P3' PB'
 have BNK:Hid (Calls Pg 36 #[.agg #[Ii Jj (K2.day),Sl a4 A2.length c4',Sl b4 O2.length d4,Ii Jj (K2.inn),Ii Jj (K2.out),Ii Jj (K2.posted),Ii Jj (K2.missed)]] V5 fun e w'=>ae e (Rn.mk 0 A2 O2 K2).ok/\Below V5.heap.size V5 w'):=by
  have:=cC a4 b4 (A2.length) c4' (O2.length) d4 (FL A2) (ai O2) K2 V5 (AT.out.fo (by omega)).2 (OT.out.list (by omega)).2
  exact this
 obtain ⟨⟨x0,x1,x2,x3,x4,x5,x6⟩,xf,xz⟩:=XT.out
 go_wp2_with fail
 refine BNK.out.mono ?_
 rintro e w8 ⟨⟨bb,rfl,hb1,hb2⟩,B8⟩
 have hs8:=B8.size
 clear x0 x1 x2 x3 x4 x5 x6 xf xz
 have XT':Hid (af w8 w1.heap.size (Ii Jj (K2.day)) (Sl a4 A2.length c4') (Sl b4 O2.length d4) (Ii Jj (K2.inn)) (Ii Jj (K2.out)) (Ii Jj (K2.posted)) (Ii Jj (K2.missed))):=XT.out.kept B8 XT.out.2.2
 have AT':Hid (AL w8 (w.heap.size+1+1+1) (Sl a4 A2.length c4') A2):=AT.out.kept B8
 have OT':Hid (ag w8 (w.heap.size+1+1+1) (Sl b4 O2.length d4) O2):=OT.out.kept B8
 have P1':Hid (af w8 w.heap.size (Ii Jj k.day) (Sl a L.length c) (Sl b O.length d) (Ii Jj (k.inn)) (Ii Jj (k.out)) (Ii Jj k.posted) (Ii Jj k.missed)):=P1.out.kept B8 P1.out.2.2
 have P3':Hid (af w8 (w.heap.size+1+1) (Ii Jj 0) (Sl none 0 0) (Sl none 0 0) (Ii Jj 0) (Ii Jj 0) (Ii Jj 0) (Ii Jj 0)):=P3.out.kept B8 P3.out.2.2
 have PB':Hid (Below w.heap.size w w8):=PB.out.trans (B8.mono PB.out.size)
 clear XT AT OT P1 P3 PB B8 BNK
 have P1:=P1'
 have P3:=P3'
 have PB:=PB'
 clear P1' P3' PB'
 cases bb with
 | true=>
  have HN:Hid ((Rn.mk 0 A2 O2 K2).ok):=hb1 rfl
  obtain ⟨⟨x0,x1,x2,x3,x4,x5,x6⟩,xf,xz⟩:=XT'.out
  obtain ⟨⟨r0,r1,r2,r3,r4,r5,r6⟩,rf,rz⟩:=P3.out
  clear hb1 hb2
  go_wp2
  refine bodyPost_ret (v:=.tuple #[.agg #[Ii Jj (K2.day),Sl a4 A2.length c4',Sl b4 O2.length d4,Ii Jj (K2.inn),Ii Jj (K2.out),Ii Jj (K2.posted),Ii Jj (K2.missed)],Ii Jj 0]) (by simp[results,Tryz.results88,go_sem,r0,r1,r2,r3,r4,r5,r6]) rfl ?_
  rw[eF (q:=(Rn.mk 0 A2 O2 K2)) rfl HN.out]
  refine ⟨Sl a4 A2.length c4',Sl b4 O2.length d4,?_,?_,?_,?_⟩
  ·rfl
  ·refine AL.mono (B:=(w.heap.size+1+1+1)) ?_ (by omega)
   repeat (refine AL.far ?_ (by omega) _ _)
   exact AT'.out
  ·refine ag.mono (B:=(w.heap.size+1+1+1)) ?_ (by omega)
   repeat (refine ag.far ?_ (by omega) _ _)
   exact OT'.out
  ·repeat (refine ak ?_ (by omega) _ _)
   exact PB.out
 | false=>
  have HN:Hid (¬(Rn.mk 0 A2 O2 K2).ok):=hb2 rfl
  have HFIN:Hid (cM L O k (Rn.mk 0 A2 O2 K2)=⟨7,L,O,k⟩):=dR (q:=(Rn.mk 0 A2 O2 K2)) rfl HN.out
  clear hb1 hb2 XT' AT' OT'
  obtain ⟨⟨s0,s1,s2,s3,s4,s5,s6⟩,sf,sz⟩:=P1.out
  go_wp2_with fail
  refine (ay a b c d L O k _ (HF.out.below PB.out) (HO.out.below PB.out)).mono ?_
  rintro e w9 ⟨v9,u9,rfl,A9,O9,B9⟩
  obtain ⟨a9,c9,hv⟩:=A9.len
  subst hv
  obtain ⟨b9,d9,hv⟩:=O9.len
  subst hv
  clear s0 s1 s2 s3 s4 s5 s6 sf sz
  have hs9:w.heap.size+1+1<w8.heap.size:=P3.out.2.2
  obtain ⟨⟨r0,r1,r2,r3,r4,r5,r6⟩,rf,rz⟩:=P3.out.kept B9 hs9
  have HA9:Hid (AL w9 w8.heap.size (Sl a9 L.length c9) L):=A9
  have HO9:Hid (ag w9 w8.heap.size (Sl b9 O.length d9) O):=O9
  have HB9:Hid (Below w.heap.size w w9):=PB.out.trans (B9.mono PB.out.size)
  clear A9 O9 B9 P1 P3 PB
  go_wp2
  refine bodyPost_ret (v:=.tuple #[.agg #[Ii Jj (k.day),Sl a9 L.length c9,Sl b9 O.length d9,Ii Jj (k.inn),Ii Jj (k.out),Ii Jj (k.posted),Ii Jj (k.missed)],Ii Jj 7]) (by simp[results,Tryz.results88,go_sem,r0,r1,r2,r3,r4,r5,r6]) rfl ?_
  rw[HFIN.out]
  refine ⟨_,_,rfl,?_,?_,?_⟩
  ·refine AL.mono (B:=w8.heap.size) ?_ (by omega)
   repeat (refine AL.far ?_ hs9 _ _)
   exact HA9.out
  ·refine ag.mono (B:=w8.heap.size) ?_ (by omega)
   repeat (refine ag.far ?_ hs9 _ _)
   exact HO9.out
  ·repeat (refine ak ?_ (by omega) _ _)
   exact HB9.out
theorem lD (a b:Option Addr) (c d:Nat) (L:List al) (O:List am) (k:Bk) (n:Int) (x:bB) (o:am) (w:World) (hF:Fo w a L.length (FL L)) (hO:aJ w b O.length (ai O)) (hd:O.length<=d) (hb:aj (FL L) L.length (ai O) O.length k) (hok:aA 21 x o n) (ht:¬dy O n):
  Calls Pg 88 #[.agg #[Ii Jj k.day,Sl a L.length c,Sl b O.length d,Ii Jj k.inn,Ii Jj k.out,Ii Jj k.posted,Ii Jj k.missed],.agg #[Ii Jj 21,Ii Jj x.k,Ii Jj x.i,Ii Jj x.t,Ii Jj x.m,Ii Jj x.r,Ii Jj o.id,Ii Jj o.src,Ii Jj o.dst,Ii Jj o.amount,Ii Jj o.first,Ii Jj o.every,Ii Jj o.times,Ii Jj n]] w fun e w'=>cY (cM L O k ⟨3,L,O,k⟩) w e w':=by
 have HOK:Hid (aj (FL L) L.length (ai O) O.length k):=hb
 have hl12:L.length<=12:=hb.2.1.1
 have hol:O.length<=8:=hb.2.2.1.1
 have FORM:=ac (fun W=>d8 hok W)
 have PL:Hid (∀W,aJ W b O.length (ai O)->Calls Pg 106 #[Sl b O.length d,Ii Jj n] W fun e w'=>e=.returned (Ii Jj (-1))/\Below W.heap.size W w'):=fun W h1=>(f0 b d O n W h1).mono (by
  rintro e w' ⟨rfl,h⟩
  rw[je ht]
  exact ⟨rfl,h⟩)
 have HFIN:Hid (cM L O k ⟨3,L,O,k⟩=⟨3,L,O,k⟩):=gc (by simp)
 clear ht
 clear hb hok
 have HF:Hid (Fo w a L.length (FL L)):=hF
 have HO:Hid (aJ w b O.length (ai O)):=hO
 obtain ⟨W0,hW0,hs0,b0,z1,z2,z3⟩:=cn a b c d L O k 21 n x o w
 have HW0:=ac hW0
 have HB0:=ac b0
 have Z1:=ac z1
 have Z2:=ac z2
 have Z3:=ac z3
 clear hW0 b0 z1 z2 z3 hF hO
 go_enter Tryz.func88,Tryz.ntmps88
 go_wp2_with fail
 rw[←HW0.out]
 clear HW0
 refine (ay a b c d L O k _ (HF.out.below HB0.out) (HO.out.below HB0.out)).mono ?_
 rintro e w1 ⟨v1,u1,rfl,A1,O1,D1⟩
 rw[hs0] at A1 O1
 obtain ⟨a1,c1',hv⟩:=A1.len
 subst hv
 obtain ⟨b1,d1,hv⟩:=O1.len
 subst hv
 obtain ⟨W2,hW2⟩:∃W2,W2=w1.alloc (.cells #[Ii Jj k.day,Sl a1 L.length c1',Sl b1 O.length d1,Ii Jj k.inn,Ii Jj k.out,Ii Jj k.posted,Ii Jj k.missed] 27):=⟨_,rfl⟩
 have D2:Below w1.heap.size w1 W2:=by rw[hW2];exact (Below.refl _ _).alloc (Nf _) _
 have hs1:=D1.size
 have hs2:W2.heap.size=w1.heap.size+1:=by rw[hW2];simp
 have E2:Below W0.heap.size W0 W2:=D1.trans (D2.mono D1.size)
 have PX:Hid (af W2 w1.heap.size (Ii Jj k.day) (Sl a1 L.length c1') (Sl b1 O.length d1) (Ii Jj (k.inn)) (Ii Jj (k.out)) (Ii Jj k.posted) (Ii Jj k.missed)):=by
  show af _ _ _ _ _ _ _ _ _;rw[hW2];exact af.new w1 _ _ _ _ _ _ _ 27
 have P1:Hid (af W2 w.heap.size (Ii Jj k.day) (Sl a L.length c) (Sl b O.length d) (Ii Jj (k.inn)) (Ii Jj (k.out)) (Ii Jj k.posted) (Ii Jj k.missed)):=Z1.out.kept E2 (by omega)
 have P2:Hid (aG W2 (w.heap.size+1) 21 x o n):=Z2.out.kept E2 (by omega)
 have P3:Hid (af W2 (w.heap.size+1+1) (Ii Jj 0) (Sl none 0 0) (Sl none 0 0) (Ii Jj 0) (Ii Jj 0) (Ii Jj 0) (Ii Jj 0)):=Z3.out.kept E2 (by omega)
 have PA:Hid (AL W2 (w.heap.size+1+1+1) (Sl a1 L.length c1') L):=A1.kept D2
 have PO:Hid (ag W2 (w.heap.size+1+1+1) (Sl b1 O.length d1) O):=O1.kept D2
 have PB:Hid (Below w.heap.size w W2):=HB0.out.trans (E2.mono HB0.out.size)
 have HW2:Hid (W2=_):=hW2
 clear hW2 D1 D2 E2 A1 O1 Z1 Z2 Z3 HB0
 obtain ⟨⟨c0,c1,c2,c3,c4,c5,c6,c7,c8,c9,c10,c11,c12,c13⟩,cz⟩:=P2.out
 go_upto_region 10 with fail
 rw[←HW2.out]
 clear HW2
 go_wp2_with fail
 refine (FORM.out _).mono ?_
 rintro e w3 ⟨rfl,E3⟩
 clear c0 c1 c2 c3 c4 c5 c6 c7 c8 c9 c10 c11 c12 c13 cz FORM
 replace P1:=ac (P1.out.kept E3 (by omega))
 replace P3:=ac (P3.out.kept E3 (by omega))
 replace P2:=ac (P2.out.kept E3 (by omega))
 replace PX:=ac (PX.out.kept E3 (by omega))
 replace PA:=ac (PA.out.kept E3)
 replace PO:=ac (PO.out.kept E3)
 replace PB:=ac (PB.out.trans (E3.mono PB.out.size))
 have hs3:w1.heap.size+1<=w3.heap.size:=by have:=E3.size;omega
 clear E3 hs2
 have hs3':(w.heap.size+1+1+1)<=w1.heap.size:=by omega
 clear hs1 hs0
 obtain ⟨⟨c0,c1,c2,c3,c4,c5,c6,c7,c8,c9,c10,c11,c12,c13⟩,cz⟩:=P2.out
 obtain ⟨⟨s0,s1,s2,s3,s4,s5,s6⟩,sf,sz⟩:=P1.out
 go_wp2_with fail
 refine (PL.out _ (HO.out.below PB.out)).mono ?_
 rintro e w4 ⟨rfl,E4⟩
 clear c0 c1 c2 c3 c4 c5 c6 c7 c8 c9 c10 c11 c12 c13 cz s0 s1 s2 s3 s4 s5 s6 sf sz PL
 replace P1:=ac (P1.out.kept E4 (by omega))
 replace P3:=ac (P3.out.kept E4 (by omega))
 replace P2:=ac (P2.out.kept E4 (by omega))
 replace PX:=ac (PX.out.kept E4 (by omega))
 replace PA:=ac (PA.out.kept E4)
 replace PO:=ac (PO.out.kept E4)
 replace PB:=ac (PB.out.trans (E4.mono PB.out.size))
 have hs4:=E4.size
 clear E4 PX PA PO P2
 obtain ⟨⟨s0,s1,s2,s3,s4,s5,s6⟩,sf,sz⟩:=P1.out
 go_wp2_with fail
 refine (ay a b c d L O k _ (HF.out.below PB.out) (HO.out.below PB.out)).mono ?_
 rintro e w9 ⟨v9,u9,rfl,A9,O9,B9⟩
 obtain ⟨a9,c9,hv⟩:=A9.len
 subst hv
 obtain ⟨b9,d9,hv⟩:=O9.len
 subst hv
 clear s0 s1 s2 s3 s4 s5 s6 sf sz
 have hs9:w.heap.size+1+1<w4.heap.size:=P3.out.2.2
 obtain ⟨⟨r0,r1,r2,r3,r4,r5,r6⟩,rf,rz⟩:=P3.out.kept B9 hs9
 have HA9:Hid (AL w9 w4.heap.size (Sl a9 L.length c9) L):=A9
 have HO9:Hid (ag w9 w4.heap.size (Sl b9 O.length d9) O):=O9
 have HB9:Hid (Below w.heap.size w w9):=PB.out.trans (B9.mono PB.out.size)
 clear A9 O9 B9 P1 P3 PB
 go_wp2
 refine bodyPost_ret (v:=.tuple #[.agg #[Ii Jj (k.day),Sl a9 L.length c9,Sl b9 O.length d9,Ii Jj (k.inn),Ii Jj (k.out),Ii Jj (k.posted),Ii Jj (k.missed)],Ii Jj 3]) (by simp[results,Tryz.results88,go_sem,r0,r1,r2,r3,r4,r5,r6]) rfl ?_
 rw[HFIN.out]
 refine ⟨_,_,rfl,?_,?_,?_⟩
 ·refine AL.mono (B:=w4.heap.size) ?_ (by omega)
  repeat (refine AL.far ?_ hs9 _ _)
  exact HA9.out
 ·refine ag.mono (B:=w4.heap.size) ?_ (by omega)
  repeat (refine ag.far ?_ hs9 _ _)
  exact HO9.out
 ·repeat (refine ak ?_ (by omega) _ _)
  exact HB9.out
theorem jV (a b:Option Addr) (c d:Nat) (L:List al) (O:List am) (k:Bk) (n:Int) (x:bB) (o:am) (w:World) (hF:Fo w a L.length (FL L)) (hO:aJ w b O.length (ai O)) (hd:O.length<=d) (hb:aj (FL L) L.length (ai O) O.length k) (hok:aA 20 x o n) (ht:dy O o.id):
  Calls Pg 88 #[.agg #[Ii Jj k.day,Sl a L.length c,Sl b O.length d,Ii Jj k.inn,Ii Jj k.out,Ii Jj k.posted,Ii Jj k.missed],.agg #[Ii Jj 20,Ii Jj x.k,Ii Jj x.i,Ii Jj x.t,Ii Jj x.m,Ii Jj x.r,Ii Jj o.id,Ii Jj o.src,Ii Jj o.dst,Ii Jj o.amount,Ii Jj o.first,Ii Jj o.every,Ii Jj o.times,Ii Jj n]] w fun e w'=>cY (cM L O k ⟨4,L,O,k⟩) w e w':=by
 have HOK:Hid (aj (FL L) L.length (ai O) O.length k):=hb
 have hl12:L.length<=12:=hb.2.1.1
 have hol:O.length<=8:=hb.2.2.1.1
 have FORM:=ac (fun W=>d8 hok W)
 obtain ⟨r,hrl,_,_,hidx⟩:=iw hb.2.2.1 ht
 have PL:Hid (∀W,aJ W b O.length (ai O)->Calls Pg 106 #[Sl b O.length d,Ii Jj o.id] W fun e w'=>e=.returned (Ii Jj (r:Int))/\Below W.heap.size W w'):=fun W h1=>(f0 b d O o.id W h1).mono (by
  rintro e w' ⟨rfl,h⟩
  rw[hidx]
  exact ⟨rfl,h⟩)
 clear hidx
 have HFIN:Hid (cM L O k ⟨4,L,O,k⟩=⟨4,L,O,k⟩):=gc (by simp)
 clear ht
 clear hb hok
 have HF:Hid (Fo w a L.length (FL L)):=hF
 have HO:Hid (aJ w b O.length (ai O)):=hO
 obtain ⟨W0,hW0,hs0,b0,z1,z2,z3⟩:=cn a b c d L O k 20 n x o w
 have HW0:=ac hW0
 have HB0:=ac b0
 have Z1:=ac z1
 have Z2:=ac z2
 have Z3:=ac z3
 clear hW0 b0 z1 z2 z3 hF hO
 go_enter Tryz.func88,Tryz.ntmps88
 go_wp2_with fail
 rw[←HW0.out]
 clear HW0
 refine (ay a b c d L O k _ (HF.out.below HB0.out) (HO.out.below HB0.out)).mono ?_
 rintro e w1 ⟨v1,u1,rfl,A1,O1,D1⟩
 rw[hs0] at A1 O1
 obtain ⟨a1,c1',hv⟩:=A1.len
 subst hv
 obtain ⟨b1,d1,hv⟩:=O1.len
 subst hv
 obtain ⟨W2,hW2⟩:∃W2,W2=w1.alloc (.cells #[Ii Jj k.day,Sl a1 L.length c1',Sl b1 O.length d1,Ii Jj k.inn,Ii Jj k.out,Ii Jj k.posted,Ii Jj k.missed] 27):=⟨_,rfl⟩
 have D2:Below w1.heap.size w1 W2:=by rw[hW2];exact (Below.refl _ _).alloc (Nf _) _
 have hs1:=D1.size
 have hs2:W2.heap.size=w1.heap.size+1:=by rw[hW2];simp
 have E2:Below W0.heap.size W0 W2:=D1.trans (D2.mono D1.size)
 have PX:Hid (af W2 w1.heap.size (Ii Jj k.day) (Sl a1 L.length c1') (Sl b1 O.length d1) (Ii Jj (k.inn)) (Ii Jj (k.out)) (Ii Jj k.posted) (Ii Jj k.missed)):=by
  show af _ _ _ _ _ _ _ _ _;rw[hW2];exact af.new w1 _ _ _ _ _ _ _ 27
 have P1:Hid (af W2 w.heap.size (Ii Jj k.day) (Sl a L.length c) (Sl b O.length d) (Ii Jj (k.inn)) (Ii Jj (k.out)) (Ii Jj k.posted) (Ii Jj k.missed)):=Z1.out.kept E2 (by omega)
 have P2:Hid (aG W2 (w.heap.size+1) 20 x o n):=Z2.out.kept E2 (by omega)
 have P3:Hid (af W2 (w.heap.size+1+1) (Ii Jj 0) (Sl none 0 0) (Sl none 0 0) (Ii Jj 0) (Ii Jj 0) (Ii Jj 0) (Ii Jj 0)):=Z3.out.kept E2 (by omega)
 have PA:Hid (AL W2 (w.heap.size+1+1+1) (Sl a1 L.length c1') L):=A1.kept D2
 have PO:Hid (ag W2 (w.heap.size+1+1+1) (Sl b1 O.length d1) O):=O1.kept D2
 have PB:Hid (Below w.heap.size w W2):=HB0.out.trans (E2.mono HB0.out.size)
 have HW2:Hid (W2=_):=hW2
 clear hW2 D1 D2 E2 A1 O1 Z1 Z2 Z3 HB0
 obtain ⟨⟨c0,c1,c2,c3,c4,c5,c6,c7,c8,c9,c10,c11,c12,c13⟩,cz⟩:=P2.out
 go_upto_region 10 with fail
 rw[←HW2.out]
 clear HW2
 go_wp2_with fail
 refine (FORM.out _).mono ?_
 rintro e w3 ⟨rfl,E3⟩
 clear c0 c1 c2 c3 c4 c5 c6 c7 c8 c9 c10 c11 c12 c13 cz FORM
 replace P1:=ac (P1.out.kept E3 (by omega))
 replace P3:=ac (P3.out.kept E3 (by omega))
 replace P2:=ac (P2.out.kept E3 (by omega))
 replace PX:=ac (PX.out.kept E3 (by omega))
 replace PA:=ac (PA.out.kept E3)
 replace PO:=ac (PO.out.kept E3)
 replace PB:=ac (PB.out.trans (E3.mono PB.out.size))
 have hs3:w1.heap.size+1<=w3.heap.size:=by have:=E3.size;omega
 clear E3 hs2
 have hs3':(w.heap.size+1+1+1)<=w1.heap.size:=by omega
 clear hs1 hs0
 obtain ⟨⟨c0,c1,c2,c3,c4,c5,c6,c7,c8,c9,c10,c11,c12,c13⟩,cz⟩:=P2.out
 obtain ⟨⟨s0,s1,s2,s3,s4,s5,s6⟩,sf,sz⟩:=P1.out
 go_wp2_with fail
 refine (PL.out _ (HO.out.below PB.out)).mono ?_
 rintro e w4 ⟨rfl,E4⟩
 clear c0 c1 c2 c3 c4 c5 c6 c7 c8 c9 c10 c11 c12 c13 cz s0 s1 s2 s3 s4 s5 s6 sf sz PL
 replace P1:=ac (P1.out.kept E4 (by omega))
 replace P3:=ac (P3.out.kept E4 (by omega))
 replace P2:=ac (P2.out.kept E4 (by omega))
 replace PX:=ac (PX.out.kept E4 (by omega))
 replace PA:=ac (PA.out.kept E4)
 replace PO:=ac (PO.out.kept E4)
 replace PB:=ac (PB.out.trans (E4.mono PB.out.size))
 have hs4:=E4.size
 clear E4 PX PA PO P2
 obtain ⟨⟨s0,s1,s2,s3,s4,s5,s6⟩,sf,sz⟩:=P1.out
 go_wp2_with fail
 refine (ay a b c d L O k _ (HF.out.below PB.out) (HO.out.below PB.out)).mono ?_
 rintro e w9 ⟨v9,u9,rfl,A9,O9,B9⟩
 obtain ⟨a9,c9,hv⟩:=A9.len
 subst hv
 obtain ⟨b9,d9,hv⟩:=O9.len
 subst hv
 clear s0 s1 s2 s3 s4 s5 s6 sf sz
 have hs9:w.heap.size+1+1<w4.heap.size:=P3.out.2.2
 obtain ⟨⟨r0,r1,r2,r3,r4,r5,r6⟩,rf,rz⟩:=P3.out.kept B9 hs9
 have HA9:Hid (AL w9 w4.heap.size (Sl a9 L.length c9) L):=A9
 have HO9:Hid (ag w9 w4.heap.size (Sl b9 O.length d9) O):=O9
 have HB9:Hid (Below w.heap.size w w9):=PB.out.trans (B9.mono PB.out.size)
 clear A9 O9 B9 P1 P3 PB
 go_wp2
 refine bodyPost_ret (v:=.tuple #[.agg #[Ii Jj (k.day),Sl a9 L.length c9,Sl b9 O.length d9,Ii Jj (k.inn),Ii Jj (k.out),Ii Jj (k.posted),Ii Jj (k.missed)],Ii Jj 4]) (by simp[results,Tryz.results88,go_sem,r0,r1,r2,r3,r4,r5,r6]) rfl ?_
 rw[HFIN.out]
 refine ⟨_,_,rfl,?_,?_,?_⟩
 ·refine AL.mono (B:=w4.heap.size) ?_ (by omega)
  repeat (refine AL.far ?_ hs9 _ _)
  exact HA9.out
 ·refine ag.mono (B:=w4.heap.size) ?_ (by omega)
  repeat (refine ag.far ?_ hs9 _ _)
  exact HO9.out
 ·repeat (refine ak ?_ (by omega) _ _)
  exact HB9.out
end Go.Proofs.YtjhgchlfpolkcaaGreatDoor
