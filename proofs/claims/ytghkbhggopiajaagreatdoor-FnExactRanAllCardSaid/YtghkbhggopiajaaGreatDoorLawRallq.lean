/- The law FnExactRanAll returns true. -/
import Derived.Test.YtghkbhggopiajaaGreatDoorRalsq
namespace Go.Proofs.YtghkbhggopiajaaGreatDoor
open Go.RowKit
set_option maxRecDepth 8000
theorem IL.past {w w':World} {B:Nat} {v:Value} {l:List Int} {row:Option Nat} (h:IL w B v l) (g:w.grownBy w' row) (hne:∀q,v.ownBlock=some q->row=some q->False):IL w' B v l:=World.ownsRow.kept h g (by
 cases hb:v.ownBlock with
 | none=>exact Or.inl rfl
 | some q=>right;intro e;exact hne q hb e.symm)
theorem allB_len (L:List Acc) (O:List Ord) (k:Bk) (l:List Bp):(allB L O k l).L.length<=12/\(allB L O k l).O.length<=8/\(allB L O k l).c.length<=100:=by
 unfold allB
 split
 ·rename_i hb
  have:=runB_ok l ⟨[],L,O,k⟩ hb.1
  exact ⟨this.2.1.1,this.2.2.1.1,by rw[runB_len];simp;exact hb.2⟩
 ·simp
set_option maxHeartbeats 16000000 in
theorem lawRall_yes (a b:Option Addr) (c d:Nat) (L:List Acc) (O:List Ord) (k:Bk) (oa:Option Addr) (oc:Nat) (l:List Bp) (p:Nat->Addr) (w:World) (hnm:L.length+O.length+l.length<=1048576) (hF:Fo w a L.length (FL L)) (hO:Ords w b O.length (OrdF O)) (hB:Bps w oa l.length (BpF l)) (hG:GE w p):
  Calls Tryz.prog 10 #[.agg #[.int .i64 k.day,.slice a L.length c,.slice b O.length d,.int .i64 k.inn,.int .i64 k.out,.int .i64 k.posted,.int .i64 k.missed],.slice oa l.length oc] w fun e w'=>e=.returned (.bool true)/\Below w.heap.size w w':=by
 have F0:=hidOf hF
 have O0:=hidOf hO
 have P0:=hidOf hB
 have G0:=hidOf hG
 have hn':L.length<=1048576:=by omega
 have hm':O.length<=1048576:=by omega
 have hl':l.length<=1048576:=by omega
 have hnm2:L.length+O.length<=1048576:=by omega
 obtain ⟨q,hq⟩:∃q,q=allB L O k l:=⟨_,rfl⟩
 have hGH:=allB_len L O k l
 rw[←hq] at hGH
 have SP:Hid (∀w a' b' c' d' oa' oc',Fo w a' L.length (FL L)->Ords w b' O.length (OrdF O)->Bps w oa' l.length (BpF l)->Calls Tryz.prog 34 #[.agg #[.int .i64 k.day,.slice a' L.length c',.slice b' O.length d',.int .i64 k.inn,.int .i64 k.out,.int .i64 k.posted,.int .i64 k.missed],.slice oa' l.length oc'] w fun e w'=>AllOut q w e w'):=fun w a' b' c' d' oa' oc' h1 h2 h3=>by rw[hq];exact specAllB a' b' c' d' L O k oa' oc' l w h1 h2 h3
 have IM:Hid (∀w a' b' c' d' oa' oc',Fo w a' L.length (FL L)->Ords w b' O.length (OrdF O)->Bps w oa' l.length (BpF l)->GE w p->Calls Tryz.prog 33 #[.agg #[.int .i64 k.day,.slice a' L.length c',.slice b' O.length d',.int .i64 k.inn,.int .i64 k.out,.int .i64 k.posted,.int .i64 k.missed],.slice oa' l.length oc'] w fun e w'=>AllOut q w e w'):=fun w a' b' c' d' oa' oc' h1 h2 h3 h4=>by rw[hq];exact implAllB a' b' c' d' L O k oa' oc' l p w h1 h2 h3 h4
 clear hq
 obtain ⟨C,G,H,K⟩:=q
 dsimp only at hGH
 have hGl:G.length<=1048576:=by omega
 have hHl:H.length<=1048576:=by omega
 have hCl:C.length<=1048576:=by omega
 have EQ:Hid (∀w B1 B2 C1 C2 v1 v2 u1 u2,AL w B1 v1 G->AL w B2 v2 G->OrdL w C1 u1 H->OrdL w C2 u2 H->Calls Tryz.prog 43 #[.agg #[.int .i64 K.day,v1,u1,.int .i64 K.inn,.int .i64 K.out,.int .i64 K.posted,.int .i64 K.missed],.agg #[.int .i64 K.day,v2,u2,.int .i64 K.inn,.int .i64 K.out,.int .i64 K.posted,.int .i64 K.missed]] w fun e w'=>e=.returned (.bool true)/\Below w.heap.size w w'):=fun w B1 B2 C1 C2 v1 v2 u1 u2 h1 h2 h3 h4=>by
  obtain ⟨a1,m1,rfl,_,_⟩:=h1.shape
  obtain ⟨a2,m2,rfl,_,_⟩:=h2.shape
  obtain ⟨b1,p1,rfl,_,_⟩:=h3.shape
  obtain ⟨b2,p2,rfl,_,_⟩:=h4.shape
  exact eqBank_same a1 a2 b1 b2 G.length m1 m2 H.length p1 p2 (FL G) (OrdF H) K w (h1.fo hGl).2 (h2.fo hGl).2 (h3.list hHl).2 (h4.list hHl).2
 clear hF hO hB hG
 obtain ⟨ll,hll⟩:∃n,l.length=n:=⟨_,rfl⟩
 rw[hll] at P0 SP IM hnm hl'
 rw[hll]
 clear hll
 have hsz:decide (1048576-(L.length:Int)-(O.length:Int)<0)=false:=by simp;omega
 have hsz2:decide (1048576-(L.length:Int)-(O.length:Int)-(ll:Int)<0)=false:=by simp;omega
 obtain ⟨W0,hW0⟩:∃W0,W0=w.alloc (.cells #[.int .i64 k.day,.slice a L.length c,.slice b O.length d,.int .i64 k.inn,.int .i64 k.out,.int .i64 k.posted,.int .i64 k.missed] 69):=⟨_,rfl⟩
 have BBz:Hid (Below w.heap.size w W0):=by show Below _ _ _;rw[hW0];exact (Below.refl _ _).alloc (Nat.le_refl _) _
 have Z:Hid (BxK W0 w.heap.size (.slice a L.length c) (.slice b O.length d) k):=by show Box7 _ _ _ _ _ _ _ _ _;rw[hW0];exact Box7.new w _ _ _ _ _ _ _ 69
 have z0:w.heap.size+1<=W0.heap.size/\W0.heap.size<=w.heap.size+1:=by rw[hW0];simp
 have HW0:=hidOf hW0
 clear hW0
 go_enter Tryz.func10,Tryz.ntmps10
 go_upto_region 2 with fail
 rw[←HW0.out]
 clear HW0
 obtain ⟨⟨Zc0,Zc1,Zc2,Zc3,Zc4,Zc5,Zc6⟩,Zcf,Zcz⟩:=Z.out
 go_wp2_with fail
 refine (szBank_yes a b L.length c O.length d k _ hnm2).mono ?_
 rintro e w1 ⟨rfl,E⟩
 clear Zc0 Zc1 Zc2 Zc3 Zc4 Zc5 Zc6 Zcf Zcz
 have BB1:=hidOf (BBz.out.trans (E.mono BBz.out.size))
 have z1:W0.heap.size<=w1.heap.size:=E.size
 replace Z:=hidOf (Z.out.kept E (by omega))
 clear E BBz
 go_wp2_with fail
 refine (szSBp_yes oa ll oc (1048576-(L.length:Int)-(O.length:Int)) _ (by omega) (by omega)).mono ?_
 rintro e wz ⟨rfl,hwz⟩
 subst wz
 obtain ⟨⟨Zc0,Zc1,Zc2,Zc3,Zc4,Zc5,Zc6⟩,Zcf,Zcz⟩:=Z.out
 go_wp2_with fail
 refine (toBank a b L.length c O.length d (FL L) (OrdF O) k _ (F0.out.below BB1.out) (O0.out.below BB1.out)).mono ?_
 rintro e w2 ⟨rT0,rT1,rfl,RA,RB,hr1,hr2,E⟩
 clear Zc0 Zc1 Zc2 Zc3 Zc4 Zc5 Zc6 Zcf Zcz
 have BB2:=hidOf (BB1.out.trans (E.mono BB1.out.size))
 have z2:w1.heap.size<=w2.heap.size:=E.size
 have T0:=hidOf RA
 have T1:=hidOf RB
 replace Z:=hidOf (Z.out.kept E (by omega))
 clear E BB1 RA RB
 have yT0:w1.heap.size<=rT0/\rT0<rT1/\rT1<w2.heap.size:=⟨hr1,hr2,T1.out.2.2.1⟩
 clear hr1 hr2
 go_wp2_with fail
 refine (toSBp oa ll oc (BpF l) _ (P0.out.below BB2.out)).mono ?_
 rintro e w3 ⟨rfl,RC,E⟩
 have BB3:=hidOf (BB2.out.trans (E.mono BB2.out.size))
 have z3:w2.heap.size<=w3.heap.size:=E.size
 have T2:=hidOf RC
 replace Z:=hidOf (Z.out.kept E (by omega))
 replace T0:=hidOf (T0.out.below E)
 replace T1:=hidOf (T1.out.below E)
 clear E BB2 RC
 have yT2:w2.heap.size<w3.heap.size:=T2.out.2.2.1
 go_wp2_with fail
 refine (SP.out _ _ _ L.length O.length _ ll (T0.out.fo hn') (T1.out.list hm') (T2.out.list hl')).mono ?_
 rintro e w4 ⟨vv,uu,cc,rfl,AA,AB,AC,E⟩
 have BB4:=hidOf (BB3.out.trans (E.mono BB3.out.size))
 have z4:w3.heap.size<=w4.heap.size:=E.size
 replace Z:=hidOf (Z.out.kept E (by omega))
 replace T0:=hidOf (T0.out.below E)
 replace T1:=hidOf (T1.out.below E)
 replace T2:=hidOf (T2.out.below E)
 clear E BB3
 dsimp only at AA AB AC
 obtain ⟨av0,cv0,hvv⟩:=AA.len
 subst hvv
 obtain ⟨bu0,du0,huu,_⟩:=AB.shape
 subst huu
 obtain ⟨ci0,di0,hcc,_⟩:=AC.shape
 subst hcc
 have J0:=hidOf AA
 have LJ0:Hid (∀q,(Value.slice av0 G.length cv0).ownBlock=some q->w3.heap.size<=q/\q<w4.heap.size):=fun q hq=>World.ownsRow.lt J0.out q hq
 have J1:=hidOf AB
 have LJ1:Hid (∀q,(Value.slice bu0 H.length du0).ownBlock=some q->w3.heap.size<=q/\q<w4.heap.size):=fun q hq=>World.ownsRow.lt J1.out q hq
 have J2:=hidOf AC
 have LJ2:Hid (∀q,(Value.slice ci0 C.length di0).ownBlock=some q->w3.heap.size<=q/\q<w4.heap.size):=fun q hq=>World.ownsRow.lt J2.out q hq
 clear AA AB AC
 clear T0
 clear T1
 clear T2
 obtain ⟨w5,hw5⟩:∃w5,w5=w4.alloc (.cells #[.int .i64 K.day,.slice av0 G.length cv0,.slice bu0 H.length du0,.int .i64 K.inn,.int .i64 K.out,.int .i64 K.posted,.int .i64 K.missed] 38):=⟨_,rfl⟩
 have E:Below w4.heap.size w4 w5:=by rw[hw5];exact (Below.refl _ _).alloc (Nat.le_refl _) _
 have z5:w4.heap.size+1<=w5.heap.size/\w5.heap.size<=w4.heap.size+1:=by rw[hw5];simp
 have BB5:=hidOf (BB4.out.trans (E.mono BB4.out.size))
 have JB:Hid (BxK w5 w4.heap.size (.slice av0 G.length cv0) (.slice bu0 H.length du0) K):=by show Box7 _ _ _ _ _ _ _ _ _;rw[hw5];exact Box7.new w4 _ _ _ _ _ _ _ 38
 replace Z:=hidOf (Z.out.kept E (by omega))
 replace J0:=hidOf (J0.out.kept E)
 replace J1:=hidOf (J1.out.kept E)
 replace J2:=hidOf (J2.out.kept E)
 have Hw5:=hidOf hw5
 clear E BB4 hw5
 go_upto_region 9 with fail
 rw[←Hw5.out]
 clear Hw5
 obtain ⟨⟨Zc0,Zc1,Zc2,Zc3,Zc4,Zc5,Zc6⟩,Zcf,Zcz⟩:=Z.out
 go_wp2_with fail
 refine (toBank a b L.length c O.length d (FL L) (OrdF O) k _ (F0.out.below BB5.out) (O0.out.below BB5.out)).mono ?_
 rintro e w6 ⟨rX0,rX1,rfl,RA,RB,hr1,hr2,E⟩
 clear Zc0 Zc1 Zc2 Zc3 Zc4 Zc5 Zc6 Zcf Zcz
 have BB6:=hidOf (BB5.out.trans (E.mono BB5.out.size))
 have z6:w5.heap.size<=w6.heap.size:=E.size
 have X0:=hidOf RA
 have X1:=hidOf RB
 replace Z:=hidOf (Z.out.kept E (by omega))
 replace J0:=hidOf (J0.out.kept E)
 replace J1:=hidOf (J1.out.kept E)
 replace J2:=hidOf (J2.out.kept E)
 replace JB:=hidOf (JB.out.kept E (by omega))
 clear E BB5 RA RB
 have yX0:w5.heap.size<=rX0/\rX0<rX1/\rX1<w6.heap.size:=⟨hr1,hr2,X1.out.2.2.1⟩
 clear hr1 hr2
 obtain ⟨w7,hw7⟩:∃w7,w7=w6.alloc (.cells #[.int .i64 k.day,.slice (some ⟨rX0,0,none⟩) L.length L.length,.slice (some ⟨rX1,0,none⟩) O.length O.length,.int .i64 k.inn,.int .i64 k.out,.int .i64 k.posted,.int .i64 k.missed] 38):=⟨_,rfl⟩
 have E:Below w6.heap.size w6 w7:=by rw[hw7];exact (Below.refl _ _).alloc (Nat.le_refl _) _
 have z7:w6.heap.size+1<=w7.heap.size/\w7.heap.size<=w6.heap.size+1:=by rw[hw7];simp
 have BB7:=hidOf (BB6.out.trans (E.mono BB6.out.size))
 have XB:Hid (BxK w7 w6.heap.size (.slice (some ⟨rX0,0,none⟩) L.length L.length) (.slice (some ⟨rX1,0,none⟩) O.length O.length) k):=by show Box7 _ _ _ _ _ _ _ _ _;rw[hw7];exact Box7.new w6 _ _ _ _ _ _ _ 38
 replace Z:=hidOf (Z.out.kept E (by omega))
 replace J0:=hidOf (J0.out.kept E)
 replace J1:=hidOf (J1.out.kept E)
 replace J2:=hidOf (J2.out.kept E)
 replace JB:=hidOf (JB.out.kept E (by omega))
 replace X0:=hidOf (X0.out.below E)
 replace X1:=hidOf (X1.out.below E)
 have Hw7:=hidOf hw7
 clear E BB6 hw7
 go_upto_region 10 with fail
 rw[←Hw7.out]
 clear Hw7
 go_wp2_with fail
 refine (toSBp oa ll oc (BpF l) _ (P0.out.below BB7.out)).mono ?_
 rintro e w8 ⟨rfl,RC,E⟩
 have BB8:=hidOf (BB7.out.trans (E.mono BB7.out.size))
 have z8:w7.heap.size<=w8.heap.size:=E.size
 have X2:=hidOf RC
 replace Z:=hidOf (Z.out.kept E (by omega))
 replace J0:=hidOf (J0.out.kept E)
 replace J1:=hidOf (J1.out.kept E)
 replace J2:=hidOf (J2.out.kept E)
 replace JB:=hidOf (JB.out.kept E (by omega))
 replace X0:=hidOf (X0.out.below E)
 replace X1:=hidOf (X1.out.below E)
 replace XB:=hidOf (XB.out.kept E (by omega))
 clear E BB7 RC
 have yX2:w7.heap.size<w8.heap.size:=X2.out.2.2.1
 obtain ⟨⟨XBc0,XBc1,XBc2,XBc3,XBc4,XBc5,XBc6⟩,XBcf,XBcz⟩:=XB.out
 go_wp2_with fail
 refine (IM.out _ _ _ L.length O.length _ ll (X0.out.fo hn') (X1.out.list hm') (X2.out.list hl') (G0.out.below BB8.out)).mono ?_
 rintro e w9 ⟨vv,uu,cc,rfl,AA,AB,AC,E⟩
 clear XBc0 XBc1 XBc2 XBc3 XBc4 XBc5 XBc6 XBcf XBcz
 have BB9:=hidOf (BB8.out.trans (E.mono BB8.out.size))
 have z9:w8.heap.size<=w9.heap.size:=E.size
 replace Z:=hidOf (Z.out.kept E (by omega))
 replace J0:=hidOf (J0.out.kept E)
 replace J1:=hidOf (J1.out.kept E)
 replace J2:=hidOf (J2.out.kept E)
 replace JB:=hidOf (JB.out.kept E (by omega))
 replace X0:=hidOf (X0.out.below E)
 replace X1:=hidOf (X1.out.below E)
 replace XB:=hidOf (XB.out.kept E (by omega))
 replace X2:=hidOf (X2.out.below E)
 clear E BB8
 dsimp only at AA AB AC
 obtain ⟨av1,cv1,hvv⟩:=AA.len
 subst hvv
 obtain ⟨bu1,du1,huu,_⟩:=AB.shape
 subst huu
 obtain ⟨ci1,di1,hcc,_⟩:=AC.shape
 subst hcc
 have K0:=hidOf AA
 have LK0:Hid (∀q,(Value.slice av1 G.length cv1).ownBlock=some q->w8.heap.size<=q/\q<w9.heap.size):=fun q hq=>World.ownsRow.lt K0.out q hq
 have K1:=hidOf AB
 have LK1:Hid (∀q,(Value.slice bu1 H.length du1).ownBlock=some q->w8.heap.size<=q/\q<w9.heap.size):=fun q hq=>World.ownsRow.lt K1.out q hq
 have K2:=hidOf AC
 have LK2:Hid (∀q,(Value.slice ci1 C.length di1).ownBlock=some q->w8.heap.size<=q/\q<w9.heap.size):=fun q hq=>World.ownsRow.lt K2.out q hq
 clear AA AB AC
 obtain ⟨w10,hw10⟩:∃w10,w10=w9.alloc (.cells #[.int .i64 K.day,.slice av1 G.length cv1,.slice bu1 H.length du1,.int .i64 K.inn,.int .i64 K.out,.int .i64 K.posted,.int .i64 K.missed] 38):=⟨_,rfl⟩
 have E:Below w9.heap.size w9 w10:=by rw[hw10];exact (Below.refl _ _).alloc (Nat.le_refl _) _
 have z10:w9.heap.size+1<=w10.heap.size/\w10.heap.size<=w9.heap.size+1:=by rw[hw10];simp
 have BB10:=hidOf (BB9.out.trans (E.mono BB9.out.size))
 have KB:Hid (BxK w10 w9.heap.size (.slice av1 G.length cv1) (.slice bu1 H.length du1) K):=by show Box7 _ _ _ _ _ _ _ _ _;rw[hw10];exact Box7.new w9 _ _ _ _ _ _ _ 38
 replace Z:=hidOf (Z.out.kept E (by omega))
 replace J0:=hidOf (J0.out.kept E)
 replace J1:=hidOf (J1.out.kept E)
 replace J2:=hidOf (J2.out.kept E)
 replace JB:=hidOf (JB.out.kept E (by omega))
 replace X0:=hidOf (X0.out.below E)
 replace X1:=hidOf (X1.out.below E)
 replace XB:=hidOf (XB.out.kept E (by omega))
 replace X2:=hidOf (X2.out.below E)
 replace K0:=hidOf (K0.out.kept E)
 replace K1:=hidOf (K1.out.kept E)
 replace K2:=hidOf (K2.out.kept E)
 have Hw10:=hidOf hw10
 clear E BB9 hw10
 go_upto_region 12 with fail
 rw[←Hw10.out]
 clear Hw10
 obtain ⟨⟨KBc0,KBc1,KBc2,KBc3,KBc4,KBc5,KBc6⟩,KBcf,KBcz⟩:=KB.out
 obtain ⟨⟨JBc0,JBc1,JBc2,JBc3,JBc4,JBc5,JBc6⟩,JBcf,JBcz⟩:=JB.out
 go_wp2_with fail
 refine (EQ.out _ _ _ _ _ _ _ _ _ K0.out J0.out K1.out J1.out).mono ?_
 rintro e w11 ⟨rfl,E⟩
 clear KBc0 KBc1 KBc2 KBc3 KBc4 KBc5 KBc6 KBcf KBcz
 clear JBc0 JBc1 JBc2 JBc3 JBc4 JBc5 JBc6 JBcf JBcz
 have BB11:=hidOf (BB10.out.trans (E.mono BB10.out.size))
 have z11:w10.heap.size<=w11.heap.size:=E.size
 replace Z:=hidOf (Z.out.kept E (by omega))
 replace J0:=hidOf (J0.out.kept E)
 replace J1:=hidOf (J1.out.kept E)
 replace J2:=hidOf (J2.out.kept E)
 replace JB:=hidOf (JB.out.kept E (by omega))
 replace X0:=hidOf (X0.out.below E)
 replace X1:=hidOf (X1.out.below E)
 replace XB:=hidOf (XB.out.kept E (by omega))
 replace X2:=hidOf (X2.out.below E)
 replace K0:=hidOf (K0.out.kept E)
 replace K1:=hidOf (K1.out.kept E)
 replace K2:=hidOf (K2.out.kept E)
 replace KB:=hidOf (KB.out.kept E (by omega))
 clear E BB10
 go_wp2_with fail
 refine (eqI_same _ _ _ _ C _ hCl K2.out J2.out).mono ?_
 rintro e w12 ⟨rfl,E⟩
 have BB12:=hidOf (BB11.out.trans (E.mono BB11.out.size))
 have z12:w11.heap.size<=w12.heap.size:=E.size
 replace Z:=hidOf (Z.out.kept E (by omega))
 replace J0:=hidOf (J0.out.kept E)
 replace J1:=hidOf (J1.out.kept E)
 replace J2:=hidOf (J2.out.kept E)
 replace JB:=hidOf (JB.out.kept E (by omega))
 replace X0:=hidOf (X0.out.below E)
 replace X1:=hidOf (X1.out.below E)
 replace XB:=hidOf (XB.out.kept E (by omega))
 replace X2:=hidOf (X2.out.below E)
 replace K0:=hidOf (K0.out.kept E)
 replace K1:=hidOf (K1.out.kept E)
 replace K2:=hidOf (K2.out.kept E)
 replace KB:=hidOf (KB.out.kept E (by omega))
 clear E BB11
 go_upto_region 14 with fail
 obtain ⟨w13,hw13⟩:∃w13,w13=w12.drew:=⟨_,rfl⟩
 have E:Below w12.heap.size w12 w13:=by have BR:=Below.refl w12.heap.size w12;rw[hw13];exact ⟨BR.os,BR.tape,BR.output,BR.size,BR.block⟩
 have z13:w13.heap.size<=w12.heap.size/\w12.heap.size<=w13.heap.size:=by rw[hw13];exact ⟨Nat.le_refl _,Nat.le_refl _⟩
 have SA:Hid ((w12.cell? ⟨w6.heap.size,0,none⟩=some (.int .i64 k.day)/\w12.cell? ⟨w6.heap.size,1,none⟩=some (.slice (some ⟨rX0,0,none⟩) L.length L.length)/\w12.cell? ⟨w6.heap.size,2,none⟩=some (.slice (some ⟨rX1,0,none⟩) O.length O.length)/\w12.cell? ⟨w6.heap.size,3,none⟩=some (.int .i64 k.inn)/\w12.cell? ⟨w6.heap.size,4,none⟩=some (.int .i64 k.out)/\w12.cell? ⟨w6.heap.size,5,none⟩=some (.int .i64 k.posted)/\w12.cell? ⟨w6.heap.size,6,none⟩=some (.int .i64 k.missed))/\(w12.cell? ⟨w.heap.size,0,none⟩=some (.int .i64 k.day)/\w12.cell? ⟨w.heap.size,1,none⟩=some (.slice a L.length c)/\w12.cell? ⟨w.heap.size,2,none⟩=some (.slice b O.length d)/\w12.cell? ⟨w.heap.size,3,none⟩=some (.int .i64 k.inn)/\w12.cell? ⟨w.heap.size,4,none⟩=some (.int .i64 k.out)/\w12.cell? ⟨w.heap.size,5,none⟩=some (.int .i64 k.posted)/\w12.cell? ⟨w.heap.size,6,none⟩=some (.int .i64 k.missed))):=⟨XB.out.1,Z.out.1⟩
 have BB13:=hidOf (BB12.out.trans (E.mono BB12.out.size))
 replace Z:=hidOf (Z.out.kept E (by omega))
 replace J0:=hidOf (J0.out.kept E)
 replace J1:=hidOf (J1.out.kept E)
 replace J2:=hidOf (J2.out.kept E)
 replace JB:=hidOf (JB.out.kept E (by omega))
 replace X0:=hidOf (X0.out.below E)
 replace X1:=hidOf (X1.out.below E)
 replace XB:=hidOf (XB.out.kept E (by omega))
 replace X2:=hidOf (X2.out.below E)
 replace K0:=hidOf (K0.out.kept E)
 replace K1:=hidOf (K1.out.kept E)
 replace K2:=hidOf (K2.out.kept E)
 replace KB:=hidOf (KB.out.kept E (by omega))
 have Hw13:=hidOf hw13
 clear E BB12 hw13
 have TB:Hid (∀B,B=w13->Calls Tryz.prog 42 #[.agg #[.int .i64 k.day,.slice a L.length c,.slice b O.length d,.int .i64 k.inn,.int .i64 k.out,.int .i64 k.posted,.int .i64 k.missed]] B fun e w'=>∃R1 R2,e=.returned (.agg #[.int .i64 k.day,.slice (some ⟨R1,0,none⟩) L.length L.length,.slice (some ⟨R2,0,none⟩) O.length O.length,.int .i64 k.inn,.int .i64 k.out,.int .i64 k.posted,.int .i64 k.missed])/\Row w' R1 L.length L.length (FL L)/\RowOrd w' R2 O.length O.length (OrdF O)/\Below w13.heap.size w13 w'):=fun B hB=>by subst hB;exact (toBank a b L.length c O.length d (FL L) (OrdF O) k _ (F0.out.below BB13.out) (O0.out.below BB13.out)).mono fun e w' ⟨R1,R2,h1,h2,h3,_,_,h4⟩=>⟨R1,R2,h1,h2,h3,h4⟩
 have hXBl:w6.heap.size<w13.heap.size:=by omega
 have hZl:w.heap.size<w13.heap.size:=by omega
 go_region_held3 (fun V=>(V.cell? ⟨w6.heap.size,0,none⟩=some (.int .i64 k.day)/\V.cell? ⟨w6.heap.size,1,none⟩=some (.slice (some ⟨rX0,0,none⟩) L.length L.length)/\V.cell? ⟨w6.heap.size,2,none⟩=some (.slice (some ⟨rX1,0,none⟩) O.length O.length)/\V.cell? ⟨w6.heap.size,3,none⟩=some (.int .i64 k.inn)/\V.cell? ⟨w6.heap.size,4,none⟩=some (.int .i64 k.out)/\V.cell? ⟨w6.heap.size,5,none⟩=some (.int .i64 k.posted)/\V.cell? ⟨w6.heap.size,6,none⟩=some (.int .i64 k.missed))/\(V.cell? ⟨w.heap.size,0,none⟩=some (.int .i64 k.day)/\V.cell? ⟨w.heap.size,1,none⟩=some (.slice a L.length c)/\V.cell? ⟨w.heap.size,2,none⟩=some (.slice b O.length d)/\V.cell? ⟨w.heap.size,3,none⟩=some (.int .i64 k.inn)/\V.cell? ⟨w.heap.size,4,none⟩=some (.int .i64 k.out)/\V.cell? ⟨w.heap.size,5,none⟩=some (.int .i64 k.posted)/\V.cell? ⟨w.heap.size,6,none⟩=some (.int .i64 k.missed))) (first|exact SA.out|exact ⟨(XB.out.kept E hXBl).1,(Z.out.kept E hZl).1⟩|exact ⟨((XB.out.kept E hXBl).kept E2 (Nat.lt_of_lt_of_le hXBl E.size)).1,((Z.out.kept E hZl).kept E2 (Nat.lt_of_lt_of_le hZl E.size)).1⟩)
  (first
   | (go_at_call 42;refine (TB.out _ Hw13.out.symm).mono ?_;rintro e w14 ⟨R1,R2,rfl,RA,RB,E⟩)
   | (go_at_call 43;refine (eqBank_same _ _ _ _ L.length L.length L.length O.length O.length O.length (FL L) (OrdF O) k _ ((X0.out.below E).fo hn') (RA.fo hn') ((X1.out.below E).list hm') (RB.list hm')).mono ?_;rintro e w15 ⟨rfl,E2⟩))
 have E3:Below w13.heap.size w13 w15:=E.trans (E2.mono E.size)
 have BB15:=hidOf (BB13.out.trans (E3.mono BB13.out.size))
 have z15:w13.heap.size<=w15.heap.size:=E3.size
 replace Z:=hidOf (Z.out.kept E3 (by omega))
 replace J0:=hidOf (J0.out.kept E3)
 replace J1:=hidOf (J1.out.kept E3)
 replace J2:=hidOf (J2.out.kept E3)
 replace JB:=hidOf (JB.out.kept E3 (by omega))
 replace X0:=hidOf (X0.out.below E3)
 replace X1:=hidOf (X1.out.below E3)
 replace XB:=hidOf (XB.out.kept E3 (by omega))
 replace X2:=hidOf (X2.out.below E3)
 replace K0:=hidOf (K0.out.kept E3)
 replace K1:=hidOf (K1.out.kept E3)
 replace K2:=hidOf (K2.out.kept E3)
 replace KB:=hidOf (KB.out.kept E3 (by omega))
 clear E E2 E3 RA RB SA TB Hw13 BB13
 go_wp2_with fail
 refine (toSBp oa ll oc (BpF l) _ (P0.out.below BB15.out)).mono ?_
 rintro e w16 ⟨rfl,RC,E⟩
 have BB16:=hidOf (BB15.out.trans (E.mono BB15.out.size))
 have z16:w15.heap.size<=w16.heap.size:=E.size
 have T2:=hidOf RC
 replace Z:=hidOf (Z.out.kept E (by omega))
 replace J0:=hidOf (J0.out.kept E)
 replace J1:=hidOf (J1.out.kept E)
 replace J2:=hidOf (J2.out.kept E)
 replace JB:=hidOf (JB.out.kept E (by omega))
 replace X0:=hidOf (X0.out.below E)
 replace X1:=hidOf (X1.out.below E)
 replace XB:=hidOf (XB.out.kept E (by omega))
 replace X2:=hidOf (X2.out.below E)
 replace K0:=hidOf (K0.out.kept E)
 replace K1:=hidOf (K1.out.kept E)
 replace K2:=hidOf (K2.out.kept E)
 replace KB:=hidOf (KB.out.kept E (by omega))
 clear E BB15 RC
 have yT2:w15.heap.size<w16.heap.size:=T2.out.2.2.1
 go_wp2_with fail
 refine (eqSBp_same _ _ ll ll ll (BpF l) _ (X2.out.list hl') (T2.out.list hl')).mono ?_
 rintro e w17 ⟨rfl,E⟩
 have BB17:=hidOf (BB16.out.trans (E.mono BB16.out.size))
 have z17:w16.heap.size<=w17.heap.size:=E.size
 replace Z:=hidOf (Z.out.kept E (by omega))
 replace J0:=hidOf (J0.out.kept E)
 replace J1:=hidOf (J1.out.kept E)
 replace J2:=hidOf (J2.out.kept E)
 replace JB:=hidOf (JB.out.kept E (by omega))
 replace X0:=hidOf (X0.out.below E)
 replace X1:=hidOf (X1.out.below E)
 replace XB:=hidOf (XB.out.kept E (by omega))
 replace X2:=hidOf (X2.out.below E)
 replace K0:=hidOf (K0.out.kept E)
 replace K1:=hidOf (K1.out.kept E)
 replace K2:=hidOf (K2.out.kept E)
 replace KB:=hidOf (KB.out.kept E (by omega))
 replace T2:=hidOf (T2.out.below E)
 clear E BB16
 clear T2
 have C0:Hid (Cells8 w17 rX0 (L.length*8)):=⟨X0.out.1,X0.out.2.1,X0.out.2.2.1⟩
 have C1:Hid (Cells8 w17 rX1 (O.length*7)):=⟨X1.out.1,X1.out.2.1,X1.out.2.2.1⟩
 have C2:Hid (Cells8 w17 w7.heap.size (ll*14)):=⟨X2.out.1,X2.out.2.1,X2.out.2.2.1⟩
 clear X0
 clear X1
 clear X2
 obtain ⟨⟨XBc0,XBc1,XBc2,XBc3,XBc4,XBc5,XBc6⟩,XBcf,XBcz⟩:=XB.out
 go_wp2_with fail
 refine (markBankRow rX0 rX1 L.length L.length O.length O.length k _ hn' hm' C0.out C1.out (by omega)).mono ?_
 rintro e w18 ⟨rfl,wm,E1,E2⟩
 clear XBc0 XBc1 XBc2 XBc3 XBc4 XBc5 XBc6 XBcf XBcz
 have J0':Hid (AL w18 w3.heap.size (.slice av0 G.length cv0) G):=(J0.out.past E1 (fun q h1 h2=>by have:=LJ0.out q h1;simp at h2;omega)).past E2 (fun q h1 h2=>by have:=LJ0.out q h1;simp at h2;omega)
 have J1':Hid (OrdL w18 w3.heap.size (.slice bu0 H.length du0) H):=(J1.out.past E1 (fun q h1 h2=>by have:=LJ1.out q h1;simp at h2;omega)).past E2 (fun q h1 h2=>by have:=LJ1.out q h1;simp at h2;omega)
 have J2':Hid (IL w18 w3.heap.size (.slice ci0 C.length di0) C):=(J2.out.past E1 (fun q h1 h2=>by have:=LJ2.out q h1;simp at h2;omega)).past E2 (fun q h1 h2=>by have:=LJ2.out q h1;simp at h2;omega)
 have K0':Hid (AL w18 w8.heap.size (.slice av1 G.length cv1) G):=(K0.out.past E1 (fun q h1 h2=>by have:=LK0.out q h1;simp at h2;omega)).past E2 (fun q h1 h2=>by have:=LK0.out q h1;simp at h2;omega)
 have K1':Hid (OrdL w18 w8.heap.size (.slice bu1 H.length du1) H):=(K1.out.past E1 (fun q h1 h2=>by have:=LK1.out q h1;simp at h2;omega)).past E2 (fun q h1 h2=>by have:=LK1.out q h1;simp at h2;omega)
 have K2':Hid (IL w18 w8.heap.size (.slice ci1 C.length di1) C):=(K2.out.past E1 (fun q h1 h2=>by have:=LK2.out q h1;simp at h2;omega)).past E2 (fun q h1 h2=>by have:=LK2.out q h1;simp at h2;omega)
 have Z':=hidOf ((Z.out.same (E1.block _ Z.out.2.2 (by simp;omega))).same (E2.block _ (Nat.lt_of_lt_of_le Z.out.2.2 E1.size) (by simp;omega)))
 have JB':=hidOf ((JB.out.same (E1.block _ JB.out.2.2 (by simp;omega))).same (E2.block _ (Nat.lt_of_lt_of_le JB.out.2.2 E1.size) (by simp;omega)))
 have XB':=hidOf ((XB.out.same (E1.block _ XB.out.2.2 (by simp;omega))).same (E2.block _ (Nat.lt_of_lt_of_le XB.out.2.2 E1.size) (by simp;omega)))
 have KB':=hidOf ((KB.out.same (E1.block _ KB.out.2.2 (by simp;omega))).same (E2.block _ (Nat.lt_of_lt_of_le KB.out.2.2 E1.size) (by simp;omega)))
 have C2':Hid (Cells8 w18 w7.heap.size (ll*14)):=(C2.out.grown E1 (by omega)).grown E2 (by omega)
 have BB18:Hid (Below w.heap.size w w18):=(BB17.out.grown E1 BB17.out.size (fun q hq=>by simp at hq;omega)).grown E2 (Nat.le_trans BB17.out.size E1.size) (fun q hq=>by simp at hq;omega)
 have z18:w17.heap.size<=w18.heap.size:=Nat.le_trans E1.size E2.size
 clear Z
 have Z:=Z'
 clear Z'
 clear J0
 have J0:=J0'
 clear J0'
 clear J1
 have J1:=J1'
 clear J1'
 clear J2
 have J2:=J2'
 clear J2'
 clear JB
 have JB:=JB'
 clear JB'
 clear XB
 have XB:=XB'
 clear XB'
 clear K0
 have K0:=K0'
 clear K0'
 clear K1
 have K1:=K1'
 clear K1'
 clear K2
 have K2:=K2'
 clear K2'
 clear KB
 have KB:=KB'
 clear KB'
 clear E1 E2 BB17 C0 C1 C2
 have C2:=C2'
 clear C2'
 go_wp2_with fail
 refine (markBps (w7.heap.size) ll ll (1+8*(L.length:Int)+7*(O.length:Int)) _ hl' (by omega) (by omega) C2.out).mono ?_
 rintro e w19 ⟨rfl,E1⟩
 have J0':Hid (AL w19 w3.heap.size (.slice av0 G.length cv0) G):=J0.out.past E1 (fun q h1 h2=>by have:=LJ0.out q h1;simp at h2;omega)
 have J1':Hid (OrdL w19 w3.heap.size (.slice bu0 H.length du0) H):=J1.out.past E1 (fun q h1 h2=>by have:=LJ1.out q h1;simp at h2;omega)
 have J2':Hid (IL w19 w3.heap.size (.slice ci0 C.length di0) C):=J2.out.past E1 (fun q h1 h2=>by have:=LJ2.out q h1;simp at h2;omega)
 have K0':Hid (AL w19 w8.heap.size (.slice av1 G.length cv1) G):=K0.out.past E1 (fun q h1 h2=>by have:=LK0.out q h1;simp at h2;omega)
 have K1':Hid (OrdL w19 w8.heap.size (.slice bu1 H.length du1) H):=K1.out.past E1 (fun q h1 h2=>by have:=LK1.out q h1;simp at h2;omega)
 have K2':Hid (IL w19 w8.heap.size (.slice ci1 C.length di1) C):=K2.out.past E1 (fun q h1 h2=>by have:=LK2.out q h1;simp at h2;omega)
 have Z':=hidOf (Z.out.same (E1.block _ Z.out.2.2 (by simp;omega)))
 have JB':=hidOf (JB.out.same (E1.block _ JB.out.2.2 (by simp;omega)))
 have XB':=hidOf (XB.out.same (E1.block _ XB.out.2.2 (by simp;omega)))
 have KB':=hidOf (KB.out.same (E1.block _ KB.out.2.2 (by simp;omega)))
 have BB19:Hid (Below w.heap.size w w19):=BB18.out.grown E1 BB18.out.size (fun q hq=>by simp at hq;omega)
 have z19:w18.heap.size<=w19.heap.size:=E1.size
 clear Z
 have Z:=Z'
 clear Z'
 clear J0
 have J0:=J0'
 clear J0'
 clear J1
 have J1:=J1'
 clear J1'
 clear J2
 have J2:=J2'
 clear J2'
 clear JB
 have JB:=JB'
 clear JB'
 clear XB
 have XB:=XB'
 clear XB'
 clear K0
 have K0:=K0'
 clear K0'
 clear K1
 have K1:=K1'
 clear K1'
 clear K2
 have K2:=K2'
 clear K2'
 clear KB
 have KB:=KB'
 clear KB'
 clear E1 BB18 C2
 have hk8:decide (1+8*(L.length:Int)+7*(O.length:Int)+14*(ll:Int)<0)=false:=by simp;omega
 obtain ⟨⟨KBc0,KBc1,KBc2,KBc3,KBc4,KBc5,KBc6⟩,KBcf,KBcz⟩:=KB.out
 obtain ⟨⟨JBc0,JBc1,JBc2,JBc3,JBc4,JBc5,JBc6⟩,JBcf,JBcz⟩:=JB.out
 go_wp2_with fail
 refine (EQ.out _ _ _ _ _ _ _ _ _ K0.out J0.out K1.out J1.out).mono ?_
 rintro e w20 ⟨rfl,E⟩
 clear KBc0 KBc1 KBc2 KBc3 KBc4 KBc5 KBc6 KBcf KBcz
 clear JBc0 JBc1 JBc2 JBc3 JBc4 JBc5 JBc6 JBcf JBcz
 have BB20:=hidOf (BB19.out.trans (E.mono BB19.out.size))
 have z20:w19.heap.size<=w20.heap.size:=E.size
 replace Z:=hidOf (Z.out.kept E (by omega))
 replace J0:=hidOf (J0.out.kept E)
 replace J1:=hidOf (J1.out.kept E)
 replace J2:=hidOf (J2.out.kept E)
 replace JB:=hidOf (JB.out.kept E (by omega))
 replace XB:=hidOf (XB.out.kept E (by omega))
 replace K0:=hidOf (K0.out.kept E)
 replace K1:=hidOf (K1.out.kept E)
 replace K2:=hidOf (K2.out.kept E)
 replace KB:=hidOf (KB.out.kept E (by omega))
 clear E BB19
 go_wp2_with fail
 refine (eqI_same _ _ _ _ C _ hCl K2.out J2.out).mono ?_
 rintro e w21 ⟨rfl,E⟩
 have BB21:=hidOf (BB20.out.trans (E.mono BB20.out.size))
 have z21:w20.heap.size<=w21.heap.size:=E.size
 replace Z:=hidOf (Z.out.kept E (by omega))
 replace J0:=hidOf (J0.out.kept E)
 replace J1:=hidOf (J1.out.kept E)
 replace J2:=hidOf (J2.out.kept E)
 replace JB:=hidOf (JB.out.kept E (by omega))
 replace XB:=hidOf (XB.out.kept E (by omega))
 replace K0:=hidOf (K0.out.kept E)
 replace K1:=hidOf (K1.out.kept E)
 replace K2:=hidOf (K2.out.kept E)
 replace KB:=hidOf (KB.out.kept E (by omega))
 clear E BB20
 obtain ⟨⟨KBc0,KBc1,KBc2,KBc3,KBc4,KBc5,KBc6⟩,KBcf,KBcz⟩:=KB.out
 go_wp2_with fail
 refine (markBankOwn _ _ (.slice av1 G.length cv1) (.slice bu1 H.length du1) G H K _ hGl hHl K0.out K1.out (fun q hq=>by have:=LK0.out q hq;omega)).mono ?_
 rintro e w22 ⟨rfl,⟨M,hM1,hM2,A1⟩,⟨P,hP1,hP2,A2⟩,wm2,E1,E2⟩
 clear KBc0 KBc1 KBc2 KBc3 KBc4 KBc5 KBc6 KBcf KBcz
 have J0':Hid (AL w22 w3.heap.size (.slice av0 G.length cv0) G):=(J0.out.past E1 (fun q h1 h2=>by have:=LJ0.out q h1;have:=LK0.out q h2;omega)).past E2 (fun q h1 h2=>by have:=LJ0.out q h1;have:=LK1.out q h2;omega)
 have J1':Hid (OrdL w22 w3.heap.size (.slice bu0 H.length du0) H):=(J1.out.past E1 (fun q h1 h2=>by have:=LJ1.out q h1;have:=LK0.out q h2;omega)).past E2 (fun q h1 h2=>by have:=LJ1.out q h1;have:=LK1.out q h2;omega)
 have J2':Hid (IL w22 w3.heap.size (.slice ci0 C.length di0) C):=(J2.out.past E1 (fun q h1 h2=>by have:=LJ2.out q h1;have:=LK0.out q h2;omega)).past E2 (fun q h1 h2=>by have:=LJ2.out q h1;have:=LK1.out q h2;omega)
 have Z':=hidOf ((Z.out.same (E1.block _ Z.out.2.2 (fun e=>by have:=LK0.out _ e.symm;omega))).same (E2.block _ (Nat.lt_of_lt_of_le Z.out.2.2 E1.size) (fun e=>by have:=LK1.out _ e.symm;omega)))
 have JB':=hidOf ((JB.out.same (E1.block _ JB.out.2.2 (fun e=>by have:=LK0.out _ e.symm;omega))).same (E2.block _ (Nat.lt_of_lt_of_le JB.out.2.2 E1.size) (fun e=>by have:=LK1.out _ e.symm;omega)))
 have XB':=hidOf ((XB.out.same (E1.block _ XB.out.2.2 (fun e=>by have:=LK0.out _ e.symm;omega))).same (E2.block _ (Nat.lt_of_lt_of_le XB.out.2.2 E1.size) (fun e=>by have:=LK1.out _ e.symm;omega)))
 have KB':=hidOf ((KB.out.same (E1.block _ KB.out.2.2 (fun e=>by have:=LK0.out _ e.symm;omega))).same (E2.block _ (Nat.lt_of_lt_of_le KB.out.2.2 E1.size) (fun e=>by have:=LK1.out _ e.symm;omega)))
 have K2':Hid (IL w22 w8.heap.size (.slice ci1 C.length di1) C):=row_apart (row_apart K2.out K0.out (by decide) E1) (row_apart K1.out K0.out (by decide) E1) (by decide) E2
 have K0':=hidOf A1
 have K1':=hidOf A2
 have BB22:Hid (Below w.heap.size w w22):=(BB21.out.grown E1 BB21.out.size (fun q hq=>by have:=LK0.out q hq;omega)).grown E2 (Nat.le_trans BB21.out.size E1.size) (fun q hq=>by have:=LK1.out q hq;omega)
 have z22:w21.heap.size<=w22.heap.size:=Nat.le_trans E1.size E2.size
 clear Z
 have Z:=Z'
 clear Z'
 clear J0
 have J0:=J0'
 clear J0'
 clear J1
 have J1:=J1'
 clear J1'
 clear J2
 have J2:=J2'
 clear J2'
 clear JB
 have JB:=JB'
 clear JB'
 clear XB
 have XB:=XB'
 clear XB'
 clear K0
 have K0:=K0'
 clear K0'
 clear K1
 have K1:=K1'
 clear K1'
 clear K2
 have K2:=K2'
 clear K2'
 clear KB
 have KB:=KB'
 clear KB'
 clear E1 E2 BB21 A1 A2
 have HM1:=hidOf hM1
 have HM2:=hidOf hM2
 have HP1:=hidOf hP1
 have HP2:Hid (MarkedOrd (1+8*(M.length:Int)) P.length P):=by show MarkedOrd _ _ _;rw[hM1];exact hP2
 have hMl:M.length<=1048576:=by omega
 have hPl:P.length<=1048576:=by omega
 clear hM1 hM2 hP1 hP2
 have hk9:decide (1+8*(G.length:Int)+7*(H.length:Int)<0)=false:=by simp;omega
 go_wp2_with fail
 refine (markI _ (.slice ci1 C.length di1) C (1+8*(G.length:Int)+7*(H.length:Int)) _ (by omega) (by omega) hCl K2.out).mono ?_
 rintro e w23 ⟨rfl,⟨S,hS1,hS2,A1⟩,E1⟩
 have J0':Hid (AL w23 w3.heap.size (.slice av0 G.length cv0) G):=J0.out.past E1 (fun q h1 h2=>by have:=LJ0.out q h1;have:=LK2.out q h2;omega)
 have J1':Hid (OrdL w23 w3.heap.size (.slice bu0 H.length du0) H):=J1.out.past E1 (fun q h1 h2=>by have:=LJ1.out q h1;have:=LK2.out q h2;omega)
 have J2':Hid (IL w23 w3.heap.size (.slice ci0 C.length di0) C):=J2.out.past E1 (fun q h1 h2=>by have:=LJ2.out q h1;have:=LK2.out q h2;omega)
 have Z':=hidOf (Z.out.same (E1.block _ Z.out.2.2 (fun e=>by have:=LK2.out _ e.symm;omega)))
 have JB':=hidOf (JB.out.same (E1.block _ JB.out.2.2 (fun e=>by have:=LK2.out _ e.symm;omega)))
 have XB':=hidOf (XB.out.same (E1.block _ XB.out.2.2 (fun e=>by have:=LK2.out _ e.symm;omega)))
 have KB':=hidOf (KB.out.same (E1.block _ KB.out.2.2 (fun e=>by have:=LK2.out _ e.symm;omega)))
 have K0':Hid (AL w23 w8.heap.size (.slice av1 G.length cv1) M):=row_apart K0.out K2.out (by decide) E1
 have K1':Hid (OrdL w23 w8.heap.size (.slice bu1 H.length du1) P):=row_apart K1.out K2.out (by decide) E1
 have K2':=hidOf A1
 have BB23:Hid (Below w.heap.size w w23):=BB22.out.grown E1 BB22.out.size (fun q hq=>by have:=LK2.out q hq;omega)
 have z23:w22.heap.size<=w23.heap.size:=E1.size
 clear Z
 have Z:=Z'
 clear Z'
 clear J0
 have J0:=J0'
 clear J0'
 clear J1
 have J1:=J1'
 clear J1'
 clear J2
 have J2:=J2'
 clear J2'
 clear JB
 have JB:=JB'
 clear JB'
 clear XB
 have XB:=XB'
 clear XB'
 clear K0
 have K0:=K0'
 clear K0'
 clear K1
 have K1:=K1'
 clear K1'
 clear K2
 have K2:=K2'
 clear K2'
 clear KB
 have KB:=KB'
 clear KB'
 clear E1 BB22 A1
 have HS1:=hidOf hS1
 have HS2:Hid (MarkI (1+8*(G.length:Int)+7*(H.length:Int)) S.length S):=by show MarkI _ _ _;rw[hS1];exact hS2
 have hSl:S.length<=1048576:=by omega
 clear hS1 hS2
 have hk10:decide (1+8*(G.length:Int)+7*(H.length:Int)+(C.length:Int)<0)=false:=by simp;omega
 have hk11:(1+8*(G.length:Int)+7*(H.length:Int)+(C.length:Int) != 1+8*(G.length:Int)+7*(H.length:Int)+(C.length:Int))=false:=by simp
 obtain ⟨⟨KBc0,KBc1,KBc2,KBc3,KBc4,KBc5,KBc6⟩,KBcf,KBcz⟩:=KB.out
 go_wp2_with fail
 refine (heldBank _ _ (.slice av1 G.length cv1) (.slice bu1 H.length du1) M P K _ hMl hPl K0.out K1.out HM2.out HP2.out).mono ?_
 rintro e w24 ⟨rfl,E⟩
 clear KBc0 KBc1 KBc2 KBc3 KBc4 KBc5 KBc6 KBcf KBcz
 have BB24:=hidOf (BB23.out.trans (E.mono BB23.out.size))
 have z24:w23.heap.size<=w24.heap.size:=E.size
 replace Z:=hidOf (Z.out.kept E (by omega))
 replace J0:=hidOf (J0.out.kept E)
 replace J1:=hidOf (J1.out.kept E)
 replace J2:=hidOf (J2.out.kept E)
 replace JB:=hidOf (JB.out.kept E (by omega))
 replace XB:=hidOf (XB.out.kept E (by omega))
 replace K0:=hidOf (K0.out.kept E)
 replace K1:=hidOf (K1.out.kept E)
 replace K2:=hidOf (K2.out.kept E)
 replace KB:=hidOf (KB.out.kept E (by omega))
 clear E BB23
 rw[HM1.out,HP1.out]
 go_wp2_with fail
 refine (heldI _ (.slice ci1 C.length di1) S (1+8*(G.length:Int)+7*(H.length:Int)) _ (by omega) (by omega) hSl K2.out HS2.out).mono ?_
 rintro e wz ⟨rfl,hwz⟩
 subst wz
 rw[HS1.out]
 obtain ⟨⟨Zc0,Zc1,Zc2,Zc3,Zc4,Zc5,Zc6⟩,Zcf,Zcz⟩:=Z.out
 go_wp2_with fail
 refine (toBank a b L.length c O.length d (FL L) (OrdF O) k _ (F0.out.below BB24.out) (O0.out.below BB24.out)).mono ?_
 rintro e w25 ⟨rT0,rT1,rfl,RA,RB,hr1,hr2,E⟩
 clear Zc0 Zc1 Zc2 Zc3 Zc4 Zc5 Zc6 Zcf Zcz
 have BB25:=hidOf (BB24.out.trans (E.mono BB24.out.size))
 have z25:w24.heap.size<=w25.heap.size:=E.size
 have T0:=hidOf RA
 have T1:=hidOf RB
 replace Z:=hidOf (Z.out.kept E (by omega))
 replace J0:=hidOf (J0.out.kept E)
 replace J1:=hidOf (J1.out.kept E)
 replace J2:=hidOf (J2.out.kept E)
 replace JB:=hidOf (JB.out.kept E (by omega))
 replace XB:=hidOf (XB.out.kept E (by omega))
 replace K0:=hidOf (K0.out.kept E)
 replace K1:=hidOf (K1.out.kept E)
 replace K2:=hidOf (K2.out.kept E)
 replace KB:=hidOf (KB.out.kept E (by omega))
 clear E BB24 RA RB
 have yT0:w24.heap.size<=rT0/\rT0<rT1/\rT1<w25.heap.size:=⟨hr1,hr2,T1.out.2.2.1⟩
 clear hr1 hr2
 go_wp2_with fail
 refine (toSBp oa ll oc (BpF l) _ (P0.out.below BB25.out)).mono ?_
 rintro e w26 ⟨rfl,RC,E⟩
 have BB26:=hidOf (BB25.out.trans (E.mono BB25.out.size))
 have z26:w25.heap.size<=w26.heap.size:=E.size
 have T2:=hidOf RC
 replace Z:=hidOf (Z.out.kept E (by omega))
 replace J0:=hidOf (J0.out.kept E)
 replace J1:=hidOf (J1.out.kept E)
 replace J2:=hidOf (J2.out.kept E)
 replace JB:=hidOf (JB.out.kept E (by omega))
 replace XB:=hidOf (XB.out.kept E (by omega))
 replace K0:=hidOf (K0.out.kept E)
 replace K1:=hidOf (K1.out.kept E)
 replace K2:=hidOf (K2.out.kept E)
 replace KB:=hidOf (KB.out.kept E (by omega))
 replace T0:=hidOf (T0.out.below E)
 replace T1:=hidOf (T1.out.below E)
 clear E BB25 RC
 have yT2:w25.heap.size<w26.heap.size:=T2.out.2.2.1
 go_wp2_with fail
 refine (IM.out _ _ _ L.length O.length _ ll (T0.out.fo hn') (T1.out.list hm') (T2.out.list hl') (G0.out.below BB26.out)).mono ?_
 rintro e w27 ⟨vv,uu,cc,rfl,AA,AB,AC,E⟩
 have BB27:=hidOf (BB26.out.trans (E.mono BB26.out.size))
 have z27:w26.heap.size<=w27.heap.size:=E.size
 replace Z:=hidOf (Z.out.kept E (by omega))
 replace J0:=hidOf (J0.out.kept E)
 replace J1:=hidOf (J1.out.kept E)
 replace J2:=hidOf (J2.out.kept E)
 replace JB:=hidOf (JB.out.kept E (by omega))
 replace XB:=hidOf (XB.out.kept E (by omega))
 replace K0:=hidOf (K0.out.kept E)
 replace K1:=hidOf (K1.out.kept E)
 replace K2:=hidOf (K2.out.kept E)
 replace KB:=hidOf (KB.out.kept E (by omega))
 replace T0:=hidOf (T0.out.below E)
 replace T1:=hidOf (T1.out.below E)
 replace T2:=hidOf (T2.out.below E)
 clear E BB26
 dsimp only at AA AB AC
 obtain ⟨av2,cv2,hvv⟩:=AA.len
 subst hvv
 obtain ⟨bu2,du2,huu,_⟩:=AB.shape
 subst huu
 obtain ⟨ci2,di2,hcc,_⟩:=AC.shape
 subst hcc
 have I0:=hidOf AA
 have LI0:Hid (∀q,(Value.slice av2 G.length cv2).ownBlock=some q->w26.heap.size<=q/\q<w27.heap.size):=fun q hq=>World.ownsRow.lt I0.out q hq
 have I1:=hidOf AB
 have LI1:Hid (∀q,(Value.slice bu2 H.length du2).ownBlock=some q->w26.heap.size<=q/\q<w27.heap.size):=fun q hq=>World.ownsRow.lt I1.out q hq
 have I2:=hidOf AC
 have LI2:Hid (∀q,(Value.slice ci2 C.length di2).ownBlock=some q->w26.heap.size<=q/\q<w27.heap.size):=fun q hq=>World.ownsRow.lt I2.out q hq
 clear AA AB AC
 clear T0
 clear T1
 clear T2
 obtain ⟨w28,hw28⟩:∃w28,w28=w27.alloc (.cells #[.int .i64 K.day,.slice av2 G.length cv2,.slice bu2 H.length du2,.int .i64 K.inn,.int .i64 K.out,.int .i64 K.posted,.int .i64 K.missed] 38):=⟨_,rfl⟩
 have E:Below w27.heap.size w27 w28:=by rw[hw28];exact (Below.refl _ _).alloc (Nat.le_refl _) _
 have z28:w27.heap.size+1<=w28.heap.size/\w28.heap.size<=w27.heap.size+1:=by rw[hw28];simp
 have BB28:=hidOf (BB27.out.trans (E.mono BB27.out.size))
 have IB:Hid (BxK w28 w27.heap.size (.slice av2 G.length cv2) (.slice bu2 H.length du2) K):=by show Box7 _ _ _ _ _ _ _ _ _;rw[hw28];exact Box7.new w27 _ _ _ _ _ _ _ 38
 replace Z:=hidOf (Z.out.kept E (by omega))
 replace J0:=hidOf (J0.out.kept E)
 replace J1:=hidOf (J1.out.kept E)
 replace J2:=hidOf (J2.out.kept E)
 replace JB:=hidOf (JB.out.kept E (by omega))
 replace XB:=hidOf (XB.out.kept E (by omega))
 replace K0:=hidOf (K0.out.kept E)
 replace K1:=hidOf (K1.out.kept E)
 replace K2:=hidOf (K2.out.kept E)
 replace KB:=hidOf (KB.out.kept E (by omega))
 replace I0:=hidOf (I0.out.kept E)
 replace I1:=hidOf (I1.out.kept E)
 replace I2:=hidOf (I2.out.kept E)
 have Hw28:=hidOf hw28
 clear E BB27 hw28
 go_upto_region 36 with fail
 rw[←Hw28.out]
 clear Hw28
 obtain ⟨⟨IBc0,IBc1,IBc2,IBc3,IBc4,IBc5,IBc6⟩,IBcf,IBcz⟩:=IB.out
 obtain ⟨⟨JBc0,JBc1,JBc2,JBc3,JBc4,JBc5,JBc6⟩,JBcf,JBcz⟩:=JB.out
 go_wp2_with fail
 refine (EQ.out _ _ _ _ _ _ _ _ _ I0.out J0.out I1.out J1.out).mono ?_
 rintro e w29 ⟨rfl,E⟩
 clear IBc0 IBc1 IBc2 IBc3 IBc4 IBc5 IBc6 IBcf IBcz
 clear JBc0 JBc1 JBc2 JBc3 JBc4 JBc5 JBc6 JBcf JBcz
 have BB29:=hidOf (BB28.out.trans (E.mono BB28.out.size))
 have z29:w28.heap.size<=w29.heap.size:=E.size
 replace Z:=hidOf (Z.out.kept E (by omega))
 replace J0:=hidOf (J0.out.kept E)
 replace J1:=hidOf (J1.out.kept E)
 replace J2:=hidOf (J2.out.kept E)
 replace JB:=hidOf (JB.out.kept E (by omega))
 replace XB:=hidOf (XB.out.kept E (by omega))
 replace K0:=hidOf (K0.out.kept E)
 replace K1:=hidOf (K1.out.kept E)
 replace K2:=hidOf (K2.out.kept E)
 replace KB:=hidOf (KB.out.kept E (by omega))
 replace I0:=hidOf (I0.out.kept E)
 replace I1:=hidOf (I1.out.kept E)
 replace I2:=hidOf (I2.out.kept E)
 replace IB:=hidOf (IB.out.kept E (by omega))
 clear E BB28
 go_wp2_with fail
 refine (eqI_same _ _ _ _ C _ hCl I2.out J2.out).mono ?_
 rintro e w30 ⟨rfl,E⟩
 have BB30:=hidOf (BB29.out.trans (E.mono BB29.out.size))
 have z30:w29.heap.size<=w30.heap.size:=E.size
 replace Z:=hidOf (Z.out.kept E (by omega))
 replace J0:=hidOf (J0.out.kept E)
 replace J1:=hidOf (J1.out.kept E)
 replace J2:=hidOf (J2.out.kept E)
 replace JB:=hidOf (JB.out.kept E (by omega))
 replace XB:=hidOf (XB.out.kept E (by omega))
 replace K0:=hidOf (K0.out.kept E)
 replace K1:=hidOf (K1.out.kept E)
 replace K2:=hidOf (K2.out.kept E)
 replace KB:=hidOf (KB.out.kept E (by omega))
 replace I0:=hidOf (I0.out.kept E)
 replace I1:=hidOf (I1.out.kept E)
 replace I2:=hidOf (I2.out.kept E)
 replace IB:=hidOf (IB.out.kept E (by omega))
 clear E BB29
 obtain ⟨⟨KBc0,KBc1,KBc2,KBc3,KBc4,KBc5,KBc6⟩,KBcf,KBcz⟩:=KB.out
 go_wp2_with fail
 refine (heldBank _ _ (.slice av1 G.length cv1) (.slice bu1 H.length du1) M P K _ hMl hPl K0.out K1.out HM2.out HP2.out).mono ?_
 rintro e w31 ⟨rfl,E⟩
 clear KBc0 KBc1 KBc2 KBc3 KBc4 KBc5 KBc6 KBcf KBcz
 have BB31:=hidOf (BB30.out.trans (E.mono BB30.out.size))
 have z31:w30.heap.size<=w31.heap.size:=E.size
 replace Z:=hidOf (Z.out.kept E (by omega))
 replace J0:=hidOf (J0.out.kept E)
 replace J1:=hidOf (J1.out.kept E)
 replace J2:=hidOf (J2.out.kept E)
 replace JB:=hidOf (JB.out.kept E (by omega))
 replace XB:=hidOf (XB.out.kept E (by omega))
 replace K0:=hidOf (K0.out.kept E)
 replace K1:=hidOf (K1.out.kept E)
 replace K2:=hidOf (K2.out.kept E)
 replace KB:=hidOf (KB.out.kept E (by omega))
 replace I0:=hidOf (I0.out.kept E)
 replace I1:=hidOf (I1.out.kept E)
 replace I2:=hidOf (I2.out.kept E)
 replace IB:=hidOf (IB.out.kept E (by omega))
 clear E BB30
 rw[HM1.out,HP1.out]
 go_wp2_with fail
 refine (heldI _ (.slice ci1 C.length di1) S (1+8*(G.length:Int)+7*(H.length:Int)) _ (by omega) (by omega) hSl K2.out HS2.out).mono ?_
 rintro e wz ⟨rfl,hwz⟩
 subst wz
 rw[HS1.out]
 go_wp2
 go_ret
 exact ⟨rfl,BB31.out⟩
end Go.Proofs.YtghkbhggopiajaaGreatDoor
