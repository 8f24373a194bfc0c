/- Ran of the program. -/
import Derived.Test.YtghkbhggopiajaaGreatDoorRunKr
set_option maxHeartbeats 8000000
namespace Go.Proofs.YtghkbhggopiajaaGreatDoor
open Go.RowKit
set_option maxRecDepth 8000
set_option linter.unusedVariables false
theorem ran_head (a b:Option Addr) (c d:Nat) (L:List Acc) (O:List Ord) (k:Bk) (K n:Int) (x:OpF) (o:Ord) (w:World):∃W0,W0=((w.alloc (.cells #[.int .i64 k.day,.slice a L.length c,.slice b O.length d,.int .i64 k.inn,.int .i64 k.out,.int .i64 k.posted,.int .i64 k.missed] 38)).alloc (.cells #[.int .i64 K,.int .i64 x.k,.int .i64 x.i,.int .i64 x.t,.int .i64 x.m,.int .i64 x.r,.int .i64 o.id,.int .i64 o.src,.int .i64 o.dst,.int .i64 o.amount,.int .i64 o.first,.int .i64 o.every,.int .i64 o.times,.int .i64 n] 51)).alloc (.cells #[.int .i64 0,.slice none 0 0,.slice none 0 0,.int .i64 0,.int .i64 0,.int .i64 0,.int .i64 0] 38)/\W0.heap.size=w.heap.size+1+1+1/\Below w.heap.size w W0/\BxK W0 w.heap.size (.slice a L.length c) (.slice b O.length d) k/\Bx14 W0 (w.heap.size+1) K x o n/\BxZ W0 (w.heap.size+1+1):=by
 refine ⟨_,rfl,by simp,(((Below.refl _ _).alloc (Nat.le_refl _) _).alloc (by simp) _).alloc (by simp;omega) _,((Box7.new w _ _ _ _ _ _ _ 38).kept ((Below.refl _ _).alloc (Nat.le_refl _) _) (by simp)).kept ((Below.refl _ _).alloc (Nat.le_refl _) _) (by simp;omega),?_,?_⟩
 ·have:=Bx14.new (w.alloc (.cells #[.int .i64 k.day,.slice a L.length c,.slice b O.length d,.int .i64 k.inn,.int .i64 k.out,.int .i64 k.posted,.int .i64 k.missed] 38)) K x o n 51
  rw[World.size_alloc] at this
  exact this.kept ((Below.refl _ _).alloc (Nat.le_refl _) _) (by simp)
 ·have:=Box7.new ((w.alloc (.cells #[.int .i64 k.day,.slice a L.length c,.slice b O.length d,.int .i64 k.inn,.int .i64 k.out,.int .i64 k.posted,.int .i64 k.missed] 38)).alloc (.cells #[.int .i64 K,.int .i64 x.k,.int .i64 x.i,.int .i64 x.t,.int .i64 x.m,.int .i64 x.r,.int .i64 o.id,.int .i64 o.src,.int .i64 o.dst,.int .i64 o.amount,.int .i64 o.first,.int .i64 o.every,.int .i64 o.times,.int .i64 n] 51)) (.int .i64 0) (.slice none 0 0) (.slice none 0 0) (.int .i64 0) (.int .i64 0) (.int .i64 0) (.int .i64 0) 38
  simp only[World.size_alloc] at this
  exact this
theorem ranS_no {L:List Acc} {O:List Ord} {k:Bk} {K n:Int} {x:OpF} {o:Ord} (h:(ranS L O k K x o n).code≠0):ranS L O k K x o n=⟨(ranS L O k K x o n).code,L,O,k⟩:=by
 unfold ranS finR at h ⊢
 split
 ·rename_i h0
  rw[if_pos h0] at h
  split
  ·rename_i h1
   rw[if_pos h1] at h
   exact absurd h0 h
  ·rfl
 ·rfl
theorem ranS_ok {L:List Acc} {O:List Ord} {k:Bk} {K n:Int} {x:OpF} {o:Ord} (h:(ranS L O k K x o n).code=0):(ranS L O k K x o n).ok:=by
 unfold ranS finR at h ⊢
 split
 ·rename_i h0
  rw[if_pos h0] at h
  split
  ·assumption
  ·rename_i h1
   rw[if_neg h1] at h
   simp at h
 ·rename_i h0
  rw[if_neg h0] at h
  exact absurd h h0
theorem ranS_bank {L:List Acc} {O:List Ord} {k:Bk} (K n:Int) (x:OpF) (o:Ord) (hb:bankOk (FL L) L.length (OrdF O) O.length k):(ranS L O k K x o n).ok:=by
 by_cases h:(ranS L O k K x o n).code=0
 ·exact ranS_ok h
 ·rw[ranS_no h];exact hb
theorem implRan_bad (a b:Option Addr) (c d:Nat) (L:List Acc) (O:List Ord) (k:Bk) (K n:Int) (x:OpF) (o:Ord) (w:World) (hF:Fo w a L.length (FL L)) (hO:Ords w b O.length (OrdF O)) (hb:¬bankOk (FL L) L.length (OrdF O) O.length k):
  Calls Tryz.prog 29 #[.agg #[.int .i64 k.day,.slice a L.length c,.slice b O.length d,.int .i64 k.inn,.int .i64 k.out,.int .i64 k.posted,.int .i64 k.missed],.agg #[.int .i64 K,.int .i64 x.k,.int .i64 x.i,.int .i64 x.t,.int .i64 x.m,.int .i64 x.r,.int .i64 o.id,.int .i64 o.src,.int .i64 o.dst,.int .i64 o.amount,.int .i64 o.first,.int .i64 o.every,.int .i64 o.times,.int .i64 n]] w fun e w'=>RanOut ⟨1,[],[],⟨0,0,0,0,0⟩⟩ w e w':=by
 have HBad:=hidOf hb
 clear hb
 have HF:=hidOf hF
 have HO:=hidOf hO
 obtain ⟨W0,hW0,hs0,b0,z1,z2,z3⟩:=ran_head a b c d L O k K n x o w
 have HW0:=hidOf hW0
 have HB0:=hidOf b0
 have Z1:=hidOf z1
 have Z2:=hidOf z2
 have Z3:=hidOf z3
 clear hW0 b0 z1 z2 z3 hF hO
 go_enter Tryz.func29,Tryz.ntmps29
 go_wp2_with fail
 rw[←HW0.out]
 clear HW0
 refine (implBank a b L.length c O.length d (FL L) (OrdF O) k _ (HF.out.below HB0.out) (HO.out.below HB0.out)).mono ?_
 rintro e w1 ⟨⟨bb,rfl,hb1,hb2⟩,B1⟩
 obtain rfl:bb=false:=by cases bb with|true=>exact absurd (hb1 rfl) HBad.out|false=>rfl
 obtain ⟨⟨r0,r1,r2,r3,r4,r5,r6⟩,rf,rz⟩:=Z3.out.kept B1 (by omega)
 have HB1:Hid (Below w.heap.size w w1):=HB0.out.trans (B1.mono (by omega))
 clear hb1 hb2 B1 HB0 Z1 Z2 Z3 hs0
 go_wp2
 refine bodyPost_ret (v:=.tuple #[.agg #[.int .i64 0,.slice none 0 0,.slice none 0 0,.int .i64 0,.int .i64 0,.int .i64 0,.int .i64 0],.int .i64 1]) (by simp[results,Tryz.results29,go_sem,r0,r1,r2,r3,r4,r5,r6]) rfl ⟨.slice none 0 0,.slice none 0 0,rfl,AL.nil' _ _,OrdL.nil _ _,?_⟩
 repeat (refine below_far ?_ (by omega) _ _)
 exact HB1.out
theorem implRan_ok (a b:Option Addr) (c d:Nat) (L:List Acc) (O:List Ord) (k:Bk) (K n:Int) (x:OpF) (o:Ord) (p:Nat->Addr) (w:World) (hF:Fo w a L.length (FL L)) (hO:Ords w b O.length (OrdF O)) (hG:GE w p) (hb:bankOk (FL L) L.length (OrdF O) O.length k):
  Calls Tryz.prog 29 #[.agg #[.int .i64 k.day,.slice a L.length c,.slice b O.length d,.int .i64 k.inn,.int .i64 k.out,.int .i64 k.posted,.int .i64 k.missed],.agg #[.int .i64 K,.int .i64 x.k,.int .i64 x.i,.int .i64 x.t,.int .i64 x.m,.int .i64 x.r,.int .i64 o.id,.int .i64 o.src,.int .i64 o.dst,.int .i64 o.amount,.int .i64 o.first,.int .i64 o.every,.int .i64 o.times,.int .i64 n]] w fun e w'=>RanOut (ranS L O k K x o n) w e w':=by
 have HOK:=hidOf hb
 have HG:=hidOf hG
 have hl12:L.length<=12:=hb.2.1.1
 have hol:O.length<=8:=hb.2.2.1.1
 have RNO:Hid ((ranS L O k K x o n).code≠0->ranS L O k K x o n=⟨(ranS L O k K x o n).code,L,O,k⟩):=ranS_no
 have RUN:Hid (∀(B R:Nat) (a b:Option Addr) (c d:Nat) (w:World),BxK w R (.slice a L.length c) (.slice b O.length d) k->AL w B (.slice a L.length c) L->OrdL w B (.slice b O.length d) O->(∀q,(Value.slice a L.length c).ownBlock=some q->q≠R)->(∀q,(Value.slice b O.length d).ownBlock=some q->q≠R)->B<=R->GE w p->Calls Tryz.prog 83 #[.pointer (some ⟨R,0,none⟩),.agg #[.int .i64 K,.int .i64 x.k,.int .i64 x.i,.int .i64 x.t,.int .i64 x.m,.int .i64 x.r,.int .i64 o.id,.int .i64 o.src,.int .i64 o.dst,.int .i64 o.amount,.int .i64 o.first,.int .i64 o.every,.int .i64 o.times,.int .i64 n]] w fun e w'=>RunOut (ranS L O k K x o n) B R w e w'):=fun B R a b c d w h1 h2 h3 h4 h5 h6 h7=>implRun B R a b c d L O k x o n p w h1 h2 h3 h4 h5 h6 h7 hb K
 have RL:Hid ((ranS L O k K x o n).L.length<=12/\(ranS L O k K x o n).O.length<=8):=by have:=ranS_bank K n x o hb;exact ⟨this.2.1.1,this.2.2.1.1⟩
 clear hb hG
 have HF:=hidOf hF
 have HO:=hidOf hO
 obtain ⟨W0,hW0,hs0,b0,z1,z2,z3⟩:=ran_head a b c d L O k K n x o w
 have HW0:=hidOf hW0
 have HB0:=hidOf b0
 have Z1:=hidOf z1
 have Z2:=hidOf z2
 have Z3:=hidOf z3
 clear hW0 b0 z1 z2 z3 hF hO
 generalize ranS L O k K x o n=q at*
 go_enter Tryz.func29,Tryz.ntmps29
 go_wp2_with fail
 rw[←HW0.out]
 clear HW0
 refine (implBank a b L.length c O.length d (FL L) (OrdF O) k _ (HF.out.below HB0.out) (HO.out.below HB0.out)).mono ?_
 rintro e w1 ⟨⟨bb,rfl,hb1,hb2⟩,B1⟩
 obtain rfl:bb=true:=by cases bb with|false=>exact absurd HOK.out (hb2 rfl)|true=>rfl
 have hs1:=B1.size
 have Y1:=hidOf (Z1.out.kept B1 (by omega))
 have Y2:=hidOf (Z2.out.kept B1 (by omega))
 have Y3:=hidOf (Z3.out.kept B1 (by omega))
 have HB1:Hid (Below w.heap.size w w1):=HB0.out.trans (B1.mono (by omega))
 have hs1':w.heap.size+1+1+1<=w1.heap.size:=by omega
 obtain ⟨⟨s0,s1,s2,s3,s4,s5,s6⟩,sf,sz⟩:=Y1.out
 clear hb1 hb2 B1 HB0 Z1 Z2 Z3 hs0 hs1
 go_wp2_with fail
 refine (implCopiedBank a b c d L O k _ (HF.out.below HB1.out) (HO.out.below HB1.out)).mono ?_
 rintro e w2 ⟨v2,u2,rfl,A2,O2,B2⟩
 obtain ⟨a2,c2,hv⟩:=A2.len
 subst hv
 obtain ⟨b2,d2,hv⟩:=O2.len
 subst hv
 clear s0 s1 s2 s3 s4 s5 s6 sf sz
 obtain ⟨W3,hW3⟩:∃W3,W3=w2.alloc (.cells #[.int .i64 k.day,.slice a2 L.length c2,.slice b2 O.length d2,.int .i64 k.inn,.int .i64 k.out,.int .i64 k.posted,.int .i64 k.missed] 38):=⟨_,rfl⟩
 have D3:Below w2.heap.size w2 W3:=by rw[hW3];exact (Below.refl _ _).alloc (Nat.le_refl _) _
 have hs2:=B2.size
 have E3:Below w1.heap.size w1 W3:=B2.trans (D3.mono B2.size)
 have X3:BxK W3 w2.heap.size (.slice a2 L.length c2) (.slice b2 O.length d2) k:=by rw[hW3];exact Box7.new w2 _ _ _ _ _ _ _ 38
 have A3:AL W3 w1.heap.size (.slice a2 L.length c2) L:=A2.kept D3
 have O3:OrdL W3 w1.heap.size (.slice b2 O.length d2) O:=O2.kept D3
 have hal:∀q,(Value.slice a2 L.length c2).ownBlock=some q->q≠w2.heap.size:=fun q hq=>by have:=(World.ownsRow.lt A2 q hq).2;omega
 have hbl:∀q,(Value.slice b2 O.length d2).ownBlock=some q->q≠w2.heap.size:=fun q hq=>by have:=(World.ownsRow.lt O2 q hq).2;omega
 have HB3:=hidOf (HB1.out.trans (E3.mono HB1.out.size))
 have RUN3:Hid (Calls Tryz.prog 83 #[.pointer (some ⟨w2.heap.size,0,none⟩),.agg #[.int .i64 K,.int .i64 x.k,.int .i64 x.i,.int .i64 x.t,.int .i64 x.m,.int .i64 x.r,.int .i64 o.id,.int .i64 o.src,.int .i64 o.dst,.int .i64 o.amount,.int .i64 o.first,.int .i64 o.every,.int .i64 o.times,.int .i64 n]] W3 fun e w'=>RunOut q w1.heap.size w2.heap.size W3 e w'):=RUN.out w1.heap.size w2.heap.size a2 b2 c2 d2 W3 X3 A3 O3 hal hbl hs2 (HG.out.below HB3.out)
 have V1:=hidOf (Y1.out.kept E3 (by omega))
 have V2:=hidOf (Y2.out.kept E3 (by omega))
 have V3:=hidOf (Y3.out.kept E3 (by omega))
 have HW3:=hidOf hW3
 clear hW3 D3 E3 X3 A3 O3 hal hbl A2 O2 B2 Y1 Y2 Y3 RUN HG
 obtain ⟨⟨c0,c1,c2',c3,c4,c5,c6,c7,c8,c9,c10,c11,c12,c13⟩,cz⟩:=V2.out
 go_upto_region 4 with fail
 rw[←HW3.out]
 clear HW3
 go_wp2_with fail
 refine RUN3.out.mono ?_
 rintro e w4 ⟨rfl,B4,X4,h4⟩
 clear c0 c1 c2' c3 c4 c5 c6 c7 c8 c9 c10 c11 c12 c13 cz RUN3 V2
 have hs4:=B4.size
 have hs3:w2.heap.size<w4.heap.size:=by obtain ⟨_,_,_,_,_,_,_,h⟩:=X4;exact h.2.2
 have U1:=hidOf (V1.out.kept B4 (by omega))
 have U3:=hidOf (V3.out.kept B4 (by omega))
 have HB4:Hid (Below w.heap.size w w4):=HB3.out.trans (B4.mono (by omega))
 clear V1 V3 B4 HB3
 by_cases hc:q.code=0
 ·obtain ⟨v5,u5,X5,A5,O5⟩:=h4 hc
  obtain ⟨a5,c5,hv⟩:=A5.len
  subst hv
  obtain ⟨b5,d5,hv⟩:=O5.len
  subst hv
  have HA5:=hidOf A5
  have HO5:=hidOf O5
  obtain ⟨⟨s0,s1,s2,s3,s4,s5,s6⟩,sf,sz⟩:=X5
  obtain ⟨⟨r0,r1,r2,r3,r4,r5,r6⟩,rf,rz⟩:=U3.out
  have hcb:(q.code != 0)=false:=by simp[hc]
  have HQ:Hid (q=q):=rfl
  clear h4 A5 O5 X4 RNO hc
  obtain ⟨qc,qL,qO,qk⟩:=q
  dsimp only at*
  go_wp2
  refine bodyPost_ret (v:=.tuple #[.agg #[.int .i64 qk.day,.slice a5 qL.length c5,.slice b5 qO.length d5,.int .i64 qk.inn,.int .i64 qk.out,.int .i64 qk.posted,.int .i64 qk.missed],.int .i64 qc]) (by simp[results,Tryz.results29,go_sem,r0,r1,r2,r3,r4,r5,r6]) rfl ⟨.slice a5 qL.length c5,.slice b5 qO.length d5,rfl,?_,?_,?_⟩
  ·refine AL.mono (B:=w1.heap.size) ?_ (by omega)
   repeat (refine AL.far ?_ (by omega) _ _)
   exact HA5.out
  ·refine OrdL.mono (B:=w1.heap.size) ?_ (by omega)
   repeat (refine OrdL.far ?_ (by omega) _ _)
   exact HO5.out
  ·repeat (refine below_far ?_ (by omega) _ _)
   exact HB4.out
 ·have hq:=RNO.out hc
  have hcb:(q.code != 0)=true:=by simp[hc]
  have HX4:=hidOf X4
  obtain ⟨⟨s0,s1,s2,s3,s4,s5,s6⟩,sf,sz⟩:=U1.out
  obtain ⟨qc,qL,qO,qk⟩:=q
  dsimp only at*
  simp only[Rn.mk.injEq,true_and] at hq
  obtain ⟨rfl,rfl,rfl⟩:=hq
  clear h4 X4 RNO hc
  go_wp2_with fail
  refine (implCopiedBank a b c d qL qO qk _ (HF.out.below HB4.out) (HO.out.below HB4.out)).mono ?_
  rintro e w5 ⟨v5,u5,rfl,A5,O5,B5⟩
  obtain ⟨a5,c5,hv⟩:=A5.len
  subst hv
  obtain ⟨b5,d5,hv⟩:=O5.len
  subst hv
  obtain ⟨y0,y1,y2,y3,y4,y5,y6,X5⟩:=HX4.out
  have X6:=X5.kept B5 hs3
  have U5:=U3.out.kept B5 (by omega)
  have HA5:=hidOf A5
  have HO5:=hidOf O5
  have HB5:=hidOf (HB4.out.trans (B5.mono HB4.out.size))
  clear s0 s1 s2 s3 s4 s5 s6 sf sz X5 A5 O5 B5 HX4 U3 U1
  obtain ⟨⟨s0,s1,s2,s3,s4,s5,s6⟩,sf,sz⟩:=X6
  obtain ⟨⟨r0,r1,r2,r3,r4,r5,r6⟩,rf,rz⟩:=U5
  have hne1:¬w2.heap.size=w.heap.size+1+1:=by omega
  have hne2:¬w.heap.size+1+1=w2.heap.size:=by omega
  go_wp2
  refine bodyPost_ret (v:=.tuple #[.agg #[.int .i64 qk.day,.slice a5 qL.length c5,.slice b5 qO.length d5,.int .i64 qk.inn,.int .i64 qk.out,.int .i64 qk.posted,.int .i64 qk.missed],.int .i64 qc]) (by simp[results,Tryz.results29,go_sem,r0,r1,r2,r3,r4,r5,r6]) rfl ⟨.slice a5 qL.length c5,.slice b5 qO.length d5,rfl,?_,?_,?_⟩
  ·refine AL.mono (B:=w4.heap.size) ?_ (by omega)
   repeat (refine AL.far ?_ (by omega) _ _)
   exact HA5.out
  ·refine OrdL.mono (B:=w4.heap.size) ?_ (by omega)
   repeat (refine OrdL.far ?_ (by omega) _ _)
   exact HO5.out
  ·repeat (refine below_far ?_ (by omega) _ _)
   exact HB5.out
theorem implRan (a b:Option Addr) (c d:Nat) (L:List Acc) (O:List Ord) (k:Bk) (K n:Int) (x:OpF) (o:Ord) (p:Nat->Addr) (w:World) (hF:Fo w a L.length (FL L)) (hO:Ords w b O.length (OrdF O)) (hG:GE w p):
  Calls Tryz.prog 29 #[.agg #[.int .i64 k.day,.slice a L.length c,.slice b O.length d,.int .i64 k.inn,.int .i64 k.out,.int .i64 k.posted,.int .i64 k.missed],.agg #[.int .i64 K,.int .i64 x.k,.int .i64 x.i,.int .i64 x.t,.int .i64 x.m,.int .i64 x.r,.int .i64 o.id,.int .i64 o.src,.int .i64 o.dst,.int .i64 o.amount,.int .i64 o.first,.int .i64 o.every,.int .i64 o.times,.int .i64 n]] w fun e w'=>RanOut (ranAny L O k K x o n) w e w':=by
 unfold ranAny
 by_cases hb:bankOk (FL L) L.length (OrdF O) O.length k
 ·rw[if_pos hb];exact implRan_ok a b c d L O k K n x o p w hF hO hG hb
 ·rw[if_neg hb];exact implRan_bad a b c d L O k K n x o w hF hO hb
end Go.Proofs.YtghkbhggopiajaaGreatDoor
