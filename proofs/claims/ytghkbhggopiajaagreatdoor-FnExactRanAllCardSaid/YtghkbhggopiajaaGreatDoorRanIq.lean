/- Ran of the program. -/
import Derived.Test.YtghkbhggopiajaaGreatDoorRunKq
import Derived.Test.YtghkbhggopiajaaGreatDoorToBq
set_option maxHeartbeats 8000000
namespace Go.Proofs.YtghkbhggopiajaaGreatDoor
open Go.RowKit
set_option maxRecDepth 8000
set_option linter.unusedVariables false
theorem ran_head (a b:Option Addr) (c d:Nat) (L:List Acc) (O:List Ord) (k:Bk) (K n:Int) (x:OpF) (o:Ord) (w:World):∃W0,W0=((w.alloc (.cells #[.int .i64 k.day,.slice a L.length c,.slice b O.length d,.int .i64 k.inn,.int .i64 k.out,.int .i64 k.posted,.int .i64 k.missed] 38)).alloc (.cells #[.int .i64 K,.int .i64 x.k,.int .i64 x.i,.int .i64 x.t,.int .i64 x.m,.int .i64 x.r,.int .i64 o.id,.int .i64 o.src,.int .i64 o.dst,.int .i64 o.amount,.int .i64 o.first,.int .i64 o.every,.int .i64 o.times,.int .i64 n] 51)).alloc (.cells #[.int .i64 0,.slice none 0 0,.slice none 0 0,.int .i64 0,.int .i64 0,.int .i64 0,.int .i64 0] 38)/\W0.heap.size=w.heap.size+1+1+1/\Below w.heap.size w W0/\BxK W0 w.heap.size (.slice a L.length c) (.slice b O.length d) k/\Bx14 W0 (w.heap.size+1) K x o n/\BxZ W0 (w.heap.size+1+1):=by
 refine ⟨_,rfl,by simp,(((Below.refl _ _).alloc (Nat.le_refl _) _).alloc (by simp) _).alloc (by simp;omega) _,((Box7.new w _ _ _ _ _ _ _ 38).kept ((Below.refl _ _).alloc (Nat.le_refl _) _) (by simp)).kept ((Below.refl _ _).alloc (Nat.le_refl _) _) (by simp;omega),?_,?_⟩
 ·have:=Bx14.new (w.alloc (.cells #[.int .i64 k.day,.slice a L.length c,.slice b O.length d,.int .i64 k.inn,.int .i64 k.out,.int .i64 k.posted,.int .i64 k.missed] 38)) K x o n 51
  rw[World.size_alloc] at this
  exact this.kept ((Below.refl _ _).alloc (Nat.le_refl _) _) (by simp)
 ·have:=Box7.new ((w.alloc (.cells #[.int .i64 k.day,.slice a L.length c,.slice b O.length d,.int .i64 k.inn,.int .i64 k.out,.int .i64 k.posted,.int .i64 k.missed] 38)).alloc (.cells #[.int .i64 K,.int .i64 x.k,.int .i64 x.i,.int .i64 x.t,.int .i64 x.m,.int .i64 x.r,.int .i64 o.id,.int .i64 o.src,.int .i64 o.dst,.int .i64 o.amount,.int .i64 o.first,.int .i64 o.every,.int .i64 o.times,.int .i64 n] 51)) (.int .i64 0) (.slice none 0 0) (.slice none 0 0) (.int .i64 0) (.int .i64 0) (.int .i64 0) (.int .i64 0) 38
  simp only[World.size_alloc] at this
  exact this
theorem ranS_no {L:List Acc} {O:List Ord} {k:Bk} {K n:Int} {x:OpF} {o:Ord} (h:(ranS L O k K x o n).code≠0):ranS L O k K x o n=⟨(ranS L O k K x o n).code,L,O,k⟩:=by
 unfold ranS finR at h ⊢
 split
 ·rename_i h0
  rw[if_pos h0] at h
  split
  ·rename_i h1
   rw[if_pos h1] at h
   exact absurd h0 h
  ·rfl
 ·rfl
theorem ranS_ok {L:List Acc} {O:List Ord} {k:Bk} {K n:Int} {x:OpF} {o:Ord} (h:(ranS L O k K x o n).code=0):(ranS L O k K x o n).ok:=by
 unfold ranS finR at h ⊢
 split
 ·rename_i h0
  rw[if_pos h0] at h
  split
  ·assumption
  ·rename_i h1
   rw[if_neg h1] at h
   simp at h
 ·rename_i h0
  rw[if_neg h0] at h
  exact absurd h h0
theorem ranS_bank {L:List Acc} {O:List Ord} {k:Bk} (K n:Int) (x:OpF) (o:Ord) (hb:bankOk (FL L) L.length (OrdF O) O.length k):(ranS L O k K x o n).ok:=by
 by_cases h:(ranS L O k K x o n).code=0
 ·exact ranS_ok h
 ·rw[ranS_no h];exact hb
theorem implRan_bad (a b:Option Addr) (c d:Nat) (L:List Acc) (O:List Ord) (k:Bk) (K n:Int) (x:OpF) (o:Ord) (w:World) (hF:Fo w a L.length (FL L)) (hO:Ords w b O.length (OrdF O)) (hb:¬bankOk (FL L) L.length (OrdF O) O.length k):
  Calls Tryz.prog 29 #[.agg #[.int .i64 k.day,.slice a L.length c,.slice b O.length d,.int .i64 k.inn,.int .i64 k.out,.int .i64 k.posted,.int .i64 k.missed],.agg #[.int .i64 K,.int .i64 x.k,.int .i64 x.i,.int .i64 x.t,.int .i64 x.m,.int .i64 x.r,.int .i64 o.id,.int .i64 o.src,.int .i64 o.dst,.int .i64 o.amount,.int .i64 o.first,.int .i64 o.every,.int .i64 o.times,.int .i64 n]] w fun e w'=>RanOut ⟨1,[],[],⟨0,0,0,0,0⟩⟩ w e w':=by
 have HBad:=hidOf hb
 clear hb
 have HF:=hidOf hF
 have HO:=hidOf hO
 obtain ⟨W0,hW0,hs0,b0,z1,z2,z3⟩:=ran_head a b c d L O k K n x o w
 have HW0:=hidOf hW0
 have HB0:=hidOf b0
 have Z1:=hidOf z1
 have Z2:=hidOf z2
 have Z3:=hidOf z3
 clear hW0 b0 z1 z2 z3 hF hO
 go_enter Tryz.func29,Tryz.ntmps29
 go_wp2_with fail
 rw[←HW0.out]
 clear HW0
 refine (implBank a b L.length c O.length d (FL L) (OrdF O) k _ (HF.out.below HB0.out) (HO.out.below HB0.out)).mono ?_
 rintro e w1 ⟨⟨bb,rfl,hb1,hb2⟩,B1⟩
 obtain rfl:bb=false:=by cases bb with|true=>exact absurd (hb1 rfl) HBad.out|false=>rfl
 obtain ⟨⟨r0,r1,r2,r3,r4,r5,r6⟩,rf,rz⟩:=Z3.out.kept B1 (by omega)
 have HB1:Hid (Below w.heap.size w w1):=HB0.out.trans (B1.mono (by omega))
 clear hb1 hb2 B1 HB0 Z1 Z2 Z3 hs0
 go_wp2
 refine bodyPost_ret (v:=.tuple #[.agg #[.int .i64 0,.slice none 0 0,.slice none 0 0,.int .i64 0,.int .i64 0,.int .i64 0,.int .i64 0],.int .i64 1]) (by simp[results,Tryz.results29,go_sem,r0,r1,r2,r3,r4,r5,r6]) rfl ⟨.slice none 0 0,.slice none 0 0,rfl,AL.nil' _ _,OrdL.nil _ _,?_⟩
 repeat (refine below_far ?_ (by omega) _ _)
 exact HB1.out
theorem implRan_ok (a b:Option Addr) (c d:Nat) (L:List Acc) (O:List Ord) (k:Bk) (K n:Int) (x:OpF) (o:Ord) (p:Nat->Addr) (w:World) (hF:Fo w a L.length (FL L)) (hO:Ords w b O.length (OrdF O)) (hG:GE w p) (hb:bankOk (FL L) L.length (OrdF O) O.length k):
  Calls Tryz.prog 29 #[.agg #[.int .i64 k.day,.slice a L.length c,.slice b O.length d,.int .i64 k.inn,.int .i64 k.out,.int .i64 k.posted,.int .i64 k.missed],.agg #[.int .i64 K,.int .i64 x.k,.int .i64 x.i,.int .i64 x.t,.int .i64 x.m,.int .i64 x.r,.int .i64 o.id,.int .i64 o.src,.int .i64 o.dst,.int .i64 o.amount,.int .i64 o.first,.int .i64 o.every,.int .i64 o.times,.int .i64 n]] w fun e w'=>RanOut (ranS L O k K x o n) w e w':=by
 have HOK:=hidOf hb
 have HG:=hidOf hG
 have hl12:L.length<=12:=hb.2.1.1
 have hol:O.length<=8:=hb.2.2.1.1
 have RNO:Hid ((ranS L O k K x o n).code≠0->ranS L O k K x o n=⟨(ranS L O k K x o n).code,L,O,k⟩):=ranS_no
 have RUN:Hid (∀(B R:Nat) (a b:Option Addr) (c d:Nat) (w:World),BxK w R (.slice a L.length c) (.slice b O.length d) k->AL w B (.slice a L.length c) L->OrdL w B (.slice b O.length d) O->(∀q,(Value.slice a L.length c).ownBlock=some q->q≠R)->(∀q,(Value.slice b O.length d).ownBlock=some q->q≠R)->B<=R->GE w p->Calls Tryz.prog 83 #[.pointer (some ⟨R,0,none⟩),.agg #[.int .i64 K,.int .i64 x.k,.int .i64 x.i,.int .i64 x.t,.int .i64 x.m,.int .i64 x.r,.int .i64 o.id,.int .i64 o.src,.int .i64 o.dst,.int .i64 o.amount,.int .i64 o.first,.int .i64 o.every,.int .i64 o.times,.int .i64 n]] w fun e w'=>RunOut (ranS L O k K x o n) B R w e w'):=fun B R a b c d w h1 h2 h3 h4 h5 h6 h7=>implRun B R a b c d L O k x o n p w h1 h2 h3 h4 h5 h6 h7 hb K
 have RL:Hid ((ranS L O k K x o n).L.length<=12/\(ranS L O k K x o n).O.length<=8):=by have:=ranS_bank K n x o hb;exact ⟨this.2.1.1,this.2.2.1.1⟩
 clear hb hG
 have HF:=hidOf hF
 have HO:=hidOf hO
 obtain ⟨W0,hW0,hs0,b0,z1,z2,z3⟩:=ran_head a b c d L O k K n x o w
 have HW0:=hidOf hW0
 have HB0:=hidOf b0
 have Z1:=hidOf z1
 have Z2:=hidOf z2
 have Z3:=hidOf z3
 clear hW0 b0 z1 z2 z3 hF hO
 generalize ranS L O k K x o n=q at*
 go_enter Tryz.func29,Tryz.ntmps29
 go_wp2_with fail
 rw[←HW0.out]
 clear HW0
 refine (implBank a b L.length c O.length d (FL L) (OrdF O) k _ (HF.out.below HB0.out) (HO.out.below HB0.out)).mono ?_
 rintro e w1 ⟨⟨bb,rfl,hb1,hb2⟩,B1⟩
 obtain rfl:bb=true:=by cases bb with|false=>exact absurd HOK.out (hb2 rfl)|true=>rfl
 have hs1:=B1.size
 have Y1:=hidOf (Z1.out.kept B1 (by omega))
 have Y2:=hidOf (Z2.out.kept B1 (by omega))
 have Y3:=hidOf (Z3.out.kept B1 (by omega))
 have HB1:Hid (Below w.heap.size w w1):=HB0.out.trans (B1.mono (by omega))
 have hs1':w.heap.size+1+1+1<=w1.heap.size:=by omega
 obtain ⟨⟨s0,s1,s2,s3,s4,s5,s6⟩,sf,sz⟩:=Y1.out
 clear hb1 hb2 B1 HB0 Z1 Z2 Z3 hs0 hs1
 go_wp2_with fail
 refine (implCopiedBank a b c d L O k _ (HF.out.below HB1.out) (HO.out.below HB1.out)).mono ?_
 rintro e w2 ⟨v2,u2,rfl,A2,O2,B2⟩
 obtain ⟨a2,c2,hv⟩:=A2.len
 subst hv
 obtain ⟨b2,d2,hv⟩:=O2.len
 subst hv
 clear s0 s1 s2 s3 s4 s5 s6 sf sz
 obtain ⟨W3,hW3⟩:∃W3,W3=w2.alloc (.cells #[.int .i64 k.day,.slice a2 L.length c2,.slice b2 O.length d2,.int .i64 k.inn,.int .i64 k.out,.int .i64 k.posted,.int .i64 k.missed] 38):=⟨_,rfl⟩
 have D3:Below w2.heap.size w2 W3:=by rw[hW3];exact (Below.refl _ _).alloc (Nat.le_refl _) _
 have hs2:=B2.size
 have E3:Below w1.heap.size w1 W3:=B2.trans (D3.mono B2.size)
 have X3:BxK W3 w2.heap.size (.slice a2 L.length c2) (.slice b2 O.length d2) k:=by rw[hW3];exact Box7.new w2 _ _ _ _ _ _ _ 38
 have A3:AL W3 w1.heap.size (.slice a2 L.length c2) L:=A2.kept D3
 have O3:OrdL W3 w1.heap.size (.slice b2 O.length d2) O:=O2.kept D3
 have hal:∀q,(Value.slice a2 L.length c2).ownBlock=some q->q≠w2.heap.size:=fun q hq=>by have:=(World.ownsRow.lt A2 q hq).2;omega
 have hbl:∀q,(Value.slice b2 O.length d2).ownBlock=some q->q≠w2.heap.size:=fun q hq=>by have:=(World.ownsRow.lt O2 q hq).2;omega
 have HB3:=hidOf (HB1.out.trans (E3.mono HB1.out.size))
 have RUN3:Hid (Calls Tryz.prog 83 #[.pointer (some ⟨w2.heap.size,0,none⟩),.agg #[.int .i64 K,.int .i64 x.k,.int .i64 x.i,.int .i64 x.t,.int .i64 x.m,.int .i64 x.r,.int .i64 o.id,.int .i64 o.src,.int .i64 o.dst,.int .i64 o.amount,.int .i64 o.first,.int .i64 o.every,.int .i64 o.times,.int .i64 n]] W3 fun e w'=>RunOut q w1.heap.size w2.heap.size W3 e w'):=RUN.out w1.heap.size w2.heap.size a2 b2 c2 d2 W3 X3 A3 O3 hal hbl hs2 (HG.out.below HB3.out)
 have V1:=hidOf (Y1.out.kept E3 (by omega))
 have V2:=hidOf (Y2.out.kept E3 (by omega))
 have V3:=hidOf (Y3.out.kept E3 (by omega))
 have HW3:=hidOf hW3
 clear hW3 D3 E3 X3 A3 O3 hal hbl A2 O2 B2 Y1 Y2 Y3 RUN HG
 obtain ⟨⟨c0,c1,c2',c3,c4,c5,c6,c7,c8,c9,c10,c11,c12,c13⟩,cz⟩:=V2.out
 go_upto_region 4 with fail
 rw[←HW3.out]
 clear HW3
 go_wp2_with fail
 refine RUN3.out.mono ?_
 rintro e w4 ⟨rfl,B4,X4,h4⟩
 clear c0 c1 c2' c3 c4 c5 c6 c7 c8 c9 c10 c11 c12 c13 cz RUN3 V2
 have hs4:=B4.size
 have hs3:w2.heap.size<w4.heap.size:=by obtain ⟨_,_,_,_,_,_,_,h⟩:=X4;exact h.2.2
 have U1:=hidOf (V1.out.kept B4 (by omega))
 have U3:=hidOf (V3.out.kept B4 (by omega))
 have HB4:Hid (Below w.heap.size w w4):=HB3.out.trans (B4.mono (by omega))
 clear V1 V3 B4 HB3
 by_cases hc:q.code=0
 ·obtain ⟨v5,u5,X5,A5,O5⟩:=h4 hc
  obtain ⟨a5,c5,hv⟩:=A5.len
  subst hv
  obtain ⟨b5,d5,hv⟩:=O5.len
  subst hv
  have HA5:=hidOf A5
  have HO5:=hidOf O5
  obtain ⟨⟨s0,s1,s2,s3,s4,s5,s6⟩,sf,sz⟩:=X5
  obtain ⟨⟨r0,r1,r2,r3,r4,r5,r6⟩,rf,rz⟩:=U3.out
  have hcb:(q.code != 0)=false:=by simp[hc]
  have HQ:Hid (q=q):=rfl
  clear h4 A5 O5 X4 RNO hc
  obtain ⟨qc,qL,qO,qk⟩:=q
  dsimp only at*
  go_wp2
  refine bodyPost_ret (v:=.tuple #[.agg #[.int .i64 qk.day,.slice a5 qL.length c5,.slice b5 qO.length d5,.int .i64 qk.inn,.int .i64 qk.out,.int .i64 qk.posted,.int .i64 qk.missed],.int .i64 qc]) (by simp[results,Tryz.results29,go_sem,r0,r1,r2,r3,r4,r5,r6]) rfl ⟨.slice a5 qL.length c5,.slice b5 qO.length d5,rfl,?_,?_,?_⟩
  ·refine AL.mono (B:=w1.heap.size) ?_ (by omega)
   repeat (refine AL.far ?_ (by omega) _ _)
   exact HA5.out
  ·refine OrdL.mono (B:=w1.heap.size) ?_ (by omega)
   repeat (refine OrdL.far ?_ (by omega) _ _)
   exact HO5.out
  ·repeat (refine below_far ?_ (by omega) _ _)
   exact HB4.out
 ·have hq:=RNO.out hc
  have hcb:(q.code != 0)=true:=by simp[hc]
  have HX4:=hidOf X4
  obtain ⟨⟨s0,s1,s2,s3,s4,s5,s6⟩,sf,sz⟩:=U1.out
  obtain ⟨qc,qL,qO,qk⟩:=q
  dsimp only at*
  simp only[Rn.mk.injEq,true_and] at hq
  obtain ⟨rfl,rfl,rfl⟩:=hq
  clear h4 X4 RNO hc
  go_wp2_with fail
  refine (implCopiedBank a b c d qL qO qk _ (HF.out.below HB4.out) (HO.out.below HB4.out)).mono ?_
  rintro e w5 ⟨v5,u5,rfl,A5,O5,B5⟩
  obtain ⟨a5,c5,hv⟩:=A5.len
  subst hv
  obtain ⟨b5,d5,hv⟩:=O5.len
  subst hv
  obtain ⟨y0,y1,y2,y3,y4,y5,y6,X5⟩:=HX4.out
  have X6:=X5.kept B5 hs3
  have U5:=U3.out.kept B5 (by omega)
  have HA5:=hidOf A5
  have HO5:=hidOf O5
  have HB5:=hidOf (HB4.out.trans (B5.mono HB4.out.size))
  clear s0 s1 s2 s3 s4 s5 s6 sf sz X5 A5 O5 B5 HX4 U3 U1
  obtain ⟨⟨s0,s1,s2,s3,s4,s5,s6⟩,sf,sz⟩:=X6
  obtain ⟨⟨r0,r1,r2,r3,r4,r5,r6⟩,rf,rz⟩:=U5
  have hne1:¬w2.heap.size=w.heap.size+1+1:=by omega
  have hne2:¬w.heap.size+1+1=w2.heap.size:=by omega
  go_wp2
  refine bodyPost_ret (v:=.tuple #[.agg #[.int .i64 qk.day,.slice a5 qL.length c5,.slice b5 qO.length d5,.int .i64 qk.inn,.int .i64 qk.out,.int .i64 qk.posted,.int .i64 qk.missed],.int .i64 qc]) (by simp[results,Tryz.results29,go_sem,r0,r1,r2,r3,r4,r5,r6]) rfl ⟨.slice a5 qL.length c5,.slice b5 qO.length d5,rfl,?_,?_,?_⟩
  ·refine AL.mono (B:=w4.heap.size) ?_ (by omega)
   repeat (refine AL.far ?_ (by omega) _ _)
   exact HA5.out
  ·refine OrdL.mono (B:=w4.heap.size) ?_ (by omega)
   repeat (refine OrdL.far ?_ (by omega) _ _)
   exact HO5.out
  ·repeat (refine below_far ?_ (by omega) _ _)
   exact HB5.out
theorem implRan (a b:Option Addr) (c d:Nat) (L:List Acc) (O:List Ord) (k:Bk) (K n:Int) (x:OpF) (o:Ord) (p:Nat->Addr) (w:World) (hF:Fo w a L.length (FL L)) (hO:Ords w b O.length (OrdF O)) (hG:GE w p):
  Calls Tryz.prog 29 #[.agg #[.int .i64 k.day,.slice a L.length c,.slice b O.length d,.int .i64 k.inn,.int .i64 k.out,.int .i64 k.posted,.int .i64 k.missed],.agg #[.int .i64 K,.int .i64 x.k,.int .i64 x.i,.int .i64 x.t,.int .i64 x.m,.int .i64 x.r,.int .i64 o.id,.int .i64 o.src,.int .i64 o.dst,.int .i64 o.amount,.int .i64 o.first,.int .i64 o.every,.int .i64 o.times,.int .i64 n]] w fun e w'=>RanOut (ranAny L O k K x o n) w e w':=by
 unfold ranAny
 by_cases hb:bankOk (FL L) L.length (OrdF O) O.length k
 ·rw[if_pos hb];exact implRan_ok a b c d L O k K n x o p w hF hO hG hb
 ·rw[if_neg hb];exact implRan_bad a b c d L O k K n x o w hF hO hb
open Go.RowKit
set_option maxRecDepth 8000
def BpF (L:List Bp):Nat->Bp:=fun j=>L.getD j ⟨0,⟨0,0,0,0,0⟩,⟨0,0,0,0,0,0,0⟩,0⟩
theorem BpF_lt {L:List Bp} {j:Nat} (h:j<L.length):BpF L j=L[j]:=by simp[BpF,List.getD,List.getElem?_eq_getElem h]
structure RA where
 c:List Int
 L:List Acc
 O:List Ord
 k:Bk
noncomputable def stepB (s:RA) (a:Bp):RA:=⟨s.c++[(ranAny s.L s.O s.k a.K a.x a.o a.n).code],(ranAny s.L s.O s.k a.K a.x a.o a.n).L,(ranAny s.L s.O s.k a.K a.x a.o a.n).O,(ranAny s.L s.O s.k a.K a.x a.o a.n).k⟩
noncomputable def runB (s:RA) (l:List Bp):RA:=l.foldl stepB s
theorem runB_take (s:RA) (l:List Bp) (k:Nat) (hk:k<l.length):runB s (l.take (k+1))=stepB (runB s (l.take k)) (BpF l k):=by
 unfold runB
 rw[List.take_succ_eq_append_getElem hk,List.foldl_append,BpF_lt hk]
 rfl
def RA.ok (s:RA):Prop:=bankOk (FL s.L) s.L.length (OrdF s.O) s.O.length s.k
theorem runB_ok:∀(l:List Bp) (s:RA),s.ok->(runB s l).ok
 | [],_,h=>h
 | a::l,s,h=>runB_ok l (stepB s a) (by
  have e:ranAny s.L s.O s.k a.K a.x a.o a.n=ranS s.L s.O s.k a.K a.x a.o a.n:=if_pos h
  have:=ranS_bank a.K a.n a.x a.o h
  unfold RA.ok stepB
  rw[e]
  exact this)
theorem runB_len:∀(l:List Bp) (s:RA),(runB s l).c.length=s.c.length+l.length
 | [],_=>rfl
 | o::l,s=>by
  have:=runB_len l (stepB s o)
  show (runB (stepB s o) l).c.length=_
  rw[this]
  simp[stepB];omega
open Classical in
noncomputable def allB (L:List Acc) (O:List Ord) (k:Bk) (l:List Bp):RA:=if bankOk (FL L) L.length (OrdF O) O.length k/\l.length<=100 then runB ⟨[],L,O,k⟩ l else ⟨[],[],[],⟨0,0,0,0,0⟩⟩
def Nms (g o:Nat) (l:List Value) (V:World):Prop:=g<V.heap.size/\∀j x,l[j]? =some x->V.cell? ⟨g,o+j,none⟩=some x
theorem Nms.alloc {g o:Nat} {l:List Value} {V:World} (h:Nms g o l V) (x:Obj):Nms g o l (V.alloc x):=⟨by have:=h.1;simp;omega,fun j y hj=>(World.cell?_alloc_lt _ _ _ h.1).trans (h.2 j y hj)⟩
theorem Nms.below {g o:Nat} {l:List Value} {V W:World} (h:Nms g o l V) (hb:Below V.heap.size V W):Nms g o l W:=⟨Nat.lt_of_lt_of_le h.1 hb.size,fun j x hj=>(hb.cell (p:=⟨g,o+j,none⟩) h.1).trans (h.2 j x hj)⟩
theorem Nms.grown {g o:Nat} {l:List Value} {V W:World} {q:Option Nat} (h:Nms g o l V) (hg:V.grownBy W q) (hq:q≠some g):Nms g o l W:=⟨Nat.lt_of_lt_of_le h.1 hg.size,fun j x hj=>(World.cell?_of_block (w:=V) (hg.block g h.1 (fun e=>hq e.symm))).trans (h.2 j x hj)⟩
theorem Nms.set {g o:Nat} {l:List Value} {V:World} (h:Nms g o l V) {Q:Nat} (hne:Q≠g) (q:Nat) (u:Value):Nms g o l (V.setCell ⟨Q,q,none⟩ u):=⟨by simpa [World.setCell] using h.1,fun j x hj=>(World.cell?_setCell_other _ _ _ _ (by intro e;exact hne (congrArg Addr.block e))).trans (h.2 j x hj)⟩
def set7 (W:World) (R:Nat) (k:Bk) (v u:Value):World:=((((((W.setCell ⟨R,0,none⟩ (.int .i64 k.day)).setCell ⟨R,1,none⟩ (v)).setCell ⟨R,2,none⟩ (u)).setCell ⟨R,3,none⟩ (.int .i64 k.inn)).setCell ⟨R,4,none⟩ (.int .i64 k.out)).setCell ⟨R,5,none⟩ (.int .i64 k.posted)).setCell ⟨R,6,none⟩ (.int .i64 k.missed)
theorem grown7 (W:World) (R:Nat) (k:Bk) (v u:Value):W.grownBy (set7 W R k v u) (some R):=by
 unfold set7
 exact grown_transAcc (grown_transAcc (grown_transAcc (grown_transAcc (grown_transAcc (grown_transAcc (grown_set1Acc _ _ _ _) (grown_set1Acc _ _ _ _)) (grown_set1Acc _ _ _ _)) (grown_set1Acc _ _ _ _)) (grown_set1Acc _ _ _ _)) (grown_set1Acc _ _ _ _)) (grown_set1Acc _ _ _ _)
theorem row_apart {w w':World} {B1 B2 e1 e2 s1 s2 n1 n2:Nat} {v1 v2:Value} {x1 x2:List Value} (h1:w.ownsRow B1 e1 s1 v1 n1 x1) (h2:w.ownsRow B2 e2 s2 v2 n2 x2) (he:e1≠e2) (hg:w.grownBy w' v2.ownBlock):w'.ownsRow B1 e1 s1 v1 n1 x1:=World.ownsRow.kept h1 hg (rows_two h1 h2 he)
theorem row_away {w w':World} {B1 e1 s1 n1 R:Nat} {v1:Value} {x1:List Value} (h1:w.ownsRow B1 e1 s1 v1 n1 x1) (hg:w.grownBy w' (some R)) (hR:∀q,v1.ownBlock=some q->q≠R):w'.ownsRow B1 e1 s1 v1 n1 x1:=World.ownsRow.kept h1 hg (Or.inr (fun e=>hR R e rfl))
def Rws (B R Z:Nat) (v u:Value) (L:List Acc) (O:List Ord) (W:World):Prop:=AL W B v L/\OrdL W B u O/\(∀q,v.ownBlock=some q->q≠R/\q≠Z)/\(∀q,u.ownBlock=some q->q≠R/\q≠Z)
theorem Rws.below {B R Z:Nat} {v u:Value} {L:List Acc} {O:List Ord} {W W':World} (h:Rws B R Z v u L O W) (hb:Below W.heap.size W W'):Rws B R Z v u L O W':=⟨h.1.kept hb,h.2.1.kept hb,h.2.2⟩
theorem Rws.grown {B R Z D:Nat} {v u c:Value} {L:List Acc} {O:List Ord} {C:List Int} {W W':World} (h:Rws B R Z v u L O W) (hi:IL W D c C) (hg:W.grownBy W' c.ownBlock):Rws B R Z v u L O W':=⟨row_apart h.1 hi (by decide) hg,row_apart h.2.1 hi (by decide) hg,h.2.2⟩
def RaS (B D R Z:Nat) (v u:Value) (k:Bk) (L:List Acc) (O:List Ord) (c:Value) (C:List Int) (W:World):Prop:=BxK W R v u k/\BxZ W Z/\Rws B R Z v u L O W/\IL W D c C
theorem RaS.below {B D R Z:Nat} {v u c:Value} {k:Bk} {L:List Acc} {O:List Ord} {C:List Int} {W W':World} (h:RaS B D R Z v u k L O c C W) (hb:Below W.heap.size W W'):RaS B D R Z v u k L O c C W':=⟨h.1.kept hb h.1.2.2,h.2.1.kept hb h.2.1.2.2,h.2.2.1.below hb,h.2.2.2.kept hb⟩
theorem RaS.app {B D R Z:Nat} {v u c c':Value} {k:Bk} {L:List Acc} {O:List Ord} {C:List Int} {cd:Int} {W W':World} (h:RaS B D R Z v u k L O c C W) (hR:R<D) (hZ:Z<D) (hown:W'.ownsRow D 2 1 c' (C.length+1) (C.map (Value.int .i64)++[.int .i64 cd])) (hg:W.grownBy W' c.ownBlock):RaS B D R Z v u k L O c' (C++[cd]) W':=by
 have lt:=World.ownsRow.lt h.2.2.2
 exact ⟨h.1.same (hg.block R h.1.2.2 (fun e=>by have:=(lt R e.symm).1;omega)),h.2.1.same (hg.block Z h.2.1.2.2 (fun e=>by have:=(lt Z e.symm).1;omega)),h.2.2.1.grown h.2.2.2 hg,by unfold IL;simpa using hown⟩
theorem RaS.turn {B D R Z:Nat} {v u c v' u':Value} {k k':Bk} {L L':List Acc} {O O':List Ord} {C:List Int} {W:World} (h:RaS B D R Z v u k L O c C W) (hn:Rws B R Z v' u' L' O' W) (hR:R<D) (hne:R≠Z):RaS B D R Z v' u' k' L' O' c C (set7 W R k' v' u'):=by
 have g:=grown7 W R k' v' u'
 refine ⟨?_,h.2.1.same (g.block Z h.2.1.2.2 (fun e=>hne (Option.some.inj e).symm)),⟨row_away hn.1 g (fun q hq=>(hn.2.2.1 q hq).1),row_away hn.2.1 g (fun q hq=>(hn.2.2.2 q hq).1),hn.2.2⟩,row_away h.2.2.2 g (fun q hq=>by have:=(World.ownsRow.lt h.2.2.2 q hq).1;omega)⟩
 exact (((((((h.1.set0 _).set1 _).set2 _).set3 _).set4 _).set5 _).set6 _)
theorem OrdL.room {w:World} {B m d:Nat} {b:Option Addr} {O:List Ord} (h:OrdL w B (.slice b m d) O):O.length<=d/\((b=none/\d=0)\/∃pb po,b=some ⟨pb,po,none⟩):=by
 rcases h.2 with ⟨e,e2⟩|⟨g,cap,cur,e,_,_,h1,_⟩
 ·obtain ⟨rfl,_,rfl⟩:b=none/\m=0/\d=0:=by simpa using e
  exact ⟨by omega,Or.inl ⟨rfl,rfl⟩⟩
 ·obtain ⟨rfl,_,rfl⟩:b=some ⟨g,0,none⟩/\m=O.length/\d=cap:=by simpa using e
  exact ⟨h1,Or.inr ⟨g,0,rfl⟩⟩
theorem implOneB (B:Nat) (a b:Option Addr) (c d:Nat) (L:List Acc) (O:List Ord) (k:Bk) (oa:Option Addr) (oc:Nat) (l:List Bp) (p:Nat->Addr) (w:World) (hA:AL w B (.slice a L.length c) L) (hQ:OrdL w B (.slice b O.length d) O) (hBw:B<=w.heap.size) (hb:bankOk (FL L) L.length (OrdF O) O.length k) (ho:Bps w oa l.length (BpF l)) (hG:GE w p):
  Calls Tryz.prog 89 #[.agg #[.int .i64 k.day,.slice a L.length c,.slice b O.length d,.int .i64 k.inn,.int .i64 k.out,.int .i64 k.posted,.int .i64 k.missed],.slice oa l.length oc,.func (.func 29) #[] #[]] w fun e w'=>∃v' u' c',e=.returned (.tuple #[.agg #[.int .i64 (runB ⟨[],L,O,k⟩ l).k.day,v',u',.int .i64 (runB ⟨[],L,O,k⟩ l).k.inn,.int .i64 (runB ⟨[],L,O,k⟩ l).k.out,.int .i64 (runB ⟨[],L,O,k⟩ l).k.posted,.int .i64 (runB ⟨[],L,O,k⟩ l).k.missed],c'])/\AL w' B v' (runB ⟨[],L,O,k⟩ l).L/\OrdL w' B u' (runB ⟨[],L,O,k⟩ l).O/\IL w' w.heap.size c' (runB ⟨[],L,O,k⟩ l).c/\Below w.heap.size w w':=by
 obtain ⟨h,hh⟩:∃h,w.heap.size=h:=⟨_,rfl⟩
 have HH:=hidOf hh
 have HO:=hidOf ho
 have HB:Hid (∀j,(runB ⟨[],L,O,k⟩ (l.take j)).ok):=fun j=>runB_ok _ _ hb
 have HT:Hid (∀j,j<l.length->runB ⟨[],L,O,k⟩ (l.take (j+1))=stepB (runB ⟨[],L,O,k⟩ (l.take j)) (BpF l j)):=fun j hj=>runB_take _ l j hj
 have HLN:Hid (∀j,j<=l.length->(runB ⟨[],L,O,k⟩ (l.take j)).c.length=j):=fun j hj=>by rw[runB_len];simp;omega
 have HE:Hid (l.take l.length=l):=List.take_length
 have HZ:Hid (runB ⟨[],L,O,k⟩ (l.take 0)=⟨[],L,O,k⟩):=rfl
 have hn:=ho.1
 obtain ⟨i0,hi,hz0,hz1,hz2⟩:=info_parts info2
 have HG:=hidOf hG
 have HBW:Hid (B<=h):=by rw[←hh];exact hBw
 obtain ⟨W0,hW0,X0⟩:∃W0,W0=(w.alloc (.cells #[.int .i64 k.day,.slice a L.length c,.slice b O.length d,.int .i64 k.inn,.int .i64 k.out,.int .i64 k.posted,.int .i64 k.missed] 38)).alloc (.cells #[.int .i64 0,.slice none 0 0,.slice none 0 0,.int .i64 0,.int .i64 0,.int .i64 0,.int .i64 0] 38)/\Hid (RaS B (h+1+1) h (h+1) (.slice a L.length c) (.slice b O.length d) k L O (.slice none 0 0) [] W0/\Below h w W0/\h+1+1<=W0.heap.size):=by
  have b1:∀(V:World) (o:Obj),Below V.heap.size V (V.alloc o):=fun V o=>(Below.refl _ _).alloc (Nat.le_refl _) _
  have v0:=(Box7.new w (.int .i64 k.day) (.slice a L.length c) (.slice b O.length d) (.int .i64 k.inn) (.int .i64 k.out) (.int .i64 k.posted) (.int .i64 k.missed) 38).kept (b1 _ (.cells #[.int .i64 0,.slice none 0 0,.slice none 0 0,.int .i64 0,.int .i64 0,.int .i64 0,.int .i64 0] 38)) (by simp)
  have v1:=Box7.new (w.alloc (.cells #[.int .i64 k.day,.slice a L.length c,.slice b O.length d,.int .i64 k.inn,.int .i64 k.out,.int .i64 k.posted,.int .i64 k.missed] 38)) (.int .i64 0) (.slice none 0 0) (.slice none 0 0) (.int .i64 0) (.int .i64 0) (.int .i64 0) (.int .i64 0) 38
  simp only[World.size_alloc] at v1
  rw[hh] at v0 v1
  have bb:Below w.heap.size w ((w.alloc (.cells #[.int .i64 k.day,.slice a L.length c,.slice b O.length d,.int .i64 k.inn,.int .i64 k.out,.int .i64 k.posted,.int .i64 k.missed] 38)).alloc (.cells #[.int .i64 0,.slice none 0 0,.slice none 0 0,.int .i64 0,.int .i64 0,.int .i64 0,.int .i64 0] 38)):=((Below.refl _ _).alloc (Nat.le_refl _) _).alloc (by simp) _
  exact ⟨_,rfl,⟨v0,v1,⟨hA.kept bb,hQ.kept bb,fun q hq=>by have:=(World.ownsRow.lt hA q hq).2;omega,fun q hq=>by have:=(World.ownsRow.lt hQ q hq).2;omega⟩,IL.nil _ _⟩,by rw[←hh];exact bb,by simp;omega⟩
 have HW0:=hidOf hW0
 clear ho hG hA hQ hb hBw hW0
 obtain ⟨m1,hm1⟩:∃m,L.length=m:=⟨_,rfl⟩
 obtain ⟨m2,hm2⟩:∃m,O.length=m:=⟨_,rfl⟩
 generalize hnn:l.length=nl at*
 clear hnn
 have X0':Hid (RaS B (h+1+1) h (h+1) (.slice a m1 c) (.slice b m2 d) k L O (.slice none 0 0) [] W0/\Below h w W0/\h+1+1<=W0.heap.size):=by rw[←hm1,←hm2];exact X0.out
 rw[hm1,hm2] at HW0
 rw[hm1,hm2]
 clear X0 hm1 hm2
 generalize runB ⟨[],L,O,k⟩=f at*
 go_enter Tryz.func89,Tryz.ntmps89
 go_upto_region 1 with fail
 rw[←HW0.out]
 clear HW0 hh
 go_wp2
 go_loopw[8,15] (fun cv q wr=>∃(j:Nat) (v u:Value),j<=nl/\q=.int .i64 j/\Hid (RaS B (h+1+1) h (h+1) v u (f (l.take j)).k (f (l.take j)).L (f (l.take j)).O cv (f (l.take j)).c wr/\Below h w wr/\h+1+1<=wr.heap.size)) (fun _ q _=>nl-(intOf q).toNat)
 case atStart=>exact ⟨0,_,_,Nat.zero_le _,rfl,by rw[HZ.out];exact X0'⟩
 case round=>
  obtain ⟨j,v,u,hj,rfl,X1⟩:=hrel
  clear X0'
  have BL:Hid (Below h w wr):=X1.out.2.1
  by_cases hlt:j<nl
  ·skip
   obtain ⟨b0,o0,rfl,hb0,hA0⟩:=HO.out.acc hlt
   have hT:=HT.out j hlt
   have hBk:=HB.out j
   have hLk:=HLN.out j hj
   cases hx:BpF l j with
   | mk K x o n=>
   rw[hx] at hA0 hT
   obtain ⟨dd0,dd1,dd2,dd3,dd4,dd5,dd6,dd7,dd8,dd9,dd10,dd11,dd12,dd13⟩:=hA0.of_cells (w':=wr) (fun q=>BL.out.cell (p:=⟨b0,q,none⟩) (by first|exact hb0|(rw[←HH.out];exact hb0)))
   clear hA0 hx
   obtain ⟨s,hs⟩:∃s,s=f (l.take j):=⟨_,rfl⟩
   rw[←hs] at X1 hT hBk hLk
   obtain ⟨C,M,P,kk⟩:=s
   have hml:M.length<=12:=hBk.2.1.1
   have hpl:P.length<=8:=hBk.2.2.1.1
   obtain ⟨D,hD⟩:∃D,D=ranAny M P kk K x o n:=⟨_,rfl⟩
   have HT1:Hid (f (l.take (j+1))=⟨C++[D.code],D.L,D.O,D.k⟩):=by
    show f (l.take (j+1))=_
    rw[hT,hD]
    rfl
   have DI:Hid (∀X a' b' c' d',Fo X a' M.length (FL M)->Ords X b' P.length (OrdF P)->GE X p->Calls Tryz.prog 29 #[.agg #[.int .i64 kk.day,.slice a' M.length c',.slice b' P.length d',.int .i64 kk.inn,.int .i64 kk.out,.int .i64 kk.posted,.int .i64 kk.missed],.agg #[.int .i64 K,.int .i64 x.k,.int .i64 x.i,.int .i64 x.t,.int .i64 x.m,.int .i64 x.r,.int .i64 o.id,.int .i64 o.src,.int .i64 o.dst,.int .i64 o.amount,.int .i64 o.first,.int .i64 o.every,.int .i64 o.times,.int .i64 n]] X fun e w'=>RanOut D X e w'):=fun X a' b' c' d' h1 h2 h3=>by rw[hD];exact implRan a' b' c' d' M P kk K n x o p X h1 h2 h3
   obtain ⟨cd,G,Q,kd⟩:=D
   clear hT hD hs hBk
   dsimp only at X1 hLk HT1 DI
   obtain ⟨a1,c1,hv⟩:=X1.out.1.2.2.1.1.len
   subst hv
   obtain ⟨b1,d1,hv⟩:=X1.out.1.2.2.1.2.1.len
   subst hv
   obtain ⟨ac,mc,hv,_⟩:=X1.out.1.2.2.2.shape
   subst hv
   rw[hLk] at X1 ⊢
   have HLK:=hidOf hLk
   clear hLk
   obtain ⟨W,hW⟩:∃W,W=wr.alloc (.cells #[.int .i64 K,.int .i64 x.k,.int .i64 x.i,.int .i64 x.t,.int .i64 x.m,.int .i64 x.r,.int .i64 o.id,.int .i64 o.src,.int .i64 o.dst,.int .i64 o.amount,.int .i64 o.first,.int .i64 o.every,.int .i64 o.times,.int .i64 n] 51):=⟨_,rfl⟩
   have XW:Hid (RaS B (h+1+1) h (h+1) (.slice a1 M.length c1) (.slice b1 P.length d1) kk M P (.slice ac j mc) C W/\Below h w W/\h+1+1<=W.heap.size):=by
    have hb:Below wr.heap.size wr W:=by rw[hW];exact (Below.refl _ _).alloc (Nat.le_refl _) _
    exact ⟨X1.out.1.below hb,X1.out.2.1.trans (hb.mono (by have:=X1.out.2.2;omega)),Nat.le_trans X1.out.2.2 hb.size⟩
   have OW:Hid (Bx14 W wr.heap.size K x o n):=by rw[hW];exact Bx14.new wr K x o n 51
   have FW:Hid (Fo W a1 M.length (FL M)/\Ords W b1 P.length (OrdF P)/\GE W p):=⟨(XW.out.1.2.2.1.1.fo (by omega)).2,(XW.out.1.2.2.1.2.1.list (by omega)).2,HG.out.below (by rw[HH.out];exact XW.out.2.1)⟩
   have HW:=hidOf hW
   obtain ⟨rw0,hrw⟩:∃r,wr.heap.size=r:=⟨_,rfl⟩
   rw[hrw] at OW
   clear hW X1
   go_upto_region 5 with fail
   rw[←HW.out]
   try rw[hrw]
   clear HW BL dd0 dd1 dd2 dd3 dd4 dd5 dd6 dd7 dd8 dd9 dd10 dd11 dd12 dd13
   obtain ⟨m1',hm1⟩:∃m,M.length=m:=⟨_,rfl⟩
   obtain ⟨m2',hm2⟩:∃m,P.length=m:=⟨_,rfl⟩
   rw[hm1,hm2] at XW FW DI
   try rw[hm1,hm2]
   clear hm1 hm2 hml hpl
   obtain ⟨⟨dd0,dd1,dd2,dd3,dd4,dd5,dd6,dd7,dd8,dd9,dd10,dd11,dd12,dd13⟩,dz⟩:=OW.out
   obtain ⟨⟨s0,s1,s2,s3,s4,s5,s6⟩,sf,sz⟩:=XW.out.1.1
   go_wp2_with fail
   refine (DI.out W a1 b1 c1 d1 FW.out.1 FW.out.2.1 FW.out.2.2).mono ?_
   rintro e w5 ⟨v5,u5,rfl,A5,Q5,B5⟩
   clear dd0 dd1 dd2 dd3 dd4 dd5 dd6 dd7 dd8 dd9 dd10 dd11 dd12 dd13 dz DI FW OW hrw
   clear s0 s1 s2 s3 s4 s5 s6 sf sz
   obtain ⟨a5,c5,hv⟩:=A5.len
   subst hv
   obtain ⟨b5,d5,hv⟩:=Q5.len
   subst hv
   obtain ⟨g1,hg1⟩:∃m,G.length=m:=⟨_,rfl⟩
   obtain ⟨g2,hg2⟩:∃m,Q.length=m:=⟨_,rfl⟩
   obtain ⟨V,hV⟩:∃V,V=w5.alloc (.cells #[.int .i64 kd.day,.slice a5 G.length c5,.slice b5 Q.length d5,.int .i64 kd.inn,.int .i64 kd.out,.int .i64 kd.posted,.int .i64 kd.missed] 38):=⟨_,rfl⟩
   have XV:Hid (RaS B (h+1+1) h (h+1) (.slice a1 m1' c1) (.slice b1 m2' d1) kk M P (.slice ac j mc) C V/\Below h w V/\h+1+1<=V.heap.size/\Rws B h (h+1) (.slice a5 G.length c5) (.slice b5 Q.length d5) G Q V/\Nms w5.heap.size 0 [.int .i64 kd.day,.slice a5 G.length c5,.slice b5 Q.length d5,.int .i64 kd.inn,.int .i64 kd.out,.int .i64 kd.posted,.int .i64 kd.missed] V/\h+1+1<=w5.heap.size/\(∀q,(Value.slice ac j mc).ownBlock=some q->h+1+1<=q/\q≠w5.heap.size)):=by
    have hb:Below w5.heap.size w5 V:=by rw[hV];exact (Below.refl _ _).alloc (Nat.le_refl _) _
    have hs5:h+1+1<=w5.heap.size:=Nat.le_trans XW.out.2.2 B5.size
    have x5:=XW.out.1.below B5
    have nb:BxK V w5.heap.size (.slice a5 G.length c5) (.slice b5 Q.length d5) kd:=by rw[hV];exact Box7.new w5 _ _ _ _ _ _ _ 38
    have hBW:B<=W.heap.size:=by have:=HBW.out;have:=XW.out.2.2;omega
    refine ⟨x5.below hb,(XW.out.2.1.trans (B5.mono (by have:=XW.out.2.2;omega))).trans (hb.mono (by omega)),Nat.le_trans hs5 hb.size,⟨(A5.kept hb).mono hBW,(Q5.kept hb).mono hBW,fun q hq=>by have:=(World.ownsRow.lt A5 q hq).1;have:=XW.out.2.2;omega,fun q hq=>by have:=(World.ownsRow.lt Q5 q hq).1;have:=XW.out.2.2;omega⟩,⟨nb.2.2,fun i y hi=>?_⟩,hs5,fun q hq=>by have:=World.ownsRow.lt x5.2.2.2 q hq;omega⟩
    match i,hi with
    | 0,hi=>simp at hi;subst hi;simpa using nb.1.1
    | 1,hi=>simp at hi;subst hi;simpa using nb.1.2.1
    | 2,hi=>simp at hi;subst hi;simpa using nb.1.2.2.1
    | 3,hi=>simp at hi;subst hi;simpa using nb.1.2.2.2.1
    | 4,hi=>simp at hi;subst hi;simpa using nb.1.2.2.2.2.1
    | 5,hi=>simp at hi;subst hi;simpa using nb.1.2.2.2.2.2.1
    | 6,hi=>simp at hi;subst hi;simpa using nb.1.2.2.2.2.2.2
   have HV:=hidOf hV
   clear hV XW A5 Q5 B5
   rw[hg1,hg2] at XV HV
   try rw[hg1,hg2]
   have hll:j<=1048576:=by omega
   obtain ⟨r5,hr5⟩:∃r,w5.heap.size=r:=⟨_,rfl⟩
   rw[hr5] at XV
   go_upto_region 6 with fail
   rw[←HV.out]
   try rw[hr5]
   clear HV hr5 hg1 hg2
   have XD:Hid (RaS B (h+1+1) h (h+1) (.slice a1 m1' c1) (.slice b1 m2' d1) kk M P (.slice ac j mc) C V.drew/\Below h w V.drew/\h+1+1<=V.drew.heap.size/\Rws B h (h+1) (.slice a5 g1 c5) (.slice b5 g2 d5) G Q V.drew):=⟨XV.out.1,XV.out.2.1.drew,XV.out.2.2.1,XV.out.2.2.2.1⟩
   have hbv:Hid (h+1+1<=r5/\∀q,(Value.slice ac j mc).ownBlock=some q->h+1+1<=q/\q≠r5):=XV.out.2.2.2.2.2
   refine wp_region_held_drew (S:=Nms r5 0 [.int .i64 kd.day,.slice a5 g1 c5,.slice b5 g2 d5,.int .i64 kd.inn,.int .i64 kd.out,.int .i64 kd.posted,.int .i64 kd.missed]) (by kernel_rfl) XV.out.2.2.2.2.1 (fun hHeld=>?_)
   clear XV
   generalize V.drew=V3 at hHeld XD ⊢
   refine wpAnyH_take (i := 0) (oi := { dst := some 26, op := Op.load 38 (Operand.tmp 11), type := 38, pos := "l03_ops.go:374", after := #[], guard := none }) (v := ?_) rfl (by kernel_rfl) (by kernel_rfl) (by kernel_rfl) (fun _ _ _ h => h) (Or.inl ⟨by rfl, ?_⟩) hHeld ?_
   rotate_left
   ·intro wq hSw
    have y0:=hSw.2 0 _ rfl
    have y1:=hSw.2 1 _ rfl
    have y2:=hSw.2 2 _ rfl
    have y3:=hSw.2 3 _ rfl
    have y4:=hSw.2 4 _ rfl
    have y5:=hSw.2 5 _ rfl
    have y6:=hSw.2 6 _ rfl
    simp only[Nat.zero_add] at y0 y1 y2 y3 y4 y5 y6
    go_simp
    all_goals (with_reducible rfl)
   (try simp only[Act.put,List.setIfInBounds_toArray,List.set_cons_zero,List.set_cons_succ])
   refine wpAnyH_take (i := 1) (oi := { dst := some 27, op := Op.move (Operand.tmp 8), type := 31, pos := "l03_ops.go:374", after := #[], guard := none }) (v := ?_) rfl (by kernel_rfl) (by kernel_rfl) (by kernel_rfl) (fun _ _ _ h => h) (Or.inl ⟨by rfl, ?_⟩) hHeld ?_
   rotate_left
   ·intro wq hSw
    go_simp
    all_goals (with_reducible rfl)
   (try simp only[Act.put,List.setIfInBounds_toArray,List.set_cons_zero,List.set_cons_succ])
   refine wpAnyH_take (i := 2) (oi := { dst := some 28, op := Op.move (Operand.tmp 12), type := 2, pos := "l03_ops.go:374", after := #[], guard := none }) (v := ?_) rfl (by kernel_rfl) (by kernel_rfl) (by kernel_rfl) (fun _ _ _ h => h) (Or.inl ⟨by rfl, ?_⟩) hHeld ?_
   rotate_left
   ·intro wq hSw
    go_simp
    all_goals (with_reducible rfl)
   (try simp only[Act.put,List.setIfInBounds_toArray,List.set_cons_zero,List.set_cons_succ])
   refine wpAnyH_ready (rs:=[3]) (by kernel_rfl) (by simp) ?_
   refine AllReadyH.cons (o := { dst := some 29, op := Op.buildSlice 31 1 #[(0, Operand.tmp 28)], type := 31, pos := "l03_ops.go:374", after := #[{ on := 2, ground := Ground.data }], guard := none }) rfl (fun K' hK => ?_) AllReadyH.nil
   go_simp
   obtain ⟨V4,hV4,X4⟩:∃V,V=V3.alloc (.cells #[.int .i64 cd] 2)/\Hid (RaS B (h+1+1) h (h+1) (.slice a1 m1' c1) (.slice b1 m2' d1) kk M P (.slice ac j mc) C V/\Below h w V/\h+1+1<=V.heap.size/\Rws B h (h+1) (.slice a5 g1 c5) (.slice b5 g2 d5) G Q V/\Vals V V3.heap.size [.int .i64 cd]):=by
    have hb:Below V3.heap.size V3 (V3.alloc (.cells #[.int .i64 cd] 2)):=(Below.refl _ _).alloc (Nat.le_refl _) _
    exact ⟨_,rfl,XD.out.1.below hb,XD.out.2.1.trans (hb.mono (by have:=XD.out.2.2.1;omega)),Nat.le_trans XD.out.2.2.1 hb.size,XD.out.2.2.2.below hb,Vals.new V3 [.int .i64 cd] 2⟩
   have HV4:=hidOf hV4
   clear hV4
   refine hK.out _ _ (hHeld.alloc _) (fun hHeld=>?_)
   rw[←HV4.out] at hHeld
   rw[←HV4.out]
   clear hK XD HV4
   obtain ⟨r4,hr4⟩:∃r,V3.heap.size=r:=⟨_,rfl⟩
   try rw[hr4]
   rw[hr4] at X4
   clear hr4
   (try simp only[Act.put,List.setIfInBounds_toArray,List.set_cons_zero,List.set_cons_succ])
   refine wpAnyH_ready (rs:=[4]) (by kernel_rfl) (by simp) ?_
   refine AllReadyH.cons (o := { dst := some 30, op := Op.call { callee := Callee.builtin Builtin.append, args := #[Operand.tmp 27, Operand.tmp 29], argTypes := #[31, 31] }, type := 31, pos := "l03_ops.go:374", after := #[{ on := 1, ground := Ground.data }, { on := 3, ground := Ground.data }], guard := none }) rfl (fun K' hK => ?_) AllReadyH.nil
   refine step_append_own _ (by rfl) _ _ 31 (by rfl) (h+1+1) 2 i0 (.int .i64 0) 1 8 Tryz.underlying31 hi hz0 hz1 hz2 rfl (by decide) _ _ _ (by rfl) (by have:=X4.out.1.2.2.2;unfold IL at this;exact this) ⟨r4,0,none⟩ 1 1 [.int .i64 cd] (by rfl) rfl (fun i y hi=>by
    match i,hi with
    | 0,hi=>simp at hi;subst hi;simpa [Addr.add] using X4.out.2.2.2.2.1 0 _ rfl) (fun y hy=>by simp at hy;subst hy;rfl) (by rw[HLK.out];unfold maxLen;omega) (by rw[HLK.out];omega) X4.out.2.2.1 ?_
   intro c6 w6 hown hgrow
   have X6:Hid (RaS B (h+1+1) h (h+1) (.slice a1 m1' c1) (.slice b1 m2' d1) kk M P c6 (C++[cd]) w6/\Below h w w6/\h+1+1<=w6.heap.size/\Rws B h (h+1) (.slice a5 g1 c5) (.slice b5 g2 d5) G Q w6):=⟨X4.out.1.app (by omega) (by omega) hown hgrow,X4.out.2.1.grown hgrow (by have:=X4.out.2.2.1;omega) (fun q hq=>by have:=(hbv.out.2 q hq).1;omega),Nat.le_trans X4.out.2.2.1 hgrow.size,X4.out.2.2.2.1.grown X4.out.1.2.2.2 hgrow⟩
   have N6:Nms r5 0 [.int .i64 kd.day,.slice a5 g1 c5,.slice b5 g2 d5,.int .i64 kd.inn,.int .i64 kd.out,.int .i64 kd.posted,.int .i64 kd.missed] w6:=hHeld.grown hgrow (fun e=>(hbv.out.2 r5 e).2 rfl)
   clear hown hgrow hHeld X4
   refine hK.out _ _ N6 (fun hHeld=>?_)
   clear hK N6
   (try simp only[Act.put,List.setIfInBounds_toArray,List.set_cons_zero,List.set_cons_succ])
   refine wpAnyH_ready (rs:=[5]) (by kernel_rfl) (by simp) ?_
   refine AllReadyH.cons (o := { dst := none, op := Op.store 38 (Operand.tmp 3) (Operand.tmp 26), type := 0, pos := "l03_ops.go:374", after := #[{ on := 0, ground := Ground.data }, { on := 4, ground := Ground.chain }, { on := 0, ground := Ground.phase }, { on := 1, ground := Ground.textOnly Departure.lateStores }, { on := 2, ground := Ground.textOnly Departure.lateStores }, { on := 3, ground := Ground.textOnly Departure.lateStores }, { on := 4, ground := Ground.textOnly Departure.lateStoresUnsure }], guard := none }) rfl (fun K' hK => ?_) AllReadyH.nil
   obtain ⟨⟨s0,s1,s2,s3,s4,s5,s6⟩,sf,sz⟩:=X6.out.1.1
   go_simp
   refine hK.out _ _ ?_ (fun hHeld=>?_)
   ·have hne:h≠r5:=by have:=hbv.out.1;omega
    exact ((((((hHeld.set hne _ _).set hne _ _).set hne _ _).set hne _ _).set hne _ _).set hne _ _).set hne _ _
   clear hK
   (try simp only[Act.put,List.setIfInBounds_toArray,List.set_cons_zero,List.set_cons_succ])
   refine wpAnyH_ready (rs:=[6]) (by kernel_rfl) (by simp) ?_
   refine AllReadyH.cons (o := { dst := some 8, op := Op.assign (Operand.tmp 30), type := 31, pos := "l03_ops.go:374", after := #[{ on := 4, ground := Ground.data }, { on := 5, ground := Ground.chain }, { on := 0, ground := Ground.phase }, { on := 1, ground := Ground.phase }, { on := 2, ground := Ground.phase }, { on := 3, ground := Ground.phase }, { on := 4, ground := Ground.phase }, { on := 5, ground := Ground.phase }], guard := none }) rfl (fun K' hK => ?_) AllReadyH.nil
   obtain ⟨a6,e6,hv6,_⟩:=X6.out.1.2.2.2.shape
   subst hv6
   obtain ⟨m6,hm6⟩:∃m,(C++[cd]).length=m:=⟨_,rfl⟩
   rw[hm6] at X6
   simp only[hm6]
   clear hm6
   go_simp
   refine hK.out _ _ hHeld (fun hHeld=>?_)
   clear hK
   (try simp only[Act.put,List.setIfInBounds_toArray,List.set_cons_zero,List.set_cons_succ])
   refine wpAnyH_done (by kernel_rfl) ?_ _
   have X7:Hid (RaS B (h+1+1) h (h+1) (.slice a5 g1 c5) (.slice b5 g2 d5) (f (l.take (j+1))).k (f (l.take (j+1))).L (f (l.take (j+1))).O (.slice a6 m6 e6) (f (l.take (j+1))).c (set7 w6 h kd (.slice a5 g1 c5) (.slice b5 g2 d5))/\Below h w (set7 w6 h kd (.slice a5 g1 c5) (.slice b5 g2 d5))/\h+1+1<=(set7 w6 h kd (.slice a5 g1 c5) (.slice b5 g2 d5)).heap.size):=by
    rw[HT1.out]
    have g:=grown7 w6 h kd (.slice a5 g1 c5) (.slice b5 g2 d5)
    exact ⟨X6.out.1.turn X6.out.2.2.2 (by omega) (by omega),X6.out.2.1.grown g (by have:=X6.out.2.2.1;omega) (fun q hq=>by simp at hq;omega),Nat.le_trans X6.out.2.2.1 g.size⟩
   clear X6 hHeld hbv
   clear s0 s1 s2 s3 s4 s5 s6 sf sz
   go_wp2
   go_roundw
   case rel=>exact ⟨j+1,_,_,by omega,by go_num,X7⟩
   case measure=>simp[intOf];omega
  ·skip
   have hjn:j=nl:=by omega
   subst hjn
   rw[HE.out] at X1
   obtain ⟨s,hs⟩:∃s,s=f l:=⟨_,rfl⟩
   rw[←hs] at X1
   obtain ⟨C,M,P,kk⟩:=s
   have HSF:Hid (f l=⟨C,M,P,kk⟩):=hs.symm
   clear hs
   dsimp only at X1
   obtain ⟨a1,c1,hv⟩:=X1.out.1.2.2.1.1.len
   subst hv
   obtain ⟨b1,d1,hv⟩:=X1.out.1.2.2.1.2.1.len
   subst hv
   obtain ⟨ac,mc,hv,_⟩:=X1.out.1.2.2.2.shape
   subst hv
   obtain ⟨m1',hm1⟩:∃m,M.length=m:=⟨_,rfl⟩
   obtain ⟨m2',hm2⟩:∃m,P.length=m:=⟨_,rfl⟩
   obtain ⟨m3',hm3⟩:∃m,C.length=m:=⟨_,rfl⟩
   rw[hm1,hm2,hm3] at X1
   try rw[hm3]
   clear hm1 hm2 hm3 BL
   obtain ⟨⟨s0,s1,s2,s3,s4,s5,s6⟩,sf,sz⟩:=X1.out.1.1
   obtain ⟨⟨rr0,rr1,rr2,rr3,rr4,rr5,rr6⟩,rrf,rrz⟩:=X1.out.1.2.1
   have nh:¬h=h+1:=by omega
   have nh':¬h+1=h:=by omega
   go_wp2
   refine bodyPost_ret (v:=.tuple #[.agg #[.int .i64 kk.day,.slice a1 m1' c1,.slice b1 m2' d1,.int .i64 kk.inn,.int .i64 kk.out,.int .i64 kk.posted,.int .i64 kk.missed],.slice ac m3' mc]) (by simp[results,Tryz.results89,go_sem,rr0,rr1,rr2,rr3,rr4,rr5,rr6]) rfl ?_
   have g:=grown7 wr (h+1) kk (.slice a1 m1' c1) (.slice b1 m2' d1)
   have y:=X1.out.1
   rw[HSF.out]
   dsimp only
   refine ⟨_,_,_,rfl,row_away y.2.2.1.1 g (fun q hq=>(y.2.2.1.2.2.1 q hq).2),row_away y.2.2.1.2.1 g (fun q hq=>(y.2.2.1.2.2.2 q hq).2),(IL.mono (row_away y.2.2.2 g (fun q hq=>by have:=(World.ownsRow.lt y.2.2.2 q hq).1;omega)) (by rw[HH.out];omega)),?_⟩
   rw[HH.out]
   exact X1.out.2.1.grown g (by have:=X1.out.2.2;omega) (fun q hq=>by simp at hq;omega)
open Go.RowKit
set_option maxRecDepth 8000
def AllOut (r:RA) (w:World) (e:Ending) (w':World):Prop:=∃v u c,e=.returned (.tuple #[.agg #[.int .i64 r.k.day,v,u,.int .i64 r.k.inn,.int .i64 r.k.out,.int .i64 r.k.posted,.int .i64 r.k.missed],c])/\AL w' w.heap.size v r.L/\OrdL w' w.heap.size u r.O/\IL w' w.heap.size c r.c/\Below w.heap.size w w'
theorem implAllB_no (a b:Option Addr) (c d:Nat) (L:List Acc) (O:List Ord) (k:Bk) (oa:Option Addr) (oc:Nat) (l:List Bp) (w:World) (hF:Fo w a L.length (FL L)) (hO:Ords w b O.length (OrdF O)) (ho:Bps w oa l.length (BpF l)) (hno:¬(bankOk (FL L) L.length (OrdF O) O.length k/\l.length<=100)):Calls Tryz.prog 33 #[.agg #[.int .i64 k.day,.slice a L.length c,.slice b O.length d,.int .i64 k.inn,.int .i64 k.out,.int .i64 k.posted,.int .i64 k.missed],.slice oa l.length oc] w fun e w'=>AllOut ⟨[],[],[],⟨0,0,0,0,0⟩⟩ w e w':=by
 have hon:=ho.1
 obtain ⟨h,hh⟩:∃h,w.heap.size=h:=⟨_,rfl⟩
 have HH:=hidOf hh
 have HF:=hidOf hF
 have HQ:=hidOf hO
 have HO:=hidOf ho
 obtain ⟨W0,hW0,X0⟩:∃W0,W0=(w.alloc (.cells #[.int .i64 k.day,.slice a L.length c,.slice b O.length d,.int .i64 k.inn,.int .i64 k.out,.int .i64 k.posted,.int .i64 k.missed] 38)).alloc (.cells #[.int .i64 0,.slice none 0 0,.slice none 0 0,.int .i64 0,.int .i64 0,.int .i64 0,.int .i64 0] 38)/\Hid (BxK W0 h (.slice a L.length c) (.slice b O.length d) k/\BxZ W0 (h+1)/\Below h w W0/\h+1+1<=W0.heap.size):=by
  have b1:∀(V:World) (o:Obj),Below V.heap.size V (V.alloc o):=fun V o=>(Below.refl _ _).alloc (Nat.le_refl _) _
  have v0:=(Box7.new w (.int .i64 k.day) (.slice a L.length c) (.slice b O.length d) (.int .i64 k.inn) (.int .i64 k.out) (.int .i64 k.posted) (.int .i64 k.missed) 38).kept (b1 _ (.cells #[.int .i64 0,.slice none 0 0,.slice none 0 0,.int .i64 0,.int .i64 0,.int .i64 0,.int .i64 0] 38)) (by simp)
  have v1:=Box7.new (w.alloc (.cells #[.int .i64 k.day,.slice a L.length c,.slice b O.length d,.int .i64 k.inn,.int .i64 k.out,.int .i64 k.posted,.int .i64 k.missed] 38)) (.int .i64 0) (.slice none 0 0) (.slice none 0 0) (.int .i64 0) (.int .i64 0) (.int .i64 0) (.int .i64 0) 38
  simp only[World.size_alloc] at v1
  rw[hh] at v0 v1
  exact ⟨_,rfl,v0,v1,by rw[←hh];exact ((Below.refl _ _).alloc (Nat.le_refl _) _).alloc (by simp) _,by simp;omega⟩
 have HW0:=hidOf hW0
 clear hF hO ho hW0
 have LEB:Hid (∀{V W:World},Below h w V->Below V.heap.size V W->Below h w W):=fun {V W} p q=>p.trans (q.mono (by have:=p.size;rw[HH.out] at this;exact this))
 have LF:Hid (∀{V:World},Below h w V->Fo V a L.length (FL L)/\Ords V b O.length (OrdF O)/\Bps V oa l.length (BpF l)):=fun {V} p=>by
  rw[←HH.out] at p
  exact ⟨HF.out.below p,HQ.out.below p,HO.out.below p⟩
 obtain ⟨ll,hll⟩:∃n,l.length=n:=⟨_,rfl⟩
 have HNO:Hid (¬(bankOk (FL L) L.length (OrdF O) O.length k/\ll<=100)):=by rw[←hll];exact hno
 rw[hll] at HO LF hon
 rw[hll]
 clear hno hll
 go_enter Tryz.func33,Tryz.ntmps33
 go_upto_region 1 with fail
 rw[←HW0.out]
 clear HW0 hh
 obtain ⟨⟨s0,s1,s2,s3,s4,s5,s6⟩,sf,sz⟩:=X0.out.1
 go_wp2_with fail
 refine (implBank a b L.length c O.length d (FL L) (OrdF O) k _ (LF.out X0.out.2.2.1).1 (LF.out X0.out.2.2.1).2.1).mono ?_
 rintro e w1 ⟨⟨bb,rfl,hb1,hb2⟩,B1⟩
 have R1:=hidOf (X0.out.2.1.kept B1 X0.out.2.1.2.2)
 have BB1:Hid (Below h w w1):=LEB.out X0.out.2.2.1 B1
 clear s0 s1 s2 s3 s4 s5 s6 sf sz
 cases bb with
 | true=>
  have h100:¬ll<=100:=fun e=>HNO.out ⟨hb1 rfl,e⟩
  have g1:decide ((ll:Int)>100)=true:=by simp;omega
  have g2:decide (100<(ll:Int))=true:=by simp;omega
  clear hb1 hb2 B1 X0 HNO HF HQ HO LF LEB
  obtain ⟨⟨r0,r1,r2,r3,r4,r5,r6⟩,rf,rz⟩:=R1.out
  go_wp2
  refine bodyPost_ret (v:=.tuple #[.agg #[.int .i64 0,.slice none 0 0,.slice none 0 0,.int .i64 0,.int .i64 0,.int .i64 0,.int .i64 0],.slice none 0 0]) (by simp[results,Tryz.results33,go_sem,r0,r1,r2,r3,r4,r5,r6]) rfl ⟨.slice none 0 0,.slice none 0 0,.slice none 0 0,rfl,AL.nil' _ _,OrdL.nil _ _,IL.nil _ _,?_⟩
  rw[HH.out]
  repeat (refine below_far ?_ (by omega) _ _)
  exact BB1.out
 | false=>
  clear hb1 hb2 B1 X0 HNO HF HQ HO LF LEB
  obtain ⟨⟨r0,r1,r2,r3,r4,r5,r6⟩,rf,rz⟩:=R1.out
  go_wp2
  refine bodyPost_ret (v:=.tuple #[.agg #[.int .i64 0,.slice none 0 0,.slice none 0 0,.int .i64 0,.int .i64 0,.int .i64 0,.int .i64 0],.slice none 0 0]) (by simp[results,Tryz.results33,go_sem,r0,r1,r2,r3,r4,r5,r6]) rfl ⟨.slice none 0 0,.slice none 0 0,.slice none 0 0,rfl,AL.nil' _ _,OrdL.nil _ _,IL.nil _ _,?_⟩
  rw[HH.out]
  repeat (refine below_far ?_ (by omega) _ _)
  exact BB1.out
theorem implAllB_yes (a b:Option Addr) (c d:Nat) (L:List Acc) (O:List Ord) (k:Bk) (oa:Option Addr) (oc:Nat) (l:List Bp) (p:Nat->Addr) (w:World) (hF:Fo w a L.length (FL L)) (hO:Ords w b O.length (OrdF O)) (ho:Bps w oa l.length (BpF l)) (hG:GE w p) (hb:bankOk (FL L) L.length (OrdF O) O.length k) (h100:l.length<=100):Calls Tryz.prog 33 #[.agg #[.int .i64 k.day,.slice a L.length c,.slice b O.length d,.int .i64 k.inn,.int .i64 k.out,.int .i64 k.posted,.int .i64 k.missed],.slice oa l.length oc] w fun e w'=>AllOut (runB ⟨[],L,O,k⟩ l) w e w':=by
 have HG:=hidOf hG
 have HB:=hidOf hb
 have hon:=ho.1
 obtain ⟨h,hh⟩:∃h,w.heap.size=h:=⟨_,rfl⟩
 have HH:=hidOf hh
 have HF:=hidOf hF
 have HQ:=hidOf hO
 have HO:=hidOf ho
 obtain ⟨W0,hW0,X0⟩:∃W0,W0=(w.alloc (.cells #[.int .i64 k.day,.slice a L.length c,.slice b O.length d,.int .i64 k.inn,.int .i64 k.out,.int .i64 k.posted,.int .i64 k.missed] 38)).alloc (.cells #[.int .i64 0,.slice none 0 0,.slice none 0 0,.int .i64 0,.int .i64 0,.int .i64 0,.int .i64 0] 38)/\Hid (BxK W0 h (.slice a L.length c) (.slice b O.length d) k/\BxZ W0 (h+1)/\Below h w W0/\h+1+1<=W0.heap.size):=by
  have b1:∀(V:World) (o:Obj),Below V.heap.size V (V.alloc o):=fun V o=>(Below.refl _ _).alloc (Nat.le_refl _) _
  have v0:=(Box7.new w (.int .i64 k.day) (.slice a L.length c) (.slice b O.length d) (.int .i64 k.inn) (.int .i64 k.out) (.int .i64 k.posted) (.int .i64 k.missed) 38).kept (b1 _ (.cells #[.int .i64 0,.slice none 0 0,.slice none 0 0,.int .i64 0,.int .i64 0,.int .i64 0,.int .i64 0] 38)) (by simp)
  have v1:=Box7.new (w.alloc (.cells #[.int .i64 k.day,.slice a L.length c,.slice b O.length d,.int .i64 k.inn,.int .i64 k.out,.int .i64 k.posted,.int .i64 k.missed] 38)) (.int .i64 0) (.slice none 0 0) (.slice none 0 0) (.int .i64 0) (.int .i64 0) (.int .i64 0) (.int .i64 0) 38
  simp only[World.size_alloc] at v1
  rw[hh] at v0 v1
  exact ⟨_,rfl,v0,v1,by rw[←hh];exact ((Below.refl _ _).alloc (Nat.le_refl _) _).alloc (by simp) _,by simp;omega⟩
 have HW0:=hidOf hW0
 clear hF hO ho hW0
 have LEB:Hid (∀{V W:World},Below h w V->Below V.heap.size V W->Below h w W):=fun {V W} p q=>p.trans (q.mono (by have:=p.size;rw[HH.out] at this;exact this))
 have LF:Hid (∀{V:World},Below h w V->Fo V a L.length (FL L)/\Ords V b O.length (OrdF O)/\Bps V oa l.length (BpF l)):=fun {V} p=>by
  rw[←HH.out] at p
  exact ⟨HF.out.below p,HQ.out.below p,HO.out.below p⟩
 have ONE:Hid (∀(X:World) (B:Nat) a' b' c' d',AL X B (.slice a' L.length c') L->OrdL X B (.slice b' O.length d') O->B<=X.heap.size->Bps X oa l.length (BpF l)->GE X p->Calls Tryz.prog 89 #[.agg #[.int .i64 k.day,.slice a' L.length c',.slice b' O.length d',.int .i64 k.inn,.int .i64 k.out,.int .i64 k.posted,.int .i64 k.missed],.slice oa l.length oc,.func (.func 29) #[] #[]] X fun e w'=>∃v' u' c',e=.returned (.tuple #[.agg #[.int .i64 (runB ⟨[],L,O,k⟩ l).k.day,v',u',.int .i64 (runB ⟨[],L,O,k⟩ l).k.inn,.int .i64 (runB ⟨[],L,O,k⟩ l).k.out,.int .i64 (runB ⟨[],L,O,k⟩ l).k.posted,.int .i64 (runB ⟨[],L,O,k⟩ l).k.missed],c'])/\AL w' B v' (runB ⟨[],L,O,k⟩ l).L/\OrdL w' B u' (runB ⟨[],L,O,k⟩ l).O/\IL w' X.heap.size c' (runB ⟨[],L,O,k⟩ l).c/\Below X.heap.size X w'):=fun X B a' b' c' d' h1 h2 h3 h4 h5=>implOneB B a' b' c' d' L O k oa oc l p X h1 h2 h3 HB.out h4 h5
 obtain ⟨ll,hll⟩:∃n,l.length=n:=⟨_,rfl⟩
 rw[hll] at HO LF hon h100 ONE
 rw[hll]
 clear hb hll hG
 generalize runB ⟨[],L,O,k⟩ l=r at*
 obtain ⟨C,M,P,kk⟩:=r
 have g1:decide ((ll:Int)>100)=false:=by simp;omega
 have g2:decide (100<(ll:Int))=false:=by simp;omega
 go_enter Tryz.func33,Tryz.ntmps33
 go_upto_region 1 with fail
 rw[←HW0.out]
 clear HW0 hh
 obtain ⟨⟨s0,s1,s2,s3,s4,s5,s6⟩,sf,sz⟩:=X0.out.1
 go_wp2_with fail
 refine (implBank a b L.length c O.length d (FL L) (OrdF O) k _ (LF.out X0.out.2.2.1).1 (LF.out X0.out.2.2.1).2.1).mono ?_
 rintro e w1 ⟨⟨bb,rfl,hb1,hb2⟩,B1⟩
 obtain rfl:bb=true:=by cases bb with|false=>exact absurd HB.out (hb2 rfl)|true=>rfl
 have X1:Hid (BxK w1 h (.slice a L.length c) (.slice b O.length d) k/\BxZ w1 (h+1)/\Below h w w1/\h+1+1<=w1.heap.size):=⟨X0.out.1.kept B1 X0.out.1.2.2,X0.out.2.1.kept B1 X0.out.2.1.2.2,LEB.out X0.out.2.2.1 B1,Nat.le_trans X0.out.2.2.2 B1.size⟩
 clear s0 s1 s2 s3 s4 s5 s6 sf sz
 clear hb1 hb2 B1 X0
 obtain ⟨⟨s0,s1,s2,s3,s4,s5,s6⟩,sf,sz⟩:=X1.out.1
 go_wp2_with fail
 refine (implCopiedBank a b c d L O k _ (LF.out X1.out.2.2.1).1 (LF.out X1.out.2.2.1).2.1).mono ?_
 rintro e w2 ⟨v2,u2,rfl,A2,O2,B2⟩
 obtain ⟨a2,c2,hv⟩:=A2.len
 subst hv
 obtain ⟨b2,d2,hv⟩:=O2.len
 subst hv
 have X2:Hid (BxZ w2 (h+1)/\Below h w w2/\AL w2 (h+1+1) (.slice a2 L.length c2) L/\OrdL w2 (h+1+1) (.slice b2 O.length d2) O/\h+1+1<=w2.heap.size):=⟨X1.out.2.1.kept B2 X1.out.2.1.2.2,LEB.out X1.out.2.2.1 B2,A2.mono X1.out.2.2.2,O2.mono X1.out.2.2.2,Nat.le_trans X1.out.2.2.2 B2.size⟩
 clear s0 s1 s2 s3 s4 s5 s6 sf sz
 clear A2 O2 B2 X1
 go_wp2_with fail
 refine (ONE.out w2 (h+1+1) a2 b2 c2 d2 X2.out.2.2.1 X2.out.2.2.2.1 X2.out.2.2.2.2 (LF.out X2.out.2.1).2.2 (HG.out.below (by rw[HH.out];exact X2.out.2.1))).mono ?_
 rintro e w3 ⟨v3,u3,c3,rfl,A3,O3,I3,B3⟩
 dsimp only at A3 O3 I3 ⊢
 obtain ⟨a3,e3,hv⟩:=A3.len
 subst hv
 obtain ⟨b3,f3,hv⟩:=O3.len
 subst hv
 obtain ⟨q3,t3,hv,_⟩:=I3.shape
 subst hv
 obtain ⟨m1,hm1⟩:∃m,M.length=m:=⟨_,rfl⟩
 obtain ⟨m2,hm2⟩:∃m,P.length=m:=⟨_,rfl⟩
 obtain ⟨m3,hm3⟩:∃m,C.length=m:=⟨_,rfl⟩
 have X3:Hid (BxZ w3 (h+1)/\Below h w w3/\AL w3 (h+1+1) (.slice a3 m1 e3) M/\OrdL w3 (h+1+1) (.slice b3 m2 f3) P/\IL w3 (h+1+1) (.slice q3 m3 t3) C/\h+1+1<=w3.heap.size):=by
  rw[←hm1,←hm2,←hm3]
  exact ⟨X2.out.1.kept B3 X2.out.1.2.2,LEB.out X2.out.2.1 B3,A3,O3,I3.mono X2.out.2.2.2.2,Nat.le_trans X2.out.2.2.2.2 B3.size⟩
 simp only[hm1,hm2,hm3]
 clear A3 O3 I3 B3 X2 hm1 hm2 hm3 ONE LF LEB HF HQ HO
 obtain ⟨⟨r0,r1,r2,r3,r4,r5,r6⟩,rf,rz⟩:=X3.out.1
 go_wp2
 refine bodyPost_ret (v:=.tuple #[.agg #[.int .i64 kk.day,.slice a3 m1 e3,.slice b3 m2 f3,.int .i64 kk.inn,.int .i64 kk.out,.int .i64 kk.posted,.int .i64 kk.missed],.slice q3 m3 t3]) (by simp[results,Tryz.results33,go_sem,r0,r1,r2,r3,r4,r5,r6]) rfl ?_
 have g:=grown7 w3 (h+1) kk (.slice a3 m1 e3) (.slice b3 m2 f3)
 refine ⟨_,_,_,rfl,AL.mono (row_away X3.out.2.2.1 g (fun q hq=>by have:=(World.ownsRow.lt X3.out.2.2.1 q hq).1;omega)) (by rw[HH.out];omega),OrdL.mono (row_away X3.out.2.2.2.1 g (fun q hq=>by have:=(World.ownsRow.lt X3.out.2.2.2.1 q hq).1;omega)) (by rw[HH.out];omega),IL.mono (row_away X3.out.2.2.2.2.1 g (fun q hq=>by have:=(World.ownsRow.lt X3.out.2.2.2.2.1 q hq).1;omega)) (by rw[HH.out];omega),?_⟩
 rw[HH.out]
 exact X3.out.2.1.grown g (by have:=X3.out.2.2.2.2.2;omega) (fun q hq=>by simp at hq;omega)
theorem implAllB (a b:Option Addr) (c d:Nat) (L:List Acc) (O:List Ord) (k:Bk) (oa:Option Addr) (oc:Nat) (l:List Bp) (p:Nat->Addr) (w:World) (hF:Fo w a L.length (FL L)) (hO:Ords w b O.length (OrdF O)) (ho:Bps w oa l.length (BpF l)) (hG:GE w p):Calls Tryz.prog 33 #[.agg #[.int .i64 k.day,.slice a L.length c,.slice b O.length d,.int .i64 k.inn,.int .i64 k.out,.int .i64 k.posted,.int .i64 k.missed],.slice oa l.length oc] w fun e w'=>AllOut (allB L O k l) w e w':=by
 unfold allB
 by_cases hh:bankOk (FL L) L.length (OrdF O) O.length k/\l.length<=100
 ·rw[if_pos hh];exact implAllB_yes a b c d L O k oa oc l p w hF hO ho hG hh.1 hh.2
 ·rw[if_neg hh];exact implAllB_no a b c d L O k oa oc l w hF hO ho hh
end Go.Proofs.YtghkbhggopiajaaGreatDoor
