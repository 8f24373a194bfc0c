/- run. -/
import Derived.Test.YtghkbhggopiajaaGreatDoorRunJr
set_option maxHeartbeats 4000000
namespace Go.Proofs.YtghkbhggopiajaaGreatDoor
open Go.RowKit
set_option maxRecDepth 8000
set_option linter.unusedVariables false
def Boxed (w:World) (R:Nat):Prop:=∃v0 v1 v2 v3 v4 v5 v6,Box7 w R v0 v1 v2 v3 v4 v5 v6
theorem op_amount {k i t m r:Int} (h:opOk k i t m r): -1<=m/\m<=1000000000000:=by
 obtain ⟨_,h⟩:=h
 rcases h with h|h|h|h|h|h|h <;>omega
theorem bop_yes {K n:Int} {x:OpF} {o:Ord} (hok:bopOk K x o n) (W:World):Calls Tryz.prog 128 #[.agg #[.int .i64 K,.int .i64 x.k,.int .i64 x.i,.int .i64 x.t,.int .i64 x.m,.int .i64 x.r,.int .i64 o.id,.int .i64 o.src,.int .i64 o.dst,.int .i64 o.amount,.int .i64 o.first,.int .i64 o.every,.int .i64 o.times,.int .i64 n]] W fun e w'=>e=.returned (.bool true)/\Below W.heap.size W w':=(implBop K n x o W).mono (by
 rintro e w' ⟨⟨bb,rfl,h1,h2⟩,hB⟩
 cases bb with
 | true=>exact ⟨rfl,hB⟩
 | false=>exact absurd hok (h2 rfl))
theorem form_yes {K n:Int} {x:OpF} {o:Ord} (hok:bopOk K x o n) (W:World):Calls Tryz.prog 133 #[.agg #[.int .i64 K,.int .i64 x.k,.int .i64 x.i,.int .i64 x.t,.int .i64 x.m,.int .i64 x.r,.int .i64 o.id,.int .i64 o.src,.int .i64 o.dst,.int .i64 o.amount,.int .i64 o.first,.int .i64 o.every,.int .i64 o.times,.int .i64 n]] W fun e w'=>e=.returned (.bool true)/\Below W.heap.size W w':=(specForm K n x o W).mono (by
 rintro e w' ⟨⟨bb,rfl,h1,h2⟩,hB⟩
 cases bb with
 | true=>exact ⟨rfl,hB⟩
 | false=>exact absurd hok (h2 rfl))
theorem form_no {K n:Int} {x:OpF} {o:Ord} (hok:¬bopOk K x o n) (W:World):Calls Tryz.prog 133 #[.agg #[.int .i64 K,.int .i64 x.k,.int .i64 x.i,.int .i64 x.t,.int .i64 x.m,.int .i64 x.r,.int .i64 o.id,.int .i64 o.src,.int .i64 o.dst,.int .i64 o.amount,.int .i64 o.first,.int .i64 o.every,.int .i64 o.times,.int .i64 n]] W fun e w'=>e=.returned (.bool false)/\Below W.heap.size W w':=(specForm K n x o W).mono (by
 rintro e w' ⟨⟨bb,rfl,h1,h2⟩,hB⟩
 cases bb with
 | false=>exact ⟨rfl,hB⟩
 | true=>exact absurd (h1 rfl) hok)
theorem run_head (R:Nat) (a b:Option Addr) (c d:Nat) (L:List Acc) (O:List Ord) (k:Bk) (K n:Int) (x:OpF) (o:Ord) (w:World) (hX:BxK w R (.slice a L.length c) (.slice b O.length d) k):∃W0,W0=w.alloc (.cells #[.int .i64 K,.int .i64 x.k,.int .i64 x.i,.int .i64 x.t,.int .i64 x.m,.int .i64 x.r,.int .i64 o.id,.int .i64 o.src,.int .i64 o.dst,.int .i64 o.amount,.int .i64 o.first,.int .i64 o.every,.int .i64 o.times,.int .i64 n] 51)/\W0.heap.size=w.heap.size+1/\Below w.heap.size w W0/\BxK W0 R (.slice a L.length c) (.slice b O.length d) k/\Bx14 W0 w.heap.size K x o n:=
 ⟨_,rfl,by simp,(Below.refl _ _).alloc (Nat.le_refl _) _,hX.kept ((Below.refl _ _).alloc (Nat.le_refl _) _) hX.2.2,Bx14.new w _ _ _ _ 51⟩
theorem implRunOp (B R:Nat) (a b:Option Addr) (c d:Nat) (L:List Acc) (O:List Ord) (k:Bk) (x:OpF) (p:Nat->Addr) (w:World) (hX:BxK w R (.slice a L.length c) (.slice b O.length d) k) (hA:AL w B (.slice a L.length c) L) (hO:OrdL w B (.slice b O.length d) O) (hbR:∀q,(Value.slice b O.length d).ownBlock=some q->q≠R) (hBR:B<=R) (hG:GE w p) (hR:Right (FL L) L.length) (hi:0<=k.inn/\k.inn<=1000000000000000) (hu:0<=k.out/\k.out<=1000000000000000) (hm: -1<=x.m/\x.m<=1000000000000):
  Calls Tryz.prog 129 #[.pointer (some ⟨R,0,none⟩),.agg #[.int .i64 x.k,.int .i64 x.i,.int .i64 x.t,.int .i64 x.m,.int .i64 x.r]] w fun e w'=>e=.returned (.int .i64 (doneS L x.k x.i x.t x.m x.r).1)/\Below B w w'/\∃v,Box7 w' R (.int .i64 (opK k x).day) (v) (.slice b O.length d) (.int .i64 ((opK k x).inn)) (.int .i64 ((opK k x).out)) (.int .i64 (opK k x).posted) (.int .i64 (opK k x).missed)/\AL w' B v (doneS L x.k x.i x.t x.m x.r).2/\OrdL w' B (.slice b O.length d) O:=by
 by_cases h5:x.k=5
 ·have e1:(opK k x).inn=k.inn+x.m:=by simp[opK,h5]
  have e2:(opK k x).out=k.out:=by simp[opK,h5]
  have:=implRunOp_put B R a b c d L O k x p w hX hA hO hbR hBR hG hR hi hu hm
  rw[e1,e2,h5]
  exact this
 ·by_cases h6:x.k=6
  ·have e1:(opK k x).inn=k.inn:=by simp[opK,h6]
   have e2:(opK k x).out=k.out+x.m:=by simp[opK,h6]
   have:=implRunOp_take B R a b c d L O k x p w hX hA hO hbR hBR hG hR hi hu hm
   rw[e1,e2,h6]
   exact this
  ·have e1:(opK k x).inn=k.inn:=by simp[opK,h5]
   have e2:(opK k x).out=k.out:=by simp[opK,h6]
   have:=implRunOp_other B R a b c d L O k x p w hX hA hO hbR hBR hG hR (by simpa using h5) (by simpa using h6)
   rw[e1,e2]
   exact this
def RunOut (q:Rn) (B R:Nat) (w:World) (e:Ending) (w':World):Prop:=e=.returned (.int .i64 q.code)/\Below B w w'/\Boxed w' R/\(q.code=0->∃v u,Box7 w' R (.int .i64 q.k.day) (v) (u) (.int .i64 (q.k.inn)) (.int .i64 (q.k.out)) (.int .i64 q.k.posted) (.int .i64 q.k.missed)/\AL w' B v q.L/\OrdL w' B u q.O)
theorem RunOut.no {L:List Acc} {O:List Ord} {k:Bk} {q:Rn} {B R:Nat} {w w':World} {e:Ending} (hq:q.code≠0) (h:e=.returned (.int .i64 q.code)/\Below B w w'/\Boxed w' R):RunOut (finR L O k q) B R w e w':=by
 rw[fin_no hq]
 exact ⟨h.1,h.2.1,h.2.2,fun e=>absurd e hq⟩
theorem RunOut.yes {L:List Acc} {O:List Ord} {k:Bk} {q:Rn} {B R:Nat} {w w':World} {e:Ending} (hq:q.code=0) (h:(q.ok/\e=.returned (.int .i64 0)/\Below B w w'/\∃v u,Box7 w' R (.int .i64 q.k.day) (v) (u) (.int .i64 (q.k.inn)) (.int .i64 (q.k.out)) (.int .i64 q.k.posted) (.int .i64 q.k.missed)/\AL w' B v q.L/\OrdL w' B u q.O)\/(¬q.ok/\e=.returned (.int .i64 7)/\Below B w w'/\Boxed w' R)):RunOut (finR L O k q) B R w e w':=by
 rcases h with ⟨h0,h1,h2,h3⟩|⟨h0,h1,h2,h3⟩
 ·rw[fin_yes hq h0]
  obtain ⟨v,u,hx,h4⟩:=h3
  exact ⟨by rw[hq];exact h1,h2,⟨_,_,_,_,_,_,_,hx⟩,fun _=>⟨v,u,hx,h4⟩⟩
 ·rw[fin_full hq h0]
  exact ⟨h1,h2,h3,fun e=>by simp at e⟩
theorem implRun_op (B R:Nat) (a b:Option Addr) (c d:Nat) (L:List Acc) (O:List Ord) (k:Bk) (x:OpF) (o:Ord) (n:Int) (p:Nat->Addr) (w:World) (hX:BxK w R (.slice a L.length c) (.slice b O.length d) k) (hA:AL w B (.slice a L.length c) L) (hO:OrdL w B (.slice b O.length d) O) (haR:∀q,(Value.slice a L.length c).ownBlock=some q->q≠R) (hbR:∀q,(Value.slice b O.length d).ownBlock=some q->q≠R) (hBR:B<=R) (hG:GE w p) (hb:bankOk (FL L) L.length (OrdF O) O.length k) (hok:bopOk 19 x o n):
  Calls Tryz.prog 83 #[.pointer (some ⟨R,0,none⟩),.agg #[.int .i64 19,.int .i64 x.k,.int .i64 x.i,.int .i64 x.t,.int .i64 x.m,.int .i64 x.r,.int .i64 o.id,.int .i64 o.src,.int .i64 o.dst,.int .i64 o.amount,.int .i64 o.first,.int .i64 o.every,.int .i64 o.times,.int .i64 n]] w fun e w'=>RunOut (finR L O k ⟨(doneS L x.k x.i x.t x.m x.r).1,(doneS L x.k x.i x.t x.m x.r).2,O,opK k x⟩) B R w e w':=by
 obtain ⟨hday,hR,hRO,hi,hu,hpo,hmi,htot⟩:=id hb
 have hl12:L.length<=12:=hR.1
 have hol:O.length<=8:=hRO.1
 obtain ⟨W0,hW0,hz0,b0,x0,q0⟩:=run_head R a b c d L O k 19 n x o w hX
 have X0:=hidOf x0
 have Q0:=hidOf q0
 have A0:=hidOf (hA.kept b0)
 have O0:=hidOf (hO.kept b0)
 have G0:=hidOf (hG.below b0)
 have HB0:=hidOf b0
 have HW0:=hidOf hW0
 have HAR:=hidOf haR
 have HBR:=hidOf hbR
 have HBK:=hidOf hb
 have hRw:=hX.2.2
 have BO:=hidOf (fun W=>bop_yes hok W)
 have hm:=op_amount ((b19 n x o).1 hok).1
 have ROP:Hid (∀W,Below w.heap.size w W->BxK W R (.slice a L.length c) (.slice b O.length d) k->AL W B (.slice a L.length c) L->OrdL W B (.slice b O.length d) O->GE W p->Calls Tryz.prog 129 #[.pointer (some ⟨R,0,none⟩),.agg #[.int .i64 x.k,.int .i64 x.i,.int .i64 x.t,.int .i64 x.m,.int .i64 x.r]] W fun e w'=>e=.returned (.int .i64 (doneS L x.k x.i x.t x.m x.r).1)/\Below B W w'/\∃v,Box7 w' R (.int .i64 (opK k x).day) (v) (.slice b O.length d) (.int .i64 ((opK k x).inn)) (.int .i64 ((opK k x).out)) (.int .i64 (opK k x).posted) (.int .i64 (opK k x).missed)/\AL w' B v (doneS L x.k x.i x.t x.m x.r).2/\OrdL w' B (.slice b O.length d) O):=fun W _ h1 h2 h3 h4=>by
  have:=implRunOp B R a b c d L O k x p W h1 h2 h3 hbR hBR h4 hR hi hu hm
  exact this
 clear hm
 have hDl:(doneS L x.k x.i x.t x.m x.r).2.length<=13:=by have:=doneS_len L x.k x.i x.t x.m x.r;omega
 generalize (doneS L x.k x.i x.t x.m x.r).1=D1 at*
 generalize (doneS L x.k x.i x.t x.m x.r).2=D2 at*
 generalize opK k x=K2 at*
 clear hW0 b0 x0 q0 hX hO hA hG haR hbR hb hday hR hRO hi hu hpo hmi htot hok
 go_enter Tryz.func83,Tryz.ntmps83
 go_wp2_with fail
 rw[←HW0.out]
 clear HW0
 refine (BO.out _).mono ?_
 rintro e w1 ⟨rfl,B1⟩
 have hs1:=B1.size
 have X1:=hidOf (X0.out.kept B1 X0.out.2.2)
 have Q1:=hidOf (Q0.out.kept B1 Q0.out.2)
 have A1:=hidOf (A0.out.kept B1)
 have O1:=hidOf (O0.out.kept B1)
 have G1:=hidOf (G0.out.below B1)
 have HB1:=hidOf (HB0.out.trans (B1.mono HB0.out.size))
 clear X0 Q0 A0 O0 G0 HB0 B1 BO
 obtain ⟨⟨c0,c1,c2,c3,c4,c5,c6,c7,c8,c9,c10,c11,c12,c13⟩,cz⟩:=Q1.out
 go_wp2_with fail
 refine (ROP.out w1 HB1.out X1.out A1.out O1.out G1.out).mono ?_
 rintro e w2 ⟨rfl,B2,v2,X2,A2,O2⟩
 clear c0 c1 c2 c3 c4 c5 c6 c7 c8 c9 c10 c11 c12 c13 cz X1 Q1 A1 O1 G1
 by_cases hc:D1=0
 ·subst hc
  obtain ⟨a2,c2,hv⟩:=A2.len
  subst hv
  clear ROP
  have HX2:=hidOf X2
  have HA2:=hidOf A2
  have HO2:=hidOf O2
  have HB2:=hidOf ((HB1.out.mono (by omega)).trans B2)
  have BNK:Hid (Calls Tryz.prog 27 #[.agg #[.int .i64 K2.day,.slice a2 D2.length c2,.slice b O.length d,.int .i64 K2.inn,.int .i64 K2.out,.int .i64 K2.posted,.int .i64 K2.missed]] w2 fun e w'=>Tells e (Rn.mk 0 D2 O K2).ok/\Below w2.heap.size w2 w'):=implBank _ _ _ _ _ _ (FL D2) (OrdF O) K2 w2 (A2.fo (by omega)).2 (O2.list (by omega)).2
  obtain ⟨⟨s0,s1,s2,s3,s4,s5,s6⟩,sf,sz⟩:=X2
  clear A2 O2 B2 HB1
  go_wp2_with fail
  refine BNK.out.mono ?_
  rintro e w3 ⟨⟨bb,rfl,hb1,hb2⟩,B3⟩
  have X3:=hidOf (HX2.out.kept B3 HX2.out.2.2)
  have A3:=hidOf (HA2.out.kept B3)
  have O3:=hidOf (HO2.out.kept B3)
  have HB3:Hid (Below B w w3):=HB2.out.trans (B3.mono (by omega))
  clear s0 s1 s2 s3 s4 s5 s6 sf sz BNK HX2 HA2 HO2 HB2 B3
  cases bb with
  | true=>
   have HN:Hid ((Rn.mk 0 D2 O K2).ok):=hb1 rfl
   clear hb1 hb2
   go_wp2
   go_ret
   exact RunOut.yes (q:=⟨0,D2,O,K2⟩) rfl (Or.inl ⟨HN.out,rfl,HB3.out,_,_,X3.out,A3.out,O3.out⟩)
  | false=>
   have HN:Hid (¬(Rn.mk 0 D2 O K2).ok):=hb2 rfl
   clear hb1 hb2
   go_wp2
   go_ret
   exact RunOut.yes (q:=⟨0,D2,O,K2⟩) rfl (Or.inr ⟨HN.out,rfl,HB3.out,⟨_,_,_,_,_,_,_,X3.out⟩⟩)
 ·have hcb:(D1 == 0)=false:=by simpa using hc
  have HC:=hidOf hc
  have HB2:=hidOf (((HB1.out.mono (by omega)).trans B2))
  have HX2:Hid (Boxed w2 R):=⟨_,_,_,_,_,_,_,X2⟩
  clear B2 HB1 X2 A2 O2 ROP hc
  go_wp2
  go_ret
  exact RunOut.no (q:=⟨D1,D2,O,K2⟩) HC.out ⟨rfl,HB2.out,HX2.out⟩
theorem implRun_there (B R:Nat) (a b:Option Addr) (c d:Nat) (L:List Acc) (O:List Ord) (k:Bk) (x:OpF) (o:Ord) (n:Int) (p:Nat->Addr) (w:World) (hX:BxK w R (.slice a L.length c) (.slice b O.length d) k) (hA:AL w B (.slice a L.length c) L) (hO:OrdL w B (.slice b O.length d) O) (haR:∀q,(Value.slice a L.length c).ownBlock=some q->q≠R) (hbR:∀q,(Value.slice b O.length d).ownBlock=some q->q≠R) (hBR:B<=R) (hG:GE w p) (hb:bankOk (FL L) L.length (OrdF O) O.length k) (hok:bopOk 20 x o n) (ht:thereO O o.id):
  Calls Tryz.prog 83 #[.pointer (some ⟨R,0,none⟩),.agg #[.int .i64 20,.int .i64 x.k,.int .i64 x.i,.int .i64 x.t,.int .i64 x.m,.int .i64 x.r,.int .i64 o.id,.int .i64 o.src,.int .i64 o.dst,.int .i64 o.amount,.int .i64 o.first,.int .i64 o.every,.int .i64 o.times,.int .i64 n]] w fun e w'=>e=.returned (.int .i64 4)/\Below B w w'/\Boxed w' R:=by
 obtain ⟨hday,hR,hRO,hi,hu,hpo,hmi,htot⟩:=id hb
 have hl12:L.length<=12:=hR.1
 have hol:O.length<=8:=hRO.1
 obtain ⟨W0,hW0,hz0,b0,x0,q0⟩:=run_head R a b c d L O k 20 n x o w hX
 have X0:=hidOf x0
 have Q0:=hidOf q0
 have A0:=hidOf (hA.kept b0)
 have O0:=hidOf (hO.kept b0)
 have G0:=hidOf (hG.below b0)
 have HB0:=hidOf b0
 have HW0:=hidOf hW0
 have HAR:=hidOf haR
 have HBR:=hidOf hbR
 have HBK:=hidOf hb
 have hRw:=hX.2.2
 have BO:=hidOf (fun W=>bop_yes hok W)
 have HT:=hidOf ht
 have HRO:=hidOf hRO
 clear ht
 clear hW0 b0 x0 q0 hX hO hA hG haR hbR hb hday hR hRO hi hu hpo hmi htot hok
 go_enter Tryz.func83,Tryz.ntmps83
 go_wp2_with fail
 rw[←HW0.out]
 clear HW0
 refine (BO.out _).mono ?_
 rintro e w1 ⟨rfl,B1⟩
 have hs1:=B1.size
 have X1:=hidOf (X0.out.kept B1 X0.out.2.2)
 have Q1:=hidOf (Q0.out.kept B1 Q0.out.2)
 have A1:=hidOf (A0.out.kept B1)
 have O1:=hidOf (O0.out.kept B1)
 have G1:=hidOf (G0.out.below B1)
 have HB1:=hidOf (HB0.out.trans (B1.mono HB0.out.size))
 clear X0 Q0 A0 O0 G0 HB0 B1 BO
 obtain ⟨⟨c0,c1,c2,c3,c4,c5,c6,c7,c8,c9,c10,c11,c12,c13⟩,cz⟩:=Q1.out
 go_wp2_with fail
 refine (implAdd_there R a b c d L O k o w1 X1.out (O1.out.list (by omega)).2 HRO.out HT.out).mono ?_
 rintro e w2 ⟨rfl,B2⟩
 clear c0 c1 c2 c3 c4 c5 c6 c7 c8 c9 c10 c11 c12 c13 cz
 have HB2:Hid (Below B w w2):=((HB1.out.trans (B2.mono HB1.out.size)).mono (by omega))
 have HX2:Hid (Boxed w2 R):=⟨_,_,_,_,_,_,_,X1.out.kept B2 X1.out.2.2⟩
 clear B2 HB1 X1 Q1 A1 O1 G1
 go_wp2
 go_ret
 exact ⟨rfl,HB2.out,HX2.out⟩
theorem implRun_new (B R:Nat) (a b:Option Addr) (c d:Nat) (L:List Acc) (O:List Ord) (k:Bk) (x:OpF) (o:Ord) (n:Int) (p:Nat->Addr) (w:World) (hX:BxK w R (.slice a L.length c) (.slice b O.length d) k) (hA:AL w B (.slice a L.length c) L) (hO:OrdL w B (.slice b O.length d) O) (haR:∀q,(Value.slice a L.length c).ownBlock=some q->q≠R) (hbR:∀q,(Value.slice b O.length d).ownBlock=some q->q≠R) (hBR:B<=R) (hG:GE w p) (hb:bankOk (FL L) L.length (OrdF O) O.length k) (hok:bopOk 20 x o n) (ht:¬thereO O o.id):
  Calls Tryz.prog 83 #[.pointer (some ⟨R,0,none⟩),.agg #[.int .i64 20,.int .i64 x.k,.int .i64 x.i,.int .i64 x.t,.int .i64 x.m,.int .i64 x.r,.int .i64 o.id,.int .i64 o.src,.int .i64 o.dst,.int .i64 o.amount,.int .i64 o.first,.int .i64 o.every,.int .i64 o.times,.int .i64 n]] w fun e w'=>((Rn.mk 0 L (newO O o) k).ok/\e=.returned (.int .i64 0)/\Below B w w'/\∃v u,BxK w' R (v) (u) k/\AL w' B v L/\OrdL w' B u (newO O o))\/(¬(Rn.mk 0 L (newO O o) k).ok/\e=.returned (.int .i64 7)/\Below B w w'/\Boxed w' R):=by
 obtain ⟨hday,hR,hRO,hi,hu,hpo,hmi,htot⟩:=id hb
 have hl12:L.length<=12:=hR.1
 have hol:O.length<=8:=hRO.1
 obtain ⟨W0,hW0,hz0,b0,x0,q0⟩:=run_head R a b c d L O k 20 n x o w hX
 have X0:=hidOf x0
 have Q0:=hidOf q0
 have A0:=hidOf (hA.kept b0)
 have O0:=hidOf (hO.kept b0)
 have G0:=hidOf (hG.below b0)
 have HB0:=hidOf b0
 have HW0:=hidOf hW0
 have HAR:=hidOf haR
 have HBR:=hidOf hbR
 have HBK:=hidOf hb
 have hRw:=hX.2.2
 have BO:=hidOf (fun W=>bop_yes hok W)
 have HT:=hidOf ht
 have HRO:=hidOf hRO
 have hnl:(newO O o).length<=O.length+1:=Nat.le_of_eq (newO_len O o)
 clear ht
 clear hW0 b0 x0 q0 hX hO hA hG haR hbR hb hday hR hRO hi hu hpo hmi htot hok
 go_enter Tryz.func83,Tryz.ntmps83
 go_wp2_with fail
 rw[←HW0.out]
 clear HW0
 refine (BO.out _).mono ?_
 rintro e w1 ⟨rfl,B1⟩
 have hs1:=B1.size
 have X1:=hidOf (X0.out.kept B1 X0.out.2.2)
 have Q1:=hidOf (Q0.out.kept B1 Q0.out.2)
 have A1:=hidOf (A0.out.kept B1)
 have O1:=hidOf (O0.out.kept B1)
 have G1:=hidOf (G0.out.below B1)
 have HB1:=hidOf (HB0.out.trans (B1.mono HB0.out.size))
 clear X0 Q0 A0 O0 G0 HB0 B1 BO
 obtain ⟨⟨c0,c1,c2,c3,c4,c5,c6,c7,c8,c9,c10,c11,c12,c13⟩,cz⟩:=Q1.out
 go_wp2_with fail
 refine (implAdd_new B R a b c d L O k o w1 X1.out A1.out O1.out HAR.out HBR.out hBR HRO.out HT.out).mono ?_
 rintro e w2 ⟨rfl,B2,u2,X2,A2,O2⟩
 clear c0 c1 c2 c3 c4 c5 c6 c7 c8 c9 c10 c11 c12 c13 cz X1 Q1 A1 O1 G1
 obtain ⟨b2,d2,hv⟩:=O2.len
 subst hv
 have HX2:=hidOf X2
 have HA2:=hidOf A2
 have HO2:=hidOf O2
 have HB2:=hidOf ((HB1.out.mono (by omega)).trans B2)
 have BNK:Hid (Calls Tryz.prog 27 #[.agg #[.int .i64 k.day,.slice a L.length c,.slice b2 (newO O o).length d2,.int .i64 k.inn,.int .i64 k.out,.int .i64 k.posted,.int .i64 k.missed]] w2 fun e w'=>Tells e (Rn.mk 0 L (newO O o) k).ok/\Below w2.heap.size w2 w'):=implBank _ _ _ _ _ _ (FL L) (OrdF (newO O o)) k w2 (A2.fo (by omega)).2 (O2.list (by omega)).2
 obtain ⟨⟨s0,s1,s2,s3,s4,s5,s6⟩,sf,sz⟩:=X2
 clear A2 O2 B2 HB1
 go_wp2_with fail
 refine BNK.out.mono ?_
 rintro e w3 ⟨⟨bb,rfl,hb1,hb2⟩,B3⟩
 have X3:=hidOf (HX2.out.kept B3 HX2.out.2.2)
 have A3:=hidOf (HA2.out.kept B3)
 have O3:=hidOf (HO2.out.kept B3)
 have HB3:Hid (Below B w w3):=HB2.out.trans (B3.mono (by omega))
 clear s0 s1 s2 s3 s4 s5 s6 sf sz BNK HX2 HA2 HO2 HB2 B3
 cases bb with
 | true=>
  have HN:Hid ((Rn.mk 0 L (newO O o) k).ok):=hb1 rfl
  clear hb1 hb2
  go_wp2
  go_ret
  exact Or.inl ⟨HN.out,rfl,HB3.out,_,_,X3.out,A3.out,O3.out⟩
 | false=>
  have HN:Hid (¬(Rn.mk 0 L (newO O o) k).ok):=hb2 rfl
  clear hb1 hb2
  go_wp2
  go_ret
  exact Or.inr ⟨HN.out,rfl,HB3.out,⟨_,_,_,_,_,_,_,X3.out⟩⟩
theorem implRun_none (B R:Nat) (a b:Option Addr) (c d:Nat) (L:List Acc) (O:List Ord) (k:Bk) (x:OpF) (o:Ord) (n:Int) (p:Nat->Addr) (w:World) (hX:BxK w R (.slice a L.length c) (.slice b O.length d) k) (hA:AL w B (.slice a L.length c) L) (hO:OrdL w B (.slice b O.length d) O) (haR:∀q,(Value.slice a L.length c).ownBlock=some q->q≠R) (hbR:∀q,(Value.slice b O.length d).ownBlock=some q->q≠R) (hBR:B<=R) (hG:GE w p) (hb:bankOk (FL L) L.length (OrdF O) O.length k) (hok:bopOk 21 x o n) (ht:¬thereO O n):
  Calls Tryz.prog 83 #[.pointer (some ⟨R,0,none⟩),.agg #[.int .i64 21,.int .i64 x.k,.int .i64 x.i,.int .i64 x.t,.int .i64 x.m,.int .i64 x.r,.int .i64 o.id,.int .i64 o.src,.int .i64 o.dst,.int .i64 o.amount,.int .i64 o.first,.int .i64 o.every,.int .i64 o.times,.int .i64 n]] w fun e w'=>e=.returned (.int .i64 3)/\Below B w w'/\Boxed w' R:=by
 obtain ⟨hday,hR,hRO,hi,hu,hpo,hmi,htot⟩:=id hb
 have hl12:L.length<=12:=hR.1
 have hol:O.length<=8:=hRO.1
 obtain ⟨W0,hW0,hz0,b0,x0,q0⟩:=run_head R a b c d L O k 21 n x o w hX
 have X0:=hidOf x0
 have Q0:=hidOf q0
 have A0:=hidOf (hA.kept b0)
 have O0:=hidOf (hO.kept b0)
 have G0:=hidOf (hG.below b0)
 have HB0:=hidOf b0
 have HW0:=hidOf hW0
 have HAR:=hidOf haR
 have HBR:=hidOf hbR
 have HBK:=hidOf hb
 have hRw:=hX.2.2
 have BO:=hidOf (fun W=>bop_yes hok W)
 have HT:=hidOf ht
 have HRO:=hidOf hRO
 clear ht
 clear hW0 b0 x0 q0 hX hO hA hG haR hbR hb hday hR hRO hi hu hpo hmi htot hok
 go_enter Tryz.func83,Tryz.ntmps83
 go_wp2_with fail
 rw[←HW0.out]
 clear HW0
 refine (BO.out _).mono ?_
 rintro e w1 ⟨rfl,B1⟩
 have hs1:=B1.size
 have X1:=hidOf (X0.out.kept B1 X0.out.2.2)
 have Q1:=hidOf (Q0.out.kept B1 Q0.out.2)
 have A1:=hidOf (A0.out.kept B1)
 have O1:=hidOf (O0.out.kept B1)
 have G1:=hidOf (G0.out.below B1)
 have HB1:=hidOf (HB0.out.trans (B1.mono HB0.out.size))
 clear X0 Q0 A0 O0 G0 HB0 B1 BO
 obtain ⟨⟨c0,c1,c2,c3,c4,c5,c6,c7,c8,c9,c10,c11,c12,c13⟩,cz⟩:=Q1.out
 go_wp2_with fail
 refine (implCut_none R a b c d L O k n w1 X1.out (O1.out.list (by omega)).2 HRO.out HT.out).mono ?_
 rintro e w2 ⟨rfl,B2⟩
 clear c0 c1 c2 c3 c4 c5 c6 c7 c8 c9 c10 c11 c12 c13 cz
 have HB2:Hid (Below B w w2):=((HB1.out.trans (B2.mono HB1.out.size)).mono (by omega))
 have HX2:Hid (Boxed w2 R):=⟨_,_,_,_,_,_,_,X1.out.kept B2 X1.out.2.2⟩
 clear B2 HB1 X1 Q1 A1 O1 G1
 go_wp2
 go_ret
 exact ⟨rfl,HB2.out,HX2.out⟩
theorem implRun_cut (B R:Nat) (a b:Option Addr) (c d:Nat) (L:List Acc) (O:List Ord) (k:Bk) (x:OpF) (o:Ord) (n:Int) (p:Nat->Addr) (w:World) (hX:BxK w R (.slice a L.length c) (.slice b O.length d) k) (hA:AL w B (.slice a L.length c) L) (hO:OrdL w B (.slice b O.length d) O) (haR:∀q,(Value.slice a L.length c).ownBlock=some q->q≠R) (hbR:∀q,(Value.slice b O.length d).ownBlock=some q->q≠R) (hBR:B<=R) (hG:GE w p) (hb:bankOk (FL L) L.length (OrdF O) O.length k) (hok:bopOk 21 x o n) (ht:thereO O n):
  Calls Tryz.prog 83 #[.pointer (some ⟨R,0,none⟩),.agg #[.int .i64 21,.int .i64 x.k,.int .i64 x.i,.int .i64 x.t,.int .i64 x.m,.int .i64 x.r,.int .i64 o.id,.int .i64 o.src,.int .i64 o.dst,.int .i64 o.amount,.int .i64 o.first,.int .i64 o.every,.int .i64 o.times,.int .i64 n]] w fun e w'=>((Rn.mk 0 L (cutO O n) k).ok/\e=.returned (.int .i64 0)/\Below B w w'/\∃v u,BxK w' R (v) (u) k/\AL w' B v L/\OrdL w' B u (cutO O n))\/(¬(Rn.mk 0 L (cutO O n) k).ok/\e=.returned (.int .i64 7)/\Below B w w'/\Boxed w' R):=by
 obtain ⟨hday,hR,hRO,hi,hu,hpo,hmi,htot⟩:=id hb
 have hl12:L.length<=12:=hR.1
 have hol:O.length<=8:=hRO.1
 obtain ⟨W0,hW0,hz0,b0,x0,q0⟩:=run_head R a b c d L O k 21 n x o w hX
 have X0:=hidOf x0
 have Q0:=hidOf q0
 have A0:=hidOf (hA.kept b0)
 have O0:=hidOf (hO.kept b0)
 have G0:=hidOf (hG.below b0)
 have HB0:=hidOf b0
 have HW0:=hidOf hW0
 have HAR:=hidOf haR
 have HBR:=hidOf hbR
 have HBK:=hidOf hb
 have hRw:=hX.2.2
 have BO:=hidOf (fun W=>bop_yes hok W)
 have HT:=hidOf ht
 have HRO:=hidOf hRO
 have hnl:=cutO_len O n
 clear ht
 clear hW0 b0 x0 q0 hX hO hA hG haR hbR hb hday hR hRO hi hu hpo hmi htot hok
 go_enter Tryz.func83,Tryz.ntmps83
 go_wp2_with fail
 rw[←HW0.out]
 clear HW0
 refine (BO.out _).mono ?_
 rintro e w1 ⟨rfl,B1⟩
 have hs1:=B1.size
 have X1:=hidOf (X0.out.kept B1 X0.out.2.2)
 have Q1:=hidOf (Q0.out.kept B1 Q0.out.2)
 have A1:=hidOf (A0.out.kept B1)
 have O1:=hidOf (O0.out.kept B1)
 have G1:=hidOf (G0.out.below B1)
 have HB1:=hidOf (HB0.out.trans (B1.mono HB0.out.size))
 clear X0 Q0 A0 O0 G0 HB0 B1 BO
 obtain ⟨⟨c0,c1,c2,c3,c4,c5,c6,c7,c8,c9,c10,c11,c12,c13⟩,cz⟩:=Q1.out
 go_wp2_with fail
 refine (implCut_yes B R a b c d L O k n w1 X1.out A1.out O1.out HAR.out HBR.out hBR HRO.out HT.out).mono ?_
 rintro e w2 ⟨rfl,B2,u2,X2,A2,O2⟩
 clear c0 c1 c2 c3 c4 c5 c6 c7 c8 c9 c10 c11 c12 c13 cz X1 Q1 A1 O1 G1
 obtain ⟨b2,d2,hv⟩:=O2.len
 subst hv
 have HX2:=hidOf X2
 have HA2:=hidOf A2
 have HO2:=hidOf O2
 have HB2:=hidOf ((HB1.out.mono (by omega)).trans B2)
 have BNK:Hid (Calls Tryz.prog 27 #[.agg #[.int .i64 k.day,.slice a L.length c,.slice b2 (cutO O n).length d2,.int .i64 k.inn,.int .i64 k.out,.int .i64 k.posted,.int .i64 k.missed]] w2 fun e w'=>Tells e (Rn.mk 0 L (cutO O n) k).ok/\Below w2.heap.size w2 w'):=implBank _ _ _ _ _ _ (FL L) (OrdF (cutO O n)) k w2 (A2.fo (by omega)).2 (O2.list (by omega)).2
 obtain ⟨⟨s0,s1,s2,s3,s4,s5,s6⟩,sf,sz⟩:=X2
 clear A2 O2 B2 HB1
 go_wp2_with fail
 refine BNK.out.mono ?_
 rintro e w3 ⟨⟨bb,rfl,hb1,hb2⟩,B3⟩
 have X3:=hidOf (HX2.out.kept B3 HX2.out.2.2)
 have A3:=hidOf (HA2.out.kept B3)
 have O3:=hidOf (HO2.out.kept B3)
 have HB3:Hid (Below B w w3):=HB2.out.trans (B3.mono (by omega))
 clear s0 s1 s2 s3 s4 s5 s6 sf sz BNK HX2 HA2 HO2 HB2 B3
 cases bb with
 | true=>
  have HN:Hid ((Rn.mk 0 L (cutO O n) k).ok):=hb1 rfl
  clear hb1 hb2
  go_wp2
  go_ret
  exact Or.inl ⟨HN.out,rfl,HB3.out,_,_,X3.out,A3.out,O3.out⟩
 | false=>
  have HN:Hid (¬(Rn.mk 0 L (cutO O n) k).ok):=hb2 rfl
  clear hb1 hb2
  go_wp2
  go_ret
  exact Or.inr ⟨HN.out,rfl,HB3.out,⟨_,_,_,_,_,_,_,X3.out⟩⟩
theorem implRun_full (B R:Nat) (a b:Option Addr) (c d:Nat) (L:List Acc) (O:List Ord) (k:Bk) (x:OpF) (o:Ord) (n:Int) (p:Nat->Addr) (w:World) (hX:BxK w R (.slice a L.length c) (.slice b O.length d) k) (hA:AL w B (.slice a L.length c) L) (hO:OrdL w B (.slice b O.length d) O) (haR:∀q,(Value.slice a L.length c).ownBlock=some q->q≠R) (hbR:∀q,(Value.slice b O.length d).ownBlock=some q->q≠R) (hBR:B<=R) (hG:GE w p) (hb:bankOk (FL L) L.length (OrdF O) O.length k) (hok:bopOk 22 x o n) (ht:¬endOk L O k):
  Calls Tryz.prog 83 #[.pointer (some ⟨R,0,none⟩),.agg #[.int .i64 22,.int .i64 x.k,.int .i64 x.i,.int .i64 x.t,.int .i64 x.m,.int .i64 x.r,.int .i64 o.id,.int .i64 o.src,.int .i64 o.dst,.int .i64 o.amount,.int .i64 o.first,.int .i64 o.every,.int .i64 o.times,.int .i64 n]] w fun e w'=>e=.returned (.int .i64 7)/\Below B w w'/\Boxed w' R:=by
 obtain ⟨hday,hR,hRO,hi,hu,hpo,hmi,htot⟩:=id hb
 have hl12:L.length<=12:=hR.1
 have hol:O.length<=8:=hRO.1
 obtain ⟨W0,hW0,hz0,b0,x0,q0⟩:=run_head R a b c d L O k 22 n x o w hX
 have X0:=hidOf x0
 have Q0:=hidOf q0
 have A0:=hidOf (hA.kept b0)
 have O0:=hidOf (hO.kept b0)
 have G0:=hidOf (hG.below b0)
 have HB0:=hidOf b0
 have HW0:=hidOf hW0
 have HAR:=hidOf haR
 have HBR:=hidOf hbR
 have HBK:=hidOf hb
 have hRw:=hX.2.2
 have BO:=hidOf (fun W=>bop_yes hok W)
 have HT:=hidOf ht
 clear ht
 clear hW0 b0 x0 q0 hX hO hA hG haR hbR hb hday hR hRO hi hu hpo hmi htot hok
 go_enter Tryz.func83,Tryz.ntmps83
 go_wp2_with fail
 rw[←HW0.out]
 clear HW0
 refine (BO.out _).mono ?_
 rintro e w1 ⟨rfl,B1⟩
 have hs1:=B1.size
 have X1:=hidOf (X0.out.kept B1 X0.out.2.2)
 have Q1:=hidOf (Q0.out.kept B1 Q0.out.2)
 have A1:=hidOf (A0.out.kept B1)
 have O1:=hidOf (O0.out.kept B1)
 have G1:=hidOf (G0.out.below B1)
 have HB1:=hidOf (HB0.out.trans (B1.mono HB0.out.size))
 clear X0 Q0 A0 O0 G0 HB0 B1 BO
 obtain ⟨⟨c0,c1,c2,c3,c4,c5,c6,c7,c8,c9,c10,c11,c12,c13⟩,cz⟩:=Q1.out
 go_wp2_with fail
 refine (implDay_no R a b c d L O k p w1 X1.out (A1.out.fo (by omega)).2 (O1.out.list (by omega)).2 G1.out HT.out).mono ?_
 rintro e w2 ⟨rfl,B2⟩
 clear c0 c1 c2 c3 c4 c5 c6 c7 c8 c9 c10 c11 c12 c13 cz
 have HB2:Hid (Below B w w2):=((HB1.out.trans (B2.mono HB1.out.size)).mono (by omega))
 have HX2:Hid (Boxed w2 R):=⟨_,_,_,_,_,_,_,X1.out.kept B2 X1.out.2.2⟩
 clear B2 HB1 X1 Q1 A1 O1 G1
 go_wp2
 go_ret
 exact ⟨rfl,HB2.out,HX2.out⟩
theorem implRun_day (B R:Nat) (a b:Option Addr) (c d:Nat) (L:List Acc) (O:List Ord) (k:Bk) (x:OpF) (o:Ord) (n:Int) (p:Nat->Addr) (w:World) (hX:BxK w R (.slice a L.length c) (.slice b O.length d) k) (hA:AL w B (.slice a L.length c) L) (hO:OrdL w B (.slice b O.length d) O) (haR:∀q,(Value.slice a L.length c).ownBlock=some q->q≠R) (hbR:∀q,(Value.slice b O.length d).ownBlock=some q->q≠R) (hBR:B<=R) (hG:GE w p) (hb:bankOk (FL L) L.length (OrdF O) O.length k) (hok:bopOk 22 x o n) (ht:endOk L O k):
  Calls Tryz.prog 83 #[.pointer (some ⟨R,0,none⟩),.agg #[.int .i64 22,.int .i64 x.k,.int .i64 x.i,.int .i64 x.t,.int .i64 x.m,.int .i64 x.r,.int .i64 o.id,.int .i64 o.src,.int .i64 o.dst,.int .i64 o.amount,.int .i64 o.first,.int .i64 o.every,.int .i64 o.times,.int .i64 n]] w fun e w'=>((Rn.mk 0 (endA L O k) (endO O k) (endK L O k)).ok/\e=.returned (.int .i64 0)/\Below B w w'/\∃v u,BxK w' R (v) (u) (endK L O k)/\AL w' B v (endA L O k)/\OrdL w' B u (endO O k))\/(¬(Rn.mk 0 (endA L O k) (endO O k) (endK L O k)).ok/\e=.returned (.int .i64 7)/\Below B w w'/\Boxed w' R):=by
 obtain ⟨hday,hR,hRO,hi,hu,hpo,hmi,htot⟩:=id hb
 have hl12:L.length<=12:=hR.1
 have hol:O.length<=8:=hRO.1
 obtain ⟨W0,hW0,hz0,b0,x0,q0⟩:=run_head R a b c d L O k 22 n x o w hX
 have X0:=hidOf x0
 have Q0:=hidOf q0
 have A0:=hidOf (hA.kept b0)
 have O0:=hidOf (hO.kept b0)
 have G0:=hidOf (hG.below b0)
 have HB0:=hidOf b0
 have HW0:=hidOf hW0
 have HAR:=hidOf haR
 have HBR:=hidOf hbR
 have HBK:=hidOf hb
 have hRw:=hX.2.2
 have BO:=hidOf (fun W=>bop_yes hok W)
 have HT:=hidOf ht
 have hla:(endA L O k).length<=L.length:=Nat.le_of_eq (toL_len _ _)
 have hlo:(endO O k).length<=O.length:=List.length_filter_le _ _
 clear ht
 clear hW0 b0 x0 q0 hX hO hA hG haR hbR hb hday hR hRO hi hu hpo hmi htot hok
 go_enter Tryz.func83,Tryz.ntmps83
 go_wp2_with fail
 rw[←HW0.out]
 clear HW0
 refine (BO.out _).mono ?_
 rintro e w1 ⟨rfl,B1⟩
 have hs1:=B1.size
 have X1:=hidOf (X0.out.kept B1 X0.out.2.2)
 have Q1:=hidOf (Q0.out.kept B1 Q0.out.2)
 have A1:=hidOf (A0.out.kept B1)
 have O1:=hidOf (O0.out.kept B1)
 have G1:=hidOf (G0.out.below B1)
 have HB1:=hidOf (HB0.out.trans (B1.mono HB0.out.size))
 clear X0 Q0 A0 O0 G0 HB0 B1 BO
 obtain ⟨⟨c0,c1,c2,c3,c4,c5,c6,c7,c8,c9,c10,c11,c12,c13⟩,cz⟩:=Q1.out
 go_wp2_with fail
 refine (implDay_yes B R a b c d L O k p w1 X1.out (A1.out.fo (by omega)).2 (O1.out.list (by omega)).2 G1.out hBR HBK.out HT.out).mono ?_
 rintro e w2 ⟨rfl,B2,v2,u2,X2,A2,O2⟩
 clear c0 c1 c2 c3 c4 c5 c6 c7 c8 c9 c10 c11 c12 c13 cz X1 Q1 A1 O1 G1
 obtain ⟨a2,c2,hv⟩:=A2.len
 subst hv
 obtain ⟨b2,d2,hv⟩:=O2.len
 subst hv
 have HX2:=hidOf X2
 have HA2:=hidOf A2
 have HO2:=hidOf O2
 have HB2:=hidOf ((HB1.out.mono (by omega)).trans B2)
 have BNK:Hid (Calls Tryz.prog 27 #[.agg #[.int .i64 (endK L O k).day,.slice a2 (endA L O k).length c2,.slice b2 (endO O k).length d2,.int .i64 (endK L O k).inn,.int .i64 (endK L O k).out,.int .i64 (endK L O k).posted,.int .i64 (endK L O k).missed]] w2 fun e w'=>Tells e (Rn.mk 0 (endA L O k) (endO O k) (endK L O k)).ok/\Below w2.heap.size w2 w'):=implBank _ _ _ _ _ _ (FL (endA L O k)) (OrdF (endO O k)) (endK L O k) w2 (A2.fo (by omega)).2 (O2.list (by omega)).2
 obtain ⟨⟨s0,s1,s2,s3,s4,s5,s6⟩,sf,sz⟩:=X2
 clear A2 O2 B2 HB1
 go_wp2_with fail
 refine BNK.out.mono ?_
 rintro e w3 ⟨⟨bb,rfl,hb1,hb2⟩,B3⟩
 have X3:=hidOf (HX2.out.kept B3 HX2.out.2.2)
 have A3:=hidOf (HA2.out.kept B3)
 have O3:=hidOf (HO2.out.kept B3)
 have HB3:Hid (Below B w w3):=HB2.out.trans (B3.mono (by omega))
 clear s0 s1 s2 s3 s4 s5 s6 sf sz BNK HX2 HA2 HO2 HB2 B3
 cases bb with
 | true=>
  have HN:Hid ((Rn.mk 0 (endA L O k) (endO O k) (endK L O k)).ok):=hb1 rfl
  clear hb1 hb2
  go_wp2
  go_ret
  exact Or.inl ⟨HN.out,rfl,HB3.out,_,_,X3.out,A3.out,O3.out⟩
 | false=>
  have HN:Hid (¬(Rn.mk 0 (endA L O k) (endO O k) (endK L O k)).ok):=hb2 rfl
  clear hb1 hb2
  go_wp2
  go_ret
  exact Or.inr ⟨HN.out,rfl,HB3.out,⟨_,_,_,_,_,_,_,X3.out⟩⟩
theorem implRun_form (B R:Nat) (a b:Option Addr) (c d:Nat) (L:List Acc) (O:List Ord) (k:Bk) (x:OpF) (o:Ord) (n:Int) (p:Nat->Addr) (w:World) (hX:BxK w R (.slice a L.length c) (.slice b O.length d) k) (hA:AL w B (.slice a L.length c) L) (hO:OrdL w B (.slice b O.length d) O) (haR:∀q,(Value.slice a L.length c).ownBlock=some q->q≠R) (hbR:∀q,(Value.slice b O.length d).ownBlock=some q->q≠R) (hBR:B<=R) (hG:GE w p) (hb:bankOk (FL L) L.length (OrdF O) O.length k) (K:Int) (hok:¬bopOk K x o n):
  Calls Tryz.prog 83 #[.pointer (some ⟨R,0,none⟩),.agg #[.int .i64 K,.int .i64 x.k,.int .i64 x.i,.int .i64 x.t,.int .i64 x.m,.int .i64 x.r,.int .i64 o.id,.int .i64 o.src,.int .i64 o.dst,.int .i64 o.amount,.int .i64 o.first,.int .i64 o.every,.int .i64 o.times,.int .i64 n]] w fun e w'=>e=.returned (.int .i64 2)/\Below B w w'/\Boxed w' R:=by
 have hRw:=hX.2.2
 have HX:=hidOf hX
 have BO:Hid (∀W,Calls Tryz.prog 128 #[.agg #[.int .i64 K,.int .i64 x.k,.int .i64 x.i,.int .i64 x.t,.int .i64 x.m,.int .i64 x.r,.int .i64 o.id,.int .i64 o.src,.int .i64 o.dst,.int .i64 o.amount,.int .i64 o.first,.int .i64 o.every,.int .i64 o.times,.int .i64 n]] W fun e w'=>e=.returned (.bool false)/\Below W.heap.size W w'):=fun W=>(implBop K n x o W).mono (by
  rintro e w' ⟨⟨bb,rfl,h1,h2⟩,hB⟩
  cases bb with
  | false=>exact ⟨rfl,hB⟩
  | true=>exact absurd (h1 rfl) hok)
 clear hX hA hO haR hbR hG hb hok
 go_enter Tryz.func83,Tryz.ntmps83
 go_wp2_with fail
 refine (BO.out _).mono ?_
 rintro e w1 ⟨rfl,B1⟩
 go_wp2
 go_ret
 have B2:Below w.heap.size w w1:=((Below.refl _ _).alloc (Nat.le_refl _) _).trans (B1.mono (by simp))
 exact ⟨rfl,B2.mono (by omega),⟨_,_,_,_,_,_,_,HX.out.kept B2 hRw⟩⟩
theorem implRun (B R:Nat) (a b:Option Addr) (c d:Nat) (L:List Acc) (O:List Ord) (k:Bk) (x:OpF) (o:Ord) (n:Int) (p:Nat->Addr) (w:World) (hX:BxK w R (.slice a L.length c) (.slice b O.length d) k) (hA:AL w B (.slice a L.length c) L) (hO:OrdL w B (.slice b O.length d) O) (haR:∀q,(Value.slice a L.length c).ownBlock=some q->q≠R) (hbR:∀q,(Value.slice b O.length d).ownBlock=some q->q≠R) (hBR:B<=R) (hG:GE w p) (hb:bankOk (FL L) L.length (OrdF O) O.length k) (K:Int):
  Calls Tryz.prog 83 #[.pointer (some ⟨R,0,none⟩),.agg #[.int .i64 K,.int .i64 x.k,.int .i64 x.i,.int .i64 x.t,.int .i64 x.m,.int .i64 x.r,.int .i64 o.id,.int .i64 o.src,.int .i64 o.dst,.int .i64 o.amount,.int .i64 o.first,.int .i64 o.every,.int .i64 o.times,.int .i64 n]] w fun e w'=>RunOut (ranS L O k K x o n) B R w e w':=by
 unfold ranS
 by_cases hok:bopOk K x o n
 ·rcases bop_kind hok with rfl|rfl|rfl|rfl
  ·rw[pre_op hok]
   exact implRun_op B R a b c d L O k x o n p w hX hA hO haR hbR hBR hG hb hok
  ·by_cases ht:thereO O o.id
   ·rw[pre_there hok ht]
    exact (implRun_there B R a b c d L O k x o n p w hX hA hO haR hbR hBR hG hb hok ht).mono fun e w' h=>RunOut.no (by simp) h
   ·rw[pre_new hok ht]
    exact (implRun_new B R a b c d L O k x o n p w hX hA hO haR hbR hBR hG hb hok ht).mono fun e w' h=>RunOut.yes rfl h
  ·by_cases ht:thereO O n
   ·rw[pre_cut hok ht]
    exact (implRun_cut B R a b c d L O k x o n p w hX hA hO haR hbR hBR hG hb hok ht).mono fun e w' h=>RunOut.yes rfl h
   ·rw[pre_none hok ht]
    exact (implRun_none B R a b c d L O k x o n p w hX hA hO haR hbR hBR hG hb hok ht).mono fun e w' h=>RunOut.no (by simp) h
  ·by_cases ht:endOk L O k
   ·rw[pre_day hok ht]
    exact (implRun_day B R a b c d L O k x o n p w hX hA hO haR hbR hBR hG hb hok ht).mono fun e w' h=>RunOut.yes rfl h
   ·rw[pre_full hok ht]
    exact (implRun_full B R a b c d L O k x o n p w hX hA hO haR hbR hBR hG hb hok ht).mono fun e w' h=>RunOut.no (by simp) h
 ·rw[pre_form hok]
  exact (implRun_form B R a b c d L O k x o n p w hX hA hO haR hbR hBR hG hb K hok).mono fun e w' h=>RunOut.no (by simp) h
end Go.Proofs.YtghkbhggopiajaaGreatDoor
