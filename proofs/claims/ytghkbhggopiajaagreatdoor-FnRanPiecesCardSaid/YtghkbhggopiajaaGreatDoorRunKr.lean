/- run. -/
import Derived.Test.YtghkbhggopiajaaGreatDoorRunJr
namespace Go.Proofs.YtghkbhggopiajaaGreatDoor
open Value renaming int → Ii,slice → Sl
open IntKind renaming i64 → Jj
open Go.Proofs.Tryz renaming prog → Pg
set_option maxHeartbeats 4000000
open Go.RowKit
set_option maxRecDepth 8000
set_option linter.unusedVariables false
def eR (w:World) (R:Nat):Prop:=∃v0 v1 v2 v3 v4 v5 v6,ak w R v0 v1 v2 v3 v4 v5 v6
theorem g8 {k i t m r:Int} (h:az k i t m r): -1<=m/\m<=1000000000000:=by
 obtain ⟨_,h⟩:=h
 rcases h with h|h|h|h|h|h|h <;>omega
theorem fq {K n:Int} {x:cV} {o:au} (hok:ba K x o n) (W:World):Calls Pg 128 #[.agg #[Ii Jj K,Ii Jj x.k,Ii Jj x.i,Ii Jj x.t,Ii Jj x.m,Ii Jj x.r,Ii Jj o.id,Ii Jj o.src,Ii Jj o.dst,Ii Jj o.amount,Ii Jj o.first,Ii Jj o.every,Ii Jj o.times,Ii Jj n]] W fun e w'=>e=.returned (.bool true)/\Below W.heap.size W w':=(pN K n x o W).mono (by
 rintro e w' ⟨⟨bb,rfl,h1,h2⟩,hB⟩
 cases bb with
 | true=>exact ⟨rfl,hB⟩
 | false=>exact absurd hok (h2 rfl))
theorem dm {K n:Int} {x:cV} {o:au} (hok:ba K x o n) (W:World):Calls Pg 133 #[.agg #[Ii Jj K,Ii Jj x.k,Ii Jj x.i,Ii Jj x.t,Ii Jj x.m,Ii Jj x.r,Ii Jj o.id,Ii Jj o.src,Ii Jj o.dst,Ii Jj o.amount,Ii Jj o.first,Ii Jj o.every,Ii Jj o.times,Ii Jj n]] W fun e w'=>e=.returned (.bool true)/\Below W.heap.size W w':=(nF K n x o W).mono (by
 rintro e w' ⟨⟨bb,rfl,h1,h2⟩,hB⟩
 cases bb with
 | true=>exact ⟨rfl,hB⟩
 | false=>exact absurd hok (h2 rfl))
theorem sH {K n:Int} {x:cV} {o:au} (hok:¬ba K x o n) (W:World):Calls Pg 133 #[.agg #[Ii Jj K,Ii Jj x.k,Ii Jj x.i,Ii Jj x.t,Ii Jj x.m,Ii Jj x.r,Ii Jj o.id,Ii Jj o.src,Ii Jj o.dst,Ii Jj o.amount,Ii Jj o.first,Ii Jj o.every,Ii Jj o.times,Ii Jj n]] W fun e w'=>e=.returned (.bool false)/\Below W.heap.size W w':=(nF K n x o W).mono (by
 rintro e w' ⟨⟨bb,rfl,h1,h2⟩,hB⟩
 cases bb with
 | false=>exact ⟨rfl,hB⟩
 | true=>exact absurd (h1 rfl) hok)
theorem eD (R:Nat) (a b:Option Addr) (c d:Nat) (L:List aj) (O:List au) (k:Bk) (K n:Int) (x:cV) (o:au) (w:World) (hX:bW w R (Sl a L.length c) (Sl b O.length d) k):∃W0,W0=w.alloc (.cells #[Ii Jj K,Ii Jj x.k,Ii Jj x.i,Ii Jj x.t,Ii Jj x.m,Ii Jj x.r,Ii Jj o.id,Ii Jj o.src,Ii Jj o.dst,Ii Jj o.amount,Ii Jj o.first,Ii Jj o.every,Ii Jj o.times,Ii Jj n] 51)/\W0.heap.size=w.heap.size+1/\Below w.heap.size w W0/\bW W0 R (Sl a L.length c) (Sl b O.length d) k/\fk W0 w.heap.size K x o n:=
 ⟨_,rfl,by simp,(Below.refl _ _).alloc (Nat.le_refl _) _,hX.kept ((Below.refl _ _).alloc (Nat.le_refl _) _) hX.2.2,fk.new w _ _ _ _ 51⟩
theorem qG (B R:Nat) (a b:Option Addr) (c d:Nat) (L:List aj) (O:List au) (k:Bk) (x:cV) (p:Nat->Addr) (w:World) (hX:bW w R (Sl a L.length c) (Sl b O.length d) k) (hA:AL w B (Sl a L.length c) L) (hO:ah w B (Sl b O.length d) O) (hbR:∀q,(Value.slice b O.length d).ownBlock=some q->q≠R) (hBR:B<=R) (hG:GE w p) (hR:al (FL L) L.length) (hi:0<=k.inn/\k.inn<=1000000000000000) (hu:0<=k.out/\k.out<=1000000000000000) (hm: -1<=x.m/\x.m<=1000000000000):
  Calls Pg 129 #[.pointer (some ⟨R,0,none⟩),.agg #[Ii Jj x.k,Ii Jj x.i,Ii Jj x.t,Ii Jj x.m,Ii Jj x.r]] w fun e w'=>e=.returned (Ii Jj (am L x.k x.i x.t x.m x.r).1)/\Below B w w'/\∃v,ak w' R (Ii Jj (cM k x).day) (v) (Sl b O.length d) (Ii Jj ((cM k x).inn)) (Ii Jj ((cM k x).out)) (Ii Jj (cM k x).posted) (Ii Jj (cM k x).missed)/\AL w' B v (am L x.k x.i x.t x.m x.r).2/\ah w' B (Sl b O.length d) O:=by
 by_cases h5:x.k=5
 ·have e1:(cM k x).inn=k.inn+x.m:=by simp[cM,h5]
  have e2:(cM k x).out=k.out:=by simp[cM,h5]
  have:=kq B R a b c d L O k x p w hX hA hO hbR hBR hG hR hi hu hm
  rw[e1,e2,h5]
  exact this
 ·by_cases h6:x.k=6
  ·have e1:(cM k x).inn=k.inn:=by simp[cM,h6]
   have e2:(cM k x).out=k.out+x.m:=by simp[cM,h6]
   have:=jR B R a b c d L O k x p w hX hA hO hbR hBR hG hR hi hu hm
   rw[e1,e2,h6]
   exact this
  ·have e1:(cM k x).inn=k.inn:=by simp[cM,h5]
   have e2:(cM k x).out=k.out:=by simp[cM,h6]
   have:=iL B R a b c d L O k x p w hX hA hO hbR hBR hG hR (by simpa using h5) (by simpa using h6)
   rw[e1,e2]
   exact this
def cR (q:Rn) (B R:Nat) (w:World) (e:Ending) (w':World):Prop:=e=.returned (Ii Jj q.code)/\Below B w w'/\eR w' R/\(q.code=0->∃v u,ak w' R (Ii Jj q.k.day) (v) (u) (Ii Jj (q.k.inn)) (Ii Jj (q.k.out)) (Ii Jj q.k.posted) (Ii Jj q.k.missed)/\AL w' B v q.L/\ah w' B u q.O)
theorem cR.no {L:List aj} {O:List au} {k:Bk} {q:Rn} {B R:Nat} {w w':World} {e:Ending} (hq:q.code≠0) (h:e=.returned (Ii Jj q.code)/\Below B w w'/\eR w' R):cR (cG L O k q) B R w e w':=by
 rw[fp hq]
 exact ⟨h.1,h.2.1,h.2.2,fun e=>absurd e hq⟩
theorem cR.yes {L:List aj} {O:List au} {k:Bk} {q:Rn} {B R:Nat} {w w':World} {e:Ending} (hq:q.code=0) (h:(q.ok/\e=.returned (Ii Jj 0)/\Below B w w'/\∃v u,ak w' R (Ii Jj q.k.day) (v) (u) (Ii Jj (q.k.inn)) (Ii Jj (q.k.out)) (Ii Jj q.k.posted) (Ii Jj q.k.missed)/\AL w' B v q.L/\ah w' B u q.O)\/(¬q.ok/\e=.returned (Ii Jj 7)/\Below B w w'/\eR w' R)):cR (cG L O k q) B R w e w':=by
 rcases h with ⟨h0,h1,h2,h3⟩|⟨h0,h1,h2,h3⟩
 ·rw[dQ hq h0]
  obtain ⟨v,u,hx,h4⟩:=h3
  exact ⟨by rw[hq];exact h1,h2,⟨_,_,_,_,_,_,_,hx⟩,fun _=>⟨v,u,hx,h4⟩⟩
 ·rw[dl hq h0]
  exact ⟨h1,h2,h3,fun e=>by simp at e⟩
theorem ph (B R:Nat) (a b:Option Addr) (c d:Nat) (L:List aj) (O:List au) (k:Bk) (x:cV) (o:au) (n:Int) (p:Nat->Addr) (w:World) (hX:bW w R (Sl a L.length c) (Sl b O.length d) k) (hA:AL w B (Sl a L.length c) L) (hO:ah w B (Sl b O.length d) O) (haR:∀q,(Value.slice a L.length c).ownBlock=some q->q≠R) (hbR:∀q,(Value.slice b O.length d).ownBlock=some q->q≠R) (hBR:B<=R) (hG:GE w p) (hb:aq (FL L) L.length (ae O) O.length k) (hok:ba 19 x o n):
  Calls Pg 83 #[.pointer (some ⟨R,0,none⟩),.agg #[Ii Jj 19,Ii Jj x.k,Ii Jj x.i,Ii Jj x.t,Ii Jj x.m,Ii Jj x.r,Ii Jj o.id,Ii Jj o.src,Ii Jj o.dst,Ii Jj o.amount,Ii Jj o.first,Ii Jj o.every,Ii Jj o.times,Ii Jj n]] w fun e w'=>cR (cG L O k ⟨(am L x.k x.i x.t x.m x.r).1,(am L x.k x.i x.t x.m x.r).2,O,cM k x⟩) B R w e w':=by
 obtain ⟨hday,hR,hRO,hi,hu,hpo,hmi,htot⟩:=id hb
 have hl12:L.length<=12:=hR.1
 have hol:O.length<=8:=hRO.1
 obtain ⟨W0,hW0,hz0,b0,x0,q0⟩:=eD R a b c d L O k 19 n x o w hX
 have X0:=aa x0
 have Q0:=aa q0
 have A0:=aa (hA.kept b0)
 have O0:=aa (hO.kept b0)
 have G0:=aa (hG.below b0)
 have HB0:=aa b0
 have HW0:=aa hW0
 have HAR:=aa haR
 have HBR:=aa hbR
 have HBK:=aa hb
 have hRw:=hX.2.2
 have BO:=aa (fun W=>fq hok W)
 have hm:=g8 ((sE n x o).1 hok).1
 have ROP:Hid (∀W,Below w.heap.size w W->bW W R (Sl a L.length c) (Sl b O.length d) k->AL W B (Sl a L.length c) L->ah W B (Sl b O.length d) O->GE W p->Calls Pg 129 #[.pointer (some ⟨R,0,none⟩),.agg #[Ii Jj x.k,Ii Jj x.i,Ii Jj x.t,Ii Jj x.m,Ii Jj x.r]] W fun e w'=>e=.returned (Ii Jj (am L x.k x.i x.t x.m x.r).1)/\Below B W w'/\∃v,ak w' R (Ii Jj (cM k x).day) (v) (Sl b O.length d) (Ii Jj ((cM k x).inn)) (Ii Jj ((cM k x).out)) (Ii Jj (cM k x).posted) (Ii Jj (cM k x).missed)/\AL w' B v (am L x.k x.i x.t x.m x.r).2/\ah w' B (Sl b O.length d) O):=fun W _ h1 h2 h3 h4=>by
  have:=qG B R a b c d L O k x p W h1 h2 h3 hbR hBR h4 hR hi hu hm
  exact this
 clear hm
 have hDl:(am L x.k x.i x.t x.m x.r).2.length<=13:=by have:=fZ L x.k x.i x.t x.m x.r;omega
 generalize (am L x.k x.i x.t x.m x.r).1=D1 at*
 generalize (am L x.k x.i x.t x.m x.r).2=D2 at*
 generalize cM k x=K2 at*
 clear hW0 b0 x0 q0 hX hO hA hG haR hbR hb hday hR hRO hi hu hpo hmi htot hok
 go_enter Tryz.func83,Tryz.ntmps83
 go_wp2_with fail
 rw[←HW0.out]
 clear HW0
 refine (BO.out _).mono ?_
 rintro e w1 ⟨rfl,B1⟩
 have hs1:=B1.size
 have X1:=aa (X0.out.kept B1 X0.out.2.2)
 have Q1:=aa (Q0.out.kept B1 Q0.out.2)
 have A1:=aa (A0.out.kept B1)
 have O1:=aa (O0.out.kept B1)
 have G1:=aa (G0.out.below B1)
 have HB1:=aa (HB0.out.trans (B1.mono HB0.out.size))
 clear X0 Q0 A0 O0 G0 HB0 B1 BO
 obtain ⟨⟨c0,c1,c2,c3,c4,c5,c6,c7,c8,c9,c10,c11,c12,c13⟩,cz⟩:=Q1.out
 go_wp2_with fail
 refine (ROP.out w1 HB1.out X1.out A1.out O1.out G1.out).mono ?_
 rintro e w2 ⟨rfl,B2,v2,X2,A2,O2⟩
 clear c0 c1 c2 c3 c4 c5 c6 c7 c8 c9 c10 c11 c12 c13 cz X1 Q1 A1 O1 G1
 by_cases hc:D1=0
 ·subst hc
  obtain ⟨a2,c2,hv⟩:=A2.len
  subst hv
  clear ROP
  have HX2:=aa X2
  have HA2:=aa A2
  have HO2:=aa O2
  have HB2:=aa ((HB1.out.mono (by omega)).trans B2)
  have BNK:Hid (Calls Pg 27 #[.agg #[Ii Jj K2.day,Sl a2 D2.length c2,Sl b O.length d,Ii Jj K2.inn,Ii Jj K2.out,Ii Jj K2.posted,Ii Jj K2.missed]] w2 fun e w'=>af e (Rn.mk 0 D2 O K2).ok/\Below w2.heap.size w2 w'):=cZ _ _ _ _ _ _ (FL D2) (ae O) K2 w2 (A2.fo (by omega)).2 (O2.list (by omega)).2
  obtain ⟨⟨s0,s1,s2,s3,s4,s5,s6⟩,sf,sz⟩:=X2
  clear A2 O2 B2 HB1
  go_wp2_with fail
  refine BNK.out.mono ?_
  rintro e w3 ⟨⟨bb,rfl,hb1,hb2⟩,B3⟩
  have X3:=aa (HX2.out.kept B3 HX2.out.2.2)
  have A3:=aa (HA2.out.kept B3)
  have O3:=aa (HO2.out.kept B3)
  have HB3:Hid (Below B w w3):=HB2.out.trans (B3.mono (by omega))
  clear s0 s1 s2 s3 s4 s5 s6 sf sz BNK HX2 HA2 HO2 HB2 B3
  cases bb with
  | true=>
   have HN:Hid ((Rn.mk 0 D2 O K2).ok):=hb1 rfl
   clear hb1 hb2
   go_wp2
   go_ret
   exact cR.yes (q:=⟨0,D2,O,K2⟩) rfl (Or.inl ⟨HN.out,rfl,HB3.out,_,_,X3.out,A3.out,O3.out⟩)
  | false=>
   have HN:Hid (¬(Rn.mk 0 D2 O K2).ok):=hb2 rfl
   clear hb1 hb2
   go_wp2
   go_ret
   exact cR.yes (q:=⟨0,D2,O,K2⟩) rfl (Or.inr ⟨HN.out,rfl,HB3.out,⟨_,_,_,_,_,_,_,X3.out⟩⟩)
 ·have hcb:(D1 == 0)=false:=by simpa using hc
  have HC:=aa hc
  have HB2:=aa (((HB1.out.mono (by omega)).trans B2))
  have HX2:Hid (eR w2 R):=⟨_,_,_,_,_,_,_,X2⟩
  clear B2 HB1 X2 A2 O2 ROP hc
  go_wp2
  go_ret
  exact cR.no (q:=⟨D1,D2,O,K2⟩) HC.out ⟨rfl,HB2.out,HX2.out⟩
theorem kr (B R:Nat) (a b:Option Addr) (c d:Nat) (L:List aj) (O:List au) (k:Bk) (x:cV) (o:au) (n:Int) (p:Nat->Addr) (w:World) (hX:bW w R (Sl a L.length c) (Sl b O.length d) k) (hA:AL w B (Sl a L.length c) L) (hO:ah w B (Sl b O.length d) O) (haR:∀q,(Value.slice a L.length c).ownBlock=some q->q≠R) (hbR:∀q,(Value.slice b O.length d).ownBlock=some q->q≠R) (hBR:B<=R) (hG:GE w p) (hb:aq (FL L) L.length (ae O) O.length k) (hok:ba 20 x o n) (ht:bv O o.id):
  Calls Pg 83 #[.pointer (some ⟨R,0,none⟩),.agg #[Ii Jj 20,Ii Jj x.k,Ii Jj x.i,Ii Jj x.t,Ii Jj x.m,Ii Jj x.r,Ii Jj o.id,Ii Jj o.src,Ii Jj o.dst,Ii Jj o.amount,Ii Jj o.first,Ii Jj o.every,Ii Jj o.times,Ii Jj n]] w fun e w'=>e=.returned (Ii Jj 4)/\Below B w w'/\eR w' R:=by
 obtain ⟨hday,hR,hRO,hi,hu,hpo,hmi,htot⟩:=id hb
 have hl12:L.length<=12:=hR.1
 have hol:O.length<=8:=hRO.1
 obtain ⟨W0,hW0,hz0,b0,x0,q0⟩:=eD R a b c d L O k 20 n x o w hX
 have X0:=aa x0
 have Q0:=aa q0
 have A0:=aa (hA.kept b0)
 have O0:=aa (hO.kept b0)
 have G0:=aa (hG.below b0)
 have HB0:=aa b0
 have HW0:=aa hW0
 have HAR:=aa haR
 have HBR:=aa hbR
 have HBK:=aa hb
 have hRw:=hX.2.2
 have BO:=aa (fun W=>fq hok W)
 have HT:=aa ht
 have HRO:=aa hRO
 clear ht
 clear hW0 b0 x0 q0 hX hO hA hG haR hbR hb hday hR hRO hi hu hpo hmi htot hok
 go_enter Tryz.func83,Tryz.ntmps83
 go_wp2_with fail
 rw[←HW0.out]
 clear HW0
 refine (BO.out _).mono ?_
 rintro e w1 ⟨rfl,B1⟩
 have hs1:=B1.size
 have X1:=aa (X0.out.kept B1 X0.out.2.2)
 have Q1:=aa (Q0.out.kept B1 Q0.out.2)
 have A1:=aa (A0.out.kept B1)
 have O1:=aa (O0.out.kept B1)
 have G1:=aa (G0.out.below B1)
 have HB1:=aa (HB0.out.trans (B1.mono HB0.out.size))
 clear X0 Q0 A0 O0 G0 HB0 B1 BO
 obtain ⟨⟨c0,c1,c2,c3,c4,c5,c6,c7,c8,c9,c10,c11,c12,c13⟩,cz⟩:=Q1.out
 go_wp2_with fail
 refine (kp R a b c d L O k o w1 X1.out (O1.out.list (by omega)).2 HRO.out HT.out).mono ?_
 rintro e w2 ⟨rfl,B2⟩
 clear c0 c1 c2 c3 c4 c5 c6 c7 c8 c9 c10 c11 c12 c13 cz
 have HB2:Hid (Below B w w2):=((HB1.out.trans (B2.mono HB1.out.size)).mono (by omega))
 have HX2:Hid (eR w2 R):=⟨_,_,_,_,_,_,_,X1.out.kept B2 X1.out.2.2⟩
 clear B2 HB1 X1 Q1 A1 O1 G1
 go_wp2
 go_ret
 exact ⟨rfl,HB2.out,HX2.out⟩
theorem nN (B R:Nat) (a b:Option Addr) (c d:Nat) (L:List aj) (O:List au) (k:Bk) (x:cV) (o:au) (n:Int) (p:Nat->Addr) (w:World) (hX:bW w R (Sl a L.length c) (Sl b O.length d) k) (hA:AL w B (Sl a L.length c) L) (hO:ah w B (Sl b O.length d) O) (haR:∀q,(Value.slice a L.length c).ownBlock=some q->q≠R) (hbR:∀q,(Value.slice b O.length d).ownBlock=some q->q≠R) (hBR:B<=R) (hG:GE w p) (hb:aq (FL L) L.length (ae O) O.length k) (hok:ba 20 x o n) (ht:¬bv O o.id):
  Calls Pg 83 #[.pointer (some ⟨R,0,none⟩),.agg #[Ii Jj 20,Ii Jj x.k,Ii Jj x.i,Ii Jj x.t,Ii Jj x.m,Ii Jj x.r,Ii Jj o.id,Ii Jj o.src,Ii Jj o.dst,Ii Jj o.amount,Ii Jj o.first,Ii Jj o.every,Ii Jj o.times,Ii Jj n]] w fun e w'=>((Rn.mk 0 L (bd O o) k).ok/\e=.returned (Ii Jj 0)/\Below B w w'/\∃v u,bW w' R (v) (u) k/\AL w' B v L/\ah w' B u (bd O o))\/(¬(Rn.mk 0 L (bd O o) k).ok/\e=.returned (Ii Jj 7)/\Below B w w'/\eR w' R):=by
 obtain ⟨hday,hR,hRO,hi,hu,hpo,hmi,htot⟩:=id hb
 have hl12:L.length<=12:=hR.1
 have hol:O.length<=8:=hRO.1
 obtain ⟨W0,hW0,hz0,b0,x0,q0⟩:=eD R a b c d L O k 20 n x o w hX
 have X0:=aa x0
 have Q0:=aa q0
 have A0:=aa (hA.kept b0)
 have O0:=aa (hO.kept b0)
 have G0:=aa (hG.below b0)
 have HB0:=aa b0
 have HW0:=aa hW0
 have HAR:=aa haR
 have HBR:=aa hbR
 have HBK:=aa hb
 have hRw:=hX.2.2
 have BO:=aa (fun W=>fq hok W)
 have HT:=aa ht
 have HRO:=aa hRO
 have hnl:(bd O o).length<=O.length+1:=Nat.le_of_eq (jL O o)
 clear ht
 clear hW0 b0 x0 q0 hX hO hA hG haR hbR hb hday hR hRO hi hu hpo hmi htot hok
 go_enter Tryz.func83,Tryz.ntmps83
 go_wp2_with fail
 rw[←HW0.out]
 clear HW0
 refine (BO.out _).mono ?_
 rintro e w1 ⟨rfl,B1⟩
 have hs1:=B1.size
 have X1:=aa (X0.out.kept B1 X0.out.2.2)
 have Q1:=aa (Q0.out.kept B1 Q0.out.2)
 have A1:=aa (A0.out.kept B1)
 have O1:=aa (O0.out.kept B1)
 have G1:=aa (G0.out.below B1)
 have HB1:=aa (HB0.out.trans (B1.mono HB0.out.size))
 clear X0 Q0 A0 O0 G0 HB0 B1 BO
 obtain ⟨⟨c0,c1,c2,c3,c4,c5,c6,c7,c8,c9,c10,c11,c12,c13⟩,cz⟩:=Q1.out
 go_wp2_with fail
 refine (nK B R a b c d L O k o w1 X1.out A1.out O1.out HAR.out HBR.out hBR HRO.out HT.out).mono ?_
 rintro e w2 ⟨rfl,B2,u2,X2,A2,O2⟩
 clear c0 c1 c2 c3 c4 c5 c6 c7 c8 c9 c10 c11 c12 c13 cz X1 Q1 A1 O1 G1
 obtain ⟨b2,d2,hv⟩:=O2.len
 subst hv
 have HX2:=aa X2
 have HA2:=aa A2
 have HO2:=aa O2
 have HB2:=aa ((HB1.out.mono (by omega)).trans B2)
 have BNK:Hid (Calls Pg 27 #[.agg #[Ii Jj k.day,Sl a L.length c,Sl b2 (bd O o).length d2,Ii Jj k.inn,Ii Jj k.out,Ii Jj k.posted,Ii Jj k.missed]] w2 fun e w'=>af e (Rn.mk 0 L (bd O o) k).ok/\Below w2.heap.size w2 w'):=cZ _ _ _ _ _ _ (FL L) (ae (bd O o)) k w2 (A2.fo (by omega)).2 (O2.list (by omega)).2
 obtain ⟨⟨s0,s1,s2,s3,s4,s5,s6⟩,sf,sz⟩:=X2
 clear A2 O2 B2 HB1
 go_wp2_with fail
 refine BNK.out.mono ?_
 rintro e w3 ⟨⟨bb,rfl,hb1,hb2⟩,B3⟩
 have X3:=aa (HX2.out.kept B3 HX2.out.2.2)
 have A3:=aa (HA2.out.kept B3)
 have O3:=aa (HO2.out.kept B3)
 have HB3:Hid (Below B w w3):=HB2.out.trans (B3.mono (by omega))
 clear s0 s1 s2 s3 s4 s5 s6 sf sz BNK HX2 HA2 HO2 HB2 B3
 cases bb with
 | true=>
  have HN:Hid ((Rn.mk 0 L (bd O o) k).ok):=hb1 rfl
  clear hb1 hb2
  go_wp2
  go_ret
  exact Or.inl ⟨HN.out,rfl,HB3.out,_,_,X3.out,A3.out,O3.out⟩
 | false=>
  have HN:Hid (¬(Rn.mk 0 L (bd O o) k).ok):=hb2 rfl
  clear hb1 hb2
  go_wp2
  go_ret
  exact Or.inr ⟨HN.out,rfl,HB3.out,⟨_,_,_,_,_,_,_,X3.out⟩⟩
theorem lS (B R:Nat) (a b:Option Addr) (c d:Nat) (L:List aj) (O:List au) (k:Bk) (x:cV) (o:au) (n:Int) (p:Nat->Addr) (w:World) (hX:bW w R (Sl a L.length c) (Sl b O.length d) k) (hA:AL w B (Sl a L.length c) L) (hO:ah w B (Sl b O.length d) O) (haR:∀q,(Value.slice a L.length c).ownBlock=some q->q≠R) (hbR:∀q,(Value.slice b O.length d).ownBlock=some q->q≠R) (hBR:B<=R) (hG:GE w p) (hb:aq (FL L) L.length (ae O) O.length k) (hok:ba 21 x o n) (ht:¬bv O n):
  Calls Pg 83 #[.pointer (some ⟨R,0,none⟩),.agg #[Ii Jj 21,Ii Jj x.k,Ii Jj x.i,Ii Jj x.t,Ii Jj x.m,Ii Jj x.r,Ii Jj o.id,Ii Jj o.src,Ii Jj o.dst,Ii Jj o.amount,Ii Jj o.first,Ii Jj o.every,Ii Jj o.times,Ii Jj n]] w fun e w'=>e=.returned (Ii Jj 3)/\Below B w w'/\eR w' R:=by
 obtain ⟨hday,hR,hRO,hi,hu,hpo,hmi,htot⟩:=id hb
 have hl12:L.length<=12:=hR.1
 have hol:O.length<=8:=hRO.1
 obtain ⟨W0,hW0,hz0,b0,x0,q0⟩:=eD R a b c d L O k 21 n x o w hX
 have X0:=aa x0
 have Q0:=aa q0
 have A0:=aa (hA.kept b0)
 have O0:=aa (hO.kept b0)
 have G0:=aa (hG.below b0)
 have HB0:=aa b0
 have HW0:=aa hW0
 have HAR:=aa haR
 have HBR:=aa hbR
 have HBK:=aa hb
 have hRw:=hX.2.2
 have BO:=aa (fun W=>fq hok W)
 have HT:=aa ht
 have HRO:=aa hRO
 clear ht
 clear hW0 b0 x0 q0 hX hO hA hG haR hbR hb hday hR hRO hi hu hpo hmi htot hok
 go_enter Tryz.func83,Tryz.ntmps83
 go_wp2_with fail
 rw[←HW0.out]
 clear HW0
 refine (BO.out _).mono ?_
 rintro e w1 ⟨rfl,B1⟩
 have hs1:=B1.size
 have X1:=aa (X0.out.kept B1 X0.out.2.2)
 have Q1:=aa (Q0.out.kept B1 Q0.out.2)
 have A1:=aa (A0.out.kept B1)
 have O1:=aa (O0.out.kept B1)
 have G1:=aa (G0.out.below B1)
 have HB1:=aa (HB0.out.trans (B1.mono HB0.out.size))
 clear X0 Q0 A0 O0 G0 HB0 B1 BO
 obtain ⟨⟨c0,c1,c2,c3,c4,c5,c6,c7,c8,c9,c10,c11,c12,c13⟩,cz⟩:=Q1.out
 go_wp2_with fail
 refine (lR R a b c d L O k n w1 X1.out (O1.out.list (by omega)).2 HRO.out HT.out).mono ?_
 rintro e w2 ⟨rfl,B2⟩
 clear c0 c1 c2 c3 c4 c5 c6 c7 c8 c9 c10 c11 c12 c13 cz
 have HB2:Hid (Below B w w2):=((HB1.out.trans (B2.mono HB1.out.size)).mono (by omega))
 have HX2:Hid (eR w2 R):=⟨_,_,_,_,_,_,_,X1.out.kept B2 X1.out.2.2⟩
 clear B2 HB1 X1 Q1 A1 O1 G1
 go_wp2
 go_ret
 exact ⟨rfl,HB2.out,HX2.out⟩
theorem nO (B R:Nat) (a b:Option Addr) (c d:Nat) (L:List aj) (O:List au) (k:Bk) (x:cV) (o:au) (n:Int) (p:Nat->Addr) (w:World) (hX:bW w R (Sl a L.length c) (Sl b O.length d) k) (hA:AL w B (Sl a L.length c) L) (hO:ah w B (Sl b O.length d) O) (haR:∀q,(Value.slice a L.length c).ownBlock=some q->q≠R) (hbR:∀q,(Value.slice b O.length d).ownBlock=some q->q≠R) (hBR:B<=R) (hG:GE w p) (hb:aq (FL L) L.length (ae O) O.length k) (hok:ba 21 x o n) (ht:bv O n):
  Calls Pg 83 #[.pointer (some ⟨R,0,none⟩),.agg #[Ii Jj 21,Ii Jj x.k,Ii Jj x.i,Ii Jj x.t,Ii Jj x.m,Ii Jj x.r,Ii Jj o.id,Ii Jj o.src,Ii Jj o.dst,Ii Jj o.amount,Ii Jj o.first,Ii Jj o.every,Ii Jj o.times,Ii Jj n]] w fun e w'=>((Rn.mk 0 L (cQ O n) k).ok/\e=.returned (Ii Jj 0)/\Below B w w'/\∃v u,bW w' R (v) (u) k/\AL w' B v L/\ah w' B u (cQ O n))\/(¬(Rn.mk 0 L (cQ O n) k).ok/\e=.returned (Ii Jj 7)/\Below B w w'/\eR w' R):=by
 obtain ⟨hday,hR,hRO,hi,hu,hpo,hmi,htot⟩:=id hb
 have hl12:L.length<=12:=hR.1
 have hol:O.length<=8:=hRO.1
 obtain ⟨W0,hW0,hz0,b0,x0,q0⟩:=eD R a b c d L O k 21 n x o w hX
 have X0:=aa x0
 have Q0:=aa q0
 have A0:=aa (hA.kept b0)
 have O0:=aa (hO.kept b0)
 have G0:=aa (hG.below b0)
 have HB0:=aa b0
 have HW0:=aa hW0
 have HAR:=aa haR
 have HBR:=aa hbR
 have HBK:=aa hb
 have hRw:=hX.2.2
 have BO:=aa (fun W=>fq hok W)
 have HT:=aa ht
 have HRO:=aa hRO
 have hnl:=nJ O n
 clear ht
 clear hW0 b0 x0 q0 hX hO hA hG haR hbR hb hday hR hRO hi hu hpo hmi htot hok
 go_enter Tryz.func83,Tryz.ntmps83
 go_wp2_with fail
 rw[←HW0.out]
 clear HW0
 refine (BO.out _).mono ?_
 rintro e w1 ⟨rfl,B1⟩
 have hs1:=B1.size
 have X1:=aa (X0.out.kept B1 X0.out.2.2)
 have Q1:=aa (Q0.out.kept B1 Q0.out.2)
 have A1:=aa (A0.out.kept B1)
 have O1:=aa (O0.out.kept B1)
 have G1:=aa (G0.out.below B1)
 have HB1:=aa (HB0.out.trans (B1.mono HB0.out.size))
 clear X0 Q0 A0 O0 G0 HB0 B1 BO
 obtain ⟨⟨c0,c1,c2,c3,c4,c5,c6,c7,c8,c9,c10,c11,c12,c13⟩,cz⟩:=Q1.out
 go_wp2_with fail
 refine (nL B R a b c d L O k n w1 X1.out A1.out O1.out HAR.out HBR.out hBR HRO.out HT.out).mono ?_
 rintro e w2 ⟨rfl,B2,u2,X2,A2,O2⟩
 clear c0 c1 c2 c3 c4 c5 c6 c7 c8 c9 c10 c11 c12 c13 cz X1 Q1 A1 O1 G1
 obtain ⟨b2,d2,hv⟩:=O2.len
 subst hv
 have HX2:=aa X2
 have HA2:=aa A2
 have HO2:=aa O2
 have HB2:=aa ((HB1.out.mono (by omega)).trans B2)
 have BNK:Hid (Calls Pg 27 #[.agg #[Ii Jj k.day,Sl a L.length c,Sl b2 (cQ O n).length d2,Ii Jj k.inn,Ii Jj k.out,Ii Jj k.posted,Ii Jj k.missed]] w2 fun e w'=>af e (Rn.mk 0 L (cQ O n) k).ok/\Below w2.heap.size w2 w'):=cZ _ _ _ _ _ _ (FL L) (ae (cQ O n)) k w2 (A2.fo (by omega)).2 (O2.list (by omega)).2
 obtain ⟨⟨s0,s1,s2,s3,s4,s5,s6⟩,sf,sz⟩:=X2
 clear A2 O2 B2 HB1
 go_wp2_with fail
 refine BNK.out.mono ?_
 rintro e w3 ⟨⟨bb,rfl,hb1,hb2⟩,B3⟩
 have X3:=aa (HX2.out.kept B3 HX2.out.2.2)
 have A3:=aa (HA2.out.kept B3)
 have O3:=aa (HO2.out.kept B3)
 have HB3:Hid (Below B w w3):=HB2.out.trans (B3.mono (by omega))
 clear s0 s1 s2 s3 s4 s5 s6 sf sz BNK HX2 HA2 HO2 HB2 B3
 cases bb with
 | true=>
  have HN:Hid ((Rn.mk 0 L (cQ O n) k).ok):=hb1 rfl
  clear hb1 hb2
  go_wp2
  go_ret
  exact Or.inl ⟨HN.out,rfl,HB3.out,_,_,X3.out,A3.out,O3.out⟩
 | false=>
  have HN:Hid (¬(Rn.mk 0 L (cQ O n) k).ok):=hb2 rfl
  clear hb1 hb2
  go_wp2
  go_ret
  exact Or.inr ⟨HN.out,rfl,HB3.out,⟨_,_,_,_,_,_,_,X3.out⟩⟩
theorem lT (B R:Nat) (a b:Option Addr) (c d:Nat) (L:List aj) (O:List au) (k:Bk) (x:cV) (o:au) (n:Int) (p:Nat->Addr) (w:World) (hX:bW w R (Sl a L.length c) (Sl b O.length d) k) (hA:AL w B (Sl a L.length c) L) (hO:ah w B (Sl b O.length d) O) (haR:∀q,(Value.slice a L.length c).ownBlock=some q->q≠R) (hbR:∀q,(Value.slice b O.length d).ownBlock=some q->q≠R) (hBR:B<=R) (hG:GE w p) (hb:aq (FL L) L.length (ae O) O.length k) (hok:ba 22 x o n) (ht:¬cU L O k):
  Calls Pg 83 #[.pointer (some ⟨R,0,none⟩),.agg #[Ii Jj 22,Ii Jj x.k,Ii Jj x.i,Ii Jj x.t,Ii Jj x.m,Ii Jj x.r,Ii Jj o.id,Ii Jj o.src,Ii Jj o.dst,Ii Jj o.amount,Ii Jj o.first,Ii Jj o.every,Ii Jj o.times,Ii Jj n]] w fun e w'=>e=.returned (Ii Jj 7)/\Below B w w'/\eR w' R:=by
 obtain ⟨hday,hR,hRO,hi,hu,hpo,hmi,htot⟩:=id hb
 have hl12:L.length<=12:=hR.1
 have hol:O.length<=8:=hRO.1
 obtain ⟨W0,hW0,hz0,b0,x0,q0⟩:=eD R a b c d L O k 22 n x o w hX
 have X0:=aa x0
 have Q0:=aa q0
 have A0:=aa (hA.kept b0)
 have O0:=aa (hO.kept b0)
 have G0:=aa (hG.below b0)
 have HB0:=aa b0
 have HW0:=aa hW0
 have HAR:=aa haR
 have HBR:=aa hbR
 have HBK:=aa hb
 have hRw:=hX.2.2
 have BO:=aa (fun W=>fq hok W)
 have HT:=aa ht
 clear ht
 clear hW0 b0 x0 q0 hX hO hA hG haR hbR hb hday hR hRO hi hu hpo hmi htot hok
 go_enter Tryz.func83,Tryz.ntmps83
 go_wp2_with fail
 rw[←HW0.out]
 clear HW0
 refine (BO.out _).mono ?_
 rintro e w1 ⟨rfl,B1⟩
 have hs1:=B1.size
 have X1:=aa (X0.out.kept B1 X0.out.2.2)
 have Q1:=aa (Q0.out.kept B1 Q0.out.2)
 have A1:=aa (A0.out.kept B1)
 have O1:=aa (O0.out.kept B1)
 have G1:=aa (G0.out.below B1)
 have HB1:=aa (HB0.out.trans (B1.mono HB0.out.size))
 clear X0 Q0 A0 O0 G0 HB0 B1 BO
 obtain ⟨⟨c0,c1,c2,c3,c4,c5,c6,c7,c8,c9,c10,c11,c12,c13⟩,cz⟩:=Q1.out
 go_wp2_with fail
 refine (pg R a b c d L O k p w1 X1.out (A1.out.fo (by omega)).2 (O1.out.list (by omega)).2 G1.out HT.out).mono ?_
 rintro e w2 ⟨rfl,B2⟩
 clear c0 c1 c2 c3 c4 c5 c6 c7 c8 c9 c10 c11 c12 c13 cz
 have HB2:Hid (Below B w w2):=((HB1.out.trans (B2.mono HB1.out.size)).mono (by omega))
 have HX2:Hid (eR w2 R):=⟨_,_,_,_,_,_,_,X1.out.kept B2 X1.out.2.2⟩
 clear B2 HB1 X1 Q1 A1 O1 G1
 go_wp2
 go_ret
 exact ⟨rfl,HB2.out,HX2.out⟩
theorem nQ (B R:Nat) (a b:Option Addr) (c d:Nat) (L:List aj) (O:List au) (k:Bk) (x:cV) (o:au) (n:Int) (p:Nat->Addr) (w:World) (hX:bW w R (Sl a L.length c) (Sl b O.length d) k) (hA:AL w B (Sl a L.length c) L) (hO:ah w B (Sl b O.length d) O) (haR:∀q,(Value.slice a L.length c).ownBlock=some q->q≠R) (hbR:∀q,(Value.slice b O.length d).ownBlock=some q->q≠R) (hBR:B<=R) (hG:GE w p) (hb:aq (FL L) L.length (ae O) O.length k) (hok:ba 22 x o n) (ht:cU L O k):
  Calls Pg 83 #[.pointer (some ⟨R,0,none⟩),.agg #[Ii Jj 22,Ii Jj x.k,Ii Jj x.i,Ii Jj x.t,Ii Jj x.m,Ii Jj x.r,Ii Jj o.id,Ii Jj o.src,Ii Jj o.dst,Ii Jj o.amount,Ii Jj o.first,Ii Jj o.every,Ii Jj o.times,Ii Jj n]] w fun e w'=>((Rn.mk 0 (ct L O k) (bU O k) (bh L O k)).ok/\e=.returned (Ii Jj 0)/\Below B w w'/\∃v u,bW w' R (v) (u) (bh L O k)/\AL w' B v (ct L O k)/\ah w' B u (bU O k))\/(¬(Rn.mk 0 (ct L O k) (bU O k) (bh L O k)).ok/\e=.returned (Ii Jj 7)/\Below B w w'/\eR w' R):=by
 obtain ⟨hday,hR,hRO,hi,hu,hpo,hmi,htot⟩:=id hb
 have hl12:L.length<=12:=hR.1
 have hol:O.length<=8:=hRO.1
 obtain ⟨W0,hW0,hz0,b0,x0,q0⟩:=eD R a b c d L O k 22 n x o w hX
 have X0:=aa x0
 have Q0:=aa q0
 have A0:=aa (hA.kept b0)
 have O0:=aa (hO.kept b0)
 have G0:=aa (hG.below b0)
 have HB0:=aa b0
 have HW0:=aa hW0
 have HAR:=aa haR
 have HBR:=aa hbR
 have HBK:=aa hb
 have hRw:=hX.2.2
 have BO:=aa (fun W=>fq hok W)
 have HT:=aa ht
 have hla:(ct L O k).length<=L.length:=Nat.le_of_eq (db _ _)
 have hlo:(bU O k).length<=O.length:=List.length_filter_le _ _
 clear ht
 clear hW0 b0 x0 q0 hX hO hA hG haR hbR hb hday hR hRO hi hu hpo hmi htot hok
 go_enter Tryz.func83,Tryz.ntmps83
 go_wp2_with fail
 rw[←HW0.out]
 clear HW0
 refine (BO.out _).mono ?_
 rintro e w1 ⟨rfl,B1⟩
 have hs1:=B1.size
 have X1:=aa (X0.out.kept B1 X0.out.2.2)
 have Q1:=aa (Q0.out.kept B1 Q0.out.2)
 have A1:=aa (A0.out.kept B1)
 have O1:=aa (O0.out.kept B1)
 have G1:=aa (G0.out.below B1)
 have HB1:=aa (HB0.out.trans (B1.mono HB0.out.size))
 clear X0 Q0 A0 O0 G0 HB0 B1 BO
 obtain ⟨⟨c0,c1,c2,c3,c4,c5,c6,c7,c8,c9,c10,c11,c12,c13⟩,cz⟩:=Q1.out
 go_wp2_with fail
 refine (nM B R a b c d L O k p w1 X1.out (A1.out.fo (by omega)).2 (O1.out.list (by omega)).2 G1.out hBR HBK.out HT.out).mono ?_
 rintro e w2 ⟨rfl,B2,v2,u2,X2,A2,O2⟩
 clear c0 c1 c2 c3 c4 c5 c6 c7 c8 c9 c10 c11 c12 c13 cz X1 Q1 A1 O1 G1
 obtain ⟨a2,c2,hv⟩:=A2.len
 subst hv
 obtain ⟨b2,d2,hv⟩:=O2.len
 subst hv
 have HX2:=aa X2
 have HA2:=aa A2
 have HO2:=aa O2
 have HB2:=aa ((HB1.out.mono (by omega)).trans B2)
 have BNK:Hid (Calls Pg 27 #[.agg #[Ii Jj (bh L O k).day,Sl a2 (ct L O k).length c2,Sl b2 (bU O k).length d2,Ii Jj (bh L O k).inn,Ii Jj (bh L O k).out,Ii Jj (bh L O k).posted,Ii Jj (bh L O k).missed]] w2 fun e w'=>af e (Rn.mk 0 (ct L O k) (bU O k) (bh L O k)).ok/\Below w2.heap.size w2 w'):=cZ _ _ _ _ _ _ (FL (ct L O k)) (ae (bU O k)) (bh L O k) w2 (A2.fo (by omega)).2 (O2.list (by omega)).2
 obtain ⟨⟨s0,s1,s2,s3,s4,s5,s6⟩,sf,sz⟩:=X2
 clear A2 O2 B2 HB1
 go_wp2_with fail
 refine BNK.out.mono ?_
 rintro e w3 ⟨⟨bb,rfl,hb1,hb2⟩,B3⟩
 have X3:=aa (HX2.out.kept B3 HX2.out.2.2)
 have A3:=aa (HA2.out.kept B3)
 have O3:=aa (HO2.out.kept B3)
 have HB3:Hid (Below B w w3):=HB2.out.trans (B3.mono (by omega))
 clear s0 s1 s2 s3 s4 s5 s6 sf sz BNK HX2 HA2 HO2 HB2 B3
 cases bb with
 | true=>
  have HN:Hid ((Rn.mk 0 (ct L O k) (bU O k) (bh L O k)).ok):=hb1 rfl
  clear hb1 hb2
  go_wp2
  go_ret
  exact Or.inl ⟨HN.out,rfl,HB3.out,_,_,X3.out,A3.out,O3.out⟩
 | false=>
  have HN:Hid (¬(Rn.mk 0 (ct L O k) (bU O k) (bh L O k)).ok):=hb2 rfl
  clear hb1 hb2
  go_wp2
  go_ret
  exact Or.inr ⟨HN.out,rfl,HB3.out,⟨_,_,_,_,_,_,_,X3.out⟩⟩
theorem lU (B R:Nat) (a b:Option Addr) (c d:Nat) (L:List aj) (O:List au) (k:Bk) (x:cV) (o:au) (n:Int) (p:Nat->Addr) (w:World) (hX:bW w R (Sl a L.length c) (Sl b O.length d) k) (hA:AL w B (Sl a L.length c) L) (hO:ah w B (Sl b O.length d) O) (haR:∀q,(Value.slice a L.length c).ownBlock=some q->q≠R) (hbR:∀q,(Value.slice b O.length d).ownBlock=some q->q≠R) (hBR:B<=R) (hG:GE w p) (hb:aq (FL L) L.length (ae O) O.length k) (K:Int) (hok:¬ba K x o n):
  Calls Pg 83 #[.pointer (some ⟨R,0,none⟩),.agg #[Ii Jj K,Ii Jj x.k,Ii Jj x.i,Ii Jj x.t,Ii Jj x.m,Ii Jj x.r,Ii Jj o.id,Ii Jj o.src,Ii Jj o.dst,Ii Jj o.amount,Ii Jj o.first,Ii Jj o.every,Ii Jj o.times,Ii Jj n]] w fun e w'=>e=.returned (Ii Jj 2)/\Below B w w'/\eR w' R:=by
 have hRw:=hX.2.2
 have HX:=aa hX
 have BO:Hid (∀W,Calls Pg 128 #[.agg #[Ii Jj K,Ii Jj x.k,Ii Jj x.i,Ii Jj x.t,Ii Jj x.m,Ii Jj x.r,Ii Jj o.id,Ii Jj o.src,Ii Jj o.dst,Ii Jj o.amount,Ii Jj o.first,Ii Jj o.every,Ii Jj o.times,Ii Jj n]] W fun e w'=>e=.returned (.bool false)/\Below W.heap.size W w'):=fun W=>(pN K n x o W).mono (by
  rintro e w' ⟨⟨bb,rfl,h1,h2⟩,hB⟩
  cases bb with
  | false=>exact ⟨rfl,hB⟩
  | true=>exact absurd (h1 rfl) hok)
 clear hX hA hO haR hbR hG hb hok
 go_enter Tryz.func83,Tryz.ntmps83
 go_wp2_with fail
 refine (BO.out _).mono ?_
 rintro e w1 ⟨rfl,B1⟩
 go_wp2
 go_ret
 have B2:Below w.heap.size w w1:=((Below.refl _ _).alloc (Nat.le_refl _) _).trans (B1.mono (by simp))
 exact ⟨rfl,B2.mono (by omega),⟨_,_,_,_,_,_,_,HX.out.kept B2 hRw⟩⟩
theorem sI (B R:Nat) (a b:Option Addr) (c d:Nat) (L:List aj) (O:List au) (k:Bk) (x:cV) (o:au) (n:Int) (p:Nat->Addr) (w:World) (hX:bW w R (Sl a L.length c) (Sl b O.length d) k) (hA:AL w B (Sl a L.length c) L) (hO:ah w B (Sl b O.length d) O) (haR:∀q,(Value.slice a L.length c).ownBlock=some q->q≠R) (hbR:∀q,(Value.slice b O.length d).ownBlock=some q->q≠R) (hBR:B<=R) (hG:GE w p) (hb:aq (FL L) L.length (ae O) O.length k) (K:Int):
  Calls Pg 83 #[.pointer (some ⟨R,0,none⟩),.agg #[Ii Jj K,Ii Jj x.k,Ii Jj x.i,Ii Jj x.t,Ii Jj x.m,Ii Jj x.r,Ii Jj o.id,Ii Jj o.src,Ii Jj o.dst,Ii Jj o.amount,Ii Jj o.first,Ii Jj o.every,Ii Jj o.times,Ii Jj n]] w fun e w'=>cR (dk L O k K x o n) B R w e w':=by
 unfold dk
 by_cases hok:ba K x o n
 ·rcases jP hok with rfl|rfl|rfl|rfl
  ·rw[pf hok]
   exact ph B R a b c d L O k x o n p w hX hA hO haR hbR hBR hG hb hok
  ·by_cases ht:bv O o.id
   ·rw[ip hok ht]
    exact (kr B R a b c d L O k x o n p w hX hA hO haR hbR hBR hG hb hok ht).mono fun e w' h=>cR.no (by simp) h
   ·rw[lO hok ht]
    exact (nN B R a b c d L O k x o n p w hX hA hO haR hbR hBR hG hb hok ht).mono fun e w' h=>cR.yes rfl h
  ·by_cases ht:bv O n
   ·rw[lP hok ht]
    exact (nO B R a b c d L O k x o n p w hX hA hO haR hbR hBR hG hb hok ht).mono fun e w' h=>cR.yes rfl h
   ·rw[jN hok ht]
    exact (lS B R a b c d L O k x o n p w hX hA hO haR hbR hBR hG hb hok ht).mono fun e w' h=>cR.no (by simp) h
  ·by_cases ht:cU L O k
   ·rw[lQ hok ht]
    exact (nQ B R a b c d L O k x o n p w hX hA hO haR hbR hBR hG hb hok ht).mono fun e w' h=>cR.yes rfl h
   ·rw[jO hok ht]
    exact (lT B R a b c d L O k x o n p w hX hA hO haR hbR hBR hG hb hok ht).mono fun e w' h=>cR.no (by simp) h
 ·rw[jM hok]
  exact (lU B R a b c d L O k x o n p w hX hA hO haR hbR hBR hG hb K hok).mono fun e w' h=>cR.no (by simp) h
end Go.Proofs.YtghkbhggopiajaaGreatDoor
