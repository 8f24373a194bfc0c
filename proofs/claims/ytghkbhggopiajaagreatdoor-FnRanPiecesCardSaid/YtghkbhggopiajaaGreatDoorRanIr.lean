/- Ran of the program. -/
import Derived.Test.YtghkbhggopiajaaGreatDoorRunKr
namespace Go.Proofs.YtghkbhggopiajaaGreatDoor
open Value renaming int → Ii,slice → Sl
open IntKind renaming i64 → Jj
open Nat renaming le_refl → Nf
set_option maxHeartbeats 8000000
open Go.RowKit
set_option maxRecDepth 8000
set_option linter.unusedVariables false
theorem bY (a b:Option Addr) (c d:Nat) (L:List aj) (O:List au) (k:Bk) (K n:Int) (x:cV) (o:au) (w:World):∃W0,W0=((w.alloc (.cells #[Ii Jj k.day,Sl a L.length c,Sl b O.length d,Ii Jj k.inn,Ii Jj k.out,Ii Jj k.posted,Ii Jj k.missed] 38)).alloc (.cells #[Ii Jj K,Ii Jj x.k,Ii Jj x.i,Ii Jj x.t,Ii Jj x.m,Ii Jj x.r,Ii Jj o.id,Ii Jj o.src,Ii Jj o.dst,Ii Jj o.amount,Ii Jj o.first,Ii Jj o.every,Ii Jj o.times,Ii Jj n] 51)).alloc (.cells #[Ii Jj 0,Sl none 0 0,Sl none 0 0,Ii Jj 0,Ii Jj 0,Ii Jj 0,Ii Jj 0] 38)/\W0.heap.size=w.heap.size+1+1+1/\Below w.heap.size w W0/\bW W0 w.heap.size (Sl a L.length c) (Sl b O.length d) k/\fk W0 (w.heap.size+1) K x o n/\fu W0 (w.heap.size+1+1):=by
 refine ⟨_,rfl,by simp,(((Below.refl _ _).alloc (Nf _) _).alloc (by simp) _).alloc (by simp;omega) _,((ak.new w _ _ _ _ _ _ _ 38).kept ((Below.refl _ _).alloc (Nf _) _) (by simp)).kept ((Below.refl _ _).alloc (Nf _) _) (by simp;omega),?_,?_⟩
 ·have:=fk.new (w.alloc (.cells #[Ii Jj k.day,Sl a L.length c,Sl b O.length d,Ii Jj k.inn,Ii Jj k.out,Ii Jj k.posted,Ii Jj k.missed] 38)) K x o n 51
  rw[World.size_alloc] at this
  exact this.kept ((Below.refl _ _).alloc (Nf _) _) (by simp)
 ·have:=ak.new ((w.alloc (.cells #[Ii Jj k.day,Sl a L.length c,Sl b O.length d,Ii Jj k.inn,Ii Jj k.out,Ii Jj k.posted,Ii Jj k.missed] 38)).alloc (.cells #[Ii Jj K,Ii Jj x.k,Ii Jj x.i,Ii Jj x.t,Ii Jj x.m,Ii Jj x.r,Ii Jj o.id,Ii Jj o.src,Ii Jj o.dst,Ii Jj o.amount,Ii Jj o.first,Ii Jj o.every,Ii Jj o.times,Ii Jj n] 51)) (Ii Jj 0) (Sl none 0 0) (Sl none 0 0) (Ii Jj 0) (Ii Jj 0) (Ii Jj 0) (Ii Jj 0) 38
  simp only[World.size_alloc] at this
  exact this
theorem lV {L:List aj} {O:List au} {k:Bk} {K n:Int} {x:cV} {o:au} (h:(dk L O k K x o n).code≠0):dk L O k K x o n=⟨(dk L O k K x o n).code,L,O,k⟩:=by
 unfold dk cG at h ⊢
 split
 ·rename_i h0
  rw[if_pos h0] at h
  split
  ·rename_i h1
   rw[if_pos h1] at h
   exact absurd h0 h
  ·rfl
 ·rfl
theorem pO {L:List aj} {O:List au} {k:Bk} {K n:Int} {x:cV} {o:au} (h:(dk L O k K x o n).code=0):(dk L O k K x o n).ok:=by
 unfold dk cG at h ⊢
 split
 ·rename_i h0
  rw[if_pos h0] at h
  split
  ·assumption
  ·rename_i h1
   rw[if_neg h1] at h
   simp at h
 ·rename_i h0
  rw[if_neg h0] at h
  exact absurd h h0
theorem iq {L:List aj} {O:List au} {k:Bk} (K n:Int) (x:cV) (o:au) (hb:aq (FL L) L.length (ae O) O.length k):(dk L O k K x o n).ok:=by
 by_cases h:(dk L O k K x o n).code=0
 ·exact pO h
 ·rw[lV h];exact hb
theorem nR (a b:Option Addr) (c d:Nat) (L:List aj) (O:List au) (k:Bk) (K n:Int) (x:cV) (o:au) (w:World) (hF:Fo w a L.length (FL L)) (hO:aG w b O.length (ae O)) (hb:¬aq (FL L) L.length (ae O) O.length k):
  Calls Tryz.prog 29 #[.agg #[Ii Jj k.day,Sl a L.length c,Sl b O.length d,Ii Jj k.inn,Ii Jj k.out,Ii Jj k.posted,Ii Jj k.missed],.agg #[Ii Jj K,Ii Jj x.k,Ii Jj x.i,Ii Jj x.t,Ii Jj x.m,Ii Jj x.r,Ii Jj o.id,Ii Jj o.src,Ii Jj o.dst,Ii Jj o.amount,Ii Jj o.first,Ii Jj o.every,Ii Jj o.times,Ii Jj n]] w fun e w'=>ch ⟨1,[],[],⟨0,0,0,0,0⟩⟩ w e w':=by
 have HBad:=aa hb
 clear hb
 have HF:=aa hF
 have HO:=aa hO
 obtain ⟨W0,hW0,hs0,b0,z1,z2,z3⟩:=bY a b c d L O k K n x o w
 have HW0:=aa hW0
 have HB0:=aa b0
 have Z1:=aa z1
 have Z2:=aa z2
 have Z3:=aa z3
 clear hW0 b0 z1 z2 z3 hF hO
 go_enter Tryz.func29,Tryz.ntmps29
 go_wp2_with fail
 rw[←HW0.out]
 clear HW0
 refine (cZ a b L.length c O.length d (FL L) (ae O) k _ (HF.out.below HB0.out) (HO.out.below HB0.out)).mono ?_
 rintro e w1 ⟨⟨bb,rfl,hb1,hb2⟩,B1⟩
 obtain rfl:bb=false:=by cases bb with|true=>exact absurd (hb1 rfl) HBad.out|false=>rfl
 obtain ⟨⟨r0,r1,r2,r3,r4,r5,r6⟩,rf,rz⟩:=Z3.out.kept B1 (by omega)
 have HB1:Hid (Below w.heap.size w w1):=HB0.out.trans (B1.mono (by omega))
 clear hb1 hb2 B1 HB0 Z1 Z2 Z3 hs0
 go_wp2
 refine bodyPost_ret (v:=.tuple #[.agg #[Ii Jj 0,Sl none 0 0,Sl none 0 0,Ii Jj 0,Ii Jj 0,Ii Jj 0,Ii Jj 0],Ii Jj 1]) (by simp[results,Tryz.results29,go_sem,r0,r1,r2,r3,r4,r5,r6]) rfl ⟨Sl none 0 0,Sl none 0 0,rfl,AL.nil' _ _,ah.nil _ _,?_⟩
 repeat (refine ai ?_ (by omega) _ _)
 exact HB1.out
theorem pi (a b:Option Addr) (c d:Nat) (L:List aj) (O:List au) (k:Bk) (K n:Int) (x:cV) (o:au) (p:Nat->Addr) (w:World) (hF:Fo w a L.length (FL L)) (hO:aG w b O.length (ae O)) (hG:GE w p) (hb:aq (FL L) L.length (ae O) O.length k):
  Calls Tryz.prog 29 #[.agg #[Ii Jj k.day,Sl a L.length c,Sl b O.length d,Ii Jj k.inn,Ii Jj k.out,Ii Jj k.posted,Ii Jj k.missed],.agg #[Ii Jj K,Ii Jj x.k,Ii Jj x.i,Ii Jj x.t,Ii Jj x.m,Ii Jj x.r,Ii Jj o.id,Ii Jj o.src,Ii Jj o.dst,Ii Jj o.amount,Ii Jj o.first,Ii Jj o.every,Ii Jj o.times,Ii Jj n]] w fun e w'=>ch (dk L O k K x o n) w e w':=by
 have HOK:=aa hb
 have HG:=aa hG
 have hl12:L.length<=12:=hb.2.1.1
 have hol:O.length<=8:=hb.2.2.1.1
 have RNO:Hid ((dk L O k K x o n).code≠0->dk L O k K x o n=⟨(dk L O k K x o n).code,L,O,k⟩):=lV
 have RUN:Hid (∀(B R:Nat) (a b:Option Addr) (c d:Nat) (w:World),bW w R (Sl a L.length c) (Sl b O.length d) k->AL w B (Sl a L.length c) L->ah w B (Sl b O.length d) O->(∀q,(Value.slice a L.length c).ownBlock=some q->q≠R)->(∀q,(Value.slice b O.length d).ownBlock=some q->q≠R)->B<=R->GE w p->Calls Tryz.prog 83 #[.pointer (some ⟨R,0,none⟩),.agg #[Ii Jj K,Ii Jj x.k,Ii Jj x.i,Ii Jj x.t,Ii Jj x.m,Ii Jj x.r,Ii Jj o.id,Ii Jj o.src,Ii Jj o.dst,Ii Jj o.amount,Ii Jj o.first,Ii Jj o.every,Ii Jj o.times,Ii Jj n]] w fun e w'=>cR (dk L O k K x o n) B R w e w'):=fun B R a b c d w h1 h2 h3 h4 h5 h6 h7=>sI B R a b c d L O k x o n p w h1 h2 h3 h4 h5 h6 h7 hb K
 have RL:Hid ((dk L O k K x o n).L.length<=12/\(dk L O k K x o n).O.length<=8):=by have:=iq K n x o hb;exact ⟨this.2.1.1,this.2.2.1.1⟩
 clear hb hG
 have HF:=aa hF
 have HO:=aa hO
 obtain ⟨W0,hW0,hs0,b0,z1,z2,z3⟩:=bY a b c d L O k K n x o w
 have HW0:=aa hW0
 have HB0:=aa b0
 have Z1:=aa z1
 have Z2:=aa z2
 have Z3:=aa z3
 clear hW0 b0 z1 z2 z3 hF hO
 generalize dk L O k K x o n=q at*
 go_enter Tryz.func29,Tryz.ntmps29
 go_wp2_with fail
 rw[←HW0.out]
 clear HW0
 refine (cZ a b L.length c O.length d (FL L) (ae O) k _ (HF.out.below HB0.out) (HO.out.below HB0.out)).mono ?_
 rintro e w1 ⟨⟨bb,rfl,hb1,hb2⟩,B1⟩
 obtain rfl:bb=true:=by cases bb with|false=>exact absurd HOK.out (hb2 rfl)|true=>rfl
 have hs1:=B1.size
 have Y1:=aa (Z1.out.kept B1 (by omega))
 have Y2:=aa (Z2.out.kept B1 (by omega))
 have Y3:=aa (Z3.out.kept B1 (by omega))
 have HB1:Hid (Below w.heap.size w w1):=HB0.out.trans (B1.mono (by omega))
 have hs1':w.heap.size+1+1+1<=w1.heap.size:=by omega
 obtain ⟨⟨s0,s1,s2,s3,s4,s5,s6⟩,sf,sz⟩:=Y1.out
 clear hb1 hb2 B1 HB0 Z1 Z2 Z3 hs0 hs1
 go_wp2_with fail
 refine (dF a b c d L O k _ (HF.out.below HB1.out) (HO.out.below HB1.out)).mono ?_
 rintro e w2 ⟨v2,u2,rfl,A2,O2,B2⟩
 obtain ⟨a2,c2,hv⟩:=A2.len
 subst hv
 obtain ⟨b2,d2,hv⟩:=O2.len
 subst hv
 clear s0 s1 s2 s3 s4 s5 s6 sf sz
 obtain ⟨W3,hW3⟩:∃W3,W3=w2.alloc (.cells #[Ii Jj k.day,Sl a2 L.length c2,Sl b2 O.length d2,Ii Jj k.inn,Ii Jj k.out,Ii Jj k.posted,Ii Jj k.missed] 38):=⟨_,rfl⟩
 have D3:Below w2.heap.size w2 W3:=by rw[hW3];exact (Below.refl _ _).alloc (Nf _) _
 have hs2:=B2.size
 have E3:Below w1.heap.size w1 W3:=B2.trans (D3.mono B2.size)
 have X3:bW W3 w2.heap.size (Sl a2 L.length c2) (Sl b2 O.length d2) k:=by rw[hW3];exact ak.new w2 _ _ _ _ _ _ _ 38
 have A3:AL W3 w1.heap.size (Sl a2 L.length c2) L:=A2.kept D3
 have O3:ah W3 w1.heap.size (Sl b2 O.length d2) O:=O2.kept D3
 have hal:∀q,(Value.slice a2 L.length c2).ownBlock=some q->q≠w2.heap.size:=fun q hq=>by have:=(World.ownsRow.lt A2 q hq).2;omega
 have hbl:∀q,(Value.slice b2 O.length d2).ownBlock=some q->q≠w2.heap.size:=fun q hq=>by have:=(World.ownsRow.lt O2 q hq).2;omega
 have HB3:=aa (HB1.out.trans (E3.mono HB1.out.size))
 have RUN3:Hid (Calls Tryz.prog 83 #[.pointer (some ⟨w2.heap.size,0,none⟩),.agg #[Ii Jj K,Ii Jj x.k,Ii Jj x.i,Ii Jj x.t,Ii Jj x.m,Ii Jj x.r,Ii Jj o.id,Ii Jj o.src,Ii Jj o.dst,Ii Jj o.amount,Ii Jj o.first,Ii Jj o.every,Ii Jj o.times,Ii Jj n]] W3 fun e w'=>cR q w1.heap.size w2.heap.size W3 e w'):=RUN.out w1.heap.size w2.heap.size a2 b2 c2 d2 W3 X3 A3 O3 hal hbl hs2 (HG.out.below HB3.out)
 have V1:=aa (Y1.out.kept E3 (by omega))
 have V2:=aa (Y2.out.kept E3 (by omega))
 have V3:=aa (Y3.out.kept E3 (by omega))
 have HW3:=aa hW3
 clear hW3 D3 E3 X3 A3 O3 hal hbl A2 O2 B2 Y1 Y2 Y3 RUN HG
 obtain ⟨⟨c0,c1,c2',c3,c4,c5,c6,c7,c8,c9,c10,c11,c12,c13⟩,cz⟩:=V2.out
 go_upto_region 4 with fail
 rw[←HW3.out]
 clear HW3
 go_wp2_with fail
 refine RUN3.out.mono ?_
 rintro e w4 ⟨rfl,B4,X4,h4⟩
 clear c0 c1 c2' c3 c4 c5 c6 c7 c8 c9 c10 c11 c12 c13 cz RUN3 V2
 have hs4:=B4.size
 have hs3:w2.heap.size<w4.heap.size:=by obtain ⟨_,_,_,_,_,_,_,h⟩:=X4;exact h.2.2
 have U1:=aa (V1.out.kept B4 (by omega))
 have U3:=aa (V3.out.kept B4 (by omega))
 have HB4:Hid (Below w.heap.size w w4):=HB3.out.trans (B4.mono (by omega))
 clear V1 V3 B4 HB3
 by_cases hc:q.code=0
 ·obtain ⟨v5,u5,X5,A5,O5⟩:=h4 hc
  obtain ⟨a5,c5,hv⟩:=A5.len
  subst hv
  obtain ⟨b5,d5,hv⟩:=O5.len
  subst hv
  have HA5:=aa A5
  have HO5:=aa O5
  obtain ⟨⟨s0,s1,s2,s3,s4,s5,s6⟩,sf,sz⟩:=X5
  obtain ⟨⟨r0,r1,r2,r3,r4,r5,r6⟩,rf,rz⟩:=U3.out
  have hcb:(q.code != 0)=false:=by simp[hc]
  have HQ:Hid (q=q):=rfl
  clear h4 A5 O5 X4 RNO hc
  obtain ⟨qc,qL,qO,qk⟩:=q
  dsimp only at*
  go_wp2
  refine bodyPost_ret (v:=.tuple #[.agg #[Ii Jj qk.day,Sl a5 qL.length c5,Sl b5 qO.length d5,Ii Jj qk.inn,Ii Jj qk.out,Ii Jj qk.posted,Ii Jj qk.missed],Ii Jj qc]) (by simp[results,Tryz.results29,go_sem,r0,r1,r2,r3,r4,r5,r6]) rfl ⟨Sl a5 qL.length c5,Sl b5 qO.length d5,rfl,?_,?_,?_⟩
  ·refine AL.mono (B:=w1.heap.size) ?_ (by omega)
   repeat (refine AL.far ?_ (by omega) _ _)
   exact HA5.out
  ·refine ah.mono (B:=w1.heap.size) ?_ (by omega)
   repeat (refine ah.far ?_ (by omega) _ _)
   exact HO5.out
  ·repeat (refine ai ?_ (by omega) _ _)
   exact HB4.out
 ·have hq:=RNO.out hc
  have hcb:(q.code != 0)=true:=by simp[hc]
  have HX4:=aa X4
  obtain ⟨⟨s0,s1,s2,s3,s4,s5,s6⟩,sf,sz⟩:=U1.out
  obtain ⟨qc,qL,qO,qk⟩:=q
  dsimp only at*
  simp only[Rn.mk.injEq,true_and] at hq
  obtain ⟨rfl,rfl,rfl⟩:=hq
  clear h4 X4 RNO hc
  go_wp2_with fail
  refine (dF a b c d qL qO qk _ (HF.out.below HB4.out) (HO.out.below HB4.out)).mono ?_
  rintro e w5 ⟨v5,u5,rfl,A5,O5,B5⟩
  obtain ⟨a5,c5,hv⟩:=A5.len
  subst hv
  obtain ⟨b5,d5,hv⟩:=O5.len
  subst hv
  obtain ⟨y0,y1,y2,y3,y4,y5,y6,X5⟩:=HX4.out
  have X6:=X5.kept B5 hs3
  have U5:=U3.out.kept B5 (by omega)
  have HA5:=aa A5
  have HO5:=aa O5
  have HB5:=aa (HB4.out.trans (B5.mono HB4.out.size))
  clear s0 s1 s2 s3 s4 s5 s6 sf sz X5 A5 O5 B5 HX4 U3 U1
  obtain ⟨⟨s0,s1,s2,s3,s4,s5,s6⟩,sf,sz⟩:=X6
  obtain ⟨⟨r0,r1,r2,r3,r4,r5,r6⟩,rf,rz⟩:=U5
  have hne1:¬w2.heap.size=w.heap.size+1+1:=by omega
  have hne2:¬w.heap.size+1+1=w2.heap.size:=by omega
  go_wp2
  refine bodyPost_ret (v:=.tuple #[.agg #[Ii Jj qk.day,Sl a5 qL.length c5,Sl b5 qO.length d5,Ii Jj qk.inn,Ii Jj qk.out,Ii Jj qk.posted,Ii Jj qk.missed],Ii Jj qc]) (by simp[results,Tryz.results29,go_sem,r0,r1,r2,r3,r4,r5,r6]) rfl ⟨Sl a5 qL.length c5,Sl b5 qO.length d5,rfl,?_,?_,?_⟩
  ·refine AL.mono (B:=w4.heap.size) ?_ (by omega)
   repeat (refine AL.far ?_ (by omega) _ _)
   exact HA5.out
  ·refine ah.mono (B:=w4.heap.size) ?_ (by omega)
   repeat (refine ah.far ?_ (by omega) _ _)
   exact HO5.out
  ·repeat (refine ai ?_ (by omega) _ _)
   exact HB5.out
theorem sJ (a b:Option Addr) (c d:Nat) (L:List aj) (O:List au) (k:Bk) (K n:Int) (x:cV) (o:au) (p:Nat->Addr) (w:World) (hF:Fo w a L.length (FL L)) (hO:aG w b O.length (ae O)) (hG:GE w p):
  Calls Tryz.prog 29 #[.agg #[Ii Jj k.day,Sl a L.length c,Sl b O.length d,Ii Jj k.inn,Ii Jj k.out,Ii Jj k.posted,Ii Jj k.missed],.agg #[Ii Jj K,Ii Jj x.k,Ii Jj x.i,Ii Jj x.t,Ii Jj x.m,Ii Jj x.r,Ii Jj o.id,Ii Jj o.src,Ii Jj o.dst,Ii Jj o.amount,Ii Jj o.first,Ii Jj o.every,Ii Jj o.times,Ii Jj n]] w fun e w'=>ch (aY L O k K x o n) w e w':=by
 unfold aY
 by_cases hb:aq (FL L) L.length (ae O) O.length k
 ·rw[if_pos hb];exact pi a b c d L O k K n x o p w hF hO hG hb
 ·rw[if_neg hb];exact nR a b c d L O k K n x o w hF hO hb
end Go.Proofs.YtghkbhggopiajaaGreatDoor
