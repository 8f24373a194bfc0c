/- An op of the forest in a bank. -/
import Derived.Test.YtghkbhggopiajaaGreatDoorRunIr
namespace Go.Proofs.YtghkbhggopiajaaGreatDoor
open Value renaming int → Ii,slice → Sl
open IntKind renaming i64 → Jj
open Go.Proofs.Tryz renaming prog → Pg
set_option maxHeartbeats 4000000
open Go.RowKit
set_option maxRecDepth 8000
set_option linter.unusedVariables false
theorem kq (B R : Nat) (a b : Option Addr) (c d : Nat) (L : List aj) (O : List au) (k : Bk) (x : cV) (p : Nat -> Addr) (w : World) (hX : bW w R (Sl a L.length c) (Sl b O.length d) k) (hA : AL w B (Sl a L.length c) L) (hO : ah w B (Sl b O.length d) O) (hbR : ∀ q, (Value.slice b O.length d).ownBlock = some q -> q ≠ R) (hBR : B <= R) (hG : GE w p) (hR : al (FL L) L.length) (hi : 0 <= k.inn /\ k.inn <= 1000000000000000) (hu : 0 <= k.out /\ k.out <= 1000000000000000) (hm : -1 <= x.m /\ x.m <= 1000000000000) :
    Calls Pg 129 #[.pointer (some ⟨R,0,none⟩),.agg #[Ii Jj 5,Ii Jj x.i,Ii Jj x.t,Ii Jj x.m,Ii Jj x.r]] w fun e w'=>e=.returned (Ii Jj (am L 5 x.i x.t x.m x.r).1)/\Below B w w'/\∃v,ak w' R (Ii Jj k.day) (v) (Sl b O.length d) (Ii Jj (k.inn+x.m)) (Ii Jj (k.out)) (Ii Jj k.posted) (Ii Jj k.missed)/\AL w' B v (am L 5 x.i x.t x.m x.r).2/\ah w' B (Sl b O.length d) O:=by
  have hl12:L.length<=12:=hR.1
  obtain ⟨W0,hW0⟩:∃W0,W0=w.alloc (.cells #[Ii Jj 5,Ii Jj x.i,Ii Jj x.t,Ii Jj x.m,Ii Jj x.r] 49):=⟨_,rfl⟩
  have b0:Below w.heap.size w W0:=by rw[hW0];exact (Below.refl _ _).alloc (Nat.le_refl _) _
  have hRw:=hX.2.2
  have X0:=aa (hX.kept b0 hRw)
  have Q0:Hid (aN W0 w.heap.size 5 x.i x.t x.m x.r):=by
    show aN _ _ _ _ _ _ _;rw[hW0];exact aN.new w _ _ _ _ _ 49
  have O0:=aa (hO.kept b0)
  have HB0:=aa b0
  have HW0:=aa hW0
  have HBR:=aa hbR
  have PL:Hid (Calls Pg 115 #[Sl a L.length c,.agg #[Ii Jj 5,Ii Jj x.i,Ii Jj x.t,Ii Jj x.m,Ii Jj x.r]] W0.drew fun e w'=>fb (am L 5 x.i x.t x.m x.r) W0.drew.heap.size W0.drew e w'):=by
    have:=fO a c L 5 x.i x.t x.m x.r p W0.drew (show Fo W0 a L.length (FL L) from (hA.fo (by omega)).2.below b0) (hG.below (b0.trans (da W0)))
    unfold cC at this
    rw[if_pos hR] at this
    exact this
  generalize (am L 5 x.i x.t x.m x.r)=D at*
  clear hW0 b0 hX hO hR hA hG hbR
  obtain ⟨⟨s0,s1,s2,s3,s4,s5,s6⟩,sf,sz⟩:=X0.out
  obtain ⟨t0,t1,t2,t3,t4,tz⟩:=Q0.out
  have hsl:R<W0.drew.heap.size:=sz
  have htl:w.heap.size<W0.drew.heap.size:=tz
  go_enter Tryz.func129,Tryz.ntmps129
  go_upto_region 1 with fail
  rw[←HW0.out]
  clear HW0
  go_region_held3 (fun V=>V.cell? ⟨R,1,none⟩=some (Sl a L.length c)/\V.cell? ⟨w.heap.size,0,none⟩=some (Ii Jj 5)/\V.cell? ⟨w.heap.size,1,none⟩=some (Ii Jj x.i)/\V.cell? ⟨w.heap.size,2,none⟩=some (Ii Jj x.t)/\V.cell? ⟨w.heap.size,3,none⟩=some (Ii Jj x.m)/\V.cell? ⟨w.heap.size,4,none⟩=some (Ii Jj x.r)) (first|exact ⟨s1,t0,t1,t2,t3,t4⟩|exact ⟨(B2.cell (p:=⟨R,1,none⟩) hsl).trans s1,(B2.cell (p:=⟨w.heap.size,0,none⟩) htl).trans t0,(B2.cell (p:=⟨w.heap.size,1,none⟩) htl).trans t1,(B2.cell (p:=⟨w.heap.size,2,none⟩) htl).trans t2,(B2.cell (p:=⟨w.heap.size,3,none⟩) htl).trans t3,(B2.cell (p:=⟨w.heap.size,4,none⟩) htl).trans t4⟩) (first|(go_at_call 115;refine PL.out.mono ?_;rintro e w2 ⟨v2,rfl,A2,B2⟩;obtain ⟨a2,c2,hv⟩:=A2.len;subst hv))
  have B2':Below W0.heap.size W0 w2:=⟨B2.os,B2.tape,B2.output,B2.size,B2.block⟩
  have X2:=X0.out.kept B2' sz
  have Q2:aN w2 w.heap.size 5 x.i x.t x.m x.r:=⟨(B2.cell (p:=⟨w.heap.size,0,none⟩) htl).trans t0,(B2.cell (p:=⟨w.heap.size,1,none⟩) htl).trans t1,(B2.cell (p:=⟨w.heap.size,2,none⟩) htl).trans t2,(B2.cell (p:=⟨w.heap.size,3,none⟩) htl).trans t3,(B2.cell (p:=⟨w.heap.size,4,none⟩) htl).trans t4,Nat.lt_of_lt_of_le tz B2'.size⟩
  have HO2:=aa (O0.out.kept B2')
  have HA2:=aa A2
  have HB2:=aa (HB0.out.trans (B2'.mono HB0.out.size))
  clear s0 s1 s2 s3 s4 s5 s6 sf t0 t1 t2 t3 t4 B2 B2' PL X0 Q0 A2 hsl htl O0
  obtain ⟨⟨s0,s1,s2,s3,s4,s5,s6⟩,sf,sz2⟩:=X2
  obtain ⟨t0,t1,t2,t3,t4,tz2⟩:=Q2
  have hne1:¬R=w.heap.size:=by omega
  have hne2:¬w.heap.size=R:=by omega
  have hRB:R<W0.heap.size:=sz
  go_wp2
  obtain ⟨hi1,hi2⟩:=hi
  obtain ⟨hm1,hm2⟩:=hm
  go_region
  all_goals go_wp2
  all_goals go_ret
  all_goals refine ⟨rfl,?_,Sl a2 D.2.length c2,ak.set3 (ak.set1 (w:=w2) ⟨⟨s0,s1,s2,s3,s4,s5,s6⟩,sf,sz2⟩ _) _,?_,?_⟩
  all_goals first
    | (repeat (refine ai ?_ hBR _ _)
       exact HB2.out.mono (by omega))
    | (refine Below.trans ?_ (da _)
       repeat (refine ai ?_ hBR _ _)
       exact HB2.out.mono (by omega))
    | (refine AL.mono (B := W0.heap.size) ?_ (by omega)
       repeat (refine AL.far ?_ hRB _ _)
       exact HA2.out)
    | (repeat (refine ah.off ?_ HBR.out _ _)
       exact HO2.out)
theorem jR (B R : Nat) (a b : Option Addr) (c d : Nat) (L : List aj) (O : List au) (k : Bk) (x : cV) (p : Nat -> Addr) (w : World) (hX : bW w R (Sl a L.length c) (Sl b O.length d) k) (hA : AL w B (Sl a L.length c) L) (hO : ah w B (Sl b O.length d) O) (hbR : ∀ q, (Value.slice b O.length d).ownBlock = some q -> q ≠ R) (hBR : B <= R) (hG : GE w p) (hR : al (FL L) L.length) (hi : 0 <= k.inn /\ k.inn <= 1000000000000000) (hu : 0 <= k.out /\ k.out <= 1000000000000000) (hm : -1 <= x.m /\ x.m <= 1000000000000) :
    Calls Pg 129 #[.pointer (some ⟨R,0,none⟩),.agg #[Ii Jj 6,Ii Jj x.i,Ii Jj x.t,Ii Jj x.m,Ii Jj x.r]] w fun e w'=>e=.returned (Ii Jj (am L 6 x.i x.t x.m x.r).1)/\Below B w w'/\∃v,ak w' R (Ii Jj k.day) (v) (Sl b O.length d) (Ii Jj (k.inn)) (Ii Jj (k.out+x.m)) (Ii Jj k.posted) (Ii Jj k.missed)/\AL w' B v (am L 6 x.i x.t x.m x.r).2/\ah w' B (Sl b O.length d) O:=by
  have hl12:L.length<=12:=hR.1
  obtain ⟨W0,hW0⟩:∃W0,W0=w.alloc (.cells #[Ii Jj 6,Ii Jj x.i,Ii Jj x.t,Ii Jj x.m,Ii Jj x.r] 49):=⟨_,rfl⟩
  have b0:Below w.heap.size w W0:=by rw[hW0];exact (Below.refl _ _).alloc (Nat.le_refl _) _
  have hRw:=hX.2.2
  have X0:=aa (hX.kept b0 hRw)
  have Q0:Hid (aN W0 w.heap.size 6 x.i x.t x.m x.r):=by
    show aN _ _ _ _ _ _ _;rw[hW0];exact aN.new w _ _ _ _ _ 49
  have O0:=aa (hO.kept b0)
  have HB0:=aa b0
  have HW0:=aa hW0
  have HBR:=aa hbR
  have PL:Hid (Calls Pg 115 #[Sl a L.length c,.agg #[Ii Jj 6,Ii Jj x.i,Ii Jj x.t,Ii Jj x.m,Ii Jj x.r]] W0.drew fun e w'=>fb (am L 6 x.i x.t x.m x.r) W0.drew.heap.size W0.drew e w'):=by
    have:=fO a c L 6 x.i x.t x.m x.r p W0.drew (show Fo W0 a L.length (FL L) from (hA.fo (by omega)).2.below b0) (hG.below (b0.trans (da W0)))
    unfold cC at this
    rw[if_pos hR] at this
    exact this
  generalize (am L 6 x.i x.t x.m x.r)=D at*
  clear hW0 b0 hX hO hR hA hG hbR
  obtain ⟨⟨s0,s1,s2,s3,s4,s5,s6⟩,sf,sz⟩:=X0.out
  obtain ⟨t0,t1,t2,t3,t4,tz⟩:=Q0.out
  have hsl:R<W0.drew.heap.size:=sz
  have htl:w.heap.size<W0.drew.heap.size:=tz
  go_enter Tryz.func129,Tryz.ntmps129
  go_upto_region 1 with fail
  rw[←HW0.out]
  clear HW0
  go_region_held3 (fun V=>V.cell? ⟨R,1,none⟩=some (Sl a L.length c)/\V.cell? ⟨w.heap.size,0,none⟩=some (Ii Jj 6)/\V.cell? ⟨w.heap.size,1,none⟩=some (Ii Jj x.i)/\V.cell? ⟨w.heap.size,2,none⟩=some (Ii Jj x.t)/\V.cell? ⟨w.heap.size,3,none⟩=some (Ii Jj x.m)/\V.cell? ⟨w.heap.size,4,none⟩=some (Ii Jj x.r)) (first|exact ⟨s1,t0,t1,t2,t3,t4⟩|exact ⟨(B2.cell (p:=⟨R,1,none⟩) hsl).trans s1,(B2.cell (p:=⟨w.heap.size,0,none⟩) htl).trans t0,(B2.cell (p:=⟨w.heap.size,1,none⟩) htl).trans t1,(B2.cell (p:=⟨w.heap.size,2,none⟩) htl).trans t2,(B2.cell (p:=⟨w.heap.size,3,none⟩) htl).trans t3,(B2.cell (p:=⟨w.heap.size,4,none⟩) htl).trans t4⟩) (first|(go_at_call 115;refine PL.out.mono ?_;rintro e w2 ⟨v2,rfl,A2,B2⟩;obtain ⟨a2,c2,hv⟩:=A2.len;subst hv))
  have B2':Below W0.heap.size W0 w2:=⟨B2.os,B2.tape,B2.output,B2.size,B2.block⟩
  have X2:=X0.out.kept B2' sz
  have Q2:aN w2 w.heap.size 6 x.i x.t x.m x.r:=⟨(B2.cell (p:=⟨w.heap.size,0,none⟩) htl).trans t0,(B2.cell (p:=⟨w.heap.size,1,none⟩) htl).trans t1,(B2.cell (p:=⟨w.heap.size,2,none⟩) htl).trans t2,(B2.cell (p:=⟨w.heap.size,3,none⟩) htl).trans t3,(B2.cell (p:=⟨w.heap.size,4,none⟩) htl).trans t4,Nat.lt_of_lt_of_le tz B2'.size⟩
  have HO2:=aa (O0.out.kept B2')
  have HA2:=aa A2
  have HB2:=aa (HB0.out.trans (B2'.mono HB0.out.size))
  clear s0 s1 s2 s3 s4 s5 s6 sf t0 t1 t2 t3 t4 B2 B2' PL X0 Q0 A2 hsl htl O0
  obtain ⟨⟨s0,s1,s2,s3,s4,s5,s6⟩,sf,sz2⟩:=X2
  obtain ⟨t0,t1,t2,t3,t4,tz2⟩:=Q2
  have hne1:¬R=w.heap.size:=by omega
  have hne2:¬w.heap.size=R:=by omega
  have hRB:R<W0.heap.size:=sz
  go_wp2
  obtain ⟨hu1,hu2⟩:=hu
  obtain ⟨hm1,hm2⟩:=hm
  go_region
  all_goals go_wp2
  all_goals go_ret
  all_goals refine ⟨rfl,?_,Sl a2 D.2.length c2,ak.set4 (ak.set1 (w:=w2) ⟨⟨s0,s1,s2,s3,s4,s5,s6⟩,sf,sz2⟩ _) _,?_,?_⟩
  all_goals first
    | (repeat (refine ai ?_ hBR _ _)
       exact HB2.out.mono (by omega))
    | (refine Below.trans ?_ (da _)
       repeat (refine ai ?_ hBR _ _)
       exact HB2.out.mono (by omega))
    | (refine AL.mono (B := W0.heap.size) ?_ (by omega)
       repeat (refine AL.far ?_ hRB _ _)
       exact HA2.out)
    | (repeat (refine ah.off ?_ HBR.out _ _)
       exact HO2.out)
theorem iL (B R : Nat) (a b : Option Addr) (c d : Nat) (L : List aj) (O : List au) (k : Bk) (x : cV) (p : Nat -> Addr) (w : World) (hX : bW w R (Sl a L.length c) (Sl b O.length d) k) (hA : AL w B (Sl a L.length c) L) (hO : ah w B (Sl b O.length d) O) (hbR : ∀ q, (Value.slice b O.length d).ownBlock = some q -> q ≠ R) (hBR : B <= R) (hG : GE w p) (hR : al (FL L) L.length) (h5 : (x.k == 5) = false) (h6 : (x.k == 6) = false) :
    Calls Pg 129 #[.pointer (some ⟨R,0,none⟩),.agg #[Ii Jj x.k,Ii Jj x.i,Ii Jj x.t,Ii Jj x.m,Ii Jj x.r]] w fun e w'=>e=.returned (Ii Jj (am L x.k x.i x.t x.m x.r).1)/\Below B w w'/\∃v,bW w' R (v) (Sl b O.length d) k/\AL w' B v (am L x.k x.i x.t x.m x.r).2/\ah w' B (Sl b O.length d) O:=by
  have hl12:L.length<=12:=hR.1
  obtain ⟨W0,hW0⟩:∃W0,W0=w.alloc (.cells #[Ii Jj x.k,Ii Jj x.i,Ii Jj x.t,Ii Jj x.m,Ii Jj x.r] 49):=⟨_,rfl⟩
  have b0:Below w.heap.size w W0:=by rw[hW0];exact (Below.refl _ _).alloc (Nat.le_refl _) _
  have hRw:=hX.2.2
  have X0:=aa (hX.kept b0 hRw)
  have Q0:Hid (aN W0 w.heap.size x.k x.i x.t x.m x.r):=by
    show aN _ _ _ _ _ _ _;rw[hW0];exact aN.new w _ _ _ _ _ 49
  have O0:=aa (hO.kept b0)
  have HB0:=aa b0
  have HW0:=aa hW0
  have HBR:=aa hbR
  have PL:Hid (Calls Pg 115 #[Sl a L.length c,.agg #[Ii Jj x.k,Ii Jj x.i,Ii Jj x.t,Ii Jj x.m,Ii Jj x.r]] W0.drew fun e w'=>fb (am L x.k x.i x.t x.m x.r) W0.drew.heap.size W0.drew e w'):=by
    have:=fO a c L x.k x.i x.t x.m x.r p W0.drew (show Fo W0 a L.length (FL L) from (hA.fo (by omega)).2.below b0) (hG.below (b0.trans (da W0)))
    unfold cC at this
    rw[if_pos hR] at this
    exact this
  generalize (am L x.k x.i x.t x.m x.r)=D at*
  clear hW0 b0 hX hO hR hA hG hbR
  obtain ⟨⟨s0,s1,s2,s3,s4,s5,s6⟩,sf,sz⟩:=X0.out
  obtain ⟨t0,t1,t2,t3,t4,tz⟩:=Q0.out
  have hsl:R<W0.drew.heap.size:=sz
  have htl:w.heap.size<W0.drew.heap.size:=tz
  go_enter Tryz.func129,Tryz.ntmps129
  go_upto_region 1 with fail
  rw[←HW0.out]
  clear HW0
  go_region_held3 (fun V=>V.cell? ⟨R,1,none⟩=some (Sl a L.length c)/\V.cell? ⟨w.heap.size,0,none⟩=some (Ii Jj x.k)/\V.cell? ⟨w.heap.size,1,none⟩=some (Ii Jj x.i)/\V.cell? ⟨w.heap.size,2,none⟩=some (Ii Jj x.t)/\V.cell? ⟨w.heap.size,3,none⟩=some (Ii Jj x.m)/\V.cell? ⟨w.heap.size,4,none⟩=some (Ii Jj x.r)) (first|exact ⟨s1,t0,t1,t2,t3,t4⟩|exact ⟨(B2.cell (p:=⟨R,1,none⟩) hsl).trans s1,(B2.cell (p:=⟨w.heap.size,0,none⟩) htl).trans t0,(B2.cell (p:=⟨w.heap.size,1,none⟩) htl).trans t1,(B2.cell (p:=⟨w.heap.size,2,none⟩) htl).trans t2,(B2.cell (p:=⟨w.heap.size,3,none⟩) htl).trans t3,(B2.cell (p:=⟨w.heap.size,4,none⟩) htl).trans t4⟩) (first|(go_at_call 115;refine PL.out.mono ?_;rintro e w2 ⟨v2,rfl,A2,B2⟩;obtain ⟨a2,c2,hv⟩:=A2.len;subst hv))
  have B2':Below W0.heap.size W0 w2:=⟨B2.os,B2.tape,B2.output,B2.size,B2.block⟩
  have X2:=X0.out.kept B2' sz
  have Q2:aN w2 w.heap.size x.k x.i x.t x.m x.r:=⟨(B2.cell (p:=⟨w.heap.size,0,none⟩) htl).trans t0,(B2.cell (p:=⟨w.heap.size,1,none⟩) htl).trans t1,(B2.cell (p:=⟨w.heap.size,2,none⟩) htl).trans t2,(B2.cell (p:=⟨w.heap.size,3,none⟩) htl).trans t3,(B2.cell (p:=⟨w.heap.size,4,none⟩) htl).trans t4,Nat.lt_of_lt_of_le tz B2'.size⟩
  have HO2:=aa (O0.out.kept B2')
  have HA2:=aa A2
  have HB2:=aa (HB0.out.trans (B2'.mono HB0.out.size))
  clear s0 s1 s2 s3 s4 s5 s6 sf t0 t1 t2 t3 t4 B2 B2' PL X0 Q0 A2 hsl htl O0
  obtain ⟨⟨s0,s1,s2,s3,s4,s5,s6⟩,sf,sz2⟩:=X2
  obtain ⟨t0,t1,t2,t3,t4,tz2⟩:=Q2
  have hne1:¬R=w.heap.size:=by omega
  have hne2:¬w.heap.size=R:=by omega
  have hRB:R<W0.heap.size:=sz
  go_wp2
  all_goals go_ret
  all_goals refine ⟨rfl,?_,Sl a2 D.2.length c2,ak.set1 (w:=w2) ⟨⟨s0,s1,s2,s3,s4,s5,s6⟩,sf,sz2⟩ _,?_,?_⟩
  all_goals first
    | (repeat (refine ai ?_ hBR _ _)
       exact HB2.out.mono (by omega))
    | (refine Below.trans ?_ (da _)
       repeat (refine ai ?_ hBR _ _)
       exact HB2.out.mono (by omega))
    | (refine AL.mono (B := W0.heap.size) ?_ (by omega)
       repeat (refine AL.far ?_ hRB _ _)
       exact HA2.out)
    | (repeat (refine ah.off ?_ HBR.out _ _)
       exact HO2.out)
end Go.Proofs.YtghkbhggopiajaaGreatDoor
