/- Ended of the specification. -/
import Derived.Test.YtjhgchlfpolkcaaGreatDoorEdix
namespace Go.Proofs.YtjhgchlfpolkcaaGreatDoor
open Value renaming int → Ii,slice → Sl
open IntKind renaming i64 → Jj
open Nat renaming le_refl → Nf
open Go.RowKit.Below renaming refl → Bf
open Go.Proofs.Tryz renaming prog → Pg
open List renaming setIfInBounds_toArray → La,set_cons_zero → Lz,set_cons_succ → Lc
set_option linter.unusedSimpArgs false
open Go.RowKit
set_option maxRecDepth 8000
theorem dQ {w:World} {Q b q p:Nat} {x u:Value} (h:w.cell? ⟨b,p,none⟩=some x) (hne:b≠Q):(w.setCell ⟨Q,q,none⟩ u).cell? ⟨b,p,none⟩=some x:=by
 rw[←h]
 unfold World.cell? World.setCell
 simp[Array.getElem?_modify,Ne.symm hne]
theorem rJ {w:World} {z R ob:Nat} {q0 q1 q2 q3 q4 q5 q6 q7 qq:Nat} {v0 v1 v2 v3 v4 v5 v6 v7 u:Value}
  (h:w.cell? ⟨z,q0,none⟩=some v0/\w.cell? ⟨ob,q1,none⟩=some v1/\w.cell? ⟨ob,q2,none⟩=some v2/\w.cell? ⟨ob,q3,none⟩=some v3/\w.cell? ⟨ob,q4,none⟩=some v4/\w.cell? ⟨ob,q5,none⟩=some v5/\w.cell? ⟨ob,q6,none⟩=some v6/\w.cell? ⟨ob,q7,none⟩=some v7) (h1:ob≠R) (h2:R≠z):
  (w.setCell ⟨R,qq,none⟩ u).cell? ⟨z,q0,none⟩=some v0/\(w.setCell ⟨R,qq,none⟩ u).cell? ⟨ob,q1,none⟩=some v1/\(w.setCell ⟨R,qq,none⟩ u).cell? ⟨ob,q2,none⟩=some v2/\(w.setCell ⟨R,qq,none⟩ u).cell? ⟨ob,q3,none⟩=some v3/\(w.setCell ⟨R,qq,none⟩ u).cell? ⟨ob,q4,none⟩=some v4/\(w.setCell ⟨R,qq,none⟩ u).cell? ⟨ob,q5,none⟩=some v5/\(w.setCell ⟨R,qq,none⟩ u).cell? ⟨ob,q6,none⟩=some v6/\(w.setCell ⟨R,qq,none⟩ u).cell? ⟨ob,q7,none⟩=some v7:=by
 obtain ⟨a0,a1,a2,a3,a4,a5,a6,a7⟩:=h
 exact ⟨dQ a0 (Ne.symm h2),dQ a1 h1,dQ a2 h1,dQ a3 h1,dQ a4 h1,dQ a5 h1,dQ a6 h1,dQ a7 h1⟩
set_option maxHeartbeats 8000000 in
theorem jA (a b:Option Addr) (c d:Nat) (L:List al) (O:List am) (k:Bk) (w:World) (hF:Fo w a L.length (FL L)) (hO:aJ w b O.length (ai O)) (hb:aj (FL L) L.length (ai O) O.length k):
  Calls Pg 105 #[.agg #[Ii Jj k.day,Sl a L.length c,Sl b O.length d,Ii Jj k.inn,Ii Jj k.out,Ii Jj k.posted,Ii Jj k.missed]] w fun e w'=>(fy L O k/\∃v u,e=.returned (.tuple #[.agg #[Ii Jj (dq L O k).day,v,u,Ii Jj (dq L O k).inn,Ii Jj (dq L O k).out,Ii Jj (dq L O k).posted,Ii Jj (dq L O k).missed],.bool true])/\AL w' w.heap.size v (eM L O k)/\ag w' w.heap.size u (eJ O k)/\Below w.heap.size w w')\/(¬fy L O k/\e=.returned (.tuple #[.agg #[Ii Jj 0,Sl none 0 0,Sl none 0 0,Ii Jj 0,Ii Jj 0,Ii Jj 0,Ii Jj 0],.bool false])/\Below w.heap.size w w'):=by
 have HF:Hid (Fo w a L.length (FL L)):=hF
 have HO:Hid (aJ w b O.length (ai O)):=hO
 have HR:Hid (ap (FL L) L.length):=hb.2.1
 have hn12:=hb.2.1.1
 have hol:=hO.1
 obtain ⟨⟨dy1,dy2⟩,_,_,_,_,⟨po1,po2⟩,⟨mi1,mi2⟩,_⟩:=hb
 clear hF hO
 obtain ⟨W0,hW0⟩:∃W0,W0=(w.alloc (.cells #[Ii Jj k.day,Sl a L.length c,Sl b O.length d,Ii Jj k.inn,Ii Jj k.out,Ii Jj k.posted,Ii Jj k.missed] 27)).alloc (.cells #[Ii Jj 0,Sl none 0 0,Sl none 0 0,Ii Jj 0,Ii Jj 0,Ii Jj 0,Ii Jj 0] 27):=⟨_,rfl⟩
 have b0:Below w.heap.size w W0:=by rw[hW0];exact ((Bf _ _).alloc (Nf _) _).alloc (by simp) _
 have z1:af W0 w.heap.size (Ii Jj k.day) (Sl a L.length c) (Sl b O.length d) (Ii Jj k.inn) (Ii Jj k.out) (Ii Jj k.posted) (Ii Jj k.missed):=by
  rw[hW0];exact (af.new w _ _ _ _ _ _ _ 27).kept ((Bf _ _).alloc (Nf _) _) (by simp)
 have z2:af W0 (w.heap.size+1) (Ii Jj 0) (Sl none 0 0) (Sl none 0 0) (Ii Jj 0) (Ii Jj 0) (Ii Jj 0) (Ii Jj 0):=by
  rw[hW0]
  have:=af.new (w.alloc (.cells #[Ii Jj k.day,Sl a L.length c,Sl b O.length d,Ii Jj k.inn,Ii Jj k.out,Ii Jj k.posted,Ii Jj k.missed] 27)) (Ii Jj 0) (Sl none 0 0) (Sl none 0 0) (Ii Jj 0) (Ii Jj 0) (Ii Jj 0) (Ii Jj 0) 27
  rw[World.size_alloc] at this
  exact this
 have hs0:W0.heap.size=w.heap.size+1+1:=by rw[hW0];simp
 have HW0:Hid (W0=_):=hW0
 have HB0:Hid (Below w.heap.size w W0):=b0
 have Z1:Hid (af W0 w.heap.size (Ii Jj k.day) (Sl a L.length c) (Sl b O.length d) (Ii Jj k.inn) (Ii Jj k.out) (Ii Jj k.posted) (Ii Jj k.missed)):=z1
 have Z2:Hid (af W0 (w.heap.size+1) (Ii Jj 0) (Sl none 0 0) (Sl none 0 0) (Ii Jj 0) (Ii Jj 0) (Ii Jj 0) (Ii Jj 0)):=z2
 clear hW0 b0 z1 z2
 go_enter Tryz.func105,Tryz.ntmps105
 go_wp2_with fail
 rw[←HW0.out]
 clear HW0
 refine (ay a b c d L O k _ (HF.out.below HB0.out) (HO.out.below HB0.out)).mono ?_
 rintro e w1 ⟨v1,u1,rfl,A1,O1,B1⟩
 obtain ⟨a1,c1,hv⟩:=A1.len
 subst hv
 obtain ⟨b1,d1,hv,_⟩:=O1.shape
 subst hv
 have hs1:=B1.size
 have hs1':w.heap.size+1+1<=w1.heap.size:=by omega
 obtain ⟨W1,hW1⟩:∃W1,W1=w1.alloc (.cells #[Ii Jj k.day,Sl a1 L.length c1,Sl b1 O.length d1,Ii Jj k.inn,Ii Jj k.out,Ii Jj k.posted,Ii Jj k.missed] 27):=⟨_,rfl⟩
 have D1:Below w1.heap.size w1 W1:=by rw[hW1];exact (Bf _ _).alloc (Nf _) _
 have Y1:=(Z1.out.kept B1 (by omega)).kept D1 (by omega)
 have P1:Hid (af W1 w.heap.size (Ii Jj k.day) (Sl a L.length c) (Sl b O.length d) (Ii Jj k.inn) (Ii Jj k.out) (Ii Jj k.posted) (Ii Jj k.missed)):=Y1
 have Q1:Hid (af W1 (w.heap.size+1) (Ii Jj 0) (Sl none 0 0) (Sl none 0 0) (Ii Jj 0) (Ii Jj 0) (Ii Jj 0) (Ii Jj 0)):=(Z2.out.kept B1 (by omega)).kept D1 (by omega)
 have HB1:Hid (Below w.heap.size w W1):=HB0.out.trans ((B1.trans (D1.mono hs1)).mono (by omega))
 have X1:Hid (af W1 w1.heap.size (Ii Jj (k.day)) (Sl a1 L.length c1) (Sl b1 O.length d1) (Ii Jj k.inn) (Ii Jj k.out) (Ii Jj (k.posted)) (Ii Jj (k.missed))):=by
  show af _ _ _ _ _ _ _ _ _;rw[hW1];exact af.new w1 _ _ _ _ _ _ _ 27
 have F1:Hid (Fo W1 a1 L.length (FL L)):=((A1.kept D1).fo (by omega)).2
 have HO1:Hid (aJ W1 b O.length (ai O)):=HO.out.below HB1.out
 have hsW1:W1.heap.size=w1.heap.size+1:=by rw[hW1];simp
 have HW1:Hid (W1=_):=hW1
 clear hW1 Y1 D1 A1 O1 B1 Z1 Z2 HB0 hs0 hs1
 go_upto_region 2 with fail
 rw[←HW1.out]
 clear HW1
 obtain ⟨⟨s0,s1,s2,s3,s4,s5,s6⟩,sf,sz⟩:=P1.out
 go_wp2_with fail
 refine (pC b O.length d (ai O) k.day W1 HO1.out).mono ?_
 rintro e w2 ⟨v2,rfl,D2,B2⟩
 obtain ⟨a2,c2,hv2,_,_⟩:=D2.shape
 subst hv2
 have hdl:Hid ((lN (ai O) O.length k.day).length<=O.length):=qj _ _ _
 obtain ⟨D,hD⟩:∃D,D=lN (ai O) O.length k.day:=⟨_,rfl⟩
 rw[←hD] at D2 hdl ⊢
 have HD:Hid (D=kR O k):=hD
 have hdn:D.length<=1048576:=Nat.le_trans hdl.out hol
 have HDO:Hid (aJ w2 a2 D.length (ai D)):=(D2.list hdn).2
 have hge1:Hid (∀x,a2=some x->w1.heap.size+1<=x.block/\x.block<w2.heap.size):=fun x hx=>by
  subst hx
  cases x with
  | mk bl of sp=>
   rcases D2.2 with ⟨hv2,_⟩|⟨g,cap,cur,hv2,hg,hcur,_⟩
   ·simp at hv2
   ·simp at hv2
    obtain ⟨⟨rfl,_⟩,_⟩:=hv2
    rw[hsW1] at hg
    exact ⟨hg,(Array.getElem?_eq_some_iff.1 hcur).1⟩
 have hs2:w1.heap.size+1<=w2.heap.size:=by have:=B2.size;omega
 have X2:Hid (af w2 w1.heap.size (Ii Jj (k.day)) (Sl a1 L.length c1) (Sl b1 O.length d1) (Ii Jj k.inn) (Ii Jj k.out) (Ii Jj (k.posted)) (Ii Jj (k.missed))):=X1.out.kept B2 X1.out.2.2
 have P2:Hid (af w2 w.heap.size (Ii Jj k.day) (Sl a L.length c) (Sl b O.length d) (Ii Jj k.inn) (Ii Jj k.out) (Ii Jj k.posted) (Ii Jj k.missed)):=P1.out.kept B2 P1.out.2.2
 have Q2:Hid (af w2 (w.heap.size+1) (Ii Jj 0) (Sl none 0 0) (Sl none 0 0) (Ii Jj 0) (Ii Jj 0) (Ii Jj 0) (Ii Jj 0)):=Q1.out.kept B2 Q1.out.2.2
 have F2:Hid (Fo w2 a1 L.length (FL L)):=F1.out.below B2
 have HB2:Hid (Below w.heap.size w w2):=HB1.out.trans (B2.mono HB1.out.size)
 clear s0 s1 s2 s3 s4 s5 s6 sf sz hD D2 B2 HO1 X1 P1 Q1 F1 HB1 hsW1
 go_wp2
 go_loopw[6] (fun q wr=>∃j:Nat,j<=D.length/\q=Ii Jj j/\Hid (∃a' c',af wr w1.heap.size (Ii Jj (k.day)) (Sl a' L.length c') (Sl b1 O.length d1) (Ii Jj k.inn) (Ii Jj k.out) (Ii Jj (k.posted)) (Ii Jj (k.missed+(cr L D j).2))/\Fo wr a' L.length (FL (cr L D j).1))/\Hid (w2.grownBy wr (some w1.heap.size))) (fun q _=>D.length-(jH q).toNat)
 case atStart=>exact ⟨0,Nat.zero_le _,rfl,⟨a1,c1,by simpa [cr] using X2.out,F2.out⟩,World.grownBy.refl _ _⟩
 case round=>
  obtain ⟨j,hj,rfl,hS,hG⟩:=hrel
  obtain ⟨a',c',hX,hF⟩:=hS.out
  obtain ⟨f1,f2,f3,f4⟩:=fF (D:=D) HR.out j
  by_cases hlt:j<D.length
  ·obtain ⟨ob,oo,ea1,hob,hA⟩:=HDO.out.acc hlt
   subst ea1
   have hobR:ob≠w1.heap.size:=by have:=(hge1.out _ rfl).1;simp at this;omega
   have hA2:gA wr ob (oo+j*7) (ai D j):=hA.of_cells (fun o=>by
    unfold World.cell?
    simp only[hG.out.block ob hob (by simp;exact hobR)])
   obtain ⟨q0,q1,q2,q3,q4,q5,q6⟩:=hA2
   have hobw:ob<wr.heap.size:=Nat.lt_of_lt_of_le hob hG.out.size
   obtain ⟨M,hM⟩:∃M,M=(cr L D j).1:=⟨_,rfl⟩
   obtain ⟨mi,hmi⟩:∃mi,mi=(cr L D j).2:=⟨_,rfl⟩
   rw[←hM] at hF f1 f2
   rw[←hmi] at hX f3 f4
   have HN:Hid (cr L D (j+1)=((ao M 7 (ai D j).src (ai D j).dst (ai D j).amount 0).2,mi+if (ao M 7 (ai D j).src (ai D j).dst (ai D j).amount 0).1=0 then 0 else 1)):=by
    show cr L D (j+1)=_
    rw[hM,hmi];rfl
   have BR:Below wr.heap.size wr wr:=Bf _ _
   have BWD:Hid (Below wr.heap.size wr wr.drew):=⟨BR.os,BR.tape,BR.output,BR.size,BR.block⟩
   have DN:Hid (Calls Pg 104 #[Sl a' L.length c',.agg #[Ii Jj 7,Ii Jj (ai D j).src,Ii Jj (ai D j).dst,Ii Jj (ai D j).amount,Ii Jj 0]] wr.drew fun e w'=>∃v,e=.returned (.tuple #[v,Ii Jj (ao M 7 (ai D j).src (ai D j).dst (ai D j).amount 0).1])/\AL w' wr.heap.size v (ao M 7 (ai D j).src (ai D j).dst (ai D j).amount 0).2/\Below wr.heap.size wr w'):=by
    have h3:=eY a' c' M 7 (ai D j).src (ai D j).dst (ai D j).amount 0 wr.drew (by rw[f1];exact hF.below BWD.out) f2
    rw[f1] at h3
    exact h3.mono fun e w' ⟨v,he,hA',hB'⟩=>⟨v,he,hA',BWD.out.trans hB'⟩
   have hP:=fg f2 (ai D j).src (ai D j).dst (ai D j).amount
   unfold en at hP
   have HPL:Hid ((ao M 7 (ai D j).src (ai D j).dst (ai D j).amount 0).2.length=L.length):=hP.1.trans f1
   have hn12':Hid ((ao M 7 (ai D j).src (ai D j).dst (ai D j).amount 0).2.length<=12):=hP.2.2.1
   have hXX:Hid (af wr w1.heap.size (Ii Jj (k.day)) (Sl a' L.length c') (Sl b1 O.length d1) (Ii Jj k.inn) (Ii Jj k.out) (Ii Jj (k.posted)) (Ii Jj (k.missed+mi))):=hX
   have hmi2:mi<=1048576:=by omega
   have hRw:w1.heap.size<wr.heap.size:=hX.2.2
   have x1:wr.cell? ⟨w1.heap.size,1,none⟩=some (Sl a' L.length c'):=hX.1.2.1
   clear hM hmi hP f1 f2 hX hF hA hS f4 BR
   generalize ao M 7 (ai D j).src (ai D j).dst (ai D j).amount 0=DR at*
   generalize ai D j=o at*
   go_upto_region 6 with fail
   go_region_held3 (fun V=>V.cell? ⟨w1.heap.size,1,none⟩=some (Sl a' L.length c')/\V.cell? ⟨ob,oo+j*7+1,none⟩=some (Ii Jj o.src)/\V.cell? ⟨ob,oo+j*7+2,none⟩=some (Ii Jj o.dst)/\V.cell? ⟨ob,oo+j*7+3,none⟩=some (Ii Jj o.amount)) (first|exact ⟨x1,q1,q2,q3⟩|exact ⟨(B3.cell (p:=⟨w1.heap.size,1,none⟩) hRw).trans x1,(B3.cell (p:=⟨ob,oo+j*7+1,none⟩) hobw).trans q1,(B3.cell (p:=⟨ob,oo+j*7+2,none⟩) hobw).trans q2,(B3.cell (p:=⟨ob,oo+j*7+3,none⟩) hobw).trans q3⟩)
    (first
     | (go_at_call 104;refine DN.out.mono ?_;rintro e w3 ⟨v3,rfl,A3,B3⟩;obtain ⟨a3,c3,hv3⟩:=A3.len;subst hv3))
   have X3:af w3 w1.heap.size (Ii Jj (k.day)) (Sl a' L.length c') (Sl b1 O.length d1) (Ii Jj k.inn) (Ii Jj k.out) (Ii Jj (k.posted)) (Ii Jj (k.missed+mi)):=hXX.out.kept B3 hRw
   rw[HPL.out] at A3 ⊢
   obtain ⟨V4,hV4⟩:∃V4,V4=w3.setCell ⟨w1.heap.size,1,none⟩ (Sl a3 L.length c3):=⟨_,rfl⟩
   have X4:af V4 w1.heap.size (Ii Jj (k.day)) (Sl a3 L.length c3) (Sl b1 O.length d1) (Ii Jj k.inn) (Ii Jj k.out) (Ii Jj (k.posted)) (Ii Jj (k.missed+mi)):=by rw[hV4];exact X3.set1 _
   have A4:AL V4 wr.heap.size (Sl a3 L.length c3) DR.2:=by rw[hV4];exact A3.far hRw _ _
   have G4:w2.grownBy V4 (some w1.heap.size):=by
    rw[hV4]
    exact fZ (hG.out.trans ⟨B3.os,B3.tape,B3.output,B3.size,fun i hi _=>B3.block i hi⟩) 1 _
   have HX4:Hid (af V4 w1.heap.size (Ii Jj (k.day)) (Sl a3 L.length c3) (Sl b1 O.length d1) (Ii Jj k.inn) (Ii Jj k.out) (Ii Jj (k.posted)) (Ii Jj (k.missed+mi))):=X4
   have HA4:Hid (AL V4 wr.heap.size (Sl a3 L.length c3) DR.2):=A4
   have HG4:Hid (w2.grownBy V4 (some w1.heap.size)):=G4
   have HV4:Hid (V4=w3.setCell ⟨w1.heap.size,1,none⟩ (Sl a3 L.length c3)):=hV4
   obtain ⟨⟨s0,s1,s2,s3,s4,s5,s6⟩,sf,sz⟩:=X3
   clear A3 B3 DN x1 q0 q1 q2 q3 q4 q5 q6 BWD hV4 X4 A4 G4 hXX
   go_upto_region 8 with fail
   rw[←HV4.out]
   clear HV4 s0 s1 s2 s3 s4 s5 s6 sf sz
   by_cases hc:DR.1=0
   ·have hcb:(DR.1 != 0)=false:=by simp[hc]
    have HN2:Hid (cr L D (j+1)=(DR.2,mi)):=by
     show cr L D (j+1)=_
     rw[HN.out,if_pos hc,Int.add_zero]
    clear hc HN
    go_wp2
    go_roundw
    case rel=>
     refine ⟨j+1,by omega,by go_num,⟨a3,c3,?_,?_⟩,HG4⟩
     ·rw[HN2.out];exact HX4.out
     ·rw[HN2.out]
      have:=(HA4.out.fo (Nat.le_trans hn12'.out (by omega))).2
      exact this
    case measure=>simp[jH];omega
   ·have hcb:(DR.1 != 0)=true:=by simp[hc]
    have HN2:Hid (cr L D (j+1)=(DR.2,mi+1)):=by
     show cr L D (j+1)=_
     rw[HN.out,if_neg hc]
    obtain ⟨⟨s0,s1,s2,s3,s4,s5,s6⟩,sf,sz⟩:=HX4.out
    have HX5:Hid (af (V4.setCell ⟨w1.heap.size,6,none⟩ (Ii Jj (k.missed+mi+1))) w1.heap.size (Ii Jj (k.day)) (Sl a3 L.length c3) (Sl b1 O.length d1) (Ii Jj k.inn) (Ii Jj k.out) (Ii Jj (k.posted)) (Ii Jj (k.missed+mi+1))):=HX4.out.set6 _
    have HA5:Hid (AL (V4.setCell ⟨w1.heap.size,6,none⟩ (Ii Jj (k.missed+mi+1))) wr.heap.size (Sl a3 L.length c3) DR.2):=HA4.out.far hRw _ _
    have HG5:Hid (w2.grownBy (V4.setCell ⟨w1.heap.size,6,none⟩ (Ii Jj (k.missed+mi+1))) (some w1.heap.size)):=fZ HG4.out 6 _
    clear hc HN
    go_wp2
    go_roundw
    case rel=>
     refine ⟨j+1,by omega,by go_num,⟨a3,c3,?_,?_⟩,HG5⟩
     ·rw[HN2.out,←Int.add_assoc];exact HX5.out
     ·rw[HN2.out]
      have:=(HA5.out.fo (Nat.le_trans hn12'.out (by omega))).2
      exact this
    case measure=>simp[jH];omega
  ·have hjd:j=D.length:=by omega
   subst hjd
   have hDD:=HD.out
   subst hDD
   obtain ⟨es1,es2⟩:=nt O k HR.out
   have HES:Hid (ap (FL (gb L O k)) L.length):=es2
   have P4:Hid (af wr w.heap.size (Ii Jj k.day) (Sl a L.length c) (Sl b O.length d) (Ii Jj k.inn) (Ii Jj k.out) (Ii Jj k.posted) (Ii Jj k.missed)):=P2.out.same (hG.out.block _ P2.out.2.2 (by simp;omega))
   have Q4:Hid (af wr (w.heap.size+1) (Ii Jj 0) (Sl none 0 0) (Sl none 0 0) (Ii Jj 0) (Ii Jj 0) (Ii Jj 0) (Ii Jj 0)):=Q2.out.same (hG.out.block _ Q2.out.2.2 (by simp;omega))
   have HB4:Hid (Below w.heap.size w wr):=HB2.out.grown hG.out HB2.out.size (fun x hx=>by simp at hx;omega)
   have HX4:Hid (af wr w1.heap.size (Ii Jj (k.day)) (Sl a' L.length c') (Sl b1 O.length d1) (Ii Jj k.inn) (Ii Jj k.out) (Ii Jj (k.posted)) (Ii Jj ((dq L O k).missed))):=hX
   have hRw:w1.heap.size<wr.heap.size:=hX.2.2
   have SWP:Hid (Calls Pg 124 #[Sl a' L.length c'] wr fun e w'=>∃v,e=.returned v/\AL w' wr.heap.size v (gb L O k)/\Below wr.heap.size wr w'):=by
    have:=nU a' c' (cr L (kR O k) (kR O k).length).1 wr (by rw[f1];exact hF) f2
    rw[f1] at this
    exact this
   obtain ⟨⟨s0,s1,s2,s3,s4,s5,s6⟩,sf,sz⟩:=HX4.out
   clear hX hF hS hG f1 f2 f3 f4 HDO hge1 X2 P2 Q2 F2 HB2 es2 HD
   go_wp2_with fail
   refine SWP.out.mono ?_
   rintro e w5 ⟨v5,rfl,A5,B5⟩
   obtain ⟨a5,c5,hv5⟩:=A5.len
   rw[es1] at hv5
   subst hv5
   clear s0 s1 s2 s3 s4 s5 s6 sf sz SWP
   have hs5:=B5.size
   have X5:=HX4.out.kept B5 hRw
   obtain ⟨V5,hV5⟩:∃V5,V5=w5.setCell ⟨w1.heap.size,1,none⟩ (Sl a5 L.length c5):=⟨_,rfl⟩
   have XV5:Hid (af V5 w1.heap.size (Ii Jj (k.day)) (Sl a5 L.length c5) (Sl b1 O.length d1) (Ii Jj k.inn) (Ii Jj k.out) (Ii Jj (k.posted)) (Ii Jj ((dq L O k).missed))):=by
    show af _ _ _ _ _ _ _ _ _;rw[hV5];exact X5.set1 _
   have F5:Hid (Fo V5 a5 L.length (FL (gb L O k))):=by
    have h:AL V5 wr.heap.size (Sl a5 L.length c5) (gb L O k):=by rw[hV5];exact A5.far hRw _ _
    exact (h.fo (by rw[es1];omega)).2
   have P5:Hid (af V5 w.heap.size (Ii Jj k.day) (Sl a L.length c) (Sl b O.length d) (Ii Jj k.inn) (Ii Jj k.out) (Ii Jj k.posted) (Ii Jj k.missed)):=by
    show af _ _ _ _ _ _ _ _ _;rw[hV5];exact (P4.out.kept B5 P4.out.2.2).far (by omega) _ _
   have Q5:Hid (af V5 (w.heap.size+1) (Ii Jj 0) (Sl none 0 0) (Sl none 0 0) (Ii Jj 0) (Ii Jj 0) (Ii Jj 0) (Ii Jj 0)):=by
    show af _ _ _ _ _ _ _ _ _;rw[hV5];exact (Q4.out.kept B5 Q4.out.2.2).far (by omega) _ _
   have HB5:Hid (Below w.heap.size w V5):=by
    show Below _ _ _;rw[hV5];exact ak (HB4.out.trans (B5.mono HB4.out.size)) (by omega) _ _
   have hsV5:w5.heap.size=V5.heap.size:=by rw[hV5];simp[World.setCell]
   have hRV5:w1.heap.size<V5.heap.size:=by omega
   have INT:Hid (Calls Pg 125 #[Sl a5 L.length c5] V5 fun e w'=>∃v,e=.returned (.tuple #[v,Ii Jj (e7 (FL (gb L O k)) L.length L.length)])/\AL w' V5.heap.size v (eM L O k)/\Below V5.heap.size V5 w'):=lw a5 L.length c5 (FL (gb L O k)) V5 F5.out HES.out
   have HV5:Hid (V5=_):=hV5
   obtain ⟨⟨s0,s1,s2,s3,s4,s5,s6⟩,sf,sz⟩:=X5
   clear hV5 A5 B5 F5 P4 Q4 HB4 HX4 hsV5 hs5 hRw
   go_upto_region 11 with fail
   rw[←HV5.out]
   clear HV5 s0 s1 s2 s3 s4 s5 s6 sf sz
   obtain ⟨⟨s0,s1,s2,s3,s4,s5,s6⟩,sf,sz⟩:=XV5.out
   go_wp2_with fail
   refine INT.out.mono ?_
   rintro e w6 ⟨v6,rfl,A6,B6⟩
   obtain ⟨a6,c6,hv6⟩:=A6.len
   have hla:(eM L O k).length=L.length:=dN _ _
   rw[hla] at hv6
   subst hv6
   clear s0 s1 s2 s3 s4 s5 s6 sf sz INT
   obtain ⟨is1,is2⟩:=la HES.out L.length (Nf _)
   have is3: -36000000000<=e7 (FL (gb L O k)) L.length L.length:=by omega
   have is4:e7 (FL (gb L O k)) L.length L.length<=36000000000:=by omega
   have HPO:Hid ((dq L O k).posted=k.posted+e7 (FL (gb L O k)) L.length L.length):=rfl
   generalize e7 (FL (gb L O k)) L.length L.length=iS at*
   have hs6:=B6.size
   have X6:=XV5.out.kept B6 XV5.out.2.2
   have P6:=P5.out.kept B6 P5.out.2.2
   have Q6:=Q5.out.kept B6 Q5.out.2.2
   have hne0:w1.heap.size≠w.heap.size:=by omega
   obtain ⟨V7,hV7⟩:∃V7,V7=(((w6.setCell ⟨w1.heap.size,1,none⟩ (Sl a6 L.length c6)).setCell ⟨w1.heap.size,5,none⟩ (Ii Jj (k.posted+iS))).setCell ⟨w1.heap.size,0,none⟩ (Ii Jj (k.day+1))).setCell ⟨w1.heap.size,2,none⟩ (Sl none 0 0):=⟨_,rfl⟩
   have X7:Hid (af V7 w1.heap.size (Ii Jj (k.day+1)) (Sl a6 L.length c6) (Sl none 0 0) (Ii Jj k.inn) (Ii Jj k.out) (Ii Jj (k.posted+iS)) (Ii Jj ((dq L O k).missed))):=by
    show af _ _ _ _ _ _ _ _ _;rw[hV7];exact (((X6.set1 _).set5 _).set0 _).set2 _
   have A7:Hid (AL V7 V5.heap.size (Sl a6 L.length c6) (eM L O k)):=by
    show AL _ _ _ _;rw[hV7];exact (((A6.far hRV5 _ _).far hRV5 _ _).far hRV5 _ _).far hRV5 _ _
   have P7:Hid (af V7 w.heap.size (Ii Jj k.day) (Sl a L.length c) (Sl b O.length d) (Ii Jj k.inn) (Ii Jj k.out) (Ii Jj k.posted) (Ii Jj k.missed)):=by
    show af _ _ _ _ _ _ _ _ _;rw[hV7];exact (((P6.far hne0 _ _).far hne0 _ _).far hne0 _ _).far hne0 _ _
   have hne1:w1.heap.size≠w.heap.size+1:=by omega
   have Q7:Hid (af V7 (w.heap.size+1) (Ii Jj 0) (Sl none 0 0) (Sl none 0 0) (Ii Jj 0) (Ii Jj 0) (Ii Jj 0) (Ii Jj 0)):=by
    show af _ _ _ _ _ _ _ _ _;rw[hV7];exact (((Q6.far hne1 _ _).far hne1 _ _).far hne1 _ _).far hne1 _ _
   have HB7:Hid (Below w.heap.size w V7):=by
    show Below _ _ _;rw[hV7];exact ak (ak (ak (ak (HB5.out.trans (B6.mono HB5.out.size)) (by omega) _ _) (by omega) _ _) (by omega) _ _) (by omega) _ _
   have hs7:w6.heap.size=V7.heap.size:=by rw[hV7];simp[World.setCell]
   have hRV7:w1.heap.size<V7.heap.size:=by omega
   have hs57:V5.heap.size<=V7.heap.size:=by omega
   have ALT:Hid (∀g,(Value.slice a6 L.length c6).ownBlock=some g->V5.heap.size<=g/\g<V7.heap.size):=fun g hg=>World.ownsRow.lt A7.out g hg
   have HV7:Hid (V7=_):=hV7
   obtain ⟨⟨s0,s1,s2,s3,s4,s5,s6⟩,sf,sz⟩:=X6
   obtain ⟨⟨t0,t1,t2,t3,t4,t5,t6⟩,tf,tz⟩:=P6
   clear hV7 A6 B6 Q6 XV5 P5 Q5 HB5 is1 is2 hs7 hs6
   go_upto_region 16 with fail
   rw[←HV7.out]
   clear HV7 s0 s1 s2 s3 s4 s5 s6 sf sz t0 t1 t2 t3 t4 t5 t6 tf tz
   go_wp2
   go_loopw[11] (fun q wr=>∃j:Nat,j<=O.length/\q=Ii Jj j/\Hid (∃u,af wr w1.heap.size (Ii Jj (k.day+1)) (Sl a6 L.length c6) (u) (Ii Jj k.inn) (Ii Jj k.out) (Ii Jj (k.posted+iS)) (Ii Jj ((dq L O k).missed))/\ag wr V7.heap.size u (dl (cH (k.day+1)) (O.take j))/\AL wr V5.heap.size (Sl a6 L.length c6) (eM L O k)/\af wr w.heap.size (Ii Jj k.day) (Sl a L.length c) (Sl b O.length d) (Ii Jj k.inn) (Ii Jj k.out) (Ii Jj k.posted) (Ii Jj k.missed)/\af wr (w.heap.size+1) (Ii Jj 0) (Sl none 0 0) (Sl none 0 0) (Ii Jj 0) (Ii Jj 0) (Ii Jj 0) (Ii Jj 0)/\Below w.heap.size w wr/\V7.heap.size<=wr.heap.size)) (fun q _=>O.length-(jH q).toNat)
   case atStart=>exact ⟨0,Nat.zero_le _,rfl,Sl none 0 0,X7.out,ag.nil _ _,A7.out,P7.out,Q7.out,HB7.out,Nf _⟩
   case round=>
    clear X7 A7 P7 Q7 HB7
    obtain ⟨j,hj,rfl,hS⟩:=hrel
    obtain ⟨u,hX,hOr,hA,hP,hQ,hB,hsz⟩:=hS.out
    obtain ⟨bu,du,hu,hult,_⟩:=hOr.shape
    subst hu
    by_cases hlt:j<O.length
    ·have HK:=nC (pr:=cH (k.day+1)) hlt
     have hkl:(dl (cH (k.day+1)) (O.take j)).length<=1048576:=Nat.le_trans (List.length_filter_le _ _) (by simp;omega)
     have HKH:Hid (dl (cH (k.day+1)) (O.take (j+1))=if cH (k.day+1) (ai O j) then dl (cH (k.day+1)) (O.take j) else dl (cH (k.day+1)) (O.take j)++[ai O j]):=HK
     obtain ⟨ob,oo,rfl,hob,hAt⟩:=(HO.out.below hB).acc hlt
     obtain ⟨q0,q1,q2,q3,q4,q5,q6⟩:=hAt
     have hPP:Hid (af wr w.heap.size (Ii Jj k.day) (Sl a L.length c) (Sl (some ⟨ob,oo,none⟩) O.length d) (Ii Jj k.inn) (Ii Jj k.out) (Ii Jj k.posted) (Ii Jj k.missed)):=hP
     have hXX:Hid (af wr w1.heap.size (Ii Jj (k.day+1)) (Sl a6 L.length c6) (Sl bu (dl (cH (k.day+1)) (O.take j)).length du) (Ii Jj k.inn) (Ii Jj k.out) (Ii Jj (k.posted+iS)) (Ii Jj ((dq L O k).missed))):=hX
     have hOO:Hid (ag wr V7.heap.size (Sl bu (dl (cH (k.day+1)) (O.take j)).length du) (dl (cH (k.day+1)) (O.take j))):=hOr
     have hAA:Hid (AL wr V5.heap.size (Sl a6 L.length c6) (eM L O k)):=hA
     have hQQ:Hid (af wr (w.heap.size+1) (Ii Jj 0) (Sl none 0 0) (Sl none 0 0) (Ii Jj 0) (Ii Jj 0) (Ii Jj 0) (Ii Jj 0)):=hQ
     have hBB:Hid (Below w.heap.size w wr):=hB
     have p2:=hP.1.2.2.1
     have x0:=hX.1.1
     have hwz:w.heap.size<wr.heap.size:=hP.2.2
     have hRz:w1.heap.size<wr.heap.size:=hX.2.2
     have BR:Below wr.heap.size wr wr:=Bf _ _
     have BWD:Hid (Below wr.heap.size wr wr.drew):=⟨BR.os,BR.tape,BR.output,BR.size,BR.block⟩
     have HIS:Hid (cH (k.day+1) (ai O j)=decide (ce (ai O j) (k.day+1)<0)):=rfl
     have NX:Hid (Calls Pg 126 #[.agg #[Ii Jj (ai O j).id,Ii Jj (ai O j).src,Ii Jj (ai O j).dst,Ii Jj (ai O j).amount,Ii Jj (ai O j).first,Ii Jj (ai O j).every,Ii Jj (ai O j).times],Ii Jj (k.day+1)] wr.drew fun e w'=>e=.returned (Ii Jj (ce (ai O j) (k.day+1)))/\Below wr.heap.size wr w'):=(rq (ai O j) (k.day+1) wr.drew).mono fun e w' ⟨he,hB'⟩=>⟨he,BWD.out.trans hB'⟩
     clear hX hOr hA hP hQ hB HK hS BR BWD
     generalize ce (ai O j) (k.day+1)=nd at*
     generalize ai O j=o at*
     generalize dl (cH (k.day+1)) (O.take j)=KO at*
     go_upto_region 19 with fail
     go_region_held3 (fun V=>V.cell? ⟨w.heap.size,2,none⟩=some (Sl (some ⟨ob,oo,none⟩) O.length d)/\V.cell? ⟨w1.heap.size,0,none⟩=some (Ii Jj (k.day+1))/\V.cell? ⟨ob,oo+j*7,none⟩=some (Ii Jj o.id)/\V.cell? ⟨ob,oo+j*7+1,none⟩=some (Ii Jj o.src)/\V.cell? ⟨ob,oo+j*7+2,none⟩=some (Ii Jj o.dst)/\V.cell? ⟨ob,oo+j*7+3,none⟩=some (Ii Jj o.amount)/\V.cell? ⟨ob,oo+j*7+4,none⟩=some (Ii Jj o.first)/\V.cell? ⟨ob,oo+j*7+5,none⟩=some (Ii Jj o.every)/\V.cell? ⟨ob,oo+j*7+6,none⟩=some (Ii Jj o.times)) (first|exact ⟨p2,x0,q0,q1,q2,q3,q4,q5,q6⟩|exact ⟨(B8.cell (p:=⟨w.heap.size,2,none⟩) hwz).trans p2,(B8.cell (p:=⟨w1.heap.size,0,none⟩) hRz).trans x0,(B8.cell (p:=⟨ob,oo+j*7,none⟩) hob).trans q0,(B8.cell (p:=⟨ob,oo+j*7+1,none⟩) hob).trans q1,(B8.cell (p:=⟨ob,oo+j*7+2,none⟩) hob).trans q2,(B8.cell (p:=⟨ob,oo+j*7+3,none⟩) hob).trans q3,(B8.cell (p:=⟨ob,oo+j*7+4,none⟩) hob).trans q4,(B8.cell (p:=⟨ob,oo+j*7+5,none⟩) hob).trans q5,(B8.cell (p:=⟨ob,oo+j*7+6,none⟩) hob).trans q6⟩)
      (first|(go_at_call 126;refine NX.out.mono ?_;rintro e w8 ⟨rfl,B8⟩))
     clear p2 x0 q0 q1 q2 q3 q4 q5 q6 NX
     have hH8:= ‹_/\_›
     obtain ⟨p2,x0,q0,q1,q2,q3,q4,q5,q6⟩:=hH8
     have hs8:=B8.size
     have X8:=hXX.out.kept B8 hRz
     have O8:Hid (ag w8 V7.heap.size (Sl bu KO.length du) KO):=hOO.out.kept B8
     have A8:Hid (AL w8 V5.heap.size (Sl a6 L.length c6) (eM L O k)):=hAA.out.kept B8
     have P8:Hid (af w8 w.heap.size (Ii Jj k.day) (Sl a L.length c) (Sl (some ⟨ob,oo,none⟩) O.length d) (Ii Jj k.inn) (Ii Jj k.out) (Ii Jj k.posted) (Ii Jj k.missed)):=hPP.out.kept B8 hwz
     have Q8:Hid (af w8 (w.heap.size+1) (Ii Jj 0) (Sl none 0 0) (Sl none 0 0) (Ii Jj 0) (Ii Jj 0) (Ii Jj 0) (Ii Jj 0)):=hQQ.out.kept B8 hQQ.out.2.2
     have HB8:Hid (Below w.heap.size w w8):=hBB.out.trans (B8.mono hBB.out.size)
     have x2:=X8.1.2.2.1
     have HX8:Hid (af w8 w1.heap.size (Ii Jj (k.day+1)) (Sl a6 L.length c6) (Sl bu KO.length du) (Ii Jj k.inn) (Ii Jj k.out) (Ii Jj (k.posted+iS)) (Ii Jj ((dq L O k).missed))):=X8
     have hsz8:V7.heap.size<=w8.heap.size:=by omega
     clear X8 B8 hXX hOO hAA hPP hQQ hBB
     by_cases hn:nd<0
     ·have g2:decide (0<=nd)=false:=by simp;omega
      have g3:decide (nd<0)=true:=by simp[hn]
      have HK2:Hid (dl (cH (k.day+1)) (O.take (j+1))=KO):=by
       show dl (cH (k.day+1)) (O.take (j+1))=KO
       rw[HKH.out,HIS.out,g3,if_pos rfl]
      clear HKH HIS g3 x0 q0 q1 q2 q3 q4 q5 q6
      go_wp2
      go_roundw
      case rel=>exact ⟨j+1,by omega,by go_num,Sl bu KO.length du,HX8.out,by rw[HK2.out];exact O8.out,A8.out,P8.out,Q8.out,HB8.out,hsz8⟩
      case measure=>simp[jH];omega
     ·have g0:0<=nd:=by omega
      have g2:decide (0<=nd)=true:=by simp;omega
      have g3:decide (nd<0)=false:=by simp[hn]
      have HK2:Hid (dl (cH (k.day+1)) (O.take (j+1))=KO++[o]):=by
       show dl (cH (k.day+1)) (O.take (j+1))=KO++[o]
       rw[HKH.out,HIS.out,g3,if_neg (by simp)]
      clear HKH HIS g3 x0
      have hob0:ob<w.heap.size:=by
       obtain ⟨ob',oo',e',h',_⟩:=HO.out.acc hlt
       obtain ⟨rfl,rfl⟩:ob=ob'/\oo=oo':=by simpa using e'
       exact h'
      obtain ⟨WA,hWA⟩:∃WA,WA=(w8.alloc (.cells #[Ii Jj o.id,Ii Jj o.src,Ii Jj o.dst,Ii Jj o.amount,Ii Jj o.first,Ii Jj o.every,Ii Jj o.times] 35)).drew:=⟨_,rfl⟩
      have HWA:Hid (WA=_):=hWA
      have HWB:Hid (WA=w8.drew.alloc (.cells #[Ii Jj o.id,Ii Jj o.src,Ii Jj o.dst,Ii Jj o.amount,Ii Jj o.first,Ii Jj o.every,Ii Jj o.times] 35)):=hWA
      have BA:Hid (Below w8.heap.size w8 WA):=by
       have BR:Below w8.heap.size w8 w8:=Bf _ _
       have BD:Below w8.heap.size w8 (w8.alloc (.cells #[Ii Jj o.id,Ii Jj o.src,Ii Jj o.dst,Ii Jj o.amount,Ii Jj o.first,Ii Jj o.every,Ii Jj o.times] 35)):=BR.alloc (Nf _) _
       show Below _ _ _;rw[hWA];exact ⟨BD.os,BD.tape,BD.output,BD.size,BD.block⟩
      have NW:Hid (∀jj u,(au o)[jj]? =some u->WA.cell? ((⟨w8.heap.size,0,none⟩:Addr).add jj)=some u):=by
       intro jj u hjj
       have hj8:jj<7:=by
        by_cases e:jj<7
        ·exact e
        ·rw[List.getElem?_eq_none (by simp[au];omega)] at hjj;cases hjj
       rw[hWA]
       show (w8.alloc (.cells #[Ii Jj o.id,Ii Jj o.src,Ii Jj o.dst,Ii Jj o.amount,Ii Jj o.first,Ii Jj o.every,Ii Jj o.times] 35)).cell? _=_
       have hcase:jj=0\/jj=1\/jj=2\/jj=3\/jj=4\/jj=5\/jj=6:=by omega
       rcases hcase with e|e|e|e|e|e|e <;>subst e <;>simp[au] at hjj <;>subst hjj <;>simp[Addr.add,go_sem]
      have ONE:Hid (∀u ∈ au o,u.oneCell'=true):=by
       intro u hu
       simp only[au,List.mem_cons,List.not_mem_nil,or_false] at hu
       rcases hu with e|e|e|e|e|e|e <;>subst e <;>rfl
      have hmx:Hid (KO.length+1<=maxLen):=by show KO.length+1<=maxLen;unfold maxLen;omega
      have hby:Hid ((KO.length+1)*56<=140737488355328):=by show (KO.length+1)*56<=140737488355328;omega
      have OWA:Hid (ag WA V7.heap.size (Sl bu KO.length du) KO):=O8.out.kept BA.out
      have hszA:Hid (V7.heap.size<=WA.heap.size):=Nat.le_trans hsz8 BA.out.size
      have hwz8:w.heap.size<w8.heap.size:=by omega
      have hob8:ob<w8.heap.size:=by omega
      have hRz8:w1.heap.size<w8.heap.size:=by omega
      have K1:Hid (w8.cell? ⟨w1.heap.size,2,none⟩=some (Sl bu KO.length du)/\w8.cell? ⟨w.heap.size,2,none⟩=some (Sl (some ⟨ob,oo,none⟩) O.length d)/\w8.cell? ⟨ob,oo+j*7,none⟩=some (Ii Jj o.id)/\w8.cell? ⟨ob,oo+j*7+1,none⟩=some (Ii Jj o.src)/\w8.cell? ⟨ob,oo+j*7+2,none⟩=some (Ii Jj o.dst)/\w8.cell? ⟨ob,oo+j*7+3,none⟩=some (Ii Jj o.amount)/\w8.cell? ⟨ob,oo+j*7+4,none⟩=some (Ii Jj o.first)/\w8.cell? ⟨ob,oo+j*7+5,none⟩=some (Ii Jj o.every)/\w8.cell? ⟨ob,oo+j*7+6,none⟩=some (Ii Jj o.times)):=⟨x2,p2,q0,q1,q2,q3,q4,q5,q6⟩
      have K2:Hid (WA.cell? ⟨w1.heap.size,2,none⟩=some (Sl bu KO.length du)/\WA.cell? ⟨w.heap.size,2,none⟩=some (Sl (some ⟨ob,oo,none⟩) O.length d)/\WA.cell? ⟨ob,oo+j*7,none⟩=some (Ii Jj o.id)/\WA.cell? ⟨ob,oo+j*7+1,none⟩=some (Ii Jj o.src)/\WA.cell? ⟨ob,oo+j*7+2,none⟩=some (Ii Jj o.dst)/\WA.cell? ⟨ob,oo+j*7+3,none⟩=some (Ii Jj o.amount)/\WA.cell? ⟨ob,oo+j*7+4,none⟩=some (Ii Jj o.first)/\WA.cell? ⟨ob,oo+j*7+5,none⟩=some (Ii Jj o.every)/\WA.cell? ⟨ob,oo+j*7+6,none⟩=some (Ii Jj o.times)):=⟨(BA.out.cell (p:=⟨w1.heap.size,2,none⟩) hRz8).trans x2,(BA.out.cell (p:=⟨w.heap.size,2,none⟩) hwz8).trans p2,(BA.out.cell (p:=⟨ob,oo+j*7,none⟩) hob8).trans q0,(BA.out.cell (p:=⟨ob,oo+j*7+1,none⟩) hob8).trans q1,(BA.out.cell (p:=⟨ob,oo+j*7+2,none⟩) hob8).trans q2,(BA.out.cell (p:=⟨ob,oo+j*7+3,none⟩) hob8).trans q3,(BA.out.cell (p:=⟨ob,oo+j*7+4,none⟩) hob8).trans q4,(BA.out.cell (p:=⟨ob,oo+j*7+5,none⟩) hob8).trans q5,(BA.out.cell (p:=⟨ob,oo+j*7+6,none⟩) hob8).trans q6⟩
      have HLT:Hid (∀g,(Value.slice bu KO.length du).ownBlock=some g->V7.heap.size<=g):=fun g hg=>(hult g hg).1
      have AFT:Hid (∀v9 w9,w9.ownsRow V7.heap.size 35 7 v9 (KO.length+1) (KO.flatMap au++au o)->WA.grownBy w9 (Value.slice bu KO.length du).ownBlock->ag w9 V7.heap.size v9 (KO++[o])/\af w9 w1.heap.size (Ii Jj (k.day+1)) (Sl a6 L.length c6) (Sl bu KO.length du) (Ii Jj k.inn) (Ii Jj k.out) (Ii Jj (k.posted+iS)) (Ii Jj ((dq L O k).missed))/\AL w9 V5.heap.size (Sl a6 L.length c6) (eM L O k)/\af w9 w.heap.size (Ii Jj k.day) (Sl a L.length c) (Sl (some ⟨ob,oo,none⟩) O.length d) (Ii Jj k.inn) (Ii Jj k.out) (Ii Jj k.posted) (Ii Jj k.missed)/\af w9 (w.heap.size+1) (Ii Jj 0) (Sl none 0 0) (Sl none 0 0) (Ii Jj 0) (Ii Jj 0) (Ii Jj 0) (Ii Jj 0)/\Below w.heap.size w w9/\V7.heap.size<=w9.heap.size/\w9.cell? ⟨w1.heap.size,2,none⟩=some (Sl bu KO.length du)/\w9.cell? ⟨w.heap.size,2,none⟩=some (Sl (some ⟨ob,oo,none⟩) O.length d)/\w9.cell? ⟨ob,oo+j*7,none⟩=some (Ii Jj o.id)/\w9.cell? ⟨ob,oo+j*7+1,none⟩=some (Ii Jj o.src)/\w9.cell? ⟨ob,oo+j*7+2,none⟩=some (Ii Jj o.dst)/\w9.cell? ⟨ob,oo+j*7+3,none⟩=some (Ii Jj o.amount)/\w9.cell? ⟨ob,oo+j*7+4,none⟩=some (Ii Jj o.first)/\w9.cell? ⟨ob,oo+j*7+5,none⟩=some (Ii Jj o.every)/\w9.cell? ⟨ob,oo+j*7+6,none⟩=some (Ii Jj o.times)):=by
       intro v9 w9 hown hgrow
       have hnb:∀z,z<V7.heap.size->some z≠(Value.slice bu KO.length du).ownBlock:=fun z hz e=>by have:=HLT.out z e.symm;omega
       have XA:=HX8.out.kept BA.out hRz8
       have PA:=P8.out.kept BA.out hwz8
       have QA:=Q8.out.kept BA.out Q8.out.2.2
       have AA:=A8.out.kept BA.out
       have hBA:Below w.heap.size w WA:=HB8.out.trans (BA.out.mono HB8.out.size)
       have X9:=XA.same (hgrow.block _ XA.2.2 (hnb _ hRV7))
       have P9:=PA.same (hgrow.block _ PA.2.2 (hnb _ (by omega)))
       have hobc:∀q,w9.cell? ⟨ob,q,none⟩=WA.cell? ⟨ob,q,none⟩:=fun q=>by
        unfold World.cell?
        simp only[hgrow.block ob (Nat.lt_of_lt_of_le hob8 BA.out.size) (hnb _ (by omega))]
       obtain ⟨_,_,k0,k1,k2,k3,k4,k5,k6⟩:=K2.out
       refine ⟨?_,X9,?_,P9,QA.same (hgrow.block _ QA.2.2 (hnb _ (by omega))),hBA.grown hgrow hBA.size (fun q hq=>by have:=HLT.out q hq;omega),Nat.le_trans hszA.out hgrow.size,X9.1.2.2.1,P9.1.2.2.1,(hobc _).trans k0,(hobc _).trans k1,(hobc _).trans k2,(hobc _).trans k3,(hobc _).trans k4,(hobc _).trans k5,(hobc _).trans k6⟩
       ·unfold ag;simpa using hown
       ·exact World.ownsRow.kept AA hgrow (by
         cases hbk:(Value.slice a6 L.length c6).ownBlock with
         | none=>exact Or.inl rfl
         | some q=>right;exact hnb q (ALT.out q hbk).2)
      obtain ⟨i0,hi,hz0,hz1,hz2⟩:=info_parts fS
      clear hWA hult HX8 O8 A8 P8 Q8 HB8
      have K3:(w8.alloc (.cells #[Ii Jj o.id,Ii Jj o.src,Ii Jj o.dst,Ii Jj o.amount,Ii Jj o.first,Ii Jj o.every,Ii Jj o.times] 35)).cell? ⟨w1.heap.size,2,none⟩=some (Sl bu KO.length du):=by have:=K2.out.1;rw[HWA.out] at this;exact this
      have K4:WA.cell? ⟨w1.heap.size,2,none⟩=some (Sl bu KO.length du):=K2.out.1
      have hobR:ob≠w1.heap.size:=by omega
      go_upto_region 20 with fail
      refine wp_region_held_drew (S:=fun V=>V.cell? ⟨w.heap.size,2,none⟩=some (Sl (some ⟨ob,oo,none⟩) O.length d)/\V.cell? ⟨ob,oo+j*7,none⟩=some (Ii Jj o.id)/\V.cell? ⟨ob,oo+j*7+1,none⟩=some (Ii Jj o.src)/\V.cell? ⟨ob,oo+j*7+2,none⟩=some (Ii Jj o.dst)/\V.cell? ⟨ob,oo+j*7+3,none⟩=some (Ii Jj o.amount)/\V.cell? ⟨ob,oo+j*7+4,none⟩=some (Ii Jj o.first)/\V.cell? ⟨ob,oo+j*7+5,none⟩=some (Ii Jj o.every)/\V.cell? ⟨ob,oo+j*7+6,none⟩=some (Ii Jj o.times)) (by kernel_rfl) K1.out.2 (fun hHeld=>?_)
      refine wpAnyH_take (i:=0) (v:=?_) rfl (by kernel_rfl) (by kernel_rfl) (by kernel_rfl) (fun _ _ _ h=>h) (Or.inl ⟨by rfl,?_⟩) (by assumption) ?_
      rotate_left
      ·intro wq hSw
       (try dsimp only at hSw)
       go_simp
       all_goals (with_reducible rfl)
      (try simp only[Act.put,La,Lz,Lc])
      refine wpAnyH_take (i:=2) (v:=?_) rfl (by kernel_rfl) (by kernel_rfl) (by kernel_rfl) (fun _ _ _ h=>h) (Or.inl ⟨by rfl,?_⟩) (by assumption) ?_
      rotate_left
      ·intro wq hSw
       (try dsimp only at hSw)
       go_simp
       all_goals (with_reducible rfl)
      (try simp only[Act.put,La,Lz,Lc])
      refine wpAnyH_take (i:=3) (v:=?_) rfl (by kernel_rfl) (by kernel_rfl) (by kernel_rfl) (fun _ _ _ h=>h) (Or.inl ⟨by rfl,?_⟩) (by assumption) ?_
      rotate_left
      ·intro wq hSw
       (try dsimp only at hSw)
       go_simp
       all_goals (with_reducible rfl)
      (try simp only[Act.put,La,Lz,Lc])
      refine wpAnyH_take (i:=4) (v:=?_) rfl (by kernel_rfl) (by kernel_rfl) (by kernel_rfl) (fun _ _ _ h=>h) (Or.inl ⟨by rfl,?_⟩) (by assumption) ?_
      rotate_left
      ·intro wq hSw
       (try dsimp only at hSw)
       go_simp
       all_goals (with_reducible rfl)
      (try simp only[Act.put,La,Lz,Lc])
      refine wpAnyH_take (i:=5) (v:=?_) rfl (by kernel_rfl) (by kernel_rfl) (by kernel_rfl) (fun _ _ _ h=>h) (Or.inl ⟨by rfl,?_⟩) (by assumption) ?_
      rotate_left
      ·intro wq hSw
       (try dsimp only at hSw)
       go_simp
       all_goals (with_reducible rfl)
      (try simp only[Act.put,La,Lz,Lc])
      refine wpAnyH_take (i:=6) (v:=?_) rfl (by kernel_rfl) (by kernel_rfl) (by kernel_rfl) (fun _ _ _ h=>h) (Or.inl ⟨by rfl,?_⟩) (by assumption) ?_
      rotate_left
      ·intro wq hSw
       (try dsimp only at hSw)
       go_simp
       all_goals (with_reducible rfl)
      (try simp only[Act.put,La,Lz,Lc])
      refine wpAnyH_ready (rs:=[1,7]) (by kernel_rfl) (by simp) ?_
      refine AllReadyH.cons rfl (fun K hK=>?_) ?_
      ·skip
       go_simp
       refine hK.out _ _ ?_ (fun hHeld=>?_)
       ·first|exact K1.out.2|(rw[←HWA.out];exact K2.out.2)|(rw[←HWB.out];exact K2.out.2)|exact K2.out.2
       clear hK
       (try simp only[Act.put,La,Lz,Lc])
       refine wpAnyH_ready (rs:=[7]) (by kernel_rfl) (by simp) ?_
       refine AllReadyH.cons rfl (fun K hK=>?_) AllReadyH.nil
       go_simp
       refine hK.out _ _ ?_ (fun hHeld=>?_)
       ·first|exact K1.out.2|(rw[←HWA.out];exact K2.out.2)|(rw[←HWB.out];exact K2.out.2)|exact K2.out.2
       clear hK
       (try simp only[Act.put,La,Lz,Lc])
       refine wpAnyH_ready (rs:=[8]) (by kernel_rfl) (by simp) ?_
       refine AllReadyH.cons rfl (fun K hK=>?_) AllReadyH.nil
       ((first|rw[←HWA.out]|rw[←HWB.out]);refine az _ (by rfl) _ _ 25 (by rfl) V7.heap.size 35 i0 _ 7 56 Tryz.underlying25 hi hz0 hz1 hz2 rfl (by decide) _ _ _ (by rfl) OWA.out ⟨w8.heap.size,0,none⟩ 1 1 (au o) (by rfl) rfl NW.out ONE.out hmx.out hby.out hszA.out ?_;intro v9 w9 hown hgrow;obtain ⟨O9,X9,A9,P9,Q9,B9,hsz9,S9⟩:=AFT.out v9 w9 hown hgrow;obtain ⟨b9,d9,hv9,_⟩:=O9.shape;subst hv9;have HX9:Hid (af w9 w1.heap.size (Ii Jj (k.day+1)) (Sl a6 L.length c6) (Sl bu KO.length du) (Ii Jj k.inn) (Ii Jj k.out) (Ii Jj (k.posted+iS)) (Ii Jj ((dq L O k).missed))):=X9;obtain ⟨⟨s0,s1,s2,s3,s4,s5,s6⟩,sf,sz⟩:=X9;clear hown hgrow)
       refine hK.out _ _ ?_ (fun hHeld=>?_)
       ·first|exact S9.2
       clear hK
       (try simp only[Act.put,La,Lz,Lc])
       refine wpAnyH_take (i:=9) (v:=?_) rfl (by kernel_rfl) (by kernel_rfl) (by kernel_rfl) (fun _ _ _ h=>h) (Or.inl ⟨by rfl,?_⟩) (by assumption) ?_
       rotate_left
       ·intro wq hSw
        (try dsimp only at hSw)
        go_simp
        all_goals (with_reducible rfl)
       (try simp only[Act.put,La,Lz,Lc])
       refine wpAnyH_ready (rs:=[10]) (by kernel_rfl) (by simp) ?_
       refine AllReadyH.cons rfl (fun K hK=>?_) AllReadyH.nil
       go_simp
       refine hK.out _ _ ?_ (fun hHeld=>?_)
       ·first|exact rJ S9.2 hobR hne0
       clear hK
       (try simp only[Act.put,La,Lz,Lc])
       refine wpAnyH_done (by kernel_rfl) ?_ _
       have hlen:(KO++[o]).length=KO.length+1:=by simp
       rw[hlen] at O9
       have O10:Hid (ag w9 V7.heap.size (Sl b9 (KO.length+1) d9) (KO++[o])):=O9
       have A10:Hid (AL w9 V5.heap.size (Sl a6 L.length c6) (eM L O k)):=A9
       have P10:Hid (af w9 w.heap.size (Ii Jj k.day) (Sl a L.length c) (Sl (some ⟨ob,oo,none⟩) O.length d) (Ii Jj k.inn) (Ii Jj k.out) (Ii Jj k.posted) (Ii Jj k.missed)):=P9
       have Q10:Hid (af w9 (w.heap.size+1) (Ii Jj 0) (Sl none 0 0) (Sl none 0 0) (Ii Jj 0) (Ii Jj 0) (Ii Jj 0) (Ii Jj 0)):=Q9
       have B10:Hid (Below w.heap.size w w9):=B9
       clear O9 A9 P9 Q9 B9 S9 s0 s1 s2 s3 s4 s5 s6 sf sz hHeld K3 K4 x2 p2 q0 q1 q2 q3 q4 q5 q6
       go_wp2
       go_roundw
       case rel=>exact ⟨j+1,by omega,by go_num,Sl b9 (KO.length+1) d9,HX9.out.set2 _,by rw[HK2.out];exact O10.out.far hRV7 _ _,A10.out.far hRV5 _ _,P10.out.far hne0 _ _,Q10.out.far hne1 _ _,ak B10.out (by omega) _ _,by simpa [World.setCell] using hsz9⟩
       case measure=>simp[jH];omega
      refine AllReadyH.cons rfl (fun K hK=>?_) AllReadyH.nil
      go_simp
      refine hK.out _ _ ?_ (fun hHeld=>?_)
      ·first|exact K1.out.2|(rw[←HWA.out];exact K2.out.2)|(rw[←HWB.out];exact K2.out.2)|exact K2.out.2
      clear hK
      (try simp only[Act.put,La,Lz,Lc])
      refine wpAnyH_ready (rs:=[1]) (by kernel_rfl) (by simp) ?_
      refine AllReadyH.cons rfl (fun K hK=>?_) AllReadyH.nil
      go_simp
      refine hK.out _ _ ?_ (fun hHeld=>?_)
      ·first|exact K1.out.2|(rw[←HWA.out];exact K2.out.2)|(rw[←HWB.out];exact K2.out.2)|exact K2.out.2
      clear hK
      (try simp only[Act.put,La,Lz,Lc])
      refine wpAnyH_ready (rs:=[8]) (by kernel_rfl) (by simp) ?_
      refine AllReadyH.cons rfl (fun K hK=>?_) AllReadyH.nil
      ((first|rw[←HWA.out]|rw[←HWB.out]);refine az _ (by rfl) _ _ 25 (by rfl) V7.heap.size 35 i0 _ 7 56 Tryz.underlying25 hi hz0 hz1 hz2 rfl (by decide) _ _ _ (by rfl) OWA.out ⟨w8.heap.size,0,none⟩ 1 1 (au o) (by rfl) rfl NW.out ONE.out hmx.out hby.out hszA.out ?_;intro v9 w9 hown hgrow;obtain ⟨O9,X9,A9,P9,Q9,B9,hsz9,S9⟩:=AFT.out v9 w9 hown hgrow;obtain ⟨b9,d9,hv9,_⟩:=O9.shape;subst hv9;have HX9:Hid (af w9 w1.heap.size (Ii Jj (k.day+1)) (Sl a6 L.length c6) (Sl bu KO.length du) (Ii Jj k.inn) (Ii Jj k.out) (Ii Jj (k.posted+iS)) (Ii Jj ((dq L O k).missed))):=X9;obtain ⟨⟨s0,s1,s2,s3,s4,s5,s6⟩,sf,sz⟩:=X9;clear hown hgrow)
      refine hK.out _ _ ?_ (fun hHeld=>?_)
      ·first|exact S9.2
      clear hK
      (try simp only[Act.put,La,Lz,Lc])
      refine wpAnyH_take (i:=9) (v:=?_) rfl (by kernel_rfl) (by kernel_rfl) (by kernel_rfl) (fun _ _ _ h=>h) (Or.inl ⟨by rfl,?_⟩) (by assumption) ?_
      rotate_left
      ·intro wq hSw
       (try dsimp only at hSw)
       go_simp
       all_goals (with_reducible rfl)
      (try simp only[Act.put,La,Lz,Lc])
      refine wpAnyH_ready (rs:=[10]) (by kernel_rfl) (by simp) ?_
      refine AllReadyH.cons rfl (fun K hK=>?_) AllReadyH.nil
      go_simp
      refine hK.out _ _ ?_ (fun hHeld=>?_)
      ·first|exact rJ S9.2 hobR hne0
      clear hK
      (try simp only[Act.put,La,Lz,Lc])
      refine wpAnyH_done (by kernel_rfl) ?_ _
      have hlen:(KO++[o]).length=KO.length+1:=by simp
      rw[hlen] at O9
      have O10:Hid (ag w9 V7.heap.size (Sl b9 (KO.length+1) d9) (KO++[o])):=O9
      have A10:Hid (AL w9 V5.heap.size (Sl a6 L.length c6) (eM L O k)):=A9
      have P10:Hid (af w9 w.heap.size (Ii Jj k.day) (Sl a L.length c) (Sl (some ⟨ob,oo,none⟩) O.length d) (Ii Jj k.inn) (Ii Jj k.out) (Ii Jj k.posted) (Ii Jj k.missed)):=P9
      have Q10:Hid (af w9 (w.heap.size+1) (Ii Jj 0) (Sl none 0 0) (Sl none 0 0) (Ii Jj 0) (Ii Jj 0) (Ii Jj 0) (Ii Jj 0)):=Q9
      have B10:Hid (Below w.heap.size w w9):=B9
      clear O9 A9 P9 Q9 B9 S9 s0 s1 s2 s3 s4 s5 s6 sf sz hHeld K3 K4 x2 p2 q0 q1 q2 q3 q4 q5 q6
      go_wp2
      go_roundw
      case rel=>exact ⟨j+1,by omega,by go_num,Sl b9 (KO.length+1) d9,HX9.out.set2 _,by rw[HK2.out];exact O10.out.far hRV7 _ _,A10.out.far hRV5 _ _,P10.out.far hne0 _ _,Q10.out.far hne1 _ _,ak B10.out (by omega) _ _,by simpa [World.setCell] using hsz9⟩
      case measure=>simp[jH];omega
    ·have hjo:j=O.length:=by omega
     subst hjo
     have hKO:dl (cH (k.day+1)) (O.take O.length)=eJ O k:=by rw[List.take_length];rfl
     rw[hKO] at hX hOr
     have hlo:(eJ O k).length<=1048576:=Nat.le_trans (List.length_filter_le _ _) hol
     have X9:Hid (af wr w1.heap.size (Ii Jj (k.day+1)) (Sl a6 L.length c6) (Sl bu (eJ O k).length du) (Ii Jj k.inn) (Ii Jj k.out) (Ii Jj (k.posted+iS)) (Ii Jj ((dq L O k).missed))):=hX
     have A9:Hid (AL wr V5.heap.size (Sl a6 L.length c6) (eM L O k)):=hA
     have O9:Hid (ag wr V7.heap.size (Sl bu (eJ O k).length du) (eJ O k)):=hOr
     have Y9:Hid (af wr (w.heap.size+1) (Ii Jj 0) (Sl none 0 0) (Sl none 0 0) (Ii Jj 0) (Ii Jj 0) (Ii Jj 0) (Ii Jj 0)):=hQ
     have HB9:Hid (Below w.heap.size w wr):=hB
     have BNK:Hid (Calls Pg 36 #[.agg #[Ii Jj (k.day+1),Sl a6 L.length c6,Sl bu (eJ O k).length du,Ii Jj k.inn,Ii Jj k.out,Ii Jj (k.posted+iS),Ii Jj (dq L O k).missed]] wr fun e w'=>ae e (fy L O k)/\Below wr.heap.size wr w'):=by
      have:=cC a6 bu L.length c6 (eJ O k).length du (FL (eM L O k)) (ai (eJ O k)) (dq L O k) wr (A9.out.fo (by rw[hla];omega)).2 (O9.out.list hlo).2
      rw[HPO.out] at this
      exact this
     obtain ⟨⟨s0,s1,s2,s3,s4,s5,s6⟩,sf,sz⟩:=hX
     obtain ⟨⟨t0,t1,t2,t3,t4,t5,t6⟩,tf,tz⟩:=hP
     clear hOr hA hQ hB hS hult hKO
     go_wp2_with fail
     refine BNK.out.mono ?_
     rintro e w10 ⟨⟨bb,rfl,hb1,hb2⟩,B10⟩
     clear s0 s1 s2 s3 s4 s5 s6 sf sz t0 t1 t2 t3 t4 t5 t6 tf tz
     have hsV:=HB9.out.size
     have X10:=X9.out.kept B10 X9.out.2.2
     have Y10:=Y9.out.kept B10 Y9.out.2.2
     have A10:Hid (AL w10 V5.heap.size (Sl a6 L.length c6) (eM L O k)):=A9.out.kept B10
     have O10:Hid (ag w10 V7.heap.size (Sl bu (eJ O k).length du) (eJ O k)):=O9.out.kept B10
     have HB10:Hid (Below w.heap.size w w10):=HB9.out.trans (B10.mono hsV)
     obtain ⟨⟨s0,s1,s2,s3,s4,s5,s6⟩,sf,sz⟩:=X10
     obtain ⟨⟨r0,r1,r2,r3,r4,r5,r6⟩,rf,rz⟩:=Y10
     clear X9 Y9 A9 O9 HB9 B10 BNK
     cases bb with
     | false=>
      have HN:Hid (¬fy L O k):=hb2 rfl
      clear hb1 hb2 s0 s1 s2 s3 s4 s5 s6 sf sz
      go_wp2
      refine bodyPost_ret (v:=.tuple #[.agg #[Ii Jj 0,Sl none 0 0,Sl none 0 0,Ii Jj 0,Ii Jj 0,Ii Jj 0,Ii Jj 0],.bool false]) (by simp[results,Tryz.results105,go_sem,r0,r1,r2,r3,r4,r5,r6]) rfl (Or.inr ⟨HN.out,rfl,?_⟩)
      repeat (refine ak ?_ (by omega) _ _)
      exact HB10.out
     | true=>
      have HN:Hid (fy L O k):=hb1 rfl
      clear hb1 hb2
      go_wp2
      refine bodyPost_ret (v:=.tuple #[.agg #[Ii Jj (k.day+1),Sl a6 L.length c6,Sl bu (eJ O k).length du,Ii Jj k.inn,Ii Jj k.out,Ii Jj (k.posted+iS),Ii Jj (dq L O k).missed],.bool true]) (by simp[results,Tryz.results105,go_sem,r0,r1,r2,r3,r4,r5,r6]) rfl (Or.inl ⟨HN.out,Sl a6 L.length c6,Sl bu (eJ O k).length du,?_,?_,?_,?_⟩)
      ·rw[HPO.out];rfl
      ·refine AL.mono (B:=V5.heap.size) ?_ (by omega)
       repeat (refine AL.far ?_ (by omega) _ _)
       exact A10.out
      ·refine ag.mono (B:=V7.heap.size) ?_ (by omega)
       repeat (refine ag.far ?_ (by omega) _ _)
       exact O10.out
      ·repeat (refine ak ?_ (by omega) _ _)
       exact HB10.out
end Go.Proofs.YtjhgchlfpolkcaaGreatDoor
