/- l6Op of the specification. -/
import Derived.Test.YtjhgchlfpolkcaaGreatDoorRanSx
import Derived.Deep.QuietTactic
import Derived.BigQuiet
import Derived.Test.YtjhgchlfpolkcaaGreatDoorRbnx
import Derived.Test.YtjhgchlfpolkcaaGreatDoorTsx
namespace Go.Proofs.YtjhgchlfpolkcaaGreatDoor
section
open Value renaming int → Ii,slice → Sl
open IntKind renaming i64 → Jj
open Go.RowKit
set_option maxRecDepth 8000
set_option linter.unusedVariables false
theorem qM (o:am):bg [] o=[o]:=by
 unfold bg
 simp
theorem nL (w:World) (o:am):kM (w.alloc (.cells #[Ii Jj o.id,Ii Jj o.src,Ii Jj o.dst,Ii Jj o.amount,Ii Jj o.first,Ii Jj o.every,Ii Jj o.times] 35)) w.heap.size o:=by
 unfold kM
 show (w.heap.push _)[w.heap.size]? =_
 simp
 rfl
set_option maxHeartbeats 8000000 in
theorem iH (a:Option Addr) (c:Nat) (L:List al) (k:Bk) (n:Int) (x:bB) (o:am) (w:World) (hF:Fo w a L.length (FL L)) (hO:aJ w none 0 (ai [])) (hb:aj (FL L) L.length (ai []) 0 k) (hok:aA 20 x o n):
  Calls Tryz.prog 88 #[.agg #[Ii Jj k.day,Sl a L.length c,Sl none 0 0,Ii Jj k.inn,Ii Jj k.out,Ii Jj k.posted,Ii Jj k.missed],.agg #[Ii Jj 20,Ii Jj x.k,Ii Jj x.i,Ii Jj x.t,Ii Jj x.m,Ii Jj x.r,Ii Jj o.id,Ii Jj o.src,Ii Jj o.dst,Ii Jj o.amount,Ii Jj o.first,Ii Jj o.every,Ii Jj o.times,Ii Jj n]] w fun e w'=>cY (cM L [] k ⟨0,L,bg [] o,k⟩) w e w':=by
 have HOK:Hid (aj (FL L) L.length (ai []) 0 k):=hb
 have hl12:L.length<=12:=hb.2.1.1
 have FORM:=ac (fun W=>d8 hok W)
 obtain ⟨i0,hi,hz0,hz1,hz2⟩:=info_parts fS
 rw[qM o]
 have PL:Hid (∀W,aJ W none 0 (ai [])->Calls Tryz.prog 106 #[Sl none 0 0,Ii Jj o.id] W fun e w'=>e=.returned (Ii Jj (-1))/\Below W.heap.size W w'):=fun W h1=>(f0 none 0 [] o.id W h1).mono (by
  rintro e w' ⟨rfl,h⟩
  rw[je (fun ⟨t,ht,_⟩=>absurd ht (Nat.not_lt_zero _))]
  exact ⟨rfl,h⟩)
 clear hb hok
 have HF:Hid (Fo w a L.length (FL L)):=hF
 have HO:Hid (aJ w none 0 (ai [])):=hO
 obtain ⟨W0,hW0,hs0,b0,z1,z2,z3⟩:=cn a none c 0 L [] k 20 n x o w
 simp only[List.length_nil] at hW0 z1
 have HW0:=ac hW0
 have HB0:=ac b0
 have Z1:=ac z1
 have Z2:=ac z2
 have Z3:=ac z3
 clear hW0 b0 z1 z2 z3 hF hO
 go_enter Tryz.func88,Tryz.ntmps88
 go_wp2_with fail
 rw[←HW0.out]
 clear HW0
 refine (ay a none c 0 L [] k _ (HF.out.below HB0.out) (HO.out.below HB0.out)).mono ?_
 rintro e w1 ⟨v1,u1,rfl,A1,O1,D1⟩
 rw[hs0] at A1 O1
 obtain ⟨a1,c1',hv⟩:=A1.len
 subst hv
 obtain ⟨b1,d1,hv⟩:=O1.len
 subst hv
 have OFFA:Hid (∀q,(Value.slice a1 L.length c1').ownBlock=some q->q≠w1.heap.size):=fun q hq=>by have:=(World.ownsRow.lt A1 q hq).2;omega
 obtain ⟨W2,hW2⟩:∃W2,W2=w1.alloc (.cells #[Ii Jj k.day,Sl a1 L.length c1',Sl b1 0 d1,Ii Jj k.inn,Ii Jj k.out,Ii Jj k.posted,Ii Jj k.missed] 27):=⟨_,rfl⟩
 have D2:Below w1.heap.size w1 W2:=by rw[hW2];exact (Below.refl _ _).alloc (Nat.le_refl _) _
 have hs1:=D1.size
 have hs2:W2.heap.size=w1.heap.size+1:=by rw[hW2];simp
 have E2:Below W0.heap.size W0 W2:=D1.trans (D2.mono D1.size)
 have PX:Hid (af W2 w1.heap.size (Ii Jj k.day) (Sl a1 L.length c1') (Sl b1 0 d1) (Ii Jj (k.inn)) (Ii Jj (k.out)) (Ii Jj k.posted) (Ii Jj k.missed)):=by
  show af _ _ _ _ _ _ _ _ _;rw[hW2];exact af.new w1 _ _ _ _ _ _ _ 27
 have P1:Hid (af W2 w.heap.size (Ii Jj k.day) (Sl a L.length c) (Sl none 0 0) (Ii Jj (k.inn)) (Ii Jj (k.out)) (Ii Jj k.posted) (Ii Jj k.missed)):=Z1.out.kept E2 (by omega)
 have P2:Hid (aG W2 (w.heap.size+1) 20 x o n):=Z2.out.kept E2 (by omega)
 have P3:Hid (af W2 (w.heap.size+1+1) (Ii Jj 0) (Sl none 0 0) (Sl none 0 0) (Ii Jj 0) (Ii Jj 0) (Ii Jj 0) (Ii Jj 0)):=Z3.out.kept E2 (by omega)
 have PA:Hid (AL W2 (w.heap.size+1+1+1) (Sl a1 L.length c1') L):=A1.kept D2
 have PO:Hid (ag W2 (w.heap.size+1+1+1) (Sl b1 0 d1) []):=O1.kept D2
 have PB:Hid (Below w.heap.size w W2):=HB0.out.trans (E2.mono HB0.out.size)
 have HW2:Hid (W2=_):=hW2
 clear hW2 D1 D2 E2 A1 O1 Z1 Z2 Z3 HB0
 obtain ⟨⟨c0,c1,c2,c3,c4,c5,c6,c7,c8,c9,c10,c11,c12,c13⟩,cz⟩:=P2.out
 go_upto_region 10 with fail
 rw[←HW2.out]
 clear HW2
 go_wp2_with fail
 refine (FORM.out _).mono ?_
 rintro e w3 ⟨rfl,E3⟩
 clear c0 c1 c2 c3 c4 c5 c6 c7 c8 c9 c10 c11 c12 c13 cz FORM
 replace P1:=ac (P1.out.kept E3 (by omega))
 replace P3:=ac (P3.out.kept E3 (by omega))
 replace P2:=ac (P2.out.kept E3 (by omega))
 replace PX:=ac (PX.out.kept E3 (by omega))
 replace PA:=ac (PA.out.kept E3)
 replace PO:=ac (PO.out.kept E3)
 replace PB:=ac (PB.out.trans (E3.mono PB.out.size))
 have hs3:w1.heap.size+1<=w3.heap.size:=by have:=E3.size;omega
 clear E3 hs2
 have hs3':(w.heap.size+1+1+1)<=w1.heap.size:=by omega
 clear hs1 hs0
 obtain ⟨⟨c0,c1,c2,c3,c4,c5,c6,c7,c8,c9,c10,c11,c12,c13⟩,cz⟩:=P2.out
 obtain ⟨⟨s0,s1,s2,s3,s4,s5,s6⟩,sf,sz⟩:=P1.out
 go_wp2_with fail
 refine (PL.out _ (HO.out.below PB.out)).mono ?_
 rintro e w4 ⟨rfl,E4⟩
 clear c0 c1 c2 c3 c4 c5 c6 c7 c8 c9 c10 c11 c12 c13 cz s0 s1 s2 s3 s4 s5 s6 sf sz PL
 replace P1:=ac (P1.out.kept E4 (by omega))
 replace P3:=ac (P3.out.kept E4 (by omega))
 replace P2:=ac (P2.out.kept E4 (by omega))
 replace PX:=ac (PX.out.kept E4 (by omega))
 replace PA:=ac (PA.out.kept E4)
 replace PO:=ac (PO.out.kept E4)
 replace PB:=ac (PB.out.trans (E4.mono PB.out.size))
 have hs4:=E4.size
 clear E4
 have HP1:Hid (∀V,Below w4.heap.size w4 V->af V w.heap.size (Ii Jj k.day) (Sl a L.length c) (Sl none 0 0) (Ii Jj (k.inn)) (Ii Jj (k.out)) (Ii Jj k.posted) (Ii Jj k.missed)):=fun V h=>P1.out.kept h P1.out.2.2
 have HP2:Hid (∀V,Below w4.heap.size w4 V->aG V (w.heap.size+1) 20 x o n):=fun V h=>P2.out.kept h P2.out.2
 go_upto_region 5 with fail
 go_loopw[10] (fun vi wr=>vi=Ii Jj 0/\Hid (Below w4.heap.size w4 wr)) (fun _ _=>0)
 case atStart=>exact ⟨rfl,Below.refl _ _⟩
 case round=>
  obtain ⟨rfl,hB⟩:=hrel
  obtain ⟨⟨s0,s1,s2,s3,s4,s5,s6⟩,sf,sz⟩:=HP1.out _ hB.out
  go_wp2
  go_quiet (fail)
  obtain ⟨w5,hw5⟩:∃w5,w5=wr.drewN nq:=⟨_,rfl⟩
  have B5:Hid (Below w4.heap.size w4 w5):=by show Below _ _ _;rw[hw5];exact ⟨hB.out.os,hB.out.tape,hB.out.output,hB.out.size,hB.out.block⟩
  rw[←hw5]
  clear hw5 hB s0 s1 s2 s3 s4 s5 s6 sf sz
  have hs5:=B5.out.size
  have DB:Below w4.heap.size w4 ((w5.alloc (.cells #[] 35)).alloc (.cells #[Ii Jj o.id,Ii Jj o.src,Ii Jj o.dst,Ii Jj o.amount,Ii Jj o.first,Ii Jj o.every,Ii Jj o.times] 35)):=(B5.out.alloc hs5 _).alloc (by simp;omega) _
  have O6:Hid (ag ((w5.alloc (.cells #[] 35)).alloc (.cells #[Ii Jj o.id,Ii Jj o.src,Ii Jj o.dst,Ii Jj o.amount,Ii Jj o.first,Ii Jj o.every,Ii Jj o.times] 35)) w4.heap.size (Sl (some ⟨w5.heap.size,0,none⟩) 0 0) []):=(ag.empty w5 w4.heap.size hs5).kept ((Below.refl _ _).alloc (Nat.le_refl _) _)
  have N6:Hid (∀j u,(au o)[j]? =some u->(((w5.alloc (.cells #[] 35)).alloc (.cells #[Ii Jj o.id,Ii Jj o.src,Ii Jj o.dst,Ii Jj o.amount,Ii Jj o.first,Ii Jj o.every,Ii Jj o.times] 35))).cell? ((⟨w5.heap.size+1,0,none⟩:Addr).add j)=some u):=fun j u hj=>by
   have:=(nL (w5.alloc (.cells #[] 35)) o).cell j u hj
   rw[World.size_alloc] at this
   exact this
  have AF2:Hid (∀v7 (w7:World),World.ownsRow w7 w4.heap.size 35 7 v7 (0+1) ([]++au o)->World.grownBy ((w5.alloc (.cells #[] 35)).alloc (.cells #[Ii Jj o.id,Ii Jj o.src,Ii Jj o.dst,Ii Jj o.amount,Ii Jj o.first,Ii Jj o.every,Ii Jj o.times] 35)) w7 (Value.slice (some ⟨w5.heap.size,0,none⟩) 0 0).ownBlock->∃g7 c7,v7=Sl (some ⟨g7,0,none⟩) 1 c7/\ag w7 w4.heap.size (Sl (some ⟨g7,0,none⟩) 1 c7) [o]/\Below w4.heap.size w4 w7):=by
   intro v7 w7 hown hgrow
   have D7:Below w4.heap.size w4 w7:=DB.grown hgrow DB.size (fun j hj=>by simp[Value.ownBlock] at hj;omega)
   have O7:ag w7 w4.heap.size v7 [o]:=by
    unfold ag
    simpa using hown
   obtain ⟨g7,c7,rfl⟩:=O7.own (by intro e;obtain ⟨a9,c9,e9⟩:=O7.len;rw[e] at e9;simp at e9)
   exact ⟨g7,c7,rfl,O7,D7⟩
  have HPX:Hid (∀V,Below w4.heap.size w4 V->af V w1.heap.size (Ii Jj k.day) (Sl a1 L.length c1') (Sl b1 0 d1) (Ii Jj (k.inn)) (Ii Jj (k.out)) (Ii Jj k.posted) (Ii Jj k.missed)):=fun V h=>PX.out.kept h PX.out.2.2
  obtain ⟨⟨s0,s1,s2,s3,s4,s5,s6⟩,sf,sz⟩:=HP1.out _ B5.out
  obtain ⟨⟨c0,c1,c2,c3,c4,c5,c6,c7,c8,c9,c10,c11,c12,c13⟩,cz⟩:=HP2.out _ B5.out
  have h63:Hid (0+1<=maxLen):=by show 0+1<=maxLen;unfold maxLen;omega
  have hby:Hid ((0+1)*56<=140737488355328):=by show (0+1)*56<=140737488355328;omega
  have hszB:Hid (w4.heap.size<=(((w5.alloc (.cells #[] 35)).alloc (.cells #[Ii Jj o.id,Ii Jj o.src,Ii Jj o.dst,Ii Jj o.amount,Ii Jj o.first,Ii Jj o.every,Ii Jj o.times] 35))).heap.size):=DB.size
  have hs4':w1.heap.size<w4.heap.size:=by omega
  clear DB
  go_upto_region 27 with (at_builtin;refine wpList_append_own _ rfl _ _ 25 rfl w4.heap.size 35 i0 _ 7 56 Tryz.underlying25 hi hz0 hz1 hz2 rfl (by decide) _ _ _ rfl O6.out ⟨w5.heap.size+1,0,none⟩ 1 1 (au o) rfl rfl N6.out (ld o) h63.out hby.out hszB.out ?_;intro v7 w7 hown hgrow hnn;obtain ⟨g7,q7c,rfl,O7,B7⟩:=AF2.out v7 w7 hown hgrow;have hc7:1<=q7c:=(ag.cap O7).1;have hc8:(1:Int)<=(q7c:Int):=(by omega);clear hown hgrow hnn s0 s1 s2 s3 s4 s5 s6 sf sz c0 c1 c2 c3 c4 c5 c6 c7 c8 c9 c10 c11 c12 c13 cz;obtain ⟨⟨s0,s1,s2,s3,s4,s5,s6⟩,sf,sz⟩:=HP1.out _ B7;obtain ⟨⟨x0,x1,x2,x3,x4,x5,x6⟩,xf,xz⟩:=HPX.out w7 B7)
  obtain ⟨V9,hV9⟩:∃V9,V9=w7.setCell ⟨w1.heap.size,2,none⟩ (Sl (some ⟨g7,0,none⟩) 1 q7c):=⟨_,rfl⟩
  have hz9:V9.heap.size=w7.heap.size:=by rw[hV9];simp[World.setCell]
  have hs8:=B7.size
  have XT:Hid (af V9 w1.heap.size (Ii Jj (k.day)) (Sl a1 L.length c1') (Sl (some ⟨g7,0,none⟩) 1 q7c) (Ii Jj (k.inn)) (Ii Jj (k.out)) (Ii Jj (k.posted)) (Ii Jj (k.missed))):=by show af _ _ _ _ _ _ _ _ _;rw[hV9];exact (PX.out.kept B7 PX.out.2.2).set2 _
  have AT:Hid (AL V9 (w.heap.size+1+1+1) (Sl a1 L.length c1') L):=by show AL _ _ _ _;rw[hV9];exact (PA.out.kept B7).off OFFA.out _ _
  have OT:Hid (ag V9 (w.heap.size+1+1+1) (Sl (some ⟨g7,0,none⟩) 1 q7c) [o]):=by
   show ag _ _ _ _;rw[hV9]
   exact ag.mono (O7.far hs4' _ _) (by omega)
  have P1':Hid (af V9 w.heap.size (Ii Jj k.day) (Sl a L.length c) (Sl none 0 0) (Ii Jj (k.inn)) (Ii Jj (k.out)) (Ii Jj k.posted) (Ii Jj k.missed)):=by show af _ _ _ _ _ _ _ _ _;rw[hV9];exact (P1.out.kept B7 P1.out.2.2).far (by omega) _ _
  have P3':Hid (af V9 (w.heap.size+1+1) (Ii Jj 0) (Sl none 0 0) (Sl none 0 0) (Ii Jj 0) (Ii Jj 0) (Ii Jj 0) (Ii Jj 0)):=by show af _ _ _ _ _ _ _ _ _;rw[hV9];exact (P3.out.kept B7 P3.out.2.2).far (by omega) _ _
  have PB':Hid (Below w.heap.size w V9):=by show Below _ _ _;rw[hV9];exact ak (PB.out.trans (B7.mono PB.out.size)) (by omega) _ _
  rw[←hV9]
  clear hV9 O6 O7 B7 N6 x0 x1 x2 x3 x4 x5 x6 xf xz s0 s1 s2 s3 s4 s5 s6 sf sz PX PA PO P1 P2 P3 PB AF2 HPX HP1 HP2 B5
  have hnl:[o].length<=1:=Nat.le_refl _
  have P1:=P1'
  have P3:=P3'
  have PB:=PB'
  clear P1' P3' PB'
  have BNK:Hid (Calls Tryz.prog 36 #[.agg #[Ii Jj (k.day),Sl a1 L.length c1',Sl (some ⟨g7,0,none⟩) 1 q7c,Ii Jj (k.inn),Ii Jj (k.out),Ii Jj (k.posted),Ii Jj (k.missed)]] V9 fun e w'=>ae e (Rn.mk 0 L [o] k).ok/\Below V9.heap.size V9 w'):=by
   have:=cC a1 (some ⟨g7,0,none⟩) (L.length) c1' (1) q7c (FL L) (ai [o]) k V9 (AT.out.fo (by omega)).2 (OT.out.list (by omega)).2
   exact this
  obtain ⟨⟨x0,x1,x2,x3,x4,x5,x6⟩,xf,xz⟩:=XT.out
  go_wp2_with fail
  refine BNK.out.mono ?_
  rintro e w8 ⟨⟨bb,rfl,hb1,hb2⟩,B8⟩
  have hs8:=B8.size
  clear x0 x1 x2 x3 x4 x5 x6 xf xz
  have XT':Hid (af w8 w1.heap.size (Ii Jj (k.day)) (Sl a1 L.length c1') (Sl (some ⟨g7,0,none⟩) 1 q7c) (Ii Jj (k.inn)) (Ii Jj (k.out)) (Ii Jj (k.posted)) (Ii Jj (k.missed))):=XT.out.kept B8 XT.out.2.2
  have AT':Hid (AL w8 (w.heap.size+1+1+1) (Sl a1 L.length c1') L):=AT.out.kept B8
  have OT':Hid (ag w8 (w.heap.size+1+1+1) (Sl (some ⟨g7,0,none⟩) 1 q7c) [o]):=OT.out.kept B8
  have P1':Hid (af w8 w.heap.size (Ii Jj k.day) (Sl a L.length c) (Sl none 0 0) (Ii Jj (k.inn)) (Ii Jj (k.out)) (Ii Jj k.posted) (Ii Jj k.missed)):=P1.out.kept B8 P1.out.2.2
  have P3':Hid (af w8 (w.heap.size+1+1) (Ii Jj 0) (Sl none 0 0) (Sl none 0 0) (Ii Jj 0) (Ii Jj 0) (Ii Jj 0) (Ii Jj 0)):=P3.out.kept B8 P3.out.2.2
  have PB':Hid (Below w.heap.size w w8):=PB.out.trans (B8.mono PB.out.size)
  clear XT AT OT P1 P3 PB B8 BNK
  have P1:=P1'
  have P3:=P3'
  have PB:=PB'
  clear P1' P3' PB'
  cases bb with
  | true=>
   have HN:Hid ((Rn.mk 0 L [o] k).ok):=hb1 rfl
   obtain ⟨⟨x0,x1,x2,x3,x4,x5,x6⟩,xf,xz⟩:=XT'.out
   obtain ⟨⟨r0,r1,r2,r3,r4,r5,r6⟩,rf,rz⟩:=P3.out
   clear hb1 hb2
   go_wp2
   refine bodyPost_ret (v:=.tuple #[.agg #[Ii Jj (k.day),Sl a1 L.length c1',Sl (some ⟨g7,0,none⟩) 1 q7c,Ii Jj (k.inn),Ii Jj (k.out),Ii Jj (k.posted),Ii Jj (k.missed)],Ii Jj 0]) (by simp[results,Tryz.results88,go_sem,r0,r1,r2,r3,r4,r5,r6]) rfl ?_
   rw[eF (q:=(Rn.mk 0 L [o] k)) rfl HN.out]
   refine ⟨Sl a1 L.length c1',Sl (some ⟨g7,0,none⟩) 1 q7c,?_,?_,?_,?_⟩
   ·rfl
   ·refine AL.mono (B:=(w.heap.size+1+1+1)) ?_ (by omega)
    repeat (refine AL.far ?_ (by omega) _ _)
    exact AT'.out
   ·refine ag.mono (B:=(w.heap.size+1+1+1)) ?_ (by omega)
    repeat (refine ag.far ?_ (by omega) _ _)
    exact OT'.out
   ·repeat (refine ak ?_ (by omega) _ _)
    exact PB.out
  | false=>
   have HN:Hid (¬(Rn.mk 0 L [o] k).ok):=hb2 rfl
   have HFIN:Hid (cM L [] k (Rn.mk 0 L [o] k)=⟨7,L,[],k⟩):=dR (q:=(Rn.mk 0 L [o] k)) rfl HN.out
   clear hb1 hb2 XT' AT' OT'
   obtain ⟨⟨s0,s1,s2,s3,s4,s5,s6⟩,sf,sz⟩:=P1.out
   go_wp2_with fail
   refine (ay a none c 0 L [] k _ (HF.out.below PB.out) (HO.out.below PB.out)).mono ?_
   rintro e w9 ⟨v9,u9,rfl,A9,O9,B9⟩
   obtain ⟨a9,c9,hv⟩:=A9.len
   subst hv
   obtain ⟨b9,d9,hv⟩:=O9.len
   subst hv
   clear s0 s1 s2 s3 s4 s5 s6 sf sz
   have hs9:w.heap.size+1+1<w8.heap.size:=P3.out.2.2
   obtain ⟨⟨r0,r1,r2,r3,r4,r5,r6⟩,rf,rz⟩:=P3.out.kept B9 hs9
   have HA9:Hid (AL w9 w8.heap.size (Sl a9 L.length c9) L):=A9
   have HO9:Hid (ag w9 w8.heap.size (Sl b9 0 d9) []):=O9
   have HB9:Hid (Below w.heap.size w w9):=PB.out.trans (B9.mono PB.out.size)
   clear A9 O9 B9 P1 P3 PB
   go_wp2
   refine bodyPost_ret (v:=.tuple #[.agg #[Ii Jj (k.day),Sl a9 L.length c9,Sl b9 0 d9,Ii Jj (k.inn),Ii Jj (k.out),Ii Jj (k.posted),Ii Jj (k.missed)],Ii Jj 7]) (by simp[results,Tryz.results88,go_sem,r0,r1,r2,r3,r4,r5,r6]) rfl ?_
   rw[HFIN.out]
   refine ⟨_,_,rfl,?_,?_,?_⟩
   ·refine AL.mono (B:=w8.heap.size) ?_ (by omega)
    repeat (refine AL.far ?_ hs9 _ _)
    exact HA9.out
   ·refine ag.mono (B:=w8.heap.size) ?_ (by omega)
    repeat (refine ag.far ?_ hs9 _ _)
    exact HO9.out
   ·repeat (refine ak ?_ (by omega) _ _)
    exact HB9.out
end
section
open Value renaming int → Ii,slice → Sl
open IntKind renaming i64 → Jj
open Go.RowKit
set_option maxRecDepth 8000
set_option linter.unusedVariables false
theorem mR (a b:Option Addr) (c d:Nat) (L:List al) (O:List am) (k:Bk) (K n:Int) (x:bB) (o:am) (w:World) (hF:Fo w a L.length (FL L)) (hO:aJ w b O.length (ai O)) (hd:O.length<=d) (hsh:(b=none/\d=0)\/∃pb po,b=some ⟨pb,po,none⟩) (hb:aj (FL L) L.length (ai O) O.length k):
  Calls Tryz.prog 88 #[.agg #[Ii Jj k.day,Sl a L.length c,Sl b O.length d,Ii Jj k.inn,Ii Jj k.out,Ii Jj k.posted,Ii Jj k.missed],.agg #[Ii Jj K,Ii Jj x.k,Ii Jj x.i,Ii Jj x.t,Ii Jj x.m,Ii Jj x.r,Ii Jj o.id,Ii Jj o.src,Ii Jj o.dst,Ii Jj o.amount,Ii Jj o.first,Ii Jj o.every,Ii Jj o.times,Ii Jj n]] w fun e w'=>cY (gq L O k K x o n) w e w':=by
 unfold gq
 by_cases hok:aA K x o n
 ·rcases pZ hok with rfl|rfl|rfl|rfl
  ·rw[tI hok]
   by_cases h5:x.k=5
   ·exact jE a b c d L O k n x o w hF hO hd hb hok h5
   ·by_cases h6:x.k=6
    ·exact iJ a b c d L O k n x o w hF hO hd hb hok h6
    ·exact iI a b c d L O k n x o w hF hO hd hb hok h5 h6
  ·by_cases ht:dy O o.id
   ·rw[pw hok ht]
    exact jV a b c d L O k n x o w hF hO hd hb hok ht
   ·rw[sr hok ht]
    rcases hsh with ⟨hb0,hd0⟩|⟨pb,po,hbp⟩
    ·subst hb0 hd0
     obtain rfl:O=[]:=List.length_eq_zero_iff.1 (by omega)
     exact iH a c L k n x o w hF hO hb hok
    ·exact i8 a b c d L O k n x o w hF hO hd hb hok ht pb po hbp
  ·by_cases ht:dy O n
   ·rw[so hok ht]
    exact mT a b c d L O k n x o w hF hO hd hb hok ht
   ·rw[rd hok ht]
    exact lD a b c d L O k n x o w hF hO hd hb hok ht
  ·by_cases ht:fy L O k
   ·rw[sq hok ht]
    exact iG a b c d L O k n x o w hF hO hd hb hok ht
   ·rw[rc hok ht]
    exact jD a b c d L O k n x o w hF hO hd hb hok ht
 ·rw[ra hok]
  exact lC a b c d L O k K n x o w hF hO hd hb hok
set_option maxHeartbeats 8000000 in
theorem jC (a b:Option Addr) (c d:Nat) (L:List al) (O:List am) (k:Bk) (K n:Int) (x:bB) (o:am) (w:World) (hF:Fo w a L.length (FL L)) (hO:aJ w b O.length (ai O)) (hd:O.length<=d) (hsh:(b=none/\d=0)\/∃pb po,b=some ⟨pb,po,none⟩) (hb:aj (FL L) L.length (ai O) O.length k):
  Calls Tryz.prog 55 #[.agg #[Ii Jj k.day,Sl a L.length c,Sl b O.length d,Ii Jj k.inn,Ii Jj k.out,Ii Jj k.posted,Ii Jj k.missed],.agg #[Ii Jj K,Ii Jj x.k,Ii Jj x.i,Ii Jj x.t,Ii Jj x.m,Ii Jj x.r,Ii Jj o.id,Ii Jj o.src,Ii Jj o.dst,Ii Jj o.amount,Ii Jj o.first,Ii Jj o.every,Ii Jj o.times,Ii Jj n]] w fun e w'=>cY (gq L O k K x o n) w e w':=by
 have HOK:Hid (aj (FL L) L.length (ai O) O.length k):=hb
 have RUN:Hid (∀w,Fo w a L.length (FL L)->aJ w b O.length (ai O)->Calls Tryz.prog 88 #[.agg #[Ii Jj k.day,Sl a L.length c,Sl b O.length d,Ii Jj k.inn,Ii Jj k.out,Ii Jj k.posted,Ii Jj k.missed],.agg #[Ii Jj K,Ii Jj x.k,Ii Jj x.i,Ii Jj x.t,Ii Jj x.m,Ii Jj x.r,Ii Jj o.id,Ii Jj o.src,Ii Jj o.dst,Ii Jj o.amount,Ii Jj o.first,Ii Jj o.every,Ii Jj o.times,Ii Jj n]] w fun e w'=>cY (gq L O k K x o n) w e w'):=fun w h1 h2=>mR a b c d L O k K n x o w h1 h2 hd hsh hb
 clear hb
 have HF:Hid (Fo w a L.length (FL L)):=hF
 have HO:Hid (aJ w b O.length (ai O)):=hO
 obtain ⟨W0,hW0,hs0,b0,z1,z2,z3⟩:=cn a b c d L O k K n x o w
 have HW0:=ac hW0
 have HB0:=ac b0
 have Z1:=ac z1
 have Z2:=ac z2
 have Z3:=ac z3
 clear hW0 b0 z1 z2 z3 hF hO
 generalize gq L O k K x o n=q at*
 obtain ⟨qc,qL,qO,qk⟩:=q
 go_enter Tryz.func55,Tryz.ntmps55
 go_wp2_with fail
 rw[←HW0.out]
 clear HW0
 refine (cC a b L.length c O.length d (FL L) (ai O) k _ (HF.out.below HB0.out) (HO.out.below HB0.out)).mono ?_
 rintro e w1 ⟨⟨bb,rfl,hb1,hb2⟩,B1⟩
 obtain rfl:bb=true:=by cases bb with|false=>exact absurd HOK.out (hb2 rfl)|true=>rfl
 have hs1:=B1.size
 have Y3:Hid (af w1 (w.heap.size+1+1) (Ii Jj 0) (Sl none 0 0) (Sl none 0 0) (Ii Jj 0) (Ii Jj 0) (Ii Jj 0) (Ii Jj 0)):=Z3.out.kept B1 (by omega)
 have HB1:Hid (Below w.heap.size w w1):=HB0.out.trans (B1.mono (by omega))
 have hs1':w.heap.size+1+1+1<=w1.heap.size:=by omega
 obtain ⟨⟨s0,s1,s2,s3,s4,s5,s6⟩,sf,sz⟩:=Z1.out.kept B1 (by omega)
 obtain ⟨⟨c0,c1,c2,c3,c4,c5,c6,c7,c8,c9,c10,c11,c12,c13⟩,cz⟩:=Z2.out.kept B1 (by omega)
 clear hb1 hb2 B1 HB0 Z1 Z2 Z3 hs0 hs1
 go_wp2_with fail
 refine (RUN.out _ (HF.out.below HB1.out) (HO.out.below HB1.out)).mono ?_
 rintro e w2 ⟨v2,u2,rfl,A2,O2,B2⟩
 dsimp only at*
 obtain ⟨a2,c2',hv⟩:=A2.len
 subst hv
 obtain ⟨b2,d2,hv⟩:=O2.len
 subst hv
 clear s0 s1 s2 s3 s4 s5 s6 sf sz c0 c1 c2 c3 c4 c5 c6 c7 c8 c9 c10 c11 c12 c13 cz RUN
 obtain ⟨⟨r0,r1,r2,r3,r4,r5,r6⟩,rf,rz⟩:=Y3.out.kept B2 (by omega)
 have HA2:Hid (AL w2 w1.heap.size (Sl a2 qL.length c2') qL):=A2
 have HO2:Hid (ag w2 w1.heap.size (Sl b2 qO.length d2) qO):=O2
 have HB2:Hid (Below w.heap.size w w2):=HB1.out.trans (B2.mono HB1.out.size)
 clear A2 O2 B2 Y3
 go_wp2
 refine bodyPost_ret (v:=.tuple #[.agg #[Ii Jj qk.day,Sl a2 qL.length c2',Sl b2 qO.length d2,Ii Jj qk.inn,Ii Jj qk.out,Ii Jj qk.posted,Ii Jj qk.missed],Ii Jj qc]) (by simp[results,Tryz.results55,go_sem,r0,r1,r2,r3,r4,r5,r6]) rfl ⟨Sl a2 qL.length c2',Sl b2 qO.length d2,rfl,?_,?_,?_⟩
 ·refine AL.mono (B:=w1.heap.size) ?_ (by omega)
  repeat (refine AL.far ?_ (by omega) _ _)
  exact HA2.out
 ·refine ag.mono (B:=w1.heap.size) ?_ (by omega)
  repeat (refine ag.far ?_ (by omega) _ _)
  exact HO2.out
 ·repeat (refine ak ?_ (by omega) _ _)
  exact HB2.out
theorem rD (a b:Option Addr) (c d:Nat) (L:List al) (O:List am) (k:Bk) (K n:Int) (x:bB) (o:am) (w:World) (hF:Fo w a L.length (FL L)) (hO:aJ w b O.length (ai O)) (hd:O.length<=d) (hsh:(b=none/\d=0)\/∃pb po,b=some ⟨pb,po,none⟩):
  Calls Tryz.prog 55 #[.agg #[Ii Jj k.day,Sl a L.length c,Sl b O.length d,Ii Jj k.inn,Ii Jj k.out,Ii Jj k.posted,Ii Jj k.missed],.agg #[Ii Jj K,Ii Jj x.k,Ii Jj x.i,Ii Jj x.t,Ii Jj x.m,Ii Jj x.r,Ii Jj o.id,Ii Jj o.src,Ii Jj o.dst,Ii Jj o.amount,Ii Jj o.first,Ii Jj o.every,Ii Jj o.times,Ii Jj n]] w fun e w'=>cY (jt L O k K x o n) w e w':=by
 unfold jt
 by_cases hb:aj (FL L) L.length (ai O) O.length k
 ·rw[if_pos hb];exact jC a b c d L O k K n x o w hF hO hd hsh hb
 ·rw[if_neg hb];exact mS a b c d L O k K n x o w hF hO hb
end
section
open Go.RowKit
def pY:Value->Bool| .bool b=>b|_=>false
def fl:Value->Nat| .string s=>s.size|_=>0
set_option maxRecDepth 8000 in
set_option maxHeartbeats 2000000 in
theorem mK (S:ByteArray) (w:World) (hS:S.size<=1048576):Calls Tryz.prog 51 #[.string S] w fun e w'=>kL S w e w':=by
 obtain ⟨i0,hi,hz0,hz1,hz2⟩:=info_parts qy
 have I0:Hid (f7 (w.alloc (.cells #[] 2)) w.heap.size (.slice (some ⟨w.heap.size,0,none⟩) 0 0) []):=⟨World.ownsRow_lit w #[] 0 (Nat.le_refl _) (Nat.zero_le _) (by simp),by intro e;cases e⟩
 obtain ⟨m0,hm0,M0⟩:∃m0:Bool,(!S.toList.isEmpty)=m0/\Hid (ct S S [] m0):=by
  refine ⟨_,rfl,?_⟩
  rw[Lib.toList_data]
  cases h:S.data.toList with
  | nil=>exact ct.none0 h
  | cons b l=>exact ct.start (by rw[h];simp)
 go_enter Tryz.func51,Tryz.ntmps51
 go_wp2
 go_loopw[0,4,5] (fun sv v m wr=>∃(t:ByteArray) (pre:List Int) (b:Bool),sv=.string t/\m=.bool b/\t.size<=1048576/\pre.length<=1048577/\Hid ((b=true->pre.length+t.size<=S.size)/\pre.length<=S.size+1)/\Hid (ct S t pre b)/\Hid (f7 wr w.heap.size v pre)/\Hid (Below w.heap.size w wr)) (fun sv _ m _=>if pY m then fl sv+1 else 0)
 case atStart=>exact ⟨S,[],m0,rfl,rfl,hS,by simp,(⟨fun _=>by simp,by simp⟩:(m0=true->[].length+S.size<=S.size)/\[].length<=S.size+1),M0,I0,(Below.refl _ _).alloc (Nat.le_refl _) _⟩
 case round=>
  obtain ⟨t,pre,b,rfl,rfl,ht,hpre,hL,hN,hI,hB⟩:=hrel
  obtain ⟨g,cap,hv,hg1,hg2⟩:=hI.out.shape
  subst hv
  cases b with
  | false=>
   have FI:Hid (kL S w (.returned (.tuple #[.slice (some ⟨g,0,none⟩) pre.length cap,.bool true])) wr):=⟨hB.out,Or.inl ⟨pre,_,(by have:=hN.out;unfold ct at this;simpa using this),hL.out.2,rfl,hI.out⟩⟩
   clear hN hI hB hL M0 I0
   generalize pre.length=q at*
   go_wp2
   refine bodyPost_ret (v:=.tuple #[.slice (some ⟨g,0,none⟩) q cap,.bool true]) (by simp[results,Tryz.results51,go_sem]) rfl ?_
   exact FI.out
  | true=>
   go_wp2_with fail
   refine (iQ 32 t wr ht).mono ?_
   rintro e w1 ⟨x,y,b,rfl,hcut,hx,hy,hyb,B1⟩
   have HC:Hid (bF 32 t.data.toList=(x.data.toList,y.data.toList,b)/\(b=true->y.size<t.size)):=⟨hcut,hyb⟩
   have HB1:Hid (Below w.heap.size w w1):=hB.out.trans (B1.mono hB.out.size)
   have HI1:Hid (f7 w1 w.heap.size (.slice (some ⟨g,0,none⟩) pre.length cap) pre):=hI.out.kept B1
   have hx':x.size<=1048576:=Nat.le_trans hx ht
   have hy':y.size<=1048576:=Nat.le_trans hy ht
   clear hcut hyb hB hI B1 hx
   go_wp2_with fail
   refine (sC x w1 hx').mono ?_
   rintro e w2 ⟨B2,hor⟩
   have HB2:Hid (Below w.heap.size w w2):=HB1.out.trans (B2.mono HB1.out.size)
   have HI2:Hid (f7 w2 w.heap.size (.slice (some ⟨g,0,none⟩) pre.length cap) pre):=HI1.out.kept B2
   have hg3:g<w2.heap.size:=Nat.lt_of_lt_of_le (HI1.out.shape.elim fun g' h=>h.elim fun c' h=>by obtain ⟨e,_,h⟩:=h;cases e;exact h) B2.size
   clear HB1 HI1 B2
   rcases hor with ⟨n,hn,rfl⟩|⟨hn,rfl⟩
   ·have HN2:Hid (ct S y (pre++[n]) b):=hN.out.step HC.out.1 hn
    have HL2:Hid ((b=true->(pre++[n]).length+y.size<=S.size)/\(pre++[n]).length<=S.size+1):=by
     show _/\_
     have h1:=hL.out.1 trivial
     refine ⟨fun hb=>?_,by simp;omega⟩
     have:=HC.out.2 hb
     simp
     omega
    have hpl:pre.length<=1048576:=by have:=hL.out.1 trivial;omega
    have HM:Hid ((if b=true then y.size+1 else 0)<t.size+1):=by
     show _<_
     by_cases hb:b=true
     ·rw[if_pos hb];have:=HC.out.2 hb;omega
     ·rw[if_neg hb];omega
    clear hN hn hL HC M0 I0
    go_wp2_with (at_builtin;refine wpList_append_own _ rfl _ _ 80 rfl w.heap.size 2 i0 (.int .i64 0) 1 8 Tryz.underlying80 hi hz0 hz1 hz2 rfl (by decide) _ _ _ rfl (HI2.out.1.alloc _) ⟨_,0,none⟩ 1 1 [.int .i64 n] rfl rfl ?_ ?_ ?_ ?_ ?_ ?_)
    ·intro j u hj
     match j,hj with
     | 0,hj=>simp at hj;subst hj;simp[Addr.add,go_sem]
    ·intro u hu;simp at hu;subst hu;rfl
    ·unfold maxLen;omega
    ·omega
    ·have:=HB2.out.size;simp;omega
    ·intro v' w3 hown hgrow hnn
     have I3:Hid (f7 w3 w.heap.size v' (pre++[n])):=⟨by simpa using hown,hnn⟩
     obtain ⟨g',cap',hv',hg1',hg2'⟩:=I3.out.shape
     subst hv'
     have B3:Hid (Below w.heap.size w w3):=(HB2.out.alloc HB2.out.size _).grown hgrow (by have:=HB2.out.size;simp;omega) (fun k hk=>by simp[Value.ownBlock] at hk;omega)
     clear hown hgrow hnn
     go_wp2
     go_roundw
     case rel=>exact ⟨y,pre++[n],b,rfl,rfl,hy',by simp;omega,HL2,HN2,I3,B3⟩
     case measure=>have h:=HM.out;revert h;clear HM HN2 HL2 I3 B3;cases b <;>simp[pY,fl]
   ·have FI:Hid (kL S w (.returned (.tuple #[.slice none 0 0,.bool false])) w2):=⟨HB2.out,Or.inr ⟨hN.out.bad HC.out.1 hn,rfl⟩⟩
    clear hN hn hL HC M0 I0 HI2
    go_wp2
    refine bodyPost_ret (v:=.tuple #[.slice none 0 0,.bool false]) (by simp[results,Tryz.results51,go_sem]) rfl ?_
    exact FI.out
end
section
open Go.RowKit
def aQ (wd:ByteArray) (k:Nat):Prop:=(∃h:k<cp.length,1<=k/\cp[k]=wd)\/(k=0/\∀j (h:j<cp.length),1<=j->cp[j]≠wd)
def gS (wd:ByteArray) (k:Nat):Prop:=∀j (h:j<cp.length),1<=j->j<k->cp[j]≠wd
theorem gS.step {wd:ByteArray} {k:Nat} (h:gS wd k) (hk:k<cp.length) (hn:cp[k]≠wd):gS wd (k+1):=by
 intro j hj h1 h2
 by_cases e:j=k
 ·subst e;exact hn
 ·exact h j hj h1 (by omega)
set_option maxHeartbeats 2000000 in
theorem dx (wd:ByteArray) (w:World):Calls Tryz.prog 86 #[.string wd] w fun e w'=>∃k:Nat,aQ wd k/\k<=10/\e=.returned (.int .i64 k)/\Below w.heap.size w w':=by
 go_enter Tryz.func86,Tryz.ntmps86
 go_wp2_with fail
 refine (co w).mono ?_
 rintro e w1 ⟨rfl,hw1⟩
 have HC:Hid (∀j (h:j<cp.length),w1.cell? ⟨w.heap.size,j,none⟩=some (.string cp[j])):=by
  intro j h
  rw[hw1]
  exact bQ w j h
 have HB:Hid (Below w.heap.size w w1):=by rw[hw1];exact (Below.refl _ _).alloc (Nat.le_refl _) _
 clear hw1
 go_wp2
 go_loop [4] (fun i=>∃k:Nat,1<=k/\k<=11/\i=.int .i64 k/\Hid (gS wd k)) (fun i=>11-(intOf i).toNat)
 case atStart=>exact ⟨1,by omega,by omega,rfl,(fun j h h1 h2=>by omega:gS wd 1)⟩
 case round=>
  obtain ⟨k,hk1,hk,rfl,hK⟩:=hrel
  by_cases hlt:k<11
  ·have hkl:k<cp.length:=hlt
   have hc:=HC.out k hkl
   obtain ⟨x,hx⟩:∃x,cp[k]=x:=⟨_,rfl⟩
   rw[hx] at hc
   by_cases he:x=wd
   ·have FI:Hid (aQ wd k):=Or.inl ⟨hkl,hk1,hx.trans he⟩
    subst he
    clear hx hK
    go_wp2
    go_ret
    exact ⟨k,FI.out,by omega,rfl,HB.out⟩
   ·have HN:Hid (gS wd (k+1)):=hK.out.step hkl (by rw[hx];exact he)
    have he':=lc he
    clear hx hK he
    go_wp2
    go_round
    case rel=>exact ⟨k+1,by omega,by omega,by go_num,HN⟩
    case measure=>simp[intOf];omega
  ·have FI:Hid (aQ wd 0):=Or.inr ⟨rfl,fun j h h1=>hK.out j h h1 (by have:j<11:=h;omega)⟩
   clear hK
   go_wp2
   go_ret
   exact ⟨0,FI.out,by omega,rfl,HB.out⟩
end
section
open Value renaming int → Ii,slice → Sl
open IntKind renaming i64 → Jj
open Go.RowKit
set_option maxRecDepth 8000
abbrev bl (K:Int) (x:bB) (o:am) (n:Int):List Value:=[Ii Jj K,Ii Jj x.k,Ii Jj x.i,Ii Jj x.t,Ii Jj x.m,Ii Jj x.r,Ii Jj o.id,Ii Jj o.src,Ii Jj o.dst,Ii Jj o.amount,Ii Jj o.first,Ii Jj o.every,Ii Jj o.times,Ii Jj n]
abbrev bZ (K:Int):List Value:=[Ii Jj K,Ii Jj 0,Ii Jj 0,Ii Jj 0,Ii Jj 0,Ii Jj 0,Ii Jj 0,Ii Jj 0,Ii Jj 0,Ii Jj 0,Ii Jj 0,Ii Jj 0,Ii Jj 0,Ii Jj 0]
def dk (w:World) (K:Int) (x:bB) (o:am) (n:Int) (e:Ending) (w':World):Prop:=e=.returned (.agg (bl K x o n).toArray)/\Below w.heap.size w w'
def fW (w:World) (h:Nat):Prop:=ah w (h+1) (bZ 19)/\ah w h (bZ 0)
theorem fW.new (w:World):fW ((w.alloc (.cells (bZ 0).toArray 37)).alloc (.cells (bZ 19).toArray 37)) w.heap.size:=by
 refine ⟨?_,?_⟩
 ·have:=ah.new (w.alloc (.cells (bZ 0).toArray 37)) (bZ 19) 37
  simpa using this
 ·exact (ah.new w (bZ 0) 37).kept ((Below.refl _ _).alloc (Nat.le_refl _) _) (by simp)
theorem fW.kept {w w':World} {h:Nat} (t:fW w h) (hb:Below w.heap.size w w'):fW w' h:=⟨t.1.kept hb t.1.2.2,t.2.kept hb t.2.2.2⟩
theorem bS {wd:ByteArray} {k j:Nat} (h:aQ wd k) (g:aQ wd j):k=j:=by
 rcases h with ⟨h0,h1,h2⟩|⟨rfl,h2⟩ <;>rcases g with ⟨g0,g1,g2⟩|⟨rfl,g2⟩
 ·have key:∀a (ha:a<11) b (hb:b<11),cp[a]'ha=cp[b]'hb->a=b:=by decide
  exact key k h0 j g0 (h2.trans g2.symm)
 ·exact absurd h2 (g2 k h0 h1)
 ·exact absurd g2 (h2 j g0 g1)
 ·rfl
def tF (k:Int):List Int->bB
 | [a,b,c,d]=>⟨k,a,b,c,d⟩
 | [a,b,c]=>⟨k,a,b,c,0⟩
 | [a,b]=>if k=9 then ⟨k,a,b,0,0⟩ else ⟨k,a,0,b,0⟩
 | [a]=>⟨k,a,0,0,0⟩
 | _=>⟨k,0,0,0,0⟩
end
end Go.Proofs.YtjhgchlfpolkcaaGreatDoor
