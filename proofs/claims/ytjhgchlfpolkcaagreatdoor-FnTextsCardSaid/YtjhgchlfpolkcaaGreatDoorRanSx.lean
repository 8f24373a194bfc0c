/- Ran of the specification. -/
import Derived.Test.YtjhgchlfpolkcaaGreatDoorRanVx
import Derived.Deep.QuietTactic
import Derived.BigQuiet
import Derived.Test.YtjhgchlfpolkcaaGreatDoorRanTx
import Derived.Test.YtjhgchlfpolkcaaGreatDoorRanUx
namespace Go.Proofs.YtjhgchlfpolkcaaGreatDoor
section
open Value renaming int → Ii,slice → Sl
open IntKind renaming i64 → Jj
open Go.RowKit
set_option maxRecDepth 8000
set_option linter.unusedVariables false
theorem ff {w:World} {B n:Nat} {v:Value} {xs:List Value} (h:w.ownsRow B 35 7 v n xs):∃a c,v=Sl a n c:=by
 rcases h.2 with ⟨e,e2⟩|⟨g,cap,cur,e,_⟩
 ·exact ⟨none,0,by rw[e,e2]⟩
 ·exact ⟨_,_,e⟩
set_option maxHeartbeats 8000000 in
theorem i8 (a b:Option Addr) (c d:Nat) (L:List al) (O:List am) (k:Bk) (n:Int) (x:bB) (o:am) (w:World) (hF:Fo w a L.length (FL L)) (hO:aJ w b O.length (ai O)) (hd:O.length<=d) (hb:aj (FL L) L.length (ai O) O.length k) (hok:aA 20 x o n) (ht:¬dy O o.id) (pb po:Nat) (hbp:b=some ⟨pb,po,none⟩):
  Calls Tryz.prog 88 #[.agg #[Ii Jj k.day,Sl a L.length c,Sl b O.length d,Ii Jj k.inn,Ii Jj k.out,Ii Jj k.posted,Ii Jj k.missed],.agg #[Ii Jj 20,Ii Jj x.k,Ii Jj x.i,Ii Jj x.t,Ii Jj x.m,Ii Jj x.r,Ii Jj o.id,Ii Jj o.src,Ii Jj o.dst,Ii Jj o.amount,Ii Jj o.first,Ii Jj o.every,Ii Jj o.times,Ii Jj n]] w fun e w'=>cY (cM L O k ⟨0,L,bg O o,k⟩) w e w':=by
 have HOK:Hid (aj (FL L) L.length (ai O) O.length k):=hb
 have hl12:L.length<=12:=hb.2.1.1
 have hol:O.length<=8:=hb.2.2.1.1
 have FORM:=ac (fun W=>d8 hok W)
 obtain ⟨i0,hi,hz0,hz1,hz2⟩:=info_parts fS
 have HRO:Hid (cf (ai O) O.length):=hb.2.2.1
 have hcl:(bg O o).length<=O.length+1:=Nat.le_of_eq (qK O o)
 have PL:Hid (∀W,aJ W b O.length (ai O)->Calls Tryz.prog 106 #[Sl b O.length d,Ii Jj o.id] W fun e w'=>e=.returned (Ii Jj (-1))/\Below W.heap.size W w'):=fun W h1=>(f0 b d O o.id W h1).mono (by
  rintro e w' ⟨rfl,h⟩
  rw[je ht]
  exact ⟨rfl,h⟩)
 clear ht
 have HBP:Hid (b=some ⟨pb,po,none⟩):=hbp
 clear hbp
 clear hb hok
 have HF:Hid (Fo w a L.length (FL L)):=hF
 have HO:Hid (aJ w b O.length (ai O)):=hO
 obtain ⟨W0,hW0,hs0,b0,z1,z2,z3⟩:=cn a b c d L O k 20 n x o w
 have HW0:=ac hW0
 have HB0:=ac b0
 have Z1:=ac z1
 have Z2:=ac z2
 have Z3:=ac z3
 clear hW0 b0 z1 z2 z3 hF hO
 go_enter Tryz.func88,Tryz.ntmps88
 go_wp2_with fail
 rw[←HW0.out]
 clear HW0
 refine (ay a b c d L O k _ (HF.out.below HB0.out) (HO.out.below HB0.out)).mono ?_
 rintro e w1 ⟨v1,u1,rfl,A1,O1,D1⟩
 rw[hs0] at A1 O1
 obtain ⟨a1,c1',hv⟩:=A1.len
 subst hv
 obtain ⟨b1,d1,hv⟩:=O1.len
 subst hv
 have OFFA:Hid (∀q,(Value.slice a1 L.length c1').ownBlock=some q->q≠w1.heap.size):=fun q hq=>by have:=(World.ownsRow.lt A1 q hq).2;omega
 obtain ⟨W2,hW2⟩:∃W2,W2=w1.alloc (.cells #[Ii Jj k.day,Sl a1 L.length c1',Sl b1 O.length d1,Ii Jj k.inn,Ii Jj k.out,Ii Jj k.posted,Ii Jj k.missed] 27):=⟨_,rfl⟩
 have D2:Below w1.heap.size w1 W2:=by rw[hW2];exact (Below.refl _ _).alloc (Nat.le_refl _) _
 have hs1:=D1.size
 have hs2:W2.heap.size=w1.heap.size+1:=by rw[hW2];simp
 have E2:Below W0.heap.size W0 W2:=D1.trans (D2.mono D1.size)
 have PX:Hid (af W2 w1.heap.size (Ii Jj k.day) (Sl a1 L.length c1') (Sl b1 O.length d1) (Ii Jj (k.inn)) (Ii Jj (k.out)) (Ii Jj k.posted) (Ii Jj k.missed)):=by
  show af _ _ _ _ _ _ _ _ _;rw[hW2];exact af.new w1 _ _ _ _ _ _ _ 27
 have P1:Hid (af W2 w.heap.size (Ii Jj k.day) (Sl a L.length c) (Sl b O.length d) (Ii Jj (k.inn)) (Ii Jj (k.out)) (Ii Jj k.posted) (Ii Jj k.missed)):=Z1.out.kept E2 (by omega)
 have P2:Hid (aG W2 (w.heap.size+1) 20 x o n):=Z2.out.kept E2 (by omega)
 have P3:Hid (af W2 (w.heap.size+1+1) (Ii Jj 0) (Sl none 0 0) (Sl none 0 0) (Ii Jj 0) (Ii Jj 0) (Ii Jj 0) (Ii Jj 0)):=Z3.out.kept E2 (by omega)
 have PA:Hid (AL W2 (w.heap.size+1+1+1) (Sl a1 L.length c1') L):=A1.kept D2
 have PO:Hid (ag W2 (w.heap.size+1+1+1) (Sl b1 O.length d1) O):=O1.kept D2
 have PB:Hid (Below w.heap.size w W2):=HB0.out.trans (E2.mono HB0.out.size)
 have HW2:Hid (W2=_):=hW2
 clear hW2 D1 D2 E2 A1 O1 Z1 Z2 Z3 HB0
 obtain ⟨⟨c0,c1,c2,c3,c4,c5,c6,c7,c8,c9,c10,c11,c12,c13⟩,cz⟩:=P2.out
 go_upto_region 10 with fail
 rw[←HW2.out]
 clear HW2
 go_wp2_with fail
 refine (FORM.out _).mono ?_
 rintro e w3 ⟨rfl,E3⟩
 clear c0 c1 c2 c3 c4 c5 c6 c7 c8 c9 c10 c11 c12 c13 cz FORM
 replace P1:=ac (P1.out.kept E3 (by omega))
 replace P3:=ac (P3.out.kept E3 (by omega))
 replace P2:=ac (P2.out.kept E3 (by omega))
 replace PX:=ac (PX.out.kept E3 (by omega))
 replace PA:=ac (PA.out.kept E3)
 replace PO:=ac (PO.out.kept E3)
 replace PB:=ac (PB.out.trans (E3.mono PB.out.size))
 have hs3:w1.heap.size+1<=w3.heap.size:=by have:=E3.size;omega
 clear E3 hs2
 have hs3':(w.heap.size+1+1+1)<=w1.heap.size:=by omega
 clear hs1 hs0
 obtain ⟨⟨c0,c1,c2,c3,c4,c5,c6,c7,c8,c9,c10,c11,c12,c13⟩,cz⟩:=P2.out
 obtain ⟨⟨s0,s1,s2,s3,s4,s5,s6⟩,sf,sz⟩:=P1.out
 go_wp2_with fail
 refine (PL.out _ (HO.out.below PB.out)).mono ?_
 rintro e w4 ⟨rfl,E4⟩
 clear c0 c1 c2 c3 c4 c5 c6 c7 c8 c9 c10 c11 c12 c13 cz s0 s1 s2 s3 s4 s5 s6 sf sz PL
 replace P1:=ac (P1.out.kept E4 (by omega))
 replace P3:=ac (P3.out.kept E4 (by omega))
 replace P2:=ac (P2.out.kept E4 (by omega))
 replace PX:=ac (PX.out.kept E4 (by omega))
 replace PA:=ac (PA.out.kept E4)
 replace PO:=ac (PO.out.kept E4)
 replace PB:=ac (PB.out.trans (E4.mono PB.out.size))
 have hs4:=E4.size
 clear E4
 obtain rfl:=HBP.out
 clear HBP
 have HP1:Hid (∀V,Below w4.heap.size w4 V->af V w.heap.size (Ii Jj k.day) (Sl a L.length c) (Sl (some ⟨pb,po,none⟩) O.length d) (Ii Jj (k.inn)) (Ii Jj (k.out)) (Ii Jj k.posted) (Ii Jj k.missed)):=fun V h=>P1.out.kept h P1.out.2.2
 have HP2:Hid (∀V,Below w4.heap.size w4 V->aG V (w.heap.size+1) 20 x o n):=fun V h=>P2.out.kept h P2.out.2
 go_upto_region 5 with fail
 go_loopw[10] (fun vi wr=>∃i:Nat,i<=O.length/\vi=Ii Jj i/\Hid (∀t,t<i->(ai O t).id<o.id)/\Hid (Below w4.heap.size w4 wr)) (fun vi _=>O.length-(jH vi).toNat)
 case atStart=>exact ⟨0,Nat.zero_le _,rfl,fun j hj=>absurd hj (Nat.not_lt_zero _),Below.refl _ _⟩
 case round=>
  obtain ⟨i,hi',rfl,hno,hB⟩:=hrel
  obtain ⟨⟨s0,s1,s2,s3,s4,s5,s6⟩,sf,sz⟩:=HP1.out _ hB.out
  obtain ⟨⟨c0,c1,c2,c3,c4,c5,c6,c7,c8,c9,c10,c11,c12,c13⟩,cz⟩:=HP2.out _ hB.out
  by_cases hlt:i<O.length
  ·obtain ⟨pb',po',hpe,hpb,hAt⟩:=(HO.out.below (PB.out.trans (hB.out.mono PB.out.size))).acc hlt
   obtain ⟨rfl,rfl⟩:pb=pb'/\po=po':=by simpa using hpe
   obtain ⟨q0,q1,q2,q3,q4,q5,q6⟩:=hAt
   clear hpe
   by_cases hid:(ai O i).id<o.id
   ·have HN:Hid (∀t,t<i+1->(ai O t).id<o.id):=fun t ht=>by
     by_cases e:t=i
     ·subst e;exact hid
     ·exact hno.out t (by omega)
    have d1':decide ((i:Int)<(O.length:Int))=true:=by simp;omega
    have d2':decide ((ai O i).id<o.id)=true:=by simpa using hid
    have d3':(0:Int)<=(i:Int):=by omega
    have d4':(i:Int)<(O.length:Int):=by omega
    clear hid
    go_wp2
    go_quiet (fail)
    go_wp2
    go_roundw
    case rel=>exact ⟨i+1,by omega,by go_num,HN,⟨hB.out.os,hB.out.tape,hB.out.output,hB.out.size,hB.out.block⟩⟩
    case measure=>simp[jH];omega
   ·have HH:Hid (fu O o.id i i):=⟨hno.out,fun t h1 h2=>by
     by_cases e:t=i
     ·subst e;omega
     ·have:=fJ HRO.out i t (by omega) h2
      omega⟩
    have d1':decide ((i:Int)<(O.length:Int))=true:=by simp;omega
    have d2':decide ((ai O i).id<o.id)=false:=by simp;omega
    have d3':(0:Int)<=(i:Int):=by omega
    have d4':(i:Int)<(O.length:Int):=by omega
    clear hid
    go_wp2
    go_quiet (fail)
    obtain ⟨w5,hw5⟩:∃w5,w5=wr.drewN nq:=⟨_,rfl⟩
    have B5:Hid (Below w4.heap.size w4 w5):=by show Below _ _ _;rw[hw5];exact ⟨hB.out.os,hB.out.tape,hB.out.output,hB.out.size,hB.out.block⟩
    rw[←hw5]
    clear hw5 hB s0 s1 s2 s3 s4 s5 s6 sf sz c0 c1 c2 c3 c4 c5 c6 c7 c8 c9 c10 c11 c12 c13 cz
    clear q0 q1 q2 q3 q4 q5 q6
    have HR:Hid (bg O o=O.take i++o::O.drop i):=by show bg O o=_;unfold bg;rw[nQ hi' HH.out]
    have hs5:=B5.out.size
    have hsrc:Hid (∀W,aJ W (some ⟨pb,po,none⟩) O.length (ai O)->∀t u,((O.drop i).flatMap au)[t]? =some u->W.cell? ((⟨pb,po+i*7,none⟩:Addr).add t)=some u):=fun W hW t u hu=>hU hW i t u hu
    have hOr:Hid (∀V,Below w4.heap.size w4 V->aJ V (some ⟨pb,po,none⟩) O.length (ai O)):=fun V h=>HO.out.below (PB.out.trans (h.mono PB.out.size))
    have DA:Below w4.heap.size w4 (w5.alloc (.cells #[] 35)):=B5.out.alloc hs5 _
    have E0:Hid (ag (w5.alloc (.cells #[] 35)) w4.heap.size (Sl (some ⟨w5.heap.size,0,none⟩) 0 0) []):=ag.empty w5 _ hs5
    have HC1:Hid (∀j u,((O.take i).flatMap au)[j]? =some u->(w5.alloc (.cells #[] 35)).cell? ((⟨pb,po,none⟩:Addr).add j)=some u):=hZ (hOr.out _ DA) i hi'
    have hsA:Hid (w4.heap.size<=(w5.alloc (.cells #[] 35)).heap.size):=by show w4.heap.size<=(w5.alloc (.cells #[] 35)).heap.size;simp;omega
    have hl1:Hid (((O.take i).flatMap au).length=i*7):=by show ((O.take i).flatMap au).length=i*7;rw[bq];simp;omega
    have hl2:Hid (((O.drop i).flatMap au).length=(O.length-i)*7):=by show ((O.drop i).flatMap au).length=_;rw[bq];simp
    have h63:Hid (0+i<=maxLen):=by show 0+i<=maxLen;unfold maxLen;omega
    have hby:Hid ((0+i)*56<=140737488355328):=by show (0+i)*56<=140737488355328;omega
    have h63b:Hid (i+1<=maxLen):=by show i+1<=maxLen;unfold maxLen;omega
    have hbyb:Hid ((i+1)*56<=140737488355328):=by show (i+1)*56<=140737488355328;omega
    have h63c:Hid (i+1+(O.length-i)<=maxLen):=by show i+1+(O.length-i)<=maxLen;unfold maxLen;omega
    have hbyc:Hid ((i+1+(O.length-i))*56<=140737488355328):=by show (i+1+(O.length-i))*56<=140737488355328;omega
    have AF1:Hid (∀v6 (w6:World),World.ownsRow w6 w4.heap.size 35 7 (v6) (0+i) ([]++(O.take i).flatMap au)->World.grownBy (w5.alloc (.cells #[] 35)) w6 (Value.slice (some ⟨w5.heap.size,0,none⟩) 0 0).ownBlock->∃a6 c6,v6=Sl a6 i c6/\World.ownsRow (w6.alloc (.cells #[Ii Jj o.id,Ii Jj o.src,Ii Jj o.dst,Ii Jj o.amount,Ii Jj o.first,Ii Jj o.every,Ii Jj o.times] 35)) w4.heap.size 35 7 (Sl a6 i c6) (i) ((O.take i).flatMap au)/\Below w4.heap.size w4 w6/\Below w4.heap.size w4 (w6.alloc (.cells #[Ii Jj o.id,Ii Jj o.src,Ii Jj o.dst,Ii Jj o.amount,Ii Jj o.first,Ii Jj o.every,Ii Jj o.times] 35))/\(∀j u,(au o)[j]? =some u->(w6.alloc (.cells #[Ii Jj o.id,Ii Jj o.src,Ii Jj o.dst,Ii Jj o.amount,Ii Jj o.first,Ii Jj o.every,Ii Jj o.times] 35)).cell? ((⟨w6.heap.size,0,none⟩:Addr).add j)=some u)):=by
     intro v6 w6 hown hgrow
     rw[Nat.zero_add,List.nil_append] at hown
     have D6:Below w4.heap.size w4 w6:=DA.grown hgrow DA.size (fun j hj=>by simp[Value.ownBlock] at hj;omega)
     obtain ⟨a6,c6,rfl⟩:=ff hown
     refine ⟨a6,c6,rfl,World.ownsRow.kept hown (World.grownBy_alloc w6 _ none) (by cases (Value.slice a6 i c6).ownBlock <;>simp),D6,D6.alloc D6.size _,?_⟩
     intro j u hj
     exact kM.cell (x:=o) (vb:=w6.heap.size) (by unfold kM;show (w6.heap.push _)[w6.heap.size]? =_;simp;rfl) j u hj
    have AF2:Hid (∀a6 c6 (w6:World) v7 (w7:World),World.ownsRow (w6.alloc (.cells #[Ii Jj o.id,Ii Jj o.src,Ii Jj o.dst,Ii Jj o.amount,Ii Jj o.first,Ii Jj o.every,Ii Jj o.times] 35)) w4.heap.size 35 7 (Sl a6 i c6) (i) ((O.take i).flatMap au)->Below w4.heap.size w4 (w6.alloc (.cells #[Ii Jj o.id,Ii Jj o.src,Ii Jj o.dst,Ii Jj o.amount,Ii Jj o.first,Ii Jj o.every,Ii Jj o.times] 35))->World.ownsRow w7 w4.heap.size 35 7 (v7) (i+1) ((O.take i).flatMap au++au o)->World.grownBy (w6.alloc (.cells #[Ii Jj o.id,Ii Jj o.src,Ii Jj o.dst,Ii Jj o.amount,Ii Jj o.first,Ii Jj o.every,Ii Jj o.times] 35)) w7 (Value.slice a6 i c6).ownBlock->∃a7 c7,v7=Sl a7 (i+1) c7/\World.ownsRow w7 w4.heap.size 35 7 (Sl a7 (i+1) c7) (i+1) ((O.take i).flatMap au++au o)/\Below w4.heap.size w4 w7):=by
     intro a6 c6 w6 v7 w7 h6 B6 hown hgrow
     obtain ⟨a7,c7,rfl⟩:=ff hown
     exact ⟨a7,c7,rfl,hown,B6.grown hgrow B6.size (fun q hq=>(World.ownsRow.lt h6 q hq).1)⟩
    have AF3:Hid (∀a7 c7 (w7:World) v8 (w8:World),World.ownsRow w7 w4.heap.size 35 7 (Sl a7 (i+1) c7) (i+1) ((O.take i).flatMap au++au o)->Below w4.heap.size w4 w7->World.ownsRow w8 w4.heap.size 35 7 (v8) (i+1+(O.length-i)) ((O.take i).flatMap au++au o++(O.drop i).flatMap au)->World.grownBy w7 w8 (Value.slice a7 (i+1) c7).ownBlock->∃a8 c8,v8=Sl a8 (bg O o).length c8/\ag w8 w4.heap.size (Sl a8 (bg O o).length c8) (bg O o)/\Below w4.heap.size w4 w8):=by
     intro a7 c7 w7 v8 w8 h7 B7 hown hgrow
     have D8:Below w4.heap.size w4 w8:=B7.grown hgrow B7.size (fun q hq=>(World.ownsRow.lt h7 q hq).1)
     have O8:ag w8 w4.heap.size v8 (bg O o):=by
      unfold ag
      rw[HR.out]
      have hlen:(O.take i++o::O.drop i).length=i+1+(O.length-i):=by simp;omega
      rw[hlen,List.flatMap_append,List.flatMap_cons,←List.append_assoc]
      exact hown
     obtain ⟨a8,c8,rfl⟩:=O8.len
     exact ⟨a8,c8,rfl,O8,D8⟩
    have HPX:Hid (∀V,Below w4.heap.size w4 V->af V w1.heap.size (Ii Jj k.day) (Sl a1 L.length c1') (Sl b1 O.length d1) (Ii Jj (k.inn)) (Ii Jj (k.out)) (Ii Jj k.posted) (Ii Jj k.missed)):=fun V h=>PX.out.kept h PX.out.2.2
    obtain ⟨⟨s0,s1,s2,s3,s4,s5,s6⟩,sf,sz⟩:=HP1.out _ B5.out
    have b0:(0:Int)<=(i:Int):=by omega
    have b1':(i:Int)<=(d:Int):=by omega
    have b4:(i:Int)<=(O.length:Int):=by omega
    have b8:(O.length:Int)<=(d:Int):=by omega
    have hrd:i<=d:=by omega
    have hs4':w1.heap.size<w4.heap.size:=by omega
    have m1:w.heap.size<w5.heap.size:=by omega
    clear DA
    go_upto_region 27 with (first
     | (at_builtin;refine wpList_append_own _ rfl _ _ 25 rfl w4.heap.size 35 i0 _ 7 56 Tryz.underlying25 hi hz0 hz1 hz2 rfl (by decide) _ _ _ rfl E0.out ⟨pb,po,none⟩ i d ((O.take i).flatMap au) rfl hl1.out HC1.out (dJ _) h63.out hby.out hsA.out ?_;intro v6 w6 hown hgrow hnn;obtain ⟨a6,q6c,rfl,O6,B6,B6a,N6⟩:=AF1.out v6 w6 hown hgrow;clear hown hgrow hnn s0 s1 s2 s3 s4 s5 s6 sf sz;obtain ⟨⟨c0,c1,c2,c3,c4,c5,c6,c7,c8,c9,c10,c11,c12,c13⟩,cz⟩:=HP2.out _ B6;have m2:w.heap.size<w6.heap.size:=(HP1.out _ B6).2.2;have m3:w.heap.size+1<w6.heap.size:=cz)
     | (at_builtin;refine wpList_append_own _ rfl _ _ 25 rfl w4.heap.size 35 i0 _ 7 56 Tryz.underlying25 hi hz0 hz1 hz2 rfl (by decide) _ _ _ rfl O6 ⟨w6.heap.size,0,none⟩ 1 1 (au o) rfl rfl N6 (ld o) h63b.out hbyb.out B6a.size ?_;intro v7 w7 hown hgrow hnn;obtain ⟨a7,q7c,rfl,O7,B7⟩:=AF2.out a6 q6c w6 v7 w7 O6 B6a hown hgrow;clear hown hgrow hnn c0 c1 c2 c3 c4 c5 c6 c7 c8 c9 c10 c11 c12 c13 cz;obtain ⟨⟨s0,s1,s2,s3,s4,s5,s6⟩,sf,sz⟩:=HP1.out _ B7)
     | (at_builtin;refine wpList_append_own _ rfl _ _ 25 rfl w4.heap.size 35 i0 _ 7 56 Tryz.underlying25 hi hz0 hz1 hz2 rfl (by decide) _ _ _ rfl O7 ⟨pb,po+i*7,none⟩ (O.length-i) (d-i) ((O.drop i).flatMap au) rfl hl2.out (hsrc.out w7 (hOr.out w7 B7)) (dJ _) h63c.out hbyc.out B7.size ?_;intro v8 w8 hown hgrow hnn;obtain ⟨a8,q8c,rfl,O8,B8⟩:=AF3.out a7 q7c w7 v8 w8 O7 B7 hown hgrow;clear hown hgrow hnn s0 s1 s2 s3 s4 s5 s6 sf sz;obtain ⟨⟨x0,x1,x2,x3,x4,x5,x6⟩,xf,xz⟩:=HPX.out w8 B8))
    obtain ⟨V9,hV9⟩:∃V9,V9=w8.setCell ⟨w1.heap.size,2,none⟩ (Sl a8 (bg O o).length q8c):=⟨_,rfl⟩
    have hz9:V9.heap.size=w8.heap.size:=by rw[hV9];simp[World.setCell]
    have hs8:=B8.size
    have XT:Hid (af V9 w1.heap.size (Ii Jj (k.day)) (Sl a1 L.length c1') (Sl a8 (bg O o).length q8c) (Ii Jj (k.inn)) (Ii Jj (k.out)) (Ii Jj (k.posted)) (Ii Jj (k.missed))):=by show af _ _ _ _ _ _ _ _ _;rw[hV9];exact (PX.out.kept B8 PX.out.2.2).set2 _
    have AT:Hid (AL V9 (w.heap.size+1+1+1) (Sl a1 L.length c1') L):=by show AL _ _ _ _;rw[hV9];exact (PA.out.kept B8).off OFFA.out _ _
    have OT:Hid (ag V9 (w.heap.size+1+1+1) (Sl a8 (bg O o).length q8c) (bg O o)):=by
     show ag _ _ _ _;rw[hV9]
     exact ag.mono (O8.far hs4' _ _) (by omega)
    have P1':Hid (af V9 w.heap.size (Ii Jj k.day) (Sl a L.length c) (Sl (some ⟨pb,po,none⟩) O.length d) (Ii Jj (k.inn)) (Ii Jj (k.out)) (Ii Jj k.posted) (Ii Jj k.missed)):=by show af _ _ _ _ _ _ _ _ _;rw[hV9];exact (P1.out.kept B8 P1.out.2.2).far (by omega) _ _
    have P3':Hid (af V9 (w.heap.size+1+1) (Ii Jj 0) (Sl none 0 0) (Sl none 0 0) (Ii Jj 0) (Ii Jj 0) (Ii Jj 0) (Ii Jj 0)):=by show af _ _ _ _ _ _ _ _ _;rw[hV9];exact (P3.out.kept B8 P3.out.2.2).far (by omega) _ _
    have PB':Hid (Below w.heap.size w V9):=by show Below _ _ _;rw[hV9];exact ak (PB.out.trans (B8.mono PB.out.size)) (by omega) _ _
    rw[←hV9]
    clear hV9 O6 O7 O8 B6 B6a B7 B8 N6 x0 x1 x2 x3 x4 x5 x6 xf xz PX PA PO P1 P2 P3 PB E0 HC1 AF1 AF2 AF3 HPX HP1 HP2 B5
    have P1:=P1'
    have P3:=P3'
    have PB:=PB'
    clear P1' P3' PB'
    have BNK:Hid (Calls Tryz.prog 36 #[.agg #[Ii Jj (k.day),Sl a1 L.length c1',Sl a8 (bg O o).length q8c,Ii Jj (k.inn),Ii Jj (k.out),Ii Jj (k.posted),Ii Jj (k.missed)]] V9 fun e w'=>ae e (Rn.mk 0 L (bg O o) k).ok/\Below V9.heap.size V9 w'):=by
     have:=cC a1 a8 (L.length) c1' ((bg O o).length) q8c (FL L) (ai (bg O o)) k V9 (AT.out.fo (by omega)).2 (OT.out.list (by omega)).2
     exact this
    obtain ⟨⟨x0,x1,x2,x3,x4,x5,x6⟩,xf,xz⟩:=XT.out
    go_wp2_with fail
    refine BNK.out.mono ?_
    rintro e w8 ⟨⟨bb,rfl,hb1,hb2⟩,B8⟩
    have hs8:=B8.size
    clear x0 x1 x2 x3 x4 x5 x6 xf xz
    have XT':Hid (af w8 w1.heap.size (Ii Jj (k.day)) (Sl a1 L.length c1') (Sl a8 (bg O o).length q8c) (Ii Jj (k.inn)) (Ii Jj (k.out)) (Ii Jj (k.posted)) (Ii Jj (k.missed))):=XT.out.kept B8 XT.out.2.2
    have AT':Hid (AL w8 (w.heap.size+1+1+1) (Sl a1 L.length c1') L):=AT.out.kept B8
    have OT':Hid (ag w8 (w.heap.size+1+1+1) (Sl a8 (bg O o).length q8c) (bg O o)):=OT.out.kept B8
    have P1':Hid (af w8 w.heap.size (Ii Jj k.day) (Sl a L.length c) (Sl (some ⟨pb,po,none⟩) O.length d) (Ii Jj (k.inn)) (Ii Jj (k.out)) (Ii Jj k.posted) (Ii Jj k.missed)):=P1.out.kept B8 P1.out.2.2
    have P3':Hid (af w8 (w.heap.size+1+1) (Ii Jj 0) (Sl none 0 0) (Sl none 0 0) (Ii Jj 0) (Ii Jj 0) (Ii Jj 0) (Ii Jj 0)):=P3.out.kept B8 P3.out.2.2
    have PB':Hid (Below w.heap.size w w8):=PB.out.trans (B8.mono PB.out.size)
    clear XT AT OT P1 P3 PB B8 BNK
    have P1:=P1'
    have P3:=P3'
    have PB:=PB'
    clear P1' P3' PB'
    cases bb with
    | true=>
     have HN:Hid ((Rn.mk 0 L (bg O o) k).ok):=hb1 rfl
     obtain ⟨⟨x0,x1,x2,x3,x4,x5,x6⟩,xf,xz⟩:=XT'.out
     obtain ⟨⟨r0,r1,r2,r3,r4,r5,r6⟩,rf,rz⟩:=P3.out
     clear hb1 hb2
     go_wp2
     refine bodyPost_ret (v:=.tuple #[.agg #[Ii Jj (k.day),Sl a1 L.length c1',Sl a8 (bg O o).length q8c,Ii Jj (k.inn),Ii Jj (k.out),Ii Jj (k.posted),Ii Jj (k.missed)],Ii Jj 0]) (by simp[results,Tryz.results88,go_sem,r0,r1,r2,r3,r4,r5,r6]) rfl ?_
     rw[eF (q:=(Rn.mk 0 L (bg O o) k)) rfl HN.out]
     refine ⟨Sl a1 L.length c1',Sl a8 (bg O o).length q8c,?_,?_,?_,?_⟩
     ·rfl
     ·refine AL.mono (B:=(w.heap.size+1+1+1)) ?_ (by omega)
      repeat (refine AL.far ?_ (by omega) _ _)
      exact AT'.out
     ·refine ag.mono (B:=(w.heap.size+1+1+1)) ?_ (by omega)
      repeat (refine ag.far ?_ (by omega) _ _)
      exact OT'.out
     ·repeat (refine ak ?_ (by omega) _ _)
      exact PB.out
    | false=>
     have HN:Hid (¬(Rn.mk 0 L (bg O o) k).ok):=hb2 rfl
     have HFIN:Hid (cM L O k (Rn.mk 0 L (bg O o) k)=⟨7,L,O,k⟩):=dR (q:=(Rn.mk 0 L (bg O o) k)) rfl HN.out
     clear hb1 hb2 XT' AT' OT'
     obtain ⟨⟨s0,s1,s2,s3,s4,s5,s6⟩,sf,sz⟩:=P1.out
     go_wp2_with fail
     refine (ay _ _ c d L O k _ (HF.out.below PB.out) (HO.out.below PB.out)).mono ?_
     rintro e w9 ⟨v9,u9,rfl,A9,O9,B9⟩
     obtain ⟨a9,c9,hv⟩:=A9.len
     subst hv
     obtain ⟨b9,d9,hv⟩:=O9.len
     subst hv
     clear s0 s1 s2 s3 s4 s5 s6 sf sz
     have hs9:w.heap.size+1+1<w8.heap.size:=P3.out.2.2
     obtain ⟨⟨r0,r1,r2,r3,r4,r5,r6⟩,rf,rz⟩:=P3.out.kept B9 hs9
     have HA9:Hid (AL w9 w8.heap.size (Sl a9 L.length c9) L):=A9
     have HO9:Hid (ag w9 w8.heap.size (Sl b9 O.length d9) O):=O9
     have HB9:Hid (Below w.heap.size w w9):=PB.out.trans (B9.mono PB.out.size)
     clear A9 O9 B9 P1 P3 PB
     go_wp2
     refine bodyPost_ret (v:=.tuple #[.agg #[Ii Jj (k.day),Sl a9 L.length c9,Sl b9 O.length d9,Ii Jj (k.inn),Ii Jj (k.out),Ii Jj (k.posted),Ii Jj (k.missed)],Ii Jj 7]) (by simp[results,Tryz.results88,go_sem,r0,r1,r2,r3,r4,r5,r6]) rfl ?_
     rw[HFIN.out]
     refine ⟨_,_,rfl,?_,?_,?_⟩
     ·refine AL.mono (B:=w8.heap.size) ?_ (by omega)
      repeat (refine AL.far ?_ hs9 _ _)
      exact HA9.out
     ·refine ag.mono (B:=w8.heap.size) ?_ (by omega)
      repeat (refine ag.far ?_ hs9 _ _)
      exact HO9.out
     ·repeat (refine ak ?_ (by omega) _ _)
      exact HB9.out
  ·have hii:i=O.length:=by omega
   have HH:Hid (fu O o.id i i):=⟨hno.out,fun t h1 h2=>by omega⟩
   clear hii
   have d1':decide ((i:Int)<(O.length:Int))=false:=by simp;omega
   go_wp2
   go_quiet (fail)
   obtain ⟨w5,hw5⟩:∃w5,w5=wr.drewN nq:=⟨_,rfl⟩
   have B5:Hid (Below w4.heap.size w4 w5):=by show Below _ _ _;rw[hw5];exact ⟨hB.out.os,hB.out.tape,hB.out.output,hB.out.size,hB.out.block⟩
   rw[←hw5]
   clear hw5 hB s0 s1 s2 s3 s4 s5 s6 sf sz c0 c1 c2 c3 c4 c5 c6 c7 c8 c9 c10 c11 c12 c13 cz
   have HR:Hid (bg O o=O.take i++o::O.drop i):=by show bg O o=_;unfold bg;rw[nQ hi' HH.out]
   have hs5:=B5.out.size
   obtain ⟨A,hA,hsrc⟩:∃A:Addr,(if d=i then some (⟨pb,po,none⟩:Addr) else some ⟨pb,po+i*7,none⟩)=some A/\Hid (∀W,aJ W (some ⟨pb,po,none⟩) O.length (ai O)->∀t u,((O.drop i).flatMap au)[t]? =some u->W.cell? (A.add t)=some u):=by
    by_cases e:d=i
    ·refine ⟨⟨pb,po,none⟩,by simp[e],fun W hW t u hu=>?_⟩
     rw[List.drop_of_length_le (by omega)] at hu
     simp at hu
    ·exact ⟨⟨pb,po+i*7,none⟩,by simp[e],fun W hW t u hu=>hU hW i t u hu⟩
   have hOr:Hid (∀V,Below w4.heap.size w4 V->aJ V (some ⟨pb,po,none⟩) O.length (ai O)):=fun V h=>HO.out.below (PB.out.trans (h.mono PB.out.size))
   have DA:Below w4.heap.size w4 (w5.alloc (.cells #[] 35)):=B5.out.alloc hs5 _
   have E0:Hid (ag (w5.alloc (.cells #[] 35)) w4.heap.size (Sl (some ⟨w5.heap.size,0,none⟩) 0 0) []):=ag.empty w5 _ hs5
   have HC1:Hid (∀j u,((O.take i).flatMap au)[j]? =some u->(w5.alloc (.cells #[] 35)).cell? ((⟨pb,po,none⟩:Addr).add j)=some u):=hZ (hOr.out _ DA) i hi'
   have hsA:Hid (w4.heap.size<=(w5.alloc (.cells #[] 35)).heap.size):=by show w4.heap.size<=(w5.alloc (.cells #[] 35)).heap.size;simp;omega
   have hl1:Hid (((O.take i).flatMap au).length=i*7):=by show ((O.take i).flatMap au).length=i*7;rw[bq];simp;omega
   have hl2:Hid (((O.drop i).flatMap au).length=(O.length-i)*7):=by show ((O.drop i).flatMap au).length=_;rw[bq];simp
   have h63:Hid (0+i<=maxLen):=by show 0+i<=maxLen;unfold maxLen;omega
   have hby:Hid ((0+i)*56<=140737488355328):=by show (0+i)*56<=140737488355328;omega
   have h63b:Hid (i+1<=maxLen):=by show i+1<=maxLen;unfold maxLen;omega
   have hbyb:Hid ((i+1)*56<=140737488355328):=by show (i+1)*56<=140737488355328;omega
   have h63c:Hid (i+1+(O.length-i)<=maxLen):=by show i+1+(O.length-i)<=maxLen;unfold maxLen;omega
   have hbyc:Hid ((i+1+(O.length-i))*56<=140737488355328):=by show (i+1+(O.length-i))*56<=140737488355328;omega
   have AF1:Hid (∀v6 (w6:World),World.ownsRow w6 w4.heap.size 35 7 (v6) (0+i) ([]++(O.take i).flatMap au)->World.grownBy (w5.alloc (.cells #[] 35)) w6 (Value.slice (some ⟨w5.heap.size,0,none⟩) 0 0).ownBlock->∃a6 c6,v6=Sl a6 i c6/\World.ownsRow (w6.alloc (.cells #[Ii Jj o.id,Ii Jj o.src,Ii Jj o.dst,Ii Jj o.amount,Ii Jj o.first,Ii Jj o.every,Ii Jj o.times] 35)) w4.heap.size 35 7 (Sl a6 i c6) (i) ((O.take i).flatMap au)/\Below w4.heap.size w4 w6/\Below w4.heap.size w4 (w6.alloc (.cells #[Ii Jj o.id,Ii Jj o.src,Ii Jj o.dst,Ii Jj o.amount,Ii Jj o.first,Ii Jj o.every,Ii Jj o.times] 35))/\(∀j u,(au o)[j]? =some u->(w6.alloc (.cells #[Ii Jj o.id,Ii Jj o.src,Ii Jj o.dst,Ii Jj o.amount,Ii Jj o.first,Ii Jj o.every,Ii Jj o.times] 35)).cell? ((⟨w6.heap.size,0,none⟩:Addr).add j)=some u)):=by
    intro v6 w6 hown hgrow
    rw[Nat.zero_add,List.nil_append] at hown
    have D6:Below w4.heap.size w4 w6:=DA.grown hgrow DA.size (fun j hj=>by simp[Value.ownBlock] at hj;omega)
    obtain ⟨a6,c6,rfl⟩:=ff hown
    refine ⟨a6,c6,rfl,World.ownsRow.kept hown (World.grownBy_alloc w6 _ none) (by cases (Value.slice a6 i c6).ownBlock <;>simp),D6,D6.alloc D6.size _,?_⟩
    intro j u hj
    exact kM.cell (x:=o) (vb:=w6.heap.size) (by unfold kM;show (w6.heap.push _)[w6.heap.size]? =_;simp;rfl) j u hj
   have AF2:Hid (∀a6 c6 (w6:World) v7 (w7:World),World.ownsRow (w6.alloc (.cells #[Ii Jj o.id,Ii Jj o.src,Ii Jj o.dst,Ii Jj o.amount,Ii Jj o.first,Ii Jj o.every,Ii Jj o.times] 35)) w4.heap.size 35 7 (Sl a6 i c6) (i) ((O.take i).flatMap au)->Below w4.heap.size w4 (w6.alloc (.cells #[Ii Jj o.id,Ii Jj o.src,Ii Jj o.dst,Ii Jj o.amount,Ii Jj o.first,Ii Jj o.every,Ii Jj o.times] 35))->World.ownsRow w7 w4.heap.size 35 7 (v7) (i+1) ((O.take i).flatMap au++au o)->World.grownBy (w6.alloc (.cells #[Ii Jj o.id,Ii Jj o.src,Ii Jj o.dst,Ii Jj o.amount,Ii Jj o.first,Ii Jj o.every,Ii Jj o.times] 35)) w7 (Value.slice a6 i c6).ownBlock->∃a7 c7,v7=Sl a7 (i+1) c7/\World.ownsRow w7 w4.heap.size 35 7 (Sl a7 (i+1) c7) (i+1) ((O.take i).flatMap au++au o)/\Below w4.heap.size w4 w7):=by
    intro a6 c6 w6 v7 w7 h6 B6 hown hgrow
    obtain ⟨a7,c7,rfl⟩:=ff hown
    exact ⟨a7,c7,rfl,hown,B6.grown hgrow B6.size (fun q hq=>(World.ownsRow.lt h6 q hq).1)⟩
   have AF3:Hid (∀a7 c7 (w7:World) v8 (w8:World),World.ownsRow w7 w4.heap.size 35 7 (Sl a7 (i+1) c7) (i+1) ((O.take i).flatMap au++au o)->Below w4.heap.size w4 w7->World.ownsRow w8 w4.heap.size 35 7 (v8) (i+1+(O.length-i)) ((O.take i).flatMap au++au o++(O.drop i).flatMap au)->World.grownBy w7 w8 (Value.slice a7 (i+1) c7).ownBlock->∃a8 c8,v8=Sl a8 (bg O o).length c8/\ag w8 w4.heap.size (Sl a8 (bg O o).length c8) (bg O o)/\Below w4.heap.size w4 w8):=by
    intro a7 c7 w7 v8 w8 h7 B7 hown hgrow
    have D8:Below w4.heap.size w4 w8:=B7.grown hgrow B7.size (fun q hq=>(World.ownsRow.lt h7 q hq).1)
    have O8:ag w8 w4.heap.size v8 (bg O o):=by
     unfold ag
     rw[HR.out]
     have hlen:(O.take i++o::O.drop i).length=i+1+(O.length-i):=by simp;omega
     rw[hlen,List.flatMap_append,List.flatMap_cons,←List.append_assoc]
     exact hown
    obtain ⟨a8,c8,rfl⟩:=O8.len
    exact ⟨a8,c8,rfl,O8,D8⟩
   have HPX:Hid (∀V,Below w4.heap.size w4 V->af V w1.heap.size (Ii Jj k.day) (Sl a1 L.length c1') (Sl b1 O.length d1) (Ii Jj (k.inn)) (Ii Jj (k.out)) (Ii Jj k.posted) (Ii Jj k.missed)):=fun V h=>PX.out.kept h PX.out.2.2
   obtain ⟨⟨s0,s1,s2,s3,s4,s5,s6⟩,sf,sz⟩:=HP1.out _ B5.out
   have b0:(0:Int)<=(i:Int):=by omega
   have b1':(i:Int)<=(d:Int):=by omega
   have b4:(i:Int)<=(O.length:Int):=by omega
   have b8:(O.length:Int)<=(d:Int):=by omega
   have hrd:i<=d:=by omega
   have hs4':w1.heap.size<w4.heap.size:=by omega
   have m1:w.heap.size<w5.heap.size:=by omega
   clear DA
   go_upto_region 27 with (first
    | (at_builtin;refine wpList_append_own _ rfl _ _ 25 rfl w4.heap.size 35 i0 _ 7 56 Tryz.underlying25 hi hz0 hz1 hz2 rfl (by decide) _ _ _ rfl E0.out ⟨pb,po,none⟩ i d ((O.take i).flatMap au) rfl hl1.out HC1.out (dJ _) h63.out hby.out hsA.out ?_;intro v6 w6 hown hgrow hnn;obtain ⟨a6,q6c,rfl,O6,B6,B6a,N6⟩:=AF1.out v6 w6 hown hgrow;clear hown hgrow hnn s0 s1 s2 s3 s4 s5 s6 sf sz;obtain ⟨⟨c0,c1,c2,c3,c4,c5,c6,c7,c8,c9,c10,c11,c12,c13⟩,cz⟩:=HP2.out _ B6;have m2:w.heap.size<w6.heap.size:=(HP1.out _ B6).2.2;have m3:w.heap.size+1<w6.heap.size:=cz)
    | (at_builtin;refine wpList_append_own _ rfl _ _ 25 rfl w4.heap.size 35 i0 _ 7 56 Tryz.underlying25 hi hz0 hz1 hz2 rfl (by decide) _ _ _ rfl O6 ⟨w6.heap.size,0,none⟩ 1 1 (au o) rfl rfl N6 (ld o) h63b.out hbyb.out B6a.size ?_;intro v7 w7 hown hgrow hnn;obtain ⟨a7,q7c,rfl,O7,B7⟩:=AF2.out a6 q6c w6 v7 w7 O6 B6a hown hgrow;clear hown hgrow hnn c0 c1 c2 c3 c4 c5 c6 c7 c8 c9 c10 c11 c12 c13 cz;obtain ⟨⟨s0,s1,s2,s3,s4,s5,s6⟩,sf,sz⟩:=HP1.out _ B7)
    | (at_builtin;refine wpList_append_own _ rfl _ _ 25 rfl w4.heap.size 35 i0 _ 7 56 Tryz.underlying25 hi hz0 hz1 hz2 rfl (by decide) _ _ _ rfl O7 A (O.length-i) (d-i) ((O.drop i).flatMap au) rfl hl2.out (hsrc.out w7 (hOr.out w7 B7)) (dJ _) h63c.out hbyc.out B7.size ?_;intro v8 w8 hown hgrow hnn;obtain ⟨a8,q8c,rfl,O8,B8⟩:=AF3.out a7 q7c w7 v8 w8 O7 B7 hown hgrow;clear hown hgrow hnn s0 s1 s2 s3 s4 s5 s6 sf sz;obtain ⟨⟨x0,x1,x2,x3,x4,x5,x6⟩,xf,xz⟩:=HPX.out w8 B8))
   obtain ⟨V9,hV9⟩:∃V9,V9=w8.setCell ⟨w1.heap.size,2,none⟩ (Sl a8 (bg O o).length q8c):=⟨_,rfl⟩
   have hz9:V9.heap.size=w8.heap.size:=by rw[hV9];simp[World.setCell]
   have hs8:=B8.size
   have XT:Hid (af V9 w1.heap.size (Ii Jj (k.day)) (Sl a1 L.length c1') (Sl a8 (bg O o).length q8c) (Ii Jj (k.inn)) (Ii Jj (k.out)) (Ii Jj (k.posted)) (Ii Jj (k.missed))):=by show af _ _ _ _ _ _ _ _ _;rw[hV9];exact (PX.out.kept B8 PX.out.2.2).set2 _
   have AT:Hid (AL V9 (w.heap.size+1+1+1) (Sl a1 L.length c1') L):=by show AL _ _ _ _;rw[hV9];exact (PA.out.kept B8).off OFFA.out _ _
   have OT:Hid (ag V9 (w.heap.size+1+1+1) (Sl a8 (bg O o).length q8c) (bg O o)):=by
    show ag _ _ _ _;rw[hV9]
    exact ag.mono (O8.far hs4' _ _) (by omega)
   have P1':Hid (af V9 w.heap.size (Ii Jj k.day) (Sl a L.length c) (Sl (some ⟨pb,po,none⟩) O.length d) (Ii Jj (k.inn)) (Ii Jj (k.out)) (Ii Jj k.posted) (Ii Jj k.missed)):=by show af _ _ _ _ _ _ _ _ _;rw[hV9];exact (P1.out.kept B8 P1.out.2.2).far (by omega) _ _
   have P3':Hid (af V9 (w.heap.size+1+1) (Ii Jj 0) (Sl none 0 0) (Sl none 0 0) (Ii Jj 0) (Ii Jj 0) (Ii Jj 0) (Ii Jj 0)):=by show af _ _ _ _ _ _ _ _ _;rw[hV9];exact (P3.out.kept B8 P3.out.2.2).far (by omega) _ _
   have PB':Hid (Below w.heap.size w V9):=by show Below _ _ _;rw[hV9];exact ak (PB.out.trans (B8.mono PB.out.size)) (by omega) _ _
   rw[←hV9]
   clear hV9 O6 O7 O8 B6 B6a B7 B8 N6 x0 x1 x2 x3 x4 x5 x6 xf xz PX PA PO P1 P2 P3 PB E0 HC1 AF1 AF2 AF3 HPX HP1 HP2 B5
   have P1:=P1'
   have P3:=P3'
   have PB:=PB'
   clear P1' P3' PB'
   have BNK:Hid (Calls Tryz.prog 36 #[.agg #[Ii Jj (k.day),Sl a1 L.length c1',Sl a8 (bg O o).length q8c,Ii Jj (k.inn),Ii Jj (k.out),Ii Jj (k.posted),Ii Jj (k.missed)]] V9 fun e w'=>ae e (Rn.mk 0 L (bg O o) k).ok/\Below V9.heap.size V9 w'):=by
    have:=cC a1 a8 (L.length) c1' ((bg O o).length) q8c (FL L) (ai (bg O o)) k V9 (AT.out.fo (by omega)).2 (OT.out.list (by omega)).2
    exact this
   obtain ⟨⟨x0,x1,x2,x3,x4,x5,x6⟩,xf,xz⟩:=XT.out
   go_wp2_with fail
   refine BNK.out.mono ?_
   rintro e w8 ⟨⟨bb,rfl,hb1,hb2⟩,B8⟩
   have hs8:=B8.size
   clear x0 x1 x2 x3 x4 x5 x6 xf xz
   have XT':Hid (af w8 w1.heap.size (Ii Jj (k.day)) (Sl a1 L.length c1') (Sl a8 (bg O o).length q8c) (Ii Jj (k.inn)) (Ii Jj (k.out)) (Ii Jj (k.posted)) (Ii Jj (k.missed))):=XT.out.kept B8 XT.out.2.2
   have AT':Hid (AL w8 (w.heap.size+1+1+1) (Sl a1 L.length c1') L):=AT.out.kept B8
   have OT':Hid (ag w8 (w.heap.size+1+1+1) (Sl a8 (bg O o).length q8c) (bg O o)):=OT.out.kept B8
   have P1':Hid (af w8 w.heap.size (Ii Jj k.day) (Sl a L.length c) (Sl (some ⟨pb,po,none⟩) O.length d) (Ii Jj (k.inn)) (Ii Jj (k.out)) (Ii Jj k.posted) (Ii Jj k.missed)):=P1.out.kept B8 P1.out.2.2
   have P3':Hid (af w8 (w.heap.size+1+1) (Ii Jj 0) (Sl none 0 0) (Sl none 0 0) (Ii Jj 0) (Ii Jj 0) (Ii Jj 0) (Ii Jj 0)):=P3.out.kept B8 P3.out.2.2
   have PB':Hid (Below w.heap.size w w8):=PB.out.trans (B8.mono PB.out.size)
   clear XT AT OT P1 P3 PB B8 BNK
   have P1:=P1'
   have P3:=P3'
   have PB:=PB'
   clear P1' P3' PB'
   cases bb with
   | true=>
    have HN:Hid ((Rn.mk 0 L (bg O o) k).ok):=hb1 rfl
    obtain ⟨⟨x0,x1,x2,x3,x4,x5,x6⟩,xf,xz⟩:=XT'.out
    obtain ⟨⟨r0,r1,r2,r3,r4,r5,r6⟩,rf,rz⟩:=P3.out
    clear hb1 hb2
    go_wp2
    refine bodyPost_ret (v:=.tuple #[.agg #[Ii Jj (k.day),Sl a1 L.length c1',Sl a8 (bg O o).length q8c,Ii Jj (k.inn),Ii Jj (k.out),Ii Jj (k.posted),Ii Jj (k.missed)],Ii Jj 0]) (by simp[results,Tryz.results88,go_sem,r0,r1,r2,r3,r4,r5,r6]) rfl ?_
    rw[eF (q:=(Rn.mk 0 L (bg O o) k)) rfl HN.out]
    refine ⟨Sl a1 L.length c1',Sl a8 (bg O o).length q8c,?_,?_,?_,?_⟩
    ·rfl
    ·refine AL.mono (B:=(w.heap.size+1+1+1)) ?_ (by omega)
     repeat (refine AL.far ?_ (by omega) _ _)
     exact AT'.out
    ·refine ag.mono (B:=(w.heap.size+1+1+1)) ?_ (by omega)
     repeat (refine ag.far ?_ (by omega) _ _)
     exact OT'.out
    ·repeat (refine ak ?_ (by omega) _ _)
     exact PB.out
   | false=>
    have HN:Hid (¬(Rn.mk 0 L (bg O o) k).ok):=hb2 rfl
    have HFIN:Hid (cM L O k (Rn.mk 0 L (bg O o) k)=⟨7,L,O,k⟩):=dR (q:=(Rn.mk 0 L (bg O o) k)) rfl HN.out
    clear hb1 hb2 XT' AT' OT'
    obtain ⟨⟨s0,s1,s2,s3,s4,s5,s6⟩,sf,sz⟩:=P1.out
    go_wp2_with fail
    refine (ay _ _ c d L O k _ (HF.out.below PB.out) (HO.out.below PB.out)).mono ?_
    rintro e w9 ⟨v9,u9,rfl,A9,O9,B9⟩
    obtain ⟨a9,c9,hv⟩:=A9.len
    subst hv
    obtain ⟨b9,d9,hv⟩:=O9.len
    subst hv
    clear s0 s1 s2 s3 s4 s5 s6 sf sz
    have hs9:w.heap.size+1+1<w8.heap.size:=P3.out.2.2
    obtain ⟨⟨r0,r1,r2,r3,r4,r5,r6⟩,rf,rz⟩:=P3.out.kept B9 hs9
    have HA9:Hid (AL w9 w8.heap.size (Sl a9 L.length c9) L):=A9
    have HO9:Hid (ag w9 w8.heap.size (Sl b9 O.length d9) O):=O9
    have HB9:Hid (Below w.heap.size w w9):=PB.out.trans (B9.mono PB.out.size)
    clear A9 O9 B9 P1 P3 PB
    go_wp2
    refine bodyPost_ret (v:=.tuple #[.agg #[Ii Jj (k.day),Sl a9 L.length c9,Sl b9 O.length d9,Ii Jj (k.inn),Ii Jj (k.out),Ii Jj (k.posted),Ii Jj (k.missed)],Ii Jj 7]) (by simp[results,Tryz.results88,go_sem,r0,r1,r2,r3,r4,r5,r6]) rfl ?_
    rw[HFIN.out]
    refine ⟨_,_,rfl,?_,?_,?_⟩
    ·refine AL.mono (B:=w8.heap.size) ?_ (by omega)
     repeat (refine AL.far ?_ hs9 _ _)
     exact HA9.out
    ·refine ag.mono (B:=w8.heap.size) ?_ (by omega)
     repeat (refine ag.far ?_ hs9 _ _)
     exact HO9.out
    ·repeat (refine ak ?_ (by omega) _ _)
     exact HB9.out
end
section
open Value renaming int → Ii,slice → Sl
open IntKind renaming i64 → Jj
open Go.RowKit
set_option maxRecDepth 8000
set_option linter.unusedVariables false
set_option maxHeartbeats 4000000 in
theorem mS (a b:Option Addr) (c d:Nat) (L:List al) (O:List am) (k:Bk) (K n:Int) (x:bB) (o:am) (w:World) (hF:Fo w a L.length (FL L)) (hO:aJ w b O.length (ai O)) (hb:¬aj (FL L) L.length (ai O) O.length k):
  Calls Tryz.prog 55 #[.agg #[Ii Jj k.day,Sl a L.length c,Sl b O.length d,Ii Jj k.inn,Ii Jj k.out,Ii Jj k.posted,Ii Jj k.missed],.agg #[Ii Jj K,Ii Jj x.k,Ii Jj x.i,Ii Jj x.t,Ii Jj x.m,Ii Jj x.r,Ii Jj o.id,Ii Jj o.src,Ii Jj o.dst,Ii Jj o.amount,Ii Jj o.first,Ii Jj o.every,Ii Jj o.times,Ii Jj n]] w fun e w'=>cY ⟨1,[],[],⟨0,0,0,0,0⟩⟩ w e w':=by
 have HBad:Hid (¬aj (FL L) L.length (ai O) O.length k):=hb
 clear hb
 have HF:Hid (Fo w a L.length (FL L)):=hF
 have HO:Hid (aJ w b O.length (ai O)):=hO
 obtain ⟨W0,hW0,hs0,b0,z1,z2,z3⟩:=cn a b c d L O k K n x o w
 have HW0:=ac hW0
 have HB0:=ac b0
 have Z1:=ac z1
 have Z2:=ac z2
 have Z3:=ac z3
 clear hW0 b0 z1 z2 z3 hF hO
 go_enter Tryz.func55,Tryz.ntmps55
 go_wp2_with fail
 rw[←HW0.out]
 clear HW0
 refine (cC a b L.length c O.length d (FL L) (ai O) k _ (HF.out.below HB0.out) (HO.out.below HB0.out)).mono ?_
 rintro e w1 ⟨⟨bb,rfl,hb1,hb2⟩,B1⟩
 obtain rfl:bb=false:=by cases bb with|true=>exact absurd (hb1 rfl) HBad.out|false=>rfl
 obtain ⟨⟨r0,r1,r2,r3,r4,r5,r6⟩,rf,rz⟩:=Z3.out.kept B1 (by omega)
 have HB1:Hid (Below w.heap.size w w1):=HB0.out.trans (B1.mono (by omega))
 clear hb1 hb2 B1 HB0 Z1 Z2 Z3 hs0
 go_wp2
 refine bodyPost_ret (v:=.tuple #[.agg #[Ii Jj 0,Sl none 0 0,Sl none 0 0,Ii Jj 0,Ii Jj 0,Ii Jj 0,Ii Jj 0],Ii Jj 1]) (by simp[results,Tryz.results55,go_sem,r0,r1,r2,r3,r4,r5,r6]) rfl ⟨Sl none 0 0,Sl none 0 0,rfl,AL.nil' _ _,ag.nil _ _,?_⟩
 repeat (refine ak ?_ (by omega) _ _)
 exact HB1.out
end
end Go.Proofs.YtjhgchlfpolkcaaGreatDoor
