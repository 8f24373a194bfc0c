/- Ran of the specification. -/
import Derived.Test.YtghkbhggopiajaaGreatDoorRanVr
import Derived.Test.YtghkbhggopiajaaGreatDoorRanTr
import Derived.Test.YtghkbhggopiajaaGreatDoorRanUr
namespace Go.Proofs.YtghkbhggopiajaaGreatDoor
open Value renaming int → Ii,slice → Sl
open IntKind renaming i64 → Jj
open Nat renaming le_refl → Nf
open Go.Proofs.Tryz renaming prog → Pg
set_option maxHeartbeats 8000000
open Go.RowKit
set_option maxRecDepth 8000
set_option linter.unusedVariables false
theorem fs {w:World} {B n:Nat} {v:Value} {xs:List Value} (h:w.ownsRow B 45 7 v n xs):∃a c,v=Sl a n c:=by
 rcases h.2 with ⟨e,e2⟩|⟨g,cap,cur,e,_⟩
 ·exact ⟨none,0,by rw[e,e2]⟩
 ·exact ⟨_,_,e⟩
theorem iu (a b:Option Addr) (c d:Nat) (L:List aj) (O:List au) (k:Bk) (n:Int) (x:cV) (o:au) (w:World) (hF:Fo w a L.length (FL L)) (hO:aG w b O.length (ae O)) (hd:O.length<=d) (hb:aq (FL L) L.length (ae O) O.length k) (hok:ba 20 x o n) (ht:¬bv O o.id) (pb po:Nat) (hbp:b=some ⟨pb,po,none⟩):
  Calls Pg 84 #[.agg #[Ii Jj k.day,Sl a L.length c,Sl b O.length d,Ii Jj k.inn,Ii Jj k.out,Ii Jj k.posted,Ii Jj k.missed],.agg #[Ii Jj 20,Ii Jj x.k,Ii Jj x.i,Ii Jj x.t,Ii Jj x.m,Ii Jj x.r,Ii Jj o.id,Ii Jj o.src,Ii Jj o.dst,Ii Jj o.amount,Ii Jj o.first,Ii Jj o.every,Ii Jj o.times,Ii Jj n]] w fun e w'=>ch (cG L O k ⟨0,L,bd O o,k⟩) w e w':=by
 have HOK:=aa hb
 have hl12:L.length<=12:=hb.2.1.1
 have hol:O.length<=8:=hb.2.2.1.1
 have FORM:=aa (fun W=>dm hok W)
 obtain ⟨i0,hi,hz0,hz1,hz2⟩:=info_parts dd
 have HRO:Hid (bB (ae O) O.length):=hb.2.2.1
 have hcl:(bd O o).length<=O.length+1:=Nat.le_of_eq (jL O o)
 have PL:Hid (∀W,aG W b O.length (ae O)->Calls Pg 134 #[Sl b O.length d,Ii Jj o.id] W fun e w'=>e=.returned (Ii Jj (-1))/\Below W.heap.size W w'):=fun W h1=>(f7 b d O o.id W h1).mono (by
  rintro e w' ⟨rfl,h⟩
  rw[jK ht]
  exact ⟨rfl,h⟩)
 clear ht
 have HBP:=aa hbp
 clear hbp
 clear hb hok
 have HF:=aa hF
 have HO:=aa hO
 obtain ⟨W0,hW0,hs0,b0,z1,z2,z3⟩:=bY a b c d L O k 20 n x o w
 have HW0:=aa hW0
 have HB0:=aa b0
 have Z1:=aa z1
 have Z2:=aa z2
 have Z3:=aa z3
 clear hW0 b0 z1 z2 z3 hF hO
 go_enter Tryz.func84,Tryz.ntmps84
 go_wp2_with fail
 rw[←HW0.out]
 clear HW0
 refine (aC a b c d L O k _ (HF.out.below HB0.out) (HO.out.below HB0.out)).mono ?_
 rintro e w1 ⟨v1,u1,rfl,A1,O1,D1⟩
 rw[hs0] at A1 O1
 obtain ⟨a1,c1',hv⟩:=A1.len
 subst hv
 obtain ⟨b1,d1,hv⟩:=O1.len
 subst hv
 have OFFA:Hid (∀q,(Value.slice a1 L.length c1').ownBlock=some q->q≠w1.heap.size):=fun q hq=>by have:=(World.ownsRow.lt A1 q hq).2;omega
 obtain ⟨W2,hW2⟩:∃W2,W2=w1.alloc (.cells #[Ii Jj k.day,Sl a1 L.length c1',Sl b1 O.length d1,Ii Jj k.inn,Ii Jj k.out,Ii Jj k.posted,Ii Jj k.missed] 38):=⟨_,rfl⟩
 have D2:Below w1.heap.size w1 W2:=by rw[hW2];exact (Below.refl _ _).alloc (Nf _) _
 have hs1:=D1.size
 have hs2:W2.heap.size=w1.heap.size+1:=by rw[hW2];simp
 have E2:Below W0.heap.size W0 W2:=D1.trans (D2.mono D1.size)
 have PX:Hid (bW W2 w1.heap.size (Sl a1 L.length c1') (Sl b1 O.length d1) k):=by
  show ak _ _ _ _ _ _ _ _ _;rw[hW2];exact ak.new w1 _ _ _ _ _ _ _ 38
 have P1:=aa (Z1.out.kept E2 (by omega))
 have P2:=aa (Z2.out.kept E2 (by omega))
 have P3:=aa (Z3.out.kept E2 (by omega))
 have PA:=aa (A1.kept D2)
 have PO:=aa (O1.kept D2)
 have PB:=aa (HB0.out.trans (E2.mono HB0.out.size))
 have HW2:=aa hW2
 clear hW2 D1 D2 E2 A1 O1 Z1 Z2 Z3 HB0
 obtain ⟨⟨c0,c1,c2,c3,c4,c5,c6,c7,c8,c9,c10,c11,c12,c13⟩,cz⟩:=P2.out
 go_upto_region 10 with fail
 rw[←HW2.out]
 clear HW2
 go_wp2_with fail
 refine (FORM.out _).mono ?_
 rintro e w3 ⟨rfl,E3⟩
 clear c0 c1 c2 c3 c4 c5 c6 c7 c8 c9 c10 c11 c12 c13 cz FORM
 replace P1:=aa (P1.out.kept E3 (by omega))
 replace P3:=aa (P3.out.kept E3 (by omega))
 replace P2:=aa (P2.out.kept E3 (by omega))
 replace PX:=aa (PX.out.kept E3 (by omega))
 replace PA:=aa (PA.out.kept E3)
 replace PO:=aa (PO.out.kept E3)
 replace PB:=aa (PB.out.trans (E3.mono PB.out.size))
 have hs3:w1.heap.size+1<=w3.heap.size:=by have:=E3.size;omega
 clear E3 hs2
 have hs3':(w.heap.size+1+1+1)<=w1.heap.size:=by omega
 clear hs1 hs0
 obtain ⟨⟨c0,c1,c2,c3,c4,c5,c6,c7,c8,c9,c10,c11,c12,c13⟩,cz⟩:=P2.out
 obtain ⟨⟨s0,s1,s2,s3,s4,s5,s6⟩,sf,sz⟩:=P1.out
 go_wp2_with fail
 refine (PL.out _ (HO.out.below PB.out)).mono ?_
 rintro e w4 ⟨rfl,E4⟩
 clear c0 c1 c2 c3 c4 c5 c6 c7 c8 c9 c10 c11 c12 c13 cz s0 s1 s2 s3 s4 s5 s6 sf sz PL
 replace P1:=aa (P1.out.kept E4 (by omega))
 replace P3:=aa (P3.out.kept E4 (by omega))
 replace P2:=aa (P2.out.kept E4 (by omega))
 replace PX:=aa (PX.out.kept E4 (by omega))
 replace PA:=aa (PA.out.kept E4)
 replace PO:=aa (PO.out.kept E4)
 replace PB:=aa (PB.out.trans (E4.mono PB.out.size))
 have hs4:=E4.size
 clear E4
 obtain rfl:=HBP.out
 clear HBP
 have HP1:Hid (∀V,Below w4.heap.size w4 V->bW V w.heap.size (Sl a L.length c) (Sl (some ⟨pb,po,none⟩) O.length d) k):=fun V h=>P1.out.kept h P1.out.2.2
 have HP2:Hid (∀V,Below w4.heap.size w4 V->fk V (w.heap.size+1) 20 x o n):=fun V h=>P2.out.kept h P2.out.2
 go_upto_region 5 with fail
 go_loopw[10] (fun vi wr=>∃i:Nat,i<=O.length/\vi=Ii Jj i/\Hid (∀t,t<i->(ae O t).id<o.id)/\Hid (Below w4.heap.size w4 wr)) (fun vi _=>O.length-(eH vi).toNat)
 case atStart=>exact ⟨0,Nat.zero_le _,rfl,fun j hj=>absurd hj (Nat.not_lt_zero _),Below.refl _ _⟩
 case round=>
  obtain ⟨i,hi',rfl,hno,hB⟩:=hrel
  obtain ⟨⟨s0,s1,s2,s3,s4,s5,s6⟩,sf,sz⟩:=HP1.out _ hB.out
  obtain ⟨⟨c0,c1,c2,c3,c4,c5,c6,c7,c8,c9,c10,c11,c12,c13⟩,cz⟩:=HP2.out _ hB.out
  by_cases hlt:i<O.length
  ·obtain ⟨pb',po',hpe,hpb,hAt⟩:=(HO.out.below (PB.out.trans (hB.out.mono PB.out.size))).acc hlt
   obtain ⟨rfl,rfl⟩:pb=pb'/\po=po':=by simpa using hpe
   obtain ⟨q0,q1,q2,q3,q4,q5,q6⟩:=hAt
   clear hpe
   by_cases hid:(ae O i).id<o.id
   ·have HN:Hid (∀t,t<i+1->(ae O t).id<o.id):=fun t ht=>by
     by_cases e:t=i
     ·subst e;exact hid
     ·exact hno.out t (by omega)
    have d1':decide ((i:Int)<(O.length:Int))=true:=by simp;omega
    have d2':decide ((ae O i).id<o.id)=true:=by simpa using hid
    have d3':(0:Int)<=(i:Int):=by omega
    have d4':(i:Int)<(O.length:Int):=by omega
    clear hid
    go_wp2
    go_quiet (fail)
    go_wp2
    go_roundw
    case rel=>exact ⟨i+1,by omega,by go_num,HN,⟨hB.out.os,hB.out.tape,hB.out.output,hB.out.size,hB.out.block⟩⟩
    case measure=>simp[eH];omega
   ·have HH:Hid (dN O o.id i i):=⟨hno.out,fun t h1 h2=>by
     by_cases e:t=i
     ·subst e;omega
     ·have:=dB HRO.out i t (by omega) h2
      omega⟩
    have d1':decide ((i:Int)<(O.length:Int))=true:=by simp;omega
    have d2':decide ((ae O i).id<o.id)=false:=by simp;omega
    have d3':(0:Int)<=(i:Int):=by omega
    have d4':(i:Int)<(O.length:Int):=by omega
    clear hid
    go_wp2
    go_quiet (fail)
    obtain ⟨w5,hw5⟩:∃w5,w5=wr.drewN nq:=⟨_,rfl⟩
    have B5:Hid (Below w4.heap.size w4 w5):=by show Below _ _ _;rw[hw5];exact ⟨hB.out.os,hB.out.tape,hB.out.output,hB.out.size,hB.out.block⟩
    rw[←hw5]
    clear hw5 hB s0 s1 s2 s3 s4 s5 s6 sf sz c0 c1 c2 c3 c4 c5 c6 c7 c8 c9 c10 c11 c12 c13 cz
    clear q0 q1 q2 q3 q4 q5 q6
    have HR:Hid (bd O o=O.take i++o::O.drop i):=by show bd O o=_;unfold bd;rw[jJ hi' HH.out]
    have hs5:=B5.out.size
    have hsrc:Hid (∀W,aG W (some ⟨pb,po,none⟩) O.length (ae O)->∀t u,((O.drop i).flatMap an)[t]? =some u->W.cell? ((⟨pb,po+i*7,none⟩:Addr).add t)=some u):=fun W hW t u hu=>it hW i t u hu
    have hOr:Hid (∀V,Below w4.heap.size w4 V->aG V (some ⟨pb,po,none⟩) O.length (ae O)):=fun V h=>HO.out.below (PB.out.trans (h.mono PB.out.size))
    have DA:Below w4.heap.size w4 (w5.alloc (.cells #[] 45)):=B5.out.alloc hs5 _
    have E0:Hid (ah (w5.alloc (.cells #[] 45)) w4.heap.size (Sl (some ⟨w5.heap.size,0,none⟩) 0 0) []):=ah.empty w5 _ hs5
    have HC1:Hid (∀j u,((O.take i).flatMap an)[j]? =some u->(w5.alloc (.cells #[] 45)).cell? ((⟨pb,po,none⟩:Addr).add j)=some u):=ir (hOr.out _ DA) i hi'
    have hsA:Hid (w4.heap.size<=(w5.alloc (.cells #[] 45)).heap.size):=by show w4.heap.size<=(w5.alloc (.cells #[] 45)).heap.size;simp;omega
    have hl1:Hid (((O.take i).flatMap an).length=i*7):=by show ((O.take i).flatMap an).length=i*7;rw[aA];simp;omega
    have hl2:Hid (((O.drop i).flatMap an).length=(O.length-i)*7):=by show ((O.drop i).flatMap an).length=_;rw[aA];simp
    have h63:Hid (0+i<=maxLen):=by show 0+i<=maxLen;unfold maxLen;omega
    have hby:Hid ((0+i)*56<=140737488355328):=by show (0+i)*56<=140737488355328;omega
    have h63b:Hid (i+1<=maxLen):=by show i+1<=maxLen;unfold maxLen;omega
    have hbyb:Hid ((i+1)*56<=140737488355328):=by show (i+1)*56<=140737488355328;omega
    have h63c:Hid (i+1+(O.length-i)<=maxLen):=by show i+1+(O.length-i)<=maxLen;unfold maxLen;omega
    have hbyc:Hid ((i+1+(O.length-i))*56<=140737488355328):=by show (i+1+(O.length-i))*56<=140737488355328;omega
    have AF1:Hid (∀v6 (w6:World),World.ownsRow w6 w4.heap.size 45 7 (v6) (0+i) ([]++(O.take i).flatMap an)->World.grownBy (w5.alloc (.cells #[] 45)) w6 (Value.slice (some ⟨w5.heap.size,0,none⟩) 0 0).ownBlock->∃a6 c6,v6=Sl a6 i c6/\World.ownsRow (w6.alloc (.cells #[Ii Jj o.id,Ii Jj o.src,Ii Jj o.dst,Ii Jj o.amount,Ii Jj o.first,Ii Jj o.every,Ii Jj o.times] 45)) w4.heap.size 45 7 (Sl a6 i c6) (i) ((O.take i).flatMap an)/\Below w4.heap.size w4 w6/\Below w4.heap.size w4 (w6.alloc (.cells #[Ii Jj o.id,Ii Jj o.src,Ii Jj o.dst,Ii Jj o.amount,Ii Jj o.first,Ii Jj o.every,Ii Jj o.times] 45))/\(∀j u,(an o)[j]? =some u->(w6.alloc (.cells #[Ii Jj o.id,Ii Jj o.src,Ii Jj o.dst,Ii Jj o.amount,Ii Jj o.first,Ii Jj o.every,Ii Jj o.times] 45)).cell? ((⟨w6.heap.size,0,none⟩:Addr).add j)=some u)):=by
     intro v6 w6 hown hgrow
     rw[Nat.zero_add,List.nil_append] at hown
     have D6:Below w4.heap.size w4 w6:=DA.grown hgrow DA.size (fun j hj=>by simp[Value.ownBlock] at hj;omega)
     obtain ⟨a6,c6,rfl⟩:=fs hown
     refine ⟨a6,c6,rfl,World.ownsRow.kept hown (World.grownBy_alloc w6 _ none) (by cases (Value.slice a6 i c6).ownBlock <;>simp),D6,D6.alloc D6.size _,?_⟩
     intro j u hj
     exact ee.cell (x:=o) (vb:=w6.heap.size) (by unfold ee;show (w6.heap.push _)[w6.heap.size]? =_;simp;rfl) j u hj
    have AF2:Hid (∀a6 c6 (w6:World) v7 (w7:World),World.ownsRow (w6.alloc (.cells #[Ii Jj o.id,Ii Jj o.src,Ii Jj o.dst,Ii Jj o.amount,Ii Jj o.first,Ii Jj o.every,Ii Jj o.times] 45)) w4.heap.size 45 7 (Sl a6 i c6) (i) ((O.take i).flatMap an)->Below w4.heap.size w4 (w6.alloc (.cells #[Ii Jj o.id,Ii Jj o.src,Ii Jj o.dst,Ii Jj o.amount,Ii Jj o.first,Ii Jj o.every,Ii Jj o.times] 45))->World.ownsRow w7 w4.heap.size 45 7 (v7) (i+1) ((O.take i).flatMap an++an o)->World.grownBy (w6.alloc (.cells #[Ii Jj o.id,Ii Jj o.src,Ii Jj o.dst,Ii Jj o.amount,Ii Jj o.first,Ii Jj o.every,Ii Jj o.times] 45)) w7 (Value.slice a6 i c6).ownBlock->∃a7 c7,v7=Sl a7 (i+1) c7/\World.ownsRow w7 w4.heap.size 45 7 (Sl a7 (i+1) c7) (i+1) ((O.take i).flatMap an++an o)/\Below w4.heap.size w4 w7):=by
     intro a6 c6 w6 v7 w7 h6 B6 hown hgrow
     obtain ⟨a7,c7,rfl⟩:=fs hown
     exact ⟨a7,c7,rfl,hown,B6.grown hgrow B6.size (fun q hq=>(World.ownsRow.lt h6 q hq).1)⟩
    have AF3:Hid (∀a7 c7 (w7:World) v8 (w8:World),World.ownsRow w7 w4.heap.size 45 7 (Sl a7 (i+1) c7) (i+1) ((O.take i).flatMap an++an o)->Below w4.heap.size w4 w7->World.ownsRow w8 w4.heap.size 45 7 (v8) (i+1+(O.length-i)) ((O.take i).flatMap an++an o++(O.drop i).flatMap an)->World.grownBy w7 w8 (Value.slice a7 (i+1) c7).ownBlock->∃a8 c8,v8=Sl a8 (bd O o).length c8/\ah w8 w4.heap.size (Sl a8 (bd O o).length c8) (bd O o)/\Below w4.heap.size w4 w8):=by
     intro a7 c7 w7 v8 w8 h7 B7 hown hgrow
     have D8:Below w4.heap.size w4 w8:=B7.grown hgrow B7.size (fun q hq=>(World.ownsRow.lt h7 q hq).1)
     have O8:ah w8 w4.heap.size v8 (bd O o):=by
      unfold ah
      rw[HR.out]
      have hlen:(O.take i++o::O.drop i).length=i+1+(O.length-i):=by simp;omega
      rw[hlen,List.flatMap_append,List.flatMap_cons,←List.append_assoc]
      exact hown
     obtain ⟨a8,c8,rfl⟩:=O8.len
     exact ⟨a8,c8,rfl,O8,D8⟩
    have HPX:Hid (∀V,Below w4.heap.size w4 V->bW V w1.heap.size (Sl a1 L.length c1') (Sl b1 O.length d1) k):=fun V h=>PX.out.kept h PX.out.2.2
    obtain ⟨⟨s0,s1,s2,s3,s4,s5,s6⟩,sf,sz⟩:=HP1.out _ B5.out
    have b0:(0:Int)<=(i:Int):=by omega
    have b1':(i:Int)<=(d:Int):=by omega
    have b4:(i:Int)<=(O.length:Int):=by omega
    have b8:(O.length:Int)<=(d:Int):=by omega
    have hrd:i<=d:=by omega
    have hs4':w1.heap.size<w4.heap.size:=by omega
    have m1:w.heap.size<w5.heap.size:=by omega
    clear DA
    go_upto_region 27 with (first
     | (at_builtin;refine wpList_append_own _ rfl _ _ 36 rfl w4.heap.size 45 i0 _ 7 56 Tryz.underlying36 hi hz0 hz1 hz2 rfl (by decide) _ _ _ rfl E0.out ⟨pb,po,none⟩ i d ((O.take i).flatMap an) rfl hl1.out HC1.out (cL _) h63.out hby.out hsA.out ?_;intro v6 w6 hown hgrow hnn;obtain ⟨a6,q6c,rfl,O6,B6,B6a,N6⟩:=AF1.out v6 w6 hown hgrow;clear hown hgrow hnn s0 s1 s2 s3 s4 s5 s6 sf sz;obtain ⟨⟨c0,c1,c2,c3,c4,c5,c6,c7,c8,c9,c10,c11,c12,c13⟩,cz⟩:=HP2.out _ B6;have m2:w.heap.size<w6.heap.size:=(HP1.out _ B6).2.2;have m3:w.heap.size+1<w6.heap.size:=cz)
     | (at_builtin;refine wpList_append_own _ rfl _ _ 36 rfl w4.heap.size 45 i0 _ 7 56 Tryz.underlying36 hi hz0 hz1 hz2 rfl (by decide) _ _ _ rfl O6 ⟨w6.heap.size,0,none⟩ 1 1 (an o) rfl rfl N6 (fm o) h63b.out hbyb.out B6a.size ?_;intro v7 w7 hown hgrow hnn;obtain ⟨a7,q7c,rfl,O7,B7⟩:=AF2.out a6 q6c w6 v7 w7 O6 B6a hown hgrow;clear hown hgrow hnn c0 c1 c2 c3 c4 c5 c6 c7 c8 c9 c10 c11 c12 c13 cz;obtain ⟨⟨s0,s1,s2,s3,s4,s5,s6⟩,sf,sz⟩:=HP1.out _ B7)
     | (at_builtin;refine wpList_append_own _ rfl _ _ 36 rfl w4.heap.size 45 i0 _ 7 56 Tryz.underlying36 hi hz0 hz1 hz2 rfl (by decide) _ _ _ rfl O7 ⟨pb,po+i*7,none⟩ (O.length-i) (d-i) ((O.drop i).flatMap an) rfl hl2.out (hsrc.out w7 (hOr.out w7 B7)) (cL _) h63c.out hbyc.out B7.size ?_;intro v8 w8 hown hgrow hnn;obtain ⟨a8,q8c,rfl,O8,B8⟩:=AF3.out a7 q7c w7 v8 w8 O7 B7 hown hgrow;clear hown hgrow hnn s0 s1 s2 s3 s4 s5 s6 sf sz;obtain ⟨⟨x0,x1,x2,x3,x4,x5,x6⟩,xf,xz⟩:=HPX.out w8 B8))
    obtain ⟨V9,hV9⟩:∃V9,V9=w8.setCell ⟨w1.heap.size,2,none⟩ (Sl a8 (bd O o).length q8c):=⟨_,rfl⟩
    have hz9:V9.heap.size=w8.heap.size:=by rw[hV9];simp[World.setCell]
    have hs8:=B8.size
    have XT:Hid (bW V9 w1.heap.size (Sl a1 L.length c1') (Sl a8 (bd O o).length q8c) k):=by show ak _ _ _ _ _ _ _ _ _;rw[hV9];exact (PX.out.kept B8 PX.out.2.2).set2 _
    have AT:Hid (AL V9 (w.heap.size+1+1+1) (Sl a1 L.length c1') L):=by show AL _ _ _ _;rw[hV9];exact (PA.out.kept B8).off OFFA.out _ _
    have OT:Hid (ah V9 (w.heap.size+1+1+1) (Sl a8 (bd O o).length q8c) (bd O o)):=by
     show ah _ _ _ _;rw[hV9]
     exact ah.mono (O8.far hs4' _ _) (by omega)
    have P1':Hid (bW V9 w.heap.size (Sl a L.length c) (Sl (some ⟨pb,po,none⟩) O.length d) k):=by show ak _ _ _ _ _ _ _ _ _;rw[hV9];exact (P1.out.kept B8 P1.out.2.2).far (by omega) _ _
    have P3':Hid (fu V9 (w.heap.size+1+1)):=by show ak _ _ _ _ _ _ _ _ _;rw[hV9];exact (P3.out.kept B8 P3.out.2.2).far (by omega) _ _
    have PB':Hid (Below w.heap.size w V9):=by show Below _ _ _;rw[hV9];exact ai (PB.out.trans (B8.mono PB.out.size)) (by omega) _ _
    rw[←hV9]
    clear hV9 O6 O7 O8 B6 B6a B7 B8 N6 x0 x1 x2 x3 x4 x5 x6 xf xz PX PA PO P1 P2 P3 PB E0 HC1 AF1 AF2 AF3 HPX HP1 HP2 B5
    have P1:=P1'
    have P3:=P3'
    have PB:=PB'
    clear P1' P3' PB'
    have BNK:Hid (Calls Pg 31 #[.agg #[Ii Jj (k.day),Sl a1 L.length c1',Sl a8 (bd O o).length q8c,Ii Jj (k.inn),Ii Jj (k.out),Ii Jj (k.posted),Ii Jj (k.missed)]] V9 fun e w'=>af e (Rn.mk 0 L (bd O o) k).ok/\Below V9.heap.size V9 w'):=by
     have:=ck a1 a8 (L.length) c1' ((bd O o).length) q8c (FL L) (ae (bd O o)) k V9 (AT.out.fo (by omega)).2 (OT.out.list (by omega)).2
     exact this
    obtain ⟨⟨x0,x1,x2,x3,x4,x5,x6⟩,xf,xz⟩:=XT.out
    go_wp2_with fail
    refine BNK.out.mono ?_
    rintro e w8 ⟨⟨bb,rfl,hb1,hb2⟩,B8⟩
    have hs8:=B8.size
    clear x0 x1 x2 x3 x4 x5 x6 xf xz
    have XT':=aa (XT.out.kept B8 XT.out.2.2)
    have AT':=aa (AT.out.kept B8)
    have OT':=aa (OT.out.kept B8)
    have P1':=aa (P1.out.kept B8 P1.out.2.2)
    have P3':=aa (P3.out.kept B8 P3.out.2.2)
    have PB':=aa (PB.out.trans (B8.mono PB.out.size))
    clear XT AT OT P1 P3 PB B8 BNK
    have P1:=P1'
    have P3:=P3'
    have PB:=PB'
    clear P1' P3' PB'
    cases bb with
    | true=>
     have HN:Hid ((Rn.mk 0 L (bd O o) k).ok):=hb1 rfl
     obtain ⟨⟨x0,x1,x2,x3,x4,x5,x6⟩,xf,xz⟩:=XT'.out
     obtain ⟨⟨r0,r1,r2,r3,r4,r5,r6⟩,rf,rz⟩:=P3.out
     clear hb1 hb2
     go_wp2
     refine bodyPost_ret (v:=.tuple #[.agg #[Ii Jj (k.day),Sl a1 L.length c1',Sl a8 (bd O o).length q8c,Ii Jj (k.inn),Ii Jj (k.out),Ii Jj (k.posted),Ii Jj (k.missed)],Ii Jj 0]) (by simp[results,Tryz.results84,go_sem,r0,r1,r2,r3,r4,r5,r6]) rfl ?_
     rw[dQ (q:=(Rn.mk 0 L (bd O o) k)) rfl HN.out]
     refine ⟨Sl a1 L.length c1',Sl a8 (bd O o).length q8c,?_,?_,?_,?_⟩
     ·rfl
     ·refine AL.mono (B:=(w.heap.size+1+1+1)) ?_ (by omega)
      repeat (refine AL.far ?_ (by omega) _ _)
      exact AT'.out
     ·refine ah.mono (B:=(w.heap.size+1+1+1)) ?_ (by omega)
      repeat (refine ah.far ?_ (by omega) _ _)
      exact OT'.out
     ·repeat (refine ai ?_ (by omega) _ _)
      exact PB.out
    | false=>
     have HN:Hid (¬(Rn.mk 0 L (bd O o) k).ok):=hb2 rfl
     have HFIN:Hid (cG L O k (Rn.mk 0 L (bd O o) k)=⟨7,L,O,k⟩):=dl (q:=(Rn.mk 0 L (bd O o) k)) rfl HN.out
     clear hb1 hb2 XT' AT' OT'
     obtain ⟨⟨s0,s1,s2,s3,s4,s5,s6⟩,sf,sz⟩:=P1.out
     go_wp2_with fail
     refine (aC _ _ c d L O k _ (HF.out.below PB.out) (HO.out.below PB.out)).mono ?_
     rintro e w9 ⟨v9,u9,rfl,A9,O9,B9⟩
     obtain ⟨a9,c9,hv⟩:=A9.len
     subst hv
     obtain ⟨b9,d9,hv⟩:=O9.len
     subst hv
     clear s0 s1 s2 s3 s4 s5 s6 sf sz
     have hs9:w.heap.size+1+1<w8.heap.size:=P3.out.2.2
     obtain ⟨⟨r0,r1,r2,r3,r4,r5,r6⟩,rf,rz⟩:=P3.out.kept B9 hs9
     have HA9:=aa A9
     have HO9:=aa O9
     have HB9:=aa (PB.out.trans (B9.mono PB.out.size))
     clear A9 O9 B9 P1 P3 PB
     go_wp2
     refine bodyPost_ret (v:=.tuple #[.agg #[Ii Jj (k.day),Sl a9 L.length c9,Sl b9 O.length d9,Ii Jj (k.inn),Ii Jj (k.out),Ii Jj (k.posted),Ii Jj (k.missed)],Ii Jj 7]) (by simp[results,Tryz.results84,go_sem,r0,r1,r2,r3,r4,r5,r6]) rfl ?_
     rw[HFIN.out]
     refine ⟨_,_,rfl,?_,?_,?_⟩
     ·refine AL.mono (B:=w8.heap.size) ?_ (by omega)
      repeat (refine AL.far ?_ hs9 _ _)
      exact HA9.out
     ·refine ah.mono (B:=w8.heap.size) ?_ (by omega)
      repeat (refine ah.far ?_ hs9 _ _)
      exact HO9.out
     ·repeat (refine ai ?_ (by omega) _ _)
      exact HB9.out
  ·have hii:i=O.length:=by omega
   have HH:Hid (dN O o.id i i):=⟨hno.out,fun t h1 h2=>by omega⟩
   clear hii
   have d1':decide ((i:Int)<(O.length:Int))=false:=by simp;omega
   go_wp2
   go_quiet (fail)
   obtain ⟨w5,hw5⟩:∃w5,w5=wr.drewN nq:=⟨_,rfl⟩
   have B5:Hid (Below w4.heap.size w4 w5):=by show Below _ _ _;rw[hw5];exact ⟨hB.out.os,hB.out.tape,hB.out.output,hB.out.size,hB.out.block⟩
   rw[←hw5]
   clear hw5 hB s0 s1 s2 s3 s4 s5 s6 sf sz c0 c1 c2 c3 c4 c5 c6 c7 c8 c9 c10 c11 c12 c13 cz
   have HR:Hid (bd O o=O.take i++o::O.drop i):=by show bd O o=_;unfold bd;rw[jJ hi' HH.out]
   have hs5:=B5.out.size
   obtain ⟨A,hA,hsrc⟩:∃A:Addr,(if d=i then some (⟨pb,po,none⟩:Addr) else some ⟨pb,po+i*7,none⟩)=some A/\Hid (∀W,aG W (some ⟨pb,po,none⟩) O.length (ae O)->∀t u,((O.drop i).flatMap an)[t]? =some u->W.cell? (A.add t)=some u):=by
    by_cases e:d=i
    ·refine ⟨⟨pb,po,none⟩,by simp[e],fun W hW t u hu=>?_⟩
     rw[List.drop_of_length_le (by omega)] at hu
     simp at hu
    ·exact ⟨⟨pb,po+i*7,none⟩,by simp[e],fun W hW t u hu=>it hW i t u hu⟩
   have hOr:Hid (∀V,Below w4.heap.size w4 V->aG V (some ⟨pb,po,none⟩) O.length (ae O)):=fun V h=>HO.out.below (PB.out.trans (h.mono PB.out.size))
   have DA:Below w4.heap.size w4 (w5.alloc (.cells #[] 45)):=B5.out.alloc hs5 _
   have E0:Hid (ah (w5.alloc (.cells #[] 45)) w4.heap.size (Sl (some ⟨w5.heap.size,0,none⟩) 0 0) []):=ah.empty w5 _ hs5
   have HC1:Hid (∀j u,((O.take i).flatMap an)[j]? =some u->(w5.alloc (.cells #[] 45)).cell? ((⟨pb,po,none⟩:Addr).add j)=some u):=ir (hOr.out _ DA) i hi'
   have hsA:Hid (w4.heap.size<=(w5.alloc (.cells #[] 45)).heap.size):=by show w4.heap.size<=(w5.alloc (.cells #[] 45)).heap.size;simp;omega
   have hl1:Hid (((O.take i).flatMap an).length=i*7):=by show ((O.take i).flatMap an).length=i*7;rw[aA];simp;omega
   have hl2:Hid (((O.drop i).flatMap an).length=(O.length-i)*7):=by show ((O.drop i).flatMap an).length=_;rw[aA];simp
   have h63:Hid (0+i<=maxLen):=by show 0+i<=maxLen;unfold maxLen;omega
   have hby:Hid ((0+i)*56<=140737488355328):=by show (0+i)*56<=140737488355328;omega
   have h63b:Hid (i+1<=maxLen):=by show i+1<=maxLen;unfold maxLen;omega
   have hbyb:Hid ((i+1)*56<=140737488355328):=by show (i+1)*56<=140737488355328;omega
   have h63c:Hid (i+1+(O.length-i)<=maxLen):=by show i+1+(O.length-i)<=maxLen;unfold maxLen;omega
   have hbyc:Hid ((i+1+(O.length-i))*56<=140737488355328):=by show (i+1+(O.length-i))*56<=140737488355328;omega
   have AF1:Hid (∀v6 (w6:World),World.ownsRow w6 w4.heap.size 45 7 (v6) (0+i) ([]++(O.take i).flatMap an)->World.grownBy (w5.alloc (.cells #[] 45)) w6 (Value.slice (some ⟨w5.heap.size,0,none⟩) 0 0).ownBlock->∃a6 c6,v6=Sl a6 i c6/\World.ownsRow (w6.alloc (.cells #[Ii Jj o.id,Ii Jj o.src,Ii Jj o.dst,Ii Jj o.amount,Ii Jj o.first,Ii Jj o.every,Ii Jj o.times] 45)) w4.heap.size 45 7 (Sl a6 i c6) (i) ((O.take i).flatMap an)/\Below w4.heap.size w4 w6/\Below w4.heap.size w4 (w6.alloc (.cells #[Ii Jj o.id,Ii Jj o.src,Ii Jj o.dst,Ii Jj o.amount,Ii Jj o.first,Ii Jj o.every,Ii Jj o.times] 45))/\(∀j u,(an o)[j]? =some u->(w6.alloc (.cells #[Ii Jj o.id,Ii Jj o.src,Ii Jj o.dst,Ii Jj o.amount,Ii Jj o.first,Ii Jj o.every,Ii Jj o.times] 45)).cell? ((⟨w6.heap.size,0,none⟩:Addr).add j)=some u)):=by
    intro v6 w6 hown hgrow
    rw[Nat.zero_add,List.nil_append] at hown
    have D6:Below w4.heap.size w4 w6:=DA.grown hgrow DA.size (fun j hj=>by simp[Value.ownBlock] at hj;omega)
    obtain ⟨a6,c6,rfl⟩:=fs hown
    refine ⟨a6,c6,rfl,World.ownsRow.kept hown (World.grownBy_alloc w6 _ none) (by cases (Value.slice a6 i c6).ownBlock <;>simp),D6,D6.alloc D6.size _,?_⟩
    intro j u hj
    exact ee.cell (x:=o) (vb:=w6.heap.size) (by unfold ee;show (w6.heap.push _)[w6.heap.size]? =_;simp;rfl) j u hj
   have AF2:Hid (∀a6 c6 (w6:World) v7 (w7:World),World.ownsRow (w6.alloc (.cells #[Ii Jj o.id,Ii Jj o.src,Ii Jj o.dst,Ii Jj o.amount,Ii Jj o.first,Ii Jj o.every,Ii Jj o.times] 45)) w4.heap.size 45 7 (Sl a6 i c6) (i) ((O.take i).flatMap an)->Below w4.heap.size w4 (w6.alloc (.cells #[Ii Jj o.id,Ii Jj o.src,Ii Jj o.dst,Ii Jj o.amount,Ii Jj o.first,Ii Jj o.every,Ii Jj o.times] 45))->World.ownsRow w7 w4.heap.size 45 7 (v7) (i+1) ((O.take i).flatMap an++an o)->World.grownBy (w6.alloc (.cells #[Ii Jj o.id,Ii Jj o.src,Ii Jj o.dst,Ii Jj o.amount,Ii Jj o.first,Ii Jj o.every,Ii Jj o.times] 45)) w7 (Value.slice a6 i c6).ownBlock->∃a7 c7,v7=Sl a7 (i+1) c7/\World.ownsRow w7 w4.heap.size 45 7 (Sl a7 (i+1) c7) (i+1) ((O.take i).flatMap an++an o)/\Below w4.heap.size w4 w7):=by
    intro a6 c6 w6 v7 w7 h6 B6 hown hgrow
    obtain ⟨a7,c7,rfl⟩:=fs hown
    exact ⟨a7,c7,rfl,hown,B6.grown hgrow B6.size (fun q hq=>(World.ownsRow.lt h6 q hq).1)⟩
   have AF3:Hid (∀a7 c7 (w7:World) v8 (w8:World),World.ownsRow w7 w4.heap.size 45 7 (Sl a7 (i+1) c7) (i+1) ((O.take i).flatMap an++an o)->Below w4.heap.size w4 w7->World.ownsRow w8 w4.heap.size 45 7 (v8) (i+1+(O.length-i)) ((O.take i).flatMap an++an o++(O.drop i).flatMap an)->World.grownBy w7 w8 (Value.slice a7 (i+1) c7).ownBlock->∃a8 c8,v8=Sl a8 (bd O o).length c8/\ah w8 w4.heap.size (Sl a8 (bd O o).length c8) (bd O o)/\Below w4.heap.size w4 w8):=by
    intro a7 c7 w7 v8 w8 h7 B7 hown hgrow
    have D8:Below w4.heap.size w4 w8:=B7.grown hgrow B7.size (fun q hq=>(World.ownsRow.lt h7 q hq).1)
    have O8:ah w8 w4.heap.size v8 (bd O o):=by
     unfold ah
     rw[HR.out]
     have hlen:(O.take i++o::O.drop i).length=i+1+(O.length-i):=by simp;omega
     rw[hlen,List.flatMap_append,List.flatMap_cons,←List.append_assoc]
     exact hown
    obtain ⟨a8,c8,rfl⟩:=O8.len
    exact ⟨a8,c8,rfl,O8,D8⟩
   have HPX:Hid (∀V,Below w4.heap.size w4 V->bW V w1.heap.size (Sl a1 L.length c1') (Sl b1 O.length d1) k):=fun V h=>PX.out.kept h PX.out.2.2
   obtain ⟨⟨s0,s1,s2,s3,s4,s5,s6⟩,sf,sz⟩:=HP1.out _ B5.out
   have b0:(0:Int)<=(i:Int):=by omega
   have b1':(i:Int)<=(d:Int):=by omega
   have b4:(i:Int)<=(O.length:Int):=by omega
   have b8:(O.length:Int)<=(d:Int):=by omega
   have hrd:i<=d:=by omega
   have hs4':w1.heap.size<w4.heap.size:=by omega
   have m1:w.heap.size<w5.heap.size:=by omega
   clear DA
   go_upto_region 27 with (first
    | (at_builtin;refine wpList_append_own _ rfl _ _ 36 rfl w4.heap.size 45 i0 _ 7 56 Tryz.underlying36 hi hz0 hz1 hz2 rfl (by decide) _ _ _ rfl E0.out ⟨pb,po,none⟩ i d ((O.take i).flatMap an) rfl hl1.out HC1.out (cL _) h63.out hby.out hsA.out ?_;intro v6 w6 hown hgrow hnn;obtain ⟨a6,q6c,rfl,O6,B6,B6a,N6⟩:=AF1.out v6 w6 hown hgrow;clear hown hgrow hnn s0 s1 s2 s3 s4 s5 s6 sf sz;obtain ⟨⟨c0,c1,c2,c3,c4,c5,c6,c7,c8,c9,c10,c11,c12,c13⟩,cz⟩:=HP2.out _ B6;have m2:w.heap.size<w6.heap.size:=(HP1.out _ B6).2.2;have m3:w.heap.size+1<w6.heap.size:=cz)
    | (at_builtin;refine wpList_append_own _ rfl _ _ 36 rfl w4.heap.size 45 i0 _ 7 56 Tryz.underlying36 hi hz0 hz1 hz2 rfl (by decide) _ _ _ rfl O6 ⟨w6.heap.size,0,none⟩ 1 1 (an o) rfl rfl N6 (fm o) h63b.out hbyb.out B6a.size ?_;intro v7 w7 hown hgrow hnn;obtain ⟨a7,q7c,rfl,O7,B7⟩:=AF2.out a6 q6c w6 v7 w7 O6 B6a hown hgrow;clear hown hgrow hnn c0 c1 c2 c3 c4 c5 c6 c7 c8 c9 c10 c11 c12 c13 cz;obtain ⟨⟨s0,s1,s2,s3,s4,s5,s6⟩,sf,sz⟩:=HP1.out _ B7)
    | (at_builtin;refine wpList_append_own _ rfl _ _ 36 rfl w4.heap.size 45 i0 _ 7 56 Tryz.underlying36 hi hz0 hz1 hz2 rfl (by decide) _ _ _ rfl O7 A (O.length-i) (d-i) ((O.drop i).flatMap an) rfl hl2.out (hsrc.out w7 (hOr.out w7 B7)) (cL _) h63c.out hbyc.out B7.size ?_;intro v8 w8 hown hgrow hnn;obtain ⟨a8,q8c,rfl,O8,B8⟩:=AF3.out a7 q7c w7 v8 w8 O7 B7 hown hgrow;clear hown hgrow hnn s0 s1 s2 s3 s4 s5 s6 sf sz;obtain ⟨⟨x0,x1,x2,x3,x4,x5,x6⟩,xf,xz⟩:=HPX.out w8 B8))
   obtain ⟨V9,hV9⟩:∃V9,V9=w8.setCell ⟨w1.heap.size,2,none⟩ (Sl a8 (bd O o).length q8c):=⟨_,rfl⟩
   have hz9:V9.heap.size=w8.heap.size:=by rw[hV9];simp[World.setCell]
   have hs8:=B8.size
   have XT:Hid (bW V9 w1.heap.size (Sl a1 L.length c1') (Sl a8 (bd O o).length q8c) k):=by show ak _ _ _ _ _ _ _ _ _;rw[hV9];exact (PX.out.kept B8 PX.out.2.2).set2 _
   have AT:Hid (AL V9 (w.heap.size+1+1+1) (Sl a1 L.length c1') L):=by show AL _ _ _ _;rw[hV9];exact (PA.out.kept B8).off OFFA.out _ _
   have OT:Hid (ah V9 (w.heap.size+1+1+1) (Sl a8 (bd O o).length q8c) (bd O o)):=by
    show ah _ _ _ _;rw[hV9]
    exact ah.mono (O8.far hs4' _ _) (by omega)
   have P1':Hid (bW V9 w.heap.size (Sl a L.length c) (Sl (some ⟨pb,po,none⟩) O.length d) k):=by show ak _ _ _ _ _ _ _ _ _;rw[hV9];exact (P1.out.kept B8 P1.out.2.2).far (by omega) _ _
   have P3':Hid (fu V9 (w.heap.size+1+1)):=by show ak _ _ _ _ _ _ _ _ _;rw[hV9];exact (P3.out.kept B8 P3.out.2.2).far (by omega) _ _
   have PB':Hid (Below w.heap.size w V9):=by show Below _ _ _;rw[hV9];exact ai (PB.out.trans (B8.mono PB.out.size)) (by omega) _ _
   rw[←hV9]
   clear hV9 O6 O7 O8 B6 B6a B7 B8 N6 x0 x1 x2 x3 x4 x5 x6 xf xz PX PA PO P1 P2 P3 PB E0 HC1 AF1 AF2 AF3 HPX HP1 HP2 B5
   have P1:=P1'
   have P3:=P3'
   have PB:=PB'
   clear P1' P3' PB'
   have BNK:Hid (Calls Pg 31 #[.agg #[Ii Jj (k.day),Sl a1 L.length c1',Sl a8 (bd O o).length q8c,Ii Jj (k.inn),Ii Jj (k.out),Ii Jj (k.posted),Ii Jj (k.missed)]] V9 fun e w'=>af e (Rn.mk 0 L (bd O o) k).ok/\Below V9.heap.size V9 w'):=by
    have:=ck a1 a8 (L.length) c1' ((bd O o).length) q8c (FL L) (ae (bd O o)) k V9 (AT.out.fo (by omega)).2 (OT.out.list (by omega)).2
    exact this
   obtain ⟨⟨x0,x1,x2,x3,x4,x5,x6⟩,xf,xz⟩:=XT.out
   go_wp2_with fail
   refine BNK.out.mono ?_
   rintro e w8 ⟨⟨bb,rfl,hb1,hb2⟩,B8⟩
   have hs8:=B8.size
   clear x0 x1 x2 x3 x4 x5 x6 xf xz
   have XT':=aa (XT.out.kept B8 XT.out.2.2)
   have AT':=aa (AT.out.kept B8)
   have OT':=aa (OT.out.kept B8)
   have P1':=aa (P1.out.kept B8 P1.out.2.2)
   have P3':=aa (P3.out.kept B8 P3.out.2.2)
   have PB':=aa (PB.out.trans (B8.mono PB.out.size))
   clear XT AT OT P1 P3 PB B8 BNK
   have P1:=P1'
   have P3:=P3'
   have PB:=PB'
   clear P1' P3' PB'
   cases bb with
   | true=>
    have HN:Hid ((Rn.mk 0 L (bd O o) k).ok):=hb1 rfl
    obtain ⟨⟨x0,x1,x2,x3,x4,x5,x6⟩,xf,xz⟩:=XT'.out
    obtain ⟨⟨r0,r1,r2,r3,r4,r5,r6⟩,rf,rz⟩:=P3.out
    clear hb1 hb2
    go_wp2
    refine bodyPost_ret (v:=.tuple #[.agg #[Ii Jj (k.day),Sl a1 L.length c1',Sl a8 (bd O o).length q8c,Ii Jj (k.inn),Ii Jj (k.out),Ii Jj (k.posted),Ii Jj (k.missed)],Ii Jj 0]) (by simp[results,Tryz.results84,go_sem,r0,r1,r2,r3,r4,r5,r6]) rfl ?_
    rw[dQ (q:=(Rn.mk 0 L (bd O o) k)) rfl HN.out]
    refine ⟨Sl a1 L.length c1',Sl a8 (bd O o).length q8c,?_,?_,?_,?_⟩
    ·rfl
    ·refine AL.mono (B:=(w.heap.size+1+1+1)) ?_ (by omega)
     repeat (refine AL.far ?_ (by omega) _ _)
     exact AT'.out
    ·refine ah.mono (B:=(w.heap.size+1+1+1)) ?_ (by omega)
     repeat (refine ah.far ?_ (by omega) _ _)
     exact OT'.out
    ·repeat (refine ai ?_ (by omega) _ _)
     exact PB.out
   | false=>
    have HN:Hid (¬(Rn.mk 0 L (bd O o) k).ok):=hb2 rfl
    have HFIN:Hid (cG L O k (Rn.mk 0 L (bd O o) k)=⟨7,L,O,k⟩):=dl (q:=(Rn.mk 0 L (bd O o) k)) rfl HN.out
    clear hb1 hb2 XT' AT' OT'
    obtain ⟨⟨s0,s1,s2,s3,s4,s5,s6⟩,sf,sz⟩:=P1.out
    go_wp2_with fail
    refine (aC _ _ c d L O k _ (HF.out.below PB.out) (HO.out.below PB.out)).mono ?_
    rintro e w9 ⟨v9,u9,rfl,A9,O9,B9⟩
    obtain ⟨a9,c9,hv⟩:=A9.len
    subst hv
    obtain ⟨b9,d9,hv⟩:=O9.len
    subst hv
    clear s0 s1 s2 s3 s4 s5 s6 sf sz
    have hs9:w.heap.size+1+1<w8.heap.size:=P3.out.2.2
    obtain ⟨⟨r0,r1,r2,r3,r4,r5,r6⟩,rf,rz⟩:=P3.out.kept B9 hs9
    have HA9:=aa A9
    have HO9:=aa O9
    have HB9:=aa (PB.out.trans (B9.mono PB.out.size))
    clear A9 O9 B9 P1 P3 PB
    go_wp2
    refine bodyPost_ret (v:=.tuple #[.agg #[Ii Jj (k.day),Sl a9 L.length c9,Sl b9 O.length d9,Ii Jj (k.inn),Ii Jj (k.out),Ii Jj (k.posted),Ii Jj (k.missed)],Ii Jj 7]) (by simp[results,Tryz.results84,go_sem,r0,r1,r2,r3,r4,r5,r6]) rfl ?_
    rw[HFIN.out]
    refine ⟨_,_,rfl,?_,?_,?_⟩
    ·refine AL.mono (B:=w8.heap.size) ?_ (by omega)
     repeat (refine AL.far ?_ hs9 _ _)
     exact HA9.out
    ·refine ah.mono (B:=w8.heap.size) ?_ (by omega)
     repeat (refine ah.far ?_ hs9 _ _)
     exact HO9.out
    ·repeat (refine ai ?_ (by omega) _ _)
     exact HB9.out
open Go.RowKit
set_option maxRecDepth 8000
set_option linter.unusedVariables false
theorem nT (a b:Option Addr) (c d:Nat) (L:List aj) (O:List au) (k:Bk) (K n:Int) (x:cV) (o:au) (w:World) (hF:Fo w a L.length (FL L)) (hO:aG w b O.length (ae O)) (hb:¬aq (FL L) L.length (ae O) O.length k):
  Calls Pg 30 #[.agg #[Ii Jj k.day,Sl a L.length c,Sl b O.length d,Ii Jj k.inn,Ii Jj k.out,Ii Jj k.posted,Ii Jj k.missed],.agg #[Ii Jj K,Ii Jj x.k,Ii Jj x.i,Ii Jj x.t,Ii Jj x.m,Ii Jj x.r,Ii Jj o.id,Ii Jj o.src,Ii Jj o.dst,Ii Jj o.amount,Ii Jj o.first,Ii Jj o.every,Ii Jj o.times,Ii Jj n]] w fun e w'=>ch ⟨1,[],[],⟨0,0,0,0,0⟩⟩ w e w':=by
 have HBad:=aa hb
 clear hb
 have HF:=aa hF
 have HO:=aa hO
 obtain ⟨W0,hW0,hs0,b0,z1,z2,z3⟩:=bY a b c d L O k K n x o w
 have HW0:=aa hW0
 have HB0:=aa b0
 have Z1:=aa z1
 have Z2:=aa z2
 have Z3:=aa z3
 clear hW0 b0 z1 z2 z3 hF hO
 go_enter Tryz.func30,Tryz.ntmps30
 go_wp2_with fail
 rw[←HW0.out]
 clear HW0
 refine (ck a b L.length c O.length d (FL L) (ae O) k _ (HF.out.below HB0.out) (HO.out.below HB0.out)).mono ?_
 rintro e w1 ⟨⟨bb,rfl,hb1,hb2⟩,B1⟩
 obtain rfl:bb=false:=by cases bb with|true=>exact absurd (hb1 rfl) HBad.out|false=>rfl
 obtain ⟨⟨r0,r1,r2,r3,r4,r5,r6⟩,rf,rz⟩:=Z3.out.kept B1 (by omega)
 have HB1:Hid (Below w.heap.size w w1):=HB0.out.trans (B1.mono (by omega))
 clear hb1 hb2 B1 HB0 Z1 Z2 Z3 hs0
 go_wp2
 refine bodyPost_ret (v:=.tuple #[.agg #[Ii Jj 0,Sl none 0 0,Sl none 0 0,Ii Jj 0,Ii Jj 0,Ii Jj 0,Ii Jj 0],Ii Jj 1]) (by simp[results,Tryz.results30,go_sem,r0,r1,r2,r3,r4,r5,r6]) rfl ⟨Sl none 0 0,Sl none 0 0,rfl,AL.nil' _ _,ah.nil _ _,?_⟩
 repeat (refine ai ?_ (by omega) _ _)
 exact HB1.out
open Go.RowKit
set_option maxRecDepth 8000
set_option linter.unusedVariables false
theorem rU (o:au):bd [] o=[o]:=by
 unfold bd
 simp
theorem pk (w:World) (o:au):ee (w.alloc (.cells #[Ii Jj o.id,Ii Jj o.src,Ii Jj o.dst,Ii Jj o.amount,Ii Jj o.first,Ii Jj o.every,Ii Jj o.times] 45)) w.heap.size o:=by
 unfold ee
 show (w.heap.push _)[w.heap.size]? =_
 simp
 rfl
theorem iP (a:Option Addr) (c:Nat) (L:List aj) (k:Bk) (n:Int) (x:cV) (o:au) (w:World) (hF:Fo w a L.length (FL L)) (hO:aG w none 0 (ae [])) (hb:aq (FL L) L.length (ae []) 0 k) (hok:ba 20 x o n):
  Calls Pg 84 #[.agg #[Ii Jj k.day,Sl a L.length c,Sl none 0 0,Ii Jj k.inn,Ii Jj k.out,Ii Jj k.posted,Ii Jj k.missed],.agg #[Ii Jj 20,Ii Jj x.k,Ii Jj x.i,Ii Jj x.t,Ii Jj x.m,Ii Jj x.r,Ii Jj o.id,Ii Jj o.src,Ii Jj o.dst,Ii Jj o.amount,Ii Jj o.first,Ii Jj o.every,Ii Jj o.times,Ii Jj n]] w fun e w'=>ch (cG L [] k ⟨0,L,bd [] o,k⟩) w e w':=by
 have HOK:=aa hb
 have hl12:L.length<=12:=hb.2.1.1
 have FORM:=aa (fun W=>dm hok W)
 obtain ⟨i0,hi,hz0,hz1,hz2⟩:=info_parts dd
 rw[rU o]
 have PL:Hid (∀W,aG W none 0 (ae [])->Calls Pg 134 #[Sl none 0 0,Ii Jj o.id] W fun e w'=>e=.returned (Ii Jj (-1))/\Below W.heap.size W w'):=fun W h1=>(f7 none 0 [] o.id W h1).mono (by
  rintro e w' ⟨rfl,h⟩
  rw[jK (fun ⟨t,ht,_⟩=>absurd ht (Nat.not_lt_zero _))]
  exact ⟨rfl,h⟩)
 clear hb hok
 have HF:=aa hF
 have HO:=aa hO
 obtain ⟨W0,hW0,hs0,b0,z1,z2,z3⟩:=bY a none c 0 L [] k 20 n x o w
 simp only[List.length_nil] at hW0 z1
 have HW0:=aa hW0
 have HB0:=aa b0
 have Z1:=aa z1
 have Z2:=aa z2
 have Z3:=aa z3
 clear hW0 b0 z1 z2 z3 hF hO
 go_enter Tryz.func84,Tryz.ntmps84
 go_wp2_with fail
 rw[←HW0.out]
 clear HW0
 refine (aC a none c 0 L [] k _ (HF.out.below HB0.out) (HO.out.below HB0.out)).mono ?_
 rintro e w1 ⟨v1,u1,rfl,A1,O1,D1⟩
 rw[hs0] at A1 O1
 obtain ⟨a1,c1',hv⟩:=A1.len
 subst hv
 obtain ⟨b1,d1,hv⟩:=O1.len
 subst hv
 have OFFA:Hid (∀q,(Value.slice a1 L.length c1').ownBlock=some q->q≠w1.heap.size):=fun q hq=>by have:=(World.ownsRow.lt A1 q hq).2;omega
 obtain ⟨W2,hW2⟩:∃W2,W2=w1.alloc (.cells #[Ii Jj k.day,Sl a1 L.length c1',Sl b1 0 d1,Ii Jj k.inn,Ii Jj k.out,Ii Jj k.posted,Ii Jj k.missed] 38):=⟨_,rfl⟩
 have D2:Below w1.heap.size w1 W2:=by rw[hW2];exact (Below.refl _ _).alloc (Nf _) _
 have hs1:=D1.size
 have hs2:W2.heap.size=w1.heap.size+1:=by rw[hW2];simp
 have E2:Below W0.heap.size W0 W2:=D1.trans (D2.mono D1.size)
 have PX:Hid (bW W2 w1.heap.size (Sl a1 L.length c1') (Sl b1 0 d1) k):=by
  show ak _ _ _ _ _ _ _ _ _;rw[hW2];exact ak.new w1 _ _ _ _ _ _ _ 38
 have P1:=aa (Z1.out.kept E2 (by omega))
 have P2:=aa (Z2.out.kept E2 (by omega))
 have P3:=aa (Z3.out.kept E2 (by omega))
 have PA:=aa (A1.kept D2)
 have PO:=aa (O1.kept D2)
 have PB:=aa (HB0.out.trans (E2.mono HB0.out.size))
 have HW2:=aa hW2
 clear hW2 D1 D2 E2 A1 O1 Z1 Z2 Z3 HB0
 obtain ⟨⟨c0,c1,c2,c3,c4,c5,c6,c7,c8,c9,c10,c11,c12,c13⟩,cz⟩:=P2.out
 go_upto_region 10 with fail
 rw[←HW2.out]
 clear HW2
 go_wp2_with fail
 refine (FORM.out _).mono ?_
 rintro e w3 ⟨rfl,E3⟩
 clear c0 c1 c2 c3 c4 c5 c6 c7 c8 c9 c10 c11 c12 c13 cz FORM
 replace P1:=aa (P1.out.kept E3 (by omega))
 replace P3:=aa (P3.out.kept E3 (by omega))
 replace P2:=aa (P2.out.kept E3 (by omega))
 replace PX:=aa (PX.out.kept E3 (by omega))
 replace PA:=aa (PA.out.kept E3)
 replace PO:=aa (PO.out.kept E3)
 replace PB:=aa (PB.out.trans (E3.mono PB.out.size))
 have hs3:w1.heap.size+1<=w3.heap.size:=by have:=E3.size;omega
 clear E3 hs2
 have hs3':(w.heap.size+1+1+1)<=w1.heap.size:=by omega
 clear hs1 hs0
 obtain ⟨⟨c0,c1,c2,c3,c4,c5,c6,c7,c8,c9,c10,c11,c12,c13⟩,cz⟩:=P2.out
 obtain ⟨⟨s0,s1,s2,s3,s4,s5,s6⟩,sf,sz⟩:=P1.out
 go_wp2_with fail
 refine (PL.out _ (HO.out.below PB.out)).mono ?_
 rintro e w4 ⟨rfl,E4⟩
 clear c0 c1 c2 c3 c4 c5 c6 c7 c8 c9 c10 c11 c12 c13 cz s0 s1 s2 s3 s4 s5 s6 sf sz PL
 replace P1:=aa (P1.out.kept E4 (by omega))
 replace P3:=aa (P3.out.kept E4 (by omega))
 replace P2:=aa (P2.out.kept E4 (by omega))
 replace PX:=aa (PX.out.kept E4 (by omega))
 replace PA:=aa (PA.out.kept E4)
 replace PO:=aa (PO.out.kept E4)
 replace PB:=aa (PB.out.trans (E4.mono PB.out.size))
 have hs4:=E4.size
 clear E4
 have HP1:Hid (∀V,Below w4.heap.size w4 V->bW V w.heap.size (Sl a L.length c) (Sl none 0 0) k):=fun V h=>P1.out.kept h P1.out.2.2
 have HP2:Hid (∀V,Below w4.heap.size w4 V->fk V (w.heap.size+1) 20 x o n):=fun V h=>P2.out.kept h P2.out.2
 go_upto_region 5 with fail
 go_loopw[10] (fun vi wr=>vi=Ii Jj 0/\Hid (Below w4.heap.size w4 wr)) (fun _ _=>0)
 case atStart=>exact ⟨rfl,Below.refl _ _⟩
 case round=>
  obtain ⟨rfl,hB⟩:=hrel
  obtain ⟨⟨s0,s1,s2,s3,s4,s5,s6⟩,sf,sz⟩:=HP1.out _ hB.out
  go_wp2
  go_quiet (fail)
  obtain ⟨w5,hw5⟩:∃w5,w5=wr.drewN nq:=⟨_,rfl⟩
  have B5:Hid (Below w4.heap.size w4 w5):=by show Below _ _ _;rw[hw5];exact ⟨hB.out.os,hB.out.tape,hB.out.output,hB.out.size,hB.out.block⟩
  rw[←hw5]
  clear hw5 hB s0 s1 s2 s3 s4 s5 s6 sf sz
  have hs5:=B5.out.size
  have DB:Below w4.heap.size w4 ((w5.alloc (.cells #[] 45)).alloc (.cells #[Ii Jj o.id,Ii Jj o.src,Ii Jj o.dst,Ii Jj o.amount,Ii Jj o.first,Ii Jj o.every,Ii Jj o.times] 45)):=(B5.out.alloc hs5 _).alloc (by simp;omega) _
  have O6:Hid (ah ((w5.alloc (.cells #[] 45)).alloc (.cells #[Ii Jj o.id,Ii Jj o.src,Ii Jj o.dst,Ii Jj o.amount,Ii Jj o.first,Ii Jj o.every,Ii Jj o.times] 45)) w4.heap.size (Sl (some ⟨w5.heap.size,0,none⟩) 0 0) []):=(ah.empty w5 w4.heap.size hs5).kept ((Below.refl _ _).alloc (Nf _) _)
  have N6:Hid (∀j u,(an o)[j]? =some u->(((w5.alloc (.cells #[] 45)).alloc (.cells #[Ii Jj o.id,Ii Jj o.src,Ii Jj o.dst,Ii Jj o.amount,Ii Jj o.first,Ii Jj o.every,Ii Jj o.times] 45))).cell? ((⟨w5.heap.size+1,0,none⟩:Addr).add j)=some u):=fun j u hj=>by
   have:=(pk (w5.alloc (.cells #[] 45)) o).cell j u hj
   rw[World.size_alloc] at this
   exact this
  have AF2:Hid (∀v7 (w7:World),World.ownsRow w7 w4.heap.size 45 7 v7 (0+1) ([]++an o)->World.grownBy ((w5.alloc (.cells #[] 45)).alloc (.cells #[Ii Jj o.id,Ii Jj o.src,Ii Jj o.dst,Ii Jj o.amount,Ii Jj o.first,Ii Jj o.every,Ii Jj o.times] 45)) w7 (Value.slice (some ⟨w5.heap.size,0,none⟩) 0 0).ownBlock->∃g7 c7,v7=Sl (some ⟨g7,0,none⟩) 1 c7/\ah w7 w4.heap.size (Sl (some ⟨g7,0,none⟩) 1 c7) [o]/\Below w4.heap.size w4 w7):=by
   intro v7 w7 hown hgrow
   have D7:Below w4.heap.size w4 w7:=DB.grown hgrow DB.size (fun j hj=>by simp[Value.ownBlock] at hj;omega)
   have O7:ah w7 w4.heap.size v7 [o]:=by
    unfold ah
    simpa using hown
   obtain ⟨g7,c7,rfl⟩:=O7.own (by intro e;obtain ⟨a9,c9,e9⟩:=O7.len;rw[e] at e9;simp at e9)
   exact ⟨g7,c7,rfl,O7,D7⟩
  have HPX:Hid (∀V,Below w4.heap.size w4 V->bW V w1.heap.size (Sl a1 L.length c1') (Sl b1 0 d1) k):=fun V h=>PX.out.kept h PX.out.2.2
  obtain ⟨⟨s0,s1,s2,s3,s4,s5,s6⟩,sf,sz⟩:=HP1.out _ B5.out
  obtain ⟨⟨c0,c1,c2,c3,c4,c5,c6,c7,c8,c9,c10,c11,c12,c13⟩,cz⟩:=HP2.out _ B5.out
  have h63:Hid (0+1<=maxLen):=by show 0+1<=maxLen;unfold maxLen;omega
  have hby:Hid ((0+1)*56<=140737488355328):=by show (0+1)*56<=140737488355328;omega
  have hszB:Hid (w4.heap.size<=(((w5.alloc (.cells #[] 45)).alloc (.cells #[Ii Jj o.id,Ii Jj o.src,Ii Jj o.dst,Ii Jj o.amount,Ii Jj o.first,Ii Jj o.every,Ii Jj o.times] 45))).heap.size):=DB.size
  have hs4':w1.heap.size<w4.heap.size:=by omega
  clear DB
  go_upto_region 27 with (at_builtin;refine wpList_append_own _ rfl _ _ 36 rfl w4.heap.size 45 i0 _ 7 56 Tryz.underlying36 hi hz0 hz1 hz2 rfl (by decide) _ _ _ rfl O6.out ⟨w5.heap.size+1,0,none⟩ 1 1 (an o) rfl rfl N6.out (fm o) h63.out hby.out hszB.out ?_;intro v7 w7 hown hgrow hnn;obtain ⟨g7,q7c,rfl,O7,B7⟩:=AF2.out v7 w7 hown hgrow;have hc7:1<=q7c:=(ah.cap O7).1;have hc8:(1:Int)<=(q7c:Int):=(by omega);clear hown hgrow hnn s0 s1 s2 s3 s4 s5 s6 sf sz c0 c1 c2 c3 c4 c5 c6 c7 c8 c9 c10 c11 c12 c13 cz;obtain ⟨⟨s0,s1,s2,s3,s4,s5,s6⟩,sf,sz⟩:=HP1.out _ B7;obtain ⟨⟨x0,x1,x2,x3,x4,x5,x6⟩,xf,xz⟩:=HPX.out w7 B7)
  obtain ⟨V9,hV9⟩:∃V9,V9=w7.setCell ⟨w1.heap.size,2,none⟩ (Sl (some ⟨g7,0,none⟩) 1 q7c):=⟨_,rfl⟩
  have hz9:V9.heap.size=w7.heap.size:=by rw[hV9];simp[World.setCell]
  have hs8:=B7.size
  have XT:Hid (bW V9 w1.heap.size (Sl a1 L.length c1') (Sl (some ⟨g7,0,none⟩) 1 q7c) k):=by show ak _ _ _ _ _ _ _ _ _;rw[hV9];exact (PX.out.kept B7 PX.out.2.2).set2 _
  have AT:Hid (AL V9 (w.heap.size+1+1+1) (Sl a1 L.length c1') L):=by show AL _ _ _ _;rw[hV9];exact (PA.out.kept B7).off OFFA.out _ _
  have OT:Hid (ah V9 (w.heap.size+1+1+1) (Sl (some ⟨g7,0,none⟩) 1 q7c) [o]):=by
   show ah _ _ _ _;rw[hV9]
   exact ah.mono (O7.far hs4' _ _) (by omega)
  have P1':Hid (bW V9 w.heap.size (Sl a L.length c) (Sl none 0 0) k):=by show ak _ _ _ _ _ _ _ _ _;rw[hV9];exact (P1.out.kept B7 P1.out.2.2).far (by omega) _ _
  have P3':Hid (fu V9 (w.heap.size+1+1)):=by show ak _ _ _ _ _ _ _ _ _;rw[hV9];exact (P3.out.kept B7 P3.out.2.2).far (by omega) _ _
  have PB':Hid (Below w.heap.size w V9):=by show Below _ _ _;rw[hV9];exact ai (PB.out.trans (B7.mono PB.out.size)) (by omega) _ _
  rw[←hV9]
  clear hV9 O6 O7 B7 N6 x0 x1 x2 x3 x4 x5 x6 xf xz s0 s1 s2 s3 s4 s5 s6 sf sz PX PA PO P1 P2 P3 PB AF2 HPX HP1 HP2 B5
  have hnl:[o].length<=1:=Nf _
  have P1:=P1'
  have P3:=P3'
  have PB:=PB'
  clear P1' P3' PB'
  have BNK:Hid (Calls Pg 31 #[.agg #[Ii Jj (k.day),Sl a1 L.length c1',Sl (some ⟨g7,0,none⟩) 1 q7c,Ii Jj (k.inn),Ii Jj (k.out),Ii Jj (k.posted),Ii Jj (k.missed)]] V9 fun e w'=>af e (Rn.mk 0 L [o] k).ok/\Below V9.heap.size V9 w'):=by
   have:=ck a1 (some ⟨g7,0,none⟩) (L.length) c1' (1) q7c (FL L) (ae [o]) k V9 (AT.out.fo (by omega)).2 (OT.out.list (by omega)).2
   exact this
  obtain ⟨⟨x0,x1,x2,x3,x4,x5,x6⟩,xf,xz⟩:=XT.out
  go_wp2_with fail
  refine BNK.out.mono ?_
  rintro e w8 ⟨⟨bb,rfl,hb1,hb2⟩,B8⟩
  have hs8:=B8.size
  clear x0 x1 x2 x3 x4 x5 x6 xf xz
  have XT':=aa (XT.out.kept B8 XT.out.2.2)
  have AT':=aa (AT.out.kept B8)
  have OT':=aa (OT.out.kept B8)
  have P1':=aa (P1.out.kept B8 P1.out.2.2)
  have P3':=aa (P3.out.kept B8 P3.out.2.2)
  have PB':=aa (PB.out.trans (B8.mono PB.out.size))
  clear XT AT OT P1 P3 PB B8 BNK
  have P1:=P1'
  have P3:=P3'
  have PB:=PB'
  clear P1' P3' PB'
  cases bb with
  | true=>
   have HN:Hid ((Rn.mk 0 L [o] k).ok):=hb1 rfl
   obtain ⟨⟨x0,x1,x2,x3,x4,x5,x6⟩,xf,xz⟩:=XT'.out
   obtain ⟨⟨r0,r1,r2,r3,r4,r5,r6⟩,rf,rz⟩:=P3.out
   clear hb1 hb2
   go_wp2
   refine bodyPost_ret (v:=.tuple #[.agg #[Ii Jj (k.day),Sl a1 L.length c1',Sl (some ⟨g7,0,none⟩) 1 q7c,Ii Jj (k.inn),Ii Jj (k.out),Ii Jj (k.posted),Ii Jj (k.missed)],Ii Jj 0]) (by simp[results,Tryz.results84,go_sem,r0,r1,r2,r3,r4,r5,r6]) rfl ?_
   rw[dQ (q:=(Rn.mk 0 L [o] k)) rfl HN.out]
   refine ⟨Sl a1 L.length c1',Sl (some ⟨g7,0,none⟩) 1 q7c,?_,?_,?_,?_⟩
   ·rfl
   ·refine AL.mono (B:=(w.heap.size+1+1+1)) ?_ (by omega)
    repeat (refine AL.far ?_ (by omega) _ _)
    exact AT'.out
   ·refine ah.mono (B:=(w.heap.size+1+1+1)) ?_ (by omega)
    repeat (refine ah.far ?_ (by omega) _ _)
    exact OT'.out
   ·repeat (refine ai ?_ (by omega) _ _)
    exact PB.out
  | false=>
   have HN:Hid (¬(Rn.mk 0 L [o] k).ok):=hb2 rfl
   have HFIN:Hid (cG L [] k (Rn.mk 0 L [o] k)=⟨7,L,[],k⟩):=dl (q:=(Rn.mk 0 L [o] k)) rfl HN.out
   clear hb1 hb2 XT' AT' OT'
   obtain ⟨⟨s0,s1,s2,s3,s4,s5,s6⟩,sf,sz⟩:=P1.out
   go_wp2_with fail
   refine (aC a none c 0 L [] k _ (HF.out.below PB.out) (HO.out.below PB.out)).mono ?_
   rintro e w9 ⟨v9,u9,rfl,A9,O9,B9⟩
   obtain ⟨a9,c9,hv⟩:=A9.len
   subst hv
   obtain ⟨b9,d9,hv⟩:=O9.len
   subst hv
   clear s0 s1 s2 s3 s4 s5 s6 sf sz
   have hs9:w.heap.size+1+1<w8.heap.size:=P3.out.2.2
   obtain ⟨⟨r0,r1,r2,r3,r4,r5,r6⟩,rf,rz⟩:=P3.out.kept B9 hs9
   have HA9:=aa A9
   have HO9:=aa O9
   have HB9:=aa (PB.out.trans (B9.mono PB.out.size))
   clear A9 O9 B9 P1 P3 PB
   go_wp2
   refine bodyPost_ret (v:=.tuple #[.agg #[Ii Jj (k.day),Sl a9 L.length c9,Sl b9 0 d9,Ii Jj (k.inn),Ii Jj (k.out),Ii Jj (k.posted),Ii Jj (k.missed)],Ii Jj 7]) (by simp[results,Tryz.results84,go_sem,r0,r1,r2,r3,r4,r5,r6]) rfl ?_
   rw[HFIN.out]
   refine ⟨_,_,rfl,?_,?_,?_⟩
   ·refine AL.mono (B:=w8.heap.size) ?_ (by omega)
    repeat (refine AL.far ?_ hs9 _ _)
    exact HA9.out
   ·refine ah.mono (B:=w8.heap.size) ?_ (by omega)
    repeat (refine ah.far ?_ hs9 _ _)
    exact HO9.out
   ·repeat (refine ai ?_ (by omega) _ _)
    exact HB9.out
open Go.RowKit
set_option maxRecDepth 8000
set_option linter.unusedVariables false
theorem iF (a b:Option Addr) (c d:Nat) (L:List aj) (O:List au) (k:Bk) (K n:Int) (x:cV) (o:au) (w:World) (hF:Fo w a L.length (FL L)) (hO:aG w b O.length (ae O)) (hd:O.length<=d) (hsh:(b=none/\d=0)\/∃pb po,b=some ⟨pb,po,none⟩) (hb:aq (FL L) L.length (ae O) O.length k):
  Calls Pg 84 #[.agg #[Ii Jj k.day,Sl a L.length c,Sl b O.length d,Ii Jj k.inn,Ii Jj k.out,Ii Jj k.posted,Ii Jj k.missed],.agg #[Ii Jj K,Ii Jj x.k,Ii Jj x.i,Ii Jj x.t,Ii Jj x.m,Ii Jj x.r,Ii Jj o.id,Ii Jj o.src,Ii Jj o.dst,Ii Jj o.amount,Ii Jj o.first,Ii Jj o.every,Ii Jj o.times,Ii Jj n]] w fun e w'=>ch (dk L O k K x o n) w e w':=by
 unfold dk
 by_cases hok:ba K x o n
 ·rcases jP hok with rfl|rfl|rfl|rfl
  ·rw[pf hok]
   by_cases h5:x.k=5
   ·exact jS a b c d L O k n x o w hF hO hd hb hok h5
   ·by_cases h6:x.k=6
    ·exact iM a b c d L O k n x o w hF hO hd hb hok h6
    ·exact iN a b c d L O k n x o w hF hO hd hb hok h5 h6
  ·by_cases ht:bv O o.id
   ·rw[ip hok ht]
    exact kt a b c d L O k n x o w hF hO hd hb hok ht
   ·rw[lO hok ht]
    rcases hsh with ⟨hb0,hd0⟩|⟨pb,po,hbp⟩
    ·subst hb0 hd0
     obtain rfl:O=[]:=List.length_eq_zero_iff.1 (by omega)
     exact iP a c L k n x o w hF hO hb hok
    ·exact iu a b c d L O k n x o w hF hO hd hb hok ht pb po hbp
  ·by_cases ht:bv O n
   ·rw[lP hok ht]
    exact nS a b c d L O k n x o w hF hO hd hb hok ht
   ·rw[jN hok ht]
    exact lX a b c d L O k n x o w hF hO hd hb hok ht
  ·by_cases ht:cU L O k
   ·rw[lQ hok ht]
    exact iO a b c d L O k n x o w hF hO hd hb hok ht
   ·rw[jO hok ht]
    exact jT a b c d L O k n x o w hF hO hd hb hok ht
 ·rw[jM hok]
  exact lW a b c d L O k K n x o w hF hO hd hb hok
theorem jU (a b:Option Addr) (c d:Nat) (L:List aj) (O:List au) (k:Bk) (K n:Int) (x:cV) (o:au) (w:World) (hF:Fo w a L.length (FL L)) (hO:aG w b O.length (ae O)) (hd:O.length<=d) (hsh:(b=none/\d=0)\/∃pb po,b=some ⟨pb,po,none⟩) (hb:aq (FL L) L.length (ae O) O.length k):
  Calls Pg 30 #[.agg #[Ii Jj k.day,Sl a L.length c,Sl b O.length d,Ii Jj k.inn,Ii Jj k.out,Ii Jj k.posted,Ii Jj k.missed],.agg #[Ii Jj K,Ii Jj x.k,Ii Jj x.i,Ii Jj x.t,Ii Jj x.m,Ii Jj x.r,Ii Jj o.id,Ii Jj o.src,Ii Jj o.dst,Ii Jj o.amount,Ii Jj o.first,Ii Jj o.every,Ii Jj o.times,Ii Jj n]] w fun e w'=>ch (dk L O k K x o n) w e w':=by
 have HOK:=aa hb
 have RUN:Hid (∀w,Fo w a L.length (FL L)->aG w b O.length (ae O)->Calls Pg 84 #[.agg #[Ii Jj k.day,Sl a L.length c,Sl b O.length d,Ii Jj k.inn,Ii Jj k.out,Ii Jj k.posted,Ii Jj k.missed],.agg #[Ii Jj K,Ii Jj x.k,Ii Jj x.i,Ii Jj x.t,Ii Jj x.m,Ii Jj x.r,Ii Jj o.id,Ii Jj o.src,Ii Jj o.dst,Ii Jj o.amount,Ii Jj o.first,Ii Jj o.every,Ii Jj o.times,Ii Jj n]] w fun e w'=>ch (dk L O k K x o n) w e w'):=fun w h1 h2=>iF a b c d L O k K n x o w h1 h2 hd hsh hb
 clear hb
 have HF:=aa hF
 have HO:=aa hO
 obtain ⟨W0,hW0,hs0,b0,z1,z2,z3⟩:=bY a b c d L O k K n x o w
 have HW0:=aa hW0
 have HB0:=aa b0
 have Z1:=aa z1
 have Z2:=aa z2
 have Z3:=aa z3
 clear hW0 b0 z1 z2 z3 hF hO
 generalize dk L O k K x o n=q at*
 obtain ⟨qc,qL,qO,qk⟩:=q
 go_enter Tryz.func30,Tryz.ntmps30
 go_wp2_with fail
 rw[←HW0.out]
 clear HW0
 refine (ck a b L.length c O.length d (FL L) (ae O) k _ (HF.out.below HB0.out) (HO.out.below HB0.out)).mono ?_
 rintro e w1 ⟨⟨bb,rfl,hb1,hb2⟩,B1⟩
 obtain rfl:bb=true:=by cases bb with|false=>exact absurd HOK.out (hb2 rfl)|true=>rfl
 have hs1:=B1.size
 have Y3:=aa (Z3.out.kept B1 (by omega))
 have HB1:Hid (Below w.heap.size w w1):=HB0.out.trans (B1.mono (by omega))
 have hs1':w.heap.size+1+1+1<=w1.heap.size:=by omega
 obtain ⟨⟨s0,s1,s2,s3,s4,s5,s6⟩,sf,sz⟩:=Z1.out.kept B1 (by omega)
 obtain ⟨⟨c0,c1,c2,c3,c4,c5,c6,c7,c8,c9,c10,c11,c12,c13⟩,cz⟩:=Z2.out.kept B1 (by omega)
 clear hb1 hb2 B1 HB0 Z1 Z2 Z3 hs0 hs1
 go_wp2_with fail
 refine (RUN.out _ (HF.out.below HB1.out) (HO.out.below HB1.out)).mono ?_
 rintro e w2 ⟨v2,u2,rfl,A2,O2,B2⟩
 dsimp only at*
 obtain ⟨a2,c2',hv⟩:=A2.len
 subst hv
 obtain ⟨b2,d2,hv⟩:=O2.len
 subst hv
 clear s0 s1 s2 s3 s4 s5 s6 sf sz c0 c1 c2 c3 c4 c5 c6 c7 c8 c9 c10 c11 c12 c13 cz RUN
 obtain ⟨⟨r0,r1,r2,r3,r4,r5,r6⟩,rf,rz⟩:=Y3.out.kept B2 (by omega)
 have HA2:=aa A2
 have HO2:=aa O2
 have HB2:=aa (HB1.out.trans (B2.mono HB1.out.size))
 clear A2 O2 B2 Y3
 go_wp2
 refine bodyPost_ret (v:=.tuple #[.agg #[Ii Jj qk.day,Sl a2 qL.length c2',Sl b2 qO.length d2,Ii Jj qk.inn,Ii Jj qk.out,Ii Jj qk.posted,Ii Jj qk.missed],Ii Jj qc]) (by simp[results,Tryz.results30,go_sem,r0,r1,r2,r3,r4,r5,r6]) rfl ⟨Sl a2 qL.length c2',Sl b2 qO.length d2,rfl,?_,?_,?_⟩
 ·refine AL.mono (B:=w1.heap.size) ?_ (by omega)
  repeat (refine AL.far ?_ (by omega) _ _)
  exact HA2.out
 ·refine ah.mono (B:=w1.heap.size) ?_ (by omega)
  repeat (refine ah.far ?_ (by omega) _ _)
  exact HO2.out
 ·repeat (refine ai ?_ (by omega) _ _)
  exact HB2.out
theorem rV (a b:Option Addr) (c d:Nat) (L:List aj) (O:List au) (k:Bk) (K n:Int) (x:cV) (o:au) (w:World) (hF:Fo w a L.length (FL L)) (hO:aG w b O.length (ae O)) (hd:O.length<=d) (hsh:(b=none/\d=0)\/∃pb po,b=some ⟨pb,po,none⟩):
  Calls Pg 30 #[.agg #[Ii Jj k.day,Sl a L.length c,Sl b O.length d,Ii Jj k.inn,Ii Jj k.out,Ii Jj k.posted,Ii Jj k.missed],.agg #[Ii Jj K,Ii Jj x.k,Ii Jj x.i,Ii Jj x.t,Ii Jj x.m,Ii Jj x.r,Ii Jj o.id,Ii Jj o.src,Ii Jj o.dst,Ii Jj o.amount,Ii Jj o.first,Ii Jj o.every,Ii Jj o.times,Ii Jj n]] w fun e w'=>ch (aY L O k K x o n) w e w':=by
 unfold aY
 by_cases hb:aq (FL L) L.length (ae O) O.length k
 ·rw[if_pos hb];exact jU a b c d L O k K n x o w hF hO hd hsh hb
 ·rw[if_neg hb];exact nT a b c d L O k K n x o w hF hO hb
end Go.Proofs.YtghkbhggopiajaaGreatDoor
