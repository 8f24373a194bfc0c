/- Ended of the program. -/
import Derived.Test.YtjhgchlfpolkcaaGreatDoorLets2x
import Derived.StillTailTactics
import Derived.Laws.IdiomCopy
import Derived.Shelf.Abstract
namespace Go.Proofs.YtjhgchlfpolkcaaGreatDoor
section
open Value renaming int → Ii,slice → Sl
open IntKind renaming i64 → Jj
open Nat renaming le_refl → Nf
open Go.RowKit.Below renaming refl → Bf
open Go.RowKit
set_option maxRecDepth 8000
theorem hY {w:World} {p:Addr} {L:List am} (H:aJ w (some p) L.length (ai L)):∀j u,(L.flatMap au)[j]? =some u->w.cell? (p.add j)=some u:=fun j u hj=>by
 have hjl:j<L.length*7:=by
  by_cases e:j<L.length*7
  ·exact e
  ·rw[List.getElem?_eq_none (by rw[bq];omega)] at hj;cases hj
 have hd:j=(j / 7)*7+j % 7:=by omega
 have hq:j / 7<L.length:=by omega
 obtain ⟨b,o,ea,hbz,hA⟩:=H.acc hq
 have ep:p=⟨b,o,none⟩:=by simpa using ea
 subst ep
 rw[hd,ik L _ _ hq (Nat.mod_lt _ (by omega))] at hj
 have e1:(⟨b,o,none⟩:Addr).add j=⟨b,o+(j / 7)*7+j % 7,none⟩:=by
  by_cases h0:j=0
  ·subst h0;simp[Addr.add]
  ·simp only[Addr.add,h0];simp;omega
 rw[e1]
 rw[eD hq] at hA
 obtain ⟨c0,c1,c2,c3,c4,c5,c6⟩:=hA
 have hm:j % 7<7:=Nat.mod_lt _ (by omega)
 generalize L[j / 7]=x at*
 generalize j % 7=m at*
 match m,hm with
 | 0,_=>simpa [au] using c0.trans hj
 | 1,_=>simpa [au] using c1.trans hj
 | 2,_=>simpa [au] using c2.trans hj
 | 3,_=>simpa [au] using c3.trans hj
 | 4,_=>simpa [au] using c4.trans hj
 | 5,_=>simpa [au] using c5.trans hj
 | 6,_=>simpa [au] using c6.trans hj
theorem oK {w:World} {B e size n:Nat} {v:Value} {xs:List Value} (h:w.ownsRow B e size v n xs) {Q:Nat} (hQ:Q<B) (q:Nat) (u:Value):(w.setCell ⟨Q,q,none⟩ u).ownsRow B e size v n xs:=
 World.ownsRow.kept h (fX w Q q u) (by
  cases hb:v.ownBlock with
  | none=>exact Or.inl rfl
  | some g=>right;intro e';have:=(World.ownsRow.lt h g hb).1;simp at e';omega)
theorem AL.far {w:World} {B:Nat} {v:Value} {L:List al} (h:AL w B v L) {Q:Nat} (hQ:Q<B) (q:Nat) (u:Value):AL (w.setCell ⟨Q,q,none⟩ u) B v L:=oK h hQ q u
theorem ag.far {w:World} {B:Nat} {v:Value} {L:List am} (h:ag w B v L) {Q:Nat} (hQ:Q<B) (q:Nat) (u:Value):ag (w.setCell ⟨Q,q,none⟩ u) B v L:=oK h hQ q u
theorem dJ (O:List am):∀u ∈ O.flatMap au,u.oneCell'=true:=by
 intro u hu
 obtain ⟨x,_,hx⟩:=List.mem_flatMap.1 hu
 simp only[au,List.mem_cons,List.not_mem_nil,or_false] at hx
 rcases hx with e|e|e|e|e|e|e <;>subst e <;>rfl
set_option maxHeartbeats 4000000 in
theorem ay (a b:Option Addr) (c d:Nat) (L:List al) (O:List am) (k:Bk) (w:World) (hF:Fo w a L.length (FL L)) (hO:aJ w b O.length (ai O)):
  Calls Tryz.prog 103 #[.agg #[Ii Jj k.day,Sl a L.length c,Sl b O.length d,Ii Jj k.inn,Ii Jj k.out,Ii Jj k.posted,Ii Jj k.missed]] w fun e w'=>∃v u,e=.returned (.agg #[Ii Jj k.day,v,u,Ii Jj k.inn,Ii Jj k.out,Ii Jj k.posted,Ii Jj k.missed])/\AL w' w.heap.size v L/\ag w' w.heap.size u O/\Below w.heap.size w w':=by
 have HF:Hid (Fo w a L.length (FL L)):=hF
 have HO:Hid (aJ w b O.length (ai O)):=hO
 have hol:=hO.1
 obtain ⟨i0,hi,hz0,hz1,hz2⟩:=info_parts fS
 clear hF hO
 obtain ⟨W0,hW0⟩:∃W0,W0=((w.alloc (.cells #[Ii Jj k.day,Sl a L.length c,Sl b O.length d,Ii Jj k.inn,Ii Jj k.out,Ii Jj k.posted,Ii Jj k.missed] 27)).alloc (.cells #[Ii Jj 0,Sl none 0 0,Sl none 0 0,Ii Jj 0,Ii Jj 0,Ii Jj 0,Ii Jj 0] 27)).alloc (.cells #[Ii Jj k.day,Sl a L.length c,Sl b O.length d,Ii Jj k.inn,Ii Jj k.out,Ii Jj k.posted,Ii Jj k.missed] 27):=⟨_,rfl⟩
 have hs0:W0.heap.size=w.heap.size+1+1+1:=by rw[hW0];simp
 have b0:Below w.heap.size w W0:=by rw[hW0];exact (((Bf _ _).alloc (Nf _) _).alloc (by simp) _).alloc (by simp;omega) _
 have z1:af W0 w.heap.size (Ii Jj k.day) (Sl a L.length c) (Sl b O.length d) (Ii Jj k.inn) (Ii Jj k.out) (Ii Jj k.posted) (Ii Jj k.missed):=by
  rw[hW0];exact ((af.new w _ _ _ _ _ _ _ 27).kept ((Bf _ _).alloc (Nf _) _) (by simp)).kept ((Bf _ _).alloc (Nf _) _) (by simp;omega)
 have z2:af W0 (w.heap.size+1) (Ii Jj 0) (Sl none 0 0) (Sl none 0 0) (Ii Jj 0) (Ii Jj 0) (Ii Jj 0) (Ii Jj 0):=by
  rw[hW0]
  have:=af.new (w.alloc (.cells #[Ii Jj k.day,Sl a L.length c,Sl b O.length d,Ii Jj k.inn,Ii Jj k.out,Ii Jj k.posted,Ii Jj k.missed] 27)) (Ii Jj 0) (Sl none 0 0) (Sl none 0 0) (Ii Jj 0) (Ii Jj 0) (Ii Jj 0) (Ii Jj 0) 27
  rw[World.size_alloc] at this
  exact this.kept ((Bf _ _).alloc (Nf _) _) (by simp)
 have z3:af W0 (w.heap.size+1+1) (Ii Jj k.day) (Sl a L.length c) (Sl b O.length d) (Ii Jj k.inn) (Ii Jj k.out) (Ii Jj k.posted) (Ii Jj k.missed):=by
  rw[hW0]
  have:=af.new ((w.alloc (.cells #[Ii Jj k.day,Sl a L.length c,Sl b O.length d,Ii Jj k.inn,Ii Jj k.out,Ii Jj k.posted,Ii Jj k.missed] 27)).alloc (.cells #[Ii Jj 0,Sl none 0 0,Sl none 0 0,Ii Jj 0,Ii Jj 0,Ii Jj 0,Ii Jj 0] 27)) (Ii Jj k.day) (Sl a L.length c) (Sl b O.length d) (Ii Jj k.inn) (Ii Jj k.out) (Ii Jj k.posted) (Ii Jj k.missed) 27
  simp only[World.size_alloc] at this
  exact this
 have HW0:Hid (W0=_):=hW0
 have HB0:Hid (Below w.heap.size w W0):=b0
 have Z1:Hid (af W0 w.heap.size (Ii Jj k.day) (Sl a L.length c) (Sl b O.length d) (Ii Jj k.inn) (Ii Jj k.out) (Ii Jj k.posted) (Ii Jj k.missed)):=z1
 have Z2:Hid (af W0 (w.heap.size+1) (Ii Jj 0) (Sl none 0 0) (Sl none 0 0) (Ii Jj 0) (Ii Jj 0) (Ii Jj 0) (Ii Jj 0)):=z2
 have Z3:Hid (af W0 (w.heap.size+1+1) (Ii Jj k.day) (Sl a L.length c) (Sl b O.length d) (Ii Jj k.inn) (Ii Jj k.out) (Ii Jj k.posted) (Ii Jj k.missed)):=z3
 clear hW0 b0 z1 z2 z3
 go_enter Tryz.func103,Tryz.ntmps103
 go_wp2_with fail
 rw[←HW0.out]
 clear HW0
 refine (dX a L.length c L _ rfl (HF.out.below HB0.out)).mono ?_
 rintro e w1 ⟨v1,rfl,A1,D1⟩
 rw[hs0] at A1
 obtain ⟨a1,c1,hv1⟩:=A1.len
 subst hv1
 have Y1:=Z1.out.kept D1 (by omega)
 have Y2:=Z2.out.kept D1 (by omega)
 have Y3:=Z3.out.kept D1 (by omega)
 obtain ⟨W2,hW2⟩:∃W2,W2=w1.setCell ⟨w.heap.size+1+1,1,none⟩ (Sl a1 L.length c1):=⟨_,rfl⟩
 have HW2:Hid (W2=w1.setCell ⟨w.heap.size+1+1,1,none⟩ (Sl a1 L.length c1)):=hW2
 have hs2:w.heap.size+1+1+1<=W2.heap.size:=by rw[hW2];simp[World.setCell];have:=D1.size;omega
 have B2:Below w.heap.size w W2:=by rw[hW2];exact ak (HB0.out.trans (D1.mono (by omega))) (by omega) _ _
 obtain ⟨W3,hW3⟩:∃W3,W3=W2.alloc (.cells #[] 35):=⟨_,rfl⟩
 have HW3:Hid (W3=W2.alloc (.cells #[] 35)):=hW3
 have hs3:W3.heap.size=W2.heap.size+1:=by rw[hW3];simp
 have D3:Below W2.heap.size W2 W3:=by rw[hW3];exact (Bf _ _).alloc (Nf _) _
 have X1:Hid (af W3 w.heap.size (Ii Jj k.day) (Sl a L.length c) (Sl b O.length d) (Ii Jj k.inn) (Ii Jj k.out) (Ii Jj k.posted) (Ii Jj k.missed)):=af.kept (by rw[hW2];exact Y1.far (by omega) _ _) D3 (by omega)
 have X2:Hid (af W3 (w.heap.size+1) (Ii Jj 0) (Sl none 0 0) (Sl none 0 0) (Ii Jj 0) (Ii Jj 0) (Ii Jj 0) (Ii Jj 0)):=af.kept (by rw[hW2];exact Y2.far (by omega) _ _) D3 (by omega)
 have X3:Hid (af W3 (w.heap.size+1+1) (Ii Jj k.day) (Sl a1 L.length c1) (Sl b O.length d) (Ii Jj k.inn) (Ii Jj k.out) (Ii Jj k.posted) (Ii Jj k.missed)):=af.kept (by rw[hW2];exact Y3.set1 _) D3 (by omega)
 have A2:Hid (AL W3 (w.heap.size+1+1+1) (Sl a1 L.length c1) L):=AL.kept (by rw[hW2];exact A1.far (by omega) _ _) D3
 have HB3:Hid (Below w.heap.size w W3):=B2.trans (D3.mono (by omega))
 have HLT:Hid (∀g,(Value.slice a1 L.length c1).ownBlock=some g->g<W2.heap.size):=fun g hg=>by have:=(World.ownsRow.lt (show AL W2 (w.heap.size+1+1+1) (Sl a1 L.length c1) L by rw[hW2];exact A1.far (by omega) _ _) g hg).2;exact this
 have E0:Hid (ag W3 (w.heap.size+1+1+1) (Sl (some ⟨W2.heap.size,0,none⟩) 0 0) []):=by rw[hW3];exact ag.empty W2 _ hs2
 obtain ⟨⟨o0,o1,o2,o3,o4,o5,o6⟩,of,oz⟩:=Y3
 obtain ⟨⟨s0,s1,s2,s3,s4,s5,s6⟩,_,sz⟩:=Y1
 have HO3:Hid (aJ W3 b O.length (ai O)):=HO.out.below HB3.out
 have hs23:w.heap.size+1+1+1<=W3.heap.size:=by omega
 clear Y2 A1 D1 Z1 Z2 Z3 HB0 hs0 D3 B2 hW2
 go_upto_region 3 with fail
 rw[←HW2.out]
 clear o0 o1 o2 o3 o4 o5 o6 of oz s0 s1 s2 s3 s4 s5 s6 sz HW2
 have HB23:Hid (Below W2.heap.size W2 W3):=by rw[HW3.out];exact (Bf _ _).alloc (Nf _) _
 have tt:W2.cell? ⟨w.heap.size,2,none⟩=some (Sl b O.length d):=(HB23.out.cell (p:=⟨w.heap.size,2,none⟩) (show w.heap.size<W2.heap.size by omega)).symm.trans X1.out.1.2.2.1
 have tt2:(W2.alloc (.cells #[] 35)).cell? ⟨w.heap.size,2,none⟩=some (Sl b O.length d):=by rw[←HW3.out];exact X1.out.1.2.2.1
 have hlt2:w.heap.size<W2.heap.size:=by omega
 cases b with
 | none=>
  have h0:O.length=0:=by
   rcases HO3.out.2 with h0|⟨b',o',ha,_⟩
   ·exact h0
   ·cases ha
  have hO0:O=[]:=List.length_eq_zero_iff.1 h0
  subst hO0
  rw[HW3.out] at X2 X3
  obtain ⟨⟨r0,r1,r2,r3,r4,r5,r6⟩,rf,rz⟩:=X2.out
  obtain ⟨⟨o0,o1,o2,o3,o4,o5,o6⟩,of,oz⟩:=X3.out
  go_wp2
  refine bodyPost_ret (v:=.agg #[Ii Jj k.day,Sl a1 L.length c1,Sl (some ⟨W2.heap.size,0,none⟩) 0 0,Ii Jj k.inn,Ii Jj k.out,Ii Jj k.posted,Ii Jj k.missed]) (by simp[results,Tryz.results103,go_sem,r0,r1,r2,r3,r4,r5,r6]) rfl ⟨_,_,rfl,?_,?_,?_⟩
  ·refine AL.mono (B:=w.heap.size+1+1+1) ?_ (by omega)
   repeat (refine AL.far ?_ (by omega) _ _)
   rw[←HW3.out];exact A2.out
  ·refine ag.mono (B:=w.heap.size+1+1+1) ?_ (by omega)
   repeat (refine ag.far ?_ (by omega) _ _)
   rw[←HW3.out];exact E0.out
  ·repeat (refine ak ?_ (by omega) _ _)
   rw[←HW3.out];exact HB3.out
 | some p=>
  have HC:Hid (∀j u,(O.flatMap au)[j]? =some u->W3.cell? (p.add j)=some u):=hY HO3.out
  have AFT:Hid (∀v4 w4,w4.ownsRow (w.heap.size+1+1+1) 35 7 v4 (0+O.length) ([]++O.flatMap au)->W3.grownBy w4 (Value.slice (some ⟨W2.heap.size,0,none⟩) 0 0).ownBlock->∃a4 c4,v4=Sl a4 O.length c4/\ag w4 (w.heap.size+1+1+1) v4 O/\af w4 (w.heap.size+1) (Ii Jj 0) (Sl none 0 0) (Sl none 0 0) (Ii Jj 0) (Ii Jj 0) (Ii Jj 0) (Ii Jj 0)/\af w4 (w.heap.size+1+1) (Ii Jj k.day) (Sl a1 L.length c1) (Sl (some p) O.length d) (Ii Jj k.inn) (Ii Jj k.out) (Ii Jj k.posted) (Ii Jj k.missed)/\AL w4 (w.heap.size+1+1+1) (Sl a1 L.length c1) L/\Below w.heap.size w w4):=by
   intro v4 w4 hown hgrow
   have ho:ag w4 (w.heap.size+1+1+1) v4 O:=by unfold ag;simpa using hown
   have D4:Below W2.heap.size W3 w4:=(Bf _ _).grown hgrow (by omega) (fun j hj=>by simp[Value.ownBlock] at hj;omega)
   obtain ⟨a4,c4,hv4,_⟩:=ho.shape
   refine ⟨a4,c4,hv4,ho,X2.out.kept D4 (by omega),X3.out.kept D4 (by omega),?_,HB3.out.trans (D4.mono (by omega))⟩
   exact World.ownsRow.kept A2.out hgrow (by
    cases hb:(Value.slice a1 L.length c1).ownBlock with
    | none=>exact Or.inl rfl
    | some g=>right;intro e';have:=HLT.out g hb;simp[Value.ownBlock] at e';omega)
  go_wp2_with (at_builtin;rw[←HW3.out];refine wpList_append_own _ rfl _ _ 25 rfl (w.heap.size+1+1+1) 35 i0 _ 7 56 Tryz.underlying25 hi hz0 hz1 hz2 rfl (by decide) _ _ _ rfl E0.out p O.length d (O.flatMap au) rfl (bq O) HC.out (dJ O) (by unfold maxLen;simp;omega) (by simp;omega) (by omega) ?_;intro v4 w4 hown hgrow hnn;obtain ⟨a4,c4,hv4,ho4,⟨⟨r0,r1,r2,r3,r4,r5,r6⟩,rf,rz⟩,⟨⟨o0,o1,o2,o3,o4,o5,o6⟩,of,oz⟩,al4,bl4⟩:=AFT.out v4 w4 hown hgrow;subst hv4;clear hown hgrow hnn)
  refine bodyPost_ret (v:=.agg #[Ii Jj k.day,Sl a1 L.length c1,Sl a4 O.length c4,Ii Jj k.inn,Ii Jj k.out,Ii Jj k.posted,Ii Jj k.missed]) (by simp[results,Tryz.results103,go_sem,r0,r1,r2,r3,r4,r5,r6]) rfl ⟨_,_,rfl,?_,?_,?_⟩
  ·refine AL.mono (B:=w.heap.size+1+1+1) ?_ (by omega)
   repeat (refine AL.far ?_ (by omega) _ _)
   exact al4
  ·refine ag.mono (B:=w.heap.size+1+1+1) ?_ (by omega)
   repeat (refine ag.far ?_ (by omega) _ _)
   exact ho4
  ·repeat (refine ak ?_ (by omega) _ _)
   exact bl4
end
section
open Nat renaming le_refl → Nf
set_option maxRecDepth 8000
open Go.RowKit
structure ut (v w:World) (n:Nat) (G:Nat->Nat):Prop where
 os:w.os=v.os
 tape:w.tape=v.tape
 output:w.output=v.output
 size:v.heap.size<=w.heap.size
 block:∀j,j<v.heap.size->(∀i,i<n->G i≠j)->w.heap[j]? =v.heap[j]?
noncomputable def en (L:List al) (i t m:Int):List al:=(ao L 7 i t m 0).2
theorem fg {L:List al} (hR:ap (FL L) L.length) (i t m:Int):(en L i t m).length=L.length/\(∀z,z<L.length->(FL (en L i t m) z).id=(FL L z).id)/\ap (FL (en L i t m)) (en L i t m).length:=by
 unfold en
 by_cases h0:(ao L 7 i t m 0).1=0
 ·have h:ao L 7 i t m 0=(0,(ao L 7 i t m 0).2):=Prod.ext h0 rfl
  obtain ⟨ho,hp,hr⟩:=np h
  have hm:=pl hR ho (um ho hp)
  exact ⟨hm.1,fun z hz=>(hm.2 z hz).1,hr⟩
 ·rw[ql h0];exact ⟨rfl,fun _ _=>rfl,hR⟩
open Go.RowKit
noncomputable def mY (L:List al) (k:Nat):List al:=
 if (FL L k).target<0\/(FL L k).balance=(FL L k).target then L
 else if (FL L k).target<(FL L k).balance then en L (FL L k).id (FL L k).up ((FL L k).balance-(FL L k).target)
 else en L (FL L k).up (FL L k).id ((FL L k).target-(FL L k).balance)
noncomputable def dE (L:List al):Nat->List al
 | 0=>L
 | k+1=>mY (dE L k) k
theorem pI {L:List al} (hR:ap (FL L) L.length) (k:Nat):(mY L k).length=L.length/\(∀z,z<L.length->(FL (mY L k) z).id=(FL L z).id)/\ap (FL (mY L k)) (mY L k).length:=by
 unfold mY
 split
 ·exact ⟨rfl,fun _ _=>rfl,hR⟩
 ·split
  ·exact fg hR _ _ _
  ·exact fg hR _ _ _
theorem fN {L:List al} (hR:ap (FL L) L.length):∀k,(dE L k).length=L.length/\(∀z,z<L.length->(FL (dE L k) z).id=(FL L z).id)/\ap (FL (dE L k)) (dE L k).length
 | 0=>⟨rfl,fun _ _=>rfl,hR⟩
 | k+1=>by
  obtain ⟨h1,h2,h3⟩:=fN hR k
  obtain ⟨g1,g2,g3⟩:=pI h3 k
  exact ⟨g1.trans h1,fun z hz=>(g2 z (by rw[h1];exact hz)).trans (h2 z hz),g3⟩
open Go.RowKit
set_option maxHeartbeats 4000000 in
theorem nU (a:Option Addr) (c:Nat) (L:List al) (w:World) (h:Fo w a L.length (FL L)) (hR:ap (FL L) L.length):
  Calls Tryz.prog 124 #[.slice a L.length c] w fun e w'=>∃v,e=.returned v/\AL w' w.heap.size v (dE L L.length)/\Below w.heap.size w w':=by
 have H:Hid (Fo w a L.length (FL L)):=h
 have HR:Hid (ap (FL L) L.length):=hR
 have hn:=hR.1
 clear h hR
 go_enter Tryz.func124,Tryz.ntmps124
 go_wp2_with (go_at_call 118;refine (dX a L.length c L w rfl H.out).mono ?_;rintro e w1 ⟨v1,rfl,A1,B1⟩)
 have HA1:Hid (AL w1 w.heap.size v1 L):=A1
 have HB1:Hid (Below w.heap.size w w1):=B1
 clear A1 B1
 go_loopw[4,3] (fun q v wr=>∃k:Nat,k<=L.length/\q=.int .i64 k/\Hid (AL wr w.heap.size v (dE L k))/\Hid (Below w.heap.size w wr)) (fun q _ _=>L.length-(jH q).toNat)
 case atStart=>exact ⟨0,Nat.zero_le _,rfl,HA1,HB1⟩
 case round=>
  obtain ⟨k,hk,rfl,hA,hB⟩:=hrel
  by_cases hlt:k<L.length
  ·obtain ⟨f1,f2,f3⟩:=fN HR.out k
   have HR2:Hid (ap (FL (dE L k)) (dE L k).length):=f3
   have HL2:Hid ((dE L k).length=L.length):=f1
   obtain ⟨va,vc,hv⟩:=hA.out.len
   obtain ⟨va',vc',hv',_,sh⟩:=hA.out.shape
   obtain ⟨g,e1,e2,e3,e4⟩:=sh k (by rw[f1];exact hlt)
   rw[hv] at hv'
   have ea:va=va':=by simpa using congrArg (fun v=>match v with| .slice a _ _=>a|_=>none) hv'
   rw[←ea] at e1
   subst hv e1
   rw[←eB (by rw[f1];exact hlt)] at e4
   have hO:=f3.2.1 k (by rw[f1];exact hlt)
   obtain ⟨_,_,_,_,⟨t1,t2⟩,⟨b1,b2⟩,_⟩:=hO
   have HF2:Hid (Fo wr (some ⟨g,0,none⟩) (dE L k).length (FL (dE L k))):=(hA.out.fo (by rw[f1];omega)).2
   have hstep:Hid (dE L (k+1)=mY (dE L k) k):=rfl
   have hlen0:=f1
   rw[f1]
   clear f1 f2 f3 sh ea hv'
   generalize hM:dE L k=M at*
   have hsw:Hid (mY M k=if (FL M k).target<0\/(FL M k).balance=(FL M k).target then M else if (FL M k).target<(FL M k).balance then en M (FL M k).id (FL M k).up ((FL M k).balance-(FL M k).target) else en M (FL M k).up (FL M k).id ((FL M k).target-(FL M k).balance)):=rfl
   generalize hAA:FL M k=A at*
   obtain ⟨c0,c1,c2,c3,c4,c5,c6,c7⟩:=e4
   have DONE:Hid (∀i t m (W:World),Below w.heap.size w W->Below wr.heap.size wr W->Calls Tryz.prog 104 #[.slice (some ⟨g,0,none⟩) L.length vc,.agg #[.int .i64 7,.int .i64 i,.int .i64 t,.int .i64 m,.int .i64 0]] W fun e w'=>∃v c,e=.returned (.tuple #[v,.int .i64 c])/\AL w' w.heap.size v (en M i t m)/\Below w.heap.size w w'):=fun i t m W h1 h2=>by
    have h3:=eY (some ⟨g,0,none⟩) vc M 7 i t m 0 W (HF2.out.below h2) HR2.out
    rw[HL2.out] at h3
    exact h3.mono fun e w' ⟨v,he,hA',hB'⟩=>⟨v,_,he,hA'.mono h1.size,h1.trans (hB'.mono h1.size)⟩
   clear hAA hM hlen0
   by_cases ht:A.target<0
   ·have q1:decide (A.target<0)=true:=by simp[ht]
    have HS:Hid (mY M k=M):=(by rw[hsw.out,if_pos (Or.inl ht)]:mY M k=M)
    clear hsw
    go_wp2
    go_roundw
    case rel=>exact ⟨k+1,by omega,by go_num,by rw[hstep.out,HS.out];exact (show AL wr w.heap.size _ M by rw[HL2.out] at hA;exact hA.out).kept ((Below.refl _ _).alloc (Nf _) _),hB.out.alloc hB.out.size _⟩
    case measure=>simp[jH];omega
   ·have q1:decide (A.target<0)=false:=by simp[ht]
    by_cases hq:A.balance=A.target
    ·have q2:(A.balance == A.target)=true:=by simp[hq]
     have HS:Hid (mY M k=M):=(by rw[hsw.out,if_pos (Or.inr hq)]:mY M k=M)
     clear hsw hq
     go_wp2
     go_roundw
     case rel=>exact ⟨k+1,by omega,by go_num,by rw[hstep.out,HS.out];exact (show AL wr w.heap.size _ M by rw[HL2.out] at hA;exact hA.out).kept ((Below.refl _ _).alloc (Nf _) _),hB.out.alloc hB.out.size _⟩
     case measure=>simp[jH];omega
    ·have q2:(A.balance == A.target)=false:=by simp[hq]
     by_cases hb:A.target<A.balance
     ·have q3:decide (A.balance-A.target<0)=false:=by simp;omega
      have HS:Hid (mY M k=en M A.id A.up (A.balance-A.target)):=(by rw[hsw.out,if_neg (by omega),if_pos hb]:mY M k=en M A.id A.up (A.balance-A.target))
      clear hsw hq
      go_wp2_with fail
      refine (DONE.out _ _ _ _ ((hB.out.alloc hB.out.size _).alloc (Nat.le_trans hB.out.size (by simp)) _) (((Below.refl _ _).alloc (Nf _) _).alloc (by simp) _)).mono ?_
      rintro e w2 ⟨v2,cc,rfl,A2,B2⟩
      have A2':Hid (AL w2 w.heap.size v2 (dE L (k+1))):=by rw[hstep.out,HS.out];exact A2
      have B2':Hid (Below w.heap.size w w2):=B2
      clear A2 B2 c0 c1 c2 c3 c4 c5 c6 c7
      go_wp2
      go_roundw
      case rel=>exact ⟨k+1,by omega,by go_num,A2',B2'⟩
      case measure=>simp[jH];omega
     ·have q3:decide (A.balance-A.target<0)=true:=by simp;omega
      have HS:Hid (mY M k=en M A.up A.id (A.target-A.balance)):=(by rw[hsw.out,if_neg (by omega),if_neg hb]:mY M k=en M A.up A.id (A.target-A.balance))
      have em:Hid (-(A.balance-A.target)=A.target-A.balance):=(by omega: -(A.balance-A.target)=A.target-A.balance)
      clear hsw hq
      go_wp2_with fail
      refine (DONE.out _ _ _ _ ?_ ?_).mono ?_
      ·first|exact (hB.out.alloc hB.out.size _).alloc (Nat.le_trans hB.out.size (by simp)) _|trace_state
      ·first|exact ((Below.refl _ _).alloc (Nf _) _).alloc (by simp) _|trace_state
      rintro e w2 ⟨v2,cc,rfl,A2,B2⟩
      have A2':Hid (AL w2 w.heap.size v2 (dE L (k+1))):=by rw[hstep.out,HS.out];first|exact A2|(rw[←em.out];exact A2)
      have B2':Hid (Below w.heap.size w w2):=B2
      clear A2 B2 c0 c1 c2 c3 c4 c5 c6 c7
      go_wp2
      go_roundw
      case rel=>exact ⟨k+1,by omega,by go_num,A2',B2'⟩
      case measure=>simp[jH];omega
  ·obtain rfl:k=L.length:=by omega
   go_wp2
   go_ret
   exact ⟨_,rfl,hA.out,hB.out⟩
open Go.RowKit
end
section
open Go.RowKit
set_option maxRecDepth 8000
open Classical in
noncomputable def cr (L:List al) (D:List am):Nat->List al×Int
 | 0=>(L,0)
 | k+1=>((ao (cr L D k).1 7 (ai D k).src (ai D k).dst (ai D k).amount 0).2,(cr L D k).2+if (ao (cr L D k).1 7 (ai D k).src (ai D k).dst (ai D k).amount 0).1=0 then 0 else 1)
theorem fF {L:List al} {D:List am} (hR:ap (FL L) L.length):∀k,(cr L D k).1.length=L.length/\ap (FL (cr L D k).1) (cr L D k).1.length/\0<=(cr L D k).2/\(cr L D k).2<=k
 | 0=>⟨rfl,hR,by simp[cr],by simp[cr]⟩
 | k+1=>by
  obtain ⟨h1,h2,h3,h4⟩:=fF (D:=D) hR k
  obtain ⟨g1,_,g3⟩:=fg h2 (ai D k).src (ai D k).dst (ai D k).amount
  refine ⟨g1.trans h1,g3,?_,?_⟩
  ·simp only[cr];split <;>omega
  ·simp only[cr];split <;>omega
end
section
open Go.RowKit
set_option maxRecDepth 8000
def kW (pr:am->Bool) (P:List am):Int:=match P.findIdx? pr with|some i=>i|none=> -1
theorem lV {pr:am->Bool} {P:List am} {k:Nat} (hk:k<P.length) (hp:pr (ai P k)=true) (hno:∀j,j<k->pr (ai P j)=false):kW pr P=(k:Int):=by
 have:P.findIdx? pr=some k:=by
  rw[List.findIdx?_eq_some_iff_getElem]
  refine ⟨hk,by rw[←eD hk];exact hp,fun j hj=>?_⟩
  rw[←eD (show j<P.length by omega),hno j hj]
  simp
 simp[kW,this]
theorem kg {pr:am->Bool} {P:List am} (hno:∀j,j<P.length->pr (ai P j)=false):kW pr P= -1:=by
 have:P.findIdx? pr=none:=by
  rw[List.findIdx?_eq_none_iff]
  intro x hx
  obtain ⟨j,hj,rfl⟩:=List.getElem_of_mem hx
  rw[←eD hj]
  exact hno j hj
 simp[kW,this]
def dl (pr:am->Bool) (L:List am):List am:=L.filter fun x=> !pr x
theorem nC {pr:am->Bool} {L:List am} {j:Nat} (hj:j<L.length):dl pr (L.take (j+1))=if pr (ai L j) then dl pr (L.take j) else dl pr (L.take j)++[ai L j]:=by
 unfold dl
 rw[List.take_succ_eq_append_getElem hj,List.filter_append,eD hj]
 cases h:pr L[j] <;>simp[h]
structure us (w:World) (B g c:Nat) (L:List am) (pr:am->Bool) (i j:Nat):Prop where
 row:∃R:List am,R.length=L.length/\ag w B (.slice (some ⟨g,0,none⟩) L.length c) R/\R.take i=dl pr (L.take j)/\∀t,j<=t->t<L.length->ai R t=ai L t
 lt:i<j
end
section
open Go.RowKit
set_option maxRecDepth 8000
noncomputable def cH (day:Int) (o:am):Bool:=decide (ce o day<0)
noncomputable def kR (O:List am) (k:Bk):List am:=lN (ai O) O.length k.day
noncomputable def gb (L:List al) (O:List am) (k:Bk):List al:=dE (cr L (kR O k) (kR O k).length).1 L.length
noncomputable def eM (L:List al) (O:List am) (k:Bk):List al:=ia (dZ (FL (gb L O k)) L.length L.length) L.length
noncomputable def eJ (O:List am) (k:Bk):List am:=dl (cH (k.day+1)) O
noncomputable def dq (L:List al) (O:List am) (k:Bk):Bk:=⟨k.day+1,k.inn,k.out,k.posted+e7 (FL (gb L O k)) L.length L.length,k.missed+(cr L (kR O k) (kR O k).length).2⟩
noncomputable def fy (L:List al) (O:List am) (k:Bk):Prop:=aj (FL (eM L O k)) L.length (ai (eJ O k)) (eJ O k).length (dq L O k)
theorem nt {L:List al} (O:List am) (k:Bk) (hR:ap (FL L) L.length):(gb L O k).length=L.length/\ap (FL (gb L O k)) L.length:=by
 obtain ⟨h1,h2,_⟩:=fF (D:=kR O k) hR (kR O k).length
 have:=fN h2 L.length
 unfold gb
 refine ⟨this.1.trans h1,?_⟩
 have h3:=this.2.2
 rw[this.1,h1] at h3
 exact h3
theorem oL {w:World} {B e size n:Nat} {v:Value} {xs:List Value} (h:w.ownsRow B e size v n xs) {Q:Nat} (hQ:∀q,v.ownBlock=some q->q≠Q) (o:Nat) (u:Value):(w.setCell ⟨Q,o,none⟩ u).ownsRow B e size v n xs:=
 World.ownsRow.kept h (fX w Q o u) (by
  cases hb:v.ownBlock with
  | none=>exact Or.inl rfl
  | some g=>right;intro e';exact hQ g hb (by simpa using e'))
theorem ag.off {w:World} {B:Nat} {v:Value} {L:List am} (h:ag w B v L) {Q:Nat} (hQ:∀q,v.ownBlock=some q->q≠Q) (o:Nat) (u:Value):ag (w.setCell ⟨Q,o,none⟩ u) B v L:=oL h hQ o u
end
end Go.Proofs.YtjhgchlfpolkcaaGreatDoor
