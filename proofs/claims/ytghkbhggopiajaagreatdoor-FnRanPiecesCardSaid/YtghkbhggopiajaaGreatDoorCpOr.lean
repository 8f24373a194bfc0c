/- Copies of orders and of banks. -/
import Derived.Test.YtghkbhggopiajaaGreatDoorCopr
import Derived.Test.YtghkbhggopiajaaGreatDoorBnksr
namespace Go.Proofs.YtghkbhggopiajaaGreatDoor
open Value renaming int → Ii,slice → Sl
open IntKind renaming i64 → Jj
open Nat renaming le_refl → Nf
open Go.RowKit.Below renaming refl → Bf
set_option maxHeartbeats 4000000
open Go.RowKit
set_option maxRecDepth 8000
abbrev bW (w:World) (R:Nat) (v u:Value) (k:Bk):Prop:=ak w R (Ii Jj k.day) v u (Ii Jj k.inn) (Ii Jj k.out) (Ii Jj k.posted) (Ii Jj k.missed)
abbrev fu (w:World) (R:Nat):Prop:=ak w R (Ii Jj 0) (Sl none 0 0) (Sl none 0 0) (Ii Jj 0) (Ii Jj 0) (Ii Jj 0) (Ii Jj 0)
theorem ii {w:World} {p:Addr} {L:List au} (H:aG w (some p) L.length (ae L)):∀j u,(L.flatMap an)[j]? =some u->w.cell? (p.add j)=some u:=fun j u hj=>by
 have hjl:j<L.length*7:=by
  by_cases e:j<L.length*7
  ·exact e
  ·rw[List.getElem?_eq_none (by rw[aA];omega)] at hj;cases hj
 have hd:j=(j / 7)*7+j % 7:=by omega
 have hq:j / 7<L.length:=by omega
 obtain ⟨b,o,ea,hbz,hA⟩:=H.acc hq
 have ep:p=⟨b,o,none⟩:=by simpa using ea
 subst ep
 rw[hd,fF L _ _ hq (Nat.mod_lt _ (by omega))] at hj
 have e1:(⟨b,o,none⟩:Addr).add j=⟨b,o+(j / 7)*7+j % 7,none⟩:=by
  by_cases h0:j=0
  ·subst h0;simp[Addr.add]
  ·simp only[Addr.add,h0];simp;omega
 rw[e1]
 rw[dn hq] at hA
 obtain ⟨c0,c1,c2,c3,c4,c5,c6⟩:=hA
 have hm:j % 7<7:=Nat.mod_lt _ (by omega)
 generalize L[j / 7]=x at*
 generalize j % 7=m at*
 match m,hm with
 | 0,_=>simpa [an] using c0.trans hj
 | 1,_=>simpa [an] using c1.trans hj
 | 2,_=>simpa [an] using c2.trans hj
 | 3,_=>simpa [an] using c3.trans hj
 | 4,_=>simpa [an] using c4.trans hj
 | 5,_=>simpa [an] using c5.trans hj
 | 6,_=>simpa [an] using c6.trans hj
set_option maxRecDepth 8000 in
theorem na (a:Option Addr) (n c:Nat) (L:List au) (w:World) (hn:n=L.length) (h:aG w a n (ae L)):
  Calls Tryz.prog 114 #[Sl a n c] w fun e w'=>∃v,e=.returned v/\ah w' w.heap.size v L/\Below w.heap.size w w':=by
 obtain ⟨i0,hi,hz0,hz1,hz2⟩:=info_parts dd
 have A0:Hid (ah w w.heap.size (Sl none 0 0) []):=World.ownsRow_nil _ _ _ _
 have H:=aa h
 have hb:=h.1
 clear h
 subst hn
 cases a with
 | none=>
  have h0:L.length=0:=by
   rcases H.out.2 with h0|⟨b,o,ha,_⟩
   ·exact h0
   ·cases ha
  have hL:L=[]:=List.length_eq_zero_iff.1 h0
  subst hL
  go_enter Tryz.func114,Tryz.ntmps114
  go_wp2
  go_ret
  exact ⟨_,rfl,A0.out,Bf _ _⟩
 | some p=>
  have HC:Hid (∀j u,(L.flatMap an)[j]? =some u->w.cell? (p.add j)=some u):=fun j u hj=>by
   have hjl:j<L.length*7:=by
    by_cases e:j<L.length*7
    ·exact e
    ·rw[List.getElem?_eq_none (by rw[aA];omega)] at hj;cases hj
   have hd:j=(j / 7)*7+j % 7:=by omega
   have hq:j / 7<L.length:=by omega
   obtain ⟨b,o,ea,hbz,hA⟩:=H.out.acc hq
   have ep:p=⟨b,o,none⟩:=by simpa using ea
   subst ep
   rw[hd,fF L _ _ hq (Nat.mod_lt _ (by omega))] at hj
   have e1:(⟨b,o,none⟩:Addr).add j=⟨b,o+(j / 7)*7+j % 7,none⟩:=by
    by_cases h0:j=0
    ·subst h0;simp[Addr.add]
    ·simp only[Addr.add,h0];simp;omega
   rw[e1]
   rw[dn hq] at hA
   obtain ⟨c0,c1,c2,c3,c4,c5,c6⟩:=hA
   have hm:j % 7<7:=Nat.mod_lt _ (by omega)
   generalize L[j / 7]=x at*
   generalize j % 7=m at*
   match m,hm with
   | 0,_=>simpa [an] using c0.trans hj
   | 1,_=>simpa [an] using c1.trans hj
   | 2,_=>simpa [an] using c2.trans hj
   | 3,_=>simpa [an] using c3.trans hj
   | 4,_=>simpa [an] using c4.trans hj
   | 5,_=>simpa [an] using c5.trans hj
   | 6,_=>simpa [an] using c6.trans hj
  go_enter Tryz.func114,Tryz.ntmps114
  go_wp2_with (at_builtin;refine wpList_append_own _ rfl _ _ 36 rfl w.heap.size 45 i0 _ 7 56 Tryz.underlying36 hi hz0 hz1 hz2 rfl (by decide) _ _ _ rfl A0.out p L.length c (L.flatMap an) rfl (aA L) HC.out ?_ ?_ ?_ ?_ ?_)
  ·intro u hu
   obtain ⟨x,_,hx⟩:=List.mem_flatMap.1 hu
   simp only[an,List.mem_cons,List.not_mem_nil,or_false] at hx
   rcases hx with e|e|e|e|e|e|e <;>subst e <;>rfl
  ·unfold maxLen;simp;omega
  ·simp;omega
  ·simp
  ·intro v' w2 hown hgrow hnn
   have A2:Hid (ah w2 w.heap.size v' L):=by
    show ah w2 w.heap.size v' L
    unfold ah
    simpa using hown
   have B2:Hid (Below w.heap.size w w2):=(Bf _ _).grown hgrow (by simp) (fun q hq=>by simp[Value.ownBlock] at hq)
   clear hown hgrow hnn
   obtain ⟨a2,c2,hv2,_⟩:=A2.out.shape
   subst hv2
   go_wp2
   go_ret
   exact ⟨_,rfl,A2.out,B2.out⟩
theorem pI {w:World} {B e size n:Nat} {v:Value} {xs:List Value} (h:w.ownsRow B e size v n xs) {Q:Nat} (hQ:Q<B) (q:Nat) (u:Value):(w.setCell ⟨Q,q,none⟩ u).ownsRow B e size v n xs:=
 World.ownsRow.kept h (bD w Q q u) (by
  cases hb:v.ownBlock with
  | none=>exact Or.inl rfl
  | some g=>right;intro e';have:=(World.ownsRow.lt h g hb).1;simp at e';omega)
theorem AL.far {w:World} {B:Nat} {v:Value} {L:List aj} (h:AL w B v L) {Q:Nat} (hQ:Q<B) (q:Nat) (u:Value):AL (w.setCell ⟨Q,q,none⟩ u) B v L:=pI h hQ q u
theorem ah.far {w:World} {B:Nat} {v:Value} {L:List au} (h:ah w B v L) {Q:Nat} (hQ:Q<B) (q:Nat) (u:Value):ah (w.setCell ⟨Q,q,none⟩ u) B v L:=pI h hQ q u
theorem dF (a b:Option Addr) (c d:Nat) (L:List aj) (O:List au) (k:Bk) (w:World) (hF:Fo w a L.length (FL L)) (hO:aG w b O.length (ae O)):
  Calls Tryz.prog 67 #[.agg #[Ii Jj k.day,Sl a L.length c,Sl b O.length d,Ii Jj k.inn,Ii Jj k.out,Ii Jj k.posted,Ii Jj k.missed]] w fun e w'=>∃v u,e=.returned (.agg #[Ii Jj k.day,v,u,Ii Jj k.inn,Ii Jj k.out,Ii Jj k.posted,Ii Jj k.missed])/\AL w' w.heap.size v L/\ah w' w.heap.size u O/\Below w.heap.size w w':=by
 have HF:=aa hF
 have HO:=aa hO
 clear hF hO
 obtain ⟨W0,hW0⟩:∃W0,W0=(w.alloc (.cells #[Ii Jj k.day,Sl a L.length c,Sl b O.length d,Ii Jj k.inn,Ii Jj k.out,Ii Jj k.posted,Ii Jj k.missed] 38)).alloc (.cells #[Ii Jj 0,Sl none 0 0,Sl none 0 0,Ii Jj 0,Ii Jj 0,Ii Jj 0,Ii Jj 0] 38):=⟨_,rfl⟩
 have hs0:W0.heap.size=w.heap.size+1+1:=by rw[hW0];simp
 have b0:Below w.heap.size w W0:=by rw[hW0];exact ((Bf _ _).alloc (Nf _) _).alloc (by simp) _
 have z1:bW W0 w.heap.size (Sl a L.length c) (Sl b O.length d) k:=by
  rw[hW0];exact (ak.new w _ _ _ _ _ _ _ 38).kept ((Bf _ _).alloc (Nf _) _) (by simp)
 have z2:fu W0 (w.heap.size+1):=by
  rw[hW0]
  have:=ak.new (w.alloc (.cells #[Ii Jj k.day,Sl a L.length c,Sl b O.length d,Ii Jj k.inn,Ii Jj k.out,Ii Jj k.posted,Ii Jj k.missed] 38)) (Ii Jj 0) (Sl none 0 0) (Sl none 0 0) (Ii Jj 0) (Ii Jj 0) (Ii Jj 0) (Ii Jj 0) 38
  rw[World.size_alloc] at this
  exact this
 have HW0:=aa hW0
 have HB0:=aa b0
 have Z1:=aa z1
 have Z2:=aa z2
 clear hW0 b0 z1 z2
 go_enter Tryz.func67,Tryz.ntmps67
 go_wp2_with fail
 rw[←HW0.out]
 clear HW0
 refine (fg a L.length c L _ rfl (HF.out.below HB0.out)).mono ?_
 rintro e w1 ⟨v1,rfl,A1,D1⟩
 rw[hs0] at A1
 obtain ⟨a1,c1,hv1⟩:=A1.len
 subst hv1
 have Y1:=Z1.out.kept D1 (by omega)
 have Y2:=Z2.out.kept D1 (by omega)
 obtain ⟨W2,hW2⟩:∃W2,W2=w1.setCell ⟨w.heap.size,1,none⟩ (Sl a1 L.length c1):=⟨_,rfl⟩
 have HW2:=aa hW2
 have X1:Hid (bW W2 w.heap.size (Sl a1 L.length c1) (Sl b O.length d) k):=by rw[hW2];exact Y1.set1 _
 have X2:Hid (fu W2 (w.heap.size+1)):=by rw[hW2];exact Y2.far (by omega) _ _
 have A2:Hid (AL W2 (w.heap.size+1+1) (Sl a1 L.length c1) L):=by rw[hW2];exact A1.far (by omega) _ _
 have HB2:Hid (Below w.heap.size w W2):=by rw[hW2];exact ai (HB0.out.trans (D1.mono (by omega))) (Nf _) _ _
 have hs2:w.heap.size+1+1<=W2.heap.size:=by rw[hW2];simp[World.setCell];have:=D1.size;omega
 obtain ⟨⟨s0,s1,s2,s3,s4,s5,s6⟩,sf,sz⟩:=Y1
 clear Y2 A1 D1 Z1 Z2 HB0 hW2 hs0
 go_wp2_with fail
 rw[←HW2.out]
 clear HW2 s0 s1 s2 s3 s4 s5 s6 sf sz
 refine (na b O.length d O _ rfl (HO.out.below HB2.out)).mono ?_
 rintro e w3 ⟨v2,rfl,A3,D3⟩
 obtain ⟨a3,c3,hv3,_⟩:=A3.shape
 subst hv3
 have Y1:=X1.out.kept D3 (by omega)
 have Y2:=X2.out.kept D3 (by omega)
 have A3':=aa (A3.mono hs2)
 have A2':=aa (A2.out.kept D3)
 have HB3:Hid (Below w.heap.size w w3):=HB2.out.trans (D3.mono (by omega))
 obtain ⟨⟨s0,s1,s2,s3,s4,s5,s6⟩,sf,sz⟩:=Y1
 obtain ⟨⟨r0,r1,r2,r3,r4,r5,r6⟩,rf,rz⟩:=Y2
 clear X1 X2 A3 A2 HB2 D3 hs2
 go_wp2
 refine bodyPost_ret (v:=.agg #[Ii Jj k.day,Sl a1 L.length c1,Sl a3 O.length c3,Ii Jj k.inn,Ii Jj k.out,Ii Jj k.posted,Ii Jj k.missed]) (by simp[results,Tryz.results67,go_sem,r0,r1,r2,r3,r4,r5,r6]) rfl ⟨_,_,rfl,?_,?_,?_⟩
 ·refine AL.mono (B:=w.heap.size+1+1) ?_ (by omega)
  repeat (refine AL.far ?_ (by omega) _ _)
  exact A2'.out
 ·refine ah.mono (B:=w.heap.size+1+1) ?_ (by omega)
  repeat (refine ah.far ?_ (by omega) _ _)
  exact A3'.out
 ·repeat (refine ai ?_ (by omega) _ _)
  exact HB3.out
theorem cL (O:List au):∀u ∈ O.flatMap an,u.oneCell'=true:=by
 intro u hu
 obtain ⟨x,_,hx⟩:=List.mem_flatMap.1 hu
 simp only[an,List.mem_cons,List.not_mem_nil,or_false] at hx
 rcases hx with e|e|e|e|e|e|e <;>subst e <;>rfl
theorem aC (a b:Option Addr) (c d:Nat) (L:List aj) (O:List au) (k:Bk) (w:World) (hF:Fo w a L.length (FL L)) (hO:aG w b O.length (ae O)):
  Calls Tryz.prog 90 #[.agg #[Ii Jj k.day,Sl a L.length c,Sl b O.length d,Ii Jj k.inn,Ii Jj k.out,Ii Jj k.posted,Ii Jj k.missed]] w fun e w'=>∃v u,e=.returned (.agg #[Ii Jj k.day,v,u,Ii Jj k.inn,Ii Jj k.out,Ii Jj k.posted,Ii Jj k.missed])/\AL w' w.heap.size v L/\ah w' w.heap.size u O/\Below w.heap.size w w':=by
 have HF:=aa hF
 have HO:=aa hO
 have hol:=hO.1
 obtain ⟨i0,hi,hz0,hz1,hz2⟩:=info_parts dd
 clear hF hO
 obtain ⟨W0,hW0⟩:∃W0,W0=((w.alloc (.cells #[Ii Jj k.day,Sl a L.length c,Sl b O.length d,Ii Jj k.inn,Ii Jj k.out,Ii Jj k.posted,Ii Jj k.missed] 38)).alloc (.cells #[Ii Jj 0,Sl none 0 0,Sl none 0 0,Ii Jj 0,Ii Jj 0,Ii Jj 0,Ii Jj 0] 38)).alloc (.cells #[Ii Jj k.day,Sl a L.length c,Sl b O.length d,Ii Jj k.inn,Ii Jj k.out,Ii Jj k.posted,Ii Jj k.missed] 38):=⟨_,rfl⟩
 have hs0:W0.heap.size=w.heap.size+1+1+1:=by rw[hW0];simp
 have b0:Below w.heap.size w W0:=by rw[hW0];exact (((Bf _ _).alloc (Nf _) _).alloc (by simp) _).alloc (by simp;omega) _
 have z1:bW W0 w.heap.size (Sl a L.length c) (Sl b O.length d) k:=by
  rw[hW0];exact ((ak.new w _ _ _ _ _ _ _ 38).kept ((Bf _ _).alloc (Nf _) _) (by simp)).kept ((Bf _ _).alloc (Nf _) _) (by simp;omega)
 have z2:fu W0 (w.heap.size+1):=by
  rw[hW0]
  have:=ak.new (w.alloc (.cells #[Ii Jj k.day,Sl a L.length c,Sl b O.length d,Ii Jj k.inn,Ii Jj k.out,Ii Jj k.posted,Ii Jj k.missed] 38)) (Ii Jj 0) (Sl none 0 0) (Sl none 0 0) (Ii Jj 0) (Ii Jj 0) (Ii Jj 0) (Ii Jj 0) 38
  rw[World.size_alloc] at this
  exact this.kept ((Bf _ _).alloc (Nf _) _) (by simp)
 have z3:bW W0 (w.heap.size+1+1) (Sl a L.length c) (Sl b O.length d) k:=by
  rw[hW0]
  have:=ak.new ((w.alloc (.cells #[Ii Jj k.day,Sl a L.length c,Sl b O.length d,Ii Jj k.inn,Ii Jj k.out,Ii Jj k.posted,Ii Jj k.missed] 38)).alloc (.cells #[Ii Jj 0,Sl none 0 0,Sl none 0 0,Ii Jj 0,Ii Jj 0,Ii Jj 0,Ii Jj 0] 38)) (Ii Jj k.day) (Sl a L.length c) (Sl b O.length d) (Ii Jj k.inn) (Ii Jj k.out) (Ii Jj k.posted) (Ii Jj k.missed) 38
  simp only[World.size_alloc] at this
  exact this
 have HW0:=aa hW0
 have HB0:=aa b0
 have Z1:=aa z1
 have Z2:=aa z2
 have Z3:=aa z3
 clear hW0 b0 z1 z2 z3
 go_enter Tryz.func90,Tryz.ntmps90
 go_wp2_with fail
 rw[←HW0.out]
 clear HW0
 refine (dU a L.length c L _ rfl (HF.out.below HB0.out)).mono ?_
 rintro e w1 ⟨v1,rfl,A1,D1⟩
 rw[hs0] at A1
 obtain ⟨a1,c1,hv1⟩:=A1.len
 subst hv1
 have Y1:=Z1.out.kept D1 (by omega)
 have Y2:=Z2.out.kept D1 (by omega)
 have Y3:=Z3.out.kept D1 (by omega)
 obtain ⟨W2,hW2⟩:∃W2,W2=w1.setCell ⟨w.heap.size+1+1,1,none⟩ (Sl a1 L.length c1):=⟨_,rfl⟩
 have HW2:=aa hW2
 have hs2:w.heap.size+1+1+1<=W2.heap.size:=by rw[hW2];simp[World.setCell];have:=D1.size;omega
 have B2:Below w.heap.size w W2:=by rw[hW2];exact ai (HB0.out.trans (D1.mono (by omega))) (by omega) _ _
 obtain ⟨W3,hW3⟩:∃W3,W3=W2.alloc (.cells #[] 45):=⟨_,rfl⟩
 have HW3:=aa hW3
 have hs3:W3.heap.size=W2.heap.size+1:=by rw[hW3];simp
 have D3:Below W2.heap.size W2 W3:=by rw[hW3];exact (Bf _ _).alloc (Nf _) _
 have X1:Hid (bW W3 w.heap.size (Sl a L.length c) (Sl b O.length d) k):=ak.kept (by rw[hW2];exact Y1.far (by omega) _ _) D3 (by omega)
 have X2:Hid (fu W3 (w.heap.size+1)):=ak.kept (by rw[hW2];exact Y2.far (by omega) _ _) D3 (by omega)
 have X3:Hid (bW W3 (w.heap.size+1+1) (Sl a1 L.length c1) (Sl b O.length d) k):=ak.kept (by rw[hW2];exact Y3.set1 _) D3 (by omega)
 have A2:Hid (AL W3 (w.heap.size+1+1+1) (Sl a1 L.length c1) L):=AL.kept (by rw[hW2];exact A1.far (by omega) _ _) D3
 have HB3:Hid (Below w.heap.size w W3):=B2.trans (D3.mono (by omega))
 have HLT:Hid (∀g,(Value.slice a1 L.length c1).ownBlock=some g->g<W2.heap.size):=fun g hg=>by have:=(World.ownsRow.lt (show AL W2 (w.heap.size+1+1+1) (Sl a1 L.length c1) L by rw[hW2];exact A1.far (by omega) _ _) g hg).2;exact this
 have E0:Hid (ah W3 (w.heap.size+1+1+1) (Sl (some ⟨W2.heap.size,0,none⟩) 0 0) []):=by rw[hW3];exact ah.empty W2 _ hs2
 obtain ⟨⟨o0,o1,o2,o3,o4,o5,o6⟩,of,oz⟩:=Y3
 obtain ⟨⟨s0,s1,s2,s3,s4,s5,s6⟩,_,sz⟩:=Y1
 have HO3:=aa (HO.out.below HB3.out)
 have hs23:w.heap.size+1+1+1<=W3.heap.size:=by omega
 clear Y2 A1 D1 Z1 Z2 Z3 HB0 hs0 D3 B2 hW2
 go_upto_region 3 with fail
 rw[←HW2.out]
 clear o0 o1 o2 o3 o4 o5 o6 of oz s0 s1 s2 s3 s4 s5 s6 sz HW2
 have HB23:Hid (Below W2.heap.size W2 W3):=by rw[HW3.out];exact (Bf _ _).alloc (Nf _) _
 have tt:W2.cell? ⟨w.heap.size,2,none⟩=some (Sl b O.length d):=(HB23.out.cell (p:=⟨w.heap.size,2,none⟩) (show w.heap.size<W2.heap.size by omega)).symm.trans X1.out.1.2.2.1
 have tt2:(W2.alloc (.cells #[] 45)).cell? ⟨w.heap.size,2,none⟩=some (Sl b O.length d):=by rw[←HW3.out];exact X1.out.1.2.2.1
 have hlt2:w.heap.size<W2.heap.size:=by omega
 cases b with
 | none=>
  have h0:O.length=0:=by
   rcases HO3.out.2 with h0|⟨b',o',ha,_⟩
   ·exact h0
   ·cases ha
  have hO0:O=[]:=List.length_eq_zero_iff.1 h0
  subst hO0
  rw[HW3.out] at X2 X3
  obtain ⟨⟨r0,r1,r2,r3,r4,r5,r6⟩,rf,rz⟩:=X2.out
  obtain ⟨⟨o0,o1,o2,o3,o4,o5,o6⟩,of,oz⟩:=X3.out
  go_wp2
  refine bodyPost_ret (v:=.agg #[Ii Jj k.day,Sl a1 L.length c1,Sl (some ⟨W2.heap.size,0,none⟩) 0 0,Ii Jj k.inn,Ii Jj k.out,Ii Jj k.posted,Ii Jj k.missed]) (by simp[results,Tryz.results90,go_sem,r0,r1,r2,r3,r4,r5,r6]) rfl ⟨_,_,rfl,?_,?_,?_⟩
  ·refine AL.mono (B:=w.heap.size+1+1+1) ?_ (by omega)
   repeat (refine AL.far ?_ (by omega) _ _)
   rw[←HW3.out];exact A2.out
  ·refine ah.mono (B:=w.heap.size+1+1+1) ?_ (by omega)
   repeat (refine ah.far ?_ (by omega) _ _)
   rw[←HW3.out];exact E0.out
  ·repeat (refine ai ?_ (by omega) _ _)
   rw[←HW3.out];exact HB3.out
 | some p=>
  have HC:Hid (∀j u,(O.flatMap an)[j]? =some u->W3.cell? (p.add j)=some u):=ii HO3.out
  have AFT:Hid (∀v4 w4,w4.ownsRow (w.heap.size+1+1+1) 45 7 v4 (0+O.length) ([]++O.flatMap an)->W3.grownBy w4 (Value.slice (some ⟨W2.heap.size,0,none⟩) 0 0).ownBlock->∃a4 c4,v4=Sl a4 O.length c4/\ah w4 (w.heap.size+1+1+1) v4 O/\fu w4 (w.heap.size+1)/\bW w4 (w.heap.size+1+1) (Sl a1 L.length c1) (Sl (some p) O.length d) k/\AL w4 (w.heap.size+1+1+1) (Sl a1 L.length c1) L/\Below w.heap.size w w4):=by
   intro v4 w4 hown hgrow
   have ho:ah w4 (w.heap.size+1+1+1) v4 O:=by unfold ah;simpa using hown
   have D4:Below W2.heap.size W3 w4:=(Bf _ _).grown hgrow (by omega) (fun j hj=>by simp[Value.ownBlock] at hj;omega)
   obtain ⟨a4,c4,hv4,_⟩:=ho.shape
   refine ⟨a4,c4,hv4,ho,X2.out.kept D4 (by omega),X3.out.kept D4 (by omega),?_,HB3.out.trans (D4.mono (by omega))⟩
   exact World.ownsRow.kept A2.out hgrow (by
    cases hb:(Value.slice a1 L.length c1).ownBlock with
    | none=>exact Or.inl rfl
    | some g=>right;intro e';have:=HLT.out g hb;simp[Value.ownBlock] at e';omega)
  go_wp2_with (at_builtin;rw[←HW3.out];refine wpList_append_own _ rfl _ _ 36 rfl (w.heap.size+1+1+1) 45 i0 _ 7 56 Tryz.underlying36 hi hz0 hz1 hz2 rfl (by decide) _ _ _ rfl E0.out p O.length d (O.flatMap an) rfl (aA O) HC.out (cL O) (by unfold maxLen;simp;omega) (by simp;omega) (by omega) ?_;intro v4 w4 hown hgrow hnn;obtain ⟨a4,c4,hv4,ho4,⟨⟨r0,r1,r2,r3,r4,r5,r6⟩,rf,rz⟩,⟨⟨o0,o1,o2,o3,o4,o5,o6⟩,of,oz⟩,al4,bl4⟩:=AFT.out v4 w4 hown hgrow;subst hv4;clear hown hgrow hnn)
  refine bodyPost_ret (v:=.agg #[Ii Jj k.day,Sl a1 L.length c1,Sl a4 O.length c4,Ii Jj k.inn,Ii Jj k.out,Ii Jj k.posted,Ii Jj k.missed]) (by simp[results,Tryz.results90,go_sem,r0,r1,r2,r3,r4,r5,r6]) rfl ⟨_,_,rfl,?_,?_,?_⟩
  ·refine AL.mono (B:=w.heap.size+1+1+1) ?_ (by omega)
   repeat (refine AL.far ?_ (by omega) _ _)
   exact al4
  ·refine ah.mono (B:=w.heap.size+1+1+1) ?_ (by omega)
   repeat (refine ah.far ?_ (by omega) _ _)
   exact ho4
  ·repeat (refine ai ?_ (by omega) _ _)
   exact bl4
end Go.Proofs.YtghkbhggopiajaaGreatDoor
