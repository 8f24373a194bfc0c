/- Copies of orders and of banks. -/
import Derived.Test.YtghkbhggopiajaaGreatDoorCopr
import Derived.Test.YtghkbhggopiajaaGreatDoorBnksr
set_option maxHeartbeats 4000000
namespace Go.Proofs.YtghkbhggopiajaaGreatDoor
open Go.RowKit
set_option maxRecDepth 8000
abbrev BxK (w:World) (R:Nat) (v u:Value) (k:Bk):Prop:=Box7 w R (.int .i64 k.day) v u (.int .i64 k.inn) (.int .i64 k.out) (.int .i64 k.posted) (.int .i64 k.missed)
abbrev BxZ (w:World) (R:Nat):Prop:=Box7 w R (.int .i64 0) (.slice none 0 0) (.slice none 0 0) (.int .i64 0) (.int .i64 0) (.int .i64 0) (.int .i64 0)
theorem ords_news {w:World} {p:Addr} {L:List Ord} (H:Ords w (some p) L.length (OrdF L)):∀j u,(L.flatMap OrdC)[j]? =some u->w.cell? (p.add j)=some u:=fun j u hj=>by
 have hjl:j<L.length*7:=by
  by_cases e:j<L.length*7
  ·exact e
  ·rw[List.getElem?_eq_none (by rw[flatOrd_len];omega)] at hj;cases hj
 have hd:j=(j / 7)*7+j % 7:=by omega
 have hq:j / 7<L.length:=by omega
 obtain ⟨b,o,ea,hbz,hA⟩:=H.acc hq
 have ep:p=⟨b,o,none⟩:=by simpa using ea
 subst ep
 rw[hd,flatOrd_get L _ _ hq (Nat.mod_lt _ (by omega))] at hj
 have e1:(⟨b,o,none⟩:Addr).add j=⟨b,o+(j / 7)*7+j % 7,none⟩:=by
  by_cases h0:j=0
  ·subst h0;simp[Addr.add]
  ·simp only[Addr.add,h0];simp;omega
 rw[e1]
 rw[OrdF_lt hq] at hA
 obtain ⟨c0,c1,c2,c3,c4,c5,c6⟩:=hA
 have hm:j % 7<7:=Nat.mod_lt _ (by omega)
 generalize L[j / 7]=x at*
 generalize j % 7=m at*
 match m,hm with
 | 0,_=>simpa [OrdC] using c0.trans hj
 | 1,_=>simpa [OrdC] using c1.trans hj
 | 2,_=>simpa [OrdC] using c2.trans hj
 | 3,_=>simpa [OrdC] using c3.trans hj
 | 4,_=>simpa [OrdC] using c4.trans hj
 | 5,_=>simpa [OrdC] using c5.trans hj
 | 6,_=>simpa [OrdC] using c6.trans hj
set_option maxRecDepth 8000 in
theorem implCopiedO (a:Option Addr) (n c:Nat) (L:List Ord) (w:World) (hn:n=L.length) (h:Ords w a n (OrdF L)):
  Calls Tryz.prog 114 #[.slice a n c] w fun e w'=>∃v,e=.returned v/\OrdL w' w.heap.size v L/\Below w.heap.size w w':=by
 obtain ⟨i0,hi,hz0,hz1,hz2⟩:=info_parts infoOrd
 have A0:Hid (OrdL w w.heap.size (.slice none 0 0) []):=World.ownsRow_nil _ _ _ _
 have H:=hidOf h
 have hb:=h.1
 clear h
 subst hn
 cases a with
 | none=>
  have h0:L.length=0:=by
   rcases H.out.2 with h0|⟨b,o,ha,_⟩
   ·exact h0
   ·cases ha
  have hL:L=[]:=List.length_eq_zero_iff.1 h0
  subst hL
  go_enter Tryz.func114,Tryz.ntmps114
  go_wp2
  go_ret
  exact ⟨_,rfl,A0.out,Below.refl _ _⟩
 | some p=>
  have HC:Hid (∀j u,(L.flatMap OrdC)[j]? =some u->w.cell? (p.add j)=some u):=fun j u hj=>by
   have hjl:j<L.length*7:=by
    by_cases e:j<L.length*7
    ·exact e
    ·rw[List.getElem?_eq_none (by rw[flatOrd_len];omega)] at hj;cases hj
   have hd:j=(j / 7)*7+j % 7:=by omega
   have hq:j / 7<L.length:=by omega
   obtain ⟨b,o,ea,hbz,hA⟩:=H.out.acc hq
   have ep:p=⟨b,o,none⟩:=by simpa using ea
   subst ep
   rw[hd,flatOrd_get L _ _ hq (Nat.mod_lt _ (by omega))] at hj
   have e1:(⟨b,o,none⟩:Addr).add j=⟨b,o+(j / 7)*7+j % 7,none⟩:=by
    by_cases h0:j=0
    ·subst h0;simp[Addr.add]
    ·simp only[Addr.add,h0];simp;omega
   rw[e1]
   rw[OrdF_lt hq] at hA
   obtain ⟨c0,c1,c2,c3,c4,c5,c6⟩:=hA
   have hm:j % 7<7:=Nat.mod_lt _ (by omega)
   generalize L[j / 7]=x at*
   generalize j % 7=m at*
   match m,hm with
   | 0,_=>simpa [OrdC] using c0.trans hj
   | 1,_=>simpa [OrdC] using c1.trans hj
   | 2,_=>simpa [OrdC] using c2.trans hj
   | 3,_=>simpa [OrdC] using c3.trans hj
   | 4,_=>simpa [OrdC] using c4.trans hj
   | 5,_=>simpa [OrdC] using c5.trans hj
   | 6,_=>simpa [OrdC] using c6.trans hj
  go_enter Tryz.func114,Tryz.ntmps114
  go_wp2_with (at_builtin;refine wpList_append_own _ rfl _ _ 36 rfl w.heap.size 45 i0 _ 7 56 Tryz.underlying36 hi hz0 hz1 hz2 rfl (by decide) _ _ _ rfl A0.out p L.length c (L.flatMap OrdC) rfl (flatOrd_len L) HC.out ?_ ?_ ?_ ?_ ?_)
  ·intro u hu
   obtain ⟨x,_,hx⟩:=List.mem_flatMap.1 hu
   simp only[OrdC,List.mem_cons,List.not_mem_nil,or_false] at hx
   rcases hx with e|e|e|e|e|e|e <;>subst e <;>rfl
  ·unfold maxLen;simp;omega
  ·simp;omega
  ·simp
  ·intro v' w2 hown hgrow hnn
   have A2:Hid (OrdL w2 w.heap.size v' L):=by
    show OrdL w2 w.heap.size v' L
    unfold OrdL
    simpa using hown
   have B2:Hid (Below w.heap.size w w2):=(Below.refl _ _).grown hgrow (by simp) (fun q hq=>by simp[Value.ownBlock] at hq)
   clear hown hgrow hnn
   obtain ⟨a2,c2,hv2,_⟩:=A2.out.shape
   subst hv2
   go_wp2
   go_ret
   exact ⟨_,rfl,A2.out,B2.out⟩
theorem row_far {w:World} {B e size n:Nat} {v:Value} {xs:List Value} (h:w.ownsRow B e size v n xs) {Q:Nat} (hQ:Q<B) (q:Nat) (u:Value):(w.setCell ⟨Q,q,none⟩ u).ownsRow B e size v n xs:=
 World.ownsRow.kept h (grown_set1Ord w Q q u) (by
  cases hb:v.ownBlock with
  | none=>exact Or.inl rfl
  | some g=>right;intro e';have:=(World.ownsRow.lt h g hb).1;simp at e';omega)
theorem AL.far {w:World} {B:Nat} {v:Value} {L:List Acc} (h:AL w B v L) {Q:Nat} (hQ:Q<B) (q:Nat) (u:Value):AL (w.setCell ⟨Q,q,none⟩ u) B v L:=row_far h hQ q u
theorem OrdL.far {w:World} {B:Nat} {v:Value} {L:List Ord} (h:OrdL w B v L) {Q:Nat} (hQ:Q<B) (q:Nat) (u:Value):OrdL (w.setCell ⟨Q,q,none⟩ u) B v L:=row_far h hQ q u
theorem implCopiedBank (a b:Option Addr) (c d:Nat) (L:List Acc) (O:List Ord) (k:Bk) (w:World) (hF:Fo w a L.length (FL L)) (hO:Ords w b O.length (OrdF O)):
  Calls Tryz.prog 67 #[.agg #[.int .i64 k.day,.slice a L.length c,.slice b O.length d,.int .i64 k.inn,.int .i64 k.out,.int .i64 k.posted,.int .i64 k.missed]] w fun e w'=>∃v u,e=.returned (.agg #[.int .i64 k.day,v,u,.int .i64 k.inn,.int .i64 k.out,.int .i64 k.posted,.int .i64 k.missed])/\AL w' w.heap.size v L/\OrdL w' w.heap.size u O/\Below w.heap.size w w':=by
 have HF:=hidOf hF
 have HO:=hidOf hO
 clear hF hO
 obtain ⟨W0,hW0⟩:∃W0,W0=(w.alloc (.cells #[.int .i64 k.day,.slice a L.length c,.slice b O.length d,.int .i64 k.inn,.int .i64 k.out,.int .i64 k.posted,.int .i64 k.missed] 38)).alloc (.cells #[.int .i64 0,.slice none 0 0,.slice none 0 0,.int .i64 0,.int .i64 0,.int .i64 0,.int .i64 0] 38):=⟨_,rfl⟩
 have hs0:W0.heap.size=w.heap.size+1+1:=by rw[hW0];simp
 have b0:Below w.heap.size w W0:=by rw[hW0];exact ((Below.refl _ _).alloc (Nat.le_refl _) _).alloc (by simp) _
 have z1:BxK W0 w.heap.size (.slice a L.length c) (.slice b O.length d) k:=by
  rw[hW0];exact (Box7.new w _ _ _ _ _ _ _ 38).kept ((Below.refl _ _).alloc (Nat.le_refl _) _) (by simp)
 have z2:BxZ W0 (w.heap.size+1):=by
  rw[hW0]
  have:=Box7.new (w.alloc (.cells #[.int .i64 k.day,.slice a L.length c,.slice b O.length d,.int .i64 k.inn,.int .i64 k.out,.int .i64 k.posted,.int .i64 k.missed] 38)) (.int .i64 0) (.slice none 0 0) (.slice none 0 0) (.int .i64 0) (.int .i64 0) (.int .i64 0) (.int .i64 0) 38
  rw[World.size_alloc] at this
  exact this
 have HW0:=hidOf hW0
 have HB0:=hidOf b0
 have Z1:=hidOf z1
 have Z2:=hidOf z2
 clear hW0 b0 z1 z2
 go_enter Tryz.func67,Tryz.ntmps67
 go_wp2_with fail
 rw[←HW0.out]
 clear HW0
 refine (implCopied a L.length c L _ rfl (HF.out.below HB0.out)).mono ?_
 rintro e w1 ⟨v1,rfl,A1,D1⟩
 rw[hs0] at A1
 obtain ⟨a1,c1,hv1⟩:=A1.len
 subst hv1
 have Y1:=Z1.out.kept D1 (by omega)
 have Y2:=Z2.out.kept D1 (by omega)
 obtain ⟨W2,hW2⟩:∃W2,W2=w1.setCell ⟨w.heap.size,1,none⟩ (.slice a1 L.length c1):=⟨_,rfl⟩
 have HW2:=hidOf hW2
 have X1:Hid (BxK W2 w.heap.size (.slice a1 L.length c1) (.slice b O.length d) k):=by rw[hW2];exact Y1.set1 _
 have X2:Hid (BxZ W2 (w.heap.size+1)):=by rw[hW2];exact Y2.far (by omega) _ _
 have A2:Hid (AL W2 (w.heap.size+1+1) (.slice a1 L.length c1) L):=by rw[hW2];exact A1.far (by omega) _ _
 have HB2:Hid (Below w.heap.size w W2):=by rw[hW2];exact below_far (HB0.out.trans (D1.mono (by omega))) (Nat.le_refl _) _ _
 have hs2:w.heap.size+1+1<=W2.heap.size:=by rw[hW2];simp[World.setCell];have:=D1.size;omega
 obtain ⟨⟨s0,s1,s2,s3,s4,s5,s6⟩,sf,sz⟩:=Y1
 clear Y2 A1 D1 Z1 Z2 HB0 hW2 hs0
 go_wp2_with fail
 rw[←HW2.out]
 clear HW2 s0 s1 s2 s3 s4 s5 s6 sf sz
 refine (implCopiedO b O.length d O _ rfl (HO.out.below HB2.out)).mono ?_
 rintro e w3 ⟨v2,rfl,A3,D3⟩
 obtain ⟨a3,c3,hv3,_⟩:=A3.shape
 subst hv3
 have Y1:=X1.out.kept D3 (by omega)
 have Y2:=X2.out.kept D3 (by omega)
 have A3':=hidOf (A3.mono hs2)
 have A2':=hidOf (A2.out.kept D3)
 have HB3:Hid (Below w.heap.size w w3):=HB2.out.trans (D3.mono (by omega))
 obtain ⟨⟨s0,s1,s2,s3,s4,s5,s6⟩,sf,sz⟩:=Y1
 obtain ⟨⟨r0,r1,r2,r3,r4,r5,r6⟩,rf,rz⟩:=Y2
 clear X1 X2 A3 A2 HB2 D3 hs2
 go_wp2
 refine bodyPost_ret (v:=.agg #[.int .i64 k.day,.slice a1 L.length c1,.slice a3 O.length c3,.int .i64 k.inn,.int .i64 k.out,.int .i64 k.posted,.int .i64 k.missed]) (by simp[results,Tryz.results67,go_sem,r0,r1,r2,r3,r4,r5,r6]) rfl ⟨_,_,rfl,?_,?_,?_⟩
 ·refine AL.mono (B:=w.heap.size+1+1) ?_ (by omega)
  repeat (refine AL.far ?_ (by omega) _ _)
  exact A2'.out
 ·refine OrdL.mono (B:=w.heap.size+1+1) ?_ (by omega)
  repeat (refine OrdL.far ?_ (by omega) _ _)
  exact A3'.out
 ·repeat (refine below_far ?_ (by omega) _ _)
  exact HB3.out
theorem flatO_one (O:List Ord):∀u ∈ O.flatMap OrdC,u.oneCell'=true:=by
 intro u hu
 obtain ⟨x,_,hx⟩:=List.mem_flatMap.1 hu
 simp only[OrdC,List.mem_cons,List.not_mem_nil,or_false] at hx
 rcases hx with e|e|e|e|e|e|e <;>subst e <;>rfl
theorem specCopyBank (a b:Option Addr) (c d:Nat) (L:List Acc) (O:List Ord) (k:Bk) (w:World) (hF:Fo w a L.length (FL L)) (hO:Ords w b O.length (OrdF O)):
  Calls Tryz.prog 90 #[.agg #[.int .i64 k.day,.slice a L.length c,.slice b O.length d,.int .i64 k.inn,.int .i64 k.out,.int .i64 k.posted,.int .i64 k.missed]] w fun e w'=>∃v u,e=.returned (.agg #[.int .i64 k.day,v,u,.int .i64 k.inn,.int .i64 k.out,.int .i64 k.posted,.int .i64 k.missed])/\AL w' w.heap.size v L/\OrdL w' w.heap.size u O/\Below w.heap.size w w':=by
 have HF:=hidOf hF
 have HO:=hidOf hO
 have hol:=hO.1
 obtain ⟨i0,hi,hz0,hz1,hz2⟩:=info_parts infoOrd
 clear hF hO
 obtain ⟨W0,hW0⟩:∃W0,W0=((w.alloc (.cells #[.int .i64 k.day,.slice a L.length c,.slice b O.length d,.int .i64 k.inn,.int .i64 k.out,.int .i64 k.posted,.int .i64 k.missed] 38)).alloc (.cells #[.int .i64 0,.slice none 0 0,.slice none 0 0,.int .i64 0,.int .i64 0,.int .i64 0,.int .i64 0] 38)).alloc (.cells #[.int .i64 k.day,.slice a L.length c,.slice b O.length d,.int .i64 k.inn,.int .i64 k.out,.int .i64 k.posted,.int .i64 k.missed] 38):=⟨_,rfl⟩
 have hs0:W0.heap.size=w.heap.size+1+1+1:=by rw[hW0];simp
 have b0:Below w.heap.size w W0:=by rw[hW0];exact (((Below.refl _ _).alloc (Nat.le_refl _) _).alloc (by simp) _).alloc (by simp;omega) _
 have z1:BxK W0 w.heap.size (.slice a L.length c) (.slice b O.length d) k:=by
  rw[hW0];exact ((Box7.new w _ _ _ _ _ _ _ 38).kept ((Below.refl _ _).alloc (Nat.le_refl _) _) (by simp)).kept ((Below.refl _ _).alloc (Nat.le_refl _) _) (by simp;omega)
 have z2:BxZ W0 (w.heap.size+1):=by
  rw[hW0]
  have:=Box7.new (w.alloc (.cells #[.int .i64 k.day,.slice a L.length c,.slice b O.length d,.int .i64 k.inn,.int .i64 k.out,.int .i64 k.posted,.int .i64 k.missed] 38)) (.int .i64 0) (.slice none 0 0) (.slice none 0 0) (.int .i64 0) (.int .i64 0) (.int .i64 0) (.int .i64 0) 38
  rw[World.size_alloc] at this
  exact this.kept ((Below.refl _ _).alloc (Nat.le_refl _) _) (by simp)
 have z3:BxK W0 (w.heap.size+1+1) (.slice a L.length c) (.slice b O.length d) k:=by
  rw[hW0]
  have:=Box7.new ((w.alloc (.cells #[.int .i64 k.day,.slice a L.length c,.slice b O.length d,.int .i64 k.inn,.int .i64 k.out,.int .i64 k.posted,.int .i64 k.missed] 38)).alloc (.cells #[.int .i64 0,.slice none 0 0,.slice none 0 0,.int .i64 0,.int .i64 0,.int .i64 0,.int .i64 0] 38)) (.int .i64 k.day) (.slice a L.length c) (.slice b O.length d) (.int .i64 k.inn) (.int .i64 k.out) (.int .i64 k.posted) (.int .i64 k.missed) 38
  simp only[World.size_alloc] at this
  exact this
 have HW0:=hidOf hW0
 have HB0:=hidOf b0
 have Z1:=hidOf z1
 have Z2:=hidOf z2
 have Z3:=hidOf z3
 clear hW0 b0 z1 z2 z3
 go_enter Tryz.func90,Tryz.ntmps90
 go_wp2_with fail
 rw[←HW0.out]
 clear HW0
 refine (specCopy a L.length c L _ rfl (HF.out.below HB0.out)).mono ?_
 rintro e w1 ⟨v1,rfl,A1,D1⟩
 rw[hs0] at A1
 obtain ⟨a1,c1,hv1⟩:=A1.len
 subst hv1
 have Y1:=Z1.out.kept D1 (by omega)
 have Y2:=Z2.out.kept D1 (by omega)
 have Y3:=Z3.out.kept D1 (by omega)
 obtain ⟨W2,hW2⟩:∃W2,W2=w1.setCell ⟨w.heap.size+1+1,1,none⟩ (.slice a1 L.length c1):=⟨_,rfl⟩
 have HW2:=hidOf hW2
 have hs2:w.heap.size+1+1+1<=W2.heap.size:=by rw[hW2];simp[World.setCell];have:=D1.size;omega
 have B2:Below w.heap.size w W2:=by rw[hW2];exact below_far (HB0.out.trans (D1.mono (by omega))) (by omega) _ _
 obtain ⟨W3,hW3⟩:∃W3,W3=W2.alloc (.cells #[] 45):=⟨_,rfl⟩
 have HW3:=hidOf hW3
 have hs3:W3.heap.size=W2.heap.size+1:=by rw[hW3];simp
 have D3:Below W2.heap.size W2 W3:=by rw[hW3];exact (Below.refl _ _).alloc (Nat.le_refl _) _
 have X1:Hid (BxK W3 w.heap.size (.slice a L.length c) (.slice b O.length d) k):=Box7.kept (by rw[hW2];exact Y1.far (by omega) _ _) D3 (by omega)
 have X2:Hid (BxZ W3 (w.heap.size+1)):=Box7.kept (by rw[hW2];exact Y2.far (by omega) _ _) D3 (by omega)
 have X3:Hid (BxK W3 (w.heap.size+1+1) (.slice a1 L.length c1) (.slice b O.length d) k):=Box7.kept (by rw[hW2];exact Y3.set1 _) D3 (by omega)
 have A2:Hid (AL W3 (w.heap.size+1+1+1) (.slice a1 L.length c1) L):=AL.kept (by rw[hW2];exact A1.far (by omega) _ _) D3
 have HB3:Hid (Below w.heap.size w W3):=B2.trans (D3.mono (by omega))
 have HLT:Hid (∀g,(Value.slice a1 L.length c1).ownBlock=some g->g<W2.heap.size):=fun g hg=>by have:=(World.ownsRow.lt (show AL W2 (w.heap.size+1+1+1) (.slice a1 L.length c1) L by rw[hW2];exact A1.far (by omega) _ _) g hg).2;exact this
 have E0:Hid (OrdL W3 (w.heap.size+1+1+1) (.slice (some ⟨W2.heap.size,0,none⟩) 0 0) []):=by rw[hW3];exact OrdL.empty W2 _ hs2
 obtain ⟨⟨o0,o1,o2,o3,o4,o5,o6⟩,of,oz⟩:=Y3
 obtain ⟨⟨s0,s1,s2,s3,s4,s5,s6⟩,_,sz⟩:=Y1
 have HO3:=hidOf (HO.out.below HB3.out)
 have hs23:w.heap.size+1+1+1<=W3.heap.size:=by omega
 clear Y2 A1 D1 Z1 Z2 Z3 HB0 hs0 D3 B2 hW2
 go_upto_region 3 with fail
 rw[←HW2.out]
 clear o0 o1 o2 o3 o4 o5 o6 of oz s0 s1 s2 s3 s4 s5 s6 sz HW2
 have HB23:Hid (Below W2.heap.size W2 W3):=by rw[HW3.out];exact (Below.refl _ _).alloc (Nat.le_refl _) _
 have tt:W2.cell? ⟨w.heap.size,2,none⟩=some (.slice b O.length d):=(HB23.out.cell (p:=⟨w.heap.size,2,none⟩) (show w.heap.size<W2.heap.size by omega)).symm.trans X1.out.1.2.2.1
 have tt2:(W2.alloc (.cells #[] 45)).cell? ⟨w.heap.size,2,none⟩=some (.slice b O.length d):=by rw[←HW3.out];exact X1.out.1.2.2.1
 have hlt2:w.heap.size<W2.heap.size:=by omega
 cases b with
 | none=>
  have h0:O.length=0:=by
   rcases HO3.out.2 with h0|⟨b',o',ha,_⟩
   ·exact h0
   ·cases ha
  have hO0:O=[]:=List.length_eq_zero_iff.1 h0
  subst hO0
  rw[HW3.out] at X2 X3
  obtain ⟨⟨r0,r1,r2,r3,r4,r5,r6⟩,rf,rz⟩:=X2.out
  obtain ⟨⟨o0,o1,o2,o3,o4,o5,o6⟩,of,oz⟩:=X3.out
  go_wp2
  refine bodyPost_ret (v:=.agg #[.int .i64 k.day,.slice a1 L.length c1,.slice (some ⟨W2.heap.size,0,none⟩) 0 0,.int .i64 k.inn,.int .i64 k.out,.int .i64 k.posted,.int .i64 k.missed]) (by simp[results,Tryz.results90,go_sem,r0,r1,r2,r3,r4,r5,r6]) rfl ⟨_,_,rfl,?_,?_,?_⟩
  ·refine AL.mono (B:=w.heap.size+1+1+1) ?_ (by omega)
   repeat (refine AL.far ?_ (by omega) _ _)
   rw[←HW3.out];exact A2.out
  ·refine OrdL.mono (B:=w.heap.size+1+1+1) ?_ (by omega)
   repeat (refine OrdL.far ?_ (by omega) _ _)
   rw[←HW3.out];exact E0.out
  ·repeat (refine below_far ?_ (by omega) _ _)
   rw[←HW3.out];exact HB3.out
 | some p=>
  have HC:Hid (∀j u,(O.flatMap OrdC)[j]? =some u->W3.cell? (p.add j)=some u):=ords_news HO3.out
  have AFT:Hid (∀v4 w4,w4.ownsRow (w.heap.size+1+1+1) 45 7 v4 (0+O.length) ([]++O.flatMap OrdC)->W3.grownBy w4 (Value.slice (some ⟨W2.heap.size,0,none⟩) 0 0).ownBlock->∃a4 c4,v4=.slice a4 O.length c4/\OrdL w4 (w.heap.size+1+1+1) v4 O/\BxZ w4 (w.heap.size+1)/\BxK w4 (w.heap.size+1+1) (.slice a1 L.length c1) (.slice (some p) O.length d) k/\AL w4 (w.heap.size+1+1+1) (.slice a1 L.length c1) L/\Below w.heap.size w w4):=by
   intro v4 w4 hown hgrow
   have ho:OrdL w4 (w.heap.size+1+1+1) v4 O:=by unfold OrdL;simpa using hown
   have D4:Below W2.heap.size W3 w4:=(Below.refl _ _).grown hgrow (by omega) (fun j hj=>by simp[Value.ownBlock] at hj;omega)
   obtain ⟨a4,c4,hv4,_⟩:=ho.shape
   refine ⟨a4,c4,hv4,ho,X2.out.kept D4 (by omega),X3.out.kept D4 (by omega),?_,HB3.out.trans (D4.mono (by omega))⟩
   exact World.ownsRow.kept A2.out hgrow (by
    cases hb:(Value.slice a1 L.length c1).ownBlock with
    | none=>exact Or.inl rfl
    | some g=>right;intro e';have:=HLT.out g hb;simp[Value.ownBlock] at e';omega)
  go_wp2_with (at_builtin;rw[←HW3.out];refine wpList_append_own _ rfl _ _ 36 rfl (w.heap.size+1+1+1) 45 i0 _ 7 56 Tryz.underlying36 hi hz0 hz1 hz2 rfl (by decide) _ _ _ rfl E0.out p O.length d (O.flatMap OrdC) rfl (flatOrd_len O) HC.out (flatO_one O) (by unfold maxLen;simp;omega) (by simp;omega) (by omega) ?_;intro v4 w4 hown hgrow hnn;obtain ⟨a4,c4,hv4,ho4,⟨⟨r0,r1,r2,r3,r4,r5,r6⟩,rf,rz⟩,⟨⟨o0,o1,o2,o3,o4,o5,o6⟩,of,oz⟩,al4,bl4⟩:=AFT.out v4 w4 hown hgrow;subst hv4;clear hown hgrow hnn)
  refine bodyPost_ret (v:=.agg #[.int .i64 k.day,.slice a1 L.length c1,.slice a4 O.length c4,.int .i64 k.inn,.int .i64 k.out,.int .i64 k.posted,.int .i64 k.missed]) (by simp[results,Tryz.results90,go_sem,r0,r1,r2,r3,r4,r5,r6]) rfl ⟨_,_,rfl,?_,?_,?_⟩
  ·refine AL.mono (B:=w.heap.size+1+1+1) ?_ (by omega)
   repeat (refine AL.far ?_ (by omega) _ _)
   exact al4
  ·refine OrdL.mono (B:=w.heap.size+1+1+1) ?_ (by omega)
   repeat (refine OrdL.far ?_ (by omega) _ _)
   exact ho4
  ·repeat (refine below_far ?_ (by omega) _ _)
   exact bl4
end Go.Proofs.YtghkbhggopiajaaGreatDoor
