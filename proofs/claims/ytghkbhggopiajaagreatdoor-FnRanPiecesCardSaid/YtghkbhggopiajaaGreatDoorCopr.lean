/- The program's copy of accounts. -/
import Derived.Test.YtghkbhggopiajaaGreatDoorPaysr
import Derived.Laws.AppendOwnNone
namespace Go.Proofs.YtghkbhggopiajaaGreatDoor
open Go.RowKit
set_option maxRecDepth 8000
set_option maxRecDepth 8000 in
set_option maxHeartbeats 1000000 in
theorem fg (a:Option Addr) (n c:Nat) (L:List aj) (w:World) (hn:n=L.length) (h:Fo w a n (FL L)):
  Calls Tryz.prog 113 #[.slice a n c] w fun e w'=>∃v,e=.returned v/\AL w' w.heap.size v L/\Below w.heap.size w w':=by
 obtain ⟨i0,hi,hz0,hz1,hz2⟩:=info_parts dq
 have A0:Hid (AL w w.heap.size (.slice none 0 0) []):=World.ownsRow_nil _ _ _ _
 have H:=aa h
 have hb:=h.1
 clear h
 subst hn
 cases a with
 | none=>
  have h0:L.length=0:=by
   rcases H.out.2 with h0|⟨b,o,ha,_⟩
   ·exact h0
   ·cases ha
  have hL:L=[]:=List.length_eq_zero_iff.1 h0
  subst hL
  go_enter Tryz.func113,Tryz.ntmps113
  go_wp2
  go_ret
  exact ⟨_,rfl,A0.out,Below.refl _ _⟩
 | some p=>
  have HC:Hid (∀j u,(L.flatMap ab)[j]? =some u->w.cell? (p.add j)=some u):=fun j u hj=>by
   have hjl:j<L.length*8:=by
    by_cases e:j<L.length*8
    ·exact e
    ·rw[List.getElem?_eq_none (by rw[aZ];omega)] at hj;cases hj
   have hd:j=(j / 8)*8+j % 8:=by omega
   have hq:j / 8<L.length:=by omega
   obtain ⟨b,o,ea,hbz,hA⟩:=H.out.acc hq
   have ep:p=⟨b,o,none⟩:=by simpa using ea
   subst ep
   rw[hd,fC L _ _ hq (Nat.mod_lt _ (by omega))] at hj
   have e1:(⟨b,o,none⟩:Addr).add j=⟨b,o+(j / 8)*8+j % 8,none⟩:=by
    by_cases h0:j=0
    ·subst h0;simp[Addr.add]
    ·simp only[Addr.add,h0];simp;omega
   rw[e1]
   rw[dC hq] at hA
   obtain ⟨c0,c1,c2,c3,c4,c5,c6,c7⟩:=hA
   have hm:j % 8<8:=Nat.mod_lt _ (by omega)
   generalize L[j / 8]=x at*
   generalize j % 8=m at*
   match m,hm with
   | 0,_=>simpa [ab] using c0.trans hj
   | 1,_=>simpa [ab] using c1.trans hj
   | 2,_=>simpa [ab] using c2.trans hj
   | 3,_=>simpa [ab] using c3.trans hj
   | 4,_=>simpa [ab] using c4.trans hj
   | 5,_=>simpa [ab] using c5.trans hj
   | 6,_=>simpa [ab] using c6.trans hj
   | 7,_=>simpa [ab] using c7.trans hj
  go_enter Tryz.func113,Tryz.ntmps113
  go_wp2_with (at_builtin;refine wpList_append_own _ rfl _ _ 24 rfl w.heap.size 30 i0 _ 8 64 Tryz.underlying24 hi hz0 hz1 hz2 rfl (by decide) _ _ _ rfl A0.out p L.length c (L.flatMap ab) rfl (aZ L) HC.out ?_ ?_ ?_ ?_ ?_)
  ·intro u hu
   obtain ⟨x,_,hx⟩:=List.mem_flatMap.1 hu
   simp only[ab,List.mem_cons,List.not_mem_nil,or_false] at hx
   rcases hx with e|e|e|e|e|e|e|e <;>subst e <;>rfl
  ·unfold maxLen;simp;omega
  ·simp;omega
  ·simp
  ·intro v' w2 hown hgrow hnn
   have A2:Hid (AL w2 w.heap.size v' L):=by
    show AL w2 w.heap.size v' L
    unfold AL
    simpa using hown
   have B2:Hid (Below w.heap.size w w2):=(Below.refl _ _).grown hgrow (by simp) (fun q hq=>by simp[Value.ownBlock] at hq)
   clear hown hgrow hnn
   obtain ⟨a2,c2,hv2⟩:=A2.out.len
   subst hv2
   go_wp2
   go_ret
   exact ⟨_,rfl,A2.out,B2.out⟩
theorem cw (a:Option Addr) (n c:Nat) (L:List aj) (w:World) (hn:n=L.length) (h:Fo w a n (FL L)) (h1:0<L.length):
  Calls Tryz.prog 113 #[.slice a n c] w fun e w'=>∃g c',e=.returned (.slice (some ⟨g,0,none⟩) L.length c')/\AL w' w.heap.size (.slice (some ⟨g,0,none⟩) L.length c') L/\Below w.heap.size w w':=
 (fg a n c L w hn h).mono fun e w' ⟨v,he,hA,hB⟩=>by
  obtain ⟨g,c',hv⟩:=hA.own (fun e=>by
   obtain ⟨a',c',hv⟩:=hA.len
   rw[e] at hv
   simp at hv
   omega)
  subst hv
  exact ⟨g,c',he,hA,hB⟩
end Go.Proofs.YtghkbhggopiajaaGreatDoor
