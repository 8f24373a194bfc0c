/- Lists of accounts in memory of a call's own. -/
import Derived.Test.YtghkbhggopiajaaGreatDoorChBr
import Derived.Test.YtghkbhggopiajaaGreatDoorOpssr
namespace Go.Proofs.YtghkbhggopiajaaGreatDoor
open Go.RowKit
set_option maxRecDepth 8000
def FL (L:List aj):Nat->aj:=fun j=>L.getD j tN
def iH (F:Nat->aj) (n:Nat):List aj:=(List.range n).map F
theorem db (F:Nat->aj) (n:Nat):(iH F n).length=n:=by simp[iH]
theorem dC {L:List aj} {j:Nat} (h:j<L.length):FL L j=L[j]:=by simp[FL,List.getD,List.getElem?_eq_getElem h]
theorem oq {F:Nat->aj} {n j:Nat} (h:j<n):FL (iH F n) j=F j:=by
 rw[dC (by rw[db];exact h)]
 simp[iH]
theorem qR (L:List aj):iH (FL L) L.length=L:=by
 apply List.ext_getElem
 ·rw[db]
 ·intro i h1 h2
  simp[iH,dC h2]
theorem cH {L:List aj} {p:Nat} (x:aj) (h:p<L.length):FL (L.set p x) p=x:=by
 rw[dC (by simpa using h)];simp
theorem fS {L:List aj} {p j:Nat} (x:aj) (h:j≠p):FL (L.set p x) j=FL L j:=by
 simp only[FL,List.getD]
 rw[List.getElem?_set_ne (by omega)]
theorem Fo.congr {w:World} {a:Option Addr} {n:Nat} {F G:Nat->aj} (h:Fo w a n F) (e:∀j,j<n->F j=G j):Fo w a n G:=by
 refine ⟨h.1,?_⟩
 rcases h.2 with h0|⟨b,o,ha,hb,hall⟩
 ·exact Or.inl h0
 ·exact Or.inr ⟨b,o,ha,hb,fun i hi=>by rw[←e i hi];exact hall i hi⟩
theorem AL.len {w:World} {B:Nat} {v:Value} {L:List aj} (h:AL w B v L):∃a c,v=.slice a L.length c:=by
 obtain ⟨a,c,hv,_⟩:=h.shape
 exact ⟨a,c,hv⟩
theorem AL.fo {w:World} {B:Nat} {a:Option Addr} {c m:Nat} {L:List aj} (h:AL w B (.slice a m c) L) (hl:L.length<=1048576):m=L.length/\Fo w a m (FL L):=by
 obtain ⟨a',c',hv,_,hs⟩:=h.shape
 obtain ⟨rfl,rfl,rfl⟩:a=a'/\m=L.length/\c=c':=by simpa using hv
 refine ⟨rfl,hl,?_⟩
 by_cases h0:L.length=0
 ·exact Or.inl h0
 ·obtain ⟨g,ea,_,hg,_⟩:=hs 0 (by omega)
  refine Or.inr ⟨g,0,ea,hg,fun i hi=>?_⟩
  obtain ⟨g',ea',_,_,hA⟩:=hs i hi
  rw[ea] at ea'
  have:g=g':=by simpa using ea'
  subst this
  rw[dC hi]
  simpa using hA
theorem AL.mono {w:World} {B B':Nat} {v:Value} {l:List aj} (h:AL w B v l) (hB:B'<=B):AL w B' v l:=
 ⟨h.1,h.2.elim Or.inl (fun ⟨g,cap,cur,hv,hg,r⟩=>Or.inr ⟨g,cap,cur,hv,Nat.le_trans hB hg,r⟩)⟩
theorem AL.empty (w:World) (B:Nat) (hB:B<=w.heap.size):AL (w.alloc (.cells #[] 30)) B (.slice (some ⟨w.heap.size,0,none⟩) 0 0) []:=World.ownsRow_lit w #[] 0 hB (Nat.zero_le _) (by simp)
theorem mn:∀(L:List aj) (p j:Nat) (u:Value) (A:aj),p<L.length->j<8->(ab (FL L p)).set j u=ab A->(L.flatMap ab).set (p*8+j) u=(L.set p A).flatMap ab
 | [],p,j,u,A,hp,_,_=>by simp at hp
 | x::L,0,j,u,A,_,hj,h=>by
  have hl:(ab x).length=8:=rfl
  have h':(ab x).set j u=ab A:=h
  simp only[List.flatMap_cons,List.set_cons_zero,Nat.zero_mul,Nat.zero_add]
  rw[List.set_append_left _ _ (by rw[hl];omega),h']
 | x::L,p+1,j,u,A,hp,hj,h=>by
  have hl:(ab x).length=8:=rfl
  have ih:=mn L p j u A (by simpa using hp) hj (by simpa [FL,List.getD] using h)
  simp only[List.flatMap_cons,List.set_cons_succ]
  rw[List.set_append_right _ _ (by rw[hl];omega),hl]
  have e:(p+1)*8+j-8=p*8+j:=by omega
  rw[e,ih]
theorem AL.stored {w:World} {B g cap:Nat} {L:List aj} (h:AL w B (.slice (some ⟨g,0,none⟩) L.length cap) L) {p:Nat} (hp:p<L.length) (j:Nat) (hj:j<8) (u:Value) (A:aj) (hA:(ab (FL L p)).set j u=ab A):
  AL (w.setCell ⟨g,p*8+j,none⟩ u) B (.slice (some ⟨g,0,none⟩) (L.set p A).length cap) (L.set p A):=by
 obtain ⟨h1,_⟩:=World.ownsRow.stored h (p*8+j) u
 unfold AL
 rw[←mn L p j u A hp hj hA,List.length_set]
 exact h1
theorem AL.block {w:World} {B g cap m:Nat} {L:List aj} (h:AL w B (.slice (some ⟨g,0,none⟩) m cap) L):B<=g/\g<w.heap.size:=World.ownsRow.lt h g rfl
theorem AL.frozen {w:World} {B g cap:Nat} {L:List aj} (h:AL w B (.slice (some ⟨g,0,none⟩) L.length cap) L) (j:Nat):w.frozen? ⟨g,j,none⟩=false:=World.ownsRow.frozenAt h j
theorem dx {B:Nat} {w w':World} (h:Below B w w') {g:Nat} (hg:B<=g) (o:Nat) (u:Value):Below B w (w'.setCell ⟨g,o,none⟩ u):=
 ⟨h.os,h.tape,h.output,by simpa [World.setCell] using h.size,fun k hk=>by rw[Below.heap_setCell _ _ _ _ (show k≠g by omega)];exact h.block k hk⟩
set_option maxRecDepth 8000 in
set_option maxHeartbeats 1000000 in
theorem dU (a:Option Addr) (n c:Nat) (L:List aj) (w:World) (hn:n=L.length) (h:Fo w a n (FL L)):
  Calls Tryz.prog 107 #[.slice a n c] w fun e w'=>∃v,e=.returned v/\AL w' w.heap.size v L/\Below w.heap.size w w':=by
 obtain ⟨i0,hi,hz0,hz1,hz2⟩:=info_parts dq
 have A0:Hid (AL (w.alloc (.cells #[] 30)) w.heap.size (.slice (some ⟨w.heap.size,0,none⟩) 0 0) []):=AL.empty w _ (Nat.le_refl _)
 have H:=aa h
 have hb:=h.1
 clear h
 subst hn
 cases a with
 | none=>
  have h0:L.length=0:=by
   rcases H.out.2 with h0|⟨b,o,ha,_⟩
   ·exact h0
   ·cases ha
  have hL:L=[]:=List.length_eq_zero_iff.1 h0
  subst hL
  go_enter Tryz.func107,Tryz.ntmps107
  go_wp2
  go_ret
  exact ⟨_,rfl,A0.out,(Below.refl _ _).alloc (Nat.le_refl _) _⟩
 | some p=>
  have HC:Hid (∀j u,(L.flatMap ab)[j]? =some u->(w.alloc (.cells #[] 30)).cell? (p.add j)=some u):=fun j u hj=>by
   have hjl:j<L.length*8:=by
    by_cases e:j<L.length*8
    ·exact e
    ·rw[List.getElem?_eq_none (by rw[aZ];omega)] at hj;cases hj
   have hd:j=(j / 8)*8+j % 8:=by omega
   have hq:j / 8<L.length:=by omega
   obtain ⟨b,o,ea,hbz,hA⟩:=H.out.acc hq
   have ep:p=⟨b,o,none⟩:=by simpa using ea
   subst ep
   rw[hd,fC L _ _ hq (Nat.mod_lt _ (by omega))] at hj
   have e1:(⟨b,o,none⟩:Addr).add j=⟨b,o+(j / 8)*8+j % 8,none⟩:=by
    by_cases h0:j=0
    ·subst h0;simp[Addr.add]
    ·simp only[Addr.add,h0];simp;omega
   rw[e1,World.cell?_alloc_lt _ _ _ (by exact hbz)]
   rw[dC hq] at hA
   obtain ⟨c0,c1,c2,c3,c4,c5,c6,c7⟩:=hA
   have hm:j % 8<8:=Nat.mod_lt _ (by omega)
   generalize L[j / 8]=x at*
   generalize j % 8=m at*
   match m,hm with
   | 0,_=>simpa [ab] using c0.trans hj
   | 1,_=>simpa [ab] using c1.trans hj
   | 2,_=>simpa [ab] using c2.trans hj
   | 3,_=>simpa [ab] using c3.trans hj
   | 4,_=>simpa [ab] using c4.trans hj
   | 5,_=>simpa [ab] using c5.trans hj
   | 6,_=>simpa [ab] using c6.trans hj
   | 7,_=>simpa [ab] using c7.trans hj
  go_enter Tryz.func107,Tryz.ntmps107
  go_wp2_with (at_builtin;refine wpList_append_own _ rfl _ _ 24 rfl w.heap.size 30 i0 _ 8 64 Tryz.underlying24 hi hz0 hz1 hz2 rfl (by decide) _ _ _ rfl A0.out p L.length c (L.flatMap ab) rfl (aZ L) HC.out ?_ ?_ ?_ ?_ ?_)
  ·intro u hu
   obtain ⟨x,_,hx⟩:=List.mem_flatMap.1 hu
   simp only[ab,List.mem_cons,List.not_mem_nil,or_false] at hx
   rcases hx with e|e|e|e|e|e|e|e <;>subst e <;>rfl
  ·unfold maxLen;simp;omega
  ·simp;omega
  ·simp
  ·intro v' w2 hown hgrow _
   have A2:Hid (AL w2 w.heap.size v' L):=by
    show AL w2 w.heap.size v' L
    unfold AL
    simpa using hown
   have B2:Hid (Below w.heap.size w w2):=((Below.refl _ _).alloc (Nat.le_refl _) _).grown hgrow (by simp) (fun q hq=>by simp[Value.ownBlock] at hq;omega)
   clear hown hgrow
   obtain ⟨a2,c2,hv2⟩:=A2.out.len
   subst hv2
   go_wp2
   go_ret
   exact ⟨_,rfl,A2.out,B2.out⟩
end Go.Proofs.YtghkbhggopiajaaGreatDoor
