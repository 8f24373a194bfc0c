/- Steps of a world, values in a block. -/
import Derived.Test.YtjhgchlfpolkcaaGreatDoorChAx
import Derived.WalkKit
import Derived.WalkLawsBesides
import Derived.Below
namespace Go.Proofs.YtjhgchlfpolkcaaGreatDoor
open Go.RowKit
set_option maxRecDepth 8000
structure an (B:Nat) (w w':World):Prop where
 os:w'.os=w.os
 tape:w'.tape=w.tape
 output:w'.output=w.output
 size:w.heap.size<=w'.heap.size
 block:∀k,k<w.heap.size->k≠B->w'.heap[k]? =w.heap[k]?
theorem an.refl (B:Nat) (w:World):an B w w:=⟨rfl,rfl,rfl,Nat.le_refl _,fun _ _ _=>rfl⟩
theorem an.trans {B:Nat} {a b c:World} (h:an B a b) (k:an B b c):an B a c:=
 ⟨k.os.trans h.os,k.tape.trans h.tape,k.output.trans h.output,Nat.le_trans h.size k.size,fun i hi hn=>(k.block i (Nat.lt_of_lt_of_le hi h.size) hn).trans (h.block i hi hn)⟩
theorem an.drewN {B:Nat} {a w:World} (h:an B a w) (n:Nat):an B a (w.drewN n):=h.trans ⟨rfl,rfl,rfl,Nat.le_refl _,fun _ _ _=>rfl⟩
theorem an.alloc {B:Nat} {a w:World} (h:an B a w) (o:Obj):an B a (w.alloc o):=
 h.trans ⟨rfl,rfl,rfl,by simp,fun k hk _=>Below.heap_alloc _ _ _ hk⟩
theorem an.setCell {B:Nat} {a w:World} (h:an B a w) (off:Nat) (u:Value):an B a (w.setCell ⟨B,off,none⟩ u):=
 h.trans ⟨rfl,rfl,rfl,by simp[World.setCell],fun k _ hn=>Below.heap_setCell _ _ _ _ hn⟩
theorem an.below {B:Nat} {w w':World} (h:an B w w') (hB:B<=w.heap.size):Below B w w':=
 ⟨h.os,h.tape,h.output,h.size,fun k hk=>h.block k (Nat.lt_of_lt_of_le hk hB) (by omega)⟩
theorem an.ofBelow {B:Nat} {w w':World} (h:Below w.heap.size w w'):an B w w':=⟨h.os,h.tape,h.output,h.size,fun k hk _=>h.block k hk⟩
theorem an.cell {B:Nat} {w w':World} (h:an B w w') {p:Addr} (hp:p.block<w.heap.size) (hn:p.block≠B):w'.cell? p=w.cell? p:=World.cell?_of_block (w:=w) (h.block p.block hp hn)
theorem an.frozen {B:Nat} {w w':World} (h:an B w w') {p:Addr} (hp:p.block<w.heap.size) (hn:p.block≠B):w'.frozen? p=w.frozen? p:=World.frozen?_of_block (w:=w) (h.block p.block hp hn)
theorem an.setNew {B:Nat} {a w:World} (h:an B a w) {p:Addr} (hp:a.heap.size<=p.block) (u:Value):an B a (w.setCell p u):=
 ⟨h.os,h.tape,h.output,by simpa [World.setCell] using h.size,fun k hk hn=>(Below.heap_setCell _ _ _ _ (by omega)).trans (h.block k hk hn)⟩
theorem an.far {B:Nat} {w x:World} (h:an B w x) {R:Nat} (hR:w.heap.size<=R) (o:Nat) (u:Value):an B w (x.setCell ⟨R,o,none⟩ u):=h.setNew (p:=⟨R,o,none⟩) hR u
def ah (w:World) (R:Nat) (vs:List Value):Prop:=(∀j v,vs[j]? =some v->w.cell? ⟨R,j,none⟩=some v)/\(∀o,w.frozen? ⟨R,o,none⟩=false)/\R<w.heap.size
theorem ah.kept {n₀:Nat} {w w':World} {R:Nat} {vs:List Value} (h:ah w R vs) (hb:Below n₀ w w') (hR:R<n₀):ah w' R vs:=
 ⟨fun j v hj=>(hb.cell (p:=⟨R,j,none⟩) hR).trans (h.1 j v hj),fun o=>(hb.frozen (p:=⟨R,o,none⟩) hR).trans (h.2.1 o),Nat.lt_of_lt_of_le h.2.2 hb.size⟩
theorem ah.far {w:World} {R:Nat} {vs:List Value} (h:ah w R vs) {Q:Nat} (hne:Q≠R) (q:Nat) (u:Value):ah (w.setCell ⟨Q,q,none⟩ u) R vs:=
 ⟨fun j v hj=>(World.cell?_setCell_other _ _ _ _ (by intro e;exact hne (congrArg Addr.block e))).trans (h.1 j v hj),fun o=>by rw[World.frozen?_setCell];exact h.2.1 o,by simpa [World.setCell] using h.2.2⟩
theorem ah.set {w:World} {R:Nat} {vs:List Value} (h:ah w R vs) (q:Nat) (u:Value):ah (w.setCell ⟨R,q,none⟩ u) R (vs.set q u):=by
 refine ⟨fun j v hj=>?_,fun o=>by rw[World.frozen?_setCell];exact h.2.1 o,by simpa [World.setCell] using h.2.2⟩
 rw[List.getElem?_set] at hj
 by_cases e:q=j
 ·subst e
  rw[if_pos rfl] at hj
  split at hj
  ·rename_i hl
   have hc:=h.1 q _ (List.getElem?_eq_getElem hl)
   obtain rfl:u=v:=by simpa using hj
   exact World.cell?_setCell_same _ _ _ (by rw[hc])
  ·cases hj
 ·rw[if_neg e] at hj
  exact (World.cell?_setCell_other _ _ _ _ (by intro e';exact e (congrArg Addr.off e'))).trans (h.1 j v hj)
theorem ah.new (w:World) (vs:List Value) (T:Nat):ah (w.alloc (.cells vs.toArray T)) w.heap.size vs:=
 ⟨fun j v hj=>by simp[go_sem,hj],fun o=>by simp[go_sem],by simp⟩
theorem ah.stp {B:Nat} {w w':World} {R:Nat} {vs:List Value} (h:ah w R vs) (hs:an B w w') (hR:R≠B):ah w' R vs:=⟨fun j v hj=>(hs.cell (p:=⟨R,j,none⟩) h.2.2 hR).trans (h.1 j v hj),fun o=>(hs.frozen (p:=⟨R,o,none⟩) h.2.2 hR).trans (h.2.1 o),Nat.lt_of_lt_of_le h.2.2 hs.size⟩
end Go.Proofs.YtjhgchlfpolkcaaGreatDoor
