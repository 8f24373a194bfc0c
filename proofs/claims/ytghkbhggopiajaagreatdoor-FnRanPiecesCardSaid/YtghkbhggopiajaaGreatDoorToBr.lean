/- toBOp. -/
import Derived.Test.YtghkbhggopiajaaGreatDoorBopr
namespace Go.Proofs.YtghkbhggopiajaaGreatDoor
open Go.RowKit
set_option maxRecDepth 8000
def dZ (w:World) (R:Nat) (vs:List Value):Prop:=(∀j v,vs[j]? =some v->w.cell? ⟨R,j,none⟩=some v)/\(∀o,w.frozen? ⟨R,o,none⟩=false)/\R<w.heap.size
theorem dZ.kept {n₀:Nat} {w w':World} {R:Nat} {vs:List Value} (h:dZ w R vs) (hb:Below n₀ w w') (hR:R<n₀):dZ w' R vs:=
 ⟨fun j v hj=>(hb.cell (p:=⟨R,j,none⟩) hR).trans (h.1 j v hj),fun o=>(hb.frozen (p:=⟨R,o,none⟩) hR).trans (h.2.1 o),Nat.lt_of_lt_of_le h.2.2 hb.size⟩
theorem dZ.far {w:World} {R:Nat} {vs:List Value} (h:dZ w R vs) {Q:Nat} (hne:Q≠R) (q:Nat) (u:Value):dZ (w.setCell ⟨Q,q,none⟩ u) R vs:=
 ⟨fun j v hj=>(World.cell?_setCell_other _ _ _ _ (by intro e;exact hne (congrArg Addr.block e))).trans (h.1 j v hj),fun o=>by rw[World.frozen?_setCell];exact h.2.1 o,by simpa [World.setCell] using h.2.2⟩
theorem dZ.set {w:World} {R:Nat} {vs:List Value} (h:dZ w R vs) (q:Nat) (u:Value):dZ (w.setCell ⟨R,q,none⟩ u) R (vs.set q u):=by
 refine ⟨fun j v hj=>?_,fun o=>by rw[World.frozen?_setCell];exact h.2.1 o,by simpa [World.setCell] using h.2.2⟩
 rw[List.getElem?_set] at hj
 by_cases e:q=j
 ·subst e
  rw[if_pos rfl] at hj
  split at hj
  ·rename_i hl
   have hc:=h.1 q _ (List.getElem?_eq_getElem hl)
   obtain rfl:u=v:=by simpa using hj
   exact World.cell?_setCell_same _ _ _ (by rw[hc])
  ·cases hj
 ·rw[if_neg e] at hj
  exact (World.cell?_setCell_other _ _ _ _ (by intro e';exact e (congrArg Addr.off e'))).trans (h.1 j v hj)
theorem dZ.new (w:World) (vs:List Value) (T:Nat):dZ (w.alloc (.cells vs.toArray T)) w.heap.size vs:=
 ⟨fun j v hj=>by simp[go_sem,hj],fun o=>by simp[go_sem],by simp⟩
open Go.RowKit
set_option maxRecDepth 8000
open Go.ChangeShapes Go.WideShapes Go.ChangeAt Go.RowKit
set_option maxRecDepth 8000
structure Bp where
 K:Int
 x:cV
 o:au
 n:Int
end Go.Proofs.YtghkbhggopiajaaGreatDoor
