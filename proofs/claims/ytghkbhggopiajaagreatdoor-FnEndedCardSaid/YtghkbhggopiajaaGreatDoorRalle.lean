/- RanAll. -/
import Derived.Test.YtghkbhggopiajaaGreatDoorToBr
import Derived.Test.YtghkbhggopiajaaGreatDoorRanIe
namespace Go.Proofs.YtghkbhggopiajaaGreatDoor
open Go.RowKit
set_option maxRecDepth 8000
structure RA where
 c:List Int
 L:List Acc
 O:List Ord
 k:Bk
def Nms (g o:Nat) (l:List Value) (V:World):Prop:=g<V.heap.size/\∀j x,l[j]? =some x->V.cell? ⟨g,o+j,none⟩=some x
theorem Nms.below {g o:Nat} {l:List Value} {V W:World} (h:Nms g o l V) (hb:Below V.heap.size V W):Nms g o l W:=⟨Nat.lt_of_lt_of_le h.1 hb.size,fun j x hj=>(hb.cell (p:=⟨g,o+j,none⟩) h.1).trans (h.2 j x hj)⟩
def set7 (W:World) (R:Nat) (k:Bk) (v u:Value):World:=((((((W.setCell ⟨R,0,none⟩ (.int .i64 k.day)).setCell ⟨R,1,none⟩ (v)).setCell ⟨R,2,none⟩ (u)).setCell ⟨R,3,none⟩ (.int .i64 k.inn)).setCell ⟨R,4,none⟩ (.int .i64 k.out)).setCell ⟨R,5,none⟩ (.int .i64 k.posted)).setCell ⟨R,6,none⟩ (.int .i64 k.missed)
theorem grown7 (W:World) (R:Nat) (k:Bk) (v u:Value):W.grownBy (set7 W R k v u) (some R):=by
 unfold set7
 exact grown_transAcc (grown_transAcc (grown_transAcc (grown_transAcc (grown_transAcc (grown_transAcc (grown_set1Acc _ _ _ _) (grown_set1Acc _ _ _ _)) (grown_set1Acc _ _ _ _)) (grown_set1Acc _ _ _ _)) (grown_set1Acc _ _ _ _)) (grown_set1Acc _ _ _ _)) (grown_set1Acc _ _ _ _)
theorem row_away {w w':World} {B1 e1 s1 n1 R:Nat} {v1:Value} {x1:List Value} (h1:w.ownsRow B1 e1 s1 v1 n1 x1) (hg:w.grownBy w' (some R)) (hR:∀q,v1.ownBlock=some q->q≠R):w'.ownsRow B1 e1 s1 v1 n1 x1:=World.ownsRow.kept h1 hg (Or.inr (fun e=>hR R e rfl))
theorem OrdL.room {w:World} {B m d:Nat} {b:Option Addr} {O:List Ord} (h:OrdL w B (.slice b m d) O):O.length<=d/\((b=none/\d=0)\/∃pb po,b=some ⟨pb,po,none⟩):=by
 rcases h.2 with ⟨e,e2⟩|⟨g,cap,cur,e,_,_,h1,_⟩
 ·obtain ⟨rfl,_,rfl⟩:b=none/\m=0/\d=0:=by simpa using e
  exact ⟨by omega,Or.inl ⟨rfl,rfl⟩⟩
 ·obtain ⟨rfl,_,rfl⟩:b=some ⟨g,0,none⟩/\m=O.length/\d=cap:=by simpa using e
  exact ⟨h1,Or.inr ⟨g,0,rfl⟩⟩
end Go.Proofs.YtghkbhggopiajaaGreatDoor
