/- The marks that the laws lay into accounts. -/
import Derived.Test.YtghkbhggopiajaaGreatDoorDoneIr
namespace Go.Proofs.YtghkbhggopiajaaGreatDoor
open Go.RowKit
set_option maxRecDepth 8000
theorem cu {a b c:World} {row:Option Nat} (h:a.grownBy b row) (k:b.grownBy c row):a.grownBy c row:=
 ⟨k.os.trans h.os,k.tape.trans h.tape,k.output.trans h.output,Nat.le_trans h.size k.size,fun i hi hn=>(k.block i (Nat.lt_of_lt_of_le hi h.size) hn).trans (h.block i hi hn)⟩
theorem cl (w:World) (R o:Nat) (u:Value):w.grownBy (w.setCell ⟨R,o,none⟩ u) (some R):=
 ⟨rfl,rfl,rfl,by simp[World.setCell],fun k _ hn=>Below.heap_setCell _ _ _ _ (fun e=>hn (by rw[e]))⟩
open Go.RowKit
set_option maxRecDepth 8000
end Go.Proofs.YtghkbhggopiajaaGreatDoor
