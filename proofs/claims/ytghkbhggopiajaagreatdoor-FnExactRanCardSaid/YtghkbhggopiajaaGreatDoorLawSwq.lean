/- The law FnExactSwept returns true. -/
import Derived.Test.YtghkbhggopiajaaGreatDoorMarksq
import Derived.Test.YtghkbhggopiajaaGreatDoorSwpsq
namespace Go.Proofs.YtghkbhggopiajaaGreatDoor
open Go.RowKit
theorem Cells8.grown {w w' : World} {R Q m : Nat} (h : Cells8 w R m) (g : w.grownBy w' (some Q)) (hne : R ≠ Q) : Cells8 w' R m := by
 have hb : w'.heap[R]? = w.heap[R]? := g.block R h.2.2 (fun e => hne (by simpa using e))
 exact ⟨fun o ho => by rw [World.cell?_of_block (a := ⟨R, o, none⟩) hb]; exact h.1 o ho, fun o => by rw [World.frozen?_of_block (a := ⟨R, o, none⟩) hb]; exact h.2.1 o, Nat.lt_of_lt_of_le h.2.2 g.size⟩
end Go.Proofs.YtghkbhggopiajaaGreatDoor
