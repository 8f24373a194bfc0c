/- The draw of a forest. -/
import Derived.Test.YtghkbhggopiajaaGreatDoorRdsr
namespace Go.Proofs.YtghkbhggopiajaaGreatDoor
open Go.RowKit
set_option maxRecDepth 8000
theorem AL.stp {B Bs:Nat} {w w':World} {v:Value} {L:List Acc} (h:AL w Bs v L) (hs:Stp B w w') (hB:B<Bs):AL w' Bs v L:=by
 refine World.ownsRow.kept (row:=some B) h ⟨hs.os,hs.tape,hs.output,hs.size,fun k hk hn=>hs.block k hk (fun e=>hn (by rw[e]))⟩ (Or.inr ?_)
 intro e
 have:=(World.ownsRow.lt h B e).1
 omega
end Go.Proofs.YtghkbhggopiajaaGreatDoor
