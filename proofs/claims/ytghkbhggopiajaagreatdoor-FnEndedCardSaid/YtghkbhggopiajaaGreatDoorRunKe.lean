/- Facts of ops. -/
import Derived.Test.YtghkbhggopiajaaGreatDoorOPlr
import Derived.Test.YtghkbhggopiajaaGreatDoorBofr
import Derived.Test.YtghkbhggopiajaaGreatDoorCpOr
import Derived.Deep.RegionHeld3
import Derived.Deep.DeepCutAuto
namespace Go.Proofs.YtghkbhggopiajaaGreatDoor
open Go.RowKit
set_option maxRecDepth 8000
theorem doneS_len (L:List Acc) (k i t m r:Int):(doneS L k i t m r).2.length<=L.length+1:=by
 have:=partS_len L k i t m r
 unfold doneS finS
 split
 ·split
  ·split
   ·exact this
   ·simp
  ·simp
 ·simp
theorem AL.off {w:World} {B:Nat} {v:Value} {L:List Acc} (h:AL w B v L) {Q:Nat} (hQ:∀q,v.ownBlock=some q->q≠Q) (o:Nat) (u:Value):AL (w.setCell ⟨Q,o,none⟩ u) B v L:=row_off h hQ o u
theorem op_amount {k i t m r:Int} (h:opOk k i t m r): -1<=m/\m<=1000000000000:=by
 obtain ⟨_,h⟩:=h
 rcases h with h|h|h|h|h|h|h <;>omega
theorem form_yes {K n:Int} {x:OpF} {o:Ord} (hok:bopOk K x o n) (W:World):Calls Tryz.prog 133 #[.agg #[.int .i64 K,.int .i64 x.k,.int .i64 x.i,.int .i64 x.t,.int .i64 x.m,.int .i64 x.r,.int .i64 o.id,.int .i64 o.src,.int .i64 o.dst,.int .i64 o.amount,.int .i64 o.first,.int .i64 o.every,.int .i64 o.times,.int .i64 n]] W fun e w'=>e=.returned (.bool true)/\Below W.heap.size W w':=(specForm K n x o W).mono (by
 rintro e w' ⟨⟨bb,rfl,h1,h2⟩,hB⟩
 cases bb with
 | true=>exact ⟨rfl,hB⟩
 | false=>exact absurd hok (h2 rfl))
theorem form_no {K n:Int} {x:OpF} {o:Ord} (hok:¬bopOk K x o n) (W:World):Calls Tryz.prog 133 #[.agg #[.int .i64 K,.int .i64 x.k,.int .i64 x.i,.int .i64 x.t,.int .i64 x.m,.int .i64 x.r,.int .i64 o.id,.int .i64 o.src,.int .i64 o.dst,.int .i64 o.amount,.int .i64 o.first,.int .i64 o.every,.int .i64 o.times,.int .i64 n]] W fun e w'=>e=.returned (.bool false)/\Below W.heap.size W w':=(specForm K n x o W).mono (by
 rintro e w' ⟨⟨bb,rfl,h1,h2⟩,hB⟩
 cases bb with
 | false=>exact ⟨rfl,hB⟩
 | true=>exact absurd (h1 rfl) hok)
end Go.Proofs.YtghkbhggopiajaaGreatDoor
