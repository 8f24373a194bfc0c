/- Ended of both. -/
import Derived.Test.YtghkbhggopiajaaGreatDoorEdsr
import Derived.Test.YtghkbhggopiajaaGreatDoorMarksr
namespace Go.Proofs.YtghkbhggopiajaaGreatDoor
open Go.RowKit
set_option maxRecDepth 8000
def EndOut (L:List Acc) (O:List Ord) (k:Bk) (w:World) (e:Ending) (w':World):Prop:=
 ((bankOk (FL L) L.length (OrdF O) O.length k/\endOk L O k)/\∃v u,e=.returned (.tuple #[.agg #[.int .i64 (endK L O k).day,v,u,.int .i64 (endK L O k).inn,.int .i64 (endK L O k).out,.int .i64 (endK L O k).posted,.int .i64 (endK L O k).missed],.bool true])/\AL w' w.heap.size v (endA L O k)/\OrdL w' w.heap.size u (endO O k)/\Below w.heap.size w w')\/(¬(bankOk (FL L) L.length (OrdF O) O.length k/\endOk L O k)/\e=.returned (.tuple #[.agg #[.int .i64 0,.slice none 0 0,.slice none 0 0,.int .i64 0,.int .i64 0,.int .i64 0,.int .i64 0],.bool false])/\Below w.heap.size w w')
theorem implEnded (a b:Option Addr) (c d:Nat) (L:List Acc) (O:List Ord) (k:Bk) (p:Nat->Addr) (w:World) (hF:Fo w a L.length (FL L)) (hO:Ords w b O.length (OrdF O)) (hG:GE w p):
  Calls Tryz.prog 22 #[.agg #[.int .i64 k.day,.slice a L.length c,.slice b O.length d,.int .i64 k.inn,.int .i64 k.out,.int .i64 k.posted,.int .i64 k.missed]] w fun e w'=>EndOut L O k w e w':=by
 by_cases hb:bankOk (FL L) L.length (OrdF O) O.length k
 ·refine (implEnded_ok a b c d L O k p w hF hO hG hb).mono fun e w' h=>?_
  rcases h with ⟨h1,h2⟩|⟨h1,h2⟩
  ·exact Or.inl ⟨⟨hb,h1⟩,h2⟩
  ·exact Or.inr ⟨fun h=>h1 h.2,h2⟩
 ·exact (implEnded_bad a b c d L O k w hF hO hb).mono fun e w' h=>Or.inr ⟨fun h'=>hb h'.1,h⟩
open Go.RowKit
open Go.RowKit
set_option maxRecDepth 8000
theorem AL.nil' (w:World) (B:Nat):AL w B (.slice none 0 0) []:=⟨by simp,Or.inl ⟨rfl,rfl⟩⟩
end Go.Proofs.YtghkbhggopiajaaGreatDoor
