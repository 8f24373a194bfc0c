/- Ended of both. -/
import Derived.Test.YtghkbhggopiajaaGreatDoorEdsr
import Derived.Test.YtghkbhggopiajaaGreatDoorMarksr
namespace Go.Proofs.YtghkbhggopiajaaGreatDoor
open Value renaming int → Ii,slice → Sl
open IntKind renaming i64 → Jj
open Go.RowKit
set_option maxRecDepth 8000
def tp (L:List aj) (O:List au) (k:Bk) (w:World) (e:Ending) (w':World):Prop:=
 ((aq (FL L) L.length (ae O) O.length k/\cU L O k)/\∃v u,e=.returned (.tuple #[.agg #[Ii Jj (bh L O k).day,v,u,Ii Jj (bh L O k).inn,Ii Jj (bh L O k).out,Ii Jj (bh L O k).posted,Ii Jj (bh L O k).missed],.bool true])/\AL w' w.heap.size v (ct L O k)/\ah w' w.heap.size u (bU O k)/\Below w.heap.size w w')\/(¬(aq (FL L) L.length (ae O) O.length k/\cU L O k)/\e=.returned (.tuple #[.agg #[Ii Jj 0,Sl none 0 0,Sl none 0 0,Ii Jj 0,Ii Jj 0,Ii Jj 0,Ii Jj 0],.bool false])/\Below w.heap.size w w')
theorem kQ (a b:Option Addr) (c d:Nat) (L:List aj) (O:List au) (k:Bk) (p:Nat->Addr) (w:World) (hF:Fo w a L.length (FL L)) (hO:aG w b O.length (ae O)) (hG:GE w p):
  Calls Tryz.prog 22 #[.agg #[Ii Jj k.day,Sl a L.length c,Sl b O.length d,Ii Jj k.inn,Ii Jj k.out,Ii Jj k.posted,Ii Jj k.missed]] w fun e w'=>tp L O k w e w':=by
 by_cases hb:aq (FL L) L.length (ae O) O.length k
 ·refine (lN a b c d L O k p w hF hO hG hb).mono fun e w' h=>?_
  rcases h with ⟨h1,h2⟩|⟨h1,h2⟩
  ·exact Or.inl ⟨⟨hb,h1⟩,h2⟩
  ·exact Or.inr ⟨fun h=>h1 h.2,h2⟩
 ·exact (kn a b c d L O k w hF hO hb).mono fun e w' h=>Or.inr ⟨fun h'=>hb h'.1,h⟩
open Go.RowKit
open Go.RowKit
set_option maxRecDepth 8000
theorem AL.nil' (w:World) (B:Nat):AL w B (Sl none 0 0) []:=⟨by simp,Or.inl ⟨rfl,rfl⟩⟩
end Go.Proofs.YtghkbhggopiajaaGreatDoor
