/- The draw of a bank and an op. -/
import Derived.Test.YtghkbhggopiajaaGreatDoorRdbe
import Derived.Test.YtghkbhggopiajaaGreatDoorSmbr
import Derived.Test.YtghkbhggopiajaaGreatDoorDrawsr
namespace Go.Proofs.YtghkbhggopiajaaGreatDoor
open Go.RowKit
set_option maxRecDepth 8000
theorem Code.below {w w':World} {a:Option Addr} {len:Nat} (h:Code w a len) (hb:Below w.heap.size w w'):Code w' a len:=⟨h.1,fun i hi=>by
 obtain ⟨b,off,z,e,hlt,hc,h1,h2⟩:=h.2 i hi
 exact ⟨b,off,z,e,Nat.lt_of_lt_of_le hlt hb.size,(hb.cell (p:=⟨b,off+i,none⟩) hlt).trans hc,h1,h2⟩⟩
def Bkw (V:World) (r B:Nat) (v u:Value) (k:Bk) (L:List Acc) (O:List Ord):Prop:=Box7 V r (.int .i64 k.day) v u (.int .i64 k.inn) (.int .i64 k.out) (.int .i64 k.posted) (.int .i64 k.missed)/\AL V B v L/\OrdL V B u O
theorem Bkw.below {V W:World} {r B:Nat} {v u:Value} {k:Bk} {L:List Acc} {O:List Ord} (h:Bkw V r B v u k L O) (hb:Below V.heap.size V W):Bkw W r B v u k L O:=⟨h.1.kept hb h.1.2.2,h.2.1.kept hb,h.2.2.kept hb⟩
theorem Bkw.new {V:World} {B B':Nat} {v u:Value} {k:Bk} {L:List Acc} {O:List Ord} (h1:AL V B v L) (h2:OrdL V B u O) (hB:B'<=B):Bkw (V.alloc (.cells #[.int .i64 k.day,v,u,.int .i64 k.inn,.int .i64 k.out,.int .i64 k.posted,.int .i64 k.missed] 38)) V.heap.size B' v u k L O:=
 have hb:Below V.heap.size V (V.alloc (.cells #[.int .i64 k.day,v,u,.int .i64 k.inn,.int .i64 k.out,.int .i64 k.posted,.int .i64 k.missed] 38)):=(Below.refl _ _).alloc (Nat.le_refl _) _
 ⟨Box7.new _ _ _ _ _ _ _ _ _,(h1.kept hb).mono hB,(h2.kept hb).mono hB⟩
theorem Bkw.nms {V:World} {r B:Nat} {v u:Value} {k:Bk} {L:List Acc} {O:List Ord} (h:Bkw V r B v u k L O):Nms r 0 [.int .i64 k.day,v,u,.int .i64 k.inn,.int .i64 k.out,.int .i64 k.posted,.int .i64 k.missed] V:=⟨h.1.2.2,fun i y hi=>by
 match i,hi with
 | 0,hi=>simp at hi;subst hi;simpa using h.1.1.1
 | 1,hi=>simp at hi;subst hi;simpa using h.1.1.2.1
 | 2,hi=>simp at hi;subst hi;simpa using h.1.1.2.2.1
 | 3,hi=>simp at hi;subst hi;simpa using h.1.1.2.2.2.1
 | 4,hi=>simp at hi;subst hi;simpa using h.1.1.2.2.2.2.1
 | 5,hi=>simp at hi;subst hi;simpa using h.1.1.2.2.2.2.2.1
 | 6,hi=>simp at hi;subst hi;simpa using h.1.1.2.2.2.2.2.2
⟩
theorem sameBankL {a1 a2 b1 b2:Option Addr} {n p1 p2 m q1 q2 B C:Nat} {L:List Acc} {O:List Ord} (k:Bk) (w:World) (hL:L.length<=12) (hO:O.length<=8) (h1:AL w B (.slice a1 n p1) L) (h2:OrdL w B (.slice b1 m q1) O) (h3:AL w C (.slice a2 n p2) L) (h4:OrdL w C (.slice b2 m q2) O):
  Calls Tryz.prog 24 #[.agg #[.int .i64 k.day,.slice a1 n p1,.slice b1 m q1,.int .i64 k.inn,.int .i64 k.out,.int .i64 k.posted,.int .i64 k.missed],.agg #[.int .i64 k.day,.slice a2 n p2,.slice b2 m q2,.int .i64 k.inn,.int .i64 k.out,.int .i64 k.posted,.int .i64 k.missed]] w fun e w'=>e=.returned (.bool true)/\Below w.heap.size w w':=
 sameBank_same a1 a2 b1 b2 n p1 p2 m q1 q2 (FL L) (OrdF O) k w (h1.fo (by omega)).2 (h3.fo (by omega)).2 (h2.list (by omega)).2 (h4.list (by omega)).2
end Go.Proofs.YtghkbhggopiajaaGreatDoor
