/- The draw of a bank and an op. -/
import Derived.Test.YtghkbhggopiajaaGreatDoorRdbr
import Derived.Test.YtghkbhggopiajaaGreatDoorSmbr
import Derived.Test.YtghkbhggopiajaaGreatDoorDrawsr
namespace Go.Proofs.YtghkbhggopiajaaGreatDoor
open Value renaming int → Ii,slice → Sl
open IntKind renaming i64 → Jj
open Go.RowKit
set_option maxRecDepth 8000
theorem Code.below {w w':World} {a:Option Addr} {len:Nat} (h:Code w a len) (hb:Below w.heap.size w w'):Code w' a len:=⟨h.1,fun i hi=>by
 obtain ⟨b,off,z,e,hlt,hc,h1,h2⟩:=h.2 i hi
 exact ⟨b,off,z,e,Nat.lt_of_lt_of_le hlt hb.size,(hb.cell (p:=⟨b,off+i,none⟩) hlt).trans hc,h1,h2⟩⟩
theorem ak.nms {V:World} {r:Nat} {v0 v1 v2 v3 v4 v5 v6:Value} (h:ak V r v0 v1 v2 v3 v4 v5 v6):ec r 0 [v0,v1,v2,v3,v4,v5,v6] V:=⟨h.2.2,fun i y hi=>by
 match i,hi with
 | 0,hi=>simp at hi;subst hi;simpa using h.1.1
 | 1,hi=>simp at hi;subst hi;simpa using h.1.2.1
 | 2,hi=>simp at hi;subst hi;simpa using h.1.2.2.1
 | 3,hi=>simp at hi;subst hi;simpa using h.1.2.2.2.1
 | 4,hi=>simp at hi;subst hi;simpa using h.1.2.2.2.2.1
 | 5,hi=>simp at hi;subst hi;simpa using h.1.2.2.2.2.2.1
 | 6,hi=>simp at hi;subst hi;simpa using h.1.2.2.2.2.2.2
⟩
theorem dZ.nms {V:World} {r:Nat} {l:List Value} (h:dZ V r l):ec r 0 l V:=⟨h.2.2,fun i y hi=>by simpa using h.1 i y hi⟩
theorem tW {L:List aj} {O:List au} {k:Bk} {K n:Int} {x:cV} {o:au} (h:(aY L O k K x o n).code=0):aq (FL L) L.length (ae O) O.length k/\(aY L O k K x o n).ok/\k.inn<=(aY L O k K x o n).k.inn/\k.out<=(aY L O k K x o n).k.out/\((aY L O k K x o n).k.day=k.day+1↔K=22):=by
 by_cases hb:aq (FL L) L.length (ae O) O.length k
 ·have e:aY L O k K x o n=dk L O k K x o n:=if_pos hb
  rw[e] at h ⊢
  refine ⟨hb,pO h,?_⟩
  have hp:(eU L O k K x o n).code=0/\dk L O k K x o n=eU L O k K x o n:=by
   by_cases c0:(eU L O k K x o n).code=0
   ·by_cases c1:(eU L O k K x o n).ok
    ·exact ⟨c0,dQ c0 c1⟩
    ·have:=dl (L:=L) (O:=O) (k:=k) c0 c1
     unfold dk at h
     rw[this] at h
     simp at h
   ·have:=fp (L:=L) (O:=O) (k:=k) c0
    unfold dk at h
    rw[this] at h
    exact absurd h c0
  rw[hp.2]
  have h0:=hp.1
  by_cases hok:ba K x o n
  ·rcases jP hok with rfl|rfl|rfl|rfl
   ·rw[pf hok]
    have hx:=((sE n x o).1 hok).1
    refine ⟨?_,?_,?_⟩
    ·show k.inn<=(cM k x).inn
     unfold cM
     simp only
     split
     ·rename_i e5
      rcases hx.2 with h|h|h|h|h|h|h <;>omega
     ·exact Int.le_refl _
    ·show k.out<=(cM k x).out
     unfold cM
     simp only
     split
     ·rename_i e5
      rcases hx.2 with h|h|h|h|h|h|h <;>omega
     ·exact Int.le_refl _
    ·show (cM k x).day=k.day+1↔_
     constructor
     ·intro e
      have:k.day=k.day+1:=e
      omega
     ·intro e;cases e
   ·by_cases ht:bv O o.id
    ·rw[ip hok ht] at h0;simp at h0
    ·rw[lO hok ht]
     exact ⟨Int.le_refl _,Int.le_refl _,⟨fun e=>by have:k.day=k.day+1:=e;omega,fun e=>by cases e⟩⟩
   ·by_cases ht:bv O n
    ·rw[lP hok ht]
     exact ⟨Int.le_refl _,Int.le_refl _,⟨fun e=>by have:k.day=k.day+1:=e;omega,fun e=>by cases e⟩⟩
    ·rw[jN hok ht] at h0;simp at h0
   ·by_cases ht:cU L O k
    ·rw[lQ hok ht]
     exact ⟨Int.le_refl _,Int.le_refl _,⟨fun _=>rfl,fun _=>rfl⟩⟩
    ·rw[jO hok ht] at h0;simp at h0
  ·rw[jM hok] at h0
   simp at h0
 ·have e:aY L O k K x o n=⟨1,[],[],⟨0,0,0,0,0⟩⟩:=if_neg hb
  rw[e] at h
  simp at h
theorem tL {L:List aj} {O:List au} {k:Bk} {K n:Int} {x:cV} {o:au} (h0:(aY L O k K x o n).code≠0) (h1:(aY L O k K x o n).code≠1):(aY L O k K x o n).L=L/\(aY L O k K x o n).O=O/\(aY L O k K x o n).k=k:=by
 by_cases hb:aq (FL L) L.length (ae O) O.length k
 ·have e:aY L O k K x o n=dk L O k K x o n:=if_pos hb
  rw[e] at h0 ⊢
  rw[lV h0]
  exact ⟨rfl,rfl,rfl⟩
 ·have e:aY L O k K x o n=⟨1,[],[],⟨0,0,0,0,0⟩⟩:=if_neg hb
  rw[e] at h1
  exact absurd rfl h1
def cW (V:World) (r B:Nat) (v u:Value) (k:Bk) (L:List aj) (O:List au):Prop:=ak V r (Ii Jj k.day) v u (Ii Jj k.inn) (Ii Jj k.out) (Ii Jj k.posted) (Ii Jj k.missed)/\AL V B v L/\ah V B u O
theorem cW.below {V W:World} {r B:Nat} {v u:Value} {k:Bk} {L:List aj} {O:List au} (h:cW V r B v u k L O) (hb:Below V.heap.size V W):cW W r B v u k L O:=⟨h.1.kept hb h.1.2.2,h.2.1.kept hb,h.2.2.kept hb⟩
theorem cW.new {V:World} {B B':Nat} {v u:Value} {k:Bk} {L:List aj} {O:List au} (h1:AL V B v L) (h2:ah V B u O) (hB:B'<=B):cW (V.alloc (.cells #[Ii Jj k.day,v,u,Ii Jj k.inn,Ii Jj k.out,Ii Jj k.posted,Ii Jj k.missed] 38)) V.heap.size B' v u k L O:=
 have hb:Below V.heap.size V (V.alloc (.cells #[Ii Jj k.day,v,u,Ii Jj k.inn,Ii Jj k.out,Ii Jj k.posted,Ii Jj k.missed] 38)):=(Below.refl _ _).alloc (Nat.le_refl _) _
 ⟨ak.new _ _ _ _ _ _ _ _ _,(h1.kept hb).mono hB,(h2.kept hb).mono hB⟩
theorem cW.nms {V:World} {r B:Nat} {v u:Value} {k:Bk} {L:List aj} {O:List au} (h:cW V r B v u k L O):ec r 0 [Ii Jj k.day,v,u,Ii Jj k.inn,Ii Jj k.out,Ii Jj k.posted,Ii Jj k.missed] V:=⟨h.1.2.2,fun i y hi=>by
 match i,hi with
 | 0,hi=>simp at hi;subst hi;simpa using h.1.1.1
 | 1,hi=>simp at hi;subst hi;simpa using h.1.1.2.1
 | 2,hi=>simp at hi;subst hi;simpa using h.1.1.2.2.1
 | 3,hi=>simp at hi;subst hi;simpa using h.1.1.2.2.2.1
 | 4,hi=>simp at hi;subst hi;simpa using h.1.1.2.2.2.2.1
 | 5,hi=>simp at hi;subst hi;simpa using h.1.1.2.2.2.2.2.1
 | 6,hi=>simp at hi;subst hi;simpa using h.1.1.2.2.2.2.2.2
⟩
theorem ga {a1 a2 b1 b2:Option Addr} {n p1 p2 m q1 q2 B C:Nat} {L:List aj} {O:List au} (k:Bk) (w:World) (hL:L.length<=12) (hO:O.length<=8) (h1:AL w B (Sl a1 n p1) L) (h2:ah w B (Sl b1 m q1) O) (h3:AL w C (Sl a2 n p2) L) (h4:ah w C (Sl b2 m q2) O):
  Calls Tryz.prog 24 #[.agg #[Ii Jj k.day,Sl a1 n p1,Sl b1 m q1,Ii Jj k.inn,Ii Jj k.out,Ii Jj k.posted,Ii Jj k.missed],.agg #[Ii Jj k.day,Sl a2 n p2,Sl b2 m q2,Ii Jj k.inn,Ii Jj k.out,Ii Jj k.posted,Ii Jj k.missed]] w fun e w'=>e=.returned (.bool true)/\Below w.heap.size w w':=
 ku a1 a2 b1 b2 n p1 p2 m q1 q2 (FL L) (ae O) k w (h1.fo (by omega)).2 (h3.fo (by omega)).2 (h2.list (by omega)).2 (h4.list (by omega)).2
end Go.Proofs.YtghkbhggopiajaaGreatDoor
