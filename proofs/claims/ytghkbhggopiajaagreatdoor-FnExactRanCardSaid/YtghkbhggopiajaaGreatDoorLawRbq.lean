/- FnExactRan. -/
import Derived.Test.YtghkbhggopiajaaGreatDoorLawRanq
namespace Go.Proofs.YtghkbhggopiajaaGreatDoor
open Go.RowKit
set_option maxRecDepth 8000
theorem list14 {l : List Value} (h : l.length = 14) : ∃ c0 c1 c2 c3 c4 c5 c6 c7 c8 c9 c10 c11 c12 c13, l = [c0, c1, c2, c3, c4, c5, c6, c7, c8, c9, c10, c11, c12, c13] := by
 match l, h with
 | [c0, c1, c2, c3, c4, c5, c6, c7, c8, c9, c10, c11, c12, c13], _ => exact ⟨c0, c1, c2, c3, c4, c5, c6, c7, c8, c9, c10, c11, c12, c13, rfl⟩
theorem cellsBop : Tryz.prog.cellsOf 77 = 14 := by kernel_rfl
theorem bop_of_trod {H : Type} {enc : TypeId × Value -> H} {W : World} {base : Nat} {spare : Nat -> Bool} {held : Bool} {fuel : Nat} {cs : List Value} {x : DataW H × List MemPlace}
  (h : DataW.trod enc Tryz.prog W base spare held fuel 77 cs = some x) : ∃ (KK nn : Int) (x : OpF) (o : Ord), cs = [.int .i64 KK, .int .i64 x.k, .int .i64 x.i, .int .i64 x.t, .int .i64 x.m, .int .i64 x.r, .int .i64 o.id, .int .i64 o.src, .int .i64 o.dst, .int .i64 o.amount, .int .i64 o.first, .int .i64 o.every, .int .i64 o.times, .int .i64 nn] := by
 obtain ⟨xs, n, _, _, hl, hlen, hf⟩ := DataW.trod_struct Tryz.underlying77 h
 rw [cellsBop] at hl
 obtain ⟨c0, c1, c2, c3, c4, c5, c6, c7, c8, c9, c10, c11, c12, c13, rfl⟩ := list14 hl
 have hx : xs.length = 4 := by simpa using hlen
 have g0 : DataW.trod enc Tryz.prog W base spare held n 2 [c0] = xs[0]? := by have := hf 0 _ rfl; simpa [cellsInt, cellsOp, cellsOrd] using this
 have g1 : DataW.trod enc Tryz.prog W base spare held n 74 [c1, c2, c3, c4, c5] = xs[1]? := by have := hf 1 _ rfl; simpa [cellsInt, cellsOp, cellsOrd] using this
 have g2 : DataW.trod enc Tryz.prog W base spare held n 75 [c6, c7, c8, c9, c10, c11, c12] = xs[2]? := by have := hf 2 _ rfl; simpa [cellsInt, cellsOp, cellsOrd] using this
 have g3 : DataW.trod enc Tryz.prog W base spare held n 2 [c13] = xs[3]? := by have := hf 3 _ rfl; simpa [cellsInt, cellsOp, cellsOrd] using this
 rw [List.getElem?_eq_getElem (by omega)] at g0 g1 g2 g3
 obtain ⟨x0, e0, _, _⟩ := DataW.trod_int Tryz.underlying2 g0
 obtain ⟨x13, e13, _, _⟩ := DataW.trod_int Tryz.underlying2 g3
 obtain ⟨k, i, t, m, r, e1⟩ := op_of_trod g1
 obtain ⟨o, e2⟩ := ord_of_trod g2
 simp only [List.cons.injEq, and_true] at e0 e13 e1 e2
 obtain ⟨rfl, rfl, rfl, rfl, rfl⟩ := e1
 obtain ⟨rfl, rfl, rfl, rfl, rfl, rfl, rfl⟩ := e2
 subst e0 e13
 exact ⟨x0, x13, ⟨k, i, t, m, r⟩, o, rfl⟩
theorem lawRan (a b : Option Addr) (n c m d : Nat) (F : Nat -> Acc) (Q : Nat -> Ord) (k : Bk) (KK nn : Int) (x : OpF) (o : Ord) (p : Nat -> Addr) (w : World) (hn : n <= 9223372036854775807) (hm : m <= 9223372036854775807) (hF : n <= 1048576 -> Fo w a n F) (hO : m <= 1048576 -> Ords w b m Q) (hG : GE w p) :
  Calls Tryz.prog 9 #[.agg #[.int .i64 k.day, .slice a n c, .slice b m d, .int .i64 k.inn, .int .i64 k.out, .int .i64 k.posted, .int .i64 k.missed], .agg #[.int .i64 KK, .int .i64 x.k, .int .i64 x.i, .int .i64 x.t, .int .i64 x.m, .int .i64 x.r, .int .i64 o.id, .int .i64 o.src, .int .i64 o.dst, .int .i64 o.amount, .int .i64 o.first, .int .i64 o.every, .int .i64 o.times, .int .i64 nn]] w fun e w' => e = .returned (.bool true) /\ Below w.heap.size w w' := by
 by_cases hs : n + m <= 1048576
 ·have h1 : (toL F n).length = n := toL_len _ _
  have h2 : ((List.range m).map Q).length = m := by simp
  have hq : ∀ j, j < m -> OrdF ((List.range m).map Q) j = Q j := fun j hj => by rw [OrdF_lt (by rw [h2]; exact hj)]; simp
  have := lawRan_yes a b c d (toL F n) ((List.range m).map Q) k KK nn x o p w (by rw [h1, h2]; exact hs) (by rw [h1]; exact (hF (by omega)).congr (fun j hj => (FL_toL hj).symm)) (by
   rw [h2]
   refine ⟨by omega, ?_⟩
   rcases (hO (by omega)).2 with h0 | ⟨bb, oo, he, hbb, hat⟩
   ·exact Or.inl h0
   ·exact Or.inr ⟨bb, oo, he, hbb, fun i hi => by rw [hq i hi]; exact hat i hi⟩) hG
  rwa [h1, h2] at this
 ·clear hF hO hG
  go_enter Tryz.func9, Tryz.ntmps9
  go_wp2_with (go_at_call 41; refine (szBank_no a b n c m d k _ (by omega) hn hm).mono ?_; rintro e w1 ⟨rfl, B1⟩)
  go_ret
  exact ⟨rfl, (((Below.refl _ _).alloc (Nat.le_refl _) _).alloc (by simp) _).trans (B1.mono (by simp; omega))⟩
end Go.Proofs.YtghkbhggopiajaaGreatDoor
