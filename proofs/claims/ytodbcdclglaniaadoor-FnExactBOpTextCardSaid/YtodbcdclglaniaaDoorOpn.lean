/- An op of a bank that is handed in, opened; what is laid of the library's tables. No conditions. -/
import Derived.Test.YtodbcdclglaniaaDoorRow
import Derived.Test.YtodbcdclglaniaaDoorBop
import Derived.Test.YtodbcdclglaniaaDoorRows
import Derived.ProofKit
import Derived.LaidMore
import Derived.OpenShut
import Derived.OpenVars
import Derived.Stop.Joined
import Derived.Stop.LaidErr
import Derived.Lib.LaidTab
import Derived.MakeChecks
namespace Go.Proofs.YtodbcdclglaniaaDoor
open Go.ChangeShapes Go.WideShapes Go.ChangeAt Go.RowKit
set_option maxRecDepth 8000

theorem list5 {l : List Value} (h : l.length = 5) : ∃ a b c d e, l = [a, b, c, d, e] := by
  match l, h with
  | [a, b, c, d, e], _ => exact ⟨a, b, c, d, e, rfl⟩
theorem cellsOp : Tryd.prog.cellsOf 36 = 5 := by kernel_rfl
theorem cellsInt : Tryd.prog.cellsOf 2 = 1 := by kernel_rfl

set_option maxRecDepth 8000 in
theorem op_of_trod {H : Type} {enc : TypeId × Value → H} {W : World} {base : Nat} {spare : Nat → Bool} {held : Bool} {fuel : Nat} {cs : List Value} {x : DataW H × List MemPlace}
    (h : DataW.trod enc Tryd.prog W base spare held fuel 36 cs = some x) : ∃ k i t m r : Int, cs = [.int .i64 k, .int .i64 i, .int .i64 t, .int .i64 m, .int .i64 r] := by
  obtain ⟨xs, n, _, _, hl, hlen, hf⟩ := DataW.trod_struct Tryd.underlying36 h
  rw [cellsOp] at hl
  obtain ⟨c0, c1, c2, c3, c4, rfl⟩ := list5 hl
  have hx : xs.length = 5 := by simpa using hlen
  have g0 : DataW.trod enc Tryd.prog W base spare held n 2 [c0] = xs[0]? := by have := hf 0 _ rfl; simpa [cellsInt] using this
  have g1 : DataW.trod enc Tryd.prog W base spare held n 2 [c1] = xs[1]? := by have := hf 1 _ rfl; simpa [cellsInt] using this
  have g2 : DataW.trod enc Tryd.prog W base spare held n 2 [c2] = xs[2]? := by have := hf 2 _ rfl; simpa [cellsInt] using this
  have g3 : DataW.trod enc Tryd.prog W base spare held n 2 [c3] = xs[3]? := by have := hf 3 _ rfl; simpa [cellsInt] using this
  have g4 : DataW.trod enc Tryd.prog W base spare held n 2 [c4] = xs[4]? := by have := hf 4 _ rfl; simpa [cellsInt] using this
  rw [List.getElem?_eq_getElem (by omega)] at g0 g1 g2 g3 g4
  obtain ⟨x0, e0, _, _⟩ := DataW.trod_int Tryd.underlying2 g0
  obtain ⟨x1, e1, _, _⟩ := DataW.trod_int Tryd.underlying2 g1
  obtain ⟨x2, e2, _, _⟩ := DataW.trod_int Tryd.underlying2 g2
  obtain ⟨x3, e3, _, _⟩ := DataW.trod_int Tryd.underlying2 g3
  obtain ⟨x4, e4, _, _⟩ := DataW.trod_int Tryd.underlying2 g4
  simp at e0 e1 e2 e3 e4
  exact ⟨x0, x1, x2, x3, x4, by rw [e0, e1, e2, e3, e4]⟩
theorem list7o {l : List Value} (h : l.length = 7) : ∃ a b c d e f g, l = [a, b, c, d, e, f, g] := by
  match l, h with
  | [a, b, c, d, e, f, g], _ => exact ⟨a, b, c, d, e, f, g, rfl⟩
theorem cellsOrd : Tryd.prog.cellsOf 38 = 7 := by kernel_rfl

theorem ord_of_trod {H : Type} {enc : TypeId × Value → H} {W : World} {base : Nat} {spare : Nat → Bool} {held : Bool} {fuel : Nat} {cs : List Value} {x : DataW H × List MemPlace}
    (h : DataW.trod enc Tryd.prog W base spare held fuel 38 cs = some x) : ∃ o : Ord, cs = [.int .i64 o.id, .int .i64 o.src, .int .i64 o.dst, .int .i64 o.amount, .int .i64 o.first, .int .i64 o.every, .int .i64 o.times] := by
  obtain ⟨xs, n, _, _, hl, hlen, hf⟩ := DataW.trod_struct Tryd.underlying38 h
  rw [cellsOrd] at hl
  obtain ⟨c0, c1, c2, c3, c4, c5, c6, rfl⟩ := list7o hl
  have hx : xs.length = 7 := by simpa using hlen
  have g0 : DataW.trod enc Tryd.prog W base spare held n 2 [c0] = xs[0]? := by have := hf 0 _ rfl; simpa [cellsInt] using this
  have g1 : DataW.trod enc Tryd.prog W base spare held n 2 [c1] = xs[1]? := by have := hf 1 _ rfl; simpa [cellsInt] using this
  have g2 : DataW.trod enc Tryd.prog W base spare held n 2 [c2] = xs[2]? := by have := hf 2 _ rfl; simpa [cellsInt] using this
  have g3 : DataW.trod enc Tryd.prog W base spare held n 2 [c3] = xs[3]? := by have := hf 3 _ rfl; simpa [cellsInt] using this
  have g4 : DataW.trod enc Tryd.prog W base spare held n 2 [c4] = xs[4]? := by have := hf 4 _ rfl; simpa [cellsInt] using this
  have g5 : DataW.trod enc Tryd.prog W base spare held n 2 [c5] = xs[5]? := by have := hf 5 _ rfl; simpa [cellsInt] using this
  have g6 : DataW.trod enc Tryd.prog W base spare held n 2 [c6] = xs[6]? := by have := hf 6 _ rfl; simpa [cellsInt] using this
  rw [List.getElem?_eq_getElem (by omega)] at g0 g1 g2 g3 g4 g5 g6
  obtain ⟨x0, e0, _, _⟩ := DataW.trod_int Tryd.underlying2 g0
  obtain ⟨x1, e1, _, _⟩ := DataW.trod_int Tryd.underlying2 g1
  obtain ⟨x2, e2, _, _⟩ := DataW.trod_int Tryd.underlying2 g2
  obtain ⟨x3, e3, _, _⟩ := DataW.trod_int Tryd.underlying2 g3
  obtain ⟨x4, e4, _, _⟩ := DataW.trod_int Tryd.underlying2 g4
  obtain ⟨x5, e5, _, _⟩ := DataW.trod_int Tryd.underlying2 g5
  obtain ⟨x6, e6, _, _⟩ := DataW.trod_int Tryd.underlying2 g6
  simp at e0 e1 e2 e3 e4 e5 e6
  exact ⟨⟨x0, x1, x2, x3, x4, x5, x6⟩, by rw [e0, e1, e2, e3, e4, e5, e6]⟩
theorem list14 {l : List Value} (h : l.length = 14) : ∃ c0 c1 c2 c3 c4 c5 c6 c7 c8 c9 c10 c11 c12 c13, l = [c0, c1, c2, c3, c4, c5, c6, c7, c8, c9, c10, c11, c12, c13] := by
  match l, h with
  | [c0, c1, c2, c3, c4, c5, c6, c7, c8, c9, c10, c11, c12, c13], _ => exact ⟨c0, c1, c2, c3, c4, c5, c6, c7, c8, c9, c10, c11, c12, c13, rfl⟩
theorem cellsBop : Tryd.prog.cellsOf 40 = 14 := by kernel_rfl
theorem bop_of_trod {H : Type} {enc : TypeId × Value → H} {W : World} {base : Nat} {spare : Nat → Bool} {held : Bool} {fuel : Nat} {cs : List Value} {x : DataW H × List MemPlace}
    (h : DataW.trod enc Tryd.prog W base spare held fuel 40 cs = some x) : ∃ (KK nn : Int) (x : OpF) (o : Ord), cs = [.int .i64 KK, .int .i64 x.k, .int .i64 x.i, .int .i64 x.t, .int .i64 x.m, .int .i64 x.r, .int .i64 o.id, .int .i64 o.src, .int .i64 o.dst, .int .i64 o.amount, .int .i64 o.first, .int .i64 o.every, .int .i64 o.times, .int .i64 nn] := by
  obtain ⟨xs, n, _, _, hl, hlen, hf⟩ := DataW.trod_struct Tryd.underlying40 h
  rw [cellsBop] at hl
  obtain ⟨c0, c1, c2, c3, c4, c5, c6, c7, c8, c9, c10, c11, c12, c13, rfl⟩ := list14 hl
  have hx : xs.length = 4 := by simpa using hlen
  have g0 : DataW.trod enc Tryd.prog W base spare held n 2 [c0] = xs[0]? := by have := hf 0 _ rfl; simpa [cellsInt, cellsOp, cellsOrd] using this
  have g1 : DataW.trod enc Tryd.prog W base spare held n 36 [c1, c2, c3, c4, c5] = xs[1]? := by have := hf 1 _ rfl; simpa [cellsInt, cellsOp, cellsOrd] using this
  have g2 : DataW.trod enc Tryd.prog W base spare held n 38 [c6, c7, c8, c9, c10, c11, c12] = xs[2]? := by have := hf 2 _ rfl; simpa [cellsInt, cellsOp, cellsOrd] using this
  have g3 : DataW.trod enc Tryd.prog W base spare held n 2 [c13] = xs[3]? := by have := hf 3 _ rfl; simpa [cellsInt, cellsOp, cellsOrd] using this
  rw [List.getElem?_eq_getElem (by omega)] at g0 g1 g2 g3
  obtain ⟨x0, e0, _, _⟩ := DataW.trod_int Tryd.underlying2 g0
  obtain ⟨x13, e13, _, _⟩ := DataW.trod_int Tryd.underlying2 g3
  obtain ⟨k, i, t, m, r, e1⟩ := op_of_trod g1
  obtain ⟨o, e2⟩ := ord_of_trod g2
  simp only [List.cons.injEq, and_true] at e0 e13 e1 e2
  obtain ⟨rfl, rfl, rfl, rfl, rfl⟩ := e1
  obtain ⟨rfl, rfl, rfl, rfl, rfl, rfl, rfl⟩ := e2
  subst e0 e13
  exact ⟨x0, x13, ⟨k, i, t, m, r⟩, o, rfl⟩


theorem own : ownKnob Tryd.prog.godebug = none := by kernel_rfl
theorem laidOut : laidOutB Tryd.prog = true := by kernel_rfl
theorem tPow : (Tryd.prog.globals[0]?).map (·.type) = some 109 := by kernel_rfl
theorem cellsPow : Tryd.prog.cellsOf 109 = 20 := by kernel_rfl
theorem cellsU : Tryd.prog.cellsOf 102 = 1 := by kernel_rfl
theorem undPow : Tryd.prog.underlying 109 = some (.array 20 102) := by kernel_rfl
theorem undU : Tryd.prog.underlying 102 = some (.int .u64) := by kernel_rfl
/-- The lists of what is laid. -/
def laid3 : List (String × DataW Unit) := [("math/bits.deBruijn32tab", Rows.laid_math_bits_deBruijn32tab), ("math/bits.deBruijn64tab", Rows.laid_math_bits_deBruijn64tab), ("internal/strconv.uint64pow10", Rows.laid_internal_strconv_uint64pow10)]
theorem door_met3 (os : Os) (args : Array Value) : laidMetH Tryd.prog laid3 ((World.doorLaid Tryd.prog 400 os).forCall (fun _ _ => 0) ⟨#[], args, []⟩).memory :=
  laidMetH_of_parts3 (fuel := 8) (laidMet_of_run' 8 (by kernel_rfl) (by kernel_rfl)) (by kernel_rfl) (by kernel_rfl)
theorem pow_of_laid3 {W : World} (h : laidMetH Tryd.prog laid3 W) : Pow W := by
  rw [MakeChecks.laidMetH_plain _ _ _ (by kernel_rfl)] at h
  exact Lib.tabIs_of_head (rest := []) gPow tPow undPow undU cellsU cellsPow h.tail.tail
end Go.Proofs.YtodbcdclglaniaaDoor
