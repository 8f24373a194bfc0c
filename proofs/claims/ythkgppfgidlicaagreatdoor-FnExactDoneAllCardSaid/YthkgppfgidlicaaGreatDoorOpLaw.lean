/- The law FnExactOpOk returns true, whatever the op; how an op that is handed in is opened. No conditions. -/
import Derived.Test.YthkgppfgidlicaaGreatDoorOpS
import Derived.Test.YthkgppfgidlicaaGreatDoorOpI
import Derived.ProofKit
import Derived.OpenShut
namespace Go.Proofs.YthkgppfgidlicaaGreatDoor
open Go.ChangeShapes Go.WideShapes Go.ChangeAt Go.RowKit

theorem list5 {l : List Value} (h : l.length = 5) : ∃ a b c d e, l = [a, b, c, d, e] := by
  match l, h with
  | [a, b, c, d, e], _ => exact ⟨a, b, c, d, e, rfl⟩
theorem cellsOp : Tryz.prog.cellsOf 86 = 5 := by kernel_rfl
theorem cellsInt : Tryz.prog.cellsOf 2 = 1 := by kernel_rfl

set_option maxRecDepth 8000 in
theorem op_of_trod {H : Type} {enc : TypeId × Value → H} {W : World} {base : Nat} {spare : Nat → Bool} {held : Bool} {fuel : Nat} {cs : List Value} {x : DataW H × List MemPlace}
    (h : DataW.trod enc Tryz.prog W base spare held fuel 86 cs = some x) : ∃ k i t m r : Int, cs = [.int .i64 k, .int .i64 i, .int .i64 t, .int .i64 m, .int .i64 r] := by
  obtain ⟨xs, n, _, _, hl, hlen, hf⟩ := DataW.trod_struct Tryz.underlying86 h
  rw [cellsOp] at hl
  obtain ⟨c0, c1, c2, c3, c4, rfl⟩ := list5 hl
  have hx : xs.length = 5 := by simpa using hlen
  have g0 : DataW.trod enc Tryz.prog W base spare held n 2 [c0] = xs[0]? := by have := hf 0 _ rfl; simpa [cellsInt] using this
  have g1 : DataW.trod enc Tryz.prog W base spare held n 2 [c1] = xs[1]? := by have := hf 1 _ rfl; simpa [cellsInt] using this
  have g2 : DataW.trod enc Tryz.prog W base spare held n 2 [c2] = xs[2]? := by have := hf 2 _ rfl; simpa [cellsInt] using this
  have g3 : DataW.trod enc Tryz.prog W base spare held n 2 [c3] = xs[3]? := by have := hf 3 _ rfl; simpa [cellsInt] using this
  have g4 : DataW.trod enc Tryz.prog W base spare held n 2 [c4] = xs[4]? := by have := hf 4 _ rfl; simpa [cellsInt] using this
  rw [List.getElem?_eq_getElem (by omega)] at g0 g1 g2 g3 g4
  obtain ⟨x0, e0, _, _⟩ := DataW.trod_int Tryz.underlying2 g0
  obtain ⟨x1, e1, _, _⟩ := DataW.trod_int Tryz.underlying2 g1
  obtain ⟨x2, e2, _, _⟩ := DataW.trod_int Tryz.underlying2 g2
  obtain ⟨x3, e3, _, _⟩ := DataW.trod_int Tryz.underlying2 g3
  obtain ⟨x4, e4, _, _⟩ := DataW.trod_int Tryz.underlying2 g4
  simp at e0 e1 e2 e3 e4
  exact ⟨x0, x1, x2, x3, x4, by rw [e0, e1, e2, e3, e4]⟩
set_option maxRecDepth 8000 in
theorem op_open {H : Type} {enc : TypeId × Value → H} {W : World} {r0 : Reach} {b0 base : Nat} {spare : Nat → Bool} {held : Bool} {v : Value} {d : DataW H} {p : List MemPlace}
    (hv : Value.okWide Tryz.prog W r0 b0 86 v) (h : DataW.Trod enc Tryz.prog W base spare held 86 v d p) : ∃ k i t m r : Int, v = .agg #[.int .i64 k, .int .i64 i, .int .i64 t, .int .i64 m, .int .i64 r] := by
  obtain ⟨cs, rfl, _⟩ := okWide_struct Tryz.underlying86 hv
  obtain ⟨fuel, hf⟩ := h
  obtain ⟨k, i, t, m, r, e⟩ := op_of_trod hf
  obtain ⟨l⟩ := cs
  simp [Value.cells] at e
  exact ⟨k, i, t, m, r, by rw [e]⟩

set_option maxRecDepth 8000 in
set_option maxHeartbeats 1000000 in
theorem toOp (k i t m r : Int) (w : World) :
    Calls Tryz.prog 62 #[.agg #[.int .i64 k, .int .i64 i, .int .i64 t, .int .i64 m, .int .i64 r]] w fun e w' => e = .returned (.agg #[.int .i64 k, .int .i64 i, .int .i64 t, .int .i64 m, .int .i64 r]) ∧ Below w.heap.size w w' := by
  go_enter Tryz.func62, Tryz.ntmps62
  go_wp2
  refine bodyPost_ret (v := .agg #[.int .i64 k, .int .i64 i, .int .i64 t, .int .i64 m, .int .i64 r]) (by simp [results, Tryz.results62, go_sem]) rfl ⟨rfl, ?_⟩
  exact (((Below.refl _ _).alloc (Nat.le_refl _) _).alloc (by simp) _).alloc (by simp; omega) _

/-- An op in memory: five cells. -/
def OpBox (w : World) (R : Nat) (k i t m r : Int) : Prop := w.cell? ⟨R, 0, none⟩ = some (.int .i64 k) ∧ w.cell? ⟨R, 1, none⟩ = some (.int .i64 i) ∧ w.cell? ⟨R, 2, none⟩ = some (.int .i64 t) ∧ w.cell? ⟨R, 3, none⟩ = some (.int .i64 m) ∧ w.cell? ⟨R, 4, none⟩ = some (.int .i64 r) ∧ R < w.heap.size
theorem OpBox.new (w : World) (k i t m r : Int) (T : Nat) : OpBox (w.alloc (.cells #[.int .i64 k, .int .i64 i, .int .i64 t, .int .i64 m, .int .i64 r] T)) w.heap.size k i t m r := by
  unfold OpBox
  simp [go_sem]
theorem OpBox.below {w w' : World} {R : Nat} {k i t m r : Int} (h : OpBox w R k i t m r) (hb : Below w.heap.size w w') : OpBox w' R k i t m r := by
  obtain ⟨h0, h1, h2, h3, h4, h5⟩ := h
  exact ⟨by rw [hb.cell (p := ⟨R, 0, none⟩) h5]; exact h0, by rw [hb.cell (p := ⟨R, 1, none⟩) h5]; exact h1, by rw [hb.cell (p := ⟨R, 2, none⟩) h5]; exact h2, by rw [hb.cell (p := ⟨R, 3, none⟩) h5]; exact h3, by rw [hb.cell (p := ⟨R, 4, none⟩) h5]; exact h4, Nat.lt_of_lt_of_le h5 hb.size⟩

end Go.Proofs.YthkgppfgidlicaaGreatDoor
