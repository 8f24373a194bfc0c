/- The law FnExactOpOk returns true, whatever the op; how an op that is handed in is opened. No conditions. -/
import Derived.Test.YtleblllofibfkaaOpS
import Derived.Test.YtleblllofibfkaaOpI
import Derived.ProofKit
import Derived.OpenShut
namespace Go.Proofs.Ytleblllofibfkaa
open Go.ChangeShapes Go.WideShapes Go.ChangeAt Go.RowKit
set_option maxRecDepth 8000

theorem list5 {l : List Value} (h : l.length = 5) : ∃ a b c d e, l = [a, b, c, d, e] := by
  match l, h with
  | [a, b, c, d, e], _ => exact ⟨a, b, c, d, e, rfl⟩
/-- An op in memory: five cells. -/
def OpBox (w : World) (R : Nat) (k i t m r : Int) : Prop := w.cell? ⟨R, 0, none⟩ = some (.int .i64 k) ∧ w.cell? ⟨R, 1, none⟩ = some (.int .i64 i) ∧ w.cell? ⟨R, 2, none⟩ = some (.int .i64 t) ∧ w.cell? ⟨R, 3, none⟩ = some (.int .i64 m) ∧ w.cell? ⟨R, 4, none⟩ = some (.int .i64 r) ∧ R < w.heap.size
theorem OpBox.new (w : World) (k i t m r : Int) (T : Nat) : OpBox (w.alloc (.cells #[.int .i64 k, .int .i64 i, .int .i64 t, .int .i64 m, .int .i64 r] T)) w.heap.size k i t m r := by
  unfold OpBox
  simp [go_sem]
theorem OpBox.below {w w' : World} {R : Nat} {k i t m r : Int} (h : OpBox w R k i t m r) (hb : Below w.heap.size w w') : OpBox w' R k i t m r := by
  obtain ⟨h0, h1, h2, h3, h4, h5⟩ := h
  exact ⟨by rw [hb.cell (p := ⟨R, 0, none⟩) h5]; exact h0, by rw [hb.cell (p := ⟨R, 1, none⟩) h5]; exact h1, by rw [hb.cell (p := ⟨R, 2, none⟩) h5]; exact h2, by rw [hb.cell (p := ⟨R, 3, none⟩) h5]; exact h3, by rw [hb.cell (p := ⟨R, 4, none⟩) h5]; exact h4, Nat.lt_of_lt_of_le h5 hb.size⟩

end Go.Proofs.Ytleblllofibfkaa
