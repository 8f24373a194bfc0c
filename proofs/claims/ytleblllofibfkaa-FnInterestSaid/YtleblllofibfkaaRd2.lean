/- The draws of ids, amounts and ops: each call answers some value and leaves the reader a reader. Conditions: the reader lies in memory as l1Open leaves it. -/
import Derived.Test.YtleblllofibfkaaRd
namespace Go.Proofs.Ytleblllofibfkaa
open Go.RowKit
set_option maxRecDepth 8000

theorem rd_id (B : Nat) (a : Option Addr) (len cap : Nat) (w : World) (h : Rd w B a len cap) :
    Calls Try.prog 54 #[.pointer (some ⟨B, 0, none⟩)] w fun e w' => ∃ v : Int, e = .returned (.int .i64 v) ∧ 1 ≤ v ∧ v ≤ 6 ∧ Rd w' B a len cap ∧ Stp B w w' := by
  have H : Hid (Rd w B a len cap) := h
  clear h
  go_enter Try.func54, Try.ntmps54
  go_wp2_with fail
  refine (rd_below B a len cap 6 _ H.out (by omega) (by omega)).mono ?_
  rintro e w1 ⟨v, rfl, v1, v2, R1, S1⟩
  have R1' : Hid (Rd w1 B a len cap) := R1
  have S1' : Hid (Stp B w w1) := S1
  clear R1 S1
  go_wp2
  go_ret
  exact ⟨_, ret_int (by go_num), by omega, by omega, R1'.out, S1'.out⟩

set_option maxHeartbeats 1000000 in
theorem rd_money (B : Nat) (a : Option Addr) (len cap : Nat) (w : World) (h : Rd w B a len cap) :
    Calls Try.prog 37 #[.pointer (some ⟨B, 0, none⟩)] w fun e w' => ∃ v : Int, e = .returned (.int .i64 v) ∧ 0 ≤ v ∧ v ≤ 1000000000000 ∧ Rd w' B a len cap ∧ Stp B w w' := by
  have H : Hid (Rd w B a len cap) := h
  clear h
  go_enter Try.func37, Try.ntmps37
  go_wp2_with fail
  refine (rd_below B a len cap 8 _ H.out (by omega) (by omega)).mono ?_
  rintro e w1 ⟨v, rfl, v1, v2, R1, S1⟩
  have R1' : Hid (Rd w1 B a len cap) := R1
  have S1' : Hid (Stp B w w1) := S1
  clear R1 S1
  by_cases h5 : v = 5
  · subst h5
    go_wp2_with fail
    refine (rd_below B a len cap 100000 _ R1'.out (by omega) (by omega)).mono ?_
    rintro e w2 ⟨x, rfl, x1, x2, R2, S2⟩
    have R2' : Hid (Rd w2 B a len cap) := R2
    have S2' : Hid (Stp B w w2) := S1'.out.trans S2
    clear R2 S2
    go_wp2
    go_ret
    exact ⟨_, rfl, by omega, by omega, R2'.out, S2'.out⟩
  have h5b : (v == 5) = false := by simp [h5]
  by_cases h6 : v = 6
  · subst h6
    go_wp2_with fail
    refine (rd_below B a len cap 3 _ R1'.out (by omega) (by omega)).mono ?_
    rintro e w2 ⟨x, rfl, x1, x2, R2, S2⟩
    have R2' : Hid (Rd w2 B a len cap) := R2
    have S2' : Hid (Stp B w w2) := S1'.out.trans S2
    clear R2 S2
    go_wp2
    go_ret
    exact ⟨1000000000000 - x, ret_int (by go_num), by omega, by omega, R2'.out, S2'.out⟩
  have h6b : (v == 6) = false := by simp [h6]
  by_cases h7 : v = 7
  · subst h7
    go_wp2_with fail
    refine (rd_word B a len cap _ R1'.out).mono ?_
    rintro e w2 ⟨x, rfl, xw, R2, S2⟩
    obtain ⟨x1, x2⟩ : 0 ≤ x ∧ x ≤ 18446744073709551615 := by simpa [Lit.wf, IntKind.min, IntKind.max, IntKind.signed, IntKind.bits] using xw
    clear xw
    have R2' : Hid (Rd w2 B a len cap) := R2
    have S2' : Hid (Stp B w w2) := S1'.out.trans S2
    clear R2 S2
    go_wp2
    go_ret
    refine ⟨x % 1000000000000, ret_int (by go_num), by omega, by omega, R2'.out, S2'.out⟩
  have h7b : (v == 7) = false := by simp [h7]
  go_wp2_with fail
  refine (rd_below B a len cap 60 _ R1'.out (by omega) (by omega)).mono ?_
  rintro e w2 ⟨x, rfl, x1, x2, R2, S2⟩
  have R2' : Hid (Rd w2 B a len cap) := R2
  have S2' : Hid (Stp B w w2) := S1'.out.trans S2
  clear R2 S2
  go_wp2
  go_ret
  exact ⟨_, rfl, by omega, by omega, R2'.out, S2'.out⟩

/-- An op in a block that may be written. -/
def OB (w : World) (R : Nat) (k i t m r : Int) : Prop := OpBox w R k i t m r ∧ ∀ o, w.frozen? ⟨R, o, none⟩ = false
theorem OB.new (w : World) (k i t m r : Int) (T : Nat) : OB (w.alloc (.cells #[.int .i64 k, .int .i64 i, .int .i64 t, .int .i64 m, .int .i64 r] T)) w.heap.size k i t m r :=
  ⟨OpBox.new w k i t m r T, fun o => by simp [go_sem]⟩
theorem OB.stp {B : Nat} {w w' : World} {R : Nat} {k i t m r : Int} (h : OB w R k i t m r) (hs : Stp B w w') (hR : R ≠ B) : OB w' R k i t m r := by
  obtain ⟨⟨h0, h1, h2, h3, h4, h5⟩, hf⟩ := h
  refine ⟨⟨?_, ?_, ?_, ?_, ?_, Nat.lt_of_lt_of_le h5 hs.size⟩, fun o => ?_⟩
  · rw [hs.cell (p := ⟨R, 0, none⟩) h5 hR]; exact h0
  · rw [hs.cell (p := ⟨R, 1, none⟩) h5 hR]; exact h1
  · rw [hs.cell (p := ⟨R, 2, none⟩) h5 hR]; exact h2
  · rw [hs.cell (p := ⟨R, 3, none⟩) h5 hR]; exact h3
  · rw [hs.cell (p := ⟨R, 4, none⟩) h5 hR]; exact h4
  · rw [hs.frozen (p := ⟨R, o, none⟩) h5 hR]; exact hf o
theorem OB.alloc {w : World} {R : Nat} {k i t m r : Int} (h : OB w R k i t m r) (x : Obj) : OB (w.alloc x) R k i t m r :=
  h.stp (B := w.heap.size) ((Stp.refl _ w).alloc x) (by have := h.1.2.2.2.2.2; omega)
theorem OB.far {w : World} {R Q : Nat} {k i t m r : Int} (h : OB w R k i t m r) (hQ : Q ≠ R) (o : Nat) (u : Value) : OB (w.setCell ⟨Q, o, none⟩ u) R k i t m r :=
  h.stp (B := Q) ((Stp.refl Q w).setCell o u) (fun e => hQ e.symm)
theorem OB.set0 {w : World} {R : Nat} {k i t m r : Int} (h : OB w R k i t m r) (x : Int) : OB (w.setCell ⟨R, 0, none⟩ (.int .i64 x)) R x i t m r := by
  obtain ⟨⟨h0, h1, h2, h3, h4, h5⟩, hf⟩ := h
  refine ⟨⟨?_, ?_, ?_, ?_, ?_, by simpa [World.setCell] using h5⟩, fun o => by rw [World.frozen?_setCell]; exact hf o⟩
  · exact World.cell?_setCell_same _ _ _ h0
  · rw [World.cell?_setCell_other _ _ _ _ (by intro e; cases e)]; exact h1
  · rw [World.cell?_setCell_other _ _ _ _ (by intro e; cases e)]; exact h2
  · rw [World.cell?_setCell_other _ _ _ _ (by intro e; cases e)]; exact h3
  · rw [World.cell?_setCell_other _ _ _ _ (by intro e; cases e)]; exact h4
theorem OB.set1 {w : World} {R : Nat} {k i t m r : Int} (h : OB w R k i t m r) (x : Int) : OB (w.setCell ⟨R, 1, none⟩ (.int .i64 x)) R k x t m r := by
  obtain ⟨⟨h0, h1, h2, h3, h4, h5⟩, hf⟩ := h
  refine ⟨⟨?_, ?_, ?_, ?_, ?_, by simpa [World.setCell] using h5⟩, fun o => by rw [World.frozen?_setCell]; exact hf o⟩
  · rw [World.cell?_setCell_other _ _ _ _ (by intro e; cases e)]; exact h0
  · exact World.cell?_setCell_same _ _ _ h1
  · rw [World.cell?_setCell_other _ _ _ _ (by intro e; cases e)]; exact h2
  · rw [World.cell?_setCell_other _ _ _ _ (by intro e; cases e)]; exact h3
  · rw [World.cell?_setCell_other _ _ _ _ (by intro e; cases e)]; exact h4
theorem OB.set2 {w : World} {R : Nat} {k i t m r : Int} (h : OB w R k i t m r) (x : Int) : OB (w.setCell ⟨R, 2, none⟩ (.int .i64 x)) R k i x m r := by
  obtain ⟨⟨h0, h1, h2, h3, h4, h5⟩, hf⟩ := h
  refine ⟨⟨?_, ?_, ?_, ?_, ?_, by simpa [World.setCell] using h5⟩, fun o => by rw [World.frozen?_setCell]; exact hf o⟩
  · rw [World.cell?_setCell_other _ _ _ _ (by intro e; cases e)]; exact h0
  · rw [World.cell?_setCell_other _ _ _ _ (by intro e; cases e)]; exact h1
  · exact World.cell?_setCell_same _ _ _ h2
  · rw [World.cell?_setCell_other _ _ _ _ (by intro e; cases e)]; exact h3
  · rw [World.cell?_setCell_other _ _ _ _ (by intro e; cases e)]; exact h4
theorem OB.set3 {w : World} {R : Nat} {k i t m r : Int} (h : OB w R k i t m r) (x : Int) : OB (w.setCell ⟨R, 3, none⟩ (.int .i64 x)) R k i t x r := by
  obtain ⟨⟨h0, h1, h2, h3, h4, h5⟩, hf⟩ := h
  refine ⟨⟨?_, ?_, ?_, ?_, ?_, by simpa [World.setCell] using h5⟩, fun o => by rw [World.frozen?_setCell]; exact hf o⟩
  · rw [World.cell?_setCell_other _ _ _ _ (by intro e; cases e)]; exact h0
  · rw [World.cell?_setCell_other _ _ _ _ (by intro e; cases e)]; exact h1
  · rw [World.cell?_setCell_other _ _ _ _ (by intro e; cases e)]; exact h2
  · exact World.cell?_setCell_same _ _ _ h3
  · rw [World.cell?_setCell_other _ _ _ _ (by intro e; cases e)]; exact h4
theorem OB.set4 {w : World} {R : Nat} {k i t m r : Int} (h : OB w R k i t m r) (x : Int) : OB (w.setCell ⟨R, 4, none⟩ (.int .i64 x)) R k i t m x := by
  obtain ⟨⟨h0, h1, h2, h3, h4, h5⟩, hf⟩ := h
  refine ⟨⟨?_, ?_, ?_, ?_, ?_, by simpa [World.setCell] using h5⟩, fun o => by rw [World.frozen?_setCell]; exact hf o⟩
  · rw [World.cell?_setCell_other _ _ _ _ (by intro e; cases e)]; exact h0
  · rw [World.cell?_setCell_other _ _ _ _ (by intro e; cases e)]; exact h1
  · rw [World.cell?_setCell_other _ _ _ _ (by intro e; cases e)]; exact h2
  · rw [World.cell?_setCell_other _ _ _ _ (by intro e; cases e)]; exact h3
  · exact World.cell?_setCell_same _ _ _ h4
theorem Stp.far {B : Nat} {w x : World} (h : Stp B w x) {R : Nat} (hR : w.heap.size ≤ R) (o : Nat) (u : Value) : Stp B w (x.setCell ⟨R, o, none⟩ u) := h.setNew (p := ⟨R, o, none⟩) hR u
end Go.Proofs.Ytleblllofibfkaa
