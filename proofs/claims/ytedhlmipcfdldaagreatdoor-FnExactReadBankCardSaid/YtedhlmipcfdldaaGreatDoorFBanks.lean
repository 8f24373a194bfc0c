/- Banks as the exact laws copy and compare them; how a bank that is handed in is opened. Conditions: its accounts and orders lie in memory. -/
import Derived.Test.YtedhlmipcfdldaaGreatDoorFBank
import Derived.ProofKit
import Derived.OpenShut
import Derived.Deep.Slices
namespace Go.Proofs.YtedhlmipcfdldaaGreatDoor
open Go.ChangeShapes Go.WideShapes Go.ChangeAt Go.RowKit
set_option maxRecDepth 8000

/-- Seven cells of a call's own. -/
def Box7 (w : World) (R : Nat) (v0 v1 v2 v3 v4 v5 v6 : Value) : Prop := (w.cell? ⟨R, 0, none⟩ = some v0 ∧ w.cell? ⟨R, 1, none⟩ = some v1 ∧ w.cell? ⟨R, 2, none⟩ = some v2 ∧ w.cell? ⟨R, 3, none⟩ = some v3 ∧ w.cell? ⟨R, 4, none⟩ = some v4 ∧ w.cell? ⟨R, 5, none⟩ = some v5 ∧ w.cell? ⟨R, 6, none⟩ = some v6) ∧ (∀ o, w.frozen? ⟨R, o, none⟩ = false) ∧ R < w.heap.size
theorem Box7.new (w : World) (v0 v1 v2 v3 v4 v5 v6 : Value) (T : Nat) : Box7 (w.alloc (.cells #[v0, v1, v2, v3, v4, v5, v6] T)) w.heap.size v0 v1 v2 v3 v4 v5 v6 :=
  ⟨⟨by simp [go_sem], by simp [go_sem], by simp [go_sem], by simp [go_sem], by simp [go_sem], by simp [go_sem], by simp [go_sem]⟩, fun o => by simp [go_sem], by simp⟩
theorem Box7.kept {n₀ : Nat} {w w' : World} {R : Nat} {v0 v1 v2 v3 v4 v5 v6 : Value} (h : Box7 w R v0 v1 v2 v3 v4 v5 v6) (hb : Below n₀ w w') (hR : R < n₀) : Box7 w' R v0 v1 v2 v3 v4 v5 v6 := by
  obtain ⟨⟨h0, h1, h2, h3, h4, h5, h6⟩, hf, hz⟩ := h
  exact ⟨⟨by rw [hb.cell (p := ⟨R, 0, none⟩) hR]; exact h0, by rw [hb.cell (p := ⟨R, 1, none⟩) hR]; exact h1, by rw [hb.cell (p := ⟨R, 2, none⟩) hR]; exact h2, by rw [hb.cell (p := ⟨R, 3, none⟩) hR]; exact h3, by rw [hb.cell (p := ⟨R, 4, none⟩) hR]; exact h4, by rw [hb.cell (p := ⟨R, 5, none⟩) hR]; exact h5, by rw [hb.cell (p := ⟨R, 6, none⟩) hR]; exact h6⟩, fun o => by rw [hb.frozen (p := ⟨R, o, none⟩) hR]; exact hf o, Nat.lt_of_lt_of_le hz hb.size⟩
theorem Box7.far {w : World} {R : Nat} {v0 v1 v2 v3 v4 v5 v6 : Value} (h : Box7 w R v0 v1 v2 v3 v4 v5 v6) {Q : Nat} (hne : Q ≠ R) (q : Nat) (u : Value) : Box7 (w.setCell ⟨Q, q, none⟩ u) R v0 v1 v2 v3 v4 v5 v6 := by
  obtain ⟨⟨h0, h1, h2, h3, h4, h5, h6⟩, hf, hz⟩ := h
  have o : ∀ j, (w.setCell ⟨Q, q, none⟩ u).cell? ⟨R, j, none⟩ = w.cell? ⟨R, j, none⟩ := fun j => World.cell?_setCell_other _ _ _ _ (by intro e; exact hne (congrArg Addr.block e))
  exact ⟨⟨by rw [o]; exact h0, by rw [o]; exact h1, by rw [o]; exact h2, by rw [o]; exact h3, by rw [o]; exact h4, by rw [o]; exact h5, by rw [o]; exact h6⟩, fun o => by rw [World.frozen?_setCell]; exact hf o, by simpa [World.setCell] using hz⟩
theorem Box7.set0 {w : World} {R : Nat} {v0 v1 v2 v3 v4 v5 v6 : Value} (h : Box7 w R v0 v1 v2 v3 v4 v5 v6) (u : Value) : Box7 (w.setCell ⟨R, 0, none⟩ u) R u v1 v2 v3 v4 v5 v6 := by
  obtain ⟨⟨h0, h1, h2, h3, h4, h5, h6⟩, hf, hz⟩ := h
  have o : ∀ j, j ≠ 0 → (w.setCell ⟨R, 0, none⟩ u).cell? ⟨R, j, none⟩ = w.cell? ⟨R, j, none⟩ := fun j hj => World.cell?_setCell_other _ _ _ _ (by intro e; exact hj (congrArg Addr.off e).symm)
  exact ⟨⟨World.cell?_setCell_same' _ _ _ (by rw [h0]; rfl), by rw [o 1 (by omega)]; exact h1, by rw [o 2 (by omega)]; exact h2, by rw [o 3 (by omega)]; exact h3, by rw [o 4 (by omega)]; exact h4, by rw [o 5 (by omega)]; exact h5, by rw [o 6 (by omega)]; exact h6⟩, fun o => by rw [World.frozen?_setCell]; exact hf o, by simpa [World.setCell] using hz⟩
theorem Box7.set1 {w : World} {R : Nat} {v0 v1 v2 v3 v4 v5 v6 : Value} (h : Box7 w R v0 v1 v2 v3 v4 v5 v6) (u : Value) : Box7 (w.setCell ⟨R, 1, none⟩ u) R v0 u v2 v3 v4 v5 v6 := by
  obtain ⟨⟨h0, h1, h2, h3, h4, h5, h6⟩, hf, hz⟩ := h
  have o : ∀ j, j ≠ 1 → (w.setCell ⟨R, 1, none⟩ u).cell? ⟨R, j, none⟩ = w.cell? ⟨R, j, none⟩ := fun j hj => World.cell?_setCell_other _ _ _ _ (by intro e; exact hj (congrArg Addr.off e).symm)
  exact ⟨⟨by rw [o 0 (by omega)]; exact h0, World.cell?_setCell_same' _ _ _ (by rw [h1]; rfl), by rw [o 2 (by omega)]; exact h2, by rw [o 3 (by omega)]; exact h3, by rw [o 4 (by omega)]; exact h4, by rw [o 5 (by omega)]; exact h5, by rw [o 6 (by omega)]; exact h6⟩, fun o => by rw [World.frozen?_setCell]; exact hf o, by simpa [World.setCell] using hz⟩
theorem Box7.set2 {w : World} {R : Nat} {v0 v1 v2 v3 v4 v5 v6 : Value} (h : Box7 w R v0 v1 v2 v3 v4 v5 v6) (u : Value) : Box7 (w.setCell ⟨R, 2, none⟩ u) R v0 v1 u v3 v4 v5 v6 := by
  obtain ⟨⟨h0, h1, h2, h3, h4, h5, h6⟩, hf, hz⟩ := h
  have o : ∀ j, j ≠ 2 → (w.setCell ⟨R, 2, none⟩ u).cell? ⟨R, j, none⟩ = w.cell? ⟨R, j, none⟩ := fun j hj => World.cell?_setCell_other _ _ _ _ (by intro e; exact hj (congrArg Addr.off e).symm)
  exact ⟨⟨by rw [o 0 (by omega)]; exact h0, by rw [o 1 (by omega)]; exact h1, World.cell?_setCell_same' _ _ _ (by rw [h2]; rfl), by rw [o 3 (by omega)]; exact h3, by rw [o 4 (by omega)]; exact h4, by rw [o 5 (by omega)]; exact h5, by rw [o 6 (by omega)]; exact h6⟩, fun o => by rw [World.frozen?_setCell]; exact hf o, by simpa [World.setCell] using hz⟩
theorem Box7.set3 {w : World} {R : Nat} {v0 v1 v2 v3 v4 v5 v6 : Value} (h : Box7 w R v0 v1 v2 v3 v4 v5 v6) (u : Value) : Box7 (w.setCell ⟨R, 3, none⟩ u) R v0 v1 v2 u v4 v5 v6 := by
  obtain ⟨⟨h0, h1, h2, h3, h4, h5, h6⟩, hf, hz⟩ := h
  have o : ∀ j, j ≠ 3 → (w.setCell ⟨R, 3, none⟩ u).cell? ⟨R, j, none⟩ = w.cell? ⟨R, j, none⟩ := fun j hj => World.cell?_setCell_other _ _ _ _ (by intro e; exact hj (congrArg Addr.off e).symm)
  exact ⟨⟨by rw [o 0 (by omega)]; exact h0, by rw [o 1 (by omega)]; exact h1, by rw [o 2 (by omega)]; exact h2, World.cell?_setCell_same' _ _ _ (by rw [h3]; rfl), by rw [o 4 (by omega)]; exact h4, by rw [o 5 (by omega)]; exact h5, by rw [o 6 (by omega)]; exact h6⟩, fun o => by rw [World.frozen?_setCell]; exact hf o, by simpa [World.setCell] using hz⟩
theorem Box7.set4 {w : World} {R : Nat} {v0 v1 v2 v3 v4 v5 v6 : Value} (h : Box7 w R v0 v1 v2 v3 v4 v5 v6) (u : Value) : Box7 (w.setCell ⟨R, 4, none⟩ u) R v0 v1 v2 v3 u v5 v6 := by
  obtain ⟨⟨h0, h1, h2, h3, h4, h5, h6⟩, hf, hz⟩ := h
  have o : ∀ j, j ≠ 4 → (w.setCell ⟨R, 4, none⟩ u).cell? ⟨R, j, none⟩ = w.cell? ⟨R, j, none⟩ := fun j hj => World.cell?_setCell_other _ _ _ _ (by intro e; exact hj (congrArg Addr.off e).symm)
  exact ⟨⟨by rw [o 0 (by omega)]; exact h0, by rw [o 1 (by omega)]; exact h1, by rw [o 2 (by omega)]; exact h2, by rw [o 3 (by omega)]; exact h3, World.cell?_setCell_same' _ _ _ (by rw [h4]; rfl), by rw [o 5 (by omega)]; exact h5, by rw [o 6 (by omega)]; exact h6⟩, fun o => by rw [World.frozen?_setCell]; exact hf o, by simpa [World.setCell] using hz⟩
theorem Box7.set5 {w : World} {R : Nat} {v0 v1 v2 v3 v4 v5 v6 : Value} (h : Box7 w R v0 v1 v2 v3 v4 v5 v6) (u : Value) : Box7 (w.setCell ⟨R, 5, none⟩ u) R v0 v1 v2 v3 v4 u v6 := by
  obtain ⟨⟨h0, h1, h2, h3, h4, h5, h6⟩, hf, hz⟩ := h
  have o : ∀ j, j ≠ 5 → (w.setCell ⟨R, 5, none⟩ u).cell? ⟨R, j, none⟩ = w.cell? ⟨R, j, none⟩ := fun j hj => World.cell?_setCell_other _ _ _ _ (by intro e; exact hj (congrArg Addr.off e).symm)
  exact ⟨⟨by rw [o 0 (by omega)]; exact h0, by rw [o 1 (by omega)]; exact h1, by rw [o 2 (by omega)]; exact h2, by rw [o 3 (by omega)]; exact h3, by rw [o 4 (by omega)]; exact h4, World.cell?_setCell_same' _ _ _ (by rw [h5]; rfl), by rw [o 6 (by omega)]; exact h6⟩, fun o => by rw [World.frozen?_setCell]; exact hf o, by simpa [World.setCell] using hz⟩
theorem Box7.set6 {w : World} {R : Nat} {v0 v1 v2 v3 v4 v5 v6 : Value} (h : Box7 w R v0 v1 v2 v3 v4 v5 v6) (u : Value) : Box7 (w.setCell ⟨R, 6, none⟩ u) R v0 v1 v2 v3 v4 v5 u := by
  obtain ⟨⟨h0, h1, h2, h3, h4, h5, h6⟩, hf, hz⟩ := h
  have o : ∀ j, j ≠ 6 → (w.setCell ⟨R, 6, none⟩ u).cell? ⟨R, j, none⟩ = w.cell? ⟨R, j, none⟩ := fun j hj => World.cell?_setCell_other _ _ _ _ (by intro e; exact hj (congrArg Addr.off e).symm)
  exact ⟨⟨by rw [o 0 (by omega)]; exact h0, by rw [o 1 (by omega)]; exact h1, by rw [o 2 (by omega)]; exact h2, by rw [o 3 (by omega)]; exact h3, by rw [o 4 (by omega)]; exact h4, by rw [o 5 (by omega)]; exact h5, World.cell?_setCell_same' _ _ _ (by rw [h6]; rfl)⟩, fun o => by rw [World.frozen?_setCell]; exact hf o, by simpa [World.setCell] using hz⟩
theorem below_far {B : Nat} {w W : World} (h : Below B w W) {Q : Nat} (hQ : B ≤ Q) (q : Nat) (u : Value) : Below B w (W.setCell ⟨Q, q, none⟩ u) := h.setCell (p := ⟨Q, q, none⟩) hQ u
theorem Row.far {w : World} {R n k : Nat} {F : Nat → Acc} (h : Row w R n k F) {Q : Nat} (hne : Q ≠ R) (q : Nat) (u : Value) : Row (w.setCell ⟨Q, q, none⟩ u) R n k F := by
  have o : ∀ j, (w.setCell ⟨Q, q, none⟩ u).cell? ⟨R, j, none⟩ = w.cell? ⟨R, j, none⟩ := fun j => World.cell?_setCell_other _ _ _ _ (by intro e; exact hne (congrArg Addr.block e))
  exact ⟨fun j hj => by rw [o]; exact h.1 j hj, fun j => by rw [World.frozen?_setCell]; exact h.2.1 j, by simpa [World.setCell] using h.2.2.1, fun i hi => (h.2.2.2 i hi).of_cells o⟩
theorem RowOrd.far {w : World} {R n k : Nat} {F : Nat → Ord} (h : RowOrd w R n k F) {Q : Nat} (hne : Q ≠ R) (q : Nat) (u : Value) : RowOrd (w.setCell ⟨Q, q, none⟩ u) R n k F := by
  have o : ∀ j, (w.setCell ⟨Q, q, none⟩ u).cell? ⟨R, j, none⟩ = w.cell? ⟨R, j, none⟩ := fun j => World.cell?_setCell_other _ _ _ _ (by intro e; exact hne (congrArg Addr.block e))
  exact ⟨fun j hj => by rw [o]; exact h.1 j hj, fun j => by rw [World.frozen?_setCell]; exact h.2.1 j, by simpa [World.setCell] using h.2.2.1, fun i hi => (h.2.2.2 i hi).of_cells o⟩

set_option maxHeartbeats 1000000 in
theorem eqBank_same (a1 a2 b1 b2 : Option Addr) (n p1 p2 m q1 q2 : Nat) (F : Nat → Acc) (O : Nat → Ord) (k : Bk) (w : World) (hF1 : Fo w a1 n F) (hF2 : Fo w a2 n F) (hO1 : Ords w b1 m O) (hO2 : Ords w b2 m O) :
    Calls Tryz.prog 6 #[.agg #[.int .i64 k.day, .slice a1 n p1, .slice b1 m q1, .int .i64 k.inn, .int .i64 k.out, .int .i64 k.posted, .int .i64 k.missed], .agg #[.int .i64 k.day, .slice a2 n p2, .slice b2 m q2, .int .i64 k.inn, .int .i64 k.out, .int .i64 k.posted, .int .i64 k.missed]] w fun e w' => e = .returned (.bool true) ∧ Below w.heap.size w w' := by
  have X1 : Hid (BkAll ((w.alloc (.cells #[.int .i64 k.day, .slice a1 n p1, .slice b1 m q1, .int .i64 k.inn, .int .i64 k.out, .int .i64 k.posted, .int .i64 k.missed] 25)).alloc (.cells #[.int .i64 k.day, .slice a2 n p2, .slice b2 m q2, .int .i64 k.inn, .int .i64 k.out, .int .i64 k.posted, .int .i64 k.missed] 25)) w.heap.size a1 b1 n p1 m q1 F O k w) := by
    have : BkAll (w.alloc (.cells #[.int .i64 k.day, .slice a1 n p1, .slice b1 m q1, .int .i64 k.inn, .int .i64 k.out, .int .i64 k.posted, .int .i64 k.missed] 25)) w.heap.size a1 b1 n p1 m q1 F O k w := ⟨BkBox.new w _ _ k 25, hF1.alloc _, hO1.alloc _, (Below.refl _ _).alloc (Nat.le_refl _) _⟩
    exact this.below ((Below.refl _ _).alloc (Nat.le_refl _) _)
  have X2 : Hid (BkAll ((w.alloc (.cells #[.int .i64 k.day, .slice a1 n p1, .slice b1 m q1, .int .i64 k.inn, .int .i64 k.out, .int .i64 k.posted, .int .i64 k.missed] 25)).alloc (.cells #[.int .i64 k.day, .slice a2 n p2, .slice b2 m q2, .int .i64 k.inn, .int .i64 k.out, .int .i64 k.posted, .int .i64 k.missed] 25)) (w.heap.size + 1) a2 b2 n p2 m q2 F O k w) := by
    have h := BkBox.new (w.alloc (.cells #[.int .i64 k.day, .slice a1 n p1, .slice b1 m q1, .int .i64 k.inn, .int .i64 k.out, .int .i64 k.posted, .int .i64 k.missed] 25)) (.slice a2 n p2) (.slice b2 m q2) k 25
    rw [World.size_alloc] at h
    exact ⟨h, (hF2.alloc _).alloc _, (hO2.alloc _).alloc _, ((Below.refl _ _).alloc (Nat.le_refl _) _).alloc (by simp) _⟩
  clear hF1 hF2 hO1 hO2
  have e0 : (k.day != k.day) = false := by simp
  have e1 : (k.inn != k.inn) = false := by simp
  have e2 : (k.out != k.out) = false := by simp
  have e3 : (k.posted != k.posted) = false := by simp
  have e4 : (k.missed != k.missed) = false := by simp
  go_enter Tryz.func6, Tryz.ntmps6
  go_wp2_with fail
  refine (eqAccountS_same _ _ n _ _ F _ X1.out.2.1 X2.out.2.1).mono ?_
  rintro e w1 ⟨rfl, B1⟩
  have Y1 : Hid (BkAll w1 w.heap.size a1 b1 n p1 m q1 F O k w) := X1.out.below B1
  have Y2 : Hid (BkAll w1 (w.heap.size + 1) a2 b2 n p2 m q2 F O k w) := X2.out.below B1
  clear X1 X2 B1
  obtain ⟨⟨c0, c1, c2, c3, c4, c5, c6, _⟩, _, _, _⟩ := Y1.out
  obtain ⟨⟨g0, g1, g2, g3, g4, g5, g6, _⟩, _, _, _⟩ := Y2.out
  go_wp2_with fail
  refine (eqSOrd_same _ _ m _ _ O _ Y1.out.2.2.1 Y2.out.2.2.1).mono ?_
  rintro e w2 ⟨rfl, B2⟩
  have Z1 : Hid (BkAll w2 w.heap.size a1 b1 n p1 m q1 F O k w) := Y1.out.below B2
  have Z2 : Hid (BkAll w2 (w.heap.size + 1) a2 b2 n p2 m q2 F O k w) := Y2.out.below B2
  clear Y1 Y2 B2 c0 c1 c2 c3 c4 c5 c6 g0 g1 g2 g3 g4 g5 g6
  obtain ⟨⟨c0, c1, c2, c3, c4, c5, c6, _⟩, _, _, _⟩ := Z1.out
  obtain ⟨⟨g0, g1, g2, g3, g4, g5, g6, _⟩, _, _, _⟩ := Z2.out
  go_wp2
  go_ret
  exact ⟨rfl, Z1.out.2.2.2⟩


end Go.Proofs.YtedhlmipcfdldaaGreatDoor
