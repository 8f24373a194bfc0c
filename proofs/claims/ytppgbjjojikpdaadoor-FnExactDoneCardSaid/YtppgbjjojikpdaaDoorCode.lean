/- codeOf of the program: of a refusal the code of what it wraps, of nil 0. Conditions: the package's errors lie in memory as they were laid. -/
import Derived.Test.YtppgbjjojikpdaaDoorAs
import Derived.Test.YtppgbjjojikpdaaDoorIsE
namespace Go.Proofs.YtppgbjjojikpdaaDoor
open Go.RowKit

/-- The package's errors, as they were laid: each a pointer of its own. -/
structure GE (w : World) (p : Nat → Addr) : Prop where
  var : ∀ g, g < 7 → w.cell? ⟨g, 0, none⟩ = some (.iface 127 (.pointer (some (p g))))
  row : ∀ g, g < 7 → ∃ c t, w.heap[(p g).block]? = some (.cells c t (0, 0))
  ne : ∀ g h, g < 7 → h < 7 → g ≠ h → p g ≠ p h
  err : w.cell? ⟨7, 0, none⟩ = some (.iface 111 (.agg #[.pointer (some ⟨8, 41, none⟩)]))
theorem GE.size {w : World} {p : Nat → Addr} (h : GE w p) : 7 < w.heap.size := World.block_lt_of_cell? w _ h.err
theorem GE.below {w w' : World} {p : Nat → Addr} (h : GE w p) (hb : Below w.heap.size w w') : GE w' p := by
  have hz := h.size
  refine ⟨fun g hg => by rw [hb.cell (p := ⟨g, 0, none⟩) (by show g < _; omega)]; exact h.var g hg, fun g hg => ?_, h.ne, by rw [hb.cell (p := ⟨7, 0, none⟩) hz]; exact h.err⟩
  obtain ⟨c, t, hr⟩ := h.row g hg
  exact ⟨c, t, by rw [hb.block _ (Array.getElem?_eq_some_iff.1 hr).1]; exact hr⟩
/-- A refusal: the account, and why. -/
def refV (p : Nat → Addr) (i : Int) (g : Nat) : Value := .iface 57 (.agg #[.int .i64 i, .iface 127 (.pointer (some (p g)))])

theorem isRef_same (i : Int) (p : Nat → Addr) (g : Nat) (w : World) :
    Calls Tryd.prog 35 #[.iface 57 (.agg #[.int .i64 i, .iface 127 (.pointer (some (p g)))]), .iface 127 (.pointer (some (p g)))] w fun e w' => e = .returned (.bool true) ∧ Below w.heap.size w w' :=
  (is_ref_same i (p g) w).mono fun e w' ⟨he, hw⟩ => ⟨he, by rw [hw]; exact (Below.refl _ _).alloc (Nat.le_refl _) _⟩
theorem isRef_other (i : Int) (p : Nat → Addr) (g h : Nat) (w : World) (hG : GE w p) (hg : g < 7) (hh : h < 7) (hne : g ≠ h) :
    Calls Tryd.prog 35 #[.iface 57 (.agg #[.int .i64 i, .iface 127 (.pointer (some (p g)))]), .iface 127 (.pointer (some (p h)))] w fun e w' => e = .returned (.bool false) ∧ Below w.heap.size w w' := by
  obtain ⟨c, t, hr⟩ := hG.row g hg
  obtain ⟨c', t', hr'⟩ := hG.row h hh
  exact (is_ref_other i (p g) (p h) c c' t t' w (hG.ne g h hg hh hne) hr hr').mono fun e w' ⟨he, hw⟩ => ⟨he, by rw [hw]; exact (Below.refl _ _).alloc (Nat.le_refl _) _⟩

/-- errors.As into a box that is the last one made. -/
theorem asRef (i : Int) (p : Nat → Addr) (g : Nat) (w : World) (hG : GE w p) :
    Calls Tryd.prog 34 #[.iface 57 (.agg #[.int .i64 i, .iface 127 (.pointer (some (p g)))]), .iface 64 (.pointer (some ⟨w.heap.size, 0, none⟩))] (w.alloc (.cells #[.int .i64 0, .nilIface] 57)) fun e w' => e = .returned (.bool true) ∧
      w'.cell? ⟨w.heap.size, 0, none⟩ = some (.int .i64 i) ∧ w'.cell? ⟨w.heap.size, 1, none⟩ = some (.iface 127 (.pointer (some (p g)))) ∧ Below w.heap.size w w' := by
  have hg : (w.alloc (.cells #[.int .i64 0, .nilIface] 57)).cell? ⟨7, 0, none⟩ = some (.iface 111 (.agg #[.pointer (some ⟨8, 41, none⟩)])) := by rw [World.cell?_alloc_lt _ _ ⟨7, 0, none⟩ hG.size]; exact hG.err
  refine (as_hit w.heap.size i 127 (.pointer (some (p g))) (.int .i64 0) .nilIface _ hg (by simp [go_sem]) (by simp [go_sem]) (by simp [go_sem]) (by simp [go_sem]) (by simp)).mono fun e w' ⟨he, hw⟩ => ⟨he, ?_⟩
  subst hw
  refine ⟨?_, ?_, ?_⟩
  · rw [World.cell?_setCell_other _ _ _ _ (by intro e; cases e)]
    exact World.cell?_setCell_same' _ _ _ (by simp [go_sem])
  · refine World.cell?_setCell_same' _ _ _ ?_
    rw [World.cell?_setCell_other _ _ _ _ (by intro e; cases e)]
    simp [go_sem]
  · exact ((((((Below.refl _ _).alloc (Nat.le_refl _) _).alloc (by simp) _).alloc (by simp; omega) _).alloc (by simp; omega) _).alloc (by simp; omega) _).setCell (p := ⟨w.heap.size, 0, none⟩) (Nat.le_refl _) _ |>.setCell (p := ⟨w.heap.size, 1, none⟩) (Nat.le_refl _) _

theorem codeOf_nil (w : World) :
    Calls Tryd.prog 18 #[.nilIface] w fun e w' => e = .returned (.int .i64 0) ∧ Below w.heap.size w w' := by
  go_enter Tryd.func18, Tryd.ntmps18
  go_wp2_with (go_at_call 34; refine (as_nil _ _).mono ?_; rintro e w' ⟨rfl, rfl⟩)
  go_ret
  exact ⟨rfl, (Below.refl _ _).alloc (Nat.le_refl _) _⟩

set_option maxRecDepth 8000 in
set_option maxHeartbeats 1000000 in
theorem codeOf_0 (i : Int) (p : Nat → Addr) (w : World) (hG : GE w p) :
    Calls Tryd.prog 18 #[.iface 57 (.agg #[.int .i64 i, .iface 127 (.pointer (some (p 0)))])] w fun e w' => e = .returned (.int .i64 2) ∧ Below w.heap.size w w' := by
  have G0 : Hid (GE w p) := hG
  clear hG
  go_enter Tryd.func18, Tryd.ntmps18
  go_wp2_with fail
  refine (asRef i p 0 w G0.out).mono ?_
  rintro e w1 ⟨rfl, c0, c1, B1⟩
  have X1 : Hid (w1.cell? ⟨w.heap.size, 0, none⟩ = some (.int .i64 i) ∧ w1.cell? ⟨w.heap.size, 1, none⟩ = some (.iface 127 (.pointer (some (p 0)))) ∧ GE w1 p ∧ Below w.heap.size w w1 ∧ w.heap.size < w1.heap.size) := ⟨c0, c1, G0.out.below B1, B1, World.block_lt_of_cell? w1 _ c0⟩
  clear B1 c0 c1
  obtain ⟨c0, c1, gx, _, hz⟩ := X1.out
  have gv := gx.var 0 (by omega)
  clear gx
  go_wp2_with fail
  refine (isRef_same i p 0 _).mono ?_
  rintro e w2 ⟨rfl, B2⟩
  have Z : Hid (Below w.heap.size w w2) := X1.out.2.2.2.1.trans (B2.mono X1.out.2.2.2.1.size)
  clear B2 X1 c0 c1 gv hz
  go_wp2
  go_ret
  exact ⟨rfl, Z.out⟩

set_option maxRecDepth 8000 in
set_option maxHeartbeats 1000000 in
theorem codeOf_1 (i : Int) (p : Nat → Addr) (w : World) (hG : GE w p) :
    Calls Tryd.prog 18 #[.iface 57 (.agg #[.int .i64 i, .iface 127 (.pointer (some (p 1)))])] w fun e w' => e = .returned (.int .i64 7) ∧ Below w.heap.size w w' := by
  have G0 : Hid (GE w p) := hG
  clear hG
  go_enter Tryd.func18, Tryd.ntmps18
  go_wp2_with fail
  refine (asRef i p 1 w G0.out).mono ?_
  rintro e w1 ⟨rfl, c0, c1, B1⟩
  have X1 : Hid (w1.cell? ⟨w.heap.size, 0, none⟩ = some (.int .i64 i) ∧ w1.cell? ⟨w.heap.size, 1, none⟩ = some (.iface 127 (.pointer (some (p 1)))) ∧ GE w1 p ∧ Below w.heap.size w w1 ∧ w.heap.size < w1.heap.size) := ⟨c0, c1, G0.out.below B1, B1, World.block_lt_of_cell? w1 _ c0⟩
  clear B1 c0 c1
  obtain ⟨c0, c1, gx, _, hz⟩ := X1.out
  have gv := gx.var 0 (by omega)
  clear gx
  go_wp2_with fail
  refine (isRef_other i p 1 0 _ X1.out.2.2.1 (by omega) (by omega) (by omega)).mono ?_
  rintro e w2 ⟨rfl, B2⟩
  have X2 : Hid (w2.cell? ⟨w.heap.size, 0, none⟩ = some (.int .i64 i) ∧ w2.cell? ⟨w.heap.size, 1, none⟩ = some (.iface 127 (.pointer (some (p 1)))) ∧ GE w2 p ∧ Below w.heap.size w w2 ∧ w.heap.size < w2.heap.size) :=
    ⟨by rw [B2.cell (p := ⟨w.heap.size, 0, none⟩) hz]; exact c0, by rw [B2.cell (p := ⟨w.heap.size, 1, none⟩) hz]; exact c1, X1.out.2.2.1.below B2, X1.out.2.2.2.1.trans (B2.mono X1.out.2.2.2.1.size), Nat.lt_of_lt_of_le hz B2.size⟩
  clear B2 X1 c0 c1 gv hz
  obtain ⟨c0, c1, gx, _, hz⟩ := X2.out
  have gv := gx.var 2 (by omega)
  clear gx
  go_wp2_with fail
  refine (isRef_other i p 1 2 _ X2.out.2.2.1 (by omega) (by omega) (by omega)).mono ?_
  rintro e w3 ⟨rfl, B3⟩
  have X3 : Hid (w3.cell? ⟨w.heap.size, 0, none⟩ = some (.int .i64 i) ∧ w3.cell? ⟨w.heap.size, 1, none⟩ = some (.iface 127 (.pointer (some (p 1)))) ∧ GE w3 p ∧ Below w.heap.size w w3 ∧ w.heap.size < w3.heap.size) :=
    ⟨by rw [B3.cell (p := ⟨w.heap.size, 0, none⟩) hz]; exact c0, by rw [B3.cell (p := ⟨w.heap.size, 1, none⟩) hz]; exact c1, X2.out.2.2.1.below B3, X2.out.2.2.2.1.trans (B3.mono X2.out.2.2.2.1.size), Nat.lt_of_lt_of_le hz B3.size⟩
  clear B3 X2 c0 c1 gv hz
  obtain ⟨c0, c1, gx, _, hz⟩ := X3.out
  have gv := gx.var 3 (by omega)
  clear gx
  go_wp2_with fail
  refine (isRef_other i p 1 3 _ X3.out.2.2.1 (by omega) (by omega) (by omega)).mono ?_
  rintro e w4 ⟨rfl, B4⟩
  have X4 : Hid (w4.cell? ⟨w.heap.size, 0, none⟩ = some (.int .i64 i) ∧ w4.cell? ⟨w.heap.size, 1, none⟩ = some (.iface 127 (.pointer (some (p 1)))) ∧ GE w4 p ∧ Below w.heap.size w w4 ∧ w.heap.size < w4.heap.size) :=
    ⟨by rw [B4.cell (p := ⟨w.heap.size, 0, none⟩) hz]; exact c0, by rw [B4.cell (p := ⟨w.heap.size, 1, none⟩) hz]; exact c1, X3.out.2.2.1.below B4, X3.out.2.2.2.1.trans (B4.mono X3.out.2.2.2.1.size), Nat.lt_of_lt_of_le hz B4.size⟩
  clear B4 X3 c0 c1 gv hz
  obtain ⟨c0, c1, gx, _, hz⟩ := X4.out
  have gv := gx.var 4 (by omega)
  clear gx
  go_wp2_with fail
  refine (isRef_other i p 1 4 _ X4.out.2.2.1 (by omega) (by omega) (by omega)).mono ?_
  rintro e w5 ⟨rfl, B5⟩
  have X5 : Hid (w5.cell? ⟨w.heap.size, 0, none⟩ = some (.int .i64 i) ∧ w5.cell? ⟨w.heap.size, 1, none⟩ = some (.iface 127 (.pointer (some (p 1)))) ∧ GE w5 p ∧ Below w.heap.size w w5 ∧ w.heap.size < w5.heap.size) :=
    ⟨by rw [B5.cell (p := ⟨w.heap.size, 0, none⟩) hz]; exact c0, by rw [B5.cell (p := ⟨w.heap.size, 1, none⟩) hz]; exact c1, X4.out.2.2.1.below B5, X4.out.2.2.2.1.trans (B5.mono X4.out.2.2.2.1.size), Nat.lt_of_lt_of_le hz B5.size⟩
  clear B5 X4 c0 c1 gv hz
  obtain ⟨c0, c1, gx, _, hz⟩ := X5.out
  have gv := gx.var 5 (by omega)
  clear gx
  go_wp2_with fail
  refine (isRef_other i p 1 5 _ X5.out.2.2.1 (by omega) (by omega) (by omega)).mono ?_
  rintro e w6 ⟨rfl, B6⟩
  have X6 : Hid (w6.cell? ⟨w.heap.size, 0, none⟩ = some (.int .i64 i) ∧ w6.cell? ⟨w.heap.size, 1, none⟩ = some (.iface 127 (.pointer (some (p 1)))) ∧ GE w6 p ∧ Below w.heap.size w w6 ∧ w.heap.size < w6.heap.size) :=
    ⟨by rw [B6.cell (p := ⟨w.heap.size, 0, none⟩) hz]; exact c0, by rw [B6.cell (p := ⟨w.heap.size, 1, none⟩) hz]; exact c1, X5.out.2.2.1.below B6, X5.out.2.2.2.1.trans (B6.mono X5.out.2.2.2.1.size), Nat.lt_of_lt_of_le hz B6.size⟩
  clear B6 X5 c0 c1 gv hz
  obtain ⟨c0, c1, gx, _, hz⟩ := X6.out
  have gv := gx.var 6 (by omega)
  clear gx
  go_wp2_with fail
  refine (isRef_other i p 1 6 _ X6.out.2.2.1 (by omega) (by omega) (by omega)).mono ?_
  rintro e w7 ⟨rfl, B7⟩
  have X7 : Hid (w7.cell? ⟨w.heap.size, 0, none⟩ = some (.int .i64 i) ∧ w7.cell? ⟨w.heap.size, 1, none⟩ = some (.iface 127 (.pointer (some (p 1)))) ∧ GE w7 p ∧ Below w.heap.size w w7 ∧ w.heap.size < w7.heap.size) :=
    ⟨by rw [B7.cell (p := ⟨w.heap.size, 0, none⟩) hz]; exact c0, by rw [B7.cell (p := ⟨w.heap.size, 1, none⟩) hz]; exact c1, X6.out.2.2.1.below B7, X6.out.2.2.2.1.trans (B7.mono X6.out.2.2.2.1.size), Nat.lt_of_lt_of_le hz B7.size⟩
  clear B7 X6 c0 c1 gv hz
  have Z : Hid (Below w.heap.size w w7) := X7.out.2.2.2.1
  go_wp2
  go_ret
  exact ⟨rfl, Z.out⟩

set_option maxRecDepth 8000 in
set_option maxHeartbeats 1000000 in
theorem codeOf_2 (i : Int) (p : Nat → Addr) (w : World) (hG : GE w p) :
    Calls Tryd.prog 18 #[.iface 57 (.agg #[.int .i64 i, .iface 127 (.pointer (some (p 2)))])] w fun e w' => e = .returned (.int .i64 3) ∧ Below w.heap.size w w' := by
  have G0 : Hid (GE w p) := hG
  clear hG
  go_enter Tryd.func18, Tryd.ntmps18
  go_wp2_with fail
  refine (asRef i p 2 w G0.out).mono ?_
  rintro e w1 ⟨rfl, c0, c1, B1⟩
  have X1 : Hid (w1.cell? ⟨w.heap.size, 0, none⟩ = some (.int .i64 i) ∧ w1.cell? ⟨w.heap.size, 1, none⟩ = some (.iface 127 (.pointer (some (p 2)))) ∧ GE w1 p ∧ Below w.heap.size w w1 ∧ w.heap.size < w1.heap.size) := ⟨c0, c1, G0.out.below B1, B1, World.block_lt_of_cell? w1 _ c0⟩
  clear B1 c0 c1
  obtain ⟨c0, c1, gx, _, hz⟩ := X1.out
  have gv := gx.var 0 (by omega)
  clear gx
  go_wp2_with fail
  refine (isRef_other i p 2 0 _ X1.out.2.2.1 (by omega) (by omega) (by omega)).mono ?_
  rintro e w2 ⟨rfl, B2⟩
  have X2 : Hid (w2.cell? ⟨w.heap.size, 0, none⟩ = some (.int .i64 i) ∧ w2.cell? ⟨w.heap.size, 1, none⟩ = some (.iface 127 (.pointer (some (p 2)))) ∧ GE w2 p ∧ Below w.heap.size w w2 ∧ w.heap.size < w2.heap.size) :=
    ⟨by rw [B2.cell (p := ⟨w.heap.size, 0, none⟩) hz]; exact c0, by rw [B2.cell (p := ⟨w.heap.size, 1, none⟩) hz]; exact c1, X1.out.2.2.1.below B2, X1.out.2.2.2.1.trans (B2.mono X1.out.2.2.2.1.size), Nat.lt_of_lt_of_le hz B2.size⟩
  clear B2 X1 c0 c1 gv hz
  obtain ⟨c0, c1, gx, _, hz⟩ := X2.out
  have gv := gx.var 2 (by omega)
  clear gx
  go_wp2_with fail
  refine (isRef_same i p 2 _).mono ?_
  rintro e w3 ⟨rfl, B3⟩
  have Z : Hid (Below w.heap.size w w3) := X2.out.2.2.2.1.trans (B3.mono X2.out.2.2.2.1.size)
  clear B3 X2 c0 c1 gv hz
  go_wp2
  go_ret
  exact ⟨rfl, Z.out⟩

set_option maxRecDepth 8000 in
set_option maxHeartbeats 1000000 in
theorem codeOf_3 (i : Int) (p : Nat → Addr) (w : World) (hG : GE w p) :
    Calls Tryd.prog 18 #[.iface 57 (.agg #[.int .i64 i, .iface 127 (.pointer (some (p 3)))])] w fun e w' => e = .returned (.int .i64 4) ∧ Below w.heap.size w w' := by
  have G0 : Hid (GE w p) := hG
  clear hG
  go_enter Tryd.func18, Tryd.ntmps18
  go_wp2_with fail
  refine (asRef i p 3 w G0.out).mono ?_
  rintro e w1 ⟨rfl, c0, c1, B1⟩
  have X1 : Hid (w1.cell? ⟨w.heap.size, 0, none⟩ = some (.int .i64 i) ∧ w1.cell? ⟨w.heap.size, 1, none⟩ = some (.iface 127 (.pointer (some (p 3)))) ∧ GE w1 p ∧ Below w.heap.size w w1 ∧ w.heap.size < w1.heap.size) := ⟨c0, c1, G0.out.below B1, B1, World.block_lt_of_cell? w1 _ c0⟩
  clear B1 c0 c1
  obtain ⟨c0, c1, gx, _, hz⟩ := X1.out
  have gv := gx.var 0 (by omega)
  clear gx
  go_wp2_with fail
  refine (isRef_other i p 3 0 _ X1.out.2.2.1 (by omega) (by omega) (by omega)).mono ?_
  rintro e w2 ⟨rfl, B2⟩
  have X2 : Hid (w2.cell? ⟨w.heap.size, 0, none⟩ = some (.int .i64 i) ∧ w2.cell? ⟨w.heap.size, 1, none⟩ = some (.iface 127 (.pointer (some (p 3)))) ∧ GE w2 p ∧ Below w.heap.size w w2 ∧ w.heap.size < w2.heap.size) :=
    ⟨by rw [B2.cell (p := ⟨w.heap.size, 0, none⟩) hz]; exact c0, by rw [B2.cell (p := ⟨w.heap.size, 1, none⟩) hz]; exact c1, X1.out.2.2.1.below B2, X1.out.2.2.2.1.trans (B2.mono X1.out.2.2.2.1.size), Nat.lt_of_lt_of_le hz B2.size⟩
  clear B2 X1 c0 c1 gv hz
  obtain ⟨c0, c1, gx, _, hz⟩ := X2.out
  have gv := gx.var 2 (by omega)
  clear gx
  go_wp2_with fail
  refine (isRef_other i p 3 2 _ X2.out.2.2.1 (by omega) (by omega) (by omega)).mono ?_
  rintro e w3 ⟨rfl, B3⟩
  have X3 : Hid (w3.cell? ⟨w.heap.size, 0, none⟩ = some (.int .i64 i) ∧ w3.cell? ⟨w.heap.size, 1, none⟩ = some (.iface 127 (.pointer (some (p 3)))) ∧ GE w3 p ∧ Below w.heap.size w w3 ∧ w.heap.size < w3.heap.size) :=
    ⟨by rw [B3.cell (p := ⟨w.heap.size, 0, none⟩) hz]; exact c0, by rw [B3.cell (p := ⟨w.heap.size, 1, none⟩) hz]; exact c1, X2.out.2.2.1.below B3, X2.out.2.2.2.1.trans (B3.mono X2.out.2.2.2.1.size), Nat.lt_of_lt_of_le hz B3.size⟩
  clear B3 X2 c0 c1 gv hz
  obtain ⟨c0, c1, gx, _, hz⟩ := X3.out
  have gv := gx.var 3 (by omega)
  clear gx
  go_wp2_with fail
  refine (isRef_same i p 3 _).mono ?_
  rintro e w4 ⟨rfl, B4⟩
  have Z : Hid (Below w.heap.size w w4) := X3.out.2.2.2.1.trans (B4.mono X3.out.2.2.2.1.size)
  clear B4 X3 c0 c1 gv hz
  go_wp2
  go_ret
  exact ⟨rfl, Z.out⟩

set_option maxRecDepth 8000 in
set_option maxHeartbeats 1000000 in
theorem codeOf_4 (i : Int) (p : Nat → Addr) (w : World) (hG : GE w p) :
    Calls Tryd.prog 18 #[.iface 57 (.agg #[.int .i64 i, .iface 127 (.pointer (some (p 4)))])] w fun e w' => e = .returned (.int .i64 5) ∧ Below w.heap.size w w' := by
  have G0 : Hid (GE w p) := hG
  clear hG
  go_enter Tryd.func18, Tryd.ntmps18
  go_wp2_with fail
  refine (asRef i p 4 w G0.out).mono ?_
  rintro e w1 ⟨rfl, c0, c1, B1⟩
  have X1 : Hid (w1.cell? ⟨w.heap.size, 0, none⟩ = some (.int .i64 i) ∧ w1.cell? ⟨w.heap.size, 1, none⟩ = some (.iface 127 (.pointer (some (p 4)))) ∧ GE w1 p ∧ Below w.heap.size w w1 ∧ w.heap.size < w1.heap.size) := ⟨c0, c1, G0.out.below B1, B1, World.block_lt_of_cell? w1 _ c0⟩
  clear B1 c0 c1
  obtain ⟨c0, c1, gx, _, hz⟩ := X1.out
  have gv := gx.var 0 (by omega)
  clear gx
  go_wp2_with fail
  refine (isRef_other i p 4 0 _ X1.out.2.2.1 (by omega) (by omega) (by omega)).mono ?_
  rintro e w2 ⟨rfl, B2⟩
  have X2 : Hid (w2.cell? ⟨w.heap.size, 0, none⟩ = some (.int .i64 i) ∧ w2.cell? ⟨w.heap.size, 1, none⟩ = some (.iface 127 (.pointer (some (p 4)))) ∧ GE w2 p ∧ Below w.heap.size w w2 ∧ w.heap.size < w2.heap.size) :=
    ⟨by rw [B2.cell (p := ⟨w.heap.size, 0, none⟩) hz]; exact c0, by rw [B2.cell (p := ⟨w.heap.size, 1, none⟩) hz]; exact c1, X1.out.2.2.1.below B2, X1.out.2.2.2.1.trans (B2.mono X1.out.2.2.2.1.size), Nat.lt_of_lt_of_le hz B2.size⟩
  clear B2 X1 c0 c1 gv hz
  obtain ⟨c0, c1, gx, _, hz⟩ := X2.out
  have gv := gx.var 2 (by omega)
  clear gx
  go_wp2_with fail
  refine (isRef_other i p 4 2 _ X2.out.2.2.1 (by omega) (by omega) (by omega)).mono ?_
  rintro e w3 ⟨rfl, B3⟩
  have X3 : Hid (w3.cell? ⟨w.heap.size, 0, none⟩ = some (.int .i64 i) ∧ w3.cell? ⟨w.heap.size, 1, none⟩ = some (.iface 127 (.pointer (some (p 4)))) ∧ GE w3 p ∧ Below w.heap.size w w3 ∧ w.heap.size < w3.heap.size) :=
    ⟨by rw [B3.cell (p := ⟨w.heap.size, 0, none⟩) hz]; exact c0, by rw [B3.cell (p := ⟨w.heap.size, 1, none⟩) hz]; exact c1, X2.out.2.2.1.below B3, X2.out.2.2.2.1.trans (B3.mono X2.out.2.2.2.1.size), Nat.lt_of_lt_of_le hz B3.size⟩
  clear B3 X2 c0 c1 gv hz
  obtain ⟨c0, c1, gx, _, hz⟩ := X3.out
  have gv := gx.var 3 (by omega)
  clear gx
  go_wp2_with fail
  refine (isRef_other i p 4 3 _ X3.out.2.2.1 (by omega) (by omega) (by omega)).mono ?_
  rintro e w4 ⟨rfl, B4⟩
  have X4 : Hid (w4.cell? ⟨w.heap.size, 0, none⟩ = some (.int .i64 i) ∧ w4.cell? ⟨w.heap.size, 1, none⟩ = some (.iface 127 (.pointer (some (p 4)))) ∧ GE w4 p ∧ Below w.heap.size w w4 ∧ w.heap.size < w4.heap.size) :=
    ⟨by rw [B4.cell (p := ⟨w.heap.size, 0, none⟩) hz]; exact c0, by rw [B4.cell (p := ⟨w.heap.size, 1, none⟩) hz]; exact c1, X3.out.2.2.1.below B4, X3.out.2.2.2.1.trans (B4.mono X3.out.2.2.2.1.size), Nat.lt_of_lt_of_le hz B4.size⟩
  clear B4 X3 c0 c1 gv hz
  obtain ⟨c0, c1, gx, _, hz⟩ := X4.out
  have gv := gx.var 4 (by omega)
  clear gx
  go_wp2_with fail
  refine (isRef_same i p 4 _).mono ?_
  rintro e w5 ⟨rfl, B5⟩
  have Z : Hid (Below w.heap.size w w5) := X4.out.2.2.2.1.trans (B5.mono X4.out.2.2.2.1.size)
  clear B5 X4 c0 c1 gv hz
  go_wp2
  go_ret
  exact ⟨rfl, Z.out⟩

set_option maxRecDepth 8000 in
set_option maxHeartbeats 1000000 in
theorem codeOf_5 (i : Int) (p : Nat → Addr) (w : World) (hG : GE w p) :
    Calls Tryd.prog 18 #[.iface 57 (.agg #[.int .i64 i, .iface 127 (.pointer (some (p 5)))])] w fun e w' => e = .returned (.int .i64 6) ∧ Below w.heap.size w w' := by
  have G0 : Hid (GE w p) := hG
  clear hG
  go_enter Tryd.func18, Tryd.ntmps18
  go_wp2_with fail
  refine (asRef i p 5 w G0.out).mono ?_
  rintro e w1 ⟨rfl, c0, c1, B1⟩
  have X1 : Hid (w1.cell? ⟨w.heap.size, 0, none⟩ = some (.int .i64 i) ∧ w1.cell? ⟨w.heap.size, 1, none⟩ = some (.iface 127 (.pointer (some (p 5)))) ∧ GE w1 p ∧ Below w.heap.size w w1 ∧ w.heap.size < w1.heap.size) := ⟨c0, c1, G0.out.below B1, B1, World.block_lt_of_cell? w1 _ c0⟩
  clear B1 c0 c1
  obtain ⟨c0, c1, gx, _, hz⟩ := X1.out
  have gv := gx.var 0 (by omega)
  clear gx
  go_wp2_with fail
  refine (isRef_other i p 5 0 _ X1.out.2.2.1 (by omega) (by omega) (by omega)).mono ?_
  rintro e w2 ⟨rfl, B2⟩
  have X2 : Hid (w2.cell? ⟨w.heap.size, 0, none⟩ = some (.int .i64 i) ∧ w2.cell? ⟨w.heap.size, 1, none⟩ = some (.iface 127 (.pointer (some (p 5)))) ∧ GE w2 p ∧ Below w.heap.size w w2 ∧ w.heap.size < w2.heap.size) :=
    ⟨by rw [B2.cell (p := ⟨w.heap.size, 0, none⟩) hz]; exact c0, by rw [B2.cell (p := ⟨w.heap.size, 1, none⟩) hz]; exact c1, X1.out.2.2.1.below B2, X1.out.2.2.2.1.trans (B2.mono X1.out.2.2.2.1.size), Nat.lt_of_lt_of_le hz B2.size⟩
  clear B2 X1 c0 c1 gv hz
  obtain ⟨c0, c1, gx, _, hz⟩ := X2.out
  have gv := gx.var 2 (by omega)
  clear gx
  go_wp2_with fail
  refine (isRef_other i p 5 2 _ X2.out.2.2.1 (by omega) (by omega) (by omega)).mono ?_
  rintro e w3 ⟨rfl, B3⟩
  have X3 : Hid (w3.cell? ⟨w.heap.size, 0, none⟩ = some (.int .i64 i) ∧ w3.cell? ⟨w.heap.size, 1, none⟩ = some (.iface 127 (.pointer (some (p 5)))) ∧ GE w3 p ∧ Below w.heap.size w w3 ∧ w.heap.size < w3.heap.size) :=
    ⟨by rw [B3.cell (p := ⟨w.heap.size, 0, none⟩) hz]; exact c0, by rw [B3.cell (p := ⟨w.heap.size, 1, none⟩) hz]; exact c1, X2.out.2.2.1.below B3, X2.out.2.2.2.1.trans (B3.mono X2.out.2.2.2.1.size), Nat.lt_of_lt_of_le hz B3.size⟩
  clear B3 X2 c0 c1 gv hz
  obtain ⟨c0, c1, gx, _, hz⟩ := X3.out
  have gv := gx.var 3 (by omega)
  clear gx
  go_wp2_with fail
  refine (isRef_other i p 5 3 _ X3.out.2.2.1 (by omega) (by omega) (by omega)).mono ?_
  rintro e w4 ⟨rfl, B4⟩
  have X4 : Hid (w4.cell? ⟨w.heap.size, 0, none⟩ = some (.int .i64 i) ∧ w4.cell? ⟨w.heap.size, 1, none⟩ = some (.iface 127 (.pointer (some (p 5)))) ∧ GE w4 p ∧ Below w.heap.size w w4 ∧ w.heap.size < w4.heap.size) :=
    ⟨by rw [B4.cell (p := ⟨w.heap.size, 0, none⟩) hz]; exact c0, by rw [B4.cell (p := ⟨w.heap.size, 1, none⟩) hz]; exact c1, X3.out.2.2.1.below B4, X3.out.2.2.2.1.trans (B4.mono X3.out.2.2.2.1.size), Nat.lt_of_lt_of_le hz B4.size⟩
  clear B4 X3 c0 c1 gv hz
  obtain ⟨c0, c1, gx, _, hz⟩ := X4.out
  have gv := gx.var 4 (by omega)
  clear gx
  go_wp2_with fail
  refine (isRef_other i p 5 4 _ X4.out.2.2.1 (by omega) (by omega) (by omega)).mono ?_
  rintro e w5 ⟨rfl, B5⟩
  have X5 : Hid (w5.cell? ⟨w.heap.size, 0, none⟩ = some (.int .i64 i) ∧ w5.cell? ⟨w.heap.size, 1, none⟩ = some (.iface 127 (.pointer (some (p 5)))) ∧ GE w5 p ∧ Below w.heap.size w w5 ∧ w.heap.size < w5.heap.size) :=
    ⟨by rw [B5.cell (p := ⟨w.heap.size, 0, none⟩) hz]; exact c0, by rw [B5.cell (p := ⟨w.heap.size, 1, none⟩) hz]; exact c1, X4.out.2.2.1.below B5, X4.out.2.2.2.1.trans (B5.mono X4.out.2.2.2.1.size), Nat.lt_of_lt_of_le hz B5.size⟩
  clear B5 X4 c0 c1 gv hz
  obtain ⟨c0, c1, gx, _, hz⟩ := X5.out
  have gv := gx.var 5 (by omega)
  clear gx
  go_wp2_with fail
  refine (isRef_same i p 5 _).mono ?_
  rintro e w6 ⟨rfl, B6⟩
  have Z : Hid (Below w.heap.size w w6) := X5.out.2.2.2.1.trans (B6.mono X5.out.2.2.2.1.size)
  clear B6 X5 c0 c1 gv hz
  go_wp2
  go_ret
  exact ⟨rfl, Z.out⟩

set_option maxRecDepth 8000 in
set_option maxHeartbeats 1000000 in
theorem codeOf_6 (i : Int) (p : Nat → Addr) (w : World) (hG : GE w p) :
    Calls Tryd.prog 18 #[.iface 57 (.agg #[.int .i64 i, .iface 127 (.pointer (some (p 6)))])] w fun e w' => e = .returned (.int .i64 8) ∧ Below w.heap.size w w' := by
  have G0 : Hid (GE w p) := hG
  clear hG
  go_enter Tryd.func18, Tryd.ntmps18
  go_wp2_with fail
  refine (asRef i p 6 w G0.out).mono ?_
  rintro e w1 ⟨rfl, c0, c1, B1⟩
  have X1 : Hid (w1.cell? ⟨w.heap.size, 0, none⟩ = some (.int .i64 i) ∧ w1.cell? ⟨w.heap.size, 1, none⟩ = some (.iface 127 (.pointer (some (p 6)))) ∧ GE w1 p ∧ Below w.heap.size w w1 ∧ w.heap.size < w1.heap.size) := ⟨c0, c1, G0.out.below B1, B1, World.block_lt_of_cell? w1 _ c0⟩
  clear B1 c0 c1
  obtain ⟨c0, c1, gx, _, hz⟩ := X1.out
  have gv := gx.var 0 (by omega)
  clear gx
  go_wp2_with fail
  refine (isRef_other i p 6 0 _ X1.out.2.2.1 (by omega) (by omega) (by omega)).mono ?_
  rintro e w2 ⟨rfl, B2⟩
  have X2 : Hid (w2.cell? ⟨w.heap.size, 0, none⟩ = some (.int .i64 i) ∧ w2.cell? ⟨w.heap.size, 1, none⟩ = some (.iface 127 (.pointer (some (p 6)))) ∧ GE w2 p ∧ Below w.heap.size w w2 ∧ w.heap.size < w2.heap.size) :=
    ⟨by rw [B2.cell (p := ⟨w.heap.size, 0, none⟩) hz]; exact c0, by rw [B2.cell (p := ⟨w.heap.size, 1, none⟩) hz]; exact c1, X1.out.2.2.1.below B2, X1.out.2.2.2.1.trans (B2.mono X1.out.2.2.2.1.size), Nat.lt_of_lt_of_le hz B2.size⟩
  clear B2 X1 c0 c1 gv hz
  obtain ⟨c0, c1, gx, _, hz⟩ := X2.out
  have gv := gx.var 2 (by omega)
  clear gx
  go_wp2_with fail
  refine (isRef_other i p 6 2 _ X2.out.2.2.1 (by omega) (by omega) (by omega)).mono ?_
  rintro e w3 ⟨rfl, B3⟩
  have X3 : Hid (w3.cell? ⟨w.heap.size, 0, none⟩ = some (.int .i64 i) ∧ w3.cell? ⟨w.heap.size, 1, none⟩ = some (.iface 127 (.pointer (some (p 6)))) ∧ GE w3 p ∧ Below w.heap.size w w3 ∧ w.heap.size < w3.heap.size) :=
    ⟨by rw [B3.cell (p := ⟨w.heap.size, 0, none⟩) hz]; exact c0, by rw [B3.cell (p := ⟨w.heap.size, 1, none⟩) hz]; exact c1, X2.out.2.2.1.below B3, X2.out.2.2.2.1.trans (B3.mono X2.out.2.2.2.1.size), Nat.lt_of_lt_of_le hz B3.size⟩
  clear B3 X2 c0 c1 gv hz
  obtain ⟨c0, c1, gx, _, hz⟩ := X3.out
  have gv := gx.var 3 (by omega)
  clear gx
  go_wp2_with fail
  refine (isRef_other i p 6 3 _ X3.out.2.2.1 (by omega) (by omega) (by omega)).mono ?_
  rintro e w4 ⟨rfl, B4⟩
  have X4 : Hid (w4.cell? ⟨w.heap.size, 0, none⟩ = some (.int .i64 i) ∧ w4.cell? ⟨w.heap.size, 1, none⟩ = some (.iface 127 (.pointer (some (p 6)))) ∧ GE w4 p ∧ Below w.heap.size w w4 ∧ w.heap.size < w4.heap.size) :=
    ⟨by rw [B4.cell (p := ⟨w.heap.size, 0, none⟩) hz]; exact c0, by rw [B4.cell (p := ⟨w.heap.size, 1, none⟩) hz]; exact c1, X3.out.2.2.1.below B4, X3.out.2.2.2.1.trans (B4.mono X3.out.2.2.2.1.size), Nat.lt_of_lt_of_le hz B4.size⟩
  clear B4 X3 c0 c1 gv hz
  obtain ⟨c0, c1, gx, _, hz⟩ := X4.out
  have gv := gx.var 4 (by omega)
  clear gx
  go_wp2_with fail
  refine (isRef_other i p 6 4 _ X4.out.2.2.1 (by omega) (by omega) (by omega)).mono ?_
  rintro e w5 ⟨rfl, B5⟩
  have X5 : Hid (w5.cell? ⟨w.heap.size, 0, none⟩ = some (.int .i64 i) ∧ w5.cell? ⟨w.heap.size, 1, none⟩ = some (.iface 127 (.pointer (some (p 6)))) ∧ GE w5 p ∧ Below w.heap.size w w5 ∧ w.heap.size < w5.heap.size) :=
    ⟨by rw [B5.cell (p := ⟨w.heap.size, 0, none⟩) hz]; exact c0, by rw [B5.cell (p := ⟨w.heap.size, 1, none⟩) hz]; exact c1, X4.out.2.2.1.below B5, X4.out.2.2.2.1.trans (B5.mono X4.out.2.2.2.1.size), Nat.lt_of_lt_of_le hz B5.size⟩
  clear B5 X4 c0 c1 gv hz
  obtain ⟨c0, c1, gx, _, hz⟩ := X5.out
  have gv := gx.var 5 (by omega)
  clear gx
  go_wp2_with fail
  refine (isRef_other i p 6 5 _ X5.out.2.2.1 (by omega) (by omega) (by omega)).mono ?_
  rintro e w6 ⟨rfl, B6⟩
  have X6 : Hid (w6.cell? ⟨w.heap.size, 0, none⟩ = some (.int .i64 i) ∧ w6.cell? ⟨w.heap.size, 1, none⟩ = some (.iface 127 (.pointer (some (p 6)))) ∧ GE w6 p ∧ Below w.heap.size w w6 ∧ w.heap.size < w6.heap.size) :=
    ⟨by rw [B6.cell (p := ⟨w.heap.size, 0, none⟩) hz]; exact c0, by rw [B6.cell (p := ⟨w.heap.size, 1, none⟩) hz]; exact c1, X5.out.2.2.1.below B6, X5.out.2.2.2.1.trans (B6.mono X5.out.2.2.2.1.size), Nat.lt_of_lt_of_le hz B6.size⟩
  clear B6 X5 c0 c1 gv hz
  obtain ⟨c0, c1, gx, _, hz⟩ := X6.out
  have gv := gx.var 6 (by omega)
  clear gx
  go_wp2_with fail
  refine (isRef_same i p 6 _).mono ?_
  rintro e w7 ⟨rfl, B7⟩
  have Z : Hid (Below w.heap.size w w7) := X6.out.2.2.2.1.trans (B7.mono X6.out.2.2.2.1.size)
  clear B7 X6 c0 c1 gv hz
  go_wp2
  go_ret
  exact ⟨rfl, Z.out⟩

/-- The code of each of the package's errors. -/
def codeG (g : Nat) : Int := if g = 0 then 2 else if g = 1 then 7 else if g = 2 then 3 else if g = 3 then 4 else if g = 4 then 5 else if g = 5 then 6 else 8
theorem codeOf_ref (i : Int) (p : Nat → Addr) (g : Nat) (w : World) (hG : GE w p) (hg : g < 7) :
    Calls Tryd.prog 18 #[refV p i g] w fun e w' => e = .returned (.int .i64 (codeG g)) ∧ Below w.heap.size w w' := by
  unfold refV
  have : g = 0 ∨ g = 1 ∨ g = 2 ∨ g = 3 ∨ g = 4 ∨ g = 5 ∨ g = 6 := by omega
  rcases this with e | e | e | e | e | e | e <;> subst e
  · exact codeOf_0 i p w hG
  · exact codeOf_1 i p w hG
  · exact codeOf_2 i p w hG
  · exact codeOf_3 i p w hG
  · exact codeOf_4 i p w hG
  · exact codeOf_5 i p w hG
  · exact codeOf_6 i p w hG
end Go.Proofs.YtppgbjjojikpdaaDoor
