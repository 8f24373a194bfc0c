/- toBOp: an op of a bank is carried over. No conditions. -/
import Derived.Test.YtodbcdclglaniaaDoorBop
import Derived.Deep.DeepCutAuto
namespace Go.Proofs.YtodbcdclglaniaaDoor
open Go.RowKit
set_option maxRecDepth 8000

theorem toOrd (o : Ord) (w : World) :
    Calls Tryd.prog 32 #[.agg #[.int .i64 o.id, .int .i64 o.src, .int .i64 o.dst, .int .i64 o.amount, .int .i64 o.first, .int .i64 o.every, .int .i64 o.times]] w fun e w' => e = .returned (.agg #[.int .i64 o.id, .int .i64 o.src, .int .i64 o.dst, .int .i64 o.amount, .int .i64 o.first, .int .i64 o.every, .int .i64 o.times]) ∧ Below w.heap.size w w' := by
  go_enter Tryd.func32, Tryd.ntmps32
  go_wp2
  refine bodyPost_ret (v := .agg #[.int .i64 o.id, .int .i64 o.src, .int .i64 o.dst, .int .i64 o.amount, .int .i64 o.first, .int .i64 o.every, .int .i64 o.times]) (by simp [results, Tryd.results32, go_sem]) rfl ⟨rfl, ?_⟩
  exact (((Below.refl _ _).alloc (Nat.le_refl _) _).alloc (by simp) _).alloc (by simp; omega) _
theorem toOp (k i t m r : Int) (w : World) :
    Calls Tryd.prog 31 #[.agg #[.int .i64 k, .int .i64 i, .int .i64 t, .int .i64 m, .int .i64 r]] w fun e w' => e = .returned (.agg #[.int .i64 k, .int .i64 i, .int .i64 t, .int .i64 m, .int .i64 r]) ∧ Below w.heap.size w w' := by
  go_enter Tryd.func31, Tryd.ntmps31
  go_wp2
  refine bodyPost_ret (v := .agg #[.int .i64 k, .int .i64 i, .int .i64 t, .int .i64 m, .int .i64 r]) (by simp [results, Tryd.results31, go_sem]) rfl ⟨rfl, ?_⟩
  exact (((Below.refl _ _).alloc (Nat.le_refl _) _).alloc (by simp) _).alloc (by simp; omega) _

/-- A block that holds a list of values. -/
def Vals (w : World) (R : Nat) (vs : List Value) : Prop := (∀ j v, vs[j]? = some v → w.cell? ⟨R, j, none⟩ = some v) ∧ (∀ o, w.frozen? ⟨R, o, none⟩ = false) ∧ R < w.heap.size
theorem Vals.kept {n₀ : Nat} {w w' : World} {R : Nat} {vs : List Value} (h : Vals w R vs) (hb : Below n₀ w w') (hR : R < n₀) : Vals w' R vs :=
  ⟨fun j v hj => (hb.cell (p := ⟨R, j, none⟩) hR).trans (h.1 j v hj), fun o => (hb.frozen (p := ⟨R, o, none⟩) hR).trans (h.2.1 o), Nat.lt_of_lt_of_le h.2.2 hb.size⟩
theorem Vals.far {w : World} {R : Nat} {vs : List Value} (h : Vals w R vs) {Q : Nat} (hne : Q ≠ R) (q : Nat) (u : Value) : Vals (w.setCell ⟨Q, q, none⟩ u) R vs :=
  ⟨fun j v hj => (World.cell?_setCell_other _ _ _ _ (by intro e; exact hne (congrArg Addr.block e))).trans (h.1 j v hj), fun o => by rw [World.frozen?_setCell]; exact h.2.1 o, by simpa [World.setCell] using h.2.2⟩
theorem Vals.set {w : World} {R : Nat} {vs : List Value} (h : Vals w R vs) (q : Nat) (u : Value) : Vals (w.setCell ⟨R, q, none⟩ u) R (vs.set q u) := by
  refine ⟨fun j v hj => ?_, fun o => by rw [World.frozen?_setCell]; exact h.2.1 o, by simpa [World.setCell] using h.2.2⟩
  rw [List.getElem?_set] at hj
  by_cases e : q = j
  · subst e
    rw [if_pos rfl] at hj
    split at hj
    · rename_i hl
      have hc := h.1 q _ (List.getElem?_eq_getElem hl)
      obtain rfl : u = v := by simpa using hj
      exact World.cell?_setCell_same _ _ _ (by rw [hc])
    · cases hj
  · rw [if_neg e] at hj
    exact (World.cell?_setCell_other _ _ _ _ (by intro e'; exact e (congrArg Addr.off e'))).trans (h.1 j v hj)
theorem Vals.new (w : World) (vs : List Value) (T : Nat) : Vals (w.alloc (.cells vs.toArray T)) w.heap.size vs :=
  ⟨fun j v hj => by simp [go_sem, hj], fun o => by simp [go_sem], by simp⟩


set_option maxHeartbeats 4000000 in
theorem toBOp (K n : Int) (x : OpF) (o : Ord) (w : World) :
    Calls Tryd.prog 11 #[.agg #[.int .i64 K, .int .i64 x.k, .int .i64 x.i, .int .i64 x.t, .int .i64 x.m, .int .i64 x.r, .int .i64 o.id, .int .i64 o.src, .int .i64 o.dst, .int .i64 o.amount, .int .i64 o.first, .int .i64 o.every, .int .i64 o.times, .int .i64 n]] w fun e w' => e = .returned (.agg #[.int .i64 K, .int .i64 x.k, .int .i64 x.i, .int .i64 x.t, .int .i64 x.m, .int .i64 x.r, .int .i64 o.id, .int .i64 o.src, .int .i64 o.dst, .int .i64 o.amount, .int .i64 o.first, .int .i64 o.every, .int .i64 o.times, .int .i64 n]) ∧ Below w.heap.size w w' := by
  obtain ⟨W0, hW0, Y0⟩ : ∃ W0, W0 = ((w.alloc (.cells #[.int .i64 K, .int .i64 x.k, .int .i64 x.i, .int .i64 x.t, .int .i64 x.m, .int .i64 x.r, .int .i64 o.id, .int .i64 o.src, .int .i64 o.dst, .int .i64 o.amount, .int .i64 o.first, .int .i64 o.every, .int .i64 o.times, .int .i64 n] 40)).alloc (.cells #[.int .i64 0, .int .i64 0, .int .i64 0, .int .i64 0, .int .i64 0, .int .i64 0, .int .i64 0, .int .i64 0, .int .i64 0, .int .i64 0, .int .i64 0, .int .i64 0, .int .i64 0, .int .i64 0] 45)).alloc (.cells #[.int .i64 K, .int .i64 0, .int .i64 0, .int .i64 0, .int .i64 0, .int .i64 0, .int .i64 0, .int .i64 0, .int .i64 0, .int .i64 0, .int .i64 0, .int .i64 0, .int .i64 0, .int .i64 0] 45) ∧ Hid (Vals W0 w.heap.size [.int .i64 K, .int .i64 x.k, .int .i64 x.i, .int .i64 x.t, .int .i64 x.m, .int .i64 x.r, .int .i64 o.id, .int .i64 o.src, .int .i64 o.dst, .int .i64 o.amount, .int .i64 o.first, .int .i64 o.every, .int .i64 o.times, .int .i64 n] ∧ Vals W0 (w.heap.size + 1) [.int .i64 0, .int .i64 0, .int .i64 0, .int .i64 0, .int .i64 0, .int .i64 0, .int .i64 0, .int .i64 0, .int .i64 0, .int .i64 0, .int .i64 0, .int .i64 0, .int .i64 0, .int .i64 0] ∧ Vals W0 (w.heap.size + 1 + 1) [.int .i64 K, .int .i64 0, .int .i64 0, .int .i64 0, .int .i64 0, .int .i64 0, .int .i64 0, .int .i64 0, .int .i64 0, .int .i64 0, .int .i64 0, .int .i64 0, .int .i64 0, .int .i64 0] ∧ Below w.heap.size w W0) := by
    have a1 := Vals.new w [.int .i64 K, .int .i64 x.k, .int .i64 x.i, .int .i64 x.t, .int .i64 x.m, .int .i64 x.r, .int .i64 o.id, .int .i64 o.src, .int .i64 o.dst, .int .i64 o.amount, .int .i64 o.first, .int .i64 o.every, .int .i64 o.times, .int .i64 n] 40
    have a2 := Vals.new (w.alloc (.cells #[.int .i64 K, .int .i64 x.k, .int .i64 x.i, .int .i64 x.t, .int .i64 x.m, .int .i64 x.r, .int .i64 o.id, .int .i64 o.src, .int .i64 o.dst, .int .i64 o.amount, .int .i64 o.first, .int .i64 o.every, .int .i64 o.times, .int .i64 n] 40)) [.int .i64 0, .int .i64 0, .int .i64 0, .int .i64 0, .int .i64 0, .int .i64 0, .int .i64 0, .int .i64 0, .int .i64 0, .int .i64 0, .int .i64 0, .int .i64 0, .int .i64 0, .int .i64 0] 45
    have a3 := Vals.new ((w.alloc (.cells #[.int .i64 K, .int .i64 x.k, .int .i64 x.i, .int .i64 x.t, .int .i64 x.m, .int .i64 x.r, .int .i64 o.id, .int .i64 o.src, .int .i64 o.dst, .int .i64 o.amount, .int .i64 o.first, .int .i64 o.every, .int .i64 o.times, .int .i64 n] 40)).alloc (.cells #[.int .i64 0, .int .i64 0, .int .i64 0, .int .i64 0, .int .i64 0, .int .i64 0, .int .i64 0, .int .i64 0, .int .i64 0, .int .i64 0, .int .i64 0, .int .i64 0, .int .i64 0, .int .i64 0] 45)) [.int .i64 K, .int .i64 0, .int .i64 0, .int .i64 0, .int .i64 0, .int .i64 0, .int .i64 0, .int .i64 0, .int .i64 0, .int .i64 0, .int .i64 0, .int .i64 0, .int .i64 0, .int .i64 0] 45
    simp only [World.size_alloc] at a2 a3
    have B1 : ∀ (V : World) (x : Obj), Below V.heap.size V (V.alloc x) := fun V x => (Below.refl _ _).alloc (Nat.le_refl _) _
    exact ⟨_, rfl, (a1.kept (B1 _ _) (by simp)).kept (B1 _ _) (by simp; omega), a2.kept (B1 _ _) (by simp), a3, (((Below.refl _ _).alloc (Nat.le_refl _) _).alloc (by simp) _).alloc (by simp; omega) _⟩
  have HW0 : Hid (W0 = _) := hW0
  clear hW0
  go_enter Tryd.func11, Tryd.ntmps11
  go_upto_region 3 with fail
  rw [← HW0.out]
  clear HW0
  have s1 := Y0.out.1.1 1 _ rfl
  have s2 := Y0.out.1.1 2 _ rfl
  have s3 := Y0.out.1.1 3 _ rfl
  have s4 := Y0.out.1.1 4 _ rfl
  have s5 := Y0.out.1.1 5 _ rfl
  go_wp2_with fail
  refine (toOp x.k x.i x.t x.m x.r _).mono ?_
  rintro e w1 ⟨rfl, B1⟩
  clear s1 s2 s3 s4 s5
  obtain ⟨W2, hW2, Y2⟩ : ∃ W2, W2 = ((((w1.setCell ⟨w.heap.size + 1 + 1, 1, none⟩ (.int .i64 x.k)).setCell ⟨w.heap.size + 1 + 1, 2, none⟩ (.int .i64 x.i)).setCell ⟨w.heap.size + 1 + 1, 3, none⟩ (.int .i64 x.t)).setCell ⟨w.heap.size + 1 + 1, 4, none⟩ (.int .i64 x.m)).setCell ⟨w.heap.size + 1 + 1, 5, none⟩ (.int .i64 x.r) ∧ Hid (Vals W2 w.heap.size [.int .i64 K, .int .i64 x.k, .int .i64 x.i, .int .i64 x.t, .int .i64 x.m, .int .i64 x.r, .int .i64 o.id, .int .i64 o.src, .int .i64 o.dst, .int .i64 o.amount, .int .i64 o.first, .int .i64 o.every, .int .i64 o.times, .int .i64 n] ∧ Vals W2 (w.heap.size + 1) [.int .i64 0, .int .i64 0, .int .i64 0, .int .i64 0, .int .i64 0, .int .i64 0, .int .i64 0, .int .i64 0, .int .i64 0, .int .i64 0, .int .i64 0, .int .i64 0, .int .i64 0, .int .i64 0] ∧ Vals W2 (w.heap.size + 1 + 1) [.int .i64 K, .int .i64 x.k, .int .i64 x.i, .int .i64 x.t, .int .i64 x.m, .int .i64 x.r, .int .i64 0, .int .i64 0, .int .i64 0, .int .i64 0, .int .i64 0, .int .i64 0, .int .i64 0, .int .i64 0] ∧ Below w.heap.size w W2) := by
    have y0 := Y0.out.1.kept B1 Y0.out.1.2.2
    have y1 := Y0.out.2.1.kept B1 Y0.out.2.1.2.2
    have y2 := Y0.out.2.2.1.kept B1 Y0.out.2.2.1.2.2
    have bb := Y0.out.2.2.2.trans (B1.mono Y0.out.2.2.2.size)
    exact ⟨_, rfl, ((((y0.far (by omega) _ _).far (by omega) _ _).far (by omega) _ _).far (by omega) _ _).far (by omega) _ _, ((((y1.far (by omega) _ _).far (by omega) _ _).far (by omega) _ _).far (by omega) _ _).far (by omega) _ _, ((((y2.set 1 (.int .i64 x.k)).set 2 (.int .i64 x.i)).set 3 (.int .i64 x.t)).set 4 (.int .i64 x.m)).set 5 (.int .i64 x.r), ((((bb.setCell (p := ⟨w.heap.size + 1 + 1, 1, none⟩) (by show _ ≤ w.heap.size + 1 + 1; omega) _).setCell (p := ⟨w.heap.size + 1 + 1, 2, none⟩) (by show _ ≤ w.heap.size + 1 + 1; omega) _).setCell (p := ⟨w.heap.size + 1 + 1, 3, none⟩) (by show _ ≤ w.heap.size + 1 + 1; omega) _).setCell (p := ⟨w.heap.size + 1 + 1, 4, none⟩) (by show _ ≤ w.heap.size + 1 + 1; omega) _).setCell (p := ⟨w.heap.size + 1 + 1, 5, none⟩) (by show _ ≤ w.heap.size + 1 + 1; omega) _⟩
  have HW2 : Hid (W2 = _) := hW2
  have C1 := Y0.out.2.2.1.kept B1 Y0.out.2.2.1.2.2
  have t1 := C1.1 1 _ rfl
  have t2 := C1.1 2 _ rfl
  have t3 := C1.1 3 _ rfl
  have t4 := C1.1 4 _ rfl
  have t5 := C1.1 5 _ rfl
  have tf := C1.2.1
  clear C1 hW2 B1 Y0
  go_upto_region 4 with fail
  rw [← HW2.out]
  clear HW2 t1 t2 t3 t4 t5 tf
  have s6 := Y2.out.1.1 6 _ rfl
  have s7 := Y2.out.1.1 7 _ rfl
  have s8 := Y2.out.1.1 8 _ rfl
  have s9 := Y2.out.1.1 9 _ rfl
  have s10 := Y2.out.1.1 10 _ rfl
  have s11 := Y2.out.1.1 11 _ rfl
  have s12 := Y2.out.1.1 12 _ rfl
  go_wp2_with fail
  refine (toOrd o _).mono ?_
  rintro e w3 ⟨rfl, B3⟩
  clear s6 s7 s8 s9 s10 s11 s12
  obtain ⟨W4, hW4, Y4⟩ : ∃ W4, W4 = ((((((w3.setCell ⟨w.heap.size + 1 + 1, 6, none⟩ (.int .i64 o.id)).setCell ⟨w.heap.size + 1 + 1, 7, none⟩ (.int .i64 o.src)).setCell ⟨w.heap.size + 1 + 1, 8, none⟩ (.int .i64 o.dst)).setCell ⟨w.heap.size + 1 + 1, 9, none⟩ (.int .i64 o.amount)).setCell ⟨w.heap.size + 1 + 1, 10, none⟩ (.int .i64 o.first)).setCell ⟨w.heap.size + 1 + 1, 11, none⟩ (.int .i64 o.every)).setCell ⟨w.heap.size + 1 + 1, 12, none⟩ (.int .i64 o.times) ∧ Hid (Vals W4 w.heap.size [.int .i64 K, .int .i64 x.k, .int .i64 x.i, .int .i64 x.t, .int .i64 x.m, .int .i64 x.r, .int .i64 o.id, .int .i64 o.src, .int .i64 o.dst, .int .i64 o.amount, .int .i64 o.first, .int .i64 o.every, .int .i64 o.times, .int .i64 n] ∧ Vals W4 (w.heap.size + 1) [.int .i64 0, .int .i64 0, .int .i64 0, .int .i64 0, .int .i64 0, .int .i64 0, .int .i64 0, .int .i64 0, .int .i64 0, .int .i64 0, .int .i64 0, .int .i64 0, .int .i64 0, .int .i64 0] ∧ Vals W4 (w.heap.size + 1 + 1) [.int .i64 K, .int .i64 x.k, .int .i64 x.i, .int .i64 x.t, .int .i64 x.m, .int .i64 x.r, .int .i64 o.id, .int .i64 o.src, .int .i64 o.dst, .int .i64 o.amount, .int .i64 o.first, .int .i64 o.every, .int .i64 o.times, .int .i64 0] ∧ Below w.heap.size w W4) := by
    have y0 := Y2.out.1.kept B3 Y2.out.1.2.2
    have y1 := Y2.out.2.1.kept B3 Y2.out.2.1.2.2
    have y2 := Y2.out.2.2.1.kept B3 Y2.out.2.2.1.2.2
    have bb := Y2.out.2.2.2.trans (B3.mono Y2.out.2.2.2.size)
    exact ⟨_, rfl, ((((((y0.far (by omega) _ _).far (by omega) _ _).far (by omega) _ _).far (by omega) _ _).far (by omega) _ _).far (by omega) _ _).far (by omega) _ _, ((((((y1.far (by omega) _ _).far (by omega) _ _).far (by omega) _ _).far (by omega) _ _).far (by omega) _ _).far (by omega) _ _).far (by omega) _ _, ((((((y2.set 6 (.int .i64 o.id)).set 7 (.int .i64 o.src)).set 8 (.int .i64 o.dst)).set 9 (.int .i64 o.amount)).set 10 (.int .i64 o.first)).set 11 (.int .i64 o.every)).set 12 (.int .i64 o.times), ((((((bb.setCell (p := ⟨w.heap.size + 1 + 1, 6, none⟩) (by show _ ≤ w.heap.size + 1 + 1; omega) _).setCell (p := ⟨w.heap.size + 1 + 1, 7, none⟩) (by show _ ≤ w.heap.size + 1 + 1; omega) _).setCell (p := ⟨w.heap.size + 1 + 1, 8, none⟩) (by show _ ≤ w.heap.size + 1 + 1; omega) _).setCell (p := ⟨w.heap.size + 1 + 1, 9, none⟩) (by show _ ≤ w.heap.size + 1 + 1; omega) _).setCell (p := ⟨w.heap.size + 1 + 1, 10, none⟩) (by show _ ≤ w.heap.size + 1 + 1; omega) _).setCell (p := ⟨w.heap.size + 1 + 1, 11, none⟩) (by show _ ≤ w.heap.size + 1 + 1; omega) _).setCell (p := ⟨w.heap.size + 1 + 1, 12, none⟩) (by show _ ≤ w.heap.size + 1 + 1; omega) _⟩
  have HW4 : Hid (W4 = _) := hW4
  have C1 := Y2.out.2.2.1.kept B3 Y2.out.2.2.1.2.2
  have t6 := C1.1 6 _ rfl
  have t7 := C1.1 7 _ rfl
  have t8 := C1.1 8 _ rfl
  have t9 := C1.1 9 _ rfl
  have t10 := C1.1 10 _ rfl
  have t11 := C1.1 11 _ rfl
  have t12 := C1.1 12 _ rfl
  have tf := C1.2.1
  clear C1 hW4 B3 Y2
  go_upto_region 5 with fail
  rw [← HW4.out]
  clear HW4 t6 t7 t8 t9 t10 t11 t12 tf
  have s13 := Y4.out.1.1 13 _ rfl
  have t13 := Y4.out.2.2.1.1 13 _ rfl
  have tf := Y4.out.2.2.1.2.1
  obtain ⟨W5, hW5, Y5⟩ : ∃ W5, W5 = W4.setCell ⟨w.heap.size + 1 + 1, 13, none⟩ (.int .i64 n) ∧ Hid (Vals W5 (w.heap.size + 1) [.int .i64 0, .int .i64 0, .int .i64 0, .int .i64 0, .int .i64 0, .int .i64 0, .int .i64 0, .int .i64 0, .int .i64 0, .int .i64 0, .int .i64 0, .int .i64 0, .int .i64 0, .int .i64 0] ∧ Vals W5 (w.heap.size + 1 + 1) [.int .i64 K, .int .i64 x.k, .int .i64 x.i, .int .i64 x.t, .int .i64 x.m, .int .i64 x.r, .int .i64 o.id, .int .i64 o.src, .int .i64 o.dst, .int .i64 o.amount, .int .i64 o.first, .int .i64 o.every, .int .i64 o.times, .int .i64 n] ∧ Below w.heap.size w W5) := ⟨_, rfl, Y4.out.2.1.far (by omega) _ _, Y4.out.2.2.1.set 13 (.int .i64 n), Y4.out.2.2.2.setCell (p := ⟨w.heap.size + 1 + 1, 13, none⟩) (by show _ ≤ w.heap.size + 1 + 1; omega) _⟩
  have HW5 : Hid (W5 = _) := hW5
  clear hW5 Y4
  go_upto_region 6 with fail
  rw [← HW5.out]
  clear HW5 s13 t13 tf
  obtain ⟨W6, hW6, Y6⟩ : ∃ W6, W6 = (((((((((((((W5.setCell ⟨w.heap.size + 1, 0, none⟩ (.int .i64 K)).setCell ⟨w.heap.size + 1, 1, none⟩ (.int .i64 x.k)).setCell ⟨w.heap.size + 1, 2, none⟩ (.int .i64 x.i)).setCell ⟨w.heap.size + 1, 3, none⟩ (.int .i64 x.t)).setCell ⟨w.heap.size + 1, 4, none⟩ (.int .i64 x.m)).setCell ⟨w.heap.size + 1, 5, none⟩ (.int .i64 x.r)).setCell ⟨w.heap.size + 1, 6, none⟩ (.int .i64 o.id)).setCell ⟨w.heap.size + 1, 7, none⟩ (.int .i64 o.src)).setCell ⟨w.heap.size + 1, 8, none⟩ (.int .i64 o.dst)).setCell ⟨w.heap.size + 1, 9, none⟩ (.int .i64 o.amount)).setCell ⟨w.heap.size + 1, 10, none⟩ (.int .i64 o.first)).setCell ⟨w.heap.size + 1, 11, none⟩ (.int .i64 o.every)).setCell ⟨w.heap.size + 1, 12, none⟩ (.int .i64 o.times)).setCell ⟨w.heap.size + 1, 13, none⟩ (.int .i64 n) ∧ Hid (Vals W6 (w.heap.size + 1) [.int .i64 K, .int .i64 x.k, .int .i64 x.i, .int .i64 x.t, .int .i64 x.m, .int .i64 x.r, .int .i64 o.id, .int .i64 o.src, .int .i64 o.dst, .int .i64 o.amount, .int .i64 o.first, .int .i64 o.every, .int .i64 o.times, .int .i64 n] ∧ Below w.heap.size w W6) := by
    have y1 := Y5.out.1
    have bb := Y5.out.2.2
    exact ⟨_, rfl, (((((((((((((y1.set 0 (.int .i64 K)).set 1 (.int .i64 x.k)).set 2 (.int .i64 x.i)).set 3 (.int .i64 x.t)).set 4 (.int .i64 x.m)).set 5 (.int .i64 x.r)).set 6 (.int .i64 o.id)).set 7 (.int .i64 o.src)).set 8 (.int .i64 o.dst)).set 9 (.int .i64 o.amount)).set 10 (.int .i64 o.first)).set 11 (.int .i64 o.every)).set 12 (.int .i64 o.times)).set 13 (.int .i64 n), (((((((((((((bb.setCell (p := ⟨w.heap.size + 1, 0, none⟩) (by show _ ≤ w.heap.size + 1; omega) _).setCell (p := ⟨w.heap.size + 1, 1, none⟩) (by show _ ≤ w.heap.size + 1; omega) _).setCell (p := ⟨w.heap.size + 1, 2, none⟩) (by show _ ≤ w.heap.size + 1; omega) _).setCell (p := ⟨w.heap.size + 1, 3, none⟩) (by show _ ≤ w.heap.size + 1; omega) _).setCell (p := ⟨w.heap.size + 1, 4, none⟩) (by show _ ≤ w.heap.size + 1; omega) _).setCell (p := ⟨w.heap.size + 1, 5, none⟩) (by show _ ≤ w.heap.size + 1; omega) _).setCell (p := ⟨w.heap.size + 1, 6, none⟩) (by show _ ≤ w.heap.size + 1; omega) _).setCell (p := ⟨w.heap.size + 1, 7, none⟩) (by show _ ≤ w.heap.size + 1; omega) _).setCell (p := ⟨w.heap.size + 1, 8, none⟩) (by show _ ≤ w.heap.size + 1; omega) _).setCell (p := ⟨w.heap.size + 1, 9, none⟩) (by show _ ≤ w.heap.size + 1; omega) _).setCell (p := ⟨w.heap.size + 1, 10, none⟩) (by show _ ≤ w.heap.size + 1; omega) _).setCell (p := ⟨w.heap.size + 1, 11, none⟩) (by show _ ≤ w.heap.size + 1; omega) _).setCell (p := ⟨w.heap.size + 1, 12, none⟩) (by show _ ≤ w.heap.size + 1; omega) _).setCell (p := ⟨w.heap.size + 1, 13, none⟩) (by show _ ≤ w.heap.size + 1; omega) _⟩
  have HW6 : Hid (W6 = _) := hW6
  clear hW6
  have u0' := Y5.out.2.1.1 0 _ rfl
  have r0 := Y5.out.1.1 0 _ rfl
  have u1' := Y5.out.2.1.1 1 _ rfl
  have r1 := Y5.out.1.1 1 _ rfl
  have u2' := Y5.out.2.1.1 2 _ rfl
  have r2 := Y5.out.1.1 2 _ rfl
  have u3' := Y5.out.2.1.1 3 _ rfl
  have r3 := Y5.out.1.1 3 _ rfl
  have u4' := Y5.out.2.1.1 4 _ rfl
  have r4 := Y5.out.1.1 4 _ rfl
  have u5' := Y5.out.2.1.1 5 _ rfl
  have r5 := Y5.out.1.1 5 _ rfl
  have u6' := Y5.out.2.1.1 6 _ rfl
  have r6 := Y5.out.1.1 6 _ rfl
  have u7' := Y5.out.2.1.1 7 _ rfl
  have r7 := Y5.out.1.1 7 _ rfl
  have u8' := Y5.out.2.1.1 8 _ rfl
  have r8 := Y5.out.1.1 8 _ rfl
  have u9' := Y5.out.2.1.1 9 _ rfl
  have r9 := Y5.out.1.1 9 _ rfl
  have u10' := Y5.out.2.1.1 10 _ rfl
  have r10 := Y5.out.1.1 10 _ rfl
  have u11' := Y5.out.2.1.1 11 _ rfl
  have r11 := Y5.out.1.1 11 _ rfl
  have u12' := Y5.out.2.1.1 12 _ rfl
  have r12 := Y5.out.1.1 12 _ rfl
  have u13' := Y5.out.2.1.1 13 _ rfl
  have r13 := Y5.out.1.1 13 _ rfl
  have rf := Y5.out.1.2.1
  clear Y5
  go_wp2
  rw [← HW6.out]
  clear HW6 rf u0' r0 u1' r1 u2' r2 u3' r3 u4' r4 u5' r5 u6' r6 u7' r7 u8' r8 u9' r9 u10' r10 u11' r11 u12' r12 u13' r13
  have f0 := Y6.out.1.1 0 _ rfl
  have f1 := Y6.out.1.1 1 _ rfl
  have f2 := Y6.out.1.1 2 _ rfl
  have f3 := Y6.out.1.1 3 _ rfl
  have f4 := Y6.out.1.1 4 _ rfl
  have f5 := Y6.out.1.1 5 _ rfl
  have f6 := Y6.out.1.1 6 _ rfl
  have f7 := Y6.out.1.1 7 _ rfl
  have f8 := Y6.out.1.1 8 _ rfl
  have f9 := Y6.out.1.1 9 _ rfl
  have f10 := Y6.out.1.1 10 _ rfl
  have f11 := Y6.out.1.1 11 _ rfl
  have f12 := Y6.out.1.1 12 _ rfl
  have f13 := Y6.out.1.1 13 _ rfl
  exact bodyPost_ret (v := .agg #[.int .i64 K, .int .i64 x.k, .int .i64 x.i, .int .i64 x.t, .int .i64 x.m, .int .i64 x.r, .int .i64 o.id, .int .i64 o.src, .int .i64 o.dst, .int .i64 o.amount, .int .i64 o.first, .int .i64 o.every, .int .i64 o.times, .int .i64 n]) (by simp [results, Tryd.results11, go_sem, f0, f1, f2, f3, f4, f5, f6, f7, f8, f9, f10, f11, f12, f13]) rfl ⟨rfl, Y6.out.2⟩
end Go.Proofs.YtodbcdclglaniaaDoor
