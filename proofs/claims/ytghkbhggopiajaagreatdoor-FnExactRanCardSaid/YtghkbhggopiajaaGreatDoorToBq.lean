/- toBOp. -/
import Derived.Test.YtghkbhggopiajaaGreatDoorBopq
namespace Go.Proofs.YtghkbhggopiajaaGreatDoor
open Go.RowKit
set_option maxRecDepth 8000
def Vals (w : World) (R : Nat) (vs : List Value) : Prop := (∀ j v, vs[j]? = some v -> w.cell? ⟨R, j, none⟩ = some v) /\ (∀ o, w.frozen? ⟨R, o, none⟩ = false) /\ R < w.heap.size
theorem Vals.kept {n₀ : Nat} {w w' : World} {R : Nat} {vs : List Value} (h : Vals w R vs) (hb : Below n₀ w w') (hR : R < n₀) : Vals w' R vs :=
 ⟨fun j v hj => (hb.cell (p := ⟨R, j, none⟩) hR).trans (h.1 j v hj), fun o => (hb.frozen (p := ⟨R, o, none⟩) hR).trans (h.2.1 o), Nat.lt_of_lt_of_le h.2.2 hb.size⟩
theorem Vals.far {w : World} {R : Nat} {vs : List Value} (h : Vals w R vs) {Q : Nat} (hne : Q ≠ R) (q : Nat) (u : Value) : Vals (w.setCell ⟨Q, q, none⟩ u) R vs :=
 ⟨fun j v hj => (World.cell?_setCell_other _ _ _ _ (by intro e; exact hne (congrArg Addr.block e))).trans (h.1 j v hj), fun o => by rw [World.frozen?_setCell]; exact h.2.1 o, by simpa [World.setCell] using h.2.2⟩
theorem Vals.set {w : World} {R : Nat} {vs : List Value} (h : Vals w R vs) (q : Nat) (u : Value) : Vals (w.setCell ⟨R, q, none⟩ u) R (vs.set q u) := by
 refine ⟨fun j v hj => ?_, fun o => by rw [World.frozen?_setCell]; exact h.2.1 o, by simpa [World.setCell] using h.2.2⟩
 rw [List.getElem?_set] at hj
 by_cases e : q = j
 ·subst e
  rw [if_pos rfl] at hj
  split at hj
  ·rename_i hl
   have hc := h.1 q _ (List.getElem?_eq_getElem hl)
   obtain rfl : u = v := by simpa using hj
   exact World.cell?_setCell_same _ _ _ (by rw [hc])
  ·cases hj
 ·rw [if_neg e] at hj
  exact (World.cell?_setCell_other _ _ _ _ (by intro e'; exact e (congrArg Addr.off e'))).trans (h.1 j v hj)
theorem Vals.new (w : World) (vs : List Value) (T : Nat) : Vals (w.alloc (.cells vs.toArray T)) w.heap.size vs :=
 ⟨fun j v hj => by simp [go_sem, hj], fun o => by simp [go_sem], by simp⟩
set_option maxHeartbeats 8000000 in
theorem toBOp (K n : Int) (x : OpF) (o : Ord) (w : World) :
  Calls Tryz.prog 46 #[.agg #[.int .i64 K, .int .i64 x.k, .int .i64 x.i, .int .i64 x.t, .int .i64 x.m, .int .i64 x.r, .int .i64 o.id, .int .i64 o.src, .int .i64 o.dst, .int .i64 o.amount, .int .i64 o.first, .int .i64 o.every, .int .i64 o.times, .int .i64 n]] w fun e w' => e = .returned (.agg #[.int .i64 K, .int .i64 x.k, .int .i64 x.i, .int .i64 x.t, .int .i64 x.m, .int .i64 x.r, .int .i64 o.id, .int .i64 o.src, .int .i64 o.dst, .int .i64 o.amount, .int .i64 o.first, .int .i64 o.every, .int .i64 o.times, .int .i64 n]) /\ Below w.heap.size w w' := by
 obtain ⟨W0, hW0⟩ : ∃ W0, W0 = ((w.alloc (.cells #[.int .i64 K, .int .i64 x.k, .int .i64 x.i, .int .i64 x.t, .int .i64 x.m, .int .i64 x.r, .int .i64 o.id, .int .i64 o.src, .int .i64 o.dst, .int .i64 o.amount, .int .i64 o.first, .int .i64 o.every, .int .i64 o.times, .int .i64 n] 77)).alloc (.cells #[.int .i64 0, .int .i64 0, .int .i64 0, .int .i64 0, .int .i64 0, .int .i64 0, .int .i64 0, .int .i64 0, .int .i64 0, .int .i64 0, .int .i64 0, .int .i64 0, .int .i64 0, .int .i64 0] 51)).alloc (.cells #[.int .i64 K, .int .i64 0, .int .i64 0, .int .i64 0, .int .i64 0, .int .i64 0, .int .i64 0, .int .i64 0, .int .i64 0, .int .i64 0, .int .i64 0, .int .i64 0, .int .i64 0, .int .i64 0] 51) := ⟨_, rfl⟩
 have a1 := Vals.new w [.int .i64 K, .int .i64 x.k, .int .i64 x.i, .int .i64 x.t, .int .i64 x.m, .int .i64 x.r, .int .i64 o.id, .int .i64 o.src, .int .i64 o.dst, .int .i64 o.amount, .int .i64 o.first, .int .i64 o.every, .int .i64 o.times, .int .i64 n] 77
 have a2 := Vals.new (w.alloc (.cells #[.int .i64 K, .int .i64 x.k, .int .i64 x.i, .int .i64 x.t, .int .i64 x.m, .int .i64 x.r, .int .i64 o.id, .int .i64 o.src, .int .i64 o.dst, .int .i64 o.amount, .int .i64 o.first, .int .i64 o.every, .int .i64 o.times, .int .i64 n] 77)) [.int .i64 0, .int .i64 0, .int .i64 0, .int .i64 0, .int .i64 0, .int .i64 0, .int .i64 0, .int .i64 0, .int .i64 0, .int .i64 0, .int .i64 0, .int .i64 0, .int .i64 0, .int .i64 0] 51
 have a3 := Vals.new ((w.alloc (.cells #[.int .i64 K, .int .i64 x.k, .int .i64 x.i, .int .i64 x.t, .int .i64 x.m, .int .i64 x.r, .int .i64 o.id, .int .i64 o.src, .int .i64 o.dst, .int .i64 o.amount, .int .i64 o.first, .int .i64 o.every, .int .i64 o.times, .int .i64 n] 77)).alloc (.cells #[.int .i64 0, .int .i64 0, .int .i64 0, .int .i64 0, .int .i64 0, .int .i64 0, .int .i64 0, .int .i64 0, .int .i64 0, .int .i64 0, .int .i64 0, .int .i64 0, .int .i64 0, .int .i64 0] 51)) [.int .i64 K, .int .i64 0, .int .i64 0, .int .i64 0, .int .i64 0, .int .i64 0, .int .i64 0, .int .i64 0, .int .i64 0, .int .i64 0, .int .i64 0, .int .i64 0, .int .i64 0, .int .i64 0] 51
 simp only [World.size_alloc] at a2 a3
 have B1 : ∀ (V : World) (x : Obj), Below V.heap.size V (V.alloc x) := fun V x => (Below.refl _ _).alloc (Nat.le_refl _) _
 have hs0 : W0.heap.size = w.heap.size + 1 + 1 + 1 := by rw [hW0]; simp
 have Y0 : Hid (Vals W0 w.heap.size [.int .i64 K, .int .i64 x.k, .int .i64 x.i, .int .i64 x.t, .int .i64 x.m, .int .i64 x.r, .int .i64 o.id, .int .i64 o.src, .int .i64 o.dst, .int .i64 o.amount, .int .i64 o.first, .int .i64 o.every, .int .i64 o.times, .int .i64 n]) := by
  show Vals _ _ _; rw [hW0]; exact (a1.kept (B1 _ _) (by simp)).kept (B1 _ _) (by simp; omega)
 have Y1 : Hid (Vals W0 (w.heap.size + 1) [.int .i64 0, .int .i64 0, .int .i64 0, .int .i64 0, .int .i64 0, .int .i64 0, .int .i64 0, .int .i64 0, .int .i64 0, .int .i64 0, .int .i64 0, .int .i64 0, .int .i64 0, .int .i64 0]) := by
  show Vals _ _ _; rw [hW0]; exact a2.kept (B1 _ _) (by simp)
 have Y2 : Hid (Vals W0 (w.heap.size + 1 + 1) [.int .i64 K, .int .i64 0, .int .i64 0, .int .i64 0, .int .i64 0, .int .i64 0, .int .i64 0, .int .i64 0, .int .i64 0, .int .i64 0, .int .i64 0, .int .i64 0, .int .i64 0, .int .i64 0]) := by
  show Vals _ _ _; rw [hW0]; exact a3
 have HB : Hid (Below w.heap.size w W0) := by
  show Below _ _ _; rw [hW0]; exact (((Below.refl _ _).alloc (Nat.le_refl _) _).alloc (by simp) _).alloc (by simp; omega) _
 have HW0 := hidOf hW0
 clear hW0 a1 a2 a3
 go_enter Tryz.func46, Tryz.ntmps46
 go_upto_region 3 with fail
 rw [← HW0.out]
 clear HW0
 have s0 := Y0.out.1 0 _ rfl
 have s1 := Y0.out.1 1 _ rfl
 have s2 := Y0.out.1 2 _ rfl
 have s3 := Y0.out.1 3 _ rfl
 have s4 := Y0.out.1 4 _ rfl
 have s5 := Y0.out.1 5 _ rfl
 have s6 := Y0.out.1 6 _ rfl
 have s7 := Y0.out.1 7 _ rfl
 have s8 := Y0.out.1 8 _ rfl
 have s9 := Y0.out.1 9 _ rfl
 have s10 := Y0.out.1 10 _ rfl
 have s11 := Y0.out.1 11 _ rfl
 have s12 := Y0.out.1 12 _ rfl
 have s13 := Y0.out.1 13 _ rfl
 have sf := Y0.out.2.1
 have sz := Y0.out.2.2
 go_wp2_with fail
 refine (toOp x.k x.i x.t x.m x.r _).mono ?_
 rintro e w1 ⟨rfl, E⟩
 clear s0 s1 s2 s3 s4 s5 s6 s7 s8 s9 s10 s11 s12 s13 sf sz
 have hs1 := E.size
 have Z0 := hidOf (Y0.out.kept E (by omega))
 have Z1 := hidOf (Y1.out.kept E (by omega))
 have Z2 := hidOf (Y2.out.kept E (by omega))
 have HB1 := hidOf (HB.out.trans (E.mono HB.out.size))
 clear Y0 Y1 Y2 E HB
 obtain ⟨W2, hW2⟩ : ∃ W2, W2 = (((((w1.setCell ⟨(w.heap.size + 1 + 1), 1, none⟩ (.int .i64 x.k)).setCell ⟨(w.heap.size + 1 + 1), 2, none⟩ (.int .i64 x.i)).setCell ⟨(w.heap.size + 1 + 1), 3, none⟩ (.int .i64 x.t)).setCell ⟨(w.heap.size + 1 + 1), 4, none⟩ (.int .i64 x.m)).setCell ⟨(w.heap.size + 1 + 1), 5, none⟩ (.int .i64 x.r)) := ⟨_, rfl⟩
 have hs2 : W2.heap.size = w1.heap.size := by rw [hW2]; simp [World.setCell]
 have Y0 : Hid (Vals W2 w.heap.size [.int .i64 K, .int .i64 x.k, .int .i64 x.i, .int .i64 x.t, .int .i64 x.m, .int .i64 x.r, .int .i64 o.id, .int .i64 o.src, .int .i64 o.dst, .int .i64 o.amount, .int .i64 o.first, .int .i64 o.every, .int .i64 o.times, .int .i64 n]) := by show Vals _ _ _; rw [hW2]; exact (((((Z0.out.far (by omega) _ _).far (by omega) _ _).far (by omega) _ _).far (by omega) _ _).far (by omega) _ _)
 have Y1 : Hid (Vals W2 (w.heap.size + 1) [.int .i64 0, .int .i64 0, .int .i64 0, .int .i64 0, .int .i64 0, .int .i64 0, .int .i64 0, .int .i64 0, .int .i64 0, .int .i64 0, .int .i64 0, .int .i64 0, .int .i64 0, .int .i64 0]) := by show Vals _ _ _; rw [hW2]; exact (((((Z1.out.far (by omega) _ _).far (by omega) _ _).far (by omega) _ _).far (by omega) _ _).far (by omega) _ _)
 have Y2 : Hid (Vals W2 (w.heap.size + 1 + 1) [.int .i64 K, .int .i64 x.k, .int .i64 x.i, .int .i64 x.t, .int .i64 x.m, .int .i64 x.r, .int .i64 0, .int .i64 0, .int .i64 0, .int .i64 0, .int .i64 0, .int .i64 0, .int .i64 0, .int .i64 0]) := by show Vals _ _ _; rw [hW2]; exact (((((Z2.out.set 1 _).set 2 _).set 3 _).set 4 _).set 5 _)
 have HB : Hid (Below w.heap.size w W2) := by
  show Below _ _ _; rw [hW2]
  repeat (refine below_far ?_ (by omega) _ _)
  exact HB1.out
 have HW2 := hidOf hW2
 have t0 := Z2.out.1 0 _ rfl
 have t1 := Z2.out.1 1 _ rfl
 have t2 := Z2.out.1 2 _ rfl
 have t3 := Z2.out.1 3 _ rfl
 have t4 := Z2.out.1 4 _ rfl
 have t5 := Z2.out.1 5 _ rfl
 have t6 := Z2.out.1 6 _ rfl
 have t7 := Z2.out.1 7 _ rfl
 have t8 := Z2.out.1 8 _ rfl
 have t9 := Z2.out.1 9 _ rfl
 have t10 := Z2.out.1 10 _ rfl
 have t11 := Z2.out.1 11 _ rfl
 have t12 := Z2.out.1 12 _ rfl
 have t13 := Z2.out.1 13 _ rfl
 have tf := Z2.out.2.1
 have tz := Z2.out.2.2
 clear hW2 Z0 Z1 HB1
 go_upto_region 4 with fail
 rw [← HW2.out]
 clear HW2
 clear t0 t1 t2 t3 t4 t5 t6 t7 t8 t9 t10 t11 t12 t13 tf tz
 clear Z2
 have s0 := Y0.out.1 0 _ rfl
 have s1 := Y0.out.1 1 _ rfl
 have s2 := Y0.out.1 2 _ rfl
 have s3 := Y0.out.1 3 _ rfl
 have s4 := Y0.out.1 4 _ rfl
 have s5 := Y0.out.1 5 _ rfl
 have s6 := Y0.out.1 6 _ rfl
 have s7 := Y0.out.1 7 _ rfl
 have s8 := Y0.out.1 8 _ rfl
 have s9 := Y0.out.1 9 _ rfl
 have s10 := Y0.out.1 10 _ rfl
 have s11 := Y0.out.1 11 _ rfl
 have s12 := Y0.out.1 12 _ rfl
 have s13 := Y0.out.1 13 _ rfl
 have sf := Y0.out.2.1
 have sz := Y0.out.2.2
 go_wp2_with fail
 refine (toOrd o _).mono ?_
 rintro e w3 ⟨rfl, E⟩
 clear s0 s1 s2 s3 s4 s5 s6 s7 s8 s9 s10 s11 s12 s13 sf sz
 have hs3 := E.size
 have Z0 := hidOf (Y0.out.kept E (by omega))
 have Z1 := hidOf (Y1.out.kept E (by omega))
 have Z2 := hidOf (Y2.out.kept E (by omega))
 have HB3 := hidOf (HB.out.trans (E.mono HB.out.size))
 clear Y0 Y1 Y2 E HB
 obtain ⟨W4, hW4⟩ : ∃ W4, W4 = ((((((((w3.setCell ⟨(w.heap.size + 1 + 1), 6, none⟩ (.int .i64 o.id)).setCell ⟨(w.heap.size + 1 + 1), 7, none⟩ (.int .i64 o.src)).setCell ⟨(w.heap.size + 1 + 1), 8, none⟩ (.int .i64 o.dst)).setCell ⟨(w.heap.size + 1 + 1), 9, none⟩ (.int .i64 o.amount)).setCell ⟨(w.heap.size + 1 + 1), 10, none⟩ (.int .i64 o.first)).setCell ⟨(w.heap.size + 1 + 1), 11, none⟩ (.int .i64 o.every)).setCell ⟨(w.heap.size + 1 + 1), 12, none⟩ (.int .i64 o.times)).setCell ⟨(w.heap.size + 1 + 1), 13, none⟩ (.int .i64 n)) := ⟨_, rfl⟩
 have hs4 : W4.heap.size = w3.heap.size := by rw [hW4]; simp [World.setCell]
 have Y1 : Hid (Vals W4 (w.heap.size + 1) [.int .i64 0, .int .i64 0, .int .i64 0, .int .i64 0, .int .i64 0, .int .i64 0, .int .i64 0, .int .i64 0, .int .i64 0, .int .i64 0, .int .i64 0, .int .i64 0, .int .i64 0, .int .i64 0]) := by show Vals _ _ _; rw [hW4]; exact ((((((((Z1.out.far (by omega) _ _).far (by omega) _ _).far (by omega) _ _).far (by omega) _ _).far (by omega) _ _).far (by omega) _ _).far (by omega) _ _).far (by omega) _ _)
 have Y2 : Hid (Vals W4 (w.heap.size + 1 + 1) [.int .i64 K, .int .i64 x.k, .int .i64 x.i, .int .i64 x.t, .int .i64 x.m, .int .i64 x.r, .int .i64 o.id, .int .i64 o.src, .int .i64 o.dst, .int .i64 o.amount, .int .i64 o.first, .int .i64 o.every, .int .i64 o.times, .int .i64 n]) := by show Vals _ _ _; rw [hW4]; exact ((((((((Z2.out.set 6 _).set 7 _).set 8 _).set 9 _).set 10 _).set 11 _).set 12 _).set 13 _)
 have HB : Hid (Below w.heap.size w W4) := by
  show Below _ _ _; rw [hW4]
  repeat (refine below_far ?_ (by omega) _ _)
  exact HB3.out
 have HW4 := hidOf hW4
 have t0 := Z2.out.1 0 _ rfl
 have t1 := Z2.out.1 1 _ rfl
 have t2 := Z2.out.1 2 _ rfl
 have t3 := Z2.out.1 3 _ rfl
 have t4 := Z2.out.1 4 _ rfl
 have t5 := Z2.out.1 5 _ rfl
 have t6 := Z2.out.1 6 _ rfl
 have t7 := Z2.out.1 7 _ rfl
 have t8 := Z2.out.1 8 _ rfl
 have t9 := Z2.out.1 9 _ rfl
 have t10 := Z2.out.1 10 _ rfl
 have t11 := Z2.out.1 11 _ rfl
 have t12 := Z2.out.1 12 _ rfl
 have t13 := Z2.out.1 13 _ rfl
 have tf := Z2.out.2.1
 have tz := Z2.out.2.2
 have s0 := Z0.out.1 0 _ rfl
 have s1 := Z0.out.1 1 _ rfl
 have s2 := Z0.out.1 2 _ rfl
 have s3 := Z0.out.1 3 _ rfl
 have s4 := Z0.out.1 4 _ rfl
 have s5 := Z0.out.1 5 _ rfl
 have s6 := Z0.out.1 6 _ rfl
 have s7 := Z0.out.1 7 _ rfl
 have s8 := Z0.out.1 8 _ rfl
 have s9 := Z0.out.1 9 _ rfl
 have s10 := Z0.out.1 10 _ rfl
 have s11 := Z0.out.1 11 _ rfl
 have s12 := Z0.out.1 12 _ rfl
 have s13 := Z0.out.1 13 _ rfl
 have sf := Z0.out.2.1
 have sz := Z0.out.2.2
 have ne1 : ¬ (w.heap.size + 1 + 1) = w.heap.size := by omega
 have ne2 : ¬ w.heap.size = (w.heap.size + 1 + 1) := by omega
 clear hW4 Z1 HB3
 go_upto_region 6 with fail
 rw [← HW4.out]
 clear HW4
 clear t0 t1 t2 t3 t4 t5 t6 t7 t8 t9 t10 t11 t12 t13 tf tz
 clear s0 s1 s2 s3 s4 s5 s6 s7 s8 s9 s10 s11 s12 s13 sf sz
 clear Z2 Z0
 have s0 := Y2.out.1 0 _ rfl
 have s1 := Y2.out.1 1 _ rfl
 have s2 := Y2.out.1 2 _ rfl
 have s3 := Y2.out.1 3 _ rfl
 have s4 := Y2.out.1 4 _ rfl
 have s5 := Y2.out.1 5 _ rfl
 have s6 := Y2.out.1 6 _ rfl
 have s7 := Y2.out.1 7 _ rfl
 have s8 := Y2.out.1 8 _ rfl
 have s9 := Y2.out.1 9 _ rfl
 have s10 := Y2.out.1 10 _ rfl
 have s11 := Y2.out.1 11 _ rfl
 have s12 := Y2.out.1 12 _ rfl
 have s13 := Y2.out.1 13 _ rfl
 have sf := Y2.out.2.1
 have sz := Y2.out.2.2
 have r0 := Y1.out.1 0 _ rfl
 have r1 := Y1.out.1 1 _ rfl
 have r2 := Y1.out.1 2 _ rfl
 have r3 := Y1.out.1 3 _ rfl
 have r4 := Y1.out.1 4 _ rfl
 have r5 := Y1.out.1 5 _ rfl
 have r6 := Y1.out.1 6 _ rfl
 have r7 := Y1.out.1 7 _ rfl
 have r8 := Y1.out.1 8 _ rfl
 have r9 := Y1.out.1 9 _ rfl
 have r10 := Y1.out.1 10 _ rfl
 have r11 := Y1.out.1 11 _ rfl
 have r12 := Y1.out.1 12 _ rfl
 have r13 := Y1.out.1 13 _ rfl
 have rf := Y1.out.2.1
 have rz := Y1.out.2.2
 go_wp2
 refine bodyPost_ret (v := .agg #[.int .i64 K, .int .i64 x.k, .int .i64 x.i, .int .i64 x.t, .int .i64 x.m, .int .i64 x.r, .int .i64 o.id, .int .i64 o.src, .int .i64 o.dst, .int .i64 o.amount, .int .i64 o.first, .int .i64 o.every, .int .i64 o.times, .int .i64 n]) (by simp [results, Tryz.results46, go_sem, r0, r1, r2, r3, r4, r5, r6, r7, r8, r9, r10, r11, r12, r13]) rfl ⟨rfl, ?_⟩
 repeat (refine below_far ?_ (by omega) _ _)
 exact HB.out
end Go.Proofs.YtghkbhggopiajaaGreatDoor
