/- Lists of orders in memory, the copies that the exact laws make of them, and their comparison. Conditions: the orders lie in memory, at most 1048576 of them. -/
import Derived.Test.YtedhlmipcfdldaaGreatDoorFOrd
import Derived.Test.YtedhlmipcfdldaaGreatDoorFOver
import Derived.Deep.Slices
namespace Go.Proofs.YtedhlmipcfdldaaGreatDoor
open Go.ChangeShapes Go.WideShapes Go.ChangeAt Go.RowKit
set_option maxRecDepth 8000

/-- A record in memory. -/
def OrdAt (w : World) (b p : Nat) (a : Ord) : Prop :=
  w.cell? ⟨b, p, none⟩ = some (.int .i64 a.id) ∧ w.cell? ⟨b, p + 1, none⟩ = some (.int .i64 a.src) ∧ w.cell? ⟨b, p + 2, none⟩ = some (.int .i64 a.dst) ∧ w.cell? ⟨b, p + 3, none⟩ = some (.int .i64 a.amount) ∧ w.cell? ⟨b, p + 4, none⟩ = some (.int .i64 a.first) ∧ w.cell? ⟨b, p + 5, none⟩ = some (.int .i64 a.every) ∧ w.cell? ⟨b, p + 6, none⟩ = some (.int .i64 a.times)
/-- Records in memory, one behind the other. -/
def Ords (w : World) (a : Option Addr) (n : Nat) (F : Nat → Ord) : Prop :=
  n ≤ 1048576 ∧ (n = 0 ∨ ∃ b o, a = some ⟨b, o, none⟩ ∧ b < w.heap.size ∧ ∀ i, i < n → OrdAt w b (o + i * 7) (F i))

theorem OrdAt.of_cells {w w' : World} {b p : Nat} {a : Ord} (h : OrdAt w b p a) (hc : ∀ o, w'.cell? ⟨b, o, none⟩ = w.cell? ⟨b, o, none⟩) : OrdAt w' b p a := by
  unfold OrdAt at h ⊢
  simp only [hc]
  exact h
theorem Ords.below {w w' : World} {a : Option Addr} {n : Nat} {F : Nat → Ord} (h : Ords w a n F) (hb : Below w.heap.size w w') : Ords w' a n F := by
  refine ⟨h.1, ?_⟩
  rcases h.2 with h0 | ⟨b, o, ha, hlt, hall⟩
  · exact Or.inl h0
  · exact Or.inr ⟨b, o, ha, Nat.lt_of_lt_of_le hlt hb.size, fun i hi => (hall i hi).of_cells (fun q => hb.cell (p := ⟨b, q, none⟩) hlt)⟩
theorem Ords.drewN {w : World} {a : Option Addr} {n : Nat} {F : Nat → Ord} (h : Ords w a n F) (m : Nat) : Ords (w.drewN m) a n F := h
theorem Ords.alloc {w : World} {a : Option Addr} {n : Nat} {F : Nat → Ord} (h : Ords w a n F) (x : Obj) : Ords (w.alloc x) a n F := h.below ((Below.refl _ _).alloc (Nat.le_refl _) x)
theorem Ords.acc {w : World} {a : Option Addr} {n : Nat} {F : Nat → Ord} (h : Ords w a n F) {i : Nat} (hi : i < n) : ∃ b o, a = some ⟨b, o, none⟩ ∧ b < w.heap.size ∧ OrdAt w b (o + i * 7) (F i) := by
  rcases h.2 with h0 | ⟨b, o, ha, hlt, hall⟩
  · omega
  · exact ⟨b, o, ha, hlt, hall i hi⟩

/-- The record a, written. -/
def setOrd (w : World) (R p : Nat) (a : Ord) : World :=
  ((((((w.setCell ⟨R, p, none⟩ (.int .i64 a.id)).setCell ⟨R, p + 1, none⟩ (.int .i64 a.src)).setCell ⟨R, p + 2, none⟩ (.int .i64 a.dst)).setCell ⟨R, p + 3, none⟩ (.int .i64 a.amount)).setCell ⟨R, p + 4, none⟩ (.int .i64 a.first)).setCell ⟨R, p + 5, none⟩ (.int .i64 a.every)).setCell ⟨R, p + 6, none⟩ (.int .i64 a.times)

theorem setOrd_out (w : World) (R p : Nat) (a : Ord) (x : Addr) (h : x.block ≠ R ∨ x.off < p ∨ p + 7 ≤ x.off) : (setOrd w R p a).cell? x = w.cell? x := by
  have ne : ∀ j, j < 7 → (⟨R, p + j, none⟩ : Addr) ≠ x := by
    intro j hj e
    subst e
    simp at h
    omega
  have ne' : (⟨R, p, none⟩ : Addr) ≠ x := ne 0 (by omega)
  unfold setOrd
  rw [World.cell?_setCell_other _ _ _ _ (ne 6 (by omega)), World.cell?_setCell_other _ _ _ _ (ne 5 (by omega)), World.cell?_setCell_other _ _ _ _ (ne 4 (by omega)), World.cell?_setCell_other _ _ _ _ (ne 3 (by omega)), World.cell?_setCell_other _ _ _ _ (ne 2 (by omega)), World.cell?_setCell_other _ _ _ _ (ne 1 (by omega)), World.cell?_setCell_other _ _ _ _ (ne' : (⟨R, p, none⟩ : Addr) ≠ x)]
theorem setOrd_frozen (w : World) (R p : Nat) (a : Ord) (x : Addr) : (setOrd w R p a).frozen? x = w.frozen? x := by
  unfold setOrd; simp
theorem setOrd_size (w : World) (R p : Nat) (a : Ord) : (setOrd w R p a).heap.size = w.heap.size := by
  unfold setOrd; simp [World.setCell]
theorem setOrd_at (w : World) (R p : Nat) (a : Ord) (h : ∀ j, j < 7 → (w.cell? ⟨R, p + j, none⟩).isSome = true) : OrdAt (setOrd w R p a) R p a := by
  have o : ∀ (v : World) (i j : Nat) (u : Value), i ≠ j → (v.setCell ⟨R, i, none⟩ u).cell? ⟨R, j, none⟩ = v.cell? ⟨R, j, none⟩ := fun v i j u hij => World.cell?_setCell_other _ _ _ _ (by intro e; have := congrArg Addr.off e; simp at this; omega)
  have h0 := h 0 (by omega)
  unfold setOrd OrdAt
  refine ⟨?_, ?_, ?_, ?_, ?_, ?_, ?_⟩
  · rw [o _ (p + 6) p _ (by omega), o _ (p + 5) p _ (by omega), o _ (p + 4) p _ (by omega), o _ (p + 3) p _ (by omega), o _ (p + 2) p _ (by omega), o _ (p + 1) p _ (by omega)]
    exact World.cell?_setCell_same' _ _ _ h0
  · rw [o _ (p + 6) (p + 1) _ (by omega), o _ (p + 5) (p + 1) _ (by omega), o _ (p + 4) (p + 1) _ (by omega), o _ (p + 3) (p + 1) _ (by omega), o _ (p + 2) (p + 1) _ (by omega)]
    exact World.cell?_setCell_same' _ _ _ (by rw [o _ p (p + 1) _ (by omega)]; exact h 1 (by omega))
  · rw [o _ (p + 6) (p + 2) _ (by omega), o _ (p + 5) (p + 2) _ (by omega), o _ (p + 4) (p + 2) _ (by omega), o _ (p + 3) (p + 2) _ (by omega)]
    exact World.cell?_setCell_same' _ _ _ (by rw [o _ (p + 1) (p + 2) _ (by omega), o _ p (p + 2) _ (by omega)]; exact h 2 (by omega))
  · rw [o _ (p + 6) (p + 3) _ (by omega), o _ (p + 5) (p + 3) _ (by omega), o _ (p + 4) (p + 3) _ (by omega)]
    exact World.cell?_setCell_same' _ _ _ (by rw [o _ (p + 2) (p + 3) _ (by omega), o _ (p + 1) (p + 3) _ (by omega), o _ p (p + 3) _ (by omega)]; exact h 3 (by omega))
  · rw [o _ (p + 6) (p + 4) _ (by omega), o _ (p + 5) (p + 4) _ (by omega)]
    exact World.cell?_setCell_same' _ _ _ (by rw [o _ (p + 3) (p + 4) _ (by omega), o _ (p + 2) (p + 4) _ (by omega), o _ (p + 1) (p + 4) _ (by omega), o _ p (p + 4) _ (by omega)]; exact h 4 (by omega))
  · rw [o _ (p + 6) (p + 5) _ (by omega)]
    exact World.cell?_setCell_same' _ _ _ (by rw [o _ (p + 4) (p + 5) _ (by omega), o _ (p + 3) (p + 5) _ (by omega), o _ (p + 2) (p + 5) _ (by omega), o _ (p + 1) (p + 5) _ (by omega), o _ p (p + 5) _ (by omega)]; exact h 5 (by omega))
  · exact World.cell?_setCell_same' _ _ _ (by rw [o _ (p + 5) (p + 6) _ (by omega), o _ (p + 4) (p + 6) _ (by omega), o _ (p + 3) (p + 6) _ (by omega), o _ (p + 2) (p + 6) _ (by omega), o _ (p + 1) (p + 6) _ (by omega), o _ p (p + 6) _ (by omega)]; exact h 6 (by omega))
theorem setOrd_below {B : Nat} {v w : World} (hb : Below B v w) (R p : Nat) (a : Ord) (hR : B ≤ R) : Below B v (setOrd w R p a) := by
  unfold setOrd
  exact ((((((hb.setCell (p := ⟨R, p, none⟩) hR _).setCell (p := ⟨R, p + 1, none⟩) hR _).setCell (p := ⟨R, p + 2, none⟩) hR _).setCell (p := ⟨R, p + 3, none⟩) hR _).setCell (p := ⟨R, p + 4, none⟩) hR _).setCell (p := ⟨R, p + 5, none⟩) hR _).setCell (p := ⟨R, p + 6, none⟩) hR _

theorem infoOrd : (Tryz.prog.info? 39).map (fun i => (i.zero, i.size, i.bytes)) = some (some (.agg #[.int .i64 0, .int .i64 0, .int .i64 0, .int .i64 0, .int .i64 0, .int .i64 0, .int .i64 0]), 7, 56) := by kernel_rfl
/-- The zero cells of a row of n records. -/
def zerosOrd (n : Nat) : Array Value := madeCells #[.int .i64 0, .int .i64 0, .int .i64 0, .int .i64 0, .int .i64 0, .int .i64 0, .int .i64 0] (n * 7)
theorem makeOrd (n : Nat) (hn : n ≤ 1048576) (w : World) : (Instr.makeSlice 23 (.int .i64 (n : Int)) (.int .i64 (n : Int))).run Tryz.prog w = .ok (.slice (some ⟨w.heap.size, 0, none⟩) n n) (w.alloc (.cells (zerosOrd n) 39)) := by
  obtain ⟨i, hi, hz0, hz1, hz2⟩ := info_parts infoOrd
  have := run_make (P := Tryz.prog) w 23 39 i _ Tryz.underlying23 hi hz0 .i64 .i64 (n : Int) (n : Int) (by omega) (Int.le_refl _) (by rw [hz2]; omega) (by omega)
  rw [hz1] at this
  simpa [zerosOrd, Value.cells] using this

/-- A row of n records of a call's own, of which the first k are told. -/
def RowOrd (w : World) (R n k : Nat) (F : Nat → Ord) : Prop :=
  (∀ o, o < n * 7 → (w.cell? ⟨R, o, none⟩).isSome = true) ∧ (∀ o, w.frozen? ⟨R, o, none⟩ = false) ∧ R < w.heap.size ∧ ∀ i, i < k → OrdAt w R (i * 7) (F i)
theorem RowOrd.new (w : World) (n : Nat) (F : Nat → Ord) : RowOrd (w.alloc (.cells (zerosOrd n) 39)) w.heap.size n 0 F := by
  have e : (w.alloc (.cells (zerosOrd n) 39)).heap[w.heap.size]? = some (.cells (zerosOrd n) 39 (0, 0)) := by
    show (w.heap.push _)[w.heap.size]? = _
    simp
  refine ⟨fun o ho => ?_, fun o => ?_, by simp, fun i hi => absurd hi (Nat.not_lt_zero _)⟩
  · simp only [World.cell?]
    rw [e]
    simp [zerosOrd, size_madeCells, ho]
  · simp [go_sem]
theorem RowOrd.below {w w' : World} {R n k : Nat} {F : Nat → Ord} (h : RowOrd w R n k F) (hb : Below w.heap.size w w') : RowOrd w' R n k F := by
  obtain ⟨h1, h2, h3, h4⟩ := h
  refine ⟨fun o ho => by rw [hb.cell (p := ⟨R, o, none⟩) h3]; exact h1 o ho, fun o => by rw [hb.frozen (p := ⟨R, o, none⟩) h3]; exact h2 o, Nat.lt_of_lt_of_le h3 hb.size, fun i hi => (h4 i hi).of_cells (fun q => hb.cell (p := ⟨R, q, none⟩) h3)⟩
theorem OrdAt.set_other {w : World} {R p q : Nat} {x a : Ord} (h : OrdAt w R q a) (hd : q + 7 ≤ p ∨ p + 7 ≤ q) : OrdAt (setOrd w R p x) R q a := by
  obtain ⟨h0, h1, h2, h3, h4, h5, h6⟩ := h
  unfold OrdAt
  refine ⟨?_, ?_, ?_, ?_, ?_, ?_, ?_⟩
  · rw [setOrd_out _ _ _ _ _ (by simp; omega)]; exact h0
  · rw [setOrd_out _ _ _ _ _ (by simp; omega)]; exact h1
  · rw [setOrd_out _ _ _ _ _ (by simp; omega)]; exact h2
  · rw [setOrd_out _ _ _ _ _ (by simp; omega)]; exact h3
  · rw [setOrd_out _ _ _ _ _ (by simp; omega)]; exact h4
  · rw [setOrd_out _ _ _ _ _ (by simp; omega)]; exact h5
  · rw [setOrd_out _ _ _ _ _ (by simp; omega)]; exact h6
theorem setOrd_some (w : World) (R p : Nat) (a : Ord) (h : ∀ j, j < 7 → (w.cell? ⟨R, p + j, none⟩).isSome = true) {o : Nat} (ho : (w.cell? ⟨R, o, none⟩).isSome = true) : ((setOrd w R p a).cell? ⟨R, o, none⟩).isSome = true := by
  by_cases hd : o < p ∨ p + 7 ≤ o
  · rw [setOrd_out _ _ _ _ _ (by simp; omega)]; exact ho
  · obtain ⟨h0, h1, h2, h3, h4, h5, h6⟩ := setOrd_at w R p a h
    have : o = p ∨ o = p + 1 ∨ o = p + 2 ∨ o = p + 3 ∨ o = p + 4 ∨ o = p + 5 ∨ o = p + 6 := by omega
    rcases this with e | e | e | e | e | e | e <;> subst e
    · rw [h0]; rfl
    · rw [h1]; rfl
    · rw [h2]; rfl
    · rw [h3]; rfl
    · rw [h4]; rfl
    · rw [h5]; rfl
    · rw [h6]; rfl
theorem RowOrd.set {w : World} {R n k : Nat} {F : Nat → Ord} (h : RowOrd w R n k F) (hk : k < n) : RowOrd (setOrd w R (k * 7) (F k)) R n (k + 1) F := by
  obtain ⟨h1, h2, h3, h4⟩ := h
  have hs : ∀ j, j < 7 → (w.cell? ⟨R, k * 7 + j, none⟩).isSome = true := fun j hj => h1 _ (by omega)
  refine ⟨fun o ho => setOrd_some w R (k * 7) (F k) hs (h1 o ho), fun o => by rw [setOrd_frozen]; exact h2 o, by rw [setOrd_size]; exact h3, fun i hi => ?_⟩
  by_cases e : i = k
  · subst e; exact setOrd_at w R (i * 7) (F i) hs
  · exact (h4 i (by omega)).set_other (by omega)
theorem RowOrd.list {w : World} {R n : Nat} {F : Nat → Ord} (h : RowOrd w R n n F) (hn : n ≤ 1048576) : Ords w (some ⟨R, 0, none⟩) n F :=
  ⟨hn, Or.inr ⟨R, 0, rfl, h.2.2.1, fun i hi => by simpa using h.2.2.2 i hi⟩⟩

theorem eqOrd_same (a : Ord) (w : World) :
    Calls Tryz.prog 32 #[.agg #[.int .i64 a.id, .int .i64 a.src, .int .i64 a.dst, .int .i64 a.amount, .int .i64 a.first, .int .i64 a.every, .int .i64 a.times], .agg #[.int .i64 a.id, .int .i64 a.src, .int .i64 a.dst, .int .i64 a.amount, .int .i64 a.first, .int .i64 a.every, .int .i64 a.times]] w fun e w' => e = .returned (.bool true) ∧ Below w.heap.size w w' := by
  go_enter Tryz.func32, Tryz.ntmps32
  go_wp2
  go_ret
  exact ⟨rfl, ((Below.refl _ _).alloc (Nat.le_refl _) _).alloc (by simp) _⟩

set_option maxHeartbeats 1000000 in
theorem eqSOrd_same (a1 a2 : Option Addr) (n m1 m2 : Nat) (F : Nat → Ord) (w : World) (h1 : Ords w a1 n F) (h2 : Ords w a2 n F) :
    Calls Tryz.prog 15 #[.slice a1 n m1, .slice a2 n m2] w fun e w' => e = .returned (.bool true) ∧ Below w.heap.size w w' := by
  have H1 : Hid (Ords w a1 n F) := h1
  have H2 : Hid (Ords w a2 n F) := h2
  have hn := h1.1
  clear h1 h2
  go_enter Tryz.func15, Tryz.ntmps15
  go_wp2
  go_loopw [5] (fun i wr => ∃ k : Nat, k ≤ n ∧ i = .int .i64 k ∧ Hid (Below w.heap.size w wr)) (fun i _ => n - (intOf i).toNat)
  case atStart => exact ⟨0, Nat.zero_le _, rfl, Below.refl _ _⟩
  case round =>
    obtain ⟨k, hk, rfl, hB⟩ := hrel
    by_cases hlt : k < n
    · obtain ⟨b, o, rfl, hb0, hA0⟩ := H1.out.acc hlt
      obtain ⟨b', o', rfl, hb0', hA0'⟩ := H2.out.acc hlt
      have hA := hA0.of_cells (w' := wr) (fun q => hB.out.cell (p := ⟨b, q, none⟩) hb0)
      have hA' := hA0'.of_cells (w' := wr) (fun q => hB.out.cell (p := ⟨b', q, none⟩) hb0')
      have hb : b < wr.heap.size := Nat.lt_of_lt_of_le hb0 hB.out.size
      have hb' : b' < wr.heap.size := Nat.lt_of_lt_of_le hb0' hB.out.size
      obtain ⟨c0, c1, c2, c3, c4, c5, c6⟩ := hA
      obtain ⟨d0, d1, d2, d3, d4, d5, d6⟩ := hA'
      clear hA0 hA0'
      have hov : ∀ v q, (over wr v).cell? ⟨b, q, none⟩ = wr.cell? ⟨b, q, none⟩ := fun v q => (below_over wr v).cell (p := ⟨b, q, none⟩) hb
      have hov' : ∀ v q, (over wr v).cell? ⟨b', q, none⟩ = wr.cell? ⟨b', q, none⟩ := fun v q => (below_over wr v).cell (p := ⟨b', q, none⟩) hb'
      go_wp2
      refine wp_region_over (by kernel_rfl) (by kernel_rfl) ?_
      repeat (go_big_quiet_step ((first | (go_at_call 32; exact Calls.over_of (eqOrd_same (F k) _)))))
      refine wpQuiet_nil ?_
      intro _ hw'
      obtain ⟨vq, hw''⟩ := hw'
      subst hw''
      go_wp2
      go_roundw
      case rel => exact ⟨k + 1, by omega, by go_num, hB.out.trans ((below_over wr vq).mono hB.out.size)⟩
      case measure => simp [intOf]; omega
    · go_wp2
      go_ret
      exact ⟨rfl, hB.out⟩


end Go.Proofs.YtedhlmipcfdldaaGreatDoor
