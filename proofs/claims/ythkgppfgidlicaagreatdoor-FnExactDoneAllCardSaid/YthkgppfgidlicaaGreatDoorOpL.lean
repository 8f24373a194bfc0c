/- Lists of ops in memory, copied and compared as the exact laws do. Conditions: they lie in memory, at most 1048576 of them. -/
import Derived.Test.YthkgppfgidlicaaGreatDoorLists
import Derived.Deep.Slices
namespace Go.Proofs.YthkgppfgidlicaaGreatDoor
open Go.ChangeShapes Go.WideShapes Go.ChangeAt Go.RowKit
set_option maxRecDepth 8000

/-- An op. -/
structure OpR where
  k : Int
  i : Int
  t : Int
  m : Int
  r : Int
theorem toOpR (a : OpR) (w : World) :
    Calls Tryz.prog 62 #[.agg #[.int .i64 a.k, .int .i64 a.i, .int .i64 a.t, .int .i64 a.m, .int .i64 a.r]] w fun e w' => e = .returned (.agg #[.int .i64 a.k, .int .i64 a.i, .int .i64 a.t, .int .i64 a.m, .int .i64 a.r]) ∧ Below w.heap.size w w' := toOp a.k a.i a.t a.m a.r w
/-- A record in memory. -/
def OpRAt (w : World) (b p : Nat) (a : OpR) : Prop :=
  w.cell? ⟨b, p, none⟩ = some (.int .i64 a.k) ∧ w.cell? ⟨b, p + 1, none⟩ = some (.int .i64 a.i) ∧ w.cell? ⟨b, p + 2, none⟩ = some (.int .i64 a.t) ∧ w.cell? ⟨b, p + 3, none⟩ = some (.int .i64 a.m) ∧ w.cell? ⟨b, p + 4, none⟩ = some (.int .i64 a.r)
/-- Records in memory, one behind the other. -/
def OpRs (w : World) (a : Option Addr) (n : Nat) (F : Nat → OpR) : Prop :=
  n ≤ 1048576 ∧ (n = 0 ∨ ∃ b o, a = some ⟨b, o, none⟩ ∧ b < w.heap.size ∧ ∀ i, i < n → OpRAt w b (o + i * 5) (F i))

theorem OpRAt.of_cells {w w' : World} {b p : Nat} {a : OpR} (h : OpRAt w b p a) (hc : ∀ o, w'.cell? ⟨b, o, none⟩ = w.cell? ⟨b, o, none⟩) : OpRAt w' b p a := by
  unfold OpRAt at h ⊢
  simp only [hc]
  exact h
theorem OpRs.below {w w' : World} {a : Option Addr} {n : Nat} {F : Nat → OpR} (h : OpRs w a n F) (hb : Below w.heap.size w w') : OpRs w' a n F := by
  refine ⟨h.1, ?_⟩
  rcases h.2 with h0 | ⟨b, o, ha, hlt, hall⟩
  · exact Or.inl h0
  · exact Or.inr ⟨b, o, ha, Nat.lt_of_lt_of_le hlt hb.size, fun i hi => (hall i hi).of_cells (fun q => hb.cell (p := ⟨b, q, none⟩) hlt)⟩
theorem OpRs.drewN {w : World} {a : Option Addr} {n : Nat} {F : Nat → OpR} (h : OpRs w a n F) (m : Nat) : OpRs (w.drewN m) a n F := h
theorem OpRs.alloc {w : World} {a : Option Addr} {n : Nat} {F : Nat → OpR} (h : OpRs w a n F) (x : Obj) : OpRs (w.alloc x) a n F := h.below ((Below.refl _ _).alloc (Nat.le_refl _) x)
theorem OpRs.acc {w : World} {a : Option Addr} {n : Nat} {F : Nat → OpR} (h : OpRs w a n F) {i : Nat} (hi : i < n) : ∃ b o, a = some ⟨b, o, none⟩ ∧ b < w.heap.size ∧ OpRAt w b (o + i * 5) (F i) := by
  rcases h.2 with h0 | ⟨b, o, ha, hlt, hall⟩
  · omega
  · exact ⟨b, o, ha, hlt, hall i hi⟩

/-- The record a, written. -/
def setOpR (w : World) (R p : Nat) (a : OpR) : World :=
  ((((w.setCell ⟨R, p, none⟩ (.int .i64 a.k)).setCell ⟨R, p + 1, none⟩ (.int .i64 a.i)).setCell ⟨R, p + 2, none⟩ (.int .i64 a.t)).setCell ⟨R, p + 3, none⟩ (.int .i64 a.m)).setCell ⟨R, p + 4, none⟩ (.int .i64 a.r)

theorem setOpR_out (w : World) (R p : Nat) (a : OpR) (x : Addr) (h : x.block ≠ R ∨ x.off < p ∨ p + 5 ≤ x.off) : (setOpR w R p a).cell? x = w.cell? x := by
  have ne : ∀ j, j < 5 → (⟨R, p + j, none⟩ : Addr) ≠ x := by
    intro j hj e
    subst e
    simp at h
    omega
  have ne' : (⟨R, p, none⟩ : Addr) ≠ x := ne 0 (by omega)
  unfold setOpR
  rw [World.cell?_setCell_other _ _ _ _ (ne 4 (by omega)), World.cell?_setCell_other _ _ _ _ (ne 3 (by omega)), World.cell?_setCell_other _ _ _ _ (ne 2 (by omega)), World.cell?_setCell_other _ _ _ _ (ne 1 (by omega)), World.cell?_setCell_other _ _ _ _ (ne' : (⟨R, p, none⟩ : Addr) ≠ x)]
theorem setOpR_frozen (w : World) (R p : Nat) (a : OpR) (x : Addr) : (setOpR w R p a).frozen? x = w.frozen? x := by
  unfold setOpR; simp
theorem setOpR_size (w : World) (R p : Nat) (a : OpR) : (setOpR w R p a).heap.size = w.heap.size := by
  unfold setOpR; simp [World.setCell]
theorem setOpR_at (w : World) (R p : Nat) (a : OpR) (h : ∀ j, j < 5 → (w.cell? ⟨R, p + j, none⟩).isSome = true) : OpRAt (setOpR w R p a) R p a := by
  have o : ∀ (v : World) (i j : Nat) (u : Value), i ≠ j → (v.setCell ⟨R, i, none⟩ u).cell? ⟨R, j, none⟩ = v.cell? ⟨R, j, none⟩ := fun v i j u hij => World.cell?_setCell_other _ _ _ _ (by intro e; have := congrArg Addr.off e; simp at this; omega)
  have h0 := h 0 (by omega)
  unfold setOpR OpRAt
  refine ⟨?_, ?_, ?_, ?_, ?_⟩
  · rw [o _ (p + 4) p _ (by omega), o _ (p + 3) p _ (by omega), o _ (p + 2) p _ (by omega), o _ (p + 1) p _ (by omega)]
    exact World.cell?_setCell_same' _ _ _ h0
  · rw [o _ (p + 4) (p + 1) _ (by omega), o _ (p + 3) (p + 1) _ (by omega), o _ (p + 2) (p + 1) _ (by omega)]
    exact World.cell?_setCell_same' _ _ _ (by rw [o _ p (p + 1) _ (by omega)]; exact h 1 (by omega))
  · rw [o _ (p + 4) (p + 2) _ (by omega), o _ (p + 3) (p + 2) _ (by omega)]
    exact World.cell?_setCell_same' _ _ _ (by rw [o _ (p + 1) (p + 2) _ (by omega), o _ p (p + 2) _ (by omega)]; exact h 2 (by omega))
  · rw [o _ (p + 4) (p + 3) _ (by omega)]
    exact World.cell?_setCell_same' _ _ _ (by rw [o _ (p + 2) (p + 3) _ (by omega), o _ (p + 1) (p + 3) _ (by omega), o _ p (p + 3) _ (by omega)]; exact h 3 (by omega))
  · exact World.cell?_setCell_same' _ _ _ (by rw [o _ (p + 3) (p + 4) _ (by omega), o _ (p + 2) (p + 4) _ (by omega), o _ (p + 1) (p + 4) _ (by omega), o _ p (p + 4) _ (by omega)]; exact h 4 (by omega))
theorem setOpR_below {B : Nat} {v w : World} (hb : Below B v w) (R p : Nat) (a : OpR) (hR : B ≤ R) : Below B v (setOpR w R p a) := by
  unfold setOpR
  exact ((((hb.setCell (p := ⟨R, p, none⟩) hR _).setCell (p := ⟨R, p + 1, none⟩) hR _).setCell (p := ⟨R, p + 2, none⟩) hR _).setCell (p := ⟨R, p + 3, none⟩) hR _).setCell (p := ⟨R, p + 4, none⟩) hR _

theorem infoOpR : (Tryz.prog.info? 26).map (fun i => (i.zero, i.size, i.bytes)) = some (some (.agg #[.int .i64 0, .int .i64 0, .int .i64 0, .int .i64 0, .int .i64 0]), 5, 40) := by kernel_rfl
/-- The zero cells of a row of n records. -/
def zerosOpR (n : Nat) : Array Value := madeCells #[.int .i64 0, .int .i64 0, .int .i64 0, .int .i64 0, .int .i64 0] (n * 5)
theorem makeOpR (n : Nat) (hn : n ≤ 1048576) (w : World) : (Instr.makeSlice 43 (.int .i64 (n : Int)) (.int .i64 (n : Int))).run Tryz.prog w = .ok (.slice (some ⟨w.heap.size, 0, none⟩) n n) (w.alloc (.cells (zerosOpR n) 26)) := by
  obtain ⟨i, hi, hz0, hz1, hz2⟩ := info_parts infoOpR
  have := run_make (P := Tryz.prog) w 43 26 i _ Tryz.underlying43 hi hz0 .i64 .i64 (n : Int) (n : Int) (by omega) (Int.le_refl _) (by rw [hz2]; omega) (by omega)
  rw [hz1] at this
  simpa [zerosOpR, Value.cells] using this

/-- A row of n records of a call's own, of which the first k are told. -/
def RowOpR (w : World) (R n k : Nat) (F : Nat → OpR) : Prop :=
  (∀ o, o < n * 5 → (w.cell? ⟨R, o, none⟩).isSome = true) ∧ (∀ o, w.frozen? ⟨R, o, none⟩ = false) ∧ R < w.heap.size ∧ ∀ i, i < k → OpRAt w R (i * 5) (F i)
theorem RowOpR.new (w : World) (n : Nat) (F : Nat → OpR) : RowOpR (w.alloc (.cells (zerosOpR n) 26)) w.heap.size n 0 F := by
  have e : (w.alloc (.cells (zerosOpR n) 26)).heap[w.heap.size]? = some (.cells (zerosOpR n) 26 (0, 0)) := by
    show (w.heap.push _)[w.heap.size]? = _
    simp
  refine ⟨fun o ho => ?_, fun o => ?_, by simp, fun i hi => absurd hi (Nat.not_lt_zero _)⟩
  · simp only [World.cell?]
    rw [e]
    simp [zerosOpR, size_madeCells, ho]
  · simp [go_sem]
theorem RowOpR.below {w w' : World} {R n k : Nat} {F : Nat → OpR} (h : RowOpR w R n k F) (hb : Below w.heap.size w w') : RowOpR w' R n k F := by
  obtain ⟨h1, h2, h3, h4⟩ := h
  refine ⟨fun o ho => by rw [hb.cell (p := ⟨R, o, none⟩) h3]; exact h1 o ho, fun o => by rw [hb.frozen (p := ⟨R, o, none⟩) h3]; exact h2 o, Nat.lt_of_lt_of_le h3 hb.size, fun i hi => (h4 i hi).of_cells (fun q => hb.cell (p := ⟨R, q, none⟩) h3)⟩
theorem OpRAt.set_other {w : World} {R p q : Nat} {x a : OpR} (h : OpRAt w R q a) (hd : q + 5 ≤ p ∨ p + 5 ≤ q) : OpRAt (setOpR w R p x) R q a := by
  obtain ⟨h0, h1, h2, h3, h4⟩ := h
  unfold OpRAt
  refine ⟨?_, ?_, ?_, ?_, ?_⟩
  · rw [setOpR_out _ _ _ _ _ (by simp; omega)]; exact h0
  · rw [setOpR_out _ _ _ _ _ (by simp; omega)]; exact h1
  · rw [setOpR_out _ _ _ _ _ (by simp; omega)]; exact h2
  · rw [setOpR_out _ _ _ _ _ (by simp; omega)]; exact h3
  · rw [setOpR_out _ _ _ _ _ (by simp; omega)]; exact h4
theorem setOpR_some (w : World) (R p : Nat) (a : OpR) (h : ∀ j, j < 5 → (w.cell? ⟨R, p + j, none⟩).isSome = true) {o : Nat} (ho : (w.cell? ⟨R, o, none⟩).isSome = true) : ((setOpR w R p a).cell? ⟨R, o, none⟩).isSome = true := by
  by_cases hd : o < p ∨ p + 5 ≤ o
  · rw [setOpR_out _ _ _ _ _ (by simp; omega)]; exact ho
  · obtain ⟨h0, h1, h2, h3, h4⟩ := setOpR_at w R p a h
    have : o = p ∨ o = p + 1 ∨ o = p + 2 ∨ o = p + 3 ∨ o = p + 4 := by omega
    rcases this with e | e | e | e | e <;> subst e
    · rw [h0]; rfl
    · rw [h1]; rfl
    · rw [h2]; rfl
    · rw [h3]; rfl
    · rw [h4]; rfl
theorem RowOpR.set {w : World} {R n k : Nat} {F : Nat → OpR} (h : RowOpR w R n k F) (hk : k < n) : RowOpR (setOpR w R (k * 5) (F k)) R n (k + 1) F := by
  obtain ⟨h1, h2, h3, h4⟩ := h
  have hs : ∀ j, j < 5 → (w.cell? ⟨R, k * 5 + j, none⟩).isSome = true := fun j hj => h1 _ (by omega)
  refine ⟨fun o ho => setOpR_some w R (k * 5) (F k) hs (h1 o ho), fun o => by rw [setOpR_frozen]; exact h2 o, by rw [setOpR_size]; exact h3, fun i hi => ?_⟩
  by_cases e : i = k
  · subst e; exact setOpR_at w R (i * 5) (F i) hs
  · exact (h4 i (by omega)).set_other (by omega)
theorem RowOpR.list {w : World} {R n : Nat} {F : Nat → OpR} (h : RowOpR w R n n F) (hn : n ≤ 1048576) : OpRs w (some ⟨R, 0, none⟩) n F :=
  ⟨hn, Or.inr ⟨R, 0, rfl, h.2.2.1, fun i hi => by simpa using h.2.2.2 i hi⟩⟩

set_option maxHeartbeats 1000000 in
theorem toSOpR (a : Option Addr) (n c : Nat) (F : Nat → OpR) (w : World) (h : OpRs w a n F) :
    Calls Tryz.prog 28 #[.slice a n c] w fun e w' => e = .returned (.slice (some ⟨w.heap.size, 0, none⟩) n n) ∧ RowOpR w' w.heap.size n n F ∧ Below w.heap.size w w' := by
  have H : Hid (OpRs w a n F) := h
  have hn := h.1
  clear h
  have hmk := makeOpR n hn
  have R0 : Hid (RowOpR (w.alloc (.cells (zerosOpR n) 26)) w.heap.size n 0 F) := RowOpR.new w n F
  go_enter Tryz.func28, Tryz.ntmps28
  go_wp2
  go_loopw [4] (fun i wr => ∃ k : Nat, k ≤ n ∧ i = .int .i64 k ∧ Hid (RowOpR wr w.heap.size n k F) ∧ Hid (Below w.heap.size w wr)) (fun i _ => n - (intOf i).toNat)
  case atStart => exact ⟨0, Nat.zero_le _, rfl, R0, (Below.refl _ _).alloc (Nat.le_refl _) _⟩
  case round =>
    obtain ⟨k, hk, rfl, hR, hB⟩ := hrel
    clear R0 hmk
    by_cases hlt : k < n
    · obtain ⟨b, o, rfl, hb0, hA0⟩ := H.out.acc hlt
      have hA := hA0.of_cells (w' := wr) (fun q => hB.out.cell (p := ⟨b, q, none⟩) hb0)
      obtain ⟨c0, c1, c2, c3, c4⟩ := hA
      clear hA0
      go_wp2_with fail
      refine (toOpR (F k) _).mono ?_
      rintro e w1 ⟨rfl, B1⟩
      have R1 : Hid (RowOpR w1 w.heap.size n k F) := hR.out.below B1
      have B1' : Hid (Below w.heap.size w w1) := hB.out.trans (B1.mono hB.out.size)
      obtain ⟨s1, s2, s3, s4⟩ := R1.out
      obtain ⟨v0, e0⟩ := Option.isSome_iff_exists.1 (s1 (k * 5) (by omega))
      obtain ⟨v1, e1⟩ := Option.isSome_iff_exists.1 (s1 (k * 5 + 1) (by omega))
      obtain ⟨v2, e2⟩ := Option.isSome_iff_exists.1 (s1 (k * 5 + 2) (by omega))
      obtain ⟨v3, e3⟩ := Option.isSome_iff_exists.1 (s1 (k * 5 + 3) (by omega))
      obtain ⟨v4, e4⟩ := Option.isSome_iff_exists.1 (s1 (k * 5 + 4) (by omega))
      clear s1 s4 B1 c0 c1 c2 c3 c4
      go_wp2
      go_roundw
      case rel => exact ⟨k + 1, by omega, by go_num, R1.out.set hlt, setOpR_below B1'.out w.heap.size (k * 5) (F k) (Nat.le_refl _)⟩
      case measure => simp [intOf]; omega
    · have hkn : k = n := by omega
      subst hkn
      go_wp2
      go_ret
      exact ⟨rfl, hR.out, hB.out⟩

theorem szSOpR_yes (a : Option Addr) (n c : Nat) (m : Int) (w : World) (h : (n : Int) ≤ m) (hm : m ≤ 1048576) :
    Calls Tryz.prog 26 #[.slice a n c, .int .i64 m] w fun e w' => e = .returned (.int .i64 (m - (n : Int))) ∧ w' = w := by
  go_enter Tryz.func26, Tryz.ntmps26
  go_wp2
  go_ret
  exact ⟨rfl, rfl⟩
theorem szSOpR_no (a : Option Addr) (n c : Nat) (m : Int) (w : World) (h : m < (n : Int)) (h0 : 0 ≤ m) (hm : n ≤ 9223372036854775807) :
    Calls Tryz.prog 26 #[.slice a n c, .int .i64 m] w fun e w' => e = .returned (.int .i64 (-1)) ∧ w' = w := by
  go_enter Tryz.func26, Tryz.ntmps26
  go_wp2
  go_ret
  exact ⟨rfl, rfl⟩

theorem eqOpR_same (a : OpR) (w : World) :
    Calls Tryz.prog 64 #[.agg #[.int .i64 a.k, .int .i64 a.i, .int .i64 a.t, .int .i64 a.m, .int .i64 a.r], .agg #[.int .i64 a.k, .int .i64 a.i, .int .i64 a.t, .int .i64 a.m, .int .i64 a.r]] w fun e w' => e = .returned (.bool true) ∧ Below w.heap.size w w' := by
  go_enter Tryz.func64, Tryz.ntmps64
  go_wp2
  go_ret
  exact ⟨rfl, ((Below.refl _ _).alloc (Nat.le_refl _) _).alloc (by simp) _⟩

set_option maxHeartbeats 1000000 in
theorem eqSOpR_same (a1 a2 : Option Addr) (n m1 m2 : Nat) (F : Nat → OpR) (w : World) (h1 : OpRs w a1 n F) (h2 : OpRs w a2 n F) :
    Calls Tryz.prog 31 #[.slice a1 n m1, .slice a2 n m2] w fun e w' => e = .returned (.bool true) ∧ Below w.heap.size w w' := by
  have H1 : Hid (OpRs w a1 n F) := h1
  have H2 : Hid (OpRs w a2 n F) := h2
  have hn := h1.1
  clear h1 h2
  go_enter Tryz.func31, Tryz.ntmps31
  go_wp2
  go_loopw [5] (fun i wr => ∃ k : Nat, k ≤ n ∧ i = .int .i64 k ∧ Hid (Below w.heap.size w wr)) (fun i _ => n - (intOf i).toNat)
  case atStart => exact ⟨0, Nat.zero_le _, rfl, Below.refl _ _⟩
  case round =>
    obtain ⟨k, hk, rfl, hB⟩ := hrel
    by_cases hlt : k < n
    · obtain ⟨b, o, rfl, hb0, hA0⟩ := H1.out.acc hlt
      obtain ⟨b', o', rfl, hb0', hA0'⟩ := H2.out.acc hlt
      have hA := hA0.of_cells (w' := wr) (fun q => hB.out.cell (p := ⟨b, q, none⟩) hb0)
      have hA' := hA0'.of_cells (w' := wr) (fun q => hB.out.cell (p := ⟨b', q, none⟩) hb0')
      have hb : b < wr.heap.size := Nat.lt_of_lt_of_le hb0 hB.out.size
      have hb' : b' < wr.heap.size := Nat.lt_of_lt_of_le hb0' hB.out.size
      obtain ⟨c0, c1, c2, c3, c4⟩ := hA
      obtain ⟨d0, d1, d2, d3, d4⟩ := hA'
      clear hA0 hA0'
      have hov : ∀ v q, (over wr v).cell? ⟨b, q, none⟩ = wr.cell? ⟨b, q, none⟩ := fun v q => (below_over wr v).cell (p := ⟨b, q, none⟩) hb
      have hov' : ∀ v q, (over wr v).cell? ⟨b', q, none⟩ = wr.cell? ⟨b', q, none⟩ := fun v q => (below_over wr v).cell (p := ⟨b', q, none⟩) hb'
      go_wp2
      refine wp_region_over (by kernel_rfl) (by kernel_rfl) ?_
      repeat (go_big_quiet_step ((first | (go_at_call 64; exact Calls.over_of (eqOpR_same (F k) _)))))
      refine wpQuiet_nil ?_
      intro _ hw'
      obtain ⟨vq, hw''⟩ := hw'
      subst hw''
      go_wp2
      go_roundw
      case rel => exact ⟨k + 1, by omega, by go_num, hB.out.trans ((below_over wr vq).mono hB.out.size)⟩
      case measure => simp [intOf]; omega
    · go_wp2
      go_ret
      exact ⟨rfl, hB.out⟩
end Go.Proofs.YthkgppfgidlicaaGreatDoor
