/- The copies of accounts that the exact laws make, and their comparison. Conditions: the accounts lie in memory, at most 1048576 of them. -/
import Derived.Test.YtedhlmipcfdldaaGreatDoorFOk
namespace Go.Proofs.YtedhlmipcfdldaaGreatDoor
open Go.RowKit
set_option maxRecDepth 8000

theorem info37 : (Tryz.prog.info? 37).map (fun i => (i.zero, i.size, i.bytes)) = some (some (.agg #[.int .i64 0, .int .i64 0, .int .i64 0, .int .i64 0, .int .i64 0, .bool false, .int .i64 0, .int .i64 0]), 8, 64) := by kernel_rfl
/-- The zero cells of a row of n accounts. -/
def accRow (n : Nat) : Array Value := madeCells #[.int .i64 0, .int .i64 0, .int .i64 0, .int .i64 0, .int .i64 0, .bool false, .int .i64 0, .int .i64 0] (n * 8)
theorem make_accs (n : Nat) (hn : n ≤ 1048576) (w : World) : (Instr.makeSlice 22 (.int .i64 (n : Int)) (.int .i64 (n : Int))).run Tryz.prog w = .ok (.slice (some ⟨w.heap.size, 0, none⟩) n n) (w.alloc (.cells (accRow n) 37)) := by
  obtain ⟨i, hi, hz0, hz1, hz2⟩ := info_parts info37
  have := run_make (P := Tryz.prog) w 22 37 i _ Tryz.underlying22 hi hz0 .i64 .i64 (n : Int) (n : Int) (by omega) (Int.le_refl _) (by rw [hz2]; omega) (by omega)
  rw [hz1] at this
  simpa [accRow, Value.cells] using this

/-- A row of n accounts of a call's own, of which the first k are told. -/
def Row (w : World) (R n k : Nat) (F : Nat → Acc) : Prop :=
  (∀ o, o < n * 8 → (w.cell? ⟨R, o, none⟩).isSome = true) ∧ (∀ o, w.frozen? ⟨R, o, none⟩ = false) ∧ R < w.heap.size ∧ ∀ i, i < k → AccAt w R (i * 8) (F i)
theorem Row.new (w : World) (n : Nat) (F : Nat → Acc) : Row (w.alloc (.cells (accRow n) 37)) w.heap.size n 0 F := by
  have e : (w.alloc (.cells (accRow n) 37)).heap[w.heap.size]? = some (.cells (accRow n) 37 (0, 0)) := by
    show (w.heap.push _)[w.heap.size]? = _
    simp
  refine ⟨fun o ho => ?_, fun o => ?_, by simp, fun i hi => absurd hi (Nat.not_lt_zero _)⟩
  · simp only [World.cell?]
    rw [e]
    simp [accRow, size_madeCells, ho]
  · simp [go_sem]
theorem Row.below {w w' : World} {R n k : Nat} {F : Nat → Acc} (h : Row w R n k F) (hb : Below w.heap.size w w') : Row w' R n k F := by
  obtain ⟨h1, h2, h3, h4⟩ := h
  refine ⟨fun o ho => by rw [hb.cell (p := ⟨R, o, none⟩) h3]; exact h1 o ho, fun o => by rw [hb.frozen (p := ⟨R, o, none⟩) h3]; exact h2 o, Nat.lt_of_lt_of_le h3 hb.size, fun i hi => (h4 i hi).of_cells (fun q => hb.cell (p := ⟨R, q, none⟩) h3)⟩
theorem AccAt.set8_other {w : World} {R p q : Nat} {x a : Acc} (h : AccAt w R q a) (hd : q + 8 ≤ p ∨ p + 8 ≤ q) : AccAt (set8 w R p x) R q a := by
  obtain ⟨h0, h1, h2, h3, h4, h5, h6, h7⟩ := h
  unfold AccAt
  refine ⟨?_, ?_, ?_, ?_, ?_, ?_, ?_, ?_⟩
  · rw [set8_out _ _ _ _ _ (by simp; omega)]; exact h0
  · rw [set8_out _ _ _ _ _ (by simp; omega)]; exact h1
  · rw [set8_out _ _ _ _ _ (by simp; omega)]; exact h2
  · rw [set8_out _ _ _ _ _ (by simp; omega)]; exact h3
  · rw [set8_out _ _ _ _ _ (by simp; omega)]; exact h4
  · rw [set8_out _ _ _ _ _ (by simp; omega)]; exact h5
  · rw [set8_out _ _ _ _ _ (by simp; omega)]; exact h6
  · rw [set8_out _ _ _ _ _ (by simp; omega)]; exact h7
theorem set8_some (w : World) (R p : Nat) (a : Acc) (h : ∀ j, j < 8 → (w.cell? ⟨R, p + j, none⟩).isSome = true) {o : Nat} (ho : (w.cell? ⟨R, o, none⟩).isSome = true) : ((set8 w R p a).cell? ⟨R, o, none⟩).isSome = true := by
  by_cases hd : o < p ∨ p + 8 ≤ o
  · rw [set8_out _ _ _ _ _ (by simp; omega)]; exact ho
  · obtain ⟨h0, h1, h2, h3, h4, h5, h6, h7⟩ := set8_at w R p a h
    have : o = p ∨ o = p + 1 ∨ o = p + 2 ∨ o = p + 3 ∨ o = p + 4 ∨ o = p + 5 ∨ o = p + 6 ∨ o = p + 7 := by omega
    rcases this with e | e | e | e | e | e | e | e <;> subst e
    · rw [h0]; rfl
    · rw [h1]; rfl
    · rw [h2]; rfl
    · rw [h3]; rfl
    · rw [h4]; rfl
    · rw [h5]; rfl
    · rw [h6]; rfl
    · rw [h7]; rfl
theorem Row.set {w : World} {R n k : Nat} {F : Nat → Acc} (h : Row w R n k F) (hk : k < n) : Row (set8 w R (k * 8) (F k)) R n (k + 1) F := by
  obtain ⟨h1, h2, h3, h4⟩ := h
  have hs : ∀ j, j < 8 → (w.cell? ⟨R, k * 8 + j, none⟩).isSome = true := fun j hj => h1 _ (by omega)
  refine ⟨fun o ho => set8_some w R (k * 8) (F k) hs (h1 o ho), fun o => by rw [set8_frozen]; exact h2 o, by rw [set8_size]; exact h3, fun i hi => ?_⟩
  by_cases e : i = k
  · subst e; exact set8_at w R (i * 8) (F i) hs
  · exact (h4 i (by omega)).set8_other (by omega)
theorem Row.fo {w : World} {R n : Nat} {F : Nat → Acc} (h : Row w R n n F) (hn : n ≤ 1048576) : Fo w (some ⟨R, 0, none⟩) n F :=
  ⟨hn, Or.inr ⟨R, 0, rfl, h.2.2.1, fun i hi => by simpa using h.2.2.2 i hi⟩⟩

set_option maxHeartbeats 1000000 in
theorem eqAccountS_same (a1 a2 : Option Addr) (n m1 m2 : Nat) (F : Nat → Acc) (w : World) (h1 : Fo w a1 n F) (h2 : Fo w a2 n F) :
    Calls Tryz.prog 14 #[.slice a1 n m1, .slice a2 n m2] w fun e w' => e = .returned (.bool true) ∧ Below w.heap.size w w' := by
  have H1 : Hid (Fo w a1 n F) := h1
  have H2 : Hid (Fo w a2 n F) := h2
  have hn := h1.1
  clear h1 h2
  go_enter Tryz.func14, Tryz.ntmps14
  go_wp2
  go_loopw [5] (fun i wr => ∃ k : Nat, k ≤ n ∧ i = .int .i64 k ∧ Hid (Below w.heap.size w wr)) (fun i _ => n - (intOf i).toNat)
  case atStart => exact ⟨0, Nat.zero_le _, rfl, Below.refl _ _⟩
  case round =>
    obtain ⟨k, hk, rfl, hB⟩ := hrel
    by_cases hlt : k < n
    · obtain ⟨b, o, rfl, hb0, hA0⟩ := H1.out.acc hlt
      obtain ⟨b', o', rfl, hb0', hA0'⟩ := H2.out.acc hlt
      have hA := hA0.of_cells (w' := wr) (fun q => hB.out.cell (p := ⟨b, q, none⟩) hb0)
      have hA' := hA0'.of_cells (w' := wr) (fun q => hB.out.cell (p := ⟨b', q, none⟩) hb0')
      have hb : b < wr.heap.size := Nat.lt_of_lt_of_le hb0 hB.out.size
      have hb' : b' < wr.heap.size := Nat.lt_of_lt_of_le hb0' hB.out.size
      obtain ⟨c0, c1, c2, c3, c4, c5, c6, c7⟩ := hA
      obtain ⟨d0, d1, d2, d3, d4, d5, d6, d7⟩ := hA'
      clear hA0 hA0'
      have hov : ∀ v q, (over wr v).cell? ⟨b, q, none⟩ = wr.cell? ⟨b, q, none⟩ := fun v q => (below_over wr v).cell (p := ⟨b, q, none⟩) hb
      have hov' : ∀ v q, (over wr v).cell? ⟨b', q, none⟩ = wr.cell? ⟨b', q, none⟩ := fun v q => (below_over wr v).cell (p := ⟨b', q, none⟩) hb'
      go_wp2
      refine wp_region_over (by kernel_rfl) (by kernel_rfl) ?_
      repeat (go_big_quiet_step ((first | (go_at_call 31; exact Calls.over_of (eqAccount_same (F k) _)))))
      refine wpQuiet_nil ?_
      intro _ hw'
      obtain ⟨vq, hw''⟩ := hw'
      subst hw''
      go_wp2
      go_roundw
      case rel => exact ⟨k + 1, by omega, by go_num, hB.out.trans ((below_over wr vq).mono hB.out.size)⟩
      case measure => simp [intOf]; omega
    · go_wp2
      go_ret
      exact ⟨rfl, hB.out⟩

end Go.Proofs.YtedhlmipcfdldaaGreatDoor
