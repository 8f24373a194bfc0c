/- Lists of ops on files in memory, their copies and comparisons as the exact laws make them. Conditions: at most 1048576 of them. -/
import Derived.Test.YtcalgmhpagpnnaaFma
import Derived.Test.YtcalgmhpagpnnaaRows
import Derived.Deep.Slices
namespace Go.Proofs.Ytcalgmhpagpnnaa
open Go.RowKit
set_option maxRecDepth 8000

theorem toDOp (a : Dp) (w : World) :
    Calls Try.prog 30 #[.agg #[.int .i64 a.kind, .string a.name, .string a.dst, .string a.data]] w fun e w' => e = .returned (.agg #[.int .i64 a.kind, .string a.name, .string a.dst, .string a.data]) ∧ Below w.heap.size w w' := by
  go_enter Try.func30, Try.ntmps30
  go_wp2
  exact bodyPost_ret (v := .agg #[.int .i64 a.kind, .string a.name, .string a.dst, .string a.data]) (by simp [results, Try.results30, go_sem]) rfl ⟨rfl, (((Below.refl _ _).alloc (Nat.le_refl _) _).alloc (by simp) _).alloc (by simp; omega) _⟩

/-- A record in memory. -/
def DpAt (w : World) (b p : Nat) (a : Dp) : Prop :=
  w.cell? ⟨b, p, none⟩ = some (.int .i64 a.kind) ∧ w.cell? ⟨b, p + 1, none⟩ = some (.string a.name) ∧ w.cell? ⟨b, p + 2, none⟩ = some (.string a.dst) ∧ w.cell? ⟨b, p + 3, none⟩ = some (.string a.data)
/-- Records in memory, one behind the other. -/
def Dps (w : World) (a : Option Addr) (n : Nat) (F : Nat → Dp) : Prop :=
  n ≤ 1048576 ∧ (n = 0 ∨ ∃ b o, a = some ⟨b, o, none⟩ ∧ b < w.heap.size ∧ ∀ i, i < n → DpAt w b (o + i * 4) (F i))

theorem DpAt.of_cells {w w' : World} {b p : Nat} {a : Dp} (h : DpAt w b p a) (hc : ∀ o, w'.cell? ⟨b, o, none⟩ = w.cell? ⟨b, o, none⟩) : DpAt w' b p a := by
  unfold DpAt at h ⊢
  simp only [hc]
  exact h
theorem Dps.below {w w' : World} {a : Option Addr} {n : Nat} {F : Nat → Dp} (h : Dps w a n F) (hb : Below w.heap.size w w') : Dps w' a n F := by
  refine ⟨h.1, ?_⟩
  rcases h.2 with h0 | ⟨b, o, ha, hlt, hall⟩
  · exact Or.inl h0
  · exact Or.inr ⟨b, o, ha, Nat.lt_of_lt_of_le hlt hb.size, fun i hi => (hall i hi).of_cells (fun q => hb.cell (p := ⟨b, q, none⟩) hlt)⟩
theorem Dps.drewN {w : World} {a : Option Addr} {n : Nat} {F : Nat → Dp} (h : Dps w a n F) (m : Nat) : Dps (w.drewN m) a n F := h
theorem Dps.alloc {w : World} {a : Option Addr} {n : Nat} {F : Nat → Dp} (h : Dps w a n F) (x : Obj) : Dps (w.alloc x) a n F := h.below ((Below.refl _ _).alloc (Nat.le_refl _) x)
theorem Dps.acc {w : World} {a : Option Addr} {n : Nat} {F : Nat → Dp} (h : Dps w a n F) {i : Nat} (hi : i < n) : ∃ b o, a = some ⟨b, o, none⟩ ∧ b < w.heap.size ∧ DpAt w b (o + i * 4) (F i) := by
  rcases h.2 with h0 | ⟨b, o, ha, hlt, hall⟩
  · omega
  · exact ⟨b, o, ha, hlt, hall i hi⟩

/-- The record a, written. -/
def setDp (w : World) (R p : Nat) (a : Dp) : World :=
  (((w.setCell ⟨R, p, none⟩ (.int .i64 a.kind)).setCell ⟨R, p + 1, none⟩ (.string a.name)).setCell ⟨R, p + 2, none⟩ (.string a.dst)).setCell ⟨R, p + 3, none⟩ (.string a.data)

theorem setDp_out (w : World) (R p : Nat) (a : Dp) (x : Addr) (h : x.block ≠ R ∨ x.off < p ∨ p + 4 ≤ x.off) : (setDp w R p a).cell? x = w.cell? x := by
  have ne : ∀ j, j < 4 → (⟨R, p + j, none⟩ : Addr) ≠ x := by
    intro j hj e
    subst e
    simp at h
    omega
  have ne' : (⟨R, p, none⟩ : Addr) ≠ x := ne 0 (by omega)
  unfold setDp
  rw [World.cell?_setCell_other _ _ _ _ (ne 3 (by omega)), World.cell?_setCell_other _ _ _ _ (ne 2 (by omega)), World.cell?_setCell_other _ _ _ _ (ne 1 (by omega)), World.cell?_setCell_other _ _ _ _ (ne' : (⟨R, p, none⟩ : Addr) ≠ x)]
theorem setDp_frozen (w : World) (R p : Nat) (a : Dp) (x : Addr) : (setDp w R p a).frozen? x = w.frozen? x := by
  unfold setDp; simp
theorem setDp_size (w : World) (R p : Nat) (a : Dp) : (setDp w R p a).heap.size = w.heap.size := by
  unfold setDp; simp [World.setCell]
theorem setDp_at (w : World) (R p : Nat) (a : Dp) (h : ∀ j, j < 4 → (w.cell? ⟨R, p + j, none⟩).isSome = true) : DpAt (setDp w R p a) R p a := by
  have o : ∀ (v : World) (i j : Nat) (u : Value), i ≠ j → (v.setCell ⟨R, i, none⟩ u).cell? ⟨R, j, none⟩ = v.cell? ⟨R, j, none⟩ := fun v i j u hij => World.cell?_setCell_other _ _ _ _ (by intro e; have := congrArg Addr.off e; simp at this; omega)
  have h0 := h 0 (by omega)
  unfold setDp DpAt
  refine ⟨?_, ?_, ?_, ?_⟩
  · rw [o _ (p + 3) p _ (by omega), o _ (p + 2) p _ (by omega), o _ (p + 1) p _ (by omega)]
    exact World.cell?_setCell_same' _ _ _ h0
  · rw [o _ (p + 3) (p + 1) _ (by omega), o _ (p + 2) (p + 1) _ (by omega)]
    exact World.cell?_setCell_same' _ _ _ (by rw [o _ p (p + 1) _ (by omega)]; exact h 1 (by omega))
  · rw [o _ (p + 3) (p + 2) _ (by omega)]
    exact World.cell?_setCell_same' _ _ _ (by rw [o _ (p + 1) (p + 2) _ (by omega), o _ p (p + 2) _ (by omega)]; exact h 2 (by omega))
  · exact World.cell?_setCell_same' _ _ _ (by rw [o _ (p + 2) (p + 3) _ (by omega), o _ (p + 1) (p + 3) _ (by omega), o _ p (p + 3) _ (by omega)]; exact h 3 (by omega))
theorem setDp_below {B : Nat} {v w : World} (hb : Below B v w) (R p : Nat) (a : Dp) (hR : B ≤ R) : Below B v (setDp w R p a) := by
  unfold setDp
  exact (((hb.setCell (p := ⟨R, p, none⟩) hR _).setCell (p := ⟨R, p + 1, none⟩) hR _).setCell (p := ⟨R, p + 2, none⟩) hR _).setCell (p := ⟨R, p + 3, none⟩) hR _

theorem infoDp : (Try.prog.info? 36).map (fun i => (i.zero, i.size, i.bytes)) = some (some (.agg #[.int .i64 0, .string ⟨#[]⟩, .string ⟨#[]⟩, .string ⟨#[]⟩]), 4, 56) := by kernel_rfl
/-- The zero cells of a row of n records. -/
def zerosDp (n : Nat) : Array Value := madeCells #[.int .i64 0, .string ⟨#[]⟩, .string ⟨#[]⟩, .string ⟨#[]⟩] (n * 4)
theorem makeDp (n : Nat) (hn : n ≤ 1048576) (w : World) : (Instr.makeSlice 25 (.int .i64 (n : Int)) (.int .i64 (n : Int))).run Try.prog w = .ok (.slice (some ⟨w.heap.size, 0, none⟩) n n) (w.alloc (.cells (zerosDp n) 36)) := by
  obtain ⟨i, hi, hz0, hz1, hz2⟩ := info_parts infoDp
  have := run_make (P := Try.prog) w 25 36 i _ Try.underlying25 hi hz0 .i64 .i64 (n : Int) (n : Int) (by omega) (Int.le_refl _) (by rw [hz2]; omega) (by omega)
  rw [hz1] at this
  simpa [zerosDp, Value.cells] using this

/-- A row of n records of a call's own, of which the first k are told. -/
def RowDp (w : World) (R n k : Nat) (F : Nat → Dp) : Prop :=
  (∀ o, o < n * 4 → (w.cell? ⟨R, o, none⟩).isSome = true) ∧ (∀ o, w.frozen? ⟨R, o, none⟩ = false) ∧ R < w.heap.size ∧ ∀ i, i < k → DpAt w R (i * 4) (F i)
theorem RowDp.new (w : World) (n : Nat) (F : Nat → Dp) : RowDp (w.alloc (.cells (zerosDp n) 36)) w.heap.size n 0 F := by
  have e : (w.alloc (.cells (zerosDp n) 36)).heap[w.heap.size]? = some (.cells (zerosDp n) 36 (0, 0)) := by
    show (w.heap.push _)[w.heap.size]? = _
    simp
  refine ⟨fun o ho => ?_, fun o => ?_, by simp, fun i hi => absurd hi (Nat.not_lt_zero _)⟩
  · simp only [World.cell?]
    rw [e]
    simp [zerosDp, size_madeCells, ho]
  · simp [go_sem]
theorem RowDp.below {w w' : World} {R n k : Nat} {F : Nat → Dp} (h : RowDp w R n k F) (hb : Below w.heap.size w w') : RowDp w' R n k F := by
  obtain ⟨h1, h2, h3, h4⟩ := h
  refine ⟨fun o ho => by rw [hb.cell (p := ⟨R, o, none⟩) h3]; exact h1 o ho, fun o => by rw [hb.frozen (p := ⟨R, o, none⟩) h3]; exact h2 o, Nat.lt_of_lt_of_le h3 hb.size, fun i hi => (h4 i hi).of_cells (fun q => hb.cell (p := ⟨R, q, none⟩) h3)⟩
theorem DpAt.set_other {w : World} {R p q : Nat} {x a : Dp} (h : DpAt w R q a) (hd : q + 4 ≤ p ∨ p + 4 ≤ q) : DpAt (setDp w R p x) R q a := by
  obtain ⟨h0, h1, h2, h3⟩ := h
  unfold DpAt
  refine ⟨?_, ?_, ?_, ?_⟩
  · rw [setDp_out _ _ _ _ _ (by simp; omega)]; exact h0
  · rw [setDp_out _ _ _ _ _ (by simp; omega)]; exact h1
  · rw [setDp_out _ _ _ _ _ (by simp; omega)]; exact h2
  · rw [setDp_out _ _ _ _ _ (by simp; omega)]; exact h3
theorem setDp_some (w : World) (R p : Nat) (a : Dp) (h : ∀ j, j < 4 → (w.cell? ⟨R, p + j, none⟩).isSome = true) {o : Nat} (ho : (w.cell? ⟨R, o, none⟩).isSome = true) : ((setDp w R p a).cell? ⟨R, o, none⟩).isSome = true := by
  by_cases hd : o < p ∨ p + 4 ≤ o
  · rw [setDp_out _ _ _ _ _ (by simp; omega)]; exact ho
  · obtain ⟨h0, h1, h2, h3⟩ := setDp_at w R p a h
    have : o = p ∨ o = p + 1 ∨ o = p + 2 ∨ o = p + 3 := by omega
    rcases this with e | e | e | e <;> subst e
    · rw [h0]; rfl
    · rw [h1]; rfl
    · rw [h2]; rfl
    · rw [h3]; rfl
theorem RowDp.set {w : World} {R n k : Nat} {F : Nat → Dp} (h : RowDp w R n k F) (hk : k < n) : RowDp (setDp w R (k * 4) (F k)) R n (k + 1) F := by
  obtain ⟨h1, h2, h3, h4⟩ := h
  have hs : ∀ j, j < 4 → (w.cell? ⟨R, k * 4 + j, none⟩).isSome = true := fun j hj => h1 _ (by omega)
  refine ⟨fun o ho => setDp_some w R (k * 4) (F k) hs (h1 o ho), fun o => by rw [setDp_frozen]; exact h2 o, by rw [setDp_size]; exact h3, fun i hi => ?_⟩
  by_cases e : i = k
  · subst e; exact setDp_at w R (i * 4) (F i) hs
  · exact (h4 i (by omega)).set_other (by omega)
theorem RowDp.list {w : World} {R n : Nat} {F : Nat → Dp} (h : RowDp w R n n F) (hn : n ≤ 1048576) : Dps w (some ⟨R, 0, none⟩) n F :=
  ⟨hn, Or.inr ⟨R, 0, rfl, h.2.2.1, fun i hi => by simpa using h.2.2.2 i hi⟩⟩

set_option maxHeartbeats 1000000 in
theorem toSDp (a : Option Addr) (n c : Nat) (F : Nat → Dp) (w : World) (h : Dps w a n F) :
    Calls Try.prog 67 #[.slice a n c] w fun e w' => e = .returned (.slice (some ⟨w.heap.size, 0, none⟩) n n) ∧ RowDp w' w.heap.size n n F ∧ Below w.heap.size w w' := by
  have H : Hid (Dps w a n F) := h
  have hn := h.1
  clear h
  have hmk := makeDp n hn
  have R0 : Hid (RowDp (w.alloc (.cells (zerosDp n) 36)) w.heap.size n 0 F) := RowDp.new w n F
  go_enter Try.func67, Try.ntmps67
  go_wp2
  go_loopw [4] (fun i wr => ∃ k : Nat, k ≤ n ∧ i = .int .i64 k ∧ Hid (RowDp wr w.heap.size n k F) ∧ Hid (Below w.heap.size w wr)) (fun i _ => n - (intOf i).toNat)
  case atStart => exact ⟨0, Nat.zero_le _, rfl, R0, (Below.refl _ _).alloc (Nat.le_refl _) _⟩
  case round =>
    obtain ⟨k, hk, rfl, hR, hB⟩ := hrel
    clear R0 hmk
    by_cases hlt : k < n
    · obtain ⟨b, o, rfl, hb0, hA0⟩ := H.out.acc hlt
      have hA := hA0.of_cells (w' := wr) (fun q => hB.out.cell (p := ⟨b, q, none⟩) hb0)
      obtain ⟨c0, c1, c2, c3⟩ := hA
      clear hA0
      go_wp2_with fail
      refine (toDOp (F k) _).mono ?_
      rintro e w1 ⟨rfl, B1⟩
      have R1 : Hid (RowDp w1 w.heap.size n k F) := hR.out.below B1
      have B1' : Hid (Below w.heap.size w w1) := hB.out.trans (B1.mono hB.out.size)
      obtain ⟨s1, s2, s3, s4⟩ := R1.out
      obtain ⟨v0, e0⟩ := Option.isSome_iff_exists.1 (s1 (k * 4) (by omega))
      obtain ⟨v1, e1⟩ := Option.isSome_iff_exists.1 (s1 (k * 4 + 1) (by omega))
      obtain ⟨v2, e2⟩ := Option.isSome_iff_exists.1 (s1 (k * 4 + 2) (by omega))
      obtain ⟨v3, e3⟩ := Option.isSome_iff_exists.1 (s1 (k * 4 + 3) (by omega))
      clear s1 s4 B1 c0 c1 c2 c3
      go_wp2
      go_roundw
      case rel => exact ⟨k + 1, by omega, by go_num, R1.out.set hlt, setDp_below B1'.out w.heap.size (k * 4) (F k) (Nat.le_refl _)⟩
      case measure => simp [intOf]; omega
    · have hkn : k = n := by omega
      subst hkn
      go_wp2
      go_ret
      exact ⟨rfl, hR.out, hB.out⟩

theorem eqDp_same (a : Dp) (w : World) :
    Calls Try.prog 89 #[.agg #[.int .i64 a.kind, .string a.name, .string a.dst, .string a.data], .agg #[.int .i64 a.kind, .string a.name, .string a.dst, .string a.data]] w fun e w' => e = .returned (.bool true) ∧ Below w.heap.size w w' := by
  go_enter Try.func89, Try.ntmps89
  go_wp2
  go_ret
  exact ⟨rfl, ((Below.refl _ _).alloc (Nat.le_refl _) _).alloc (by simp) _⟩

set_option maxHeartbeats 1000000 in
theorem eqSDp_same (a1 a2 : Option Addr) (n m1 m2 : Nat) (F : Nat → Dp) (w : World) (h1 : Dps w a1 n F) (h2 : Dps w a2 n F) :
    Calls Try.prog 69 #[.slice a1 n m1, .slice a2 n m2] w fun e w' => e = .returned (.bool true) ∧ Below w.heap.size w w' := by
  have H1 : Hid (Dps w a1 n F) := h1
  have H2 : Hid (Dps w a2 n F) := h2
  have hn := h1.1
  clear h1 h2
  go_enter Try.func69, Try.ntmps69
  go_wp2
  go_loopw [5] (fun i wr => ∃ k : Nat, k ≤ n ∧ i = .int .i64 k ∧ Hid (Below w.heap.size w wr)) (fun i _ => n - (intOf i).toNat)
  case atStart => exact ⟨0, Nat.zero_le _, rfl, Below.refl _ _⟩
  case round =>
    obtain ⟨k, hk, rfl, hB⟩ := hrel
    by_cases hlt : k < n
    · obtain ⟨b, o, rfl, hb0, hA0⟩ := H1.out.acc hlt
      obtain ⟨b', o', rfl, hb0', hA0'⟩ := H2.out.acc hlt
      have hA := hA0.of_cells (w' := wr) (fun q => hB.out.cell (p := ⟨b, q, none⟩) hb0)
      have hA' := hA0'.of_cells (w' := wr) (fun q => hB.out.cell (p := ⟨b', q, none⟩) hb0')
      have hb : b < wr.heap.size := Nat.lt_of_lt_of_le hb0 hB.out.size
      have hb' : b' < wr.heap.size := Nat.lt_of_lt_of_le hb0' hB.out.size
      obtain ⟨c0, c1, c2, c3⟩ := hA
      obtain ⟨d0, d1, d2, d3⟩ := hA'
      clear hA0 hA0'
      have hov : ∀ v q, (over wr v).cell? ⟨b, q, none⟩ = wr.cell? ⟨b, q, none⟩ := fun v q => (below_over wr v).cell (p := ⟨b, q, none⟩) hb
      have hov' : ∀ v q, (over wr v).cell? ⟨b', q, none⟩ = wr.cell? ⟨b', q, none⟩ := fun v q => (below_over wr v).cell (p := ⟨b', q, none⟩) hb'
      go_wp2
      refine wp_region_over (by kernel_rfl) (by kernel_rfl) ?_
      repeat (go_big_quiet_step ((first | (go_at_call 89; exact Calls.over_of (eqDp_same (F k) _)))))
      refine wpQuiet_nil ?_
      intro _ hw'
      obtain ⟨vq, hw''⟩ := hw'
      subst hw''
      go_wp2
      go_roundw
      case rel => exact ⟨k + 1, by omega, by go_num, hB.out.trans ((below_over wr vq).mono hB.out.size)⟩
      case measure => simp [intOf]; omega
    · go_wp2
      go_ret
      exact ⟨rfl, hB.out⟩

/-- The cells of a record. -/
def DpC (a : Dp) : List Value := [.int .i64 a.kind, .string a.name, .string a.dst, .string a.data]
/-- Records in memory of a call's own. -/
def DpL (w : World) (B : Nat) (v : Value) (l : List Dp) : Prop := w.ownsRow B 36 4 v l.length (l.flatMap DpC)
theorem flatDp_len (l : List Dp) : (l.flatMap DpC).length = l.length * 4 := by
  induction l with
  | nil => rfl
  | cons a l ih => simp only [List.flatMap_cons, List.length_append, ih, List.length_cons, DpC, List.length_nil]; omega
theorem flatDp_get (l : List Dp) : ∀ (i j : Nat) (hi : i < l.length) (_ : j < 4), (l.flatMap DpC)[i * 4 + j]? = (DpC l[i])[j]? := by
  induction l with
  | nil => intro i j hi; simp at hi
  | cons a l ih =>
    intro i j hi hj
    rw [List.flatMap_cons]
    cases i with
    | zero =>
      rw [List.getElem?_append_left (by simp [DpC]; omega)]
      simp
    | succ i =>
      have hl : (DpC a).length = 4 := rfl
      rw [List.getElem?_append_right (by rw [hl]; omega), hl]
      have e : (i + 1) * 4 + j - 4 = i * 4 + j := by omega
      rw [e, ih i j (by simpa using hi) hj]
      simp
theorem DpL.kept {w w' : World} {B : Nat} {v : Value} {l : List Dp} (h : DpL w B v l) (hb : Below w.heap.size w w') : DpL w' B v l :=
  World.ownsRow.kept (row := none) h ⟨hb.os, hb.tape, hb.output, hb.size, fun k hk _ => hb.block k hk⟩ (by cases hv : v.ownBlock <;> simp)
theorem DpL.shape {w : World} {B : Nat} {v : Value} {l : List Dp} (h : DpL w B v l) :
    ∃ a cap, v = .slice a l.length cap ∧ (∀ g, v.ownBlock = some g → B ≤ g ∧ g < w.heap.size) ∧
      ∀ i (hi : i < l.length), ∃ g, a = some ⟨g, 0, none⟩ ∧ B ≤ g ∧ g < w.heap.size ∧ DpAt w g (i * 4) l[i] := by
  have hlt := World.ownsRow.lt h
  rcases h.2 with ⟨hv, hn⟩ | ⟨g, cap, cur, hv, hg, r⟩
  · refine ⟨none, 0, by rw [hv, hn], fun g hg => hlt g hg, fun i hi => ?_⟩
    omega
  · refine ⟨some ⟨g, 0, none⟩, cap, hv, fun g hg => hlt g hg, fun i hi => ?_⟩
    have ho : v.ownBlock = some g := by rw [hv]; rfl
    have hs : w.ownsRow B 36 4 (.slice (some ⟨g, 0, none⟩) l.length cap) l.length (l.flatMap DpC) := by rw [← hv]; exact h
    have hc : ∀ j, j < 4 → w.cell? ⟨g, i * 4 + j, none⟩ = (DpC l[i])[j]? := fun j hj => by
      rw [World.ownsRow.cellAt hs (i * 4 + j) (by omega), flatDp_get l i j hi hj]
    exact ⟨g, rfl, hg, (hlt g ho).2, hc 0 (by omega), hc 1 (by omega), hc 2 (by omega), hc 3 (by omega)⟩
theorem DpL.mono {w : World} {B B' : Nat} {v : Value} {l : List Dp} (h : DpL w B v l) (hB : B' ≤ B) : DpL w B' v l :=
  ⟨h.1, h.2.elim Or.inl (fun ⟨g, cap, cur, hv, hg, r⟩ => Or.inr ⟨g, cap, cur, hv, Nat.le_trans hB hg, r⟩)⟩
theorem DpL.nil (w : World) (B : Nat) : DpL w B (.slice none 0 0) [] := World.ownsRow_nil w B 36 4
theorem DpL.empty (w : World) (B : Nat) (hB : B ≤ w.heap.size) : DpL (w.alloc (.cells #[] 36)) B (.slice (some ⟨w.heap.size, 0, none⟩) 0 0) [] := World.ownsRow_lit w #[] 0 hB (Nat.zero_le _) (by simp)
/-- A list as places. -/
def DpF (L : List Dp) : Nat → Dp := fun j => L.getD j ⟨0, ⟨#[]⟩, ⟨#[]⟩, ⟨#[]⟩⟩
theorem DpF_lt {L : List Dp} {j : Nat} (h : j < L.length) : DpF L j = L[j] := by simp [DpF, List.getD, List.getElem?_eq_getElem h]
theorem DpF_set_at {L : List Dp} {p : Nat} (x : Dp) (h : p < L.length) : DpF (L.set p x) p = x := by
  rw [DpF_lt (by simpa using h)]; simp
theorem DpF_set_ne {L : List Dp} {p j : Nat} (x : Dp) (h : j ≠ p) : DpF (L.set p x) j = DpF L j := by
  simp only [DpF, List.getD]
  rw [List.getElem?_set_ne (by omega)]
theorem DpL.list {w : World} {B : Nat} {a : Option Addr} {c m : Nat} {L : List Dp} (h : DpL w B (.slice a m c) L) (hl : L.length ≤ 1048576) : m = L.length ∧ Dps w a m (DpF L) := by
  obtain ⟨a', c', hv, _, hs⟩ := h.shape
  obtain ⟨rfl, rfl, rfl⟩ : a = a' ∧ m = L.length ∧ c = c' := by simpa using hv
  refine ⟨rfl, hl, ?_⟩
  by_cases h0 : L.length = 0
  · exact Or.inl h0
  · obtain ⟨g, ea, _, hg, _⟩ := hs 0 (by omega)
    refine Or.inr ⟨g, 0, ea, hg, fun i hi => ?_⟩
    obtain ⟨g', ea', _, _, hA⟩ := hs i hi
    rw [ea] at ea'
    have : g = g' := by simpa using ea'
    subst this
    rw [DpF_lt hi]
    simpa using hA
/-- One cell of one record is written. -/
theorem flatDp_set : ∀ (L : List Dp) (p j : Nat) (u : Value) (A : Dp), p < L.length → j < 4 → (DpC (DpF L p)).set j u = DpC A → (L.flatMap DpC).set (p * 4 + j) u = (L.set p A).flatMap DpC
  | [], p, j, u, A, hp, _, _ => by simp at hp
  | x :: L, 0, j, u, A, _, hj, h => by
    have hl : (DpC x).length = 4 := rfl
    have h' : (DpC x).set j u = DpC A := h
    simp only [List.flatMap_cons, List.set_cons_zero, Nat.zero_mul, Nat.zero_add]
    rw [List.set_append_left _ _ (by rw [hl]; omega), h']
  | x :: L, p + 1, j, u, A, hp, hj, h => by
    have hl : (DpC x).length = 4 := rfl
    have ih := flatDp_set L p j u A (by simpa using hp) hj (by simpa [DpF, List.getD] using h)
    simp only [List.flatMap_cons, List.set_cons_succ]
    rw [List.set_append_right _ _ (by rw [hl]; omega), hl]
    have e : (p + 1) * 4 + j - 4 = p * 4 + j := by omega
    rw [e, ih]
theorem DpL.stored1 {w : World} {B g cap : Nat} {L : List Dp} (h : DpL w B (.slice (some ⟨g, 0, none⟩) L.length cap) L) {p : Nat} (hp : p < L.length) (j : Nat) (hj : j < 4) (u : Value) (A : Dp) (hA : (DpC (DpF L p)).set j u = DpC A) :
    DpL (w.setCell ⟨g, p * 4 + j, none⟩ u) B (.slice (some ⟨g, 0, none⟩) (L.set p A).length cap) (L.set p A) := by
  obtain ⟨h1, _⟩ := World.ownsRow.stored h (p * 4 + j) u
  unfold DpL
  rw [← flatDp_set L p j u A hp hj hA, List.length_set]
  exact h1
theorem DpL.stored {w : World} {B g cap : Nat} {L : List Dp} (h : DpL w B (.slice (some ⟨g, 0, none⟩) L.length cap) L) {p : Nat} (hp : p < L.length) (A : Dp) :
    DpL (setDp w g (p * 4) A) B (.slice (some ⟨g, 0, none⟩) L.length cap) (L.set p A) := by
  have s0 := h.stored1 hp 0 (by omega) (.int .i64 A.kind) { DpF L p with kind := A.kind } rfl
  have s1 := s0.stored1 (p := p) (by simpa using hp) 1 (by omega) (.string A.name) { DpF L p with kind := A.kind, name := A.name } (by rw [DpF_set_at _ hp]; rfl)
  simp only [List.set_set] at s1
  have s2 := s1.stored1 (p := p) (by simpa using hp) 2 (by omega) (.string A.dst) { DpF L p with kind := A.kind, name := A.name, dst := A.dst } (by rw [DpF_set_at _ hp]; rfl)
  simp only [List.set_set] at s2
  have s3 := s2.stored1 (p := p) (by simpa using hp) 3 (by omega) (.string A.data) A (by rw [DpF_set_at _ hp]; rfl)
  simp only [List.set_set, List.length_set, Nat.add_zero] at s3
  exact s3
theorem grown_transDp {a b c : World} {row : Option Nat} (h : a.grownBy b row) (k : b.grownBy c row) : a.grownBy c row :=
  ⟨k.os.trans h.os, k.tape.trans h.tape, k.output.trans h.output, Nat.le_trans h.size k.size, fun i hi hn => (k.block i (Nat.lt_of_lt_of_le hi h.size) hn).trans (h.block i hi hn)⟩
theorem grown_set1Dp (w : World) (R o : Nat) (u : Value) : w.grownBy (w.setCell ⟨R, o, none⟩ u) (some R) :=
  ⟨rfl, rfl, rfl, by simp [World.setCell], fun k _ hn => Below.heap_setCell _ _ _ _ (fun e => hn (by rw [e]))⟩
theorem grown_setDp (w : World) (R p : Nat) (A : Dp) : w.grownBy (setDp w R p A) (some R) := by
  unfold setDp
  exact grown_transDp (grown_transDp (grown_transDp (grown_set1Dp w R p _) (grown_set1Dp _ R (p + 1) _)) (grown_set1Dp _ R (p + 2) _)) (grown_set1Dp _ R (p + 3) _)
end Go.Proofs.Ytcalgmhpagpnnaa
