/- Lists of files in memory, their copies and comparisons as the exact laws make them. Conditions: at most 1048576 of them. -/
import Derived.Test.YtcalgmhpagpnnaaFma
import Derived.Test.YtcalgmhpagpnnaaRows
import Derived.Deep.Slices
namespace Go.Proofs.Ytcalgmhpagpnnaa
open Go.RowKit
set_option maxRecDepth 8000

theorem toFile (a : Fl) (w : World) :
    Calls Try.prog 87 #[.agg #[.string a.name, .string a.data]] w fun e w' => e = .returned (.agg #[.string a.name, .string a.data]) ∧ Below w.heap.size w w' := by
  go_enter Try.func87, Try.ntmps87
  go_wp2
  exact bodyPost_ret (v := .agg #[.string a.name, .string a.data]) (by simp [results, Try.results87, go_sem]) rfl ⟨rfl, (((Below.refl _ _).alloc (Nat.le_refl _) _).alloc (by simp) _).alloc (by simp; omega) _⟩

/-- A record in memory. -/
def FlAt (w : World) (b p : Nat) (a : Fl) : Prop :=
  w.cell? ⟨b, p, none⟩ = some (.string a.name) ∧ w.cell? ⟨b, p + 1, none⟩ = some (.string a.data)
/-- Records in memory, one behind the other. -/
def Fls (w : World) (a : Option Addr) (n : Nat) (F : Nat → Fl) : Prop :=
  n ≤ 1048576 ∧ (n = 0 ∨ ∃ b o, a = some ⟨b, o, none⟩ ∧ b < w.heap.size ∧ ∀ i, i < n → FlAt w b (o + i * 2) (F i))

theorem FlAt.of_cells {w w' : World} {b p : Nat} {a : Fl} (h : FlAt w b p a) (hc : ∀ o, w'.cell? ⟨b, o, none⟩ = w.cell? ⟨b, o, none⟩) : FlAt w' b p a := by
  unfold FlAt at h ⊢
  simp only [hc]
  exact h
theorem Fls.below {w w' : World} {a : Option Addr} {n : Nat} {F : Nat → Fl} (h : Fls w a n F) (hb : Below w.heap.size w w') : Fls w' a n F := by
  refine ⟨h.1, ?_⟩
  rcases h.2 with h0 | ⟨b, o, ha, hlt, hall⟩
  · exact Or.inl h0
  · exact Or.inr ⟨b, o, ha, Nat.lt_of_lt_of_le hlt hb.size, fun i hi => (hall i hi).of_cells (fun q => hb.cell (p := ⟨b, q, none⟩) hlt)⟩
theorem Fls.drewN {w : World} {a : Option Addr} {n : Nat} {F : Nat → Fl} (h : Fls w a n F) (m : Nat) : Fls (w.drewN m) a n F := h
theorem Fls.alloc {w : World} {a : Option Addr} {n : Nat} {F : Nat → Fl} (h : Fls w a n F) (x : Obj) : Fls (w.alloc x) a n F := h.below ((Below.refl _ _).alloc (Nat.le_refl _) x)
theorem Fls.acc {w : World} {a : Option Addr} {n : Nat} {F : Nat → Fl} (h : Fls w a n F) {i : Nat} (hi : i < n) : ∃ b o, a = some ⟨b, o, none⟩ ∧ b < w.heap.size ∧ FlAt w b (o + i * 2) (F i) := by
  rcases h.2 with h0 | ⟨b, o, ha, hlt, hall⟩
  · omega
  · exact ⟨b, o, ha, hlt, hall i hi⟩

/-- The record a, written. -/
def setFl (w : World) (R p : Nat) (a : Fl) : World :=
  (w.setCell ⟨R, p, none⟩ (.string a.name)).setCell ⟨R, p + 1, none⟩ (.string a.data)

theorem setFl_out (w : World) (R p : Nat) (a : Fl) (x : Addr) (h : x.block ≠ R ∨ x.off < p ∨ p + 2 ≤ x.off) : (setFl w R p a).cell? x = w.cell? x := by
  have ne : ∀ j, j < 2 → (⟨R, p + j, none⟩ : Addr) ≠ x := by
    intro j hj e
    subst e
    simp at h
    omega
  have ne' : (⟨R, p, none⟩ : Addr) ≠ x := ne 0 (by omega)
  unfold setFl
  rw [World.cell?_setCell_other _ _ _ _ (ne 1 (by omega)), World.cell?_setCell_other _ _ _ _ (ne' : (⟨R, p, none⟩ : Addr) ≠ x)]
theorem setFl_frozen (w : World) (R p : Nat) (a : Fl) (x : Addr) : (setFl w R p a).frozen? x = w.frozen? x := by
  unfold setFl; simp
theorem setFl_size (w : World) (R p : Nat) (a : Fl) : (setFl w R p a).heap.size = w.heap.size := by
  unfold setFl; simp [World.setCell]
theorem setFl_at (w : World) (R p : Nat) (a : Fl) (h : ∀ j, j < 2 → (w.cell? ⟨R, p + j, none⟩).isSome = true) : FlAt (setFl w R p a) R p a := by
  have o : ∀ (v : World) (i j : Nat) (u : Value), i ≠ j → (v.setCell ⟨R, i, none⟩ u).cell? ⟨R, j, none⟩ = v.cell? ⟨R, j, none⟩ := fun v i j u hij => World.cell?_setCell_other _ _ _ _ (by intro e; have := congrArg Addr.off e; simp at this; omega)
  have h0 := h 0 (by omega)
  unfold setFl FlAt
  refine ⟨?_, ?_⟩
  · rw [o _ (p + 1) p _ (by omega)]
    exact World.cell?_setCell_same' _ _ _ h0
  · exact World.cell?_setCell_same' _ _ _ (by rw [o _ p (p + 1) _ (by omega)]; exact h 1 (by omega))
theorem setFl_below {B : Nat} {v w : World} (hb : Below B v w) (R p : Nat) (a : Fl) (hR : B ≤ R) : Below B v (setFl w R p a) := by
  unfold setFl
  exact (hb.setCell (p := ⟨R, p, none⟩) hR _).setCell (p := ⟨R, p + 1, none⟩) hR _

theorem infoFl : (Try.prog.info? 75).map (fun i => (i.zero, i.size, i.bytes)) = some (some (.agg #[.string ⟨#[]⟩, .string ⟨#[]⟩]), 2, 32) := by kernel_rfl
/-- The zero cells of a row of n records. -/
def zerosFl (n : Nat) : Array Value := madeCells #[.string ⟨#[]⟩, .string ⟨#[]⟩] (n * 2)
theorem makeFl (n : Nat) (hn : n ≤ 1048576) (w : World) : (Instr.makeSlice 24 (.int .i64 (n : Int)) (.int .i64 (n : Int))).run Try.prog w = .ok (.slice (some ⟨w.heap.size, 0, none⟩) n n) (w.alloc (.cells (zerosFl n) 75)) := by
  obtain ⟨i, hi, hz0, hz1, hz2⟩ := info_parts infoFl
  have := run_make (P := Try.prog) w 24 75 i _ Try.underlying24 hi hz0 .i64 .i64 (n : Int) (n : Int) (by omega) (Int.le_refl _) (by rw [hz2]; omega) (by omega)
  rw [hz1] at this
  simpa [zerosFl, Value.cells] using this

/-- A row of n records of a call's own, of which the first k are told. -/
def RowFl (w : World) (R n k : Nat) (F : Nat → Fl) : Prop :=
  (∀ o, o < n * 2 → (w.cell? ⟨R, o, none⟩).isSome = true) ∧ (∀ o, w.frozen? ⟨R, o, none⟩ = false) ∧ R < w.heap.size ∧ ∀ i, i < k → FlAt w R (i * 2) (F i)
theorem RowFl.new (w : World) (n : Nat) (F : Nat → Fl) : RowFl (w.alloc (.cells (zerosFl n) 75)) w.heap.size n 0 F := by
  have e : (w.alloc (.cells (zerosFl n) 75)).heap[w.heap.size]? = some (.cells (zerosFl n) 75 (0, 0)) := by
    show (w.heap.push _)[w.heap.size]? = _
    simp
  refine ⟨fun o ho => ?_, fun o => ?_, by simp, fun i hi => absurd hi (Nat.not_lt_zero _)⟩
  · simp only [World.cell?]
    rw [e]
    simp [zerosFl, size_madeCells, ho]
  · simp [go_sem]
theorem RowFl.below {w w' : World} {R n k : Nat} {F : Nat → Fl} (h : RowFl w R n k F) (hb : Below w.heap.size w w') : RowFl w' R n k F := by
  obtain ⟨h1, h2, h3, h4⟩ := h
  refine ⟨fun o ho => by rw [hb.cell (p := ⟨R, o, none⟩) h3]; exact h1 o ho, fun o => by rw [hb.frozen (p := ⟨R, o, none⟩) h3]; exact h2 o, Nat.lt_of_lt_of_le h3 hb.size, fun i hi => (h4 i hi).of_cells (fun q => hb.cell (p := ⟨R, q, none⟩) h3)⟩
theorem FlAt.set_other {w : World} {R p q : Nat} {x a : Fl} (h : FlAt w R q a) (hd : q + 2 ≤ p ∨ p + 2 ≤ q) : FlAt (setFl w R p x) R q a := by
  obtain ⟨h0, h1⟩ := h
  unfold FlAt
  refine ⟨?_, ?_⟩
  · rw [setFl_out _ _ _ _ _ (by simp; omega)]; exact h0
  · rw [setFl_out _ _ _ _ _ (by simp; omega)]; exact h1
theorem setFl_some (w : World) (R p : Nat) (a : Fl) (h : ∀ j, j < 2 → (w.cell? ⟨R, p + j, none⟩).isSome = true) {o : Nat} (ho : (w.cell? ⟨R, o, none⟩).isSome = true) : ((setFl w R p a).cell? ⟨R, o, none⟩).isSome = true := by
  by_cases hd : o < p ∨ p + 2 ≤ o
  · rw [setFl_out _ _ _ _ _ (by simp; omega)]; exact ho
  · obtain ⟨h0, h1⟩ := setFl_at w R p a h
    have : o = p ∨ o = p + 1 := by omega
    rcases this with e | e <;> subst e
    · rw [h0]; rfl
    · rw [h1]; rfl
theorem RowFl.set {w : World} {R n k : Nat} {F : Nat → Fl} (h : RowFl w R n k F) (hk : k < n) : RowFl (setFl w R (k * 2) (F k)) R n (k + 1) F := by
  obtain ⟨h1, h2, h3, h4⟩ := h
  have hs : ∀ j, j < 2 → (w.cell? ⟨R, k * 2 + j, none⟩).isSome = true := fun j hj => h1 _ (by omega)
  refine ⟨fun o ho => setFl_some w R (k * 2) (F k) hs (h1 o ho), fun o => by rw [setFl_frozen]; exact h2 o, by rw [setFl_size]; exact h3, fun i hi => ?_⟩
  by_cases e : i = k
  · subst e; exact setFl_at w R (i * 2) (F i) hs
  · exact (h4 i (by omega)).set_other (by omega)
theorem RowFl.list {w : World} {R n : Nat} {F : Nat → Fl} (h : RowFl w R n n F) (hn : n ≤ 1048576) : Fls w (some ⟨R, 0, none⟩) n F :=
  ⟨hn, Or.inr ⟨R, 0, rfl, h.2.2.1, fun i hi => by simpa using h.2.2.2 i hi⟩⟩

set_option maxHeartbeats 1000000 in
theorem toSFl (a : Option Addr) (n c : Nat) (F : Nat → Fl) (w : World) (h : Fls w a n F) :
    Calls Try.prog 66 #[.slice a n c] w fun e w' => e = .returned (.slice (some ⟨w.heap.size, 0, none⟩) n n) ∧ RowFl w' w.heap.size n n F ∧ Below w.heap.size w w' := by
  have H : Hid (Fls w a n F) := h
  have hn := h.1
  clear h
  have hmk := makeFl n hn
  have R0 : Hid (RowFl (w.alloc (.cells (zerosFl n) 75)) w.heap.size n 0 F) := RowFl.new w n F
  go_enter Try.func66, Try.ntmps66
  go_wp2
  go_loopw [4] (fun i wr => ∃ k : Nat, k ≤ n ∧ i = .int .i64 k ∧ Hid (RowFl wr w.heap.size n k F) ∧ Hid (Below w.heap.size w wr)) (fun i _ => n - (intOf i).toNat)
  case atStart => exact ⟨0, Nat.zero_le _, rfl, R0, (Below.refl _ _).alloc (Nat.le_refl _) _⟩
  case round =>
    obtain ⟨k, hk, rfl, hR, hB⟩ := hrel
    clear R0 hmk
    by_cases hlt : k < n
    · obtain ⟨b, o, rfl, hb0, hA0⟩ := H.out.acc hlt
      have hA := hA0.of_cells (w' := wr) (fun q => hB.out.cell (p := ⟨b, q, none⟩) hb0)
      obtain ⟨c0, c1⟩ := hA
      clear hA0
      go_wp2_with fail
      refine (toFile (F k) _).mono ?_
      rintro e w1 ⟨rfl, B1⟩
      have R1 : Hid (RowFl w1 w.heap.size n k F) := hR.out.below B1
      have B1' : Hid (Below w.heap.size w w1) := hB.out.trans (B1.mono hB.out.size)
      obtain ⟨s1, s2, s3, s4⟩ := R1.out
      obtain ⟨v0, e0⟩ := Option.isSome_iff_exists.1 (s1 (k * 2) (by omega))
      obtain ⟨v1, e1⟩ := Option.isSome_iff_exists.1 (s1 (k * 2 + 1) (by omega))
      clear s1 s4 B1 c0 c1
      go_wp2
      go_roundw
      case rel => exact ⟨k + 1, by omega, by go_num, R1.out.set hlt, setFl_below B1'.out w.heap.size (k * 2) (F k) (Nat.le_refl _)⟩
      case measure => simp [intOf]; omega
    · have hkn : k = n := by omega
      subst hkn
      go_wp2
      go_ret
      exact ⟨rfl, hR.out, hB.out⟩

theorem eqFl_same (a : Fl) (w : World) :
    Calls Try.prog 88 #[.agg #[.string a.name, .string a.data], .agg #[.string a.name, .string a.data]] w fun e w' => e = .returned (.bool true) ∧ Below w.heap.size w w' := by
  go_enter Try.func88, Try.ntmps88
  go_wp2
  go_ret
  exact ⟨rfl, ((Below.refl _ _).alloc (Nat.le_refl _) _).alloc (by simp) _⟩

set_option maxHeartbeats 1000000 in
theorem eqSFl_same (a1 a2 : Option Addr) (n m1 m2 : Nat) (F : Nat → Fl) (w : World) (h1 : Fls w a1 n F) (h2 : Fls w a2 n F) :
    Calls Try.prog 68 #[.slice a1 n m1, .slice a2 n m2] w fun e w' => e = .returned (.bool true) ∧ Below w.heap.size w w' := by
  have H1 : Hid (Fls w a1 n F) := h1
  have H2 : Hid (Fls w a2 n F) := h2
  have hn := h1.1
  clear h1 h2
  go_enter Try.func68, Try.ntmps68
  go_wp2
  go_loopw [5] (fun i wr => ∃ k : Nat, k ≤ n ∧ i = .int .i64 k ∧ Hid (Below w.heap.size w wr)) (fun i _ => n - (intOf i).toNat)
  case atStart => exact ⟨0, Nat.zero_le _, rfl, Below.refl _ _⟩
  case round =>
    obtain ⟨k, hk, rfl, hB⟩ := hrel
    by_cases hlt : k < n
    · obtain ⟨b, o, rfl, hb0, hA0⟩ := H1.out.acc hlt
      obtain ⟨b', o', rfl, hb0', hA0'⟩ := H2.out.acc hlt
      have hA := hA0.of_cells (w' := wr) (fun q => hB.out.cell (p := ⟨b, q, none⟩) hb0)
      have hA' := hA0'.of_cells (w' := wr) (fun q => hB.out.cell (p := ⟨b', q, none⟩) hb0')
      have hb : b < wr.heap.size := Nat.lt_of_lt_of_le hb0 hB.out.size
      have hb' : b' < wr.heap.size := Nat.lt_of_lt_of_le hb0' hB.out.size
      obtain ⟨c0, c1⟩ := hA
      obtain ⟨d0, d1⟩ := hA'
      clear hA0 hA0'
      have hov : ∀ v q, (over wr v).cell? ⟨b, q, none⟩ = wr.cell? ⟨b, q, none⟩ := fun v q => (below_over wr v).cell (p := ⟨b, q, none⟩) hb
      have hov' : ∀ v q, (over wr v).cell? ⟨b', q, none⟩ = wr.cell? ⟨b', q, none⟩ := fun v q => (below_over wr v).cell (p := ⟨b', q, none⟩) hb'
      go_wp2
      refine wp_region_over (by kernel_rfl) (by kernel_rfl) ?_
      repeat (go_big_quiet_step ((first | (go_at_call 88; exact Calls.over_of (eqFl_same (F k) _)))))
      refine wpQuiet_nil ?_
      intro _ hw'
      obtain ⟨vq, hw''⟩ := hw'
      subst hw''
      go_wp2
      go_roundw
      case rel => exact ⟨k + 1, by omega, by go_num, hB.out.trans ((below_over wr vq).mono hB.out.size)⟩
      case measure => simp [intOf]; omega
    · go_wp2
      go_ret
      exact ⟨rfl, hB.out⟩

/-- The cells of a record. -/
def FlC (a : Fl) : List Value := [.string a.name, .string a.data]
/-- Records in memory of a call's own. -/
def FlL (w : World) (B : Nat) (v : Value) (l : List Fl) : Prop := w.ownsRow B 75 2 v l.length (l.flatMap FlC)
theorem flatFl_len (l : List Fl) : (l.flatMap FlC).length = l.length * 2 := by
  induction l with
  | nil => rfl
  | cons a l ih => simp only [List.flatMap_cons, List.length_append, ih, List.length_cons, FlC, List.length_nil]; omega
theorem flatFl_get (l : List Fl) : ∀ (i j : Nat) (hi : i < l.length) (_ : j < 2), (l.flatMap FlC)[i * 2 + j]? = (FlC l[i])[j]? := by
  induction l with
  | nil => intro i j hi; simp at hi
  | cons a l ih =>
    intro i j hi hj
    rw [List.flatMap_cons]
    cases i with
    | zero =>
      rw [List.getElem?_append_left (by simp [FlC]; omega)]
      simp
    | succ i =>
      have hl : (FlC a).length = 2 := rfl
      rw [List.getElem?_append_right (by rw [hl]; omega), hl]
      have e : (i + 1) * 2 + j - 2 = i * 2 + j := by omega
      rw [e, ih i j (by simpa using hi) hj]
      simp
theorem FlL.kept {w w' : World} {B : Nat} {v : Value} {l : List Fl} (h : FlL w B v l) (hb : Below w.heap.size w w') : FlL w' B v l :=
  World.ownsRow.kept (row := none) h ⟨hb.os, hb.tape, hb.output, hb.size, fun k hk _ => hb.block k hk⟩ (by cases hv : v.ownBlock <;> simp)
theorem FlL.shape {w : World} {B : Nat} {v : Value} {l : List Fl} (h : FlL w B v l) :
    ∃ a cap, v = .slice a l.length cap ∧ (∀ g, v.ownBlock = some g → B ≤ g ∧ g < w.heap.size) ∧
      ∀ i (hi : i < l.length), ∃ g, a = some ⟨g, 0, none⟩ ∧ B ≤ g ∧ g < w.heap.size ∧ FlAt w g (i * 2) l[i] := by
  have hlt := World.ownsRow.lt h
  rcases h.2 with ⟨hv, hn⟩ | ⟨g, cap, cur, hv, hg, r⟩
  · refine ⟨none, 0, by rw [hv, hn], fun g hg => hlt g hg, fun i hi => ?_⟩
    omega
  · refine ⟨some ⟨g, 0, none⟩, cap, hv, fun g hg => hlt g hg, fun i hi => ?_⟩
    have ho : v.ownBlock = some g := by rw [hv]; rfl
    have hs : w.ownsRow B 75 2 (.slice (some ⟨g, 0, none⟩) l.length cap) l.length (l.flatMap FlC) := by rw [← hv]; exact h
    have hc : ∀ j, j < 2 → w.cell? ⟨g, i * 2 + j, none⟩ = (FlC l[i])[j]? := fun j hj => by
      rw [World.ownsRow.cellAt hs (i * 2 + j) (by omega), flatFl_get l i j hi hj]
    exact ⟨g, rfl, hg, (hlt g ho).2, hc 0 (by omega), hc 1 (by omega)⟩
theorem FlL.mono {w : World} {B B' : Nat} {v : Value} {l : List Fl} (h : FlL w B v l) (hB : B' ≤ B) : FlL w B' v l :=
  ⟨h.1, h.2.elim Or.inl (fun ⟨g, cap, cur, hv, hg, r⟩ => Or.inr ⟨g, cap, cur, hv, Nat.le_trans hB hg, r⟩)⟩
theorem FlL.nil (w : World) (B : Nat) : FlL w B (.slice none 0 0) [] := World.ownsRow_nil w B 75 2
theorem FlL.empty (w : World) (B : Nat) (hB : B ≤ w.heap.size) : FlL (w.alloc (.cells #[] 75)) B (.slice (some ⟨w.heap.size, 0, none⟩) 0 0) [] := World.ownsRow_lit w #[] 0 hB (Nat.zero_le _) (by simp)
/-- A list as places. -/
def FlF (L : List Fl) : Nat → Fl := fun j => L.getD j ⟨⟨#[]⟩, ⟨#[]⟩⟩
theorem FlF_lt {L : List Fl} {j : Nat} (h : j < L.length) : FlF L j = L[j] := by simp [FlF, List.getD, List.getElem?_eq_getElem h]
theorem FlF_set_at {L : List Fl} {p : Nat} (x : Fl) (h : p < L.length) : FlF (L.set p x) p = x := by
  rw [FlF_lt (by simpa using h)]; simp
theorem FlF_set_ne {L : List Fl} {p j : Nat} (x : Fl) (h : j ≠ p) : FlF (L.set p x) j = FlF L j := by
  simp only [FlF, List.getD]
  rw [List.getElem?_set_ne (by omega)]
theorem FlL.list {w : World} {B : Nat} {a : Option Addr} {c m : Nat} {L : List Fl} (h : FlL w B (.slice a m c) L) (hl : L.length ≤ 1048576) : m = L.length ∧ Fls w a m (FlF L) := by
  obtain ⟨a', c', hv, _, hs⟩ := h.shape
  obtain ⟨rfl, rfl, rfl⟩ : a = a' ∧ m = L.length ∧ c = c' := by simpa using hv
  refine ⟨rfl, hl, ?_⟩
  by_cases h0 : L.length = 0
  · exact Or.inl h0
  · obtain ⟨g, ea, _, hg, _⟩ := hs 0 (by omega)
    refine Or.inr ⟨g, 0, ea, hg, fun i hi => ?_⟩
    obtain ⟨g', ea', _, _, hA⟩ := hs i hi
    rw [ea] at ea'
    have : g = g' := by simpa using ea'
    subst this
    rw [FlF_lt hi]
    simpa using hA
/-- One cell of one record is written. -/
theorem flatFl_set : ∀ (L : List Fl) (p j : Nat) (u : Value) (A : Fl), p < L.length → j < 2 → (FlC (FlF L p)).set j u = FlC A → (L.flatMap FlC).set (p * 2 + j) u = (L.set p A).flatMap FlC
  | [], p, j, u, A, hp, _, _ => by simp at hp
  | x :: L, 0, j, u, A, _, hj, h => by
    have hl : (FlC x).length = 2 := rfl
    have h' : (FlC x).set j u = FlC A := h
    simp only [List.flatMap_cons, List.set_cons_zero, Nat.zero_mul, Nat.zero_add]
    rw [List.set_append_left _ _ (by rw [hl]; omega), h']
  | x :: L, p + 1, j, u, A, hp, hj, h => by
    have hl : (FlC x).length = 2 := rfl
    have ih := flatFl_set L p j u A (by simpa using hp) hj (by simpa [FlF, List.getD] using h)
    simp only [List.flatMap_cons, List.set_cons_succ]
    rw [List.set_append_right _ _ (by rw [hl]; omega), hl]
    have e : (p + 1) * 2 + j - 2 = p * 2 + j := by omega
    rw [e, ih]
theorem FlL.stored1 {w : World} {B g cap : Nat} {L : List Fl} (h : FlL w B (.slice (some ⟨g, 0, none⟩) L.length cap) L) {p : Nat} (hp : p < L.length) (j : Nat) (hj : j < 2) (u : Value) (A : Fl) (hA : (FlC (FlF L p)).set j u = FlC A) :
    FlL (w.setCell ⟨g, p * 2 + j, none⟩ u) B (.slice (some ⟨g, 0, none⟩) (L.set p A).length cap) (L.set p A) := by
  obtain ⟨h1, _⟩ := World.ownsRow.stored h (p * 2 + j) u
  unfold FlL
  rw [← flatFl_set L p j u A hp hj hA, List.length_set]
  exact h1
theorem FlL.stored {w : World} {B g cap : Nat} {L : List Fl} (h : FlL w B (.slice (some ⟨g, 0, none⟩) L.length cap) L) {p : Nat} (hp : p < L.length) (A : Fl) :
    FlL (setFl w g (p * 2) A) B (.slice (some ⟨g, 0, none⟩) L.length cap) (L.set p A) := by
  have s0 := h.stored1 hp 0 (by omega) (.string A.name) { FlF L p with name := A.name } rfl
  have s1 := s0.stored1 (p := p) (by simpa using hp) 1 (by omega) (.string A.data) A (by rw [FlF_set_at _ hp]; rfl)
  simp only [List.set_set, List.length_set, Nat.add_zero] at s1
  exact s1
theorem grown_transFl {a b c : World} {row : Option Nat} (h : a.grownBy b row) (k : b.grownBy c row) : a.grownBy c row :=
  ⟨k.os.trans h.os, k.tape.trans h.tape, k.output.trans h.output, Nat.le_trans h.size k.size, fun i hi hn => (k.block i (Nat.lt_of_lt_of_le hi h.size) hn).trans (h.block i hi hn)⟩
theorem grown_set1Fl (w : World) (R o : Nat) (u : Value) : w.grownBy (w.setCell ⟨R, o, none⟩ u) (some R) :=
  ⟨rfl, rfl, rfl, by simp [World.setCell], fun k _ hn => Below.heap_setCell _ _ _ _ (fun e => hn (by rw [e]))⟩
theorem grown_setFl (w : World) (R p : Nat) (A : Fl) : w.grownBy (setFl w R p A) (some R) := by
  unfold setFl
  exact grown_transFl (grown_set1Fl w R p _) (grown_set1Fl _ R (p + 1) _)
end Go.Proofs.Ytcalgmhpagpnnaa
