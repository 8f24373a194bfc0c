/- Ops of their form: l7Form of the specification. No conditions. -/
import Derived.Test.YtcalgmhpagpnnaaFs
import Derived.Test.YtcalgmhpagpnnaaFr
import Derived.Test.YtcalgmhpagpnnaaLs
namespace Go.Proofs.Ytcalgmhpagpnnaa
open Go.RowKit
set_option maxRecDepth 8000

abbrev DpV (o : Dp) : Value := .agg #[.int .i64 o.kind, .string o.name, .string o.dst, .string o.data]
theorem emp_yes {s : ByteArray} (h : empB s = true) : s.toList = [] := by
  have : s = ByteArray.empty := by simpa [empB] using h
  rw [this, Lib.toList_data]; rfl
theorem emp_no {s : ByteArray} (h : empB s = false) : ¬ s.toList = [] := by
  intro k
  have : s = ByteArray.empty := ba_ext (by rw [← Lib.toList_data, k]; rfl)
  simp [empB, this] at h
theorem emp_no2 {s : ByteArray} (h : empB s = false) : s.toList.isEmpty = false := by
  have := emp_no h
  cases hh : s.toList with
  | nil => exact absurd hh this
  | cons a l => rfl

theorem specIn_yes (x : Int) (w : World) (h : 1 ≤ x) (h2 : x ≤ 3) : Calls Try.prog 74 #[.int .i64 x, .int .i64 1, .int .i64 3] w fun e w' => e = .returned (.bool true) ∧ w' = w := by
  go_enter Try.func74, Try.ntmps74
  go_wp2
  go_ret
  exact ⟨rfl, rfl⟩
theorem specIn_no (x : Int) (w : World) (h : ¬ (1 ≤ x ∧ x ≤ 3)) : Calls Try.prog 74 #[.int .i64 x, .int .i64 1, .int .i64 3] w fun e w' => e = .returned (.bool false) ∧ w' = w := by
  by_cases h1 : 1 ≤ x
  · have h2 : decide (x ≤ 3) = false := decide_eq_false (fun k => h ⟨h1, k⟩)
    clear h
    go_enter Try.func74, Try.ntmps74
    go_wp2
    go_ret
    exact ⟨rfl, rfl⟩
  · have h2 : decide (1 ≤ x) = false := decide_eq_false h1
    clear h h1
    go_enter Try.func74, Try.ntmps74
    go_wp2
    go_ret
    exact ⟨rfl, rfl⟩

set_option maxHeartbeats 1000000 in
theorem specForm_x (k : Int) (n s d : ByteArray) (w : World) (hk : ¬ (1 ≤ k ∧ k ≤ 3)) :
    Calls Try.prog 48 #[.agg #[.int .i64 k, .string n, .string s, .string d]] w fun e w' => e = .returned (.bool false) ∧ Below w.heap.size w w' := by
  have hk : Hid (¬ (1 ≤ k ∧ k ≤ 3)) := hk
  have hB : Hid (Below w.heap.size w (w.alloc (.cells #[.int .i64 k, .string n, .string s, .string d] 36))) := (Below.refl _ _).alloc (Nat.le_refl _) _
  go_enter Try.func48, Try.ntmps48
  go_wp2_with (first | (go_at_call 80; refine (specNameE _ _).mono ?_; rintro e w1 ⟨rfl, rfl⟩) | (go_at_call 74; refine (specIn_no k _ hk.out).mono ?_; rintro e w1 ⟨rfl, rfl⟩))
  go_ret
  exact ⟨rfl, hB.out⟩
set_option maxHeartbeats 1000000 in
theorem specForm_n1 (n s d : ByteArray) (w : World) (hn : nmOk n = false) :
    Calls Try.prog 48 #[.agg #[.int .i64 1, .string n, .string s, .string d]] w fun e w' => e = .returned (.bool false) ∧ Below w.heap.size w w' := by
  have hB : Hid (Below w.heap.size w (w.alloc (.cells #[.int .i64 1, .string n, .string s, .string d] 36))) := (Below.refl _ _).alloc (Nat.le_refl _) _
  go_enter Try.func48, Try.ntmps48
  go_wp2_with (first | (go_at_call 80; refine (specNameE _ _).mono ?_; rintro e w1 ⟨rfl, rfl⟩) | (go_at_call 74; refine (specIn_yes 1 _ (by omega) (by omega)).mono ?_; rintro e w1 ⟨rfl, rfl⟩))
  go_ret
  exact ⟨rfl, hB.out⟩
set_option maxHeartbeats 1000000 in
theorem specForm_n2 (n s d : ByteArray) (w : World) (hn : nmOk n = false) :
    Calls Try.prog 48 #[.agg #[.int .i64 2, .string n, .string s, .string d]] w fun e w' => e = .returned (.bool false) ∧ Below w.heap.size w w' := by
  have hB : Hid (Below w.heap.size w (w.alloc (.cells #[.int .i64 2, .string n, .string s, .string d] 36))) := (Below.refl _ _).alloc (Nat.le_refl _) _
  go_enter Try.func48, Try.ntmps48
  go_wp2_with (first | (go_at_call 80; refine (specNameE _ _).mono ?_; rintro e w1 ⟨rfl, rfl⟩) | (go_at_call 74; refine (specIn_yes 2 _ (by omega) (by omega)).mono ?_; rintro e w1 ⟨rfl, rfl⟩))
  go_ret
  exact ⟨rfl, hB.out⟩
set_option maxHeartbeats 1000000 in
theorem specForm_n3 (n s d : ByteArray) (w : World) (hn : nmOk n = false) :
    Calls Try.prog 48 #[.agg #[.int .i64 3, .string n, .string s, .string d]] w fun e w' => e = .returned (.bool false) ∧ Below w.heap.size w w' := by
  have hB : Hid (Below w.heap.size w (w.alloc (.cells #[.int .i64 3, .string n, .string s, .string d] 36))) := (Below.refl _ _).alloc (Nat.le_refl _) _
  go_enter Try.func48, Try.ntmps48
  go_wp2_with (first | (go_at_call 80; refine (specNameE _ _).mono ?_; rintro e w1 ⟨rfl, rfl⟩) | (go_at_call 74; refine (specIn_yes 3 _ (by omega) (by omega)).mono ?_; rintro e w1 ⟨rfl, rfl⟩))
  go_ret
  exact ⟨rfl, hB.out⟩
set_option maxHeartbeats 1000000 in
theorem specForm_1y (n s d : ByteArray) (w : World) (hn : nmOk n = true) (hs : empB s = true) :
    Calls Try.prog 48 #[.agg #[.int .i64 1, .string n, .string s, .string d]] w fun e w' => e = .returned (.bool true) ∧ Below w.heap.size w w' := by
  have hs := emp_yes hs
  have hB : Hid (Below w.heap.size w (w.alloc (.cells #[.int .i64 1, .string n, .string s, .string d] 36))) := (Below.refl _ _).alloc (Nat.le_refl _) _
  go_enter Try.func48, Try.ntmps48
  go_wp2_with (first | (go_at_call 80; refine (specNameE _ _).mono ?_; rintro e w1 ⟨rfl, rfl⟩) | (go_at_call 74; refine (specIn_yes 1 _ (by omega) (by omega)).mono ?_; rintro e w1 ⟨rfl, rfl⟩))
  go_ret
  exact ⟨rfl, hB.out⟩
set_option maxHeartbeats 1000000 in
theorem specForm_1n (n s d : ByteArray) (w : World) (hn : nmOk n = true) (hs : empB s = false) :
    Calls Try.prog 48 #[.agg #[.int .i64 1, .string n, .string s, .string d]] w fun e w' => e = .returned (.bool false) ∧ Below w.heap.size w w' := by
  have hs' := emp_no hs
  have hs'' := emp_no2 hs
  clear hs
  have hB : Hid (Below w.heap.size w (w.alloc (.cells #[.int .i64 1, .string n, .string s, .string d] 36))) := (Below.refl _ _).alloc (Nat.le_refl _) _
  go_enter Try.func48, Try.ntmps48
  go_wp2_with (first | (go_at_call 80; refine (specNameE _ _).mono ?_; rintro e w1 ⟨rfl, rfl⟩) | (go_at_call 74; refine (specIn_yes 1 _ (by omega) (by omega)).mono ?_; rintro e w1 ⟨rfl, rfl⟩))
  go_ret
  exact ⟨rfl, hB.out⟩
set_option maxHeartbeats 1000000 in
theorem specForm_2y (n s d : ByteArray) (w : World) (hn : nmOk n = true) (hs : nmOk s = true) (hd : empB d = true) :
    Calls Try.prog 48 #[.agg #[.int .i64 2, .string n, .string s, .string d]] w fun e w' => e = .returned (.bool true) ∧ Below w.heap.size w w' := by
  have hd := emp_yes hd
  have hB : Hid (Below w.heap.size w (w.alloc (.cells #[.int .i64 2, .string n, .string s, .string d] 36))) := (Below.refl _ _).alloc (Nat.le_refl _) _
  go_enter Try.func48, Try.ntmps48
  go_wp2_with (first | (go_at_call 80; refine (specNameE _ _).mono ?_; rintro e w1 ⟨rfl, rfl⟩) | (go_at_call 74; refine (specIn_yes 2 _ (by omega) (by omega)).mono ?_; rintro e w1 ⟨rfl, rfl⟩))
  go_ret
  exact ⟨rfl, hB.out⟩
set_option maxHeartbeats 1000000 in
theorem specForm_2n (n s d : ByteArray) (w : World) (hn : nmOk n = true) (hs : nmOk s = true) (hd : empB d = false) :
    Calls Try.prog 48 #[.agg #[.int .i64 2, .string n, .string s, .string d]] w fun e w' => e = .returned (.bool false) ∧ Below w.heap.size w w' := by
  have hd' := emp_no hd
  have hd'' := emp_no2 hd
  clear hd
  have hB : Hid (Below w.heap.size w (w.alloc (.cells #[.int .i64 2, .string n, .string s, .string d] 36))) := (Below.refl _ _).alloc (Nat.le_refl _) _
  go_enter Try.func48, Try.ntmps48
  go_wp2_with (first | (go_at_call 80; refine (specNameE _ _).mono ?_; rintro e w1 ⟨rfl, rfl⟩) | (go_at_call 74; refine (specIn_yes 2 _ (by omega) (by omega)).mono ?_; rintro e w1 ⟨rfl, rfl⟩))
  go_ret
  exact ⟨rfl, hB.out⟩
set_option maxHeartbeats 1000000 in
theorem specForm_2m (n s d : ByteArray) (w : World) (hn : nmOk n = true) (hs : nmOk s = false) :
    Calls Try.prog 48 #[.agg #[.int .i64 2, .string n, .string s, .string d]] w fun e w' => e = .returned (.bool false) ∧ Below w.heap.size w w' := by
  have hB : Hid (Below w.heap.size w (w.alloc (.cells #[.int .i64 2, .string n, .string s, .string d] 36))) := (Below.refl _ _).alloc (Nat.le_refl _) _
  go_enter Try.func48, Try.ntmps48
  go_wp2_with (first | (go_at_call 80; refine (specNameE _ _).mono ?_; rintro e w1 ⟨rfl, rfl⟩) | (go_at_call 74; refine (specIn_yes 2 _ (by omega) (by omega)).mono ?_; rintro e w1 ⟨rfl, rfl⟩))
  go_ret
  exact ⟨rfl, hB.out⟩
set_option maxHeartbeats 1000000 in
theorem specForm_3y (n s d : ByteArray) (w : World) (hn : nmOk n = true) (hs : empB s = true) (hd : empB d = true) :
    Calls Try.prog 48 #[.agg #[.int .i64 3, .string n, .string s, .string d]] w fun e w' => e = .returned (.bool true) ∧ Below w.heap.size w w' := by
  have hs := emp_yes hs
  have hd := emp_yes hd
  have hB : Hid (Below w.heap.size w (w.alloc (.cells #[.int .i64 3, .string n, .string s, .string d] 36))) := (Below.refl _ _).alloc (Nat.le_refl _) _
  go_enter Try.func48, Try.ntmps48
  go_wp2_with (first | (go_at_call 80; refine (specNameE _ _).mono ?_; rintro e w1 ⟨rfl, rfl⟩) | (go_at_call 74; refine (specIn_yes 3 _ (by omega) (by omega)).mono ?_; rintro e w1 ⟨rfl, rfl⟩))
  go_ret
  exact ⟨rfl, hB.out⟩
set_option maxHeartbeats 1000000 in
theorem specForm_3n (n s d : ByteArray) (w : World) (hn : nmOk n = true) (hs : empB s = true) (hd : empB d = false) :
    Calls Try.prog 48 #[.agg #[.int .i64 3, .string n, .string s, .string d]] w fun e w' => e = .returned (.bool false) ∧ Below w.heap.size w w' := by
  have hs := emp_yes hs
  have hd' := emp_no hd
  have hd'' := emp_no2 hd
  clear hd
  have hB : Hid (Below w.heap.size w (w.alloc (.cells #[.int .i64 3, .string n, .string s, .string d] 36))) := (Below.refl _ _).alloc (Nat.le_refl _) _
  go_enter Try.func48, Try.ntmps48
  go_wp2_with (first | (go_at_call 80; refine (specNameE _ _).mono ?_; rintro e w1 ⟨rfl, rfl⟩) | (go_at_call 74; refine (specIn_yes 3 _ (by omega) (by omega)).mono ?_; rintro e w1 ⟨rfl, rfl⟩))
  go_ret
  exact ⟨rfl, hB.out⟩
set_option maxHeartbeats 1000000 in
theorem specForm_3m (n s d : ByteArray) (w : World) (hn : nmOk n = true) (hs : empB s = false) :
    Calls Try.prog 48 #[.agg #[.int .i64 3, .string n, .string s, .string d]] w fun e w' => e = .returned (.bool false) ∧ Below w.heap.size w w' := by
  have hs' := emp_no hs
  have hs'' := emp_no2 hs
  clear hs
  have hB : Hid (Below w.heap.size w (w.alloc (.cells #[.int .i64 3, .string n, .string s, .string d] 36))) := (Below.refl _ _).alloc (Nat.le_refl _) _
  go_enter Try.func48, Try.ntmps48
  go_wp2_with (first | (go_at_call 80; refine (specNameE _ _).mono ?_; rintro e w1 ⟨rfl, rfl⟩) | (go_at_call 74; refine (specIn_yes 3 _ (by omega) (by omega)).mono ?_; rintro e w1 ⟨rfl, rfl⟩))
  go_ret
  exact ⟨rfl, hB.out⟩
theorem specForm (o : Dp) (w : World) : Calls Try.prog 48 #[.agg #[.int .i64 o.kind, .string o.name, .string o.dst, .string o.data]] w fun e w' => e = .returned (.bool (formB o)) ∧ Below w.heap.size w w' := by
  obtain ⟨k, n, s, d⟩ := o
  by_cases hk : 1 ≤ k ∧ k ≤ 3
  rotate_left
  · have E : formB ⟨k, n, s, d⟩ = false := by
      have h1 : k ≠ 1 := by omega
      have h2 : k ≠ 2 := by omega
      have h3 : k ≠ 3 := by omega
      simp [formB, h1, h2, h3]
    rw [E]
    exact specForm_x k n s d w hk
  have hk' : k = 1 ∨ k = 2 ∨ k = 3 := by omega
  cases hn : nmOk n
  · have E : formB ⟨k, n, s, d⟩ = false := by simp [formB, hn]
    rw [E]
    rcases hk' with rfl | rfl | rfl
    · exact specForm_n1 n s d w hn
    · exact specForm_n2 n s d w hn
    · exact specForm_n3 n s d w hn
  · rcases hk' with rfl | rfl | rfl
    · have E : formB ⟨1, n, s, d⟩ = empB s := by simp [formB, hn]
      rw [E]
      cases hs : empB s
      · exact specForm_1n n s d w hn hs
      · exact specForm_1y n s d w hn hs
    · have E : formB ⟨2, n, s, d⟩ = (nmOk s && empB d) := by simp [formB, hn]
      rw [E]
      cases hs : nmOk s
      · exact specForm_2m n s d w hn hs
      · cases hd : empB d
        · exact specForm_2n n s d w hn hs hd
        · exact specForm_2y n s d w hn hs hd
    · have E : formB ⟨3, n, s, d⟩ = (empB s && empB d) := by simp [formB, hn]
      rw [E]
      cases hs : empB s
      · exact specForm_3m n s d w hn hs
      · cases hd : empB d
        · exact specForm_3n n s d w hn hs hd
        · exact specForm_3y n s d w hn hs hd
end Go.Proofs.Ytcalgmhpagpnnaa

/- Files that are the same: l7Same of the specification, slices.Equal of the program. Conditions: they lie in memory, at most 1048576 of each. -/
namespace Go.Proofs.Ytcalgmhpagpnnaa
open Go.RowKit
set_option maxRecDepth 8000

/-- The same files at the first k places. -/
def SameTo (F G : Nat → Fl) (k : Nat) : Prop := ∀ j, j < k → F j = G j
def sameL (F G : Nat → Fl) (n m : Nat) : Bool := decide (n = m ∧ ∀ j, j < n → (F j).name = (G j).name ∧ (F j).data = (G j).data)
theorem sameL_iff {F G : Nat → Fl} {n m : Nat} : sameL F G n m = true ↔ lst F n = lst G m := by
  unfold sameL
  rw [decide_eq_true_iff]
  constructor
  · rintro ⟨rfl, h⟩
    refine lst_congr fun i hi => ?_
    have := h i hi
    cases hF : F i; cases hG : G i
    simp [hF, hG] at this
    simp [this]
  · intro h
    have hl := congrArg List.length h
    rw [lst_len, lst_len] at hl
    subst hl
    refine ⟨rfl, fun j hj => ?_⟩
    have h1 := lst_get F hj
    rw [h, lst_get G hj] at h1
    have : G j = F j := by simpa using h1
    rw [this]
    exact ⟨rfl, rfl⟩
theorem below_drewQ {B : Nat} {w W : World} (h : Below B w W) (q : Nat) : Below B w (W.drewN q) := ⟨h.os, h.tape, h.output, h.size, h.block⟩
theorem retS {F G : Nat → Fl} {n m : Nat} {b : Bool} (h : sameL F G n m = b) : Ending.returned (.bool b) = Ending.returned (.bool (sameL F G n m)) := by rw [h]

set_option maxHeartbeats 1000000 in
theorem specSame (a1 a2 : Option Addr) (n m c1 c2 : Nat) (F G : Nat → Fl) (w : World) (h1 : Fls w a1 n F) (h2 : Fls w a2 m G) :
    Calls Try.prog 49 #[.slice a1 n c1, .slice a2 m c2] w fun e w' => e = .returned (.bool (sameL F G n m)) ∧ Below w.heap.size w w' := by
  have H1 : Hid (Fls w a1 n F) := h1
  have H2 : Hid (Fls w a2 m G) := h2
  have hn := h1.1
  have hm := h2.1
  clear h1 h2
  by_cases hnm : n = m
  rotate_left
  · have E : Hid (sameL F G n m = false) := decide_eq_false (fun h => hnm h.1)
    have hnm' : ((n : Int) == (m : Int)) = false := by simp; omega
    have hnm2 : ¬ ((n : Int) = (m : Int)) := by omega
    go_enter Try.func49, Try.ntmps49
    go_wp2
    go_ret
    exact ⟨retS E.out, Below.refl _ _⟩
  subst hnm
  go_enter Try.func49, Try.ntmps49
  go_wp2
  go_loopw [5] (fun i wr => ∃ k : Nat, k ≤ n ∧ i = .int .i64 k ∧ Hid (∀ j, j < k → (F j).name = (G j).name ∧ (F j).data = (G j).data) ∧ Hid (Below w.heap.size w wr)) (fun i _ => n - (intOf i).toNat)
  case atStart => exact ⟨0, Nat.zero_le _, rfl, fun j hj => absurd hj (Nat.not_lt_zero _), Below.refl _ _⟩
  case round =>
    obtain ⟨k, hk, rfl, hs, hB⟩ := hrel
    by_cases hlt : k < n
    · obtain ⟨b, o, rfl, hb0, hA0⟩ := H1.out.acc hlt
      obtain ⟨b', o', rfl, hb0', hA0'⟩ := H2.out.acc hlt
      have hA := hA0.of_cells (w' := wr) (fun q => hB.out.cell (p := ⟨b, q, none⟩) hb0)
      have hA' := hA0'.of_cells (w' := wr) (fun q => hB.out.cell (p := ⟨b', q, none⟩) hb0')
      obtain ⟨c0, c1⟩ := hA
      obtain ⟨d0, d1⟩ := hA'
      clear hA0 hA0'
      by_cases e1 : (F k).name = (G k).name
      · by_cases e2 : (F k).data = (G k).data
        · have HS : Hid (∀ j, j < k + 1 → (F j).name = (G j).name ∧ (F j).data = (G j).data) := fun j hj => by
            by_cases e : j = k
            · subst e; exact ⟨e1, e2⟩
            · exact hs.out j (by omega)
          rw [e1] at c0
          rw [e2] at c1
          clear e1 e2
          go_wp2
          go_quiet (fail)
          go_wp2
          go_roundw
          case rel => exact ⟨k + 1, by omega, by go_num, HS, below_drewQ hB.out _⟩
          case measure => simp [intOf]; omega
        · have E : Hid (sameL F G n n = false) := decide_eq_false (fun h => e2 (h.2 k hlt).2)
          have e3 : ((F k).data.toList == (G k).data.toList) = false := by rw [beq_name]; exact decide_eq_false e2
          rw [e1] at c0
          clear e1 e2
          go_wp2
          go_quiet (fail)
          go_wp2
          go_ret
          exact ⟨retS E.out, below_drewQ hB.out _⟩
      · have E : Hid (sameL F G n n = false) := decide_eq_false (fun h => e1 (h.2 k hlt).1)
        have e3 : ((F k).name.toList == (G k).name.toList) = false := by rw [beq_name]; exact decide_eq_false e1
        clear e1
        go_wp2
        go_quiet (fail)
        go_wp2
        go_ret
        exact ⟨retS E.out, below_drewQ hB.out _⟩
    · obtain rfl : k = n := by omega
      have E : Hid (sameL F G k k = true) := decide_eq_true ⟨rfl, hs.out⟩
      go_wp2
      go_ret
      exact ⟨retS E.out, hB.out⟩

set_option maxHeartbeats 1000000 in
theorem implEqual (a1 a2 : Option Addr) (n m c1 c2 : Nat) (F G : Nat → Fl) (w : World) (h1 : Fls w a1 n F) (h2 : Fls w a2 m G) :
    Calls Try.prog 44 #[.slice a1 n c1, .slice a2 m c2] w fun e w' => e = .returned (.bool (sameL F G n m)) ∧ Below w.heap.size w w' := by
  have H1 : Hid (Fls w a1 n F) := h1
  have H2 : Hid (Fls w a2 m G) := h2
  have hn := h1.1
  have hm := h2.1
  clear h1 h2
  by_cases hnm : n = m
  rotate_left
  · have E : Hid (sameL F G n m = false) := decide_eq_false (fun h => hnm h.1)
    have hnm' : ((n : Int) == (m : Int)) = false := by simp; omega
    have hnm2 : ¬ ((n : Int) = (m : Int)) := by omega
    go_enter Try.func44, Try.ntmps44
    go_wp2
    go_ret
    exact ⟨retS E.out, Below.refl _ _⟩
  subst hnm
  go_enter Try.func44, Try.ntmps44
  go_wp2
  go_loopw [13] (fun i wr => ∃ k : Nat, k ≤ n ∧ i = .int .i64 k ∧ Hid (∀ j, j < k → (F j).name = (G j).name ∧ (F j).data = (G j).data) ∧ Hid (Below w.heap.size w wr)) (fun i _ => n - (intOf i).toNat)
  case atStart => exact ⟨0, Nat.zero_le _, rfl, fun j hj => absurd hj (Nat.not_lt_zero _), Below.refl _ _⟩
  case round =>
    obtain ⟨k, hk, rfl, hs, hB⟩ := hrel
    by_cases hlt : k < n
    · obtain ⟨b, o, rfl, hb0, hA0⟩ := H1.out.acc hlt
      obtain ⟨b', o', rfl, hb0', hA0'⟩ := H2.out.acc hlt
      have hA := hA0.of_cells (w' := wr) (fun q => hB.out.cell (p := ⟨b, q, none⟩) hb0)
      have hA' := hA0'.of_cells (w' := wr) (fun q => hB.out.cell (p := ⟨b', q, none⟩) hb0')
      obtain ⟨c0, c1⟩ := hA
      obtain ⟨d0, d1⟩ := hA'
      clear hA0 hA0'
      by_cases e1 : (F k).name = (G k).name
      · by_cases e2 : (F k).data = (G k).data
        · have HS : Hid (∀ j, j < k + 1 → (F j).name = (G j).name ∧ (F j).data = (G j).data) := fun j hj => by
            by_cases e : j = k
            · subst e; exact ⟨e1, e2⟩
            · exact hs.out j (by omega)
          rw [e1] at c0
          rw [e2] at c1
          clear e1 e2
          go_wp2
          go_quiet (fail)
          go_wp2
          go_roundw
          case rel => exact ⟨k + 1, by omega, by go_num, HS, below_drewQ hB.out _⟩
          case measure => simp [intOf]; omega
        · have E : Hid (sameL F G n n = false) := decide_eq_false (fun h => e2 (h.2 k hlt).2)
          have e3 : ((F k).data.toList == (G k).data.toList) = false := by rw [beq_name]; exact decide_eq_false e2
          rw [e1] at c0
          clear e1 e2
          go_wp2
          go_quiet (fail)
          go_wp2
          go_ret
          exact ⟨retS E.out, below_drewQ hB.out _⟩
      · have E : Hid (sameL F G n n = false) := decide_eq_false (fun h => e1 (h.2 k hlt).1)
        have e3 : ((F k).name.toList == (G k).name.toList) = false := by rw [beq_name]; exact decide_eq_false e1
        clear e1
        go_wp2
        go_quiet (fail)
        go_wp2
        go_ret
        exact ⟨retS E.out, below_drewQ hB.out _⟩
    · obtain rfl : k = n := by omega
      have E : Hid (sameL F G k k = true) := decide_eq_true ⟨rfl, hs.out⟩
      go_wp2
      go_ret
      exact ⟨retS E.out, hB.out⟩
end Go.Proofs.Ytcalgmhpagpnnaa
