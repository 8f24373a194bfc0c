/- Ops of their form: l7Form of the specification. No conditions. -/
import Derived.Test.YtcalgmhpagpnnaaFs
namespace Go.Proofs.Ytcalgmhpagpnnaa
open Go.RowKit
set_option maxRecDepth 8000

abbrev DpV (o : Dp) : Value := .agg #[.int .i64 o.kind, .string o.name, .string o.dst, .string o.data]
theorem emp_yes {s : ByteArray} (h : empB s = true) : s.toList = [] := by
  have : s = ByteArray.empty := by simpa [empB] using h
  rw [this, Lib.toList_data]; rfl
theorem emp_no {s : ByteArray} (h : empB s = false) : ¬ s.toList = [] := by
  intro k
  have : s = ByteArray.empty := ba_ext (by rw [← Lib.toList_data, k]; rfl)
  simp [empB, this] at h
theorem emp_no2 {s : ByteArray} (h : empB s = false) : s.toList.isEmpty = false := by
  have := emp_no h
  cases hh : s.toList with
  | nil => exact absurd hh this
  | cons a l => rfl

theorem specIn_yes (x : Int) (w : World) (h : 1 ≤ x) (h2 : x ≤ 3) : Calls Try.prog 74 #[.int .i64 x, .int .i64 1, .int .i64 3] w fun e w' => e = .returned (.bool true) ∧ w' = w := by
  go_enter Try.func74, Try.ntmps74
  go_wp2
  go_ret
  exact ⟨rfl, rfl⟩
theorem specIn_no (x : Int) (w : World) (h : ¬ (1 ≤ x ∧ x ≤ 3)) : Calls Try.prog 74 #[.int .i64 x, .int .i64 1, .int .i64 3] w fun e w' => e = .returned (.bool false) ∧ w' = w := by
  by_cases h1 : 1 ≤ x
  · have h2 : decide (x ≤ 3) = false := decide_eq_false (fun k => h ⟨h1, k⟩)
    clear h
    go_enter Try.func74, Try.ntmps74
    go_wp2
    go_ret
    exact ⟨rfl, rfl⟩
  · have h2 : decide (1 ≤ x) = false := decide_eq_false h1
    clear h h1
    go_enter Try.func74, Try.ntmps74
    go_wp2
    go_ret
    exact ⟨rfl, rfl⟩

set_option maxHeartbeats 1000000 in
theorem specForm_x (k : Int) (n s d : ByteArray) (w : World) (hk : ¬ (1 ≤ k ∧ k ≤ 3)) :
    Calls Try.prog 48 #[.agg #[.int .i64 k, .string n, .string s, .string d]] w fun e w' => e = .returned (.bool false) ∧ Below w.heap.size w w' := by
  have hk : Hid (¬ (1 ≤ k ∧ k ≤ 3)) := hk
  have hB : Hid (Below w.heap.size w (w.alloc (.cells #[.int .i64 k, .string n, .string s, .string d] 36))) := (Below.refl _ _).alloc (Nat.le_refl _) _
  go_enter Try.func48, Try.ntmps48
  go_wp2_with (first | (go_at_call 80; refine (specNameE _ _).mono ?_; rintro e w1 ⟨rfl, rfl⟩) | (go_at_call 74; refine (specIn_no k _ hk.out).mono ?_; rintro e w1 ⟨rfl, rfl⟩))
  go_ret
  exact ⟨rfl, hB.out⟩
set_option maxHeartbeats 1000000 in
theorem specForm_n1 (n s d : ByteArray) (w : World) (hn : nmOk n = false) :
    Calls Try.prog 48 #[.agg #[.int .i64 1, .string n, .string s, .string d]] w fun e w' => e = .returned (.bool false) ∧ Below w.heap.size w w' := by
  have hB : Hid (Below w.heap.size w (w.alloc (.cells #[.int .i64 1, .string n, .string s, .string d] 36))) := (Below.refl _ _).alloc (Nat.le_refl _) _
  go_enter Try.func48, Try.ntmps48
  go_wp2_with (first | (go_at_call 80; refine (specNameE _ _).mono ?_; rintro e w1 ⟨rfl, rfl⟩) | (go_at_call 74; refine (specIn_yes 1 _ (by omega) (by omega)).mono ?_; rintro e w1 ⟨rfl, rfl⟩))
  go_ret
  exact ⟨rfl, hB.out⟩
set_option maxHeartbeats 1000000 in
theorem specForm_n2 (n s d : ByteArray) (w : World) (hn : nmOk n = false) :
    Calls Try.prog 48 #[.agg #[.int .i64 2, .string n, .string s, .string d]] w fun e w' => e = .returned (.bool false) ∧ Below w.heap.size w w' := by
  have hB : Hid (Below w.heap.size w (w.alloc (.cells #[.int .i64 2, .string n, .string s, .string d] 36))) := (Below.refl _ _).alloc (Nat.le_refl _) _
  go_enter Try.func48, Try.ntmps48
  go_wp2_with (first | (go_at_call 80; refine (specNameE _ _).mono ?_; rintro e w1 ⟨rfl, rfl⟩) | (go_at_call 74; refine (specIn_yes 2 _ (by omega) (by omega)).mono ?_; rintro e w1 ⟨rfl, rfl⟩))
  go_ret
  exact ⟨rfl, hB.out⟩
set_option maxHeartbeats 1000000 in
theorem specForm_n3 (n s d : ByteArray) (w : World) (hn : nmOk n = false) :
    Calls Try.prog 48 #[.agg #[.int .i64 3, .string n, .string s, .string d]] w fun e w' => e = .returned (.bool false) ∧ Below w.heap.size w w' := by
  have hB : Hid (Below w.heap.size w (w.alloc (.cells #[.int .i64 3, .string n, .string s, .string d] 36))) := (Below.refl _ _).alloc (Nat.le_refl _) _
  go_enter Try.func48, Try.ntmps48
  go_wp2_with (first | (go_at_call 80; refine (specNameE _ _).mono ?_; rintro e w1 ⟨rfl, rfl⟩) | (go_at_call 74; refine (specIn_yes 3 _ (by omega) (by omega)).mono ?_; rintro e w1 ⟨rfl, rfl⟩))
  go_ret
  exact ⟨rfl, hB.out⟩
set_option maxHeartbeats 1000000 in
theorem specForm_1y (n s d : ByteArray) (w : World) (hn : nmOk n = true) (hs : empB s = true) :
    Calls Try.prog 48 #[.agg #[.int .i64 1, .string n, .string s, .string d]] w fun e w' => e = .returned (.bool true) ∧ Below w.heap.size w w' := by
  have hs := emp_yes hs
  have hB : Hid (Below w.heap.size w (w.alloc (.cells #[.int .i64 1, .string n, .string s, .string d] 36))) := (Below.refl _ _).alloc (Nat.le_refl _) _
  go_enter Try.func48, Try.ntmps48
  go_wp2_with (first | (go_at_call 80; refine (specNameE _ _).mono ?_; rintro e w1 ⟨rfl, rfl⟩) | (go_at_call 74; refine (specIn_yes 1 _ (by omega) (by omega)).mono ?_; rintro e w1 ⟨rfl, rfl⟩))
  go_ret
  exact ⟨rfl, hB.out⟩
set_option maxHeartbeats 1000000 in
theorem specForm_1n (n s d : ByteArray) (w : World) (hn : nmOk n = true) (hs : empB s = false) :
    Calls Try.prog 48 #[.agg #[.int .i64 1, .string n, .string s, .string d]] w fun e w' => e = .returned (.bool false) ∧ Below w.heap.size w w' := by
  have hs' := emp_no hs
  have hs'' := emp_no2 hs
  clear hs
  have hB : Hid (Below w.heap.size w (w.alloc (.cells #[.int .i64 1, .string n, .string s, .string d] 36))) := (Below.refl _ _).alloc (Nat.le_refl _) _
  go_enter Try.func48, Try.ntmps48
  go_wp2_with (first | (go_at_call 80; refine (specNameE _ _).mono ?_; rintro e w1 ⟨rfl, rfl⟩) | (go_at_call 74; refine (specIn_yes 1 _ (by omega) (by omega)).mono ?_; rintro e w1 ⟨rfl, rfl⟩))
  go_ret
  exact ⟨rfl, hB.out⟩
set_option maxHeartbeats 1000000 in
theorem specForm_2y (n s d : ByteArray) (w : World) (hn : nmOk n = true) (hs : nmOk s = true) (hd : empB d = true) :
    Calls Try.prog 48 #[.agg #[.int .i64 2, .string n, .string s, .string d]] w fun e w' => e = .returned (.bool true) ∧ Below w.heap.size w w' := by
  have hd := emp_yes hd
  have hB : Hid (Below w.heap.size w (w.alloc (.cells #[.int .i64 2, .string n, .string s, .string d] 36))) := (Below.refl _ _).alloc (Nat.le_refl _) _
  go_enter Try.func48, Try.ntmps48
  go_wp2_with (first | (go_at_call 80; refine (specNameE _ _).mono ?_; rintro e w1 ⟨rfl, rfl⟩) | (go_at_call 74; refine (specIn_yes 2 _ (by omega) (by omega)).mono ?_; rintro e w1 ⟨rfl, rfl⟩))
  go_ret
  exact ⟨rfl, hB.out⟩
set_option maxHeartbeats 1000000 in
theorem specForm_2n (n s d : ByteArray) (w : World) (hn : nmOk n = true) (hs : nmOk s = true) (hd : empB d = false) :
    Calls Try.prog 48 #[.agg #[.int .i64 2, .string n, .string s, .string d]] w fun e w' => e = .returned (.bool false) ∧ Below w.heap.size w w' := by
  have hd' := emp_no hd
  have hd'' := emp_no2 hd
  clear hd
  have hB : Hid (Below w.heap.size w (w.alloc (.cells #[.int .i64 2, .string n, .string s, .string d] 36))) := (Below.refl _ _).alloc (Nat.le_refl _) _
  go_enter Try.func48, Try.ntmps48
  go_wp2_with (first | (go_at_call 80; refine (specNameE _ _).mono ?_; rintro e w1 ⟨rfl, rfl⟩) | (go_at_call 74; refine (specIn_yes 2 _ (by omega) (by omega)).mono ?_; rintro e w1 ⟨rfl, rfl⟩))
  go_ret
  exact ⟨rfl, hB.out⟩
set_option maxHeartbeats 1000000 in
theorem specForm_2m (n s d : ByteArray) (w : World) (hn : nmOk n = true) (hs : nmOk s = false) :
    Calls Try.prog 48 #[.agg #[.int .i64 2, .string n, .string s, .string d]] w fun e w' => e = .returned (.bool false) ∧ Below w.heap.size w w' := by
  have hB : Hid (Below w.heap.size w (w.alloc (.cells #[.int .i64 2, .string n, .string s, .string d] 36))) := (Below.refl _ _).alloc (Nat.le_refl _) _
  go_enter Try.func48, Try.ntmps48
  go_wp2_with (first | (go_at_call 80; refine (specNameE _ _).mono ?_; rintro e w1 ⟨rfl, rfl⟩) | (go_at_call 74; refine (specIn_yes 2 _ (by omega) (by omega)).mono ?_; rintro e w1 ⟨rfl, rfl⟩))
  go_ret
  exact ⟨rfl, hB.out⟩
set_option maxHeartbeats 1000000 in
theorem specForm_3y (n s d : ByteArray) (w : World) (hn : nmOk n = true) (hs : empB s = true) (hd : empB d = true) :
    Calls Try.prog 48 #[.agg #[.int .i64 3, .string n, .string s, .string d]] w fun e w' => e = .returned (.bool true) ∧ Below w.heap.size w w' := by
  have hs := emp_yes hs
  have hd := emp_yes hd
  have hB : Hid (Below w.heap.size w (w.alloc (.cells #[.int .i64 3, .string n, .string s, .string d] 36))) := (Below.refl _ _).alloc (Nat.le_refl _) _
  go_enter Try.func48, Try.ntmps48
  go_wp2_with (first | (go_at_call 80; refine (specNameE _ _).mono ?_; rintro e w1 ⟨rfl, rfl⟩) | (go_at_call 74; refine (specIn_yes 3 _ (by omega) (by omega)).mono ?_; rintro e w1 ⟨rfl, rfl⟩))
  go_ret
  exact ⟨rfl, hB.out⟩
set_option maxHeartbeats 1000000 in
theorem specForm_3n (n s d : ByteArray) (w : World) (hn : nmOk n = true) (hs : empB s = true) (hd : empB d = false) :
    Calls Try.prog 48 #[.agg #[.int .i64 3, .string n, .string s, .string d]] w fun e w' => e = .returned (.bool false) ∧ Below w.heap.size w w' := by
  have hs := emp_yes hs
  have hd' := emp_no hd
  have hd'' := emp_no2 hd
  clear hd
  have hB : Hid (Below w.heap.size w (w.alloc (.cells #[.int .i64 3, .string n, .string s, .string d] 36))) := (Below.refl _ _).alloc (Nat.le_refl _) _
  go_enter Try.func48, Try.ntmps48
  go_wp2_with (first | (go_at_call 80; refine (specNameE _ _).mono ?_; rintro e w1 ⟨rfl, rfl⟩) | (go_at_call 74; refine (specIn_yes 3 _ (by omega) (by omega)).mono ?_; rintro e w1 ⟨rfl, rfl⟩))
  go_ret
  exact ⟨rfl, hB.out⟩
set_option maxHeartbeats 1000000 in
theorem specForm_3m (n s d : ByteArray) (w : World) (hn : nmOk n = true) (hs : empB s = false) :
    Calls Try.prog 48 #[.agg #[.int .i64 3, .string n, .string s, .string d]] w fun e w' => e = .returned (.bool false) ∧ Below w.heap.size w w' := by
  have hs' := emp_no hs
  have hs'' := emp_no2 hs
  clear hs
  have hB : Hid (Below w.heap.size w (w.alloc (.cells #[.int .i64 3, .string n, .string s, .string d] 36))) := (Below.refl _ _).alloc (Nat.le_refl _) _
  go_enter Try.func48, Try.ntmps48
  go_wp2_with (first | (go_at_call 80; refine (specNameE _ _).mono ?_; rintro e w1 ⟨rfl, rfl⟩) | (go_at_call 74; refine (specIn_yes 3 _ (by omega) (by omega)).mono ?_; rintro e w1 ⟨rfl, rfl⟩))
  go_ret
  exact ⟨rfl, hB.out⟩
theorem specForm (o : Dp) (w : World) : Calls Try.prog 48 #[.agg #[.int .i64 o.kind, .string o.name, .string o.dst, .string o.data]] w fun e w' => e = .returned (.bool (formB o)) ∧ Below w.heap.size w w' := by
  obtain ⟨k, n, s, d⟩ := o
  by_cases hk : 1 ≤ k ∧ k ≤ 3
  rotate_left
  · have E : formB ⟨k, n, s, d⟩ = false := by
      have h1 : k ≠ 1 := by omega
      have h2 : k ≠ 2 := by omega
      have h3 : k ≠ 3 := by omega
      simp [formB, h1, h2, h3]
    rw [E]
    exact specForm_x k n s d w hk
  have hk' : k = 1 ∨ k = 2 ∨ k = 3 := by omega
  cases hn : nmOk n
  · have E : formB ⟨k, n, s, d⟩ = false := by simp [formB, hn]
    rw [E]
    rcases hk' with rfl | rfl | rfl
    · exact specForm_n1 n s d w hn
    · exact specForm_n2 n s d w hn
    · exact specForm_n3 n s d w hn
  · rcases hk' with rfl | rfl | rfl
    · have E : formB ⟨1, n, s, d⟩ = empB s := by simp [formB, hn]
      rw [E]
      cases hs : empB s
      · exact specForm_1n n s d w hn hs
      · exact specForm_1y n s d w hn hs
    · have E : formB ⟨2, n, s, d⟩ = (nmOk s && empB d) := by simp [formB, hn]
      rw [E]
      cases hs : nmOk s
      · exact specForm_2m n s d w hn hs
      · cases hd : empB d
        · exact specForm_2n n s d w hn hs hd
        · exact specForm_2y n s d w hn hs hd
    · have E : formB ⟨3, n, s, d⟩ = (empB s && empB d) := by simp [formB, hn]
      rw [E]
      cases hs : empB s
      · exact specForm_3m n s d w hn hs
      · cases hd : empB d
        · exact specForm_3n n s d w hn hs hd
        · exact specForm_3y n s d w hn hs hd
end Go.Proofs.Ytcalgmhpagpnnaa
