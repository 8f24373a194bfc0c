/- fileOpOf: an op behind an interface. No conditions. -/
import Derived.Test.YtcalgmhpagpnnaaSpFS
namespace Go.Proofs.Ytcalgmhpagpnnaa
open Go.RowKit
set_option maxRecDepth 8000

set_option maxHeartbeats 1000000 in
theorem fop_n (k : Int) (n s d : ByteArray) (w : World) (hn : nmOk n = false) :
    Calls Try.prog 52 #[.agg #[.int .i64 k, .string n, .string s, .string d]] w fun e w' => e = .returned (.tuple #[.nilIface, .bool false]) ∧ Below w.heap.size w w' := by
  have hnH : Hid (nmOk n = false) := hn
  clear hn
  have hB : Hid (Below w.heap.size w (w.alloc (.cells #[.int .i64 k, .string n, .string s, .string d] 36))) := (Below.refl _ _).alloc (Nat.le_refl _) _
  go_enter Try.func52, Try.ntmps52
  have hn2 : nmOk n = false := hnH.out
  go_wp2_with (go_at_call 76; refine (implNameE n _).mono ?_; rintro e w1 ⟨rfl, rfl⟩)
  go_ret2
  exact ⟨rfl, hB.out⟩
set_option maxHeartbeats 1000000 in
theorem fop_x (k : Int) (n s d : ByteArray) (w : World) (h1 : ¬ k = 1) (h2 : ¬ k = 2) (h3 : ¬ k = 3) (hn : nmOk n = true) :
    Calls Try.prog 52 #[.agg #[.int .i64 k, .string n, .string s, .string d]] w fun e w' => e = .returned (.tuple #[.nilIface, .bool false]) ∧ Below w.heap.size w w' := by
  have hnH : Hid (nmOk n = true) := hn
  clear hn
  have hB : Hid (Below w.heap.size w (w.alloc (.cells #[.int .i64 k, .string n, .string s, .string d] 36))) := (Below.refl _ _).alloc (Nat.le_refl _) _
  go_enter Try.func52, Try.ntmps52
  have hn2 : nmOk n = true := hnH.out
  have e1 : (k == 1) = false := by simp; exact h1
  have e2 : (k == 2) = false := by simp; exact h2
  have e3 : (k == 3) = false := by simp; exact h3
  clear h1 h2 h3
  go_wp2_with (go_at_call 76; refine (implNameE n _).mono ?_; rintro e w1 ⟨rfl, rfl⟩)
  go_ret2
  exact ⟨rfl, hB.out⟩
set_option maxHeartbeats 1000000 in
theorem fop_1y (n s d : ByteArray) (w : World) (hn : nmOk n = true) (hs : empB s = true) :
    Calls Try.prog 52 #[.agg #[.int .i64 1, .string n, .string s, .string d]] w fun e w' => e = .returned (.tuple #[.iface 117 (.agg #[.string n, .string d]), .bool true]) ∧ Below w.heap.size w w' := by
  have hnH : Hid (nmOk n = true) := hn
  clear hn
  have hs := emp_yes hs
  have hB : Hid (Below w.heap.size w (w.alloc (.cells #[.int .i64 1, .string n, .string s, .string d] 36))) := (Below.refl _ _).alloc (Nat.le_refl _) _
  go_enter Try.func52, Try.ntmps52
  have hn2 : nmOk n = true := hnH.out
  have hov : ∀ v q, (over (w.alloc (.cells #[.int .i64 1, .string n, .string s, .string d] 36)) v).cell? ⟨w.heap.size, q, none⟩ = (w.alloc (.cells #[.int .i64 1, .string n, .string s, .string d] 36)).cell? ⟨w.heap.size, q, none⟩ := fun v q => (below_over _ v).cell (p := ⟨w.heap.size, q, none⟩) (by simp)
  go_wp2_with (go_at_call 76; refine (implNameE n _).mono ?_; rintro e w1 ⟨rfl, rfl⟩)
  refine wp_region_over (by kernel_rfl) (by kernel_rfl) ?_
  repeat (go_big_quiet_step ((first | fail)))
  refine wpQuiet_nil ?_
  intro _ hw'
  obtain ⟨vq, hw''⟩ := hw'
  subst hw''
  go_wp2
  go_ret2
  exact ⟨rfl, hB.out.trans ((below_over _ vq).mono hB.out.size)⟩
set_option maxHeartbeats 1000000 in
theorem fop_1n (n s d : ByteArray) (w : World) (hn : nmOk n = true) (hs : empB s = false) :
    Calls Try.prog 52 #[.agg #[.int .i64 1, .string n, .string s, .string d]] w fun e w' => e = .returned (.tuple #[.iface 117 (.agg #[.string n, .string d]), .bool false]) ∧ Below w.heap.size w w' := by
  have hnH : Hid (nmOk n = true) := hn
  clear hn
  have hs' := emp_no hs
  have hs'' := emp_no2 hs
  clear hs
  have hB : Hid (Below w.heap.size w (w.alloc (.cells #[.int .i64 1, .string n, .string s, .string d] 36))) := (Below.refl _ _).alloc (Nat.le_refl _) _
  go_enter Try.func52, Try.ntmps52
  have hn2 : nmOk n = true := hnH.out
  have hov : ∀ v q, (over (w.alloc (.cells #[.int .i64 1, .string n, .string s, .string d] 36)) v).cell? ⟨w.heap.size, q, none⟩ = (w.alloc (.cells #[.int .i64 1, .string n, .string s, .string d] 36)).cell? ⟨w.heap.size, q, none⟩ := fun v q => (below_over _ v).cell (p := ⟨w.heap.size, q, none⟩) (by simp)
  go_wp2_with (go_at_call 76; refine (implNameE n _).mono ?_; rintro e w1 ⟨rfl, rfl⟩)
  refine wp_region_over (by kernel_rfl) (by kernel_rfl) ?_
  repeat (go_big_quiet_step ((first | fail)))
  refine wpQuiet_nil ?_
  intro _ hw'
  obtain ⟨vq, hw''⟩ := hw'
  subst hw''
  go_wp2
  go_ret2
  exact ⟨rfl, hB.out.trans ((below_over _ vq).mono hB.out.size)⟩
set_option maxHeartbeats 1000000 in
theorem fop_2y (n s d : ByteArray) (w : World) (hn : nmOk n = true) (hs : nmOk s = true) (hd : empB d = true) :
    Calls Try.prog 52 #[.agg #[.int .i64 2, .string n, .string s, .string d]] w fun e w' => e = .returned (.tuple #[.iface 119 (.agg #[.string n, .string s]), .bool true]) ∧ Below w.heap.size w w' := by
  have hnH : Hid (nmOk n = true) := hn
  clear hn
  have hsH : Hid (nmOk s = true) := hs
  clear hs
  have hd := emp_yes hd
  have hB : Hid (Below w.heap.size w (w.alloc (.cells #[.int .i64 2, .string n, .string s, .string d] 36))) := (Below.refl _ _).alloc (Nat.le_refl _) _
  go_enter Try.func52, Try.ntmps52
  have hn2 : nmOk n = true := hnH.out
  have hov : ∀ v q, (over (w.alloc (.cells #[.int .i64 2, .string n, .string s, .string d] 36)) v).cell? ⟨w.heap.size, q, none⟩ = (w.alloc (.cells #[.int .i64 2, .string n, .string s, .string d] 36)).cell? ⟨w.heap.size, q, none⟩ := fun v q => (below_over _ v).cell (p := ⟨w.heap.size, q, none⟩) (by simp)
  go_wp2_with (go_at_call 76; refine (implNameE n _).mono ?_; rintro e w1 ⟨rfl, rfl⟩)
  refine wp_region_over (by kernel_rfl) (by kernel_rfl) ?_
  repeat (go_big_quiet_step ((first | (go_at_call 76; exact Calls.over_of (implName_yes s _ hsH.out)))))
  refine wpQuiet_nil ?_
  intro _ hw'
  obtain ⟨vq, hw''⟩ := hw'
  subst hw''
  go_wp2
  go_ret2
  exact ⟨rfl, hB.out.trans ((below_over _ vq).mono hB.out.size)⟩
set_option maxHeartbeats 1000000 in
theorem fop_2n (n s d : ByteArray) (w : World) (hn : nmOk n = true) (hs : nmOk s = true) (hd : empB d = false) :
    Calls Try.prog 52 #[.agg #[.int .i64 2, .string n, .string s, .string d]] w fun e w' => e = .returned (.tuple #[.iface 119 (.agg #[.string n, .string s]), .bool false]) ∧ Below w.heap.size w w' := by
  have hnH : Hid (nmOk n = true) := hn
  clear hn
  have hsH : Hid (nmOk s = true) := hs
  clear hs
  have hd' := emp_no hd
  have hd'' := emp_no2 hd
  clear hd
  have hB : Hid (Below w.heap.size w (w.alloc (.cells #[.int .i64 2, .string n, .string s, .string d] 36))) := (Below.refl _ _).alloc (Nat.le_refl _) _
  go_enter Try.func52, Try.ntmps52
  have hn2 : nmOk n = true := hnH.out
  have hov : ∀ v q, (over (w.alloc (.cells #[.int .i64 2, .string n, .string s, .string d] 36)) v).cell? ⟨w.heap.size, q, none⟩ = (w.alloc (.cells #[.int .i64 2, .string n, .string s, .string d] 36)).cell? ⟨w.heap.size, q, none⟩ := fun v q => (below_over _ v).cell (p := ⟨w.heap.size, q, none⟩) (by simp)
  go_wp2_with (go_at_call 76; refine (implNameE n _).mono ?_; rintro e w1 ⟨rfl, rfl⟩)
  refine wp_region_over (by kernel_rfl) (by kernel_rfl) ?_
  repeat (go_big_quiet_step ((first | (go_at_call 76; exact Calls.over_of (implName_yes s _ hsH.out)))))
  refine wpQuiet_nil ?_
  intro _ hw'
  obtain ⟨vq, hw''⟩ := hw'
  subst hw''
  go_wp2
  go_ret2
  exact ⟨rfl, hB.out.trans ((below_over _ vq).mono hB.out.size)⟩
set_option maxHeartbeats 1000000 in
theorem fop_2m (n s d : ByteArray) (w : World) (hn : nmOk n = true) (hs : nmOk s = false) :
    Calls Try.prog 52 #[.agg #[.int .i64 2, .string n, .string s, .string d]] w fun e w' => e = .returned (.tuple #[.iface 119 (.agg #[.string n, .string s]), .bool false]) ∧ Below w.heap.size w w' := by
  have hnH : Hid (nmOk n = true) := hn
  clear hn
  have hsH : Hid (nmOk s = false) := hs
  clear hs
  have hB : Hid (Below w.heap.size w (w.alloc (.cells #[.int .i64 2, .string n, .string s, .string d] 36))) := (Below.refl _ _).alloc (Nat.le_refl _) _
  go_enter Try.func52, Try.ntmps52
  have hn2 : nmOk n = true := hnH.out
  have hov : ∀ v q, (over (w.alloc (.cells #[.int .i64 2, .string n, .string s, .string d] 36)) v).cell? ⟨w.heap.size, q, none⟩ = (w.alloc (.cells #[.int .i64 2, .string n, .string s, .string d] 36)).cell? ⟨w.heap.size, q, none⟩ := fun v q => (below_over _ v).cell (p := ⟨w.heap.size, q, none⟩) (by simp)
  go_wp2_with (go_at_call 76; refine (implNameE n _).mono ?_; rintro e w1 ⟨rfl, rfl⟩)
  refine wp_region_over (by kernel_rfl) (by kernel_rfl) ?_
  repeat (go_big_quiet_step ((first | (go_at_call 76; exact Calls.over_of (implName_no s _ hsH.out)))))
  refine wpQuiet_nil ?_
  intro _ hw'
  obtain ⟨vq, hw''⟩ := hw'
  subst hw''
  go_wp2
  go_ret2
  exact ⟨rfl, hB.out.trans ((below_over _ vq).mono hB.out.size)⟩
set_option maxHeartbeats 1000000 in
theorem fop_3y (n s d : ByteArray) (w : World) (hn : nmOk n = true) (hs : empB s = true) (hd : empB d = true) :
    Calls Try.prog 52 #[.agg #[.int .i64 3, .string n, .string s, .string d]] w fun e w' => e = .returned (.tuple #[.iface 121 (.agg #[.string n]), .bool true]) ∧ Below w.heap.size w w' := by
  have hnH : Hid (nmOk n = true) := hn
  clear hn
  have hs := emp_yes hs
  have hd := emp_yes hd
  have hB : Hid (Below w.heap.size w (w.alloc (.cells #[.int .i64 3, .string n, .string s, .string d] 36))) := (Below.refl _ _).alloc (Nat.le_refl _) _
  go_enter Try.func52, Try.ntmps52
  have hn2 : nmOk n = true := hnH.out
  have hov : ∀ v q, (over (w.alloc (.cells #[.int .i64 3, .string n, .string s, .string d] 36)) v).cell? ⟨w.heap.size, q, none⟩ = (w.alloc (.cells #[.int .i64 3, .string n, .string s, .string d] 36)).cell? ⟨w.heap.size, q, none⟩ := fun v q => (below_over _ v).cell (p := ⟨w.heap.size, q, none⟩) (by simp)
  go_wp2_with (go_at_call 76; refine (implNameE n _).mono ?_; rintro e w1 ⟨rfl, rfl⟩)
  refine wp_region_over (by kernel_rfl) (by kernel_rfl) ?_
  repeat (go_big_quiet_step ((first | fail)))
  refine wpQuiet_nil ?_
  intro _ hw'
  obtain ⟨vq, hw''⟩ := hw'
  subst hw''
  go_wp2
  go_ret2
  exact ⟨rfl, hB.out.trans ((below_over _ vq).mono hB.out.size)⟩
set_option maxHeartbeats 1000000 in
theorem fop_3n (n s d : ByteArray) (w : World) (hn : nmOk n = true) (hs : empB s = true) (hd : empB d = false) :
    Calls Try.prog 52 #[.agg #[.int .i64 3, .string n, .string s, .string d]] w fun e w' => e = .returned (.tuple #[.iface 121 (.agg #[.string n]), .bool false]) ∧ Below w.heap.size w w' := by
  have hnH : Hid (nmOk n = true) := hn
  clear hn
  have hs := emp_yes hs
  have hd' := emp_no hd
  have hd'' := emp_no2 hd
  clear hd
  have hB : Hid (Below w.heap.size w (w.alloc (.cells #[.int .i64 3, .string n, .string s, .string d] 36))) := (Below.refl _ _).alloc (Nat.le_refl _) _
  go_enter Try.func52, Try.ntmps52
  have hn2 : nmOk n = true := hnH.out
  have hov : ∀ v q, (over (w.alloc (.cells #[.int .i64 3, .string n, .string s, .string d] 36)) v).cell? ⟨w.heap.size, q, none⟩ = (w.alloc (.cells #[.int .i64 3, .string n, .string s, .string d] 36)).cell? ⟨w.heap.size, q, none⟩ := fun v q => (below_over _ v).cell (p := ⟨w.heap.size, q, none⟩) (by simp)
  go_wp2_with (go_at_call 76; refine (implNameE n _).mono ?_; rintro e w1 ⟨rfl, rfl⟩)
  refine wp_region_over (by kernel_rfl) (by kernel_rfl) ?_
  repeat (go_big_quiet_step ((first | fail)))
  refine wpQuiet_nil ?_
  intro _ hw'
  obtain ⟨vq, hw''⟩ := hw'
  subst hw''
  go_wp2
  go_ret2
  exact ⟨rfl, hB.out.trans ((below_over _ vq).mono hB.out.size)⟩
set_option maxHeartbeats 1000000 in
theorem fop_3m (n s d : ByteArray) (w : World) (hn : nmOk n = true) (hs : empB s = false) :
    Calls Try.prog 52 #[.agg #[.int .i64 3, .string n, .string s, .string d]] w fun e w' => e = .returned (.tuple #[.iface 121 (.agg #[.string n]), .bool false]) ∧ Below w.heap.size w w' := by
  have hnH : Hid (nmOk n = true) := hn
  clear hn
  have hs' := emp_no hs
  have hs'' := emp_no2 hs
  clear hs
  have hB : Hid (Below w.heap.size w (w.alloc (.cells #[.int .i64 3, .string n, .string s, .string d] 36))) := (Below.refl _ _).alloc (Nat.le_refl _) _
  go_enter Try.func52, Try.ntmps52
  have hn2 : nmOk n = true := hnH.out
  have hov : ∀ v q, (over (w.alloc (.cells #[.int .i64 3, .string n, .string s, .string d] 36)) v).cell? ⟨w.heap.size, q, none⟩ = (w.alloc (.cells #[.int .i64 3, .string n, .string s, .string d] 36)).cell? ⟨w.heap.size, q, none⟩ := fun v q => (below_over _ v).cell (p := ⟨w.heap.size, q, none⟩) (by simp)
  go_wp2_with (go_at_call 76; refine (implNameE n _).mono ?_; rintro e w1 ⟨rfl, rfl⟩)
  refine wp_region_over (by kernel_rfl) (by kernel_rfl) ?_
  repeat (go_big_quiet_step ((first | fail)))
  refine wpQuiet_nil ?_
  intro _ hw'
  obtain ⟨vq, hw''⟩ := hw'
  subst hw''
  go_wp2
  go_ret2
  exact ⟨rfl, hB.out.trans ((below_over _ vq).mono hB.out.size)⟩
end Go.Proofs.Ytcalgmhpagpnnaa
