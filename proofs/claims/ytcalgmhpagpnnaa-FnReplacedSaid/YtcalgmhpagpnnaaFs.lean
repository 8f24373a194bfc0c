/- Right files: filesOk of the program, l7Files of the specification. Conditions: the files lie in memory, at most 1048576 of them, of at most 2^40 bytes. -/
import Derived.Test.YtcalgmhpagpnnaaFr
import Derived.Test.YtcalgmhpagpnnaaLs
namespace Go.Proofs.Ytcalgmhpagpnnaa
open Go.RowKit
set_option maxRecDepth 8000

theorem retB {b c : Bool} (h : b = c) : Ending.returned (.bool c) = Ending.returned (.bool b) := by rw [h]
theorem implNameE (s : ByteArray) (w : World) :
    Calls Try.prog 76 #[.string s] w fun e w' => e = .returned (.bool (nmOk s)) ∧ w' = w := by
  by_cases h1 : 1 ≤ s.size
  · have h1' : (1 : Int) ≤ (s.size : Int) := by omega
    by_cases h2 : s.size ≤ 100
    · have h2' : (s.size : Int) ≤ 100 := by omega
      have E : Hid (nmOk s = true) := decide_eq_true (by omega)
      go_enter Try.func76, Try.ntmps76
      go_wp2
      go_ret
      exact ⟨retB E.out, rfl⟩
    · have h2' : decide ((s.size : Int) ≤ 100) = false := decide_eq_false (by omega)
      have E : Hid (nmOk s = false) := decide_eq_false (by omega)
      go_enter Try.func76, Try.ntmps76
      go_wp2
      go_ret
      exact ⟨retB E.out, rfl⟩
  · have h1' : decide ((1 : Int) ≤ (s.size : Int)) = false := decide_eq_false (by omega)
    have E : Hid (nmOk s = false) := decide_eq_false (by omega)
    go_enter Try.func76, Try.ntmps76
    go_wp2
    go_ret
    exact ⟨retB E.out, rfl⟩
theorem implName (s : ByteArray) (w : World) : Calls Try.prog 76 #[.string s] w fun e w' => e = .returned (.bool (nmOk s)) ∧ Below w.heap.size w w' :=
  (implNameE s w).mono fun _ _ ⟨h1, h2⟩ => ⟨h1, by rw [h2]; exact Below.refl _ _⟩
theorem implName_yes (s : ByteArray) (w : World) (h : nmOk s = true) : Calls Try.prog 76 #[.string s] w fun e w' => e = .returned (.bool true) ∧ Below w.heap.size w w' := by
  have := implName s w
  rwa [h] at this
theorem implName_no (s : ByteArray) (w : World) (h : nmOk s = false) : Calls Try.prog 76 #[.string s] w fun e w' => e = .returned (.bool false) ∧ Below w.heap.size w w' := by
  have := implName s w
  rwa [h] at this
theorem specNameE (s : ByteArray) (w : World) :
    Calls Try.prog 80 #[.string s] w fun e w' => e = .returned (.bool (nmOk s)) ∧ w' = w := by
  by_cases h1 : 1 ≤ s.size
  · have h1' : (1 : Int) ≤ (s.size : Int) := by omega
    by_cases h2 : s.size ≤ 100
    · have h2' : (s.size : Int) ≤ 100 := by omega
      have E : Hid (nmOk s = true) := decide_eq_true (by omega)
      go_enter Try.func80, Try.ntmps80
      go_wp2
      go_ret
      exact ⟨retB E.out, rfl⟩
    · have h2' : decide ((s.size : Int) ≤ 100) = false := decide_eq_false (by omega)
      have E : Hid (nmOk s = false) := decide_eq_false (by omega)
      go_enter Try.func80, Try.ntmps80
      go_wp2
      go_ret
      exact ⟨retB E.out, rfl⟩
  · have h1' : decide ((1 : Int) ≤ (s.size : Int)) = false := decide_eq_false (by omega)
    have E : Hid (nmOk s = false) := decide_eq_false (by omega)
    go_enter Try.func80, Try.ntmps80
    go_wp2
    go_ret
    exact ⟨retB E.out, rfl⟩
theorem specName (s : ByteArray) (w : World) : Calls Try.prog 80 #[.string s] w fun e w' => e = .returned (.bool (nmOk s)) ∧ Below w.heap.size w w' :=
  (specNameE s w).mono fun _ _ ⟨h1, h2⟩ => ⟨h1, by rw [h2]; exact Below.refl _ _⟩
theorem specName_yes (s : ByteArray) (w : World) (h : nmOk s = true) : Calls Try.prog 80 #[.string s] w fun e w' => e = .returned (.bool true) ∧ Below w.heap.size w w' := by
  have := specName s w
  rwa [h] at this
theorem specName_no (s : ByteArray) (w : World) (h : nmOk s = false) : Calls Try.prog 80 #[.string s] w fun e w' => e = .returned (.bool false) ∧ Below w.heap.size w w' := by
  have := specName s w
  rwa [h] at this
theorem implRoom (m s : Nat) (w : World) :
    Calls Try.prog 77 #[.int .i64 m, .int .i64 s] w fun e w' => e = .returned (.bool (decide (m ≤ 60 ∧ s ≤ 200000))) ∧ Below w.heap.size w w' := by
  by_cases h1 : m ≤ 60
  · have h1' : (m : Int) ≤ 60 := by omega
    by_cases h2 : s ≤ 200000
    · have h2' : (s : Int) ≤ 200000 := by omega
      have E : Hid (decide (m ≤ 60 ∧ s ≤ 200000) = true) := decide_eq_true ⟨h1, h2⟩
      go_enter Try.func77, Try.ntmps77
      go_wp2
      go_ret
      exact ⟨retB E.out, Below.refl _ _⟩
    · have h2' : decide ((s : Int) ≤ 200000) = false := decide_eq_false (by omega)
      have E : Hid (decide (m ≤ 60 ∧ s ≤ 200000) = false) := decide_eq_false (fun h => h2 h.2)
      go_enter Try.func77, Try.ntmps77
      go_wp2
      go_ret
      exact ⟨retB E.out, Below.refl _ _⟩
  · have h1' : decide ((m : Int) ≤ 60) = false := decide_eq_false (by omega)
    have E : Hid (decide (m ≤ 60 ∧ s ≤ 200000) = false) := decide_eq_false (fun h => h1 h.1)
    go_enter Try.func77, Try.ntmps77
    go_wp2
    go_ret
    exact ⟨retB E.out, Below.refl _ _⟩

set_option maxHeartbeats 2000000 in
theorem implFiles (a : Option Addr) (n c : Nat) (F : Nat → Fl) (w : World) (h : Fls w a n F) (hS : byt (lst F n) ≤ 1099511627776) :
    Calls Try.prog 41 #[.slice a n c] w fun e w' => e = .returned (.bool (filesB (lst F n))) ∧ Below w.heap.size w w' := by
  have H : Hid (Fls w a n F) := h
  have hS : Hid (byt (lst F n) ≤ 1099511627776) := hS
  have hn := h.1
  clear h
  go_enter Try.func41, Try.ntmps41
  go_wp2
  go_loopw [3, 8] (fun t i wr => ∃ k s : Nat, k ≤ n ∧ i = .int .i64 k ∧ t = .int .i64 s ∧ Hid (s = byt (lst F k)) ∧ Hid (∀ j, j < k → nmOk (F j).name = true) ∧ Hid (∀ j, 0 < j → j < k → lt (F (j - 1)).name (F j).name = true) ∧ Hid (Below w.heap.size w wr)) (fun _ i _ => n - (intOf i).toNat)
  case atStart => exact ⟨0, 0, Nat.zero_le _, rfl, rfl, rfl, fun j hj => absurd hj (Nat.not_lt_zero _), fun j _ hj => absurd hj (Nat.not_lt_zero _), Below.refl _ _⟩
  case round =>
    obtain ⟨k, s, hk, rfl, rfl, hs, hok, hri, hB⟩ := hrel
    by_cases hlt : k < n
    · obtain ⟨b, o, rfl, hb0, hA0⟩ := H.out.acc hlt
      have hb : b < wr.heap.size := Nat.lt_of_lt_of_le hb0 hB.out.size
      have hA := hA0.of_cells (w' := wr) (fun q => hB.out.cell (p := ⟨b, q, none⟩) hb0)
      clear hA0
      obtain ⟨c0, c1⟩ := hA
      have hsb : s + (F k).data.size ≤ 1099511627776 := by rw [hs.out]; exact Nat.le_trans (byt_at hlt) hS.out
      have hov : ∀ v q, (over (wr.alloc (.cells #[.string (F k).name, .string (F k).data] 75)) v).cell? ⟨b, q, none⟩ = (wr.alloc (.cells #[.string (F k).name, .string (F k).data] 75)).cell? ⟨b, q, none⟩ := fun v q => (below_over _ v).cell (p := ⟨b, q, none⟩) (by simp; omega)
      have hov2 : ∀ v q, (over (wr.alloc (.cells #[.string (F k).name, .string (F k).data] 75)) v).cell? ⟨wr.heap.size, q, none⟩ = (wr.alloc (.cells #[.string (F k).name, .string (F k).data] 75)).cell? ⟨wr.heap.size, q, none⟩ := fun v q => (below_over _ v).cell (p := ⟨wr.heap.size, q, none⟩) (by simp)
      by_cases hnm : nmOk (F k).name = true
      · have HS : Hid (nmOk (F k).name = true) := hnm
        have HK : Hid (∀ j, j < k + 1 → nmOk (F j).name = true) := fun j hj => by
          by_cases e : j = k
          · subst e; exact hnm
          · exact hok.out j (by omega)
        clear hnm
        by_cases hk0 : 0 < k
        · obtain ⟨b', o', e', hb0', hA0'⟩ := H.out.acc (show k - 1 < n by omega)
          obtain ⟨rfl, rfl⟩ : b = b' ∧ o = o' := by simpa using e'
          have d0 : wr.cell? ⟨b, o + (k - 1) * 2, none⟩ = some (.string (F (k - 1)).name) := by
            rw [hB.out.cell (p := ⟨b, o + (k - 1) * 2, none⟩) hb0]; exact hA0'.1
          clear e' hA0' hb0'
          have g0 : (0 : Int) < (k : Int) := by omega
          by_cases hr : lt (F (k - 1)).name (F k).name = true
          · have HR : Hid (∀ j, 0 < j → j < k + 1 → lt (F (j - 1)).name (F j).name = true) := fun j h1 h2 => by
              by_cases e : j = k
              · subst e; exact hr
              · exact hri.out j h1 (by omega)
            have hd : Op.bytesLess (F (k - 1)).name.toList (F k).name.toList = true := hr
            clear hr
            go_wp2
            refine wp_region_over (by kernel_rfl) (by kernel_rfl) ?_
            repeat (go_big_quiet_step ((first | (go_at_call 76; exact Calls.over_of (implName_yes (F k).name _ HS.out)))))
            refine wpQuiet_nil ?_
            intro _ hw'
            obtain ⟨vq, hw''⟩ := hw'
            subst hw''
            go_wp2
            go_roundw
            case rel => exact ⟨k + 1, s + (F k).data.size, by omega, by go_num, by go_num, (by rw [lst_succ, byt_snoc, ← hs.out] : s + (F k).data.size = byt (lst F (k + 1))), HK, HR, (hB.out.alloc hB.out.size _).trans ((below_over _ vq).mono (by have := hB.out.size; simp; omega))⟩
            case measure => simp [intOf]; omega
          · have NR : Hid (filesB (lst F n) = false) := filesB_no_rise hlt hk0 (by simpa using hr)
            have hr' : lt (F (k - 1)).name (F k).name = false := by simpa using hr
            have hd : Op.bytesLess (F (k - 1)).name.toList (F k).name.toList = false := hr'
            clear hr hr'
            go_wp2
            refine wp_region_over (by kernel_rfl) (by kernel_rfl) ?_
            repeat (go_big_quiet_step ((first | (go_at_call 76; exact Calls.over_of (implName_yes (F k).name _ HS.out)))))
            refine wpQuiet_nil ?_
            intro _ hw'
            obtain ⟨vq, hw''⟩ := hw'
            subst hw''
            go_wp2
            go_ret
            exact ⟨retB NR.out, (hB.out.alloc hB.out.size _).trans ((below_over _ vq).mono (by have := hB.out.size; simp; omega))⟩
        · have g0 : decide (0 < k) = false := decide_eq_false (by omega)
          have HR : Hid (∀ j, 0 < j → j < k + 1 → lt (F (j - 1)).name (F j).name = true) := fun j h1 h2 => by omega
          have hk1 : k ≤ 0 := by omega
          clear hk0
          go_wp2
          refine wp_region_over (by kernel_rfl) (by kernel_rfl) ?_
          repeat (go_big_quiet_step ((first | (go_at_call 76; exact Calls.over_of (implName_yes (F k).name _ HS.out)))))
          refine wpQuiet_nil ?_
          intro _ hw'
          obtain ⟨vq, hw''⟩ := hw'
          subst hw''
          go_wp2
          go_roundw
          case rel => exact ⟨k + 1, s + (F k).data.size, by omega, by go_num, by go_num, (by rw [lst_succ, byt_snoc, ← hs.out] : s + (F k).data.size = byt (lst F (k + 1))), HK, HR, (hB.out.alloc hB.out.size _).trans ((below_over _ vq).mono (by have := hB.out.size; simp; omega))⟩
          case measure => simp [intOf]; omega
      · have NR : Hid (filesB (lst F n) = false) := filesB_no_name hlt (by simpa using hnm)
        have HS : Hid (nmOk (F k).name = false) := (by simpa using hnm : nmOk (F k).name = false)
        clear hnm
        go_wp2
        refine wp_region_over (by kernel_rfl) (by kernel_rfl) ?_
        repeat (go_big_quiet_step ((first | (go_at_call 76; exact Calls.over_of (implName_no (F k).name _ HS.out)))))
        refine wpQuiet_nil ?_
        intro _ hw'
        obtain ⟨vq, hw''⟩ := hw'
        subst hw''
        go_wp2
        go_ret
        exact ⟨retB NR.out, (hB.out.alloc hB.out.size _).trans ((below_over _ vq).mono (by have := hB.out.size; simp; omega))⟩
    · have hkn : k = n := by omega
      subst hkn
      have E : Hid (filesB (lst F k) = decide (k ≤ 60 ∧ s ≤ 200000)) := (by rw [hs.out]; exact filesB_end hok.out hri.out : filesB (lst F k) = decide (k ≤ 60 ∧ s ≤ 200000))
      clear hlt hk
      go_wp2_with (go_at_call 77; refine (implRoom k s _).mono ?_; rintro e w1 ⟨rfl, B1⟩)
      go_ret
      exact ⟨retB (E.out.trans (Bool.decide_and _ _)), hB.out.trans (B1.mono hB.out.size)⟩

set_option maxHeartbeats 2000000 in
theorem specFiles (a : Option Addr) (n c : Nat) (F : Nat → Fl) (w : World) (h : Fls w a n F) (hS : byt (lst F n) ≤ 1099511627776) :
    Calls Try.prog 46 #[.slice a n c] w fun e w' => e = .returned (.bool (filesB (lst F n))) ∧ Below w.heap.size w w' := by
  have H : Hid (Fls w a n F) := h
  have hS : Hid (byt (lst F n) ≤ 1099511627776) := hS
  have hn := h.1
  clear h
  by_cases h60 : n ≤ 60
  rotate_left
  · have R : Hid (filesB (lst F n) = false) := filesB_long (by omega)
    have h60' : (60 : Int) < (n : Int) := by omega
    go_enter Try.func46, Try.ntmps46
    go_wp2
    go_ret
    exact ⟨retB R.out, Below.refl _ _⟩
  go_enter Try.func46, Try.ntmps46
  go_wp2
  go_loopw [3, 4] (fun t i wr => ∃ k s : Nat, k ≤ n ∧ i = .int .i64 k ∧ t = .int .i64 s ∧ Hid (s = byt (lst F k)) ∧ Hid (∀ j, j < k → nmOk (F j).name = true) ∧ Hid (∀ j, 0 < j → j < k → lt (F (j - 1)).name (F j).name = true) ∧ Hid (Below w.heap.size w wr)) (fun _ i _ => n - (intOf i).toNat)
  case atStart => exact ⟨0, 0, Nat.zero_le _, rfl, rfl, rfl, fun j hj => absurd hj (Nat.not_lt_zero _), fun j _ hj => absurd hj (Nat.not_lt_zero _), Below.refl _ _⟩
  case round =>
    obtain ⟨k, s, hk, rfl, rfl, hs, hok, hri, hB⟩ := hrel
    by_cases hlt : k < n
    · obtain ⟨b, o, rfl, hb0, hA0⟩ := H.out.acc hlt
      have hb : b < wr.heap.size := Nat.lt_of_lt_of_le hb0 hB.out.size
      have hA := hA0.of_cells (w' := wr) (fun q => hB.out.cell (p := ⟨b, q, none⟩) hb0)
      clear hA0
      obtain ⟨c0, c1⟩ := hA
      have hsb : s + (F k).data.size ≤ 1099511627776 := by rw [hs.out]; exact Nat.le_trans (byt_at hlt) hS.out
      have hov : ∀ v q, (over wr v).cell? ⟨b, q, none⟩ = wr.cell? ⟨b, q, none⟩ := fun v q => (below_over _ v).cell (p := ⟨b, q, none⟩) (by exact hb)
      by_cases hnm : nmOk (F k).name = true
      · have HS : Hid (nmOk (F k).name = true) := hnm
        have HK : Hid (∀ j, j < k + 1 → nmOk (F j).name = true) := fun j hj => by
          by_cases e : j = k
          · subst e; exact hnm
          · exact hok.out j (by omega)
        clear hnm
        by_cases hk0 : 0 < k
        · obtain ⟨b', o', e', hb0', hA0'⟩ := H.out.acc (show k - 1 < n by omega)
          obtain ⟨rfl, rfl⟩ : b = b' ∧ o = o' := by simpa using e'
          have d0 : wr.cell? ⟨b, o + (k - 1) * 2, none⟩ = some (.string (F (k - 1)).name) := by
            rw [hB.out.cell (p := ⟨b, o + (k - 1) * 2, none⟩) hb0]; exact hA0'.1
          clear e' hA0' hb0'
          have g0 : (0 : Int) < (k : Int) := by omega
          by_cases hr : lt (F (k - 1)).name (F k).name = true
          · have HR : Hid (∀ j, 0 < j → j < k + 1 → lt (F (j - 1)).name (F j).name = true) := fun j h1 h2 => by
              by_cases e : j = k
              · subst e; exact hr
              · exact hri.out j h1 (by omega)
            have hd : Op.bytesLess (F k).name.toList (F (k - 1)).name.toList = false := lt_asymm hr
            have hd2 : ((F k).name.toList == (F (k - 1)).name.toList) = false := by rw [beq_name]; exact decide_eq_false (fun e => lt_ne hr e.symm)
            clear hr
            go_wp2
            refine wp_region_over (by kernel_rfl) (by kernel_rfl) ?_
            repeat (go_big_quiet_step ((first | (go_at_call 80; exact Calls.over_of (specName_yes (F k).name _ HS.out)))))
            refine wpQuiet_nil ?_
            intro _ hw'
            obtain ⟨vq, hw''⟩ := hw'
            subst hw''
            go_wp2
            go_roundw
            case rel => exact ⟨k + 1, s + (F k).data.size, by omega, by go_num, by go_num, (by rw [lst_succ, byt_snoc, ← hs.out] : s + (F k).data.size = byt (lst F (k + 1))), HK, HR, hB.out.trans ((below_over wr vq).mono hB.out.size)⟩
            case measure => simp [intOf]; omega
          · have NR : Hid (filesB (lst F n) = false) := filesB_no_rise hlt hk0 (by simpa using hr)
            have hr' : lt (F (k - 1)).name (F k).name = false := by simpa using hr
            have hd : (Op.bytesLess (F k).name.toList (F (k - 1)).name.toList || ((F k).name.toList == (F (k - 1)).name.toList)) = true := by
              rw [beq_name]
              rcases lt_tri hr' with e | e
              · rw [decide_eq_true e.symm]; simp
              · have e2 : Op.bytesLess (F k).name.toList (F (k - 1)).name.toList = true := e
                rw [e2]; rfl
            clear hr hr'
            go_wp2
            refine wp_region_over (by kernel_rfl) (by kernel_rfl) ?_
            repeat (go_big_quiet_step ((first | (go_at_call 80; exact Calls.over_of (specName_yes (F k).name _ HS.out)))))
            refine wpQuiet_nil ?_
            intro _ hw'
            obtain ⟨vq, hw''⟩ := hw'
            subst hw''
            go_wp2
            go_ret
            exact ⟨retB NR.out, hB.out.trans ((below_over wr vq).mono hB.out.size)⟩
        · have g0 : decide (0 < k) = false := decide_eq_false (by omega)
          have HR : Hid (∀ j, 0 < j → j < k + 1 → lt (F (j - 1)).name (F j).name = true) := fun j h1 h2 => by omega
          have hk1 : k ≤ 0 := by omega
          clear hk0
          go_wp2
          refine wp_region_over (by kernel_rfl) (by kernel_rfl) ?_
          repeat (go_big_quiet_step ((first | (go_at_call 80; exact Calls.over_of (specName_yes (F k).name _ HS.out)))))
          refine wpQuiet_nil ?_
          intro _ hw'
          obtain ⟨vq, hw''⟩ := hw'
          subst hw''
          go_wp2
          go_roundw
          case rel => exact ⟨k + 1, s + (F k).data.size, by omega, by go_num, by go_num, (by rw [lst_succ, byt_snoc, ← hs.out] : s + (F k).data.size = byt (lst F (k + 1))), HK, HR, hB.out.trans ((below_over wr vq).mono hB.out.size)⟩
          case measure => simp [intOf]; omega
      · have NR : Hid (filesB (lst F n) = false) := filesB_no_name hlt (by simpa using hnm)
        have HS : Hid (nmOk (F k).name = false) := (by simpa using hnm : nmOk (F k).name = false)
        clear hnm
        go_wp2
        refine wp_region_over (by kernel_rfl) (by kernel_rfl) ?_
        repeat (go_big_quiet_step ((first | (go_at_call 80; exact Calls.over_of (specName_no (F k).name _ HS.out)))))
        refine wpQuiet_nil ?_
        intro _ hw'
        obtain ⟨vq, hw''⟩ := hw'
        subst hw''
        go_wp2
        go_ret
        exact ⟨retB NR.out, hB.out.trans ((below_over wr vq).mono hB.out.size)⟩
    · have hkn : k = n := by omega
      subst hkn
      clear hlt hk
      by_cases h2 : s ≤ 200000
      · have h2' : decide ((s : Int) ≤ 200000) = true := decide_eq_true (by omega)
        have E : Hid (filesB (lst F k) = true) := (by rw [filesB_end hok.out hri.out, ← hs.out]; exact decide_eq_true ⟨h60, h2⟩ : filesB (lst F k) = true)
        go_wp2
        go_ret
        exact ⟨retB E.out, hB.out⟩
      · have h2' : decide ((s : Int) ≤ 200000) = false := decide_eq_false (by omega)
        have E : Hid (filesB (lst F k) = false) := (by rw [filesB_end hok.out hri.out, ← hs.out]; exact decide_eq_false (fun h => h2 h.2) : filesB (lst F k) = false)
        go_wp2
        go_ret
        exact ⟨retB E.out, hB.out⟩
end Go.Proofs.Ytcalgmhpagpnnaa
