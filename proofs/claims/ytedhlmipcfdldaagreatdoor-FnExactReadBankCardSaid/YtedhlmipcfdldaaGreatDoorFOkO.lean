/- OrdersOk, of the program and of the specification: both tell whether orders are right. Conditions: the orders lie in memory, at most 1048576 of them. -/
import Derived.Test.YtedhlmipcfdldaaGreatDoorFOrds
import Derived.Test.YtedhlmipcfdldaaGreatDoorFOrd
namespace Go.Proofs.YtedhlmipcfdldaaGreatDoor
open Go.RowKit
set_option maxRecDepth 8000

theorem specOrd_yes (o : Ord) (w : World) (h : ordOk o) :
    Calls Tryz.prog 53 #[.agg #[.int .i64 o.id, .int .i64 o.src, .int .i64 o.dst, .int .i64 o.amount, .int .i64 o.first, .int .i64 o.every, .int .i64 o.times]] w fun e w' => e = .returned (.bool true) ∧ Below w.heap.size w w' :=
  (specOrd o w).mono fun e w' ⟨⟨b, he, _, h2⟩, hB⟩ => ⟨by cases b with | true => exact he | false => exact absurd h (h2 rfl), hB⟩
theorem specOrd_no (o : Ord) (w : World) (h : ¬ ordOk o) :
    Calls Tryz.prog 53 #[.agg #[.int .i64 o.id, .int .i64 o.src, .int .i64 o.dst, .int .i64 o.amount, .int .i64 o.first, .int .i64 o.every, .int .i64 o.times]] w fun e w' => e = .returned (.bool false) ∧ Below w.heap.size w w' :=
  (specOrd o w).mono fun e w' ⟨⟨b, he, h1, _⟩, hB⟩ => ⟨by cases b with | false => exact he | true => exact absurd (h1 rfl) h, hB⟩
theorem implOrd_yes (o : Ord) (w : World) (h : ordOk o) :
    Calls Tryz.prog 59 #[.agg #[.int .i64 o.id, .int .i64 o.src, .int .i64 o.dst, .int .i64 o.amount, .int .i64 o.first, .int .i64 o.every, .int .i64 o.times]] w fun e w' => e = .returned (.bool true) ∧ Below w.heap.size w w' :=
  (implOrd o w).mono fun e w' ⟨⟨b, he, _, h2⟩, hB⟩ => ⟨by cases b with | true => exact he | false => exact absurd h (h2 rfl), hB⟩
theorem implOrd_no (o : Ord) (w : World) (h : ¬ ordOk o) :
    Calls Tryz.prog 59 #[.agg #[.int .i64 o.id, .int .i64 o.src, .int .i64 o.dst, .int .i64 o.amount, .int .i64 o.first, .int .i64 o.every, .int .i64 o.times]] w fun e w' => e = .returned (.bool false) ∧ Below w.heap.size w w' :=
  (implOrd o w).mono fun e w' ⟨⟨b, he, h1, _⟩, hB⟩ => ⟨by cases b with | false => exact he | true => exact absurd (h1 rfl) h, hB⟩

/-- Right orders. -/
def RightO (F : Nat → Ord) (n : Nat) : Prop := n ≤ 8 ∧ (∀ i, i < n → ordOk (F i)) ∧ ∀ i, 0 < i → i < n → (F (i - 1)).id < (F i).id

set_option maxHeartbeats 2000000 in
theorem specOrds (a : Option Addr) (n c : Nat) (F : Nat → Ord) (w : World) (h : Ords w a n F) :
    Calls Tryz.prog 35 #[.slice a n c] w fun e w' => Tells e (RightO F n) ∧ Below w.heap.size w w' := by
  have H : Hid (Ords w a n F) := h
  have hn := h.1
  clear h
  go_enter Tryz.func35, Tryz.ntmps35
  go_wp2
  go_loopw [3] (fun i wr => ∃ k : Nat, k ≤ n ∧ i = .int .i64 k ∧ Hid (∀ j, j < k → ordOk (F j)) ∧ Hid (∀ j, 0 < j → j < k → (F (j - 1)).id < (F j).id) ∧ Hid (Below w.heap.size w wr)) (fun i _ => n - (intOf i).toNat)
  case atStart => exact ⟨0, Nat.zero_le _, rfl, fun j hj => absurd hj (Nat.not_lt_zero _), fun j _ hj => absurd hj (Nat.not_lt_zero _), Below.refl _ _⟩
  case round =>
    obtain ⟨k, hk, rfl, hok, hri, hB⟩ := hrel
    by_cases hlt : k < n
    · obtain ⟨b, o, rfl, hb0, hA0⟩ := H.out.acc hlt
      have hb : b < wr.heap.size := Nat.lt_of_lt_of_le hb0 hB.out.size
      have hA := hA0.of_cells (w' := wr) (fun q => hB.out.cell (p := ⟨b, q, none⟩) hb0)
      clear hA0
      obtain ⟨c0, c1, c2, c3, c4, c5, c6⟩ := hA
      have hov : ∀ v q, (over wr v).cell? ⟨b, q, none⟩ = wr.cell? ⟨b, q, none⟩ := fun v q => (below_over wr v).cell (p := ⟨b, q, none⟩) hb
      by_cases hoks : ordOk (F k)
      · have HS : Hid (ordOk (F k)) := hoks
        have HK : Hid (∀ j, j < k + 1 → ordOk (F j)) := fun j hj => by
          by_cases e : j = k
          · subst e; exact hoks
          · exact hok.out j (by omega)
        clear hoks
        by_cases hk0 : 0 < k
        · obtain ⟨b', o', e', hb0', hA0'⟩ := H.out.acc (show k - 1 < n by omega)
          obtain ⟨rfl, rfl⟩ : b = b' ∧ o = o' := by simpa using e'
          have d0 : wr.cell? ⟨b, o + (k - 1) * 7, none⟩ = some (.int .i64 (F (k - 1)).id) := by
            rw [hB.out.cell (p := ⟨b, o + (k - 1) * 7, none⟩) hb0]; exact hA0'.1
          clear e' hA0' hb0'
          have g0 : (0 : Int) < (k : Int) := by omega
          by_cases hr : (F (k - 1)).id < (F k).id
          · have HR : Hid (∀ j, 0 < j → j < k + 1 → (F (j - 1)).id < (F j).id) := fun j h1 h2 => by
              by_cases e : j = k
              · subst e; exact hr
              · exact hri.out j h1 (by omega)
            have hr' : ¬ (F k).id ≤ (F (k - 1)).id := by omega
            have hd : decide ((F k).id ≤ (F (k - 1)).id) = false := decide_eq_false hr'
            go_wp2
            refine wp_region_over (by kernel_rfl) (by kernel_rfl) ?_
            repeat (go_big_quiet_step ((first | (go_at_call 53; exact Calls.over_of (specOrd_yes (F k) _ HS.out)))))
            refine wpQuiet_nil ?_
            intro _ hw'
            obtain ⟨vq, hw''⟩ := hw'
            subst hw''
            go_wp2
            go_roundw
            case rel => exact ⟨k + 1, by omega, by go_num, HK, HR, hB.out.trans ((below_over wr vq).mono hB.out.size)⟩
            case measure => simp [intOf]; omega
          · have NR : Hid (¬ RightO F n) := fun hh => hr (hh.2.2 k hk0 hlt)
            have hr' : (F k).id ≤ (F (k - 1)).id := by omega
            clear hr
            go_wp2
            refine wp_region_over (by kernel_rfl) (by kernel_rfl) ?_
            repeat (go_big_quiet_step ((first | (go_at_call 53; exact Calls.over_of (specOrd_yes (F k) _ HS.out)))))
            refine wpQuiet_nil ?_
            intro _ hw'
            obtain ⟨vq, hw''⟩ := hw'
            subst hw''
            go_wp2
            go_ret
            exact ⟨Tells.no NR.out, hB.out.trans ((below_over wr vq).mono hB.out.size)⟩
        · have g0 : decide (0 < k) = false := decide_eq_false (by omega)
          have HR : Hid (∀ j, 0 < j → j < k + 1 → (F (j - 1)).id < (F j).id) := fun j h1 h2 => by omega
          have hk1 : k ≤ 0 := by omega
          clear hk0
          go_wp2
          refine wp_region_over (by kernel_rfl) (by kernel_rfl) ?_
          repeat (go_big_quiet_step ((first | (go_at_call 53; exact Calls.over_of (specOrd_yes (F k) _ HS.out)))))
          refine wpQuiet_nil ?_
          intro _ hw'
          obtain ⟨vq, hw''⟩ := hw'
          subst hw''
          go_wp2
          go_roundw
          case rel => exact ⟨k + 1, by omega, by go_num, HK, HR, hB.out.trans ((below_over wr vq).mono hB.out.size)⟩
          case measure => simp [intOf]; omega
      · have NR : Hid (¬ RightO F n) := fun hr => hoks (hr.2.1 k hlt)
        have NO : Hid (¬ ordOk (F k)) := hoks
        clear hoks
        go_wp2
        refine wp_region_over (by kernel_rfl) (by kernel_rfl) ?_
        repeat (go_big_quiet_step ((first | (go_at_call 53; exact Calls.over_of (specOrd_no (F k) _ NO.out)))))
        refine wpQuiet_nil ?_
        intro _ hw'
        obtain ⟨vq, hw''⟩ := hw'
        subst hw''
        go_wp2
        go_ret
        exact ⟨Tells.no NR.out, hB.out.trans ((below_over wr vq).mono hB.out.size)⟩
    · have hkn : k = n := by omega
      subst hkn
      clear hlt hk
      by_cases h8 : k ≤ 8
      · have R : Hid (RightO F k) := ⟨h8, hok.out, hri.out⟩
        have hd : decide ((k : Int) ≤ 8) = true := decide_eq_true (by omega)
        go_wp2
        go_ret
        exact ⟨Tells.yes R.out, hB.out⟩
      · have R : Hid (¬ RightO F k) := fun hh => h8 hh.1
        have h8' : (8 : Int) < (k : Int) := by omega
        have hd : decide ((k : Int) ≤ 8) = false := decide_eq_false (by omega)
        go_wp2
        go_ret
        exact ⟨Tells.no R.out, hB.out⟩

set_option maxHeartbeats 2000000 in
theorem implOrds (a : Option Addr) (n c : Nat) (F : Nat → Ord) (w : World) (h : Ords w a n F) :
    Calls Tryz.prog 48 #[.slice a n c] w fun e w' => Tells e (RightO F n) ∧ Below w.heap.size w w' := by
  have H : Hid (Ords w a n F) := h
  have hn := h.1
  clear h
  by_cases h8 : n ≤ 8
  rotate_left
  · have R : Hid (¬ RightO F n) := fun hh => h8 hh.1
    have h8' : (8 : Int) < (n : Int) := by omega
    go_enter Tryz.func48, Tryz.ntmps48
    go_wp2
    go_ret
    exact ⟨Tells.no R.out, Below.refl _ _⟩
  go_enter Tryz.func48, Tryz.ntmps48
  go_wp2
  go_loopw [10] (fun i wr => ∃ k : Nat, k ≤ n ∧ i = .int .i64 k ∧ Hid (∀ j, j < k → ordOk (F j)) ∧ Hid (∀ j, 0 < j → j < k → (F (j - 1)).id < (F j).id) ∧ Hid (Below w.heap.size w wr)) (fun i _ => n - (intOf i).toNat)
  case atStart => exact ⟨0, Nat.zero_le _, rfl, fun j hj => absurd hj (Nat.not_lt_zero _), fun j _ hj => absurd hj (Nat.not_lt_zero _), Below.refl _ _⟩
  case round =>
    obtain ⟨k, hk, rfl, hok, hri, hB⟩ := hrel
    by_cases hlt : k < n
    · obtain ⟨b, o, rfl, hb0, hA0⟩ := H.out.acc hlt
      have hb : b < wr.heap.size := Nat.lt_of_lt_of_le hb0 hB.out.size
      have hA := hA0.of_cells (w' := wr) (fun q => hB.out.cell (p := ⟨b, q, none⟩) hb0)
      clear hA0
      obtain ⟨c0, c1, c2, c3, c4, c5, c6⟩ := hA
      have hov : ∀ v q, (over (wr.alloc (.cells #[.int .i64 (F k).id, .int .i64 (F k).src, .int .i64 (F k).dst, .int .i64 (F k).amount, .int .i64 (F k).first, .int .i64 (F k).every, .int .i64 (F k).times] 39)) v).cell? ⟨b, q, none⟩ = (wr.alloc (.cells #[.int .i64 (F k).id, .int .i64 (F k).src, .int .i64 (F k).dst, .int .i64 (F k).amount, .int .i64 (F k).first, .int .i64 (F k).every, .int .i64 (F k).times] 39)).cell? ⟨b, q, none⟩ := fun v q => (below_over _ v).cell (p := ⟨b, q, none⟩) (by simp; omega)
      have hov2 : ∀ v q, (over (wr.alloc (.cells #[.int .i64 (F k).id, .int .i64 (F k).src, .int .i64 (F k).dst, .int .i64 (F k).amount, .int .i64 (F k).first, .int .i64 (F k).every, .int .i64 (F k).times] 39)) v).cell? ⟨wr.heap.size, q, none⟩ = (wr.alloc (.cells #[.int .i64 (F k).id, .int .i64 (F k).src, .int .i64 (F k).dst, .int .i64 (F k).amount, .int .i64 (F k).first, .int .i64 (F k).every, .int .i64 (F k).times] 39)).cell? ⟨wr.heap.size, q, none⟩ := fun v q => (below_over _ v).cell (p := ⟨wr.heap.size, q, none⟩) (by simp)
      by_cases hoks : ordOk (F k)
      · have HS : Hid (ordOk (F k)) := hoks
        have HK : Hid (∀ j, j < k + 1 → ordOk (F j)) := fun j hj => by
          by_cases e : j = k
          · subst e; exact hoks
          · exact hok.out j (by omega)
        clear hoks
        by_cases hk0 : 0 < k
        · obtain ⟨b', o', e', hb0', hA0'⟩ := H.out.acc (show k - 1 < n by omega)
          obtain ⟨rfl, rfl⟩ : b = b' ∧ o = o' := by simpa using e'
          have d0 : wr.cell? ⟨b, o + (k - 1) * 7, none⟩ = some (.int .i64 (F (k - 1)).id) := by
            rw [hB.out.cell (p := ⟨b, o + (k - 1) * 7, none⟩) hb0]; exact hA0'.1
          clear e' hA0' hb0'
          have g0 : (0 : Int) < (k : Int) := by omega
          by_cases hr : (F (k - 1)).id < (F k).id
          · have HR : Hid (∀ j, 0 < j → j < k + 1 → (F (j - 1)).id < (F j).id) := fun j h1 h2 => by
              by_cases e : j = k
              · subst e; exact hr
              · exact hri.out j h1 (by omega)
            have hr' : ¬ (F k).id ≤ (F (k - 1)).id := by omega
            have hd : decide ((F k).id ≤ (F (k - 1)).id) = false := decide_eq_false hr'
            go_wp2
            refine wp_region_over (by kernel_rfl) (by kernel_rfl) ?_
            repeat (go_big_quiet_step ((first | (go_at_call 59; exact Calls.over_of (implOrd_yes (F k) _ HS.out)))))
            refine wpQuiet_nil ?_
            intro _ hw'
            obtain ⟨vq, hw''⟩ := hw'
            subst hw''
            go_wp2
            go_roundw
            case rel => exact ⟨k + 1, by omega, by go_num, HK, HR, (hB.out.alloc hB.out.size _).trans ((below_over _ vq).mono (by have := hB.out.size; simp; omega))⟩
            case measure => simp [intOf]; omega
          · have NR : Hid (¬ RightO F n) := fun hh => hr (hh.2.2 k hk0 hlt)
            have hr' : (F k).id ≤ (F (k - 1)).id := by omega
            clear hr
            go_wp2
            refine wp_region_over (by kernel_rfl) (by kernel_rfl) ?_
            repeat (go_big_quiet_step ((first | (go_at_call 59; exact Calls.over_of (implOrd_yes (F k) _ HS.out)))))
            refine wpQuiet_nil ?_
            intro _ hw'
            obtain ⟨vq, hw''⟩ := hw'
            subst hw''
            go_wp2
            go_ret
            exact ⟨Tells.no NR.out, (hB.out.alloc hB.out.size _).trans ((below_over _ vq).mono (by have := hB.out.size; simp; omega))⟩
        · have g0 : decide (0 < k) = false := decide_eq_false (by omega)
          have HR : Hid (∀ j, 0 < j → j < k + 1 → (F (j - 1)).id < (F j).id) := fun j h1 h2 => by omega
          have hk1 : k ≤ 0 := by omega
          clear hk0
          go_wp2
          refine wp_region_over (by kernel_rfl) (by kernel_rfl) ?_
          repeat (go_big_quiet_step ((first | (go_at_call 59; exact Calls.over_of (implOrd_yes (F k) _ HS.out)))))
          refine wpQuiet_nil ?_
          intro _ hw'
          obtain ⟨vq, hw''⟩ := hw'
          subst hw''
          go_wp2
          go_roundw
          case rel => exact ⟨k + 1, by omega, by go_num, HK, HR, (hB.out.alloc hB.out.size _).trans ((below_over _ vq).mono (by have := hB.out.size; simp; omega))⟩
          case measure => simp [intOf]; omega
      · have NR : Hid (¬ RightO F n) := fun hr => hoks (hr.2.1 k hlt)
        have NO : Hid (¬ ordOk (F k)) := hoks
        clear hoks
        go_wp2
        refine wp_region_over (by kernel_rfl) (by kernel_rfl) ?_
        repeat (go_big_quiet_step ((first | (go_at_call 59; exact Calls.over_of (implOrd_no (F k) _ NO.out)))))
        refine wpQuiet_nil ?_
        intro _ hw'
        obtain ⟨vq, hw''⟩ := hw'
        subst hw''
        go_wp2
        go_ret
        exact ⟨Tells.no NR.out, (hB.out.alloc hB.out.size _).trans ((below_over _ vq).mono (by have := hB.out.size; simp; omega))⟩
    · have hkn : k = n := by omega
      subst hkn
      clear hlt hk
      have R : Hid (RightO F k) := ⟨h8, hok.out, hri.out⟩
      go_wp2
      go_ret
      exact ⟨Tells.yes R.out, hB.out⟩
end Go.Proofs.YtedhlmipcfdldaaGreatDoor
