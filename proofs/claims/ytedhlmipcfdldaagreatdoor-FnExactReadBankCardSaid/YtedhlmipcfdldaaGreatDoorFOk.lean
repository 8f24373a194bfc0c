/- ForestOk, of the program and of the specification: both tell whether a forest is right. Conditions: the accounts lie in memory, at most 1048576 of them. -/
import Derived.Test.YtedhlmipcfdldaaGreatDoorFOkS
namespace Go.Proofs.YtedhlmipcfdldaaGreatDoor
open Go.RowKit
set_option maxRecDepth 8000

theorem implAcc_yes (a : Acc) (w : World) (h : okI a) :
    Calls Tryz.prog 57 #[.agg #[.int .i64 a.id, .int .i64 a.up, .int .i64 a.limit, .int .i64 a.rate, .int .i64 a.target, .bool a.frozen, .int .i64 a.balance, .int .i64 a.carry]] w fun e w' => e = .returned (.bool true) ∧ Below w.heap.size w w' :=
  (implAcc a w).mono fun e w' ⟨b, he, hi, hb⟩ => ⟨by rw [he, hi.2 h], hb⟩
theorem implAcc_no (a : Acc) (w : World) (h : ¬ okI a) :
    Calls Tryz.prog 57 #[.agg #[.int .i64 a.id, .int .i64 a.up, .int .i64 a.limit, .int .i64 a.rate, .int .i64 a.target, .bool a.frozen, .int .i64 a.balance, .int .i64 a.carry]] w fun e w' => e = .returned (.bool false) ∧ Below w.heap.size w w' :=
  (implAcc a w).mono fun e w' ⟨b, he, hi, hb⟩ => ⟨by rw [he]; cases b with | true => exact absurd (hi.1 rfl) h | false => rfl, hb⟩

set_option maxHeartbeats 2000000 in
theorem implOk_small (a : Option Addr) (n c : Nat) (F : Nat → Acc) (w : World) (h : Fo w a n F) (hn12 : n ≤ 12) :
    Calls Tryz.prog 47 #[.slice a n c] w fun e w' => ∃ b : Bool, e = .returned (.bool b) ∧ (b = true ↔ Right F n) ∧ Below w.heap.size w w' := by
  have H : Hid (Fo w a n F) := h
  clear h
  go_enter Tryz.func47, Tryz.ntmps47
  go_wp2
  go_loopw [12] (fun i wr => ∃ k : Nat, k ≤ n ∧ i = .int .i64 k ∧ Hid (∀ j, j < k → okI (F j)) ∧ Hid (∀ j, 0 < j → j < k → (F (j - 1)).id < (F j).id) ∧ Hid (Below w.heap.size w wr)) (fun i _ => n - (intOf i).toNat)
  case atStart => exact ⟨0, Nat.zero_le _, rfl, fun j hj => absurd hj (Nat.not_lt_zero _), fun j _ hj => absurd hj (Nat.not_lt_zero _), Below.refl _ _⟩
  case round =>
    obtain ⟨k, hk, rfl, hok, hri, hB⟩ := hrel
    by_cases hlt : k < n
    · obtain ⟨b, o, rfl, hb0, hA0⟩ := H.out.acc hlt
      have hb : b < wr.heap.size := Nat.lt_of_lt_of_le hb0 hB.out.size
      have hA := hA0.of_cells (w' := wr) (fun q => hB.out.cell (p := ⟨b, q, none⟩) hb0)
      clear hA0
      obtain ⟨c0, c1, c2, c3, c4, c5, c6, c7⟩ := hA
      have hov : ∀ v q, (over (wr.alloc (.cells #[.int .i64 (F k).id, .int .i64 (F k).up, .int .i64 (F k).limit, .int .i64 (F k).rate, .int .i64 (F k).target, .bool (F k).frozen, .int .i64 (F k).balance, .int .i64 (F k).carry] 37)) v).cell? ⟨b, q, none⟩ = (wr.alloc (.cells #[.int .i64 (F k).id, .int .i64 (F k).up, .int .i64 (F k).limit, .int .i64 (F k).rate, .int .i64 (F k).target, .bool (F k).frozen, .int .i64 (F k).balance, .int .i64 (F k).carry] 37)).cell? ⟨b, q, none⟩ := fun v q => (below_over _ v).cell (p := ⟨b, q, none⟩) (by simp; omega)
      have hov2 : ∀ v q, (over (wr.alloc (.cells #[.int .i64 (F k).id, .int .i64 (F k).up, .int .i64 (F k).limit, .int .i64 (F k).rate, .int .i64 (F k).target, .bool (F k).frozen, .int .i64 (F k).balance, .int .i64 (F k).carry] 37)) v).cell? ⟨wr.heap.size, q, none⟩ = (wr.alloc (.cells #[.int .i64 (F k).id, .int .i64 (F k).up, .int .i64 (F k).limit, .int .i64 (F k).rate, .int .i64 (F k).target, .bool (F k).frozen, .int .i64 (F k).balance, .int .i64 (F k).carry] 37)).cell? ⟨wr.heap.size, q, none⟩ := fun v q => (below_over _ v).cell (p := ⟨wr.heap.size, q, none⟩) (by simp)
      by_cases hoks : okI (F k)
      · have HS : Hid (okI (F k)) := hoks
        have HK : Hid (∀ j, j < k + 1 → okI (F j)) := fun j hj => by
          by_cases e : j = k
          · subst e; exact hoks
          · exact hok.out j (by omega)
        clear hoks
        by_cases hk0 : 0 < k
        · obtain ⟨b', o', e', hb0', hA0'⟩ := H.out.acc (show k - 1 < n by omega)
          obtain ⟨rfl, rfl⟩ : b = b' ∧ o = o' := by simpa using e'
          have d0 : wr.cell? ⟨b, o + (k - 1) * 8, none⟩ = some (.int .i64 (F (k - 1)).id) := by
            rw [hB.out.cell (p := ⟨b, o + (k - 1) * 8, none⟩) hb0]; exact hA0'.1
          clear e' hA0' hb0'
          have g0 : (0 : Int) < (k : Int) := by omega
          by_cases hr : (F (k - 1)).id < (F k).id
          · have HR : Hid (∀ j, 0 < j → j < k + 1 → (F (j - 1)).id < (F j).id) := fun j h1 h2 => by
              by_cases e : j = k
              · subst e; exact hr
              · exact hri.out j h1 (by omega)
            have hr' : ¬ (F k).id ≤ (F (k - 1)).id := by omega
            have hd : decide ((F k).id ≤ (F (k - 1)).id) = false := decide_eq_false hr'
            go_wp2
            refine wp_region_over (by kernel_rfl) (by kernel_rfl) ?_
            repeat (go_big_quiet_step ((first | (go_at_call 57; exact Calls.over_of (implAcc_yes (F k) _ HS.out)))))
            refine wpQuiet_nil ?_
            intro _ hw'
            obtain ⟨vq, hw''⟩ := hw'
            subst hw''
            go_wp2
            go_roundw
            case rel => exact ⟨k + 1, by omega, by go_num, HK, HR, (hB.out.alloc hB.out.size _).trans ((below_over _ vq).mono (by have := hB.out.size; simp; omega))⟩
            case measure => simp [intOf]; omega
          · have NR : Hid (¬ Right F n) := fun hh => hr (hh.2.2.1 k hk0 hlt)
            have hr' : (F k).id ≤ (F (k - 1)).id := by omega
            clear hr
            go_wp2
            refine wp_region_over (by kernel_rfl) (by kernel_rfl) ?_
            repeat (go_big_quiet_step ((first | (go_at_call 57; exact Calls.over_of (implAcc_yes (F k) _ HS.out)))))
            refine wpQuiet_nil ?_
            intro _ hw'
            obtain ⟨vq, hw''⟩ := hw'
            subst hw''
            go_wp2
            go_ret
            exact ⟨false, rfl, ⟨fun h => (by cases h), fun h => absurd h NR.out⟩, (hB.out.alloc hB.out.size _).trans ((below_over _ vq).mono (by have := hB.out.size; simp; omega))⟩
        · have g0 : decide (0 < k) = false := decide_eq_false (by omega)
          have HR : Hid (∀ j, 0 < j → j < k + 1 → (F (j - 1)).id < (F j).id) := fun j h1 h2 => by omega
          have hk1 : k ≤ 0 := by omega
          clear hk0
          go_wp2
          refine wp_region_over (by kernel_rfl) (by kernel_rfl) ?_
          repeat (go_big_quiet_step ((first | (go_at_call 57; exact Calls.over_of (implAcc_yes (F k) _ HS.out)))))
          refine wpQuiet_nil ?_
          intro _ hw'
          obtain ⟨vq, hw''⟩ := hw'
          subst hw''
          go_wp2
          go_roundw
          case rel => exact ⟨k + 1, by omega, by go_num, HK, HR, (hB.out.alloc hB.out.size _).trans ((below_over _ vq).mono (by have := hB.out.size; simp; omega))⟩
          case measure => simp [intOf]; omega
      · have NR : Hid (¬ Right F n) := fun hr => hoks (((right_iff F n).1 hr).2.1 k hlt)
        have NO : Hid (¬ okI (F k)) := hoks
        clear hoks
        go_wp2
        refine wp_region_over (by kernel_rfl) (by kernel_rfl) ?_
        repeat (go_big_quiet_step ((first | (go_at_call 57; exact Calls.over_of (implAcc_no (F k) _ NO.out)))))
        refine wpQuiet_nil ?_
        intro _ hw'
        obtain ⟨vq, hw''⟩ := hw'
        subst hw''
        go_wp2
        go_ret
        exact ⟨false, rfl, ⟨fun h => (by cases h), fun h => absurd h NR.out⟩, (hB.out.alloc hB.out.size _).trans ((below_over _ vq).mono (by have := hB.out.size; simp; omega))⟩
    · have hkn : k = n := by omega
      subst hkn
      clear hlt hk
      go_wp2
      go_loopw [38] (fun i wv => ∃ m : Nat, m ≤ k ∧ i = .int .i64 m ∧ Hid (∀ j, j < m → leads F k k (F j) = true) ∧ Hid (Below w.heap.size w wv)) (fun i _ => k - (intOf i).toNat)
      case atStart => exact ⟨0, Nat.zero_le _, rfl, fun j hj => absurd hj (Nat.not_lt_zero _), hB⟩
      case round =>
        obtain ⟨m, hm, rfl, hch, hB2⟩ := hrel
        by_cases hlt : m < k
        · obtain ⟨b, o, rfl, hb0, hA0⟩ := H.out.acc hlt
          have hA := hA0.of_cells (w' := wr) (fun q => hB2.out.cell (p := ⟨b, q, none⟩) hb0)
          obtain ⟨c0, c1, c2, c3, c4, c5, c6, c7⟩ := hA
          clear hA0
          go_wp2_with fail
          refine (implLeads _ _ _ F (F m) _ ((H.out.below hB2.out).alloc _)).mono ?_
          rintro e w1 ⟨rfl, B1⟩
          have B1' : Hid (Below w.heap.size w w1) := (hB2.out.alloc hB2.out.size _).trans (B1.mono (by have := hB2.out.size; simp; omega))
          clear B1
          cases hle : leads F k k (F m) with
          | false =>
            have NR : Hid (¬ Right F k) := fun hh => by have := ((right_iff F k).1 hh).2.2.2 m hlt; rw [hle] at this; cases this
            clear hle
            go_wp2
            go_ret
            exact ⟨false, rfl, ⟨fun h => (by cases h), fun h => absurd h NR.out⟩, B1'.out⟩
          | true =>
            have HC : Hid (∀ j, j < m + 1 → leads F k k (F j) = true) := fun j hj => by
              by_cases e : j = m
              · subst e; exact hle
              · exact hch.out j (by omega)
            clear hle
            go_wp2
            go_roundw
            case rel => exact ⟨m + 1, by omega, by go_num, HC, B1'⟩
            case measure => simp [intOf]; omega
        · have R : Hid (Right F k) := (right_iff F k).2 ⟨hn12, hok.out, hri.out, fun i hi => hch.out i (by omega)⟩
          go_wp2
          go_ret
          exact ⟨true, rfl, ⟨fun _ => R.out, fun _ => rfl⟩, hB2.out⟩

theorem specOk (a : Option Addr) (n c : Nat) (F : Nat → Acc) (w : World) (h : Fo w a n F) :
    Calls Tryz.prog 34 #[.slice a n c] w fun e w' => ∃ b : Bool, e = .returned (.bool b) ∧ (b = true ↔ Right F n) ∧ Below w.heap.size w w' := by
  by_cases h12 : n ≤ 12
  · exact specOk_small a n c F w h h12
  · have NR : Hid (¬ Right F n) := fun hh => h12 hh.1
    have h12' : (12 : Int) < (n : Int) := by omega
    have hn := h.1
    clear h
    go_enter Tryz.func34, Tryz.ntmps34
    go_wp2
    go_ret
    exact ⟨false, rfl, ⟨fun h => (by cases h), fun h => absurd h NR.out⟩, Below.refl _ _⟩
theorem implOk (a : Option Addr) (n c : Nat) (F : Nat → Acc) (w : World) (h : Fo w a n F) :
    Calls Tryz.prog 47 #[.slice a n c] w fun e w' => ∃ b : Bool, e = .returned (.bool b) ∧ (b = true ↔ Right F n) ∧ Below w.heap.size w w' := by
  by_cases h12 : n ≤ 12
  · exact implOk_small a n c F w h h12
  · have NR : Hid (¬ Right F n) := fun hh => h12 hh.1
    have h12' : (12 : Int) < (n : Int) := by omega
    have hn := h.1
    clear h
    go_enter Tryz.func47, Tryz.ntmps47
    go_wp2
    go_ret
    exact ⟨false, rfl, ⟨fun h => (by cases h), fun h => absurd h NR.out⟩, Below.refl _ _⟩
end Go.Proofs.YtedhlmipcfdldaaGreatDoor
