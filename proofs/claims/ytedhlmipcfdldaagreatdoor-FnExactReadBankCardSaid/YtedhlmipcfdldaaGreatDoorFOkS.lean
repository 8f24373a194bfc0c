/- The specification's ForestOk. Conditions: the accounts lie in memory, at most 1048576 of them. -/
import Derived.Test.YtedhlmipcfdldaaGreatDoorFPathS
import Derived.Test.YtedhlmipcfdldaaGreatDoorFAccI
import Derived.Test.YtedhlmipcfdldaaGreatDoorFOver
namespace Go.Proofs.YtedhlmipcfdldaaGreatDoor
open Go.RowKit
set_option maxRecDepth 8000

theorem specAcc_yes (a : Acc) (w : World) (h : okS a) :
    Calls Tryz.prog 51 #[.agg #[.int .i64 a.id, .int .i64 a.up, .int .i64 a.limit, .int .i64 a.rate, .int .i64 a.target, .bool a.frozen, .int .i64 a.balance, .int .i64 a.carry]] w fun e w' => e = .returned (.bool true) ∧ Below w.heap.size w w' :=
  (specAcc a w).mono fun e w' ⟨b, he, hi, hb⟩ => ⟨by rw [he, hi.2 h], hb⟩
theorem specAcc_no (a : Acc) (w : World) (h : ¬ okS a) :
    Calls Tryz.prog 51 #[.agg #[.int .i64 a.id, .int .i64 a.up, .int .i64 a.limit, .int .i64 a.rate, .int .i64 a.target, .bool a.frozen, .int .i64 a.balance, .int .i64 a.carry]] w fun e w' => e = .returned (.bool false) ∧ Below w.heap.size w w' :=
  (specAcc a w).mono fun e w' ⟨b, he, hi, hb⟩ => ⟨by rw [he]; cases b with | true => exact absurd (hi.1 rfl) h | false => rfl, hb⟩

set_option maxHeartbeats 2000000 in
theorem specOk_small (a : Option Addr) (n c : Nat) (F : Nat → Acc) (w : World) (h : Fo w a n F) (hn12 : n ≤ 12) :
    Calls Tryz.prog 34 #[.slice a n c] w fun e w' => ∃ b : Bool, e = .returned (.bool b) ∧ (b = true ↔ Right F n) ∧ Below w.heap.size w w' := by
  have H : Hid (Fo w a n F) := h
  clear h
  go_enter Tryz.func34, Tryz.ntmps34
  go_wp2
  go_loopw [3] (fun i wr => ∃ k : Nat, k ≤ n ∧ i = .int .i64 k ∧ Hid (∀ j, j < k → okS (F j)) ∧ Hid (∀ j, 0 < j → j < k → (F (j - 1)).id < (F j).id) ∧ Hid (Below w.heap.size w wr)) (fun i _ => n - (intOf i).toNat)
  case atStart => exact ⟨0, Nat.zero_le _, rfl, fun j hj => absurd hj (Nat.not_lt_zero _), fun j _ hj => absurd hj (Nat.not_lt_zero _), Below.refl _ _⟩
  case round =>
    obtain ⟨k, hk, rfl, hok, hri, hB⟩ := hrel
    by_cases hlt : k < n
    · obtain ⟨b, o, rfl, hb0, hA0⟩ := H.out.acc hlt
      have hb : b < wr.heap.size := Nat.lt_of_lt_of_le hb0 hB.out.size
      have hA := hA0.of_cells (w' := wr) (fun q => hB.out.cell (p := ⟨b, q, none⟩) hb0)
      clear hA0
      obtain ⟨c0, c1, c2, c3, c4, c5, c6, c7⟩ := hA
      have hov : ∀ v q, (over wr v).cell? ⟨b, q, none⟩ = wr.cell? ⟨b, q, none⟩ := fun v q => (below_over wr v).cell (p := ⟨b, q, none⟩) hb
      by_cases hoks : okS (F k)
      · have HS : Hid (okS (F k)) := hoks
        have HK : Hid (∀ j, j < k + 1 → okS (F j)) := fun j hj => by
          by_cases e : j = k
          · subst e; exact hoks
          · exact hok.out j (by omega)
        clear hoks
        by_cases hk0 : 0 < k
        · obtain ⟨b', o', e', hb0', hA0'⟩ := H.out.acc (show k - 1 < n by omega)
          obtain ⟨rfl, rfl⟩ : b = b' ∧ o = o' := by simpa using e'
          have d0 : wr.cell? ⟨b, o + (k - 1) * 8, none⟩ = some (.int .i64 (F (k - 1)).id) := by
            rw [hB.out.cell (p := ⟨b, o + (k - 1) * 8, none⟩) hb0]; exact hA0'.1
          clear e' hA0' hb0'
          have g0 : (0 : Int) < (k : Int) := by omega
          by_cases hr : (F (k - 1)).id < (F k).id
          · have HR : Hid (∀ j, 0 < j → j < k + 1 → (F (j - 1)).id < (F j).id) := fun j h1 h2 => by
              by_cases e : j = k
              · subst e; exact hr
              · exact hri.out j h1 (by omega)
            have hr' : ¬ (F k).id ≤ (F (k - 1)).id := by omega
            have hd : decide ((F k).id ≤ (F (k - 1)).id) = false := decide_eq_false hr'
            go_wp2
            refine wp_region_over (by kernel_rfl) (by kernel_rfl) ?_
            repeat (go_big_quiet_step ((first | (go_at_call 51; exact Calls.over_of (specAcc_yes (F k) _ HS.out)))))
            refine wpQuiet_nil ?_
            intro _ hw'
            obtain ⟨vq, hw''⟩ := hw'
            subst hw''
            go_wp2
            go_roundw
            case rel => exact ⟨k + 1, by omega, by go_num, HK, HR, hB.out.trans ((below_over wr vq).mono hB.out.size)⟩
            case measure => simp [intOf]; omega
          · have NR : Hid (¬ Right F n) := fun hh => hr (hh.2.2.1 k hk0 hlt)
            have hr' : (F k).id ≤ (F (k - 1)).id := by omega
            clear hr
            go_wp2
            refine wp_region_over (by kernel_rfl) (by kernel_rfl) ?_
            repeat (go_big_quiet_step ((first | (go_at_call 51; exact Calls.over_of (specAcc_yes (F k) _ HS.out)))))
            refine wpQuiet_nil ?_
            intro _ hw'
            obtain ⟨vq, hw''⟩ := hw'
            subst hw''
            go_wp2
            go_ret
            exact ⟨false, rfl, ⟨fun h => (by cases h), fun h => absurd h NR.out⟩, hB.out.trans ((below_over wr vq).mono hB.out.size)⟩
        · have g0 : decide (0 < k) = false := decide_eq_false (by omega)
          have HR : Hid (∀ j, 0 < j → j < k + 1 → (F (j - 1)).id < (F j).id) := fun j h1 h2 => by omega
          have hk1 : k ≤ 0 := by omega
          clear hk0
          go_wp2
          refine wp_region_over (by kernel_rfl) (by kernel_rfl) ?_
          repeat (go_big_quiet_step ((first | (go_at_call 51; exact Calls.over_of (specAcc_yes (F k) _ HS.out)))))
          refine wpQuiet_nil ?_
          intro _ hw'
          obtain ⟨vq, hw''⟩ := hw'
          subst hw''
          go_wp2
          go_roundw
          case rel => exact ⟨k + 1, by omega, by go_num, HK, HR, hB.out.trans ((below_over wr vq).mono hB.out.size)⟩
          case measure => simp [intOf]; omega
      · have NR : Hid (¬ Right F n) := fun hr => hoks (hr.2.1 k hlt)
        have NO : Hid (¬ okS (F k)) := hoks
        clear hoks
        go_wp2
        refine wp_region_over (by kernel_rfl) (by kernel_rfl) ?_
        repeat (go_big_quiet_step ((first | (go_at_call 51; exact Calls.over_of (specAcc_no (F k) _ NO.out)))))
        refine wpQuiet_nil ?_
        intro _ hw'
        obtain ⟨vq, hw''⟩ := hw'
        subst hw''
        go_wp2
        go_ret
        exact ⟨false, rfl, ⟨fun h => (by cases h), fun h => absurd h NR.out⟩, hB.out.trans ((below_over wr vq).mono hB.out.size)⟩
    · have hkn : k = n := by omega
      subst hkn
      clear hlt hk
      go_wp2
      go_loopw [4] (fun i wv => ∃ m : Nat, m ≤ k ∧ i = .int .i64 m ∧ Hid (∀ j, j < m → (chain F k k (F j).id).isSome = true) ∧ Hid (Below w.heap.size w wv)) (fun i _ => k - (intOf i).toNat)
      case atStart => exact ⟨0, Nat.zero_le _, rfl, fun j hj => absurd hj (Nat.not_lt_zero _), hB⟩
      case round =>
        obtain ⟨m, hm, rfl, hch, hB2⟩ := hrel
        by_cases hlt : m < k
        · obtain ⟨b, o, rfl, hb0, hA0⟩ := H.out.acc hlt
          have hA := hA0.of_cells (w' := wr) (fun q => hB2.out.cell (p := ⟨b, q, none⟩) hb0)
          have c0 := hA.1
          clear hA0 hA
          go_wp2_with fail
          refine (specPath _ _ _ F _ _ (H.out.below hB2.out)).mono ?_
          rintro e w1 ⟨B1, ⟨hno, rfl⟩ | ⟨l, v, hl, rfl, hI⟩⟩
          · have NR : Hid (¬ Right F k) := fun hh => by have := hh.2.2.2 m hlt; rw [hno] at this; cases this
            have B1' : Hid (Below w.heap.size w w1) := hB2.out.trans (B1.mono hB2.out.size)
            clear hno B1
            go_wp2
            go_ret
            exact ⟨false, rfl, ⟨fun h => (by cases h), fun h => absurd h NR.out⟩, B1'.out⟩
          · have HC : Hid (∀ j, j < m + 1 → (chain F k k (F j).id).isSome = true) := fun j hj => by
              by_cases e : j = m
              · subst e; rw [hl]; rfl
              · exact hch.out j (by omega)
            have B1' : Hid (Below w.heap.size w w1) := hB2.out.trans (B1.mono hB2.out.size)
            clear hl hI B1
            go_wp2
            go_roundw
            case rel => exact ⟨m + 1, by omega, by go_num, HC, B1'⟩
            case measure => simp [intOf]; omega
        · have R : Hid (Right F k) := ⟨hn12, hok.out, hri.out, fun i hi => hch.out i (by omega)⟩
          go_wp2
          go_ret
          exact ⟨true, rfl, ⟨fun _ => R.out, fun _ => rfl⟩, hB2.out⟩
end Go.Proofs.YtedhlmipcfdldaaGreatDoor
