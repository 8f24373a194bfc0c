/- Contracts of the specification's dates, as the draws call them. No conditions beyond the ranges that each names. -/
import Derived.Test.YtjdpaednagingaaCal
import Derived.Test.YtjdpaednagingaaNum
import Derived.Test.YtjdpaednagingaaRd
namespace Go.Proofs.Ytjdpaednagingaa
open Go.RowKit

/-- Whether a year is a leap year. -/
def leapB (y : Int) : Bool := decide (Cal.lp y = 1)

theorem leapB_of {y : Int} (h : y % 4 = 0 ∧ (y % 100 ≠ 0 ∨ y % 400 = 0)) : leapB y = true := by simp [leapB, Cal.lp, h]

theorem leapB_not {y : Int} (h : ¬ (y % 4 = 0 ∧ (y % 100 ≠ 0 ∨ y % 400 = 0))) : leapB y = false := by
  unfold leapB Cal.lp; rw [if_neg h]; simp

theorem lp_of {y : Int} (h : leapB y = true) : Cal.lp y = 1 := by simpa [leapB] using h

theorem lp_not {y : Int} (h : leapB y = false) : Cal.lp y = 0 := by
  have := Cal.lp_01 y
  have h' : ¬ Cal.lp y = 1 := by simpa [leapB] using h
  omega

theorem specLeap (y : Int) (w : World) (h0 : 0 ≤ y) :
    Calls Try.prog 30 #[.int .i64 y] w fun e w' => e = .returned (.bool (leapB y)) ∧ w' = w := by
  by_cases h4 : y % 4 = 0
  · have b4 : (y % 4 == 0) = true := by simp [h4]
    by_cases h100 : y % 100 = 0
    · have b100 : (y % 100 != 0) = false := by simp [h100]
      by_cases h400 : y % 400 = 0
      · have b400 : (y % 400 == 0) = true := by simp [h400]
        rw [leapB_of (by omega)]; clear h4 h100 h400
        go_enter Try.func30, Try.ntmps30
        go_wp2
        go_ret
        exact ⟨rfl, rfl⟩
      · have b400 : (y % 400 == 0) = false := by simp [h400]
        rw [leapB_not (by omega)]; clear h4 h100 h400
        go_enter Try.func30, Try.ntmps30
        go_wp2
        go_ret
        exact ⟨rfl, rfl⟩
    · have b100 : (y % 100 != 0) = true := by simp [h100]
      rw [leapB_of (by omega)]; clear h4 h100
      go_enter Try.func30, Try.ntmps30
      go_wp2
      go_ret
      exact ⟨rfl, rfl⟩
  · have b4 : (y % 4 == 0) = false := by simp [h4]
    rw [leapB_not (by omega)]; clear h4
    go_enter Try.func30, Try.ntmps30
    go_wp2
    go_ret
    exact ⟨rfl, rfl⟩

theorem cases12 (m : Int) (h1 : 1 ≤ m) (h2 : m ≤ 12) : m = 1 ∨ m = 2 ∨ m = 3 ∨ m = 4 ∨ m = 5 ∨ m = 6 ∨ m = 7 ∨ m = 8 ∨ m = 9 ∨ m = 10 ∨ m = 11 ∨ m = 12 := by omega

theorem specDim (y m : Int) (w : World) (h0 : 0 ≤ y) (h1 : 1 ≤ m) (h2 : m ≤ 12) :
    Calls Try.prog 29 #[.int .i64 y, .int .i64 m] w fun e w' => e = .returned (.int .i64 (Cal.dim y m)) ∧ w' = w := by
  by_cases hm : m = 2
  · subst hm
    cases hl : leapB y with
    | true =>
      have e : Cal.dim y 2 = 29 := by simp [Cal.dim, lp_of hl]
      rw [e]
      go_enter Try.func29, Try.ntmps29
      go_wp2_with (go_at_call 30; refine (specLeap _ _ (by omega)).mono ?_; rintro e w' ⟨rfl, rfl⟩)
      go_ret
      exact ⟨rfl, rfl⟩
    | false =>
      have e : Cal.dim y 2 = 28 := by simp [Cal.dim, lp_not hl]
      rw [e]
      go_enter Try.func29, Try.ntmps29
      go_wp2_with (go_at_call 30; refine (specLeap _ _ (by omega)).mono ?_; rintro e w' ⟨rfl, rfl⟩)
      go_ret
      exact ⟨rfl, rfl⟩
  · rcases cases12 m h1 h2 with h | h | h | h | h | h | h | h | h | h | h | h
    all_goals
      first
      | exact absurd h hm
      | (subst h
         clear h1 h2 hm
         rw [show Cal.dim y _ = _ from by simp [Cal.dim]; rfl]
         go_enter Try.func29, Try.ntmps29
         go_wp2
         go_ret
         exact ⟨rfl, rfl⟩)

theorem specYear (y : Int) (w : World) (h0 : 1 ≤ y) (h1 : y ≤ 20000) :
    Calls Try.prog 28 #[.int .i64 y] w fun e w' => e = .returned (.int .i64 (Cal.dby y)) ∧ w' = w := by
  go_enter Try.func28, Try.ntmps28
  go_wp2
  go_ret
  exact ⟨ret_int (by unfold Cal.dby; omega), rfl⟩


/-- Whether a date is right. -/
def dateB (y m d : Int) : Bool := decide (1 ≤ y ∧ y ≤ 9999 ∧ 1 ≤ m ∧ m ≤ 12 ∧ 1 ≤ d ∧ d ≤ Cal.dim y m)

theorem dateB_yes {y m d : Int} (h : 1 ≤ y ∧ y ≤ 9999 ∧ 1 ≤ m ∧ m ≤ 12 ∧ 1 ≤ d ∧ d ≤ Cal.dim y m) : dateB y m d = true := by simpa [dateB] using h

theorem dateB_no {y m d : Int} (h : ¬ (1 ≤ y ∧ y ≤ 9999 ∧ 1 ≤ m ∧ m ≤ 12 ∧ 1 ≤ d ∧ d ≤ Cal.dim y m)) : dateB y m d = false := decide_eq_false h

theorem dateB_iff {y m d : Int} : dateB y m d = true ↔ (1 ≤ y ∧ y ≤ 9999 ∧ 1 ≤ m ∧ m ≤ 12 ∧ 1 ≤ d ∧ d ≤ Cal.dim y m) := decide_eq_true_iff

theorem l1In_yes (n lo hi : Int) (w : World) (h : lo ≤ n ∧ n ≤ hi) :
    Calls Try.prog 14 #[.int .i64 n, .int .i64 lo, .int .i64 hi] w fun e w' => e = .returned (.bool true) ∧ w' = w := by
  have := l1In_any n lo hi w
  rwa [inB_yes h] at this

theorem l1In_no (n lo hi : Int) (w : World) (h : ¬ (lo ≤ n ∧ n ≤ hi)) :
    Calls Try.prog 14 #[.int .i64 n, .int .i64 lo, .int .i64 hi] w fun e w' => e = .returned (.bool false) ∧ w' = w := by
  have := l1In_any n lo hi w
  rwa [inB_no h] at this

theorem specDateOk (y m d : Int) (w : World) :
    Calls Try.prog 27 #[.agg #[.int .i64 y, .int .i64 m, .int .i64 d]] w fun e w' => e = .returned (.bool (dateB y m d)) ∧ Below w.heap.size w w' := by
  by_cases h1 : 1 ≤ y ∧ y ≤ 9999
  · by_cases h2 : 1 ≤ m ∧ m ≤ 12
    · by_cases h3 : 1 ≤ d ∧ d ≤ Cal.dim y m
      · rw [dateB_yes (by omega)]
        go_enter Try.func27, Try.ntmps27
        go_wp2
        go_quiet ((first | (go_at_call 14; refine Calls.quiet_of_same (l1In_yes _ _ _ _ ?_) <;> omega) | (go_at_call 14; refine Calls.quiet_of_same (l1In_no _ _ _ _ ?_) <;> omega) | (go_at_call 29; refine Calls.quiet_of_same (specDim _ _ _ ?_ ?_ ?_) <;> omega)))
        go_wp2
        go_ret
        exact ⟨rfl, below_drewN ((Below.refl _ _).alloc (Nat.le_refl _) _) _⟩
      · rw [dateB_no (by omega)]
        go_enter Try.func27, Try.ntmps27
        go_wp2
        go_quiet ((first | (go_at_call 14; refine Calls.quiet_of_same (l1In_yes _ _ _ _ ?_) <;> omega) | (go_at_call 14; refine Calls.quiet_of_same (l1In_no _ _ _ _ ?_) <;> omega) | (go_at_call 29; refine Calls.quiet_of_same (specDim _ _ _ ?_ ?_ ?_) <;> omega)))
        go_wp2
        go_ret
        exact ⟨rfl, below_drewN ((Below.refl _ _).alloc (Nat.le_refl _) _) _⟩
    · rw [dateB_no (by omega)]
      go_enter Try.func27, Try.ntmps27
      go_wp2
      go_quiet ((first | (go_at_call 14; refine Calls.quiet_of_same (l1In_yes _ _ _ _ ?_) <;> omega) | (go_at_call 14; refine Calls.quiet_of_same (l1In_no _ _ _ _ ?_) <;> omega) | (go_at_call 29; refine Calls.quiet_of_same (specDim _ _ _ ?_ ?_ ?_) <;> omega)))
      go_wp2
      go_ret
      exact ⟨rfl, below_drewN ((Below.refl _ _).alloc (Nat.le_refl _) _) _⟩
  · rw [dateB_no (by omega)]
    go_enter Try.func27, Try.ntmps27
    go_wp2
    go_quiet ((first | (go_at_call 14; refine Calls.quiet_of_same (l1In_yes _ _ _ _ ?_) <;> omega) | (go_at_call 14; refine Calls.quiet_of_same (l1In_no _ _ _ _ ?_) <;> omega) | (go_at_call 29; refine Calls.quiet_of_same (specDim _ _ _ ?_ ?_ ?_) <;> omega)))
    go_wp2
    go_ret
    exact ⟨rfl, below_drewN ((Below.refl _ _).alloc (Nat.le_refl _) _) _⟩


/-- The day of a date, or -1. -/
def dayN (y m d : Int) : Int := if dateB y m d = true then (if Cal.dby y + Cal.cum y m + d - 1 ≤ 3000000 then Cal.dby y + Cal.cum y m + d - 1 else -1) else -1

set_option maxHeartbeats 1000000 in
theorem specDayOf_no (y m d : Int) (w : World) (h : dateB y m d = false) :
    Calls Try.prog 22 #[.agg #[.int .i64 y, .int .i64 m, .int .i64 d]] w fun e w' => e = .returned (.int .i64 (-1)) ∧ Below w.heap.size w w' := by
  go_enter Try.func22, Try.ntmps22
  go_wp2_with fail
  refine (specDateOk _ _ _ _ ).mono ?_
  rintro e w1 ⟨rfl, hb1⟩
  go_wp2
  go_ret
  exact ⟨rfl, ((Below.refl _ _).alloc (Nat.le_refl _) _).trans (hb1.mono (by simp))⟩

set_option maxHeartbeats 1000000 in
theorem specDayOf_yes (y m d : Int) (w : World) (h : dateB y m d = true) :
    Calls Try.prog 22 #[.agg #[.int .i64 y, .int .i64 m, .int .i64 d]] w fun e w' => e = .returned (.int .i64 (if Cal.dby y + Cal.cum y m + d - 1 ≤ 3000000 then Cal.dby y + Cal.cum y m + d - 1 else -1)) ∧ Below w.heap.size w w' := by
  obtain ⟨h1, h2, h3, h4, h5, h6⟩ := dateB_iff.1 h
  have db := Cal.dim_bd y m
  have yb := Cal.dby_bd y h1 (by omega)
  have HF : Hid (∀ n : Int, n = Cal.dby y + Cal.cum y m + d - 1 → (n ≤ 3000000 → n = (if Cal.dby y + Cal.cum y m + d - 1 ≤ 3000000 then Cal.dby y + Cal.cum y m + d - 1 else -1)) ∧ (3000000 < n → -1 = (if Cal.dby y + Cal.cum y m + d - 1 ≤ 3000000 then Cal.dby y + Cal.cum y m + d - 1 else -1))) := by
    intro n hn
    subst hn
    exact ⟨fun hle => (if_pos hle).symm, fun hgt => (if_neg (by omega)).symm⟩
  generalize (if Cal.dby y + Cal.cum y m + d - 1 ≤ 3000000 then Cal.dby y + Cal.cum y m + d - 1 else -1) = R at HF ⊢
  go_enter Try.func22, Try.ntmps22
  go_wp2_with fail
  refine (specDateOk _ _ _ _ ).mono ?_
  rintro e w1 ⟨rfl, hb1⟩
  have hc1 : ∀ o, w1.cell? ⟨w.heap.size, o, none⟩ = (w.alloc (.cells #[.int .i64 y, .int .i64 m, .int .i64 d] 40)).cell? ⟨w.heap.size, o, none⟩ := fun o => hb1.cell (p := ⟨w.heap.size, o, none⟩) (by simp)
  have HB : Hid (Below w.heap.size w w1) := ((Below.refl _ _).alloc (Nat.le_refl _) _).trans (hb1.mono (by simp))
  clear hb1
  go_wp2
  go_quiet ((go_at_call 28; refine Calls.quiet_of_same (specYear _ _ ?_ ?_) <;> omega))
  go_wp2
  go_loop [3, 4] (fun n i => ∃ k : Int, 1 ≤ k ∧ k ≤ m ∧ i = .int .i64 k ∧ n = .int .i64 (Cal.dby y + d - 1 + Cal.cum y k)) (fun _ i => (m - intOf i).toNat)
  case atStart => exact ⟨1, by omega, by omega, rfl, by rw [Cal.cum_one]; simp⟩
  case round =>
    obtain ⟨k, hk1, hk2, rfl, rfl⟩ := hrel
    have cb := Cal.cum_bd y k (by omega) (by omega)
    have db' := Cal.dim_bd y k
    by_cases hlt : k < m
    · have cs : Hid (Cal.cum y (k + 1) = Cal.cum y k + Cal.dim y k) := Cal.cum_succ y k (by omega) (by omega)
      go_wp2_with (go_at_call 29; refine (specDim _ _ _ (by omega) (by omega) (by omega)).mono ?_; rintro e w' ⟨rfl, rfl⟩)
      go_round
      case rel => exact ⟨k + 1, by omega, by omega, rfl, by rw [cs.out]; go_num⟩
      case measure => simp [intOf]; omega
    · have hkm : k = m := by omega
      subst hkm
      by_cases hle : Cal.dby y + d - 1 + Cal.cum y k ≤ 3000000
      · have E : Hid (Cal.dby y + d - 1 + Cal.cum y k = R) := (HF.out _ (by omega)).1 hle
        clear HF
        go_wp2
        go_ret
        exact ⟨ret_int E.out, below_drewN HB.out _⟩
      · have hle' : 3000000 < Cal.dby y + d - 1 + Cal.cum y k := by omega
        have E : Hid (-1 = R) := (HF.out _ (by omega)).2 hle'
        clear HF
        go_wp2
        go_ret
        exact ⟨ret_int E.out, below_drewN HB.out _⟩

theorem specDayOf (y m d : Int) (w : World) :
    Calls Try.prog 22 #[.agg #[.int .i64 y, .int .i64 m, .int .i64 d]] w fun e w' => e = .returned (.int .i64 (dayN y m d)) ∧ Below w.heap.size w w' := by
  unfold dayN
  cases h : dateB y m d with
  | true => exact specDayOf_yes y m d w h
  | false => exact specDayOf_no y m d w h

end Go.Proofs.Ytjdpaednagingaa
