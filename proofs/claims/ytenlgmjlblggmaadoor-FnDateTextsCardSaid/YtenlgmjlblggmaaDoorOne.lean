/- Contracts of the small functions of chapter 1: leap years, lengths of months, days ahead of a year, the year of a day. Conditions: years from 1 to 20000, months from 1 to 12, the table of months as its text lays it. -/
import Derived.Test.YtenlgmjlblggmaaDoorCal
import Derived.Test.YtenlgmjlblggmaaDoorRows
import Derived.WalkKit
import Derived.WalkLawsBesides
import Derived.Below
namespace Go.Proofs.YtenlgmjlblggmaaDoor
open Go.RowKit

theorem ret_int {k : IntKind} {a b : Int} (h : a = b) : Ending.returned (.int k a) = .returned (.int k b) := by rw [h]

/-- In a range, both ends taken: a Bool that the walk leaves as it is. -/
def inB (n lo hi : Int) : Bool := decide (lo ≤ n) && decide (n ≤ hi)
theorem inB_yes {n lo hi : Int} (h : lo ≤ n ∧ n ≤ hi) : inB n lo hi = true := by simp [inB, h]
theorem inB_no {n lo hi : Int} (h : ¬ (lo ≤ n ∧ n ≤ hi)) : inB n lo hi = false := by simp only [inB, Bool.and_eq_false_iff, decide_eq_false_iff_not]; omega

theorem l1In_any (n lo hi : Int) (w : World) :
    Calls Tryd.prog 25 #[.int .i64 n, .int .i64 lo, .int .i64 hi] w fun e w' => e = .returned (.bool (inB n lo hi)) ∧ w' = w := by
  by_cases h1 : lo ≤ n
  · by_cases h2 : n ≤ hi
    · rw [inB_yes ⟨h1, h2⟩]
      go_enter Tryd.func25, Tryd.ntmps25
      go_wp2
      go_ret
      exact ⟨rfl, rfl⟩
    · rw [inB_no (by omega)]
      have h2' : hi < n := by omega
      go_enter Tryd.func25, Tryd.ntmps25
      go_wp2
      go_ret
      exact ⟨rfl, rfl⟩
  · rw [inB_no (by omega)]
    have h1' : n < lo := by omega
    go_enter Tryd.func25, Tryd.ntmps25
    go_wp2
    go_ret
    exact ⟨rfl, rfl⟩

/-- Whether a year is a leap year. -/
def leapB (y : Int) : Bool := decide (Cal.lp y = 1)
theorem leapB_of {y : Int} (h : y % 4 = 0 ∧ (y % 100 ≠ 0 ∨ y % 400 = 0)) : leapB y = true := by simp [leapB, Cal.lp, h]
theorem leapB_not {y : Int} (h : ¬ (y % 4 = 0 ∧ (y % 100 ≠ 0 ∨ y % 400 = 0))) : leapB y = false := by
  unfold leapB Cal.lp; rw [if_neg h]; simp
theorem lp_of {y : Int} (h : leapB y = true) : Cal.lp y = 1 := by simpa [leapB] using h
theorem lp_not {y : Int} (h : leapB y = false) : Cal.lp y = 0 := by
  have := Cal.lp_01 y
  have h' : ¬ Cal.lp y = 1 := by simpa [leapB] using h
  omega

theorem specLeap (y : Int) (w : World) (h0 : 0 ≤ y) :
    Calls Tryd.prog 33 #[.int .i64 y] w fun e w' => e = .returned (.bool (leapB y)) ∧ w' = w := by
  by_cases h4 : y % 4 = 0
  · have b4 : (y % 4 == 0) = true := by simp [h4]
    by_cases h100 : y % 100 = 0
    · have b100 : (y % 100 != 0) = false := by simp [h100]
      by_cases h400 : y % 400 = 0
      · have b400 : (y % 400 == 0) = true := by simp [h400]
        rw [leapB_of (by omega)]; clear h4 h100 h400
        go_enter Tryd.func33, Tryd.ntmps33
        go_wp2
        go_ret
        exact ⟨rfl, rfl⟩
      · have b400 : (y % 400 == 0) = false := by simp [h400]
        rw [leapB_not (by omega)]; clear h4 h100 h400
        go_enter Tryd.func33, Tryd.ntmps33
        go_wp2
        go_ret
        exact ⟨rfl, rfl⟩
    · have b100 : (y % 100 != 0) = true := by simp [h100]
      rw [leapB_of (by omega)]; clear h4 h100
      go_enter Tryd.func33, Tryd.ntmps33
      go_wp2
      go_ret
      exact ⟨rfl, rfl⟩
  · have b4 : (y % 4 == 0) = false := by simp [h4]
    rw [leapB_not (by omega)]; clear h4
    go_enter Tryd.func33, Tryd.ntmps33
    go_wp2
    go_ret
    exact ⟨rfl, rfl⟩

theorem implLeap (y : Int) (w : World) (h0 : 0 ≤ y) :
    Calls Tryd.prog 34 #[.int .i64 y] w fun e w' => e = .returned (.bool (leapB y)) ∧ w' = w := by
  by_cases h4 : y % 4 = 0
  · have b4 : (y % 4 == 0) = true := by simp [h4]
    by_cases h100 : y % 100 = 0
    · have b100 : (y % 100 != 0) = false := by simp [h100]
      by_cases h400 : y % 400 = 0
      · have b400 : (y % 400 == 0) = true := by simp [h400]
        rw [leapB_of (by omega)]; clear h4 h100 h400
        go_enter Tryd.func34, Tryd.ntmps34
        go_wp2
        go_ret
        exact ⟨rfl, rfl⟩
      · have b400 : (y % 400 == 0) = false := by simp [h400]
        rw [leapB_not (by omega)]; clear h4 h100 h400
        go_enter Tryd.func34, Tryd.ntmps34
        go_wp2
        go_ret
        exact ⟨rfl, rfl⟩
    · have b100 : (y % 100 != 0) = true := by simp [h100]
      rw [leapB_of (by omega)]; clear h4 h100
      go_enter Tryd.func34, Tryd.ntmps34
      go_wp2
      go_ret
      exact ⟨rfl, rfl⟩
  · have b4 : (y % 4 == 0) = false := by simp [h4]
    rw [leapB_not (by omega)]; clear h4
    go_enter Tryd.func34, Tryd.ntmps34
    go_wp2
    go_ret
    exact ⟨rfl, rfl⟩

theorem cases12 (m : Int) (h1 : 1 ≤ m) (h2 : m ≤ 12) : m = 1 ∨ m = 2 ∨ m = 3 ∨ m = 4 ∨ m = 5 ∨ m = 6 ∨ m = 7 ∨ m = 8 ∨ m = 9 ∨ m = 10 ∨ m = 11 ∨ m = 12 := by omega

theorem specDim (y m : Int) (w : World) (h0 : 0 ≤ y) (h1 : 1 ≤ m) (h2 : m ≤ 12) :
    Calls Tryd.prog 26 #[.int .i64 y, .int .i64 m] w fun e w' => e = .returned (.int .i64 (Cal.dim y m)) ∧ w' = w := by
  by_cases hm : m = 2
  · subst hm
    cases hl : leapB y with
    | true =>
      have e : Cal.dim y 2 = 29 := by simp [Cal.dim, lp_of hl]
      rw [e]
      go_enter Tryd.func26, Tryd.ntmps26
      go_wp2_with (go_at_call 33; refine (specLeap _ _ (by omega)).mono ?_; rintro e w' ⟨rfl, rfl⟩)
      go_ret
      exact ⟨rfl, rfl⟩
    | false =>
      have e : Cal.dim y 2 = 28 := by simp [Cal.dim, lp_not hl]
      rw [e]
      go_enter Tryd.func26, Tryd.ntmps26
      go_wp2_with (go_at_call 33; refine (specLeap _ _ (by omega)).mono ?_; rintro e w' ⟨rfl, rfl⟩)
      go_ret
      exact ⟨rfl, rfl⟩
  · rcases cases12 m h1 h2 with h | h | h | h | h | h | h | h | h | h | h | h
    all_goals
      first
      | exact absurd h hm
      | (subst h
         clear h1 h2 hm
         rw [show Cal.dim y _ = _ from by simp [Cal.dim]; rfl]
         go_enter Tryd.func26, Tryd.ntmps26
         go_wp2
         go_ret
         exact ⟨rfl, rfl⟩)
end Go.Proofs.YtenlgmjlblggmaaDoor
