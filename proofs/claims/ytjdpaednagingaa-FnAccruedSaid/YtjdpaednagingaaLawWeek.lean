/- The law FnWeekdays returns true, whatever the bytes of the code. Conditions: the bytes lie in memory. -/
import Derived.Test.YtjdpaednagingaaDraw
namespace Go.Proofs.Ytjdpaednagingaa
open Go.RowKit

theorem big_no (a : Option Addr) (len cap : Nat) (w : World) (h : len ≤ 1048576) :
    Calls Try.prog 11 #[.slice a len cap] w fun e w' => e = .returned (.bool false) ∧ w' = w := by
  have h' : ¬ (1048576 < len) := by omega
  go_enter Try.func11, Try.ntmps11
  go_wp2
  go_ret
  exact ⟨by simp; omega, rfl⟩
theorem big_yes (a : Option Addr) (len cap : Nat) (w : World) (h : 1048576 < len) :
    Calls Try.prog 11 #[.slice a len cap] w fun e w' => e = .returned (.bool true) ∧ w' = w := by
  go_enter Try.func11, Try.ntmps11
  go_wp2
  go_ret
  exact ⟨by simp; omega, rfl⟩

theorem implWeekday_in (n : Int) (w : World) (h1 : 0 ≤ n) (h2 : n ≤ 3000000) :
    Calls Try.prog 8 #[.int .i64 n] w fun e w' => e = .returned (.int .i64 (n % 7 + 1)) ∧ w' = w := by
  have := implWeekday n w
  rwa [show wd n = n % 7 + 1 from by simp [wd, inB_yes ⟨h1, h2⟩]] at this
theorem specWeekday_in (n : Int) (w : World) (h1 : 0 ≤ n) (h2 : n ≤ 3000000) :
    Calls Try.prog 7 #[.int .i64 n] w fun e w' => e = .returned (.int .i64 (n % 7 + 1)) ∧ w' = w := by
  have := specWeekday n w
  rwa [show wd n = n % 7 + 1 from by simp [wd, inB_yes ⟨h1, h2⟩]] at this
theorem implWeekday_out (n : Int) (w : World) (h : ¬ (0 ≤ n ∧ n ≤ 3000000)) :
    Calls Try.prog 8 #[.int .i64 n] w fun e w' => e = .returned (.int .i64 (-1)) ∧ w' = w := by
  have := implWeekday n w
  rwa [show wd n = -1 from by simp [wd, inB_no h]] at this
theorem specWeekday_out (n : Int) (w : World) (h : ¬ (0 ≤ n ∧ n ≤ 3000000)) :
    Calls Try.prog 7 #[.int .i64 n] w fun e w' => e = .returned (.int .i64 (-1)) ∧ w' = w := by
  have := specWeekday n w
  rwa [show wd n = -1 from by simp [wd, inB_no h]] at this

set_option maxHeartbeats 1000000 in
theorem lawWeekdays (a : Option Addr) (len cap : Nat) (w : World) (h : Code w a len) :
    Calls Try.prog 5 #[.slice a len cap] w fun e w' => e = .returned (.bool true) ∧ Below w.heap.size w w' := by
  have H : Hid (Code w a len) := h
  clear h
  by_cases hbig : 1048576 < len
  · go_enter Try.func5, Try.ntmps5
    go_wp2_with (go_at_call 11; refine (big_yes _ _ _ _ hbig).mono ?_; rintro e w' ⟨rfl, rfl⟩)
    go_ret
    exact ⟨rfl, Below.refl _ _⟩
  go_enter Try.func5, Try.ntmps5
  go_wp2_with (go_at_call 11; refine (big_no _ _ _ _ (by omega)).mono ?_; rintro e w' ⟨rfl, rfl⟩)
  refine (drawWeekdayOf a len cap _ H.out).mono ?_
  rintro e w1 ⟨v, rfl, B1⟩
  have BB : Hid (Below _ _ w1) := B1
  clear B1 H hbig
  by_cases h1 : 0 ≤ v ∧ v ≤ 3000000
  · obtain ⟨p1, p2⟩ := h1
    by_cases h2 : v ≤ 2999993
    · go_wp2_with (first | (go_at_call 7; refine (specWeekday_in _ _ (by omega) (by omega)).mono ?_; rintro e w' ⟨rfl, rfl⟩) | (go_at_call 8; refine (implWeekday_in _ _ (by omega) (by omega)).mono ?_; rintro e w' ⟨rfl, rfl⟩))
      go_ret
      exact ⟨by simp, BB.out⟩
    · have h2' : 2999993 < v := by omega
      go_wp2_with (first | (go_at_call 7; refine (specWeekday_in _ _ (by omega) (by omega)).mono ?_; rintro e w' ⟨rfl, rfl⟩) | (go_at_call 8; refine (implWeekday_in _ _ (by omega) (by omega)).mono ?_; rintro e w' ⟨rfl, rfl⟩))
      go_ret
      exact ⟨rfl, BB.out⟩
  · go_wp2_with (first | (go_at_call 7; refine (specWeekday_out _ _ h1).mono ?_; rintro e w' ⟨rfl, rfl⟩) | (go_at_call 8; refine (implWeekday_out _ _ h1).mono ?_; rintro e w' ⟨rfl, rfl⟩))
    go_ret
    exact ⟨rfl, BB.out⟩
end Go.Proofs.Ytjdpaednagingaa
