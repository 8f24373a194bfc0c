/- Contracts of the number functions of chapter 1 that read no table: ranges, weekdays, interest. No conditions. -/
import Derived.Test.YtleblllofibfkaaRows
import Derived.WalkKit
import Derived.WalkLawsBesides
import Derived.Below
namespace Go.Proofs.Ytleblllofibfkaa
open Go.RowKit
set_option maxRecDepth 8000

/-- In a range, both ends taken: a Bool that the walk leaves as it is. -/
def inB (n lo hi : Int) : Bool := decide (lo ≤ n) && decide (n ≤ hi)
theorem inB_yes {n lo hi : Int} (h : lo ≤ n ∧ n ≤ hi) : inB n lo hi = true := by simp [inB, h]
theorem inB_no {n lo hi : Int} (h : ¬ (lo ≤ n ∧ n ≤ hi)) : inB n lo hi = false := by simp only [inB, Bool.and_eq_false_iff, decide_eq_false_iff_not]; omega

theorem l1In_any (n lo hi : Int) (w : World) :
    Calls Try.prog 45 #[.int .i64 n, .int .i64 lo, .int .i64 hi] w fun e w' => e = .returned (.bool (inB n lo hi)) ∧ w' = w := by
  by_cases h1 : lo ≤ n
  · by_cases h2 : n ≤ hi
    · rw [inB_yes ⟨h1, h2⟩]
      go_enter Try.func45, Try.ntmps45
      go_wp2
      go_ret
      exact ⟨rfl, rfl⟩
    · rw [inB_no (by omega)]
      have h2' : hi < n := by omega
      go_enter Try.func45, Try.ntmps45
      go_wp2
      go_ret
      exact ⟨rfl, rfl⟩
  · rw [inB_no (by omega)]
    have h1' : n < lo := by omega
    go_enter Try.func45, Try.ntmps45
    go_wp2
    go_ret
    exact ⟨rfl, rfl⟩

/-- The weekday of a day. -/
def wd (n : Int) : Int := if inB n 0 3000000 = true then n % 7 + 1 else -1

end Go.Proofs.Ytleblllofibfkaa

/- Contracts of Accrued, of the program and of the specification: both answer the quotient and the rest of Euclid's division. No conditions. -/
namespace Go.Proofs.Ytleblllofibfkaa
open Go.RowKit
set_option maxRecDepth 8000

theorem tdiv_neg' (t : Int) (h : t < 0) : t.tdiv 3650000 = -((-t) / 3650000) := by
  have e : t = -(-t) := by omega
  rw [e, Int.neg_tdiv, Int.tdiv_eq_ediv_of_nonneg (by omega)]; simp
theorem tmod_neg' (t : Int) (h : t < 0) : t.tmod 3650000 = -((-t) % 3650000) := by
  have e : t = -(-t) := by omega
  rw [e, Int.neg_tmod, Int.tmod_eq_emod_of_nonneg (by omega)]; simp

/-- The bounds of what is earned. -/
theorem mul_bd (b r : Int) (h1 : -1000000000000 ≤ b) (h2 : b ≤ 1000000000000) (h3 : 0 ≤ r) (h4 : r ≤ 10000) : -10000000000000000 ≤ b * r ∧ b * r ≤ 10000000000000000 := by
  have a1 : b * r ≤ 1000000000000 * r := Int.mul_le_mul_of_nonneg_right h2 h3
  have a2 : -1000000000000 * r ≤ b * r := Int.mul_le_mul_of_nonneg_right h1 h3
  omega

/-- Whether the three are in their ranges. -/
def accOk (b r c : Int) : Bool := inB b (-1000000000000) 1000000000000 && inB r 0 10000 && inB c 0 3649999
def accN (b r c : Int) : Int := if accOk b r c = true then (b * r + c) / 3650000 else 0
def accC (b r c : Int) : Int := if accOk b r c = true then (b * r + c) % 3650000 else 0

theorem ret3 {a b a' b' : Int} {x y : Bool} (h : a = a') (k : b = b') (l : x = y) : Ending.returned (.tuple #[.int .i64 a, .int .i64 b, .bool x]) = .returned (.tuple #[.int .i64 a', .int .i64 b', .bool y]) := by rw [h, k, l]

/-- Go's quotient and rest below 0, held against Euclid's. -/
theorem neg_parts (t : Int) (h : t < 0) (hb : -20000000000000000 ≤ t) : ∃ q m : Int, t.tdiv 3650000 = q ∧ t.tmod 3650000 = m ∧ -20000000000 ≤ q ∧ q ≤ 0 ∧ -3650000 < m ∧ m ≤ 0 ∧ t = q * 3650000 + m ∧
    (m < 0 → q - 1 = t / 3650000 ∧ m + 3650000 = t % 3650000) ∧ (m = 0 → q = t / 3650000 ∧ 0 = t % 3650000) := by
  refine ⟨_, _, tdiv_neg' t h, tmod_neg' t h, by omega, by omega, by omega, by omega, by omega, fun _ => by omega, fun _ => by omega⟩

set_option maxHeartbeats 400000 in
theorem implAccrued_yes (b r c : Int) (w : World) (h1 : -1000000000000 ≤ b) (h2 : b ≤ 1000000000000) (h3 : 0 ≤ r) (h4 : r ≤ 10000) (h5 : 0 ≤ c) (h6 : c < 3650000) :
    Calls Try.prog 12 #[.int .i64 b, .int .i64 r, .int .i64 c] w fun e w' => e = .returned (.tuple #[.int .i64 ((b * r + c) / 3650000), .int .i64 ((b * r + c) % 3650000), .bool true]) ∧ w' = w := by
  obtain ⟨m1, m2⟩ := mul_bd b r h1 h2 h3 h4
  by_cases ht : 0 ≤ b * r + c
  · go_enter Try.func12, Try.ntmps12
    go_wp2
    go_ret3
    exact ⟨rfl, rfl⟩
  · obtain ⟨q, m, hq, hm, q1, q2, q3, q4, ht', hy, hn⟩ := neg_parts (b * r + c) (by omega) (by omega)
    by_cases hm0 : m < 0
    · obtain ⟨e1, e2⟩ := hy hm0
      have E1 : Hid (q - 1 = (b * r + c) / 3650000) := e1
      have E2 : Hid (m + 3650000 = (b * r + c) % 3650000) := e2
      clear e1 e2 hy hn ht'
      go_enter Try.func12, Try.ntmps12
      go_wp2
      go_ret3
      exact ⟨ret3 E1.out E2.out rfl, rfl⟩
    · obtain ⟨e1, e2⟩ := hn (by omega)
      have E1 : Hid (q = (b * r + c) / 3650000) := e1
      have E2 : Hid (m = (b * r + c) % 3650000) := by have : m = 0 := by omega
                                                      rw [this]; exact e2
      clear e1 e2 hy hn ht'
      go_enter Try.func12, Try.ntmps12
      go_wp2
      go_ret3
      exact ⟨ret3 E1.out E2.out rfl, rfl⟩

set_option maxHeartbeats 400000 in
theorem implAccrued_no (b r c : Int) (w : World) (h : ¬ (-1000000000000 ≤ b ∧ b ≤ 1000000000000 ∧ 0 ≤ r ∧ r ≤ 10000 ∧ 0 ≤ c ∧ c < 3650000)) :
    Calls Try.prog 12 #[.int .i64 b, .int .i64 r, .int .i64 c] w fun e w' => e = .returned (.tuple #[.int .i64 0, .int .i64 0, .bool false]) ∧ w' = w := by
  by_cases h1 : b < -1000000000000
  · go_enter Try.func12, Try.ntmps12
    go_wp2
    go_ret3
    exact ⟨rfl, rfl⟩
  by_cases h2 : 1000000000000 < b
  · go_enter Try.func12, Try.ntmps12
    go_wp2
    go_ret3
    exact ⟨rfl, rfl⟩
  by_cases h3 : r < 0
  · go_enter Try.func12, Try.ntmps12
    go_wp2
    go_ret3
    exact ⟨rfl, rfl⟩
  by_cases h4 : 10000 < r
  · go_enter Try.func12, Try.ntmps12
    go_wp2
    go_ret3
    exact ⟨rfl, rfl⟩
  by_cases h5 : c < 0
  · go_enter Try.func12, Try.ntmps12
    go_wp2
    go_ret3
    exact ⟨rfl, rfl⟩
  have h6 : 3650000 ≤ c := by omega
  go_enter Try.func12, Try.ntmps12
  go_wp2
  go_ret3
  exact ⟨rfl, rfl⟩

set_option maxHeartbeats 400000 in
theorem specAccrued_yes (b r c : Int) (w : World) (h1 : -1000000000000 ≤ b) (h2 : b ≤ 1000000000000) (h3 : 0 ≤ r) (h4 : r ≤ 10000) (h5 : 0 ≤ c) (h6 : c < 3650000) :
    Calls Try.prog 43 #[.int .i64 b, .int .i64 r, .int .i64 c] w fun e w' => e = .returned (.tuple #[.int .i64 ((b * r + c) / 3650000), .int .i64 ((b * r + c) % 3650000), .bool true]) ∧ w' = w := by
  obtain ⟨m1, m2⟩ := mul_bd b r h1 h2 h3 h4
  have i1 := inB_yes ⟨h1, h2⟩
  have i2 := inB_yes ⟨h3, h4⟩
  have i3 : inB c 0 3649999 = true := inB_yes ⟨h5, by omega⟩
  by_cases ht : 0 ≤ b * r + c
  · have E : Hid (b * r + c - (b * r + c) / 3650000 * 3650000 = (b * r + c) % 3650000) := by show _ = _; omega
    go_enter Try.func43, Try.ntmps43
    go_wp2_with (go_at_call 45; refine (l1In_any _ _ _ _).mono ?_; rintro e w' ⟨rfl, rfl⟩)
    go_ret3
    exact ⟨ret3 rfl E.out rfl, rfl⟩
  · obtain ⟨q, m, hq, hm, q1, q2, q3, q4, ht', hy, hn⟩ := neg_parts (b * r + c) (by omega) (by omega)
    by_cases hm0 : m < 0
    · obtain ⟨e1, e2⟩ := hy hm0
      have E1 : Hid (q - 1 = (b * r + c) / 3650000) := e1
      have E2 : Hid (b * r + c - (q - 1) * 3650000 = (b * r + c) % 3650000) := by show _ = _; omega
      have b1 : -20000000000 * 3650000 ≤ b * r + c := by omega
      clear e1 e2 hy hn ht'
      go_enter Try.func43, Try.ntmps43
      go_wp2_with (go_at_call 45; refine (l1In_any _ _ _ _).mono ?_; rintro e w' ⟨rfl, rfl⟩)
      go_ret3
      exact ⟨ret3 E1.out E2.out rfl, rfl⟩
    · obtain ⟨e1, e2⟩ := hn (by omega)
      have E1 : Hid (q = (b * r + c) / 3650000) := e1
      have E2 : Hid (b * r + c - q * 3650000 = (b * r + c) % 3650000) := by show _ = _; omega
      clear e1 e2 hy hn ht'
      go_enter Try.func43, Try.ntmps43
      go_wp2_with (go_at_call 45; refine (l1In_any _ _ _ _).mono ?_; rintro e w' ⟨rfl, rfl⟩)
      go_ret3
      exact ⟨ret3 E1.out E2.out rfl, rfl⟩

set_option maxHeartbeats 400000 in
theorem specAccrued_no (b r c : Int) (w : World) (h : ¬ (-1000000000000 ≤ b ∧ b ≤ 1000000000000 ∧ 0 ≤ r ∧ r ≤ 10000 ∧ 0 ≤ c ∧ c < 3650000)) :
    Calls Try.prog 43 #[.int .i64 b, .int .i64 r, .int .i64 c] w fun e w' => e = .returned (.tuple #[.int .i64 0, .int .i64 0, .bool false]) ∧ w' = w := by
  by_cases h1 : -1000000000000 ≤ b ∧ b ≤ 1000000000000
  · have i1 := inB_yes h1
    by_cases h2 : 0 ≤ r ∧ r ≤ 10000
    · have i2 := inB_yes h2
      have i3 : inB c 0 3649999 = false := inB_no (by omega)
      clear h h1 h2
      go_enter Try.func43, Try.ntmps43
      go_wp2_with (go_at_call 45; refine (l1In_any _ _ _ _).mono ?_; rintro e w' ⟨rfl, rfl⟩)
      go_ret3
      exact ⟨rfl, rfl⟩
    · have i2 := inB_no h2
      clear h h1 h2
      go_enter Try.func43, Try.ntmps43
      go_wp2_with (go_at_call 45; refine (l1In_any _ _ _ _).mono ?_; rintro e w' ⟨rfl, rfl⟩)
      go_ret3
      exact ⟨rfl, rfl⟩
  · have i1 := inB_no h1
    clear h h1
    go_enter Try.func43, Try.ntmps43
    go_wp2_with (go_at_call 45; refine (l1In_any _ _ _ _).mono ?_; rintro e w' ⟨rfl, rfl⟩)
    go_ret3
    exact ⟨rfl, rfl⟩

theorem accOk_iff (b r c : Int) : accOk b r c = true ↔ (-1000000000000 ≤ b ∧ b ≤ 1000000000000 ∧ 0 ≤ r ∧ r ≤ 10000 ∧ 0 ≤ c ∧ c < 3650000) := by
  simp only [accOk, inB, Bool.and_eq_true, decide_eq_true_eq]; omega

theorem implAccrued (b r c : Int) (w : World) :
    Calls Try.prog 12 #[.int .i64 b, .int .i64 r, .int .i64 c] w fun e w' => e = .returned (.tuple #[.int .i64 (accN b r c), .int .i64 (accC b r c), .bool (accOk b r c)]) ∧ w' = w := by
  unfold accN accC
  cases h : accOk b r c with
  | true =>
    obtain ⟨h1, h2, h3, h4, h5, h6⟩ := (accOk_iff b r c).1 h
    exact implAccrued_yes b r c w h1 h2 h3 h4 h5 h6
  | false => exact implAccrued_no b r c w (fun hh => by rw [(accOk_iff b r c).2 hh] at h; cases h)

theorem specAccrued (b r c : Int) (w : World) :
    Calls Try.prog 43 #[.int .i64 b, .int .i64 r, .int .i64 c] w fun e w' => e = .returned (.tuple #[.int .i64 (accN b r c), .int .i64 (accC b r c), .bool (accOk b r c)]) ∧ w' = w := by
  unfold accN accC
  cases h : accOk b r c with
  | true =>
    obtain ⟨h1, h2, h3, h4, h5, h6⟩ := (accOk_iff b r c).1 h
    exact specAccrued_yes b r c w h1 h2 h3 h4 h5 h6
  | false => exact specAccrued_no b r c w (fun hh => by rw [(accOk_iff b r c).2 hh] at h; cases h)

end Go.Proofs.Ytleblllofibfkaa
