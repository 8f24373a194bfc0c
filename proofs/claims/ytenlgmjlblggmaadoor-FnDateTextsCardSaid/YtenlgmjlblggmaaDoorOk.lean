/- Contracts of DateOk, of the program and of the specification: both tell whether a date is right. Condition: the table of months as its text lays it. -/
import Derived.Test.YtenlgmjlblggmaaDoorYear
import Derived.Deep.QuietTactic
import Derived.BigQuiet
namespace Go.Proofs.YtenlgmjlblggmaaDoor
open Go.RowKit

/-- Whether a date is right. -/
def dateB (y m d : Int) : Bool := decide (1 ≤ y ∧ y ≤ 9999 ∧ 1 ≤ m ∧ m ≤ 12 ∧ 1 ≤ d ∧ d ≤ Cal.dim y m)
theorem dateB_yes {y m d : Int} (h : 1 ≤ y ∧ y ≤ 9999 ∧ 1 ≤ m ∧ m ≤ 12 ∧ 1 ≤ d ∧ d ≤ Cal.dim y m) : dateB y m d = true := by simpa [dateB] using h
theorem dateB_no {y m d : Int} (h : ¬ (1 ≤ y ∧ y ≤ 9999 ∧ 1 ≤ m ∧ m ≤ 12 ∧ 1 ≤ d ∧ d ≤ Cal.dim y m)) : dateB y m d = false := decide_eq_false h
theorem dateB_iff {y m d : Int} : dateB y m d = true ↔ (1 ≤ y ∧ y ≤ 9999 ∧ 1 ≤ m ∧ m ≤ 12 ∧ 1 ≤ d ∧ d ≤ Cal.dim y m) := decide_eq_true_iff

theorem implDateOk (y m d : Int) (w : World) (ht : Tab w) :
    Calls Tryd.prog 17 #[.agg #[.int .i64 y, .int .i64 m, .int .i64 d]] w fun e w' => e = .returned (.bool (dateB y m d)) ∧ Below w.heap.size w w' := by
  by_cases h1 : y < 1
  · rw [dateB_no (by omega)]
    clear ht
    go_enter Tryd.func17, Tryd.ntmps17
    go_wp2
    go_ret
    exact ⟨rfl, (Below.refl _ _).alloc (Nat.le_refl _) _⟩
  by_cases h2 : 9999 < y
  · rw [dateB_no (by omega)]
    clear ht
    go_enter Tryd.func17, Tryd.ntmps17
    go_wp2
    go_ret
    exact ⟨rfl, (Below.refl _ _).alloc (Nat.le_refl _) _⟩
  by_cases h3 : m < 1
  · rw [dateB_no (by omega)]
    clear ht
    go_enter Tryd.func17, Tryd.ntmps17
    go_wp2
    go_ret
    exact ⟨rfl, (Below.refl _ _).alloc (Nat.le_refl _) _⟩
  by_cases h4 : 12 < m
  · rw [dateB_no (by omega)]
    clear ht
    go_enter Tryd.func17, Tryd.ntmps17
    go_wp2
    go_ret
    exact ⟨rfl, (Below.refl _ _).alloc (Nat.le_refl _) _⟩
  have ht' := ht.alloc (.cells #[.int .i64 y, .int .i64 m, .int .i64 d] 25)
  have HT : Hid (Tab (w.alloc (.cells #[.int .i64 y, .int .i64 m, .int .i64 d] 25))) := ht'
  clear ht ht'
  by_cases h5 : 1 ≤ d
  · by_cases h6 : d ≤ Cal.dim y m
    · rw [dateB_yes (by omega)]
      go_enter Tryd.func17, Tryd.ntmps17
      go_wp2
      go_quiet ((go_at_call 28; exact Calls.quiet_of_same (implDim _ _ _ (by omega) (by omega) (by omega) HT.out)))
      go_wp2
      go_ret
      exact ⟨rfl, below_drewN ((Below.refl _ _).alloc (Nat.le_refl _) _) _⟩
    · rw [dateB_no (by omega)]
      have hd6 : decide (d ≤ Cal.dim y m) = false := decide_eq_false h6
      clear h6
      go_enter Tryd.func17, Tryd.ntmps17
      go_wp2
      go_quiet ((go_at_call 28; exact Calls.quiet_of_same (implDim _ _ _ (by omega) (by omega) (by omega) HT.out)))
      go_wp2
      go_ret
      exact ⟨rfl, below_drewN ((Below.refl _ _).alloc (Nat.le_refl _) _) _⟩
  · rw [dateB_no (by omega)]
    have hd : decide (1 ≤ d) = false := by simpa using h5
    go_enter Tryd.func17, Tryd.ntmps17
    go_wp2
    go_quiet (fail)
    go_wp2
    go_ret
    exact ⟨rfl, below_drewN ((Below.refl _ _).alloc (Nat.le_refl _) _) _⟩

theorem l1In_yes (n lo hi : Int) (w : World) (h : lo ≤ n ∧ n ≤ hi) :
    Calls Tryd.prog 25 #[.int .i64 n, .int .i64 lo, .int .i64 hi] w fun e w' => e = .returned (.bool true) ∧ w' = w := by
  have := l1In_any n lo hi w
  rwa [inB_yes h] at this
theorem l1In_no (n lo hi : Int) (w : World) (h : ¬ (lo ≤ n ∧ n ≤ hi)) :
    Calls Tryd.prog 25 #[.int .i64 n, .int .i64 lo, .int .i64 hi] w fun e w' => e = .returned (.bool false) ∧ w' = w := by
  have := l1In_any n lo hi w
  rwa [inB_no h] at this

theorem specDateOk (y m d : Int) (w : World) :
    Calls Tryd.prog 15 #[.agg #[.int .i64 y, .int .i64 m, .int .i64 d]] w fun e w' => e = .returned (.bool (dateB y m d)) ∧ Below w.heap.size w w' := by
  by_cases h1 : 1 ≤ y ∧ y ≤ 9999
  · by_cases h2 : 1 ≤ m ∧ m ≤ 12
    · by_cases h3 : 1 ≤ d ∧ d ≤ Cal.dim y m
      · rw [dateB_yes (by omega)]
        go_enter Tryd.func15, Tryd.ntmps15
        go_wp2
        go_quiet ((first | (go_at_call 25; refine Calls.quiet_of_same (l1In_yes _ _ _ _ ?_) <;> omega) | (go_at_call 25; refine Calls.quiet_of_same (l1In_no _ _ _ _ ?_) <;> omega) | (go_at_call 26; refine Calls.quiet_of_same (specDim _ _ _ ?_ ?_ ?_) <;> omega)))
        go_wp2
        go_ret
        exact ⟨rfl, below_drewN ((Below.refl _ _).alloc (Nat.le_refl _) _) _⟩
      · rw [dateB_no (by omega)]
        go_enter Tryd.func15, Tryd.ntmps15
        go_wp2
        go_quiet ((first | (go_at_call 25; refine Calls.quiet_of_same (l1In_yes _ _ _ _ ?_) <;> omega) | (go_at_call 25; refine Calls.quiet_of_same (l1In_no _ _ _ _ ?_) <;> omega) | (go_at_call 26; refine Calls.quiet_of_same (specDim _ _ _ ?_ ?_ ?_) <;> omega)))
        go_wp2
        go_ret
        exact ⟨rfl, below_drewN ((Below.refl _ _).alloc (Nat.le_refl _) _) _⟩
    · rw [dateB_no (by omega)]
      go_enter Tryd.func15, Tryd.ntmps15
      go_wp2
      go_quiet ((first | (go_at_call 25; refine Calls.quiet_of_same (l1In_yes _ _ _ _ ?_) <;> omega) | (go_at_call 25; refine Calls.quiet_of_same (l1In_no _ _ _ _ ?_) <;> omega) | (go_at_call 26; refine Calls.quiet_of_same (specDim _ _ _ ?_ ?_ ?_) <;> omega)))
      go_wp2
      go_ret
      exact ⟨rfl, below_drewN ((Below.refl _ _).alloc (Nat.le_refl _) _) _⟩
  · rw [dateB_no (by omega)]
    go_enter Tryd.func15, Tryd.ntmps15
    go_wp2
    go_quiet ((first | (go_at_call 25; refine Calls.quiet_of_same (l1In_yes _ _ _ _ ?_) <;> omega) | (go_at_call 25; refine Calls.quiet_of_same (l1In_no _ _ _ _ ?_) <;> omega) | (go_at_call 26; refine Calls.quiet_of_same (specDim _ _ _ ?_ ?_ ?_) <;> omega)))
    go_wp2
    go_ret
    exact ⟨rfl, below_drewN ((Below.refl _ _).alloc (Nat.le_refl _) _) _⟩

/-- The field by field copy of a date. -/
theorem toDate (y m d : Int) (w : World) :
    Calls Tryd.prog 7 #[.agg #[.int .i64 y, .int .i64 m, .int .i64 d]] w fun e w' => e = .returned (.agg #[.int .i64 y, .int .i64 m, .int .i64 d]) ∧ Below w.heap.size w w' := by
  go_enter Tryd.func7, Tryd.ntmps7
  go_wp2
  exact bodyPost_ret (v := .agg #[.int .i64 y, .int .i64 m, .int .i64 d]) (by simp [results, Tryd.results7, go_sem]) rfl ⟨rfl, (((Below.refl _ _).alloc (Nat.le_refl _) _).alloc (by simp) _).alloc (by simp; omega) _⟩
end Go.Proofs.YtenlgmjlblggmaaDoor
