/- OpOk, of the program and of the specification: both answer whether an op is right. No conditions. -/
import Derived.Test.YtedhlmipcfdldaaGreatDoorFAccS
namespace Go.Proofs.YtedhlmipcfdldaaGreatDoor
open Go.RowKit
set_option maxRecDepth 8000

/-- A call tells, by a Bool, whether something is so. -/
def Tells (e : Ending) (P : Prop) : Prop := ∃ b : Bool, e = .returned (.bool b) ∧ (b = true → P) ∧ (b = false → ¬ P)
theorem Tells.yes {P : Prop} (h : P) : Tells (.returned (.bool true)) P := ⟨true, rfl, fun _ => h, fun e => (by cases e)⟩
theorem Tells.no {P : Prop} (h : ¬ P) : Tells (.returned (.bool false)) P := ⟨false, rfl, fun e => (by cases e), fun _ => h⟩
/-- A right op. -/
def opOk (k i t m r : Int) : Prop := (1 ≤ i ∧ i ≤ 1000000) ∧
  ((k = 1 ∧ t = 0 ∧ (0 ≤ m ∧ m ≤ 1000000000000) ∧ (0 ≤ r ∧ r ≤ 10000)) ∨
   (k = 1 ∧ t ≠ 0 ∧ (1 ≤ t ∧ t ≤ 1000000) ∧ i ≠ t ∧ (-1 ≤ m ∧ m ≤ 1000000000000) ∧ r = 0) ∨
   ((k = 2 ∨ k = 3 ∨ k = 4) ∧ t = 0 ∧ m = 0 ∧ r = 0) ∨
   ((k = 5 ∨ k = 6) ∧ t = 0 ∧ (1 ≤ m ∧ m ≤ 1000000000000) ∧ r = 0) ∨
   (k = 7 ∧ (1 ≤ t ∧ t ≤ 1000000) ∧ i ≠ t ∧ (1 ≤ m ∧ m ≤ 1000000000000) ∧ r = 0) ∨
   ((k = 8 ∨ k = 10) ∧ t = 0 ∧ (-1 ≤ m ∧ m ≤ 1000000000000) ∧ r = 0) ∨
   (k = 9 ∧ (1 ≤ t ∧ t ≤ 1000000) ∧ i ≠ t ∧ m = 0 ∧ r = 0))

theorem l1In_b (n lo hi : Int) (w : World) :
    Calls Tryz.prog 33 #[.int .i64 n, .int .i64 lo, .int .i64 hi] w fun e w' => Tells e (lo ≤ n ∧ n ≤ hi) ∧ w' = w := by
  by_cases h : lo ≤ n ∧ n ≤ hi
  · exact (l1In_yes n lo hi w h).mono fun e w' ⟨he, hw⟩ => ⟨⟨true, he, fun _ => h, fun e => (by cases e)⟩, hw⟩
  · exact (l1In_no n lo hi w h).mono fun e w' ⟨he, hw⟩ => ⟨⟨false, he, fun e => (by cases e), fun _ => h⟩, hw⟩

theorem idOk_b (n : Int) (w : World) :
    Calls Tryz.prog 64 #[.int .i64 n] w fun e w' => Tells e (1 ≤ n ∧ n ≤ 1000000) ∧ w' = w := by
  by_cases h : 1 ≤ n ∧ n ≤ 1000000
  · exact (idOk_yes n w h).mono fun e w' ⟨he, hw⟩ => ⟨⟨true, he, fun _ => h, fun e => (by cases e)⟩, hw⟩
  · exact (idOk_no n w h).mono fun e w' ⟨he, hw⟩ => ⟨⟨false, he, fun e => (by cases e), fun _ => h⟩, hw⟩

theorem noneOk_b (n : Int) (w : World) :
    Calls Tryz.prog 65 #[.int .i64 n] w fun e w' => Tells e (-1 ≤ n ∧ n ≤ 1000000000000) ∧ w' = w := by
  by_cases h : -1 ≤ n ∧ n ≤ 1000000000000
  · exact (amount_yes n w h).mono fun e w' ⟨he, hw⟩ => ⟨⟨true, he, fun _ => h, fun e => (by cases e)⟩, hw⟩
  · exact (amount_no n w h).mono fun e w' ⟨he, hw⟩ => ⟨⟨false, he, fun e => (by cases e), fun _ => h⟩, hw⟩

theorem someOk_yes (n : Int) (w : World) (h : 1 ≤ n ∧ n ≤ 1000000000000) :
    Calls Tryz.prog 68 #[.int .i64 n] w fun e w' => e = .returned (.bool true) ∧ w' = w := by
  obtain ⟨h1, h2⟩ := h
  go_enter Tryz.func68, Tryz.ntmps68
  go_wp2
  go_ret
  exact ⟨rfl, rfl⟩
theorem someOk_no (n : Int) (w : World) (h : ¬ (1 ≤ n ∧ n ≤ 1000000000000)) :
    Calls Tryz.prog 68 #[.int .i64 n] w fun e w' => e = .returned (.bool false) ∧ w' = w := by
  by_cases h1 : 1 ≤ n
  · have h2 : ¬ n ≤ 1000000000000 := by omega
    have h3 : 1000000000000 < n := by omega
    clear h
    go_enter Tryz.func68, Tryz.ntmps68
    go_wp2
    go_ret
    exact ⟨rfl, rfl⟩
  · have h2 : n < 1 := by omega
    clear h
    go_enter Tryz.func68, Tryz.ntmps68
    go_wp2
    go_ret
    exact ⟨rfl, rfl⟩

theorem someOk_b (n : Int) (w : World) :
    Calls Tryz.prog 68 #[.int .i64 n] w fun e w' => Tells e (1 ≤ n ∧ n ≤ 1000000000000) ∧ w' = w := by
  by_cases h : 1 ≤ n ∧ n ≤ 1000000000000
  · exact (someOk_yes n w h).mono fun e w' ⟨he, hw⟩ => ⟨⟨true, he, fun _ => h, fun e => (by cases e)⟩, hw⟩
  · exact (someOk_no n w h).mono fun e w' ⟨he, hw⟩ => ⟨⟨false, he, fun e => (by cases e), fun _ => h⟩, hw⟩

theorem otherOk_b (i t : Int) (w : World) :
    Calls Tryz.prog 67 #[.int .i64 i, .int .i64 t] w fun e w' => Tells e ((1 ≤ t ∧ t ≤ 1000000) ∧ i ≠ t) ∧ w' = w := by
  go_enter Tryz.func67, Tryz.ntmps67
  go_wp2_with fail
  refine (idOk_b t w).mono ?_
  rintro e w1 ⟨⟨b, rfl, h1, h2⟩, hw⟩
  subst hw
  cases b with
  | false =>
    have H := h2 rfl
    clear h1 h2
    go_wp2
    go_ret
    exact ⟨Tells.no (by omega), rfl⟩
  | true =>
    have H := h1 rfl
    clear h1 h2
    by_cases e : t = i
    · have eb : (t != i) = false := by simp [e]
      go_wp2
      go_ret
      exact ⟨Tells.no (by omega), rfl⟩
    · have eb : (t != i) = true := by simp [e]
      go_wp2
      go_ret
      exact ⟨Tells.yes (by omega), rfl⟩

end Go.Proofs.YtedhlmipcfdldaaGreatDoor
