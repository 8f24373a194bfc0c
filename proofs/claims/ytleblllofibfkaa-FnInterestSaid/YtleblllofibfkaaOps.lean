/- OpOk, of the program and of the specification: both answer whether an op is right. No conditions. -/
import Derived.Test.YtleblllofibfkaaAccS
namespace Go.Proofs.Ytleblllofibfkaa
open Go.RowKit
set_option maxRecDepth 8000

/-- A call tells, by a Bool, whether something is so. -/
def Tells (e : Ending) (P : Prop) : Prop := ∃ b : Bool, e = .returned (.bool b) ∧ (b = true → P) ∧ (b = false → ¬ P)
theorem Tells.yes {P : Prop} (h : P) : Tells (.returned (.bool true)) P := ⟨true, rfl, fun _ => h, fun e => (by cases e)⟩
theorem Tells.no {P : Prop} (h : ¬ P) : Tells (.returned (.bool false)) P := ⟨false, rfl, fun e => (by cases e), fun _ => h⟩
/-- A right op. -/
def opOk (k i t m r : Int) : Prop := (1 ≤ i ∧ i ≤ 1000000) ∧
  ((k = 1 ∧ t = 0 ∧ (0 ≤ m ∧ m ≤ 1000000000000) ∧ (0 ≤ r ∧ r ≤ 10000)) ∨
   (k = 1 ∧ t ≠ 0 ∧ (1 ≤ t ∧ t ≤ 1000000) ∧ i ≠ t ∧ (-1 ≤ m ∧ m ≤ 1000000000000) ∧ r = 0) ∨
   ((k = 2 ∨ k = 3 ∨ k = 4) ∧ t = 0 ∧ m = 0 ∧ r = 0) ∨
   ((k = 5 ∨ k = 6) ∧ t = 0 ∧ (1 ≤ m ∧ m ≤ 1000000000000) ∧ r = 0) ∨
   (k = 7 ∧ (1 ≤ t ∧ t ≤ 1000000) ∧ i ≠ t ∧ (1 ≤ m ∧ m ≤ 1000000000000) ∧ r = 0) ∨
   ((k = 8 ∨ k = 10) ∧ t = 0 ∧ (-1 ≤ m ∧ m ≤ 1000000000000) ∧ r = 0) ∨
   (k = 9 ∧ (1 ≤ t ∧ t ≤ 1000000) ∧ i ≠ t ∧ m = 0 ∧ r = 0))

theorem l1In_b (n lo hi : Int) (w : World) :
    Calls Try.prog 45 #[.int .i64 n, .int .i64 lo, .int .i64 hi] w fun e w' => Tells e (lo ≤ n ∧ n ≤ hi) ∧ w' = w := by
  by_cases h : lo ≤ n ∧ n ≤ hi
  · exact (l1In_yes n lo hi w h).mono fun e w' ⟨he, hw⟩ => ⟨⟨true, he, fun _ => h, fun e => (by cases e)⟩, hw⟩
  · exact (l1In_no n lo hi w h).mono fun e w' ⟨he, hw⟩ => ⟨⟨false, he, fun e => (by cases e), fun _ => h⟩, hw⟩

theorem idOk_b (n : Int) (w : World) :
    Calls Try.prog 49 #[.int .i64 n] w fun e w' => Tells e (1 ≤ n ∧ n ≤ 1000000) ∧ w' = w := by
  by_cases h : 1 ≤ n ∧ n ≤ 1000000
  · exact (idOk_yes n w h).mono fun e w' ⟨he, hw⟩ => ⟨⟨true, he, fun _ => h, fun e => (by cases e)⟩, hw⟩
  · exact (idOk_no n w h).mono fun e w' ⟨he, hw⟩ => ⟨⟨false, he, fun e => (by cases e), fun _ => h⟩, hw⟩

theorem noneOk_b (n : Int) (w : World) :
    Calls Try.prog 50 #[.int .i64 n] w fun e w' => Tells e (-1 ≤ n ∧ n ≤ 1000000000000) ∧ w' = w := by
  by_cases h : -1 ≤ n ∧ n ≤ 1000000000000
  · exact (amount_yes n w h).mono fun e w' ⟨he, hw⟩ => ⟨⟨true, he, fun _ => h, fun e => (by cases e)⟩, hw⟩
  · exact (amount_no n w h).mono fun e w' ⟨he, hw⟩ => ⟨⟨false, he, fun e => (by cases e), fun _ => h⟩, hw⟩

end Go.Proofs.Ytleblllofibfkaa
