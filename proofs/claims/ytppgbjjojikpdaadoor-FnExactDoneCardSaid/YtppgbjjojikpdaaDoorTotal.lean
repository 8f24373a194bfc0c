/- TotalOf, of the program and of the specification, and the law FnExactTotalOf. Conditions: the accounts lie in memory. -/
import Derived.Test.YtppgbjjojikpdaaDoorCopy
namespace Go.Proofs.YtppgbjjojikpdaaDoor
open Go.RowKit

theorem specOk_yes (a : Option Addr) (n c : Nat) (F : Nat → Acc) (w : World) (h : Fo w a n F) (hR : Right F n) :
    Calls Tryd.prog 12 #[.slice a n c] w fun e w' => e = .returned (.bool true) ∧ Below w.heap.size w w' :=
  (specOk a n c F w h).mono fun e w' ⟨b, he, hi, hb⟩ => ⟨by rw [he, hi.2 hR], hb⟩
theorem specOk_no (a : Option Addr) (n c : Nat) (F : Nat → Acc) (w : World) (h : Fo w a n F) (hR : ¬ Right F n) :
    Calls Tryd.prog 12 #[.slice a n c] w fun e w' => e = .returned (.bool false) ∧ Below w.heap.size w w' :=
  (specOk a n c F w h).mono fun e w' ⟨b, he, hi, hb⟩ => ⟨by rw [he]; cases b with | true => exact absurd (hi.1 rfl) hR | false => rfl, hb⟩
theorem implOk_yes (a : Option Addr) (n c : Nat) (F : Nat → Acc) (w : World) (h : Fo w a n F) (hR : Right F n) :
    Calls Tryd.prog 15 #[.slice a n c] w fun e w' => e = .returned (.bool true) ∧ Below w.heap.size w w' :=
  (implOk a n c F w h).mono fun e w' ⟨b, he, hi, hb⟩ => ⟨by rw [he, hi.2 hR], hb⟩
theorem implOk_no (a : Option Addr) (n c : Nat) (F : Nat → Acc) (w : World) (h : Fo w a n F) (hR : ¬ Right F n) :
    Calls Tryd.prog 15 #[.slice a n c] w fun e w' => e = .returned (.bool false) ∧ Below w.heap.size w w' :=
  (implOk a n c F w h).mono fun e w' ⟨b, he, hi, hb⟩ => ⟨by rw [he]; cases b with | true => exact absurd (hi.1 rfl) hR | false => rfl, hb⟩

/-- All balances of the first k accounts. -/
def total (F : Nat → Acc) : Nat → Int
  | 0 => 0
  | k + 1 => total F k + (F k).balance
theorem total_bd {F : Nat → Acc} {n : Nat} (hR : Right F n) : ∀ k, k ≤ n → -(1000000000000 * (k : Int)) ≤ total F k ∧ total F k ≤ 1000000000000 * (k : Int)
  | 0, _ => by simp [total]
  | k + 1, hk => by
    have i := total_bd hR k (by omega)
    have b := (hR.2.1 k (by omega)).2.2.2.2.2.1
    simp only [total]
    omega

end Go.Proofs.YtppgbjjojikpdaaDoor
