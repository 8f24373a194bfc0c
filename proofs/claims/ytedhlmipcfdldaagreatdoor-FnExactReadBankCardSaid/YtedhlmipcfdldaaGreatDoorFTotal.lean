/- TotalOf, of the program and of the specification, and the law FnExactTotalOf. Conditions: the accounts lie in memory. -/
import Derived.Test.YtedhlmipcfdldaaGreatDoorFCopy
namespace Go.Proofs.YtedhlmipcfdldaaGreatDoor
open Go.RowKit
set_option maxRecDepth 8000

theorem specOk_yes (a : Option Addr) (n c : Nat) (F : Nat → Acc) (w : World) (h : Fo w a n F) (hR : Right F n) :
    Calls Tryz.prog 34 #[.slice a n c] w fun e w' => e = .returned (.bool true) ∧ Below w.heap.size w w' :=
  (specOk a n c F w h).mono fun e w' ⟨b, he, hi, hb⟩ => ⟨by rw [he, hi.2 hR], hb⟩
theorem specOk_no (a : Option Addr) (n c : Nat) (F : Nat → Acc) (w : World) (h : Fo w a n F) (hR : ¬ Right F n) :
    Calls Tryz.prog 34 #[.slice a n c] w fun e w' => e = .returned (.bool false) ∧ Below w.heap.size w w' :=
  (specOk a n c F w h).mono fun e w' ⟨b, he, hi, hb⟩ => ⟨by rw [he]; cases b with | true => exact absurd (hi.1 rfl) hR | false => rfl, hb⟩
theorem implOk_yes (a : Option Addr) (n c : Nat) (F : Nat → Acc) (w : World) (h : Fo w a n F) (hR : Right F n) :
    Calls Tryz.prog 47 #[.slice a n c] w fun e w' => e = .returned (.bool true) ∧ Below w.heap.size w w' :=
  (implOk a n c F w h).mono fun e w' ⟨b, he, hi, hb⟩ => ⟨by rw [he, hi.2 hR], hb⟩
theorem implOk_no (a : Option Addr) (n c : Nat) (F : Nat → Acc) (w : World) (h : Fo w a n F) (hR : ¬ Right F n) :
    Calls Tryz.prog 47 #[.slice a n c] w fun e w' => e = .returned (.bool false) ∧ Below w.heap.size w w' :=
  (implOk a n c F w h).mono fun e w' ⟨b, he, hi, hb⟩ => ⟨by rw [he]; cases b with | true => exact absurd (hi.1 rfl) hR | false => rfl, hb⟩

/-- All balances of the first k accounts. -/
def total (F : Nat → Acc) : Nat → Int
  | 0 => 0
  | k + 1 => total F k + (F k).balance
theorem total_bd {F : Nat → Acc} {n : Nat} (hR : Right F n) : ∀ k, k ≤ n → -(1000000000000 * (k : Int)) ≤ total F k ∧ total F k ≤ 1000000000000 * (k : Int)
  | 0, _ => by simp [total]
  | k + 1, hk => by
    have i := total_bd hR k (by omega)
    have b := (hR.2.1 k (by omega)).2.2.2.2.2.1
    simp only [total]
    omega

set_option maxHeartbeats 1000000 in
theorem specTotal_yes (a : Option Addr) (n c : Nat) (F : Nat → Acc) (w : World) (h : Fo w a n F) (hR : Right F n) :
    Calls Tryz.prog 36 #[.slice a n c] w fun e w' => e = .returned (.int .i64 (total F n)) ∧ Below w.heap.size w w' := by
  have H : Hid (Fo w a n F) := h
  have HR : Hid (Right F n) := hR
  have hn := hR.1
  clear h hR
  go_enter Tryz.func36, Tryz.ntmps36
  go_wp2
  go_loopw [3, 4] (fun t i wr => ∃ k : Nat, k ≤ n ∧ i = .int .i64 k ∧ t = .int .i64 (total F k) ∧ Hid (Below w.heap.size w wr)) (fun _ i _ => n - (intOf i).toNat)
  case atStart => exact ⟨0, Nat.zero_le _, rfl, rfl, Below.refl _ _⟩
  case round =>
    obtain ⟨k, hk, rfl, rfl, hB⟩ := hrel
    obtain ⟨t1, t2⟩ := total_bd HR.out k hk
    go_wp2_with fail
    refine (specOk_yes a n c F _ (H.out.below hB.out) HR.out).mono ?_
    rintro e w1 ⟨rfl, B1⟩
    have B1' : Hid (Below w.heap.size w w1) := hB.out.trans (B1.mono hB.out.size)
    clear B1
    by_cases hlt : k < n
    · obtain ⟨b, o, rfl, hb0, hA0⟩ := H.out.acc hlt
      have hA := hA0.of_cells (w' := w1) (fun q => B1'.out.cell (p := ⟨b, q, none⟩) hb0)
      obtain ⟨c0, c1, c2, c3, c4, c5, c6, c7⟩ := hA
      obtain ⟨b1, b2⟩ := (HR.out.2.1 k hlt).2.2.2.2.2.1
      clear hA0
      go_wp2
      go_roundw
      case rel => exact ⟨k + 1, by omega, by go_num, rfl, B1'⟩
      case measure => simp [intOf]; omega
    · have hkn : k = n := by omega
      subst hkn
      have hd : decide (k < k) = false := by simp
      go_wp2
      go_ret
      exact ⟨rfl, B1'.out⟩

set_option maxHeartbeats 1000000 in
theorem specTotal_no (a : Option Addr) (n c : Nat) (F : Nat → Acc) (w : World) (h : Fo w a n F) (hR : ¬ Right F n) :
    Calls Tryz.prog 36 #[.slice a n c] w fun e w' => e = .returned (.int .i64 0) ∧ Below w.heap.size w w' := by
  have H : Hid (Fo w a n F) := h
  have HR : Hid (¬ Right F n) := hR
  clear h hR
  go_enter Tryz.func36, Tryz.ntmps36
  go_wp2
  refine wp_loop_rounds 1 ?_
  rw [rounds_succ]
  go_wp2_with fail
  refine (specOk_no a n c F _ H.out HR.out).mono ?_
  rintro e w1 ⟨rfl, B1⟩
  go_wp2
  go_ret
  exact ⟨rfl, B1⟩

set_option maxHeartbeats 1000000 in
theorem implTotal_yes (a : Option Addr) (n c : Nat) (F : Nat → Acc) (w : World) (h : Fo w a n F) (hR : Right F n) :
    Calls Tryz.prog 50 #[.slice a n c] w fun e w' => e = .returned (.int .i64 (total F n)) ∧ Below w.heap.size w w' := by
  have H : Hid (Fo w a n F) := h
  have HR : Hid (Right F n) := hR
  have hn := hR.1
  clear h hR
  go_enter Tryz.func50, Tryz.ntmps50
  go_wp2_with fail
  refine (implOk_yes a n c F _ H.out HR.out).mono ?_
  rintro e w1 ⟨rfl, B1⟩
  have B1' : Hid (Below w.heap.size w w1) := B1
  clear B1
  go_wp2
  go_loopw [3, 11] (fun t i wr => ∃ k : Nat, k ≤ n ∧ i = .int .i64 k ∧ t = .int .i64 (total F k) ∧ Hid (Below w.heap.size w wr)) (fun _ i _ => n - (intOf i).toNat)
  case atStart => exact ⟨0, Nat.zero_le _, rfl, rfl, B1'⟩
  case round =>
    obtain ⟨k, hk, rfl, rfl, hB⟩ := hrel
    obtain ⟨t1, t2⟩ := total_bd HR.out k hk
    by_cases hlt : k < n
    · obtain ⟨b, o, rfl, hb0, hA0⟩ := H.out.acc hlt
      have hA := hA0.of_cells (w' := wr) (fun q => hB.out.cell (p := ⟨b, q, none⟩) hb0)
      obtain ⟨c0, c1, c2, c3, c4, c5, c6, c7⟩ := hA
      obtain ⟨b1, b2⟩ := (HR.out.2.1 k hlt).2.2.2.2.2.1
      clear hA0
      go_wp2
      go_roundw
      case rel => exact ⟨k + 1, by omega, by go_num, rfl, hB.out.alloc hB.out.size _⟩
      case measure => simp [intOf]; omega
    · have hkn : k = n := by omega
      subst hkn
      go_wp2
      go_ret
      exact ⟨rfl, hB.out⟩
theorem implTotal_no (a : Option Addr) (n c : Nat) (F : Nat → Acc) (w : World) (h : Fo w a n F) (hR : ¬ Right F n) :
    Calls Tryz.prog 50 #[.slice a n c] w fun e w' => e = .returned (.int .i64 0) ∧ Below w.heap.size w w' := by
  have H : Hid (Fo w a n F) := h
  have HR : Hid (¬ Right F n) := hR
  clear h hR
  go_enter Tryz.func50, Tryz.ntmps50
  go_wp2_with fail
  refine (implOk_no a n c F _ H.out HR.out).mono ?_
  rintro e w1 ⟨rfl, B1⟩
  go_wp2
  go_ret
  exact ⟨rfl, B1⟩
theorem both_total (n : Nat) (F : Nat → Acc) : ∃ v : Int, (∀ w a' c', Fo w a' n F → Calls Tryz.prog 36 #[.slice a' n c'] w fun e w' => e = .returned (.int .i64 v) ∧ Below w.heap.size w w') ∧
    ∀ w a' c', Fo w a' n F → Calls Tryz.prog 50 #[.slice a' n c'] w fun e w' => e = .returned (.int .i64 v) ∧ Below w.heap.size w w' := by
  by_cases hR : Right F n
  · exact ⟨total F n, fun w a' c' h => specTotal_yes a' n c' F w h hR, fun w a' c' h => implTotal_yes a' n c' F w h hR⟩
  · exact ⟨0, fun w a' c' h => specTotal_no a' n c' F w h hR, fun w a' c' h => implTotal_no a' n c' F w h hR⟩

end Go.Proofs.YtedhlmipcfdldaaGreatDoor
