/- TotalOf, of the program and of the specification, and the law FnExactTotalOf. Conditions: the accounts lie in memory. -/
import Derived.Test.YtggnlojlhgenlaaCopy
namespace Go.Proofs.Ytggnlojlhgenlaa
open Go.RowKit

theorem specOk_yes (a : Option Addr) (n c : Nat) (F : Nat → Acc) (w : World) (h : Fo w a n F) (hR : Right F n) :
    Calls Try.prog 11 #[.slice a n c] w fun e w' => e = .returned (.bool true) ∧ Below w.heap.size w w' :=
  (specOk a n c F w h).mono fun e w' ⟨b, he, hi, hb⟩ => ⟨by rw [he, hi.2 hR], hb⟩
theorem specOk_no (a : Option Addr) (n c : Nat) (F : Nat → Acc) (w : World) (h : Fo w a n F) (hR : ¬ Right F n) :
    Calls Try.prog 11 #[.slice a n c] w fun e w' => e = .returned (.bool false) ∧ Below w.heap.size w w' :=
  (specOk a n c F w h).mono fun e w' ⟨b, he, hi, hb⟩ => ⟨by rw [he]; cases b with | true => exact absurd (hi.1 rfl) hR | false => rfl, hb⟩
theorem implOk_yes (a : Option Addr) (n c : Nat) (F : Nat → Acc) (w : World) (h : Fo w a n F) (hR : Right F n) :
    Calls Try.prog 13 #[.slice a n c] w fun e w' => e = .returned (.bool true) ∧ Below w.heap.size w w' :=
  (implOk a n c F w h).mono fun e w' ⟨b, he, hi, hb⟩ => ⟨by rw [he, hi.2 hR], hb⟩
theorem implOk_no (a : Option Addr) (n c : Nat) (F : Nat → Acc) (w : World) (h : Fo w a n F) (hR : ¬ Right F n) :
    Calls Try.prog 13 #[.slice a n c] w fun e w' => e = .returned (.bool false) ∧ Below w.heap.size w w' :=
  (implOk a n c F w h).mono fun e w' ⟨b, he, hi, hb⟩ => ⟨by rw [he]; cases b with | true => exact absurd (hi.1 rfl) hR | false => rfl, hb⟩

/-- All balances of the first k accounts. -/
def total (F : Nat → Acc) : Nat → Int
  | 0 => 0
  | k + 1 => total F k + (F k).balance
theorem total_bd {F : Nat → Acc} {n : Nat} (hR : Right F n) : ∀ k, k ≤ n → -(1000000000000 * (k : Int)) ≤ total F k ∧ total F k ≤ 1000000000000 * (k : Int)
  | 0, _ => by simp [total]
  | k + 1, hk => by
    have i := total_bd hR k (by omega)
    have b := (hR.2.1 k (by omega)).2.2.2.2.2.1
    simp only [total]
    omega

set_option maxHeartbeats 1000000 in
theorem specTotal_yes (a : Option Addr) (n c : Nat) (F : Nat → Acc) (w : World) (h : Fo w a n F) (hR : Right F n) :
    Calls Try.prog 30 #[.slice a n c] w fun e w' => e = .returned (.int .i64 (total F n)) ∧ Below w.heap.size w w' := by
  have H : Hid (Fo w a n F) := h
  have HR : Hid (Right F n) := hR
  have hn := hR.1
  clear h hR
  go_enter Try.func30, Try.ntmps30
  go_wp2
  go_loopw [3, 4] (fun t i wr => ∃ k : Nat, k ≤ n ∧ i = .int .i64 k ∧ t = .int .i64 (total F k) ∧ Hid (Below w.heap.size w wr)) (fun _ i _ => n - (intOf i).toNat)
  case atStart => exact ⟨0, Nat.zero_le _, rfl, rfl, Below.refl _ _⟩
  case round =>
    obtain ⟨k, hk, rfl, rfl, hB⟩ := hrel
    obtain ⟨t1, t2⟩ := total_bd HR.out k hk
    go_wp2_with fail
    refine (specOk_yes a n c F _ (H.out.below hB.out) HR.out).mono ?_
    rintro e w1 ⟨rfl, B1⟩
    have B1' : Hid (Below w.heap.size w w1) := hB.out.trans (B1.mono hB.out.size)
    clear B1
    by_cases hlt : k < n
    · obtain ⟨b, o, rfl, hb0, hA0⟩ := H.out.acc hlt
      have hA := hA0.of_cells (w' := w1) (fun q => B1'.out.cell (p := ⟨b, q, none⟩) hb0)
      obtain ⟨c0, c1, c2, c3, c4, c5, c6, c7⟩ := hA
      obtain ⟨b1, b2⟩ := (HR.out.2.1 k hlt).2.2.2.2.2.1
      clear hA0
      go_wp2
      go_roundw
      case rel => exact ⟨k + 1, by omega, by go_num, rfl, B1'⟩
      case measure => simp [intOf]; omega
    · have hkn : k = n := by omega
      subst hkn
      have hd : decide (k < k) = false := by simp
      go_wp2
      go_ret
      exact ⟨rfl, B1'.out⟩

set_option maxHeartbeats 1000000 in
theorem specTotal_no (a : Option Addr) (n c : Nat) (F : Nat → Acc) (w : World) (h : Fo w a n F) (hR : ¬ Right F n) :
    Calls Try.prog 30 #[.slice a n c] w fun e w' => e = .returned (.int .i64 0) ∧ Below w.heap.size w w' := by
  have H : Hid (Fo w a n F) := h
  have HR : Hid (¬ Right F n) := hR
  clear h hR
  go_enter Try.func30, Try.ntmps30
  go_wp2
  refine wp_loop_rounds 1 ?_
  rw [rounds_succ]
  go_wp2_with fail
  refine (specOk_no a n c F _ H.out HR.out).mono ?_
  rintro e w1 ⟨rfl, B1⟩
  go_wp2
  go_ret
  exact ⟨rfl, B1⟩

set_option maxHeartbeats 1000000 in
theorem implTotal_yes (a : Option Addr) (n c : Nat) (F : Nat → Acc) (w : World) (h : Fo w a n F) (hR : Right F n) :
    Calls Try.prog 31 #[.slice a n c] w fun e w' => e = .returned (.int .i64 (total F n)) ∧ Below w.heap.size w w' := by
  have H : Hid (Fo w a n F) := h
  have HR : Hid (Right F n) := hR
  have hn := hR.1
  clear h hR
  go_enter Try.func31, Try.ntmps31
  go_wp2_with fail
  refine (implOk_yes a n c F _ H.out HR.out).mono ?_
  rintro e w1 ⟨rfl, B1⟩
  have B1' : Hid (Below w.heap.size w w1) := B1
  clear B1
  go_wp2
  go_loopw [3, 11] (fun t i wr => ∃ k : Nat, k ≤ n ∧ i = .int .i64 k ∧ t = .int .i64 (total F k) ∧ Hid (Below w.heap.size w wr)) (fun _ i _ => n - (intOf i).toNat)
  case atStart => exact ⟨0, Nat.zero_le _, rfl, rfl, B1'⟩
  case round =>
    obtain ⟨k, hk, rfl, rfl, hB⟩ := hrel
    obtain ⟨t1, t2⟩ := total_bd HR.out k hk
    by_cases hlt : k < n
    · obtain ⟨b, o, rfl, hb0, hA0⟩ := H.out.acc hlt
      have hA := hA0.of_cells (w' := wr) (fun q => hB.out.cell (p := ⟨b, q, none⟩) hb0)
      obtain ⟨c0, c1, c2, c3, c4, c5, c6, c7⟩ := hA
      obtain ⟨b1, b2⟩ := (HR.out.2.1 k hlt).2.2.2.2.2.1
      clear hA0
      go_wp2
      go_roundw
      case rel => exact ⟨k + 1, by omega, by go_num, rfl, hB.out.alloc hB.out.size _⟩
      case measure => simp [intOf]; omega
    · have hkn : k = n := by omega
      subst hkn
      go_wp2
      go_ret
      exact ⟨rfl, hB.out⟩
theorem implTotal_no (a : Option Addr) (n c : Nat) (F : Nat → Acc) (w : World) (h : Fo w a n F) (hR : ¬ Right F n) :
    Calls Try.prog 31 #[.slice a n c] w fun e w' => e = .returned (.int .i64 0) ∧ Below w.heap.size w w' := by
  have H : Hid (Fo w a n F) := h
  have HR : Hid (¬ Right F n) := hR
  clear h hR
  go_enter Try.func31, Try.ntmps31
  go_wp2_with fail
  refine (implOk_no a n c F _ H.out HR.out).mono ?_
  rintro e w1 ⟨rfl, B1⟩
  go_wp2
  go_ret
  exact ⟨rfl, B1⟩
theorem both_total (n : Nat) (F : Nat → Acc) : ∃ v : Int, (∀ w a' c', Fo w a' n F → Calls Try.prog 30 #[.slice a' n c'] w fun e w' => e = .returned (.int .i64 v) ∧ Below w.heap.size w w') ∧
    ∀ w a' c', Fo w a' n F → Calls Try.prog 31 #[.slice a' n c'] w fun e w' => e = .returned (.int .i64 v) ∧ Below w.heap.size w w' := by
  by_cases hR : Right F n
  · exact ⟨total F n, fun w a' c' h => specTotal_yes a' n c' F w h hR, fun w a' c' h => implTotal_yes a' n c' F w h hR⟩
  · exact ⟨0, fun w a' c' h => specTotal_no a' n c' F w h hR, fun w a' c' h => implTotal_no a' n c' F w h hR⟩

set_option maxHeartbeats 1000000 in
theorem lawTotal (a : Option Addr) (n c : Nat) (F : Nat → Acc) (w : World) (hm : n ≤ 9223372036854775807) (h : n ≤ 1048576 → Fo w a n F) :
    Calls Try.prog 9 #[.slice a n c] w fun e w' => e = .returned (.bool true) ∧ Below w.heap.size w w' := by
  obtain ⟨v, sp, im⟩ := both_total n F
  have SP : Hid (∀ w a' c', Fo w a' n F → Calls Try.prog 30 #[.slice a' n c'] w fun e w' => e = .returned (.int .i64 v) ∧ Below w.heap.size w w') := sp
  have IM : Hid (∀ w a' c', Fo w a' n F → Calls Try.prog 31 #[.slice a' n c'] w fun e w' => e = .returned (.int .i64 v) ∧ Below w.heap.size w w') := im
  clear sp im
  by_cases hn : n ≤ 1048576
  · have H : Hid (Fo w a n F) := h hn
    clear h
    go_enter Try.func9, Try.ntmps9
    go_wp2_with (go_at_call 10; refine (szAccountS_yes _ _ _ _ hn).mono ?_; rintro e w' ⟨rfl, rfl⟩)
    refine (toAccountS a n c F _ H.out).mono ?_
    rintro e w1 ⟨rfl, R1, B1⟩
    go_wp2_with fail
    refine (SP.out _ _ n (R1.fo hn)).mono ?_
    rintro e w2 ⟨rfl, B2⟩
    have B2' : Hid (Below _ _ w2) := B1.trans (B2.mono B1.size)
    clear B1 B2 R1
    go_wp2_with fail
    refine (toAccountS a n c F _ (H.out.below B2'.out)).mono ?_
    rintro e w3 ⟨rfl, R3, B3⟩
    have B3' : Hid (Below _ _ w3) := B2'.out.trans (B3.mono B2'.out.size)
    clear B3
    go_wp2_with fail
    refine (IM.out _ _ n (R3.fo hn)).mono ?_
    rintro e w4 ⟨rfl, B4⟩
    have R4 : Hid (Row w4 w2.heap.size n n F) := R3.below B4
    have B4' : Hid (Below _ _ w4) := B3'.out.trans (B4.mono B3'.out.size)
    clear B4 R3
    go_wp2_with fail
    refine (toAccountS a n c F _ (H.out.below B4'.out)).mono ?_
    rintro e w5 ⟨rfl, R5, B5⟩
    have R45 : Hid (Row w5 w2.heap.size n n F) := R4.out.below B5
    have B5' : Hid (Below _ _ w5) := B4'.out.trans (B5.mono B4'.out.size)
    clear B5
    go_wp2_with fail
    refine (eqAccountS_same _ _ n n n F _ (R45.out.fo hn) (R5.fo hn)).mono ?_
    rintro e w6 ⟨rfl, B6⟩
    have B6' : Hid (Below _ _ w6) := B5'.out.trans (B6.mono B5'.out.size)
    clear B6
    go_wp2
    go_ret
    exact ⟨rfl, B6'.out⟩
  · clear h
    go_enter Try.func9, Try.ntmps9
    go_wp2_with (go_at_call 10; refine (szAccountS_no _ _ _ _ (by omega) hm).mono ?_; rintro e w' ⟨rfl, rfl⟩)
    go_ret
    exact ⟨rfl, Below.refl _ _⟩
end Go.Proofs.Ytggnlojlhgenlaa
