/- OpOk of the program answers whether an op is right. No conditions. -/
import Derived.Test.YtedhlmipcfdldaaDoorOps
namespace Go.Proofs.YtedhlmipcfdldaaDoor
open Go.RowKit

set_option maxHeartbeats 4000000 in
theorem openOk_b (i t m r : Int) (w : World) (hi : 1 ≤ i ∧ i ≤ 1000000) :
    Calls Tryd.prog 47 #[.agg #[.int .i64 1, .int .i64 i, .int .i64 t, .int .i64 m, .int .i64 r]] w fun e w' => Tells e (opOk 1 i t m r) ∧ Below w.heap.size w w' := by
  go_enter Tryd.func47, Tryd.ntmps47
  by_cases qt : t = 0
  · have qtb : (t == 0) = true := by simp [qt]
    by_cases q4 : 0 ≤ m
    · skip
      by_cases q3 : m ≤ 1000000000000
      · skip
        by_cases q2 : 0 ≤ r
        · skip
          by_cases q1 : r ≤ 10000
          · skip
            go_wp2
            go_ret
            exact ⟨Tells.yes (by unfold opOk; omega), by first | exact Below.refl _ _ | exact ((Below.refl _ _).alloc (Nat.le_refl _) _)⟩
          · have q1b : 10000 < r := by omega
            go_wp2
            go_ret
            exact ⟨Tells.no (by unfold opOk; omega), by first | exact Below.refl _ _ | exact ((Below.refl _ _).alloc (Nat.le_refl _) _)⟩
        · have q2b : r < 0 := by omega
          go_wp2
          go_ret
          exact ⟨Tells.no (by unfold opOk; omega), by first | exact Below.refl _ _ | exact ((Below.refl _ _).alloc (Nat.le_refl _) _)⟩
      · have q3b : 1000000000000 < m := by omega
        go_wp2
        go_ret
        exact ⟨Tells.no (by unfold opOk; omega), by first | exact Below.refl _ _ | exact ((Below.refl _ _).alloc (Nat.le_refl _) _)⟩
    · have q4b : m < 0 := by omega
      go_wp2
      go_ret
      exact ⟨Tells.no (by unfold opOk; omega), by first | exact Below.refl _ _ | exact ((Below.refl _ _).alloc (Nat.le_refl _) _)⟩
  · have qtb : (t == 0) = false := by simp [qt]
    go_wp2_with fail
    refine (otherOk_b i t _).mono ?_
    rintro e w3 ⟨⟨b3, rfl, hb3⟩, hw3⟩
    subst hw3
    cases b3 with
    | false =>
      have Hb3 := hb3.2 rfl
      go_wp2
      go_ret
      exact ⟨Tells.no (by unfold opOk; omega), by first | exact Below.refl _ _ | exact ((Below.refl _ _).alloc (Nat.le_refl _) _)⟩
    | true =>
      have Hb3 := hb3.1 rfl
      go_wp2_with fail
      refine (noneOk_b m _).mono ?_
      rintro e w2 ⟨⟨b2, rfl, hb2⟩, hw2⟩
      subst hw2
      cases b2 with
      | false =>
        have Hb2 := hb2.2 rfl
        go_wp2
        go_ret
        exact ⟨Tells.no (by unfold opOk; omega), by first | exact Below.refl _ _ | exact ((Below.refl _ _).alloc (Nat.le_refl _) _)⟩
      | true =>
        have Hb2 := hb2.1 rfl
        by_cases q1 : r = 0
        · have q1b : (r == 0) = true := by simp [q1]
          go_wp2
          go_ret
          exact ⟨Tells.yes (by unfold opOk; omega), by first | exact Below.refl _ _ | exact ((Below.refl _ _).alloc (Nat.le_refl _) _)⟩
        · have q1b : (r == 0) = false := by simp [q1]
          go_wp2
          go_ret
          exact ⟨Tells.no (by unfold opOk; omega), by first | exact Below.refl _ _ | exact ((Below.refl _ _).alloc (Nat.le_refl _) _)⟩

set_option maxHeartbeats 4000000 in
theorem implOpOk_b (k i t m r : Int) (w : World) :
    Calls Tryd.prog 37 #[.agg #[.int .i64 k, .int .i64 i, .int .i64 t, .int .i64 m, .int .i64 r]] w fun e w' => Tells e (opOk k i t m r) ∧ Below w.heap.size w w' := by
  go_enter Tryd.func37, Tryd.ntmps37
  go_wp2_with fail
  refine (idOk_b i _).mono ?_
  rintro e wx ⟨⟨x, rfl, hx⟩, hwx⟩
  subst hwx
  cases x with
  | false =>
    have Hx := hx.2 rfl
    go_wp2
    go_ret
    exact ⟨Tells.no (by unfold opOk; omega), by first | exact Below.refl _ _ | exact ((Below.refl _ _).alloc (Nat.le_refl _) _)⟩
  | true =>
    have Hx := hx.1 rfl
    by_cases k1 : k = 1
    · subst k1
      go_wp2_with fail
      refine (openOk_b i t m r _ Hx).mono ?_
      rintro e w1 ⟨⟨b, rfl, hb⟩, B1⟩
      have hb : Tells (.returned (.bool b)) (opOk 1 i t m r) := ⟨b, rfl, hb⟩
      have B1' : Hid (Below w.heap.size w w1) := ((Below.refl _ _).alloc (Nat.le_refl _) _).trans (B1.mono (by simp))
      clear B1
      go_wp2
      go_ret
      exact ⟨hb, B1'.out⟩
    have j1 : (k == 1) = false := by simp [k1]
    by_cases qr : r = 0
    · have qrb : (r != 0) = false := by simp [qr]
      by_cases k2 : k = 2
      · subst k2
        by_cases q2 : t = 0
        · have q2b : (t == 0) = true := by simp [q2]
          by_cases q1 : m = 0
          · have q1b : (m == 0) = true := by simp [q1]
            go_wp2
            go_ret
            exact ⟨Tells.yes (by unfold opOk; omega), by first | exact Below.refl _ _ | exact ((Below.refl _ _).alloc (Nat.le_refl _) _)⟩
          · have q1b : (m == 0) = false := by simp [q1]
            go_wp2
            go_ret
            exact ⟨Tells.no (by unfold opOk; omega), by first | exact Below.refl _ _ | exact ((Below.refl _ _).alloc (Nat.le_refl _) _)⟩
        · have q2b : (t == 0) = false := by simp [q2]
          go_wp2
          go_ret
          exact ⟨Tells.no (by unfold opOk; omega), by first | exact Below.refl _ _ | exact ((Below.refl _ _).alloc (Nat.le_refl _) _)⟩
      by_cases k3 : k = 3
      · subst k3
        by_cases q2 : t = 0
        · have q2b : (t == 0) = true := by simp [q2]
          by_cases q1 : m = 0
          · have q1b : (m == 0) = true := by simp [q1]
            go_wp2
            go_ret
            exact ⟨Tells.yes (by unfold opOk; omega), by first | exact Below.refl _ _ | exact ((Below.refl _ _).alloc (Nat.le_refl _) _)⟩
          · have q1b : (m == 0) = false := by simp [q1]
            go_wp2
            go_ret
            exact ⟨Tells.no (by unfold opOk; omega), by first | exact Below.refl _ _ | exact ((Below.refl _ _).alloc (Nat.le_refl _) _)⟩
        · have q2b : (t == 0) = false := by simp [q2]
          go_wp2
          go_ret
          exact ⟨Tells.no (by unfold opOk; omega), by first | exact Below.refl _ _ | exact ((Below.refl _ _).alloc (Nat.le_refl _) _)⟩
      by_cases k4 : k = 4
      · subst k4
        by_cases q2 : t = 0
        · have q2b : (t == 0) = true := by simp [q2]
          by_cases q1 : m = 0
          · have q1b : (m == 0) = true := by simp [q1]
            go_wp2
            go_ret
            exact ⟨Tells.yes (by unfold opOk; omega), by first | exact Below.refl _ _ | exact ((Below.refl _ _).alloc (Nat.le_refl _) _)⟩
          · have q1b : (m == 0) = false := by simp [q1]
            go_wp2
            go_ret
            exact ⟨Tells.no (by unfold opOk; omega), by first | exact Below.refl _ _ | exact ((Below.refl _ _).alloc (Nat.le_refl _) _)⟩
        · have q2b : (t == 0) = false := by simp [q2]
          go_wp2
          go_ret
          exact ⟨Tells.no (by unfold opOk; omega), by first | exact Below.refl _ _ | exact ((Below.refl _ _).alloc (Nat.le_refl _) _)⟩
      by_cases k5 : k = 5
      · subst k5
        by_cases q2 : t = 0
        · have q2b : (t == 0) = true := by simp [q2]
          go_wp2_with fail
          refine (someOk_b m _).mono ?_
          rintro e w1 ⟨⟨b1, rfl, hb1⟩, hw1⟩
          subst hw1
          cases b1 with
          | false =>
            have Hb1 := hb1.2 rfl
            go_wp2
            go_ret
            exact ⟨Tells.no (by unfold opOk; omega), by first | exact Below.refl _ _ | exact ((Below.refl _ _).alloc (Nat.le_refl _) _)⟩
          | true =>
            have Hb1 := hb1.1 rfl
            go_wp2
            go_ret
            exact ⟨Tells.yes (by unfold opOk; omega), by first | exact Below.refl _ _ | exact ((Below.refl _ _).alloc (Nat.le_refl _) _)⟩
        · have q2b : (t == 0) = false := by simp [q2]
          go_wp2
          go_ret
          exact ⟨Tells.no (by unfold opOk; omega), by first | exact Below.refl _ _ | exact ((Below.refl _ _).alloc (Nat.le_refl _) _)⟩
      by_cases k6 : k = 6
      · subst k6
        by_cases q2 : t = 0
        · have q2b : (t == 0) = true := by simp [q2]
          go_wp2_with fail
          refine (someOk_b m _).mono ?_
          rintro e w1 ⟨⟨b1, rfl, hb1⟩, hw1⟩
          subst hw1
          cases b1 with
          | false =>
            have Hb1 := hb1.2 rfl
            go_wp2
            go_ret
            exact ⟨Tells.no (by unfold opOk; omega), by first | exact Below.refl _ _ | exact ((Below.refl _ _).alloc (Nat.le_refl _) _)⟩
          | true =>
            have Hb1 := hb1.1 rfl
            go_wp2
            go_ret
            exact ⟨Tells.yes (by unfold opOk; omega), by first | exact Below.refl _ _ | exact ((Below.refl _ _).alloc (Nat.le_refl _) _)⟩
        · have q2b : (t == 0) = false := by simp [q2]
          go_wp2
          go_ret
          exact ⟨Tells.no (by unfold opOk; omega), by first | exact Below.refl _ _ | exact ((Below.refl _ _).alloc (Nat.le_refl _) _)⟩
      by_cases k7 : k = 7
      · subst k7
        go_wp2_with fail
        refine (otherOk_b i t _).mono ?_
        rintro e w2 ⟨⟨b2, rfl, hb2⟩, hw2⟩
        subst hw2
        cases b2 with
        | false =>
          have Hb2 := hb2.2 rfl
          go_wp2
          go_ret
          exact ⟨Tells.no (by unfold opOk; omega), by first | exact Below.refl _ _ | exact ((Below.refl _ _).alloc (Nat.le_refl _) _)⟩
        | true =>
          have Hb2 := hb2.1 rfl
          go_wp2_with fail
          refine (someOk_b m _).mono ?_
          rintro e w1 ⟨⟨b1, rfl, hb1⟩, hw1⟩
          subst hw1
          cases b1 with
          | false =>
            have Hb1 := hb1.2 rfl
            go_wp2
            go_ret
            exact ⟨Tells.no (by unfold opOk; omega), by first | exact Below.refl _ _ | exact ((Below.refl _ _).alloc (Nat.le_refl _) _)⟩
          | true =>
            have Hb1 := hb1.1 rfl
            go_wp2
            go_ret
            exact ⟨Tells.yes (by unfold opOk; omega), by first | exact Below.refl _ _ | exact ((Below.refl _ _).alloc (Nat.le_refl _) _)⟩
      by_cases k8 : k = 8
      · subst k8
        by_cases q2 : t = 0
        · have q2b : (t == 0) = true := by simp [q2]
          go_wp2_with fail
          refine (noneOk_b m _).mono ?_
          rintro e w1 ⟨⟨b1, rfl, hb1⟩, hw1⟩
          subst hw1
          cases b1 with
          | false =>
            have Hb1 := hb1.2 rfl
            go_wp2
            go_ret
            exact ⟨Tells.no (by unfold opOk; omega), by first | exact Below.refl _ _ | exact ((Below.refl _ _).alloc (Nat.le_refl _) _)⟩
          | true =>
            have Hb1 := hb1.1 rfl
            go_wp2
            go_ret
            exact ⟨Tells.yes (by unfold opOk; omega), by first | exact Below.refl _ _ | exact ((Below.refl _ _).alloc (Nat.le_refl _) _)⟩
        · have q2b : (t == 0) = false := by simp [q2]
          go_wp2
          go_ret
          exact ⟨Tells.no (by unfold opOk; omega), by first | exact Below.refl _ _ | exact ((Below.refl _ _).alloc (Nat.le_refl _) _)⟩
      by_cases k10 : k = 10
      · subst k10
        by_cases q2 : t = 0
        · have q2b : (t == 0) = true := by simp [q2]
          go_wp2_with fail
          refine (noneOk_b m _).mono ?_
          rintro e w1 ⟨⟨b1, rfl, hb1⟩, hw1⟩
          subst hw1
          cases b1 with
          | false =>
            have Hb1 := hb1.2 rfl
            go_wp2
            go_ret
            exact ⟨Tells.no (by unfold opOk; omega), by first | exact Below.refl _ _ | exact ((Below.refl _ _).alloc (Nat.le_refl _) _)⟩
          | true =>
            have Hb1 := hb1.1 rfl
            go_wp2
            go_ret
            exact ⟨Tells.yes (by unfold opOk; omega), by first | exact Below.refl _ _ | exact ((Below.refl _ _).alloc (Nat.le_refl _) _)⟩
        · have q2b : (t == 0) = false := by simp [q2]
          go_wp2
          go_ret
          exact ⟨Tells.no (by unfold opOk; omega), by first | exact Below.refl _ _ | exact ((Below.refl _ _).alloc (Nat.le_refl _) _)⟩
      by_cases k9 : k = 9
      · subst k9
        go_wp2_with fail
        refine (otherOk_b i t _).mono ?_
        rintro e w2 ⟨⟨b2, rfl, hb2⟩, hw2⟩
        subst hw2
        cases b2 with
        | false =>
          have Hb2 := hb2.2 rfl
          go_wp2
          go_ret
          exact ⟨Tells.no (by unfold opOk; omega), by first | exact Below.refl _ _ | exact ((Below.refl _ _).alloc (Nat.le_refl _) _)⟩
        | true =>
          have Hb2 := hb2.1 rfl
          by_cases q1 : m = 0
          · have q1b : (m == 0) = true := by simp [q1]
            go_wp2
            go_ret
            exact ⟨Tells.yes (by unfold opOk; omega), by first | exact Below.refl _ _ | exact ((Below.refl _ _).alloc (Nat.le_refl _) _)⟩
          · have q1b : (m == 0) = false := by simp [q1]
            go_wp2
            go_ret
            exact ⟨Tells.no (by unfold opOk; omega), by first | exact Below.refl _ _ | exact ((Below.refl _ _).alloc (Nat.le_refl _) _)⟩
      have j2 : (k == 2) = false := by simp [k2]
      have j3 : (k == 3) = false := by simp [k3]
      have j4 : (k == 4) = false := by simp [k4]
      have j5 : (k == 5) = false := by simp [k5]
      have j6 : (k == 6) = false := by simp [k6]
      have j7 : (k == 7) = false := by simp [k7]
      have j8 : (k == 8) = false := by simp [k8]
      have j9 : (k == 9) = false := by simp [k9]
      have j10 : (k == 10) = false := by simp [k10]
      go_wp2
      go_ret
      exact ⟨Tells.no (by unfold opOk; omega), by first | exact Below.refl _ _ | exact ((Below.refl _ _).alloc (Nat.le_refl _) _)⟩
    · have qrb : (r != 0) = true := by simp [qr]
      go_wp2
      go_ret
      exact ⟨Tells.no (by unfold opOk; omega), by first | exact Below.refl _ _ | exact ((Below.refl _ _).alloc (Nat.le_refl _) _)⟩

end Go.Proofs.YtedhlmipcfdldaaDoor
