/- OpOk of the specification answers whether an op is right. No conditions. -/
import Derived.Test.YtedhlmipcfdldaaDoorOps
namespace Go.Proofs.YtedhlmipcfdldaaDoor
open Go.RowKit

set_option maxHeartbeats 4000000 in
theorem specOpOk_b (k i t m r : Int) (w : World) :
    Calls Tryd.prog 28 #[.agg #[.int .i64 k, .int .i64 i, .int .i64 t, .int .i64 m, .int .i64 r]] w fun e w' => Tells e (opOk k i t m r) ∧ Below w.heap.size w w' := by
  go_enter Tryd.func28, Tryd.ntmps28
  go_wp2_with fail
  refine (l1In_b i 1 1000000 _).mono ?_
  rintro e wx ⟨⟨x, rfl, hx⟩, hwx⟩
  subst hwx
  go_wp2_with fail
  refine (l1In_b t 1 1000000 _).mono ?_
  rintro e wy ⟨⟨y, rfl, hy⟩, hwy⟩
  subst hwy
  go_wp2_with fail
  refine (l1In_b m 1 1000000000000 _).mono ?_
  rintro e wz ⟨⟨z, rfl, hz⟩, hwz⟩
  subst hwz
  by_cases k1 : k = 1
  · subst k1
    by_cases qt : t = 0
    · have qtb : (t == 0) = true := by simp [qt]
      cases x with
      | false =>
        have Hx := hx.2 rfl
        go_wp2
        go_ret
        exact ⟨Tells.no (by unfold opOk; omega), by first | exact Below.refl _ _ | exact ((Below.refl _ _).alloc (Nat.le_refl _) _)⟩
      | true =>
        have Hx := hx.1 rfl
        go_wp2_with fail
        refine (l1In_b m 0 1000000000000 _).mono ?_
        rintro e w2 ⟨⟨b2, rfl, hb2⟩, hw2⟩
        subst hw2
        cases b2 with
        | false =>
          have Hb2 := hb2.2 rfl
          go_wp2
          go_ret
          exact ⟨Tells.no (by unfold opOk; omega), by first | exact Below.refl _ _ | exact ((Below.refl _ _).alloc (Nat.le_refl _) _)⟩
        | true =>
          have Hb2 := hb2.1 rfl
          go_wp2_with fail
          refine (l1In_b r 0 10000 _).mono ?_
          rintro e w1 ⟨⟨b1, rfl, hb1⟩, hw1⟩
          subst hw1
          cases b1 with
          | false =>
            have Hb1 := hb1.2 rfl
            go_wp2
            go_ret
            exact ⟨Tells.no (by unfold opOk; omega), by first | exact Below.refl _ _ | exact ((Below.refl _ _).alloc (Nat.le_refl _) _)⟩
          | true =>
            have Hb1 := hb1.1 rfl
            go_wp2
            go_ret
            exact ⟨Tells.yes (by unfold opOk; omega), by first | exact Below.refl _ _ | exact ((Below.refl _ _).alloc (Nat.le_refl _) _)⟩
    · have qtb : (t == 0) = false := by simp [qt]
      cases x with
      | false =>
        have Hx := hx.2 rfl
        go_wp2
        go_ret
        exact ⟨Tells.no (by unfold opOk; omega), by first | exact Below.refl _ _ | exact ((Below.refl _ _).alloc (Nat.le_refl _) _)⟩
      | true =>
        have Hx := hx.1 rfl
        cases y with
        | false =>
          have Hy := hy.2 rfl
          go_wp2
          go_ret
          exact ⟨Tells.no (by unfold opOk; omega), by first | exact Below.refl _ _ | exact ((Below.refl _ _).alloc (Nat.le_refl _) _)⟩
        | true =>
          have Hy := hy.1 rfl
          by_cases q3 : i = t
          · have q3b : (i != t) = false := by simp [q3]
            go_wp2
            go_ret
            exact ⟨Tells.no (by unfold opOk; omega), by first | exact Below.refl _ _ | exact ((Below.refl _ _).alloc (Nat.le_refl _) _)⟩
          · have q3b : (i != t) = true := by simp [q3]
            go_wp2_with fail
            refine (l1In_b m (-1) 1000000000000 _).mono ?_
            rintro e w2 ⟨⟨b2, rfl, hb2⟩, hw2⟩
            subst hw2
            cases b2 with
            | false =>
              have Hb2 := hb2.2 rfl
              go_wp2
              go_ret
              exact ⟨Tells.no (by unfold opOk; omega), by first | exact Below.refl _ _ | exact ((Below.refl _ _).alloc (Nat.le_refl _) _)⟩
            | true =>
              have Hb2 := hb2.1 rfl
              by_cases q1 : r = 0
              · have q1b : (r == 0) = true := by simp [q1]
                go_wp2
                go_ret
                exact ⟨Tells.yes (by unfold opOk; omega), by first | exact Below.refl _ _ | exact ((Below.refl _ _).alloc (Nat.le_refl _) _)⟩
              · have q1b : (r == 0) = false := by simp [q1]
                go_wp2
                go_ret
                exact ⟨Tells.no (by unfold opOk; omega), by first | exact Below.refl _ _ | exact ((Below.refl _ _).alloc (Nat.le_refl _) _)⟩
  by_cases k2 : k = 2
  · subst k2
    cases x with
    | false =>
      have Hx := hx.2 rfl
      go_wp2
      go_ret
      exact ⟨Tells.no (by unfold opOk; omega), by first | exact Below.refl _ _ | exact ((Below.refl _ _).alloc (Nat.le_refl _) _)⟩
    | true =>
      have Hx := hx.1 rfl
      by_cases q3 : t = 0
      · have q3b : (t == 0) = true := by simp [q3]
        by_cases q2 : m = 0
        · have q2b : (m == 0) = true := by simp [q2]
          by_cases q1 : r = 0
          · have q1b : (r == 0) = true := by simp [q1]
            go_wp2
            go_ret
            exact ⟨Tells.yes (by unfold opOk; omega), by first | exact Below.refl _ _ | exact ((Below.refl _ _).alloc (Nat.le_refl _) _)⟩
          · have q1b : (r == 0) = false := by simp [q1]
            go_wp2
            go_ret
            exact ⟨Tells.no (by unfold opOk; omega), by first | exact Below.refl _ _ | exact ((Below.refl _ _).alloc (Nat.le_refl _) _)⟩
        · have q2b : (m == 0) = false := by simp [q2]
          go_wp2
          go_ret
          exact ⟨Tells.no (by unfold opOk; omega), by first | exact Below.refl _ _ | exact ((Below.refl _ _).alloc (Nat.le_refl _) _)⟩
      · have q3b : (t == 0) = false := by simp [q3]
        go_wp2
        go_ret
        exact ⟨Tells.no (by unfold opOk; omega), by first | exact Below.refl _ _ | exact ((Below.refl _ _).alloc (Nat.le_refl _) _)⟩
  by_cases k3 : k = 3
  · subst k3
    cases x with
    | false =>
      have Hx := hx.2 rfl
      go_wp2
      go_ret
      exact ⟨Tells.no (by unfold opOk; omega), by first | exact Below.refl _ _ | exact ((Below.refl _ _).alloc (Nat.le_refl _) _)⟩
    | true =>
      have Hx := hx.1 rfl
      by_cases q3 : t = 0
      · have q3b : (t == 0) = true := by simp [q3]
        by_cases q2 : m = 0
        · have q2b : (m == 0) = true := by simp [q2]
          by_cases q1 : r = 0
          · have q1b : (r == 0) = true := by simp [q1]
            go_wp2
            go_ret
            exact ⟨Tells.yes (by unfold opOk; omega), by first | exact Below.refl _ _ | exact ((Below.refl _ _).alloc (Nat.le_refl _) _)⟩
          · have q1b : (r == 0) = false := by simp [q1]
            go_wp2
            go_ret
            exact ⟨Tells.no (by unfold opOk; omega), by first | exact Below.refl _ _ | exact ((Below.refl _ _).alloc (Nat.le_refl _) _)⟩
        · have q2b : (m == 0) = false := by simp [q2]
          go_wp2
          go_ret
          exact ⟨Tells.no (by unfold opOk; omega), by first | exact Below.refl _ _ | exact ((Below.refl _ _).alloc (Nat.le_refl _) _)⟩
      · have q3b : (t == 0) = false := by simp [q3]
        go_wp2
        go_ret
        exact ⟨Tells.no (by unfold opOk; omega), by first | exact Below.refl _ _ | exact ((Below.refl _ _).alloc (Nat.le_refl _) _)⟩
  by_cases k4 : k = 4
  · subst k4
    cases x with
    | false =>
      have Hx := hx.2 rfl
      go_wp2
      go_ret
      exact ⟨Tells.no (by unfold opOk; omega), by first | exact Below.refl _ _ | exact ((Below.refl _ _).alloc (Nat.le_refl _) _)⟩
    | true =>
      have Hx := hx.1 rfl
      by_cases q3 : t = 0
      · have q3b : (t == 0) = true := by simp [q3]
        by_cases q2 : m = 0
        · have q2b : (m == 0) = true := by simp [q2]
          by_cases q1 : r = 0
          · have q1b : (r == 0) = true := by simp [q1]
            go_wp2
            go_ret
            exact ⟨Tells.yes (by unfold opOk; omega), by first | exact Below.refl _ _ | exact ((Below.refl _ _).alloc (Nat.le_refl _) _)⟩
          · have q1b : (r == 0) = false := by simp [q1]
            go_wp2
            go_ret
            exact ⟨Tells.no (by unfold opOk; omega), by first | exact Below.refl _ _ | exact ((Below.refl _ _).alloc (Nat.le_refl _) _)⟩
        · have q2b : (m == 0) = false := by simp [q2]
          go_wp2
          go_ret
          exact ⟨Tells.no (by unfold opOk; omega), by first | exact Below.refl _ _ | exact ((Below.refl _ _).alloc (Nat.le_refl _) _)⟩
      · have q3b : (t == 0) = false := by simp [q3]
        go_wp2
        go_ret
        exact ⟨Tells.no (by unfold opOk; omega), by first | exact Below.refl _ _ | exact ((Below.refl _ _).alloc (Nat.le_refl _) _)⟩
  by_cases k5 : k = 5
  · subst k5
    cases x with
    | false =>
      have Hx := hx.2 rfl
      go_wp2
      go_ret
      exact ⟨Tells.no (by unfold opOk; omega), by first | exact Below.refl _ _ | exact ((Below.refl _ _).alloc (Nat.le_refl _) _)⟩
    | true =>
      have Hx := hx.1 rfl
      by_cases q3 : t = 0
      · have q3b : (t == 0) = true := by simp [q3]
        cases z with
        | false =>
          have Hz := hz.2 rfl
          go_wp2
          go_ret
          exact ⟨Tells.no (by unfold opOk; omega), by first | exact Below.refl _ _ | exact ((Below.refl _ _).alloc (Nat.le_refl _) _)⟩
        | true =>
          have Hz := hz.1 rfl
          by_cases q1 : r = 0
          · have q1b : (r == 0) = true := by simp [q1]
            go_wp2
            go_ret
            exact ⟨Tells.yes (by unfold opOk; omega), by first | exact Below.refl _ _ | exact ((Below.refl _ _).alloc (Nat.le_refl _) _)⟩
          · have q1b : (r == 0) = false := by simp [q1]
            go_wp2
            go_ret
            exact ⟨Tells.no (by unfold opOk; omega), by first | exact Below.refl _ _ | exact ((Below.refl _ _).alloc (Nat.le_refl _) _)⟩
      · have q3b : (t == 0) = false := by simp [q3]
        go_wp2
        go_ret
        exact ⟨Tells.no (by unfold opOk; omega), by first | exact Below.refl _ _ | exact ((Below.refl _ _).alloc (Nat.le_refl _) _)⟩
  by_cases k6 : k = 6
  · subst k6
    cases x with
    | false =>
      have Hx := hx.2 rfl
      go_wp2
      go_ret
      exact ⟨Tells.no (by unfold opOk; omega), by first | exact Below.refl _ _ | exact ((Below.refl _ _).alloc (Nat.le_refl _) _)⟩
    | true =>
      have Hx := hx.1 rfl
      by_cases q3 : t = 0
      · have q3b : (t == 0) = true := by simp [q3]
        cases z with
        | false =>
          have Hz := hz.2 rfl
          go_wp2
          go_ret
          exact ⟨Tells.no (by unfold opOk; omega), by first | exact Below.refl _ _ | exact ((Below.refl _ _).alloc (Nat.le_refl _) _)⟩
        | true =>
          have Hz := hz.1 rfl
          by_cases q1 : r = 0
          · have q1b : (r == 0) = true := by simp [q1]
            go_wp2
            go_ret
            exact ⟨Tells.yes (by unfold opOk; omega), by first | exact Below.refl _ _ | exact ((Below.refl _ _).alloc (Nat.le_refl _) _)⟩
          · have q1b : (r == 0) = false := by simp [q1]
            go_wp2
            go_ret
            exact ⟨Tells.no (by unfold opOk; omega), by first | exact Below.refl _ _ | exact ((Below.refl _ _).alloc (Nat.le_refl _) _)⟩
      · have q3b : (t == 0) = false := by simp [q3]
        go_wp2
        go_ret
        exact ⟨Tells.no (by unfold opOk; omega), by first | exact Below.refl _ _ | exact ((Below.refl _ _).alloc (Nat.le_refl _) _)⟩
  by_cases k7 : k = 7
  · subst k7
    cases x with
    | false =>
      have Hx := hx.2 rfl
      go_wp2
      go_ret
      exact ⟨Tells.no (by unfold opOk; omega), by first | exact Below.refl _ _ | exact ((Below.refl _ _).alloc (Nat.le_refl _) _)⟩
    | true =>
      have Hx := hx.1 rfl
      cases y with
      | false =>
        have Hy := hy.2 rfl
        go_wp2
        go_ret
        exact ⟨Tells.no (by unfold opOk; omega), by first | exact Below.refl _ _ | exact ((Below.refl _ _).alloc (Nat.le_refl _) _)⟩
      | true =>
        have Hy := hy.1 rfl
        by_cases q3 : i = t
        · have q3b : (i != t) = false := by simp [q3]
          go_wp2
          go_ret
          exact ⟨Tells.no (by unfold opOk; omega), by first | exact Below.refl _ _ | exact ((Below.refl _ _).alloc (Nat.le_refl _) _)⟩
        · have q3b : (i != t) = true := by simp [q3]
          cases z with
          | false =>
            have Hz := hz.2 rfl
            go_wp2
            go_ret
            exact ⟨Tells.no (by unfold opOk; omega), by first | exact Below.refl _ _ | exact ((Below.refl _ _).alloc (Nat.le_refl _) _)⟩
          | true =>
            have Hz := hz.1 rfl
            by_cases q1 : r = 0
            · have q1b : (r == 0) = true := by simp [q1]
              go_wp2
              go_ret
              exact ⟨Tells.yes (by unfold opOk; omega), by first | exact Below.refl _ _ | exact ((Below.refl _ _).alloc (Nat.le_refl _) _)⟩
            · have q1b : (r == 0) = false := by simp [q1]
              go_wp2
              go_ret
              exact ⟨Tells.no (by unfold opOk; omega), by first | exact Below.refl _ _ | exact ((Below.refl _ _).alloc (Nat.le_refl _) _)⟩
  by_cases k8 : k = 8
  · subst k8
    cases x with
    | false =>
      have Hx := hx.2 rfl
      go_wp2
      go_ret
      exact ⟨Tells.no (by unfold opOk; omega), by first | exact Below.refl _ _ | exact ((Below.refl _ _).alloc (Nat.le_refl _) _)⟩
    | true =>
      have Hx := hx.1 rfl
      by_cases q3 : t = 0
      · have q3b : (t == 0) = true := by simp [q3]
        go_wp2_with fail
        refine (l1In_b m (-1) 1000000000000 _).mono ?_
        rintro e w2 ⟨⟨b2, rfl, hb2⟩, hw2⟩
        subst hw2
        cases b2 with
        | false =>
          have Hb2 := hb2.2 rfl
          go_wp2
          go_ret
          exact ⟨Tells.no (by unfold opOk; omega), by first | exact Below.refl _ _ | exact ((Below.refl _ _).alloc (Nat.le_refl _) _)⟩
        | true =>
          have Hb2 := hb2.1 rfl
          by_cases q1 : r = 0
          · have q1b : (r == 0) = true := by simp [q1]
            go_wp2
            go_ret
            exact ⟨Tells.yes (by unfold opOk; omega), by first | exact Below.refl _ _ | exact ((Below.refl _ _).alloc (Nat.le_refl _) _)⟩
          · have q1b : (r == 0) = false := by simp [q1]
            go_wp2
            go_ret
            exact ⟨Tells.no (by unfold opOk; omega), by first | exact Below.refl _ _ | exact ((Below.refl _ _).alloc (Nat.le_refl _) _)⟩
      · have q3b : (t == 0) = false := by simp [q3]
        go_wp2
        go_ret
        exact ⟨Tells.no (by unfold opOk; omega), by first | exact Below.refl _ _ | exact ((Below.refl _ _).alloc (Nat.le_refl _) _)⟩
  by_cases k10 : k = 10
  · subst k10
    cases x with
    | false =>
      have Hx := hx.2 rfl
      go_wp2
      go_ret
      exact ⟨Tells.no (by unfold opOk; omega), by first | exact Below.refl _ _ | exact ((Below.refl _ _).alloc (Nat.le_refl _) _)⟩
    | true =>
      have Hx := hx.1 rfl
      by_cases q3 : t = 0
      · have q3b : (t == 0) = true := by simp [q3]
        go_wp2_with fail
        refine (l1In_b m (-1) 1000000000000 _).mono ?_
        rintro e w2 ⟨⟨b2, rfl, hb2⟩, hw2⟩
        subst hw2
        cases b2 with
        | false =>
          have Hb2 := hb2.2 rfl
          go_wp2
          go_ret
          exact ⟨Tells.no (by unfold opOk; omega), by first | exact Below.refl _ _ | exact ((Below.refl _ _).alloc (Nat.le_refl _) _)⟩
        | true =>
          have Hb2 := hb2.1 rfl
          by_cases q1 : r = 0
          · have q1b : (r == 0) = true := by simp [q1]
            go_wp2
            go_ret
            exact ⟨Tells.yes (by unfold opOk; omega), by first | exact Below.refl _ _ | exact ((Below.refl _ _).alloc (Nat.le_refl _) _)⟩
          · have q1b : (r == 0) = false := by simp [q1]
            go_wp2
            go_ret
            exact ⟨Tells.no (by unfold opOk; omega), by first | exact Below.refl _ _ | exact ((Below.refl _ _).alloc (Nat.le_refl _) _)⟩
      · have q3b : (t == 0) = false := by simp [q3]
        go_wp2
        go_ret
        exact ⟨Tells.no (by unfold opOk; omega), by first | exact Below.refl _ _ | exact ((Below.refl _ _).alloc (Nat.le_refl _) _)⟩
  by_cases k9 : k = 9
  · subst k9
    cases x with
    | false =>
      have Hx := hx.2 rfl
      go_wp2
      go_ret
      exact ⟨Tells.no (by unfold opOk; omega), by first | exact Below.refl _ _ | exact ((Below.refl _ _).alloc (Nat.le_refl _) _)⟩
    | true =>
      have Hx := hx.1 rfl
      cases y with
      | false =>
        have Hy := hy.2 rfl
        go_wp2
        go_ret
        exact ⟨Tells.no (by unfold opOk; omega), by first | exact Below.refl _ _ | exact ((Below.refl _ _).alloc (Nat.le_refl _) _)⟩
      | true =>
        have Hy := hy.1 rfl
        by_cases q3 : i = t
        · have q3b : (i != t) = false := by simp [q3]
          go_wp2
          go_ret
          exact ⟨Tells.no (by unfold opOk; omega), by first | exact Below.refl _ _ | exact ((Below.refl _ _).alloc (Nat.le_refl _) _)⟩
        · have q3b : (i != t) = true := by simp [q3]
          by_cases q2 : m = 0
          · have q2b : (m == 0) = true := by simp [q2]
            by_cases q1 : r = 0
            · have q1b : (r == 0) = true := by simp [q1]
              go_wp2
              go_ret
              exact ⟨Tells.yes (by unfold opOk; omega), by first | exact Below.refl _ _ | exact ((Below.refl _ _).alloc (Nat.le_refl _) _)⟩
            · have q1b : (r == 0) = false := by simp [q1]
              go_wp2
              go_ret
              exact ⟨Tells.no (by unfold opOk; omega), by first | exact Below.refl _ _ | exact ((Below.refl _ _).alloc (Nat.le_refl _) _)⟩
          · have q2b : (m == 0) = false := by simp [q2]
            go_wp2
            go_ret
            exact ⟨Tells.no (by unfold opOk; omega), by first | exact Below.refl _ _ | exact ((Below.refl _ _).alloc (Nat.le_refl _) _)⟩
  have j1 : (k == 1) = false := by simp [k1]
  have j2 : (k == 2) = false := by simp [k2]
  have j3 : (k == 3) = false := by simp [k3]
  have j4 : (k == 4) = false := by simp [k4]
  have j5 : (k == 5) = false := by simp [k5]
  have j6 : (k == 6) = false := by simp [k6]
  have j7 : (k == 7) = false := by simp [k7]
  have j8 : (k == 8) = false := by simp [k8]
  have j9 : (k == 9) = false := by simp [k9]
  have j10 : (k == 10) = false := by simp [k10]
  go_wp2
  go_ret
  exact ⟨Tells.no (by unfold opOk; omega), by first | exact Below.refl _ _ | exact ((Below.refl _ _).alloc (Nat.le_refl _) _)⟩

end Go.Proofs.YtedhlmipcfdldaaDoor
