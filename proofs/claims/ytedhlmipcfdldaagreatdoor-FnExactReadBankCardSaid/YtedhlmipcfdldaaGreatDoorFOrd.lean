/- OrderOk, of the program and of the specification: both answer whether an order is right; how an order that is handed in is opened. No conditions. -/
import Derived.Test.YtedhlmipcfdldaaGreatDoorFOps
import Derived.ProofKit
import Derived.OpenShut
namespace Go.Proofs.YtedhlmipcfdldaaGreatDoor
open Go.ChangeShapes Go.WideShapes Go.ChangeAt Go.RowKit
set_option maxRecDepth 8000

structure Ord where
  id : Int
  src : Int
  dst : Int
  amount : Int
  first : Int
  every : Int
  times : Int

/-- A right order. -/
def ordOk (o : Ord) : Prop := (1 ≤ o.id ∧ o.id ≤ 1000000) ∧ (1 ≤ o.src ∧ o.src ≤ 1000000) ∧ (1 ≤ o.dst ∧ o.dst ≤ 1000000) ∧ o.src ≠ o.dst ∧ (1 ≤ o.amount ∧ o.amount ≤ 1000000000000) ∧ (0 ≤ o.first ∧ o.first ≤ 3000000) ∧ (1 ≤ o.every ∧ o.every ≤ 366) ∧ (1 ≤ o.times ∧ o.times ≤ 1000)

theorem dayOk_yes (n : Int) (w : World) (h : 0 ≤ n ∧ n ≤ 3000000) :
    Calls Tryz.prog 46 #[.int .i64 n] w fun e w' => e = .returned (.bool true) ∧ w' = w := by
  obtain ⟨h1, h2⟩ := h
  go_enter Tryz.func46, Tryz.ntmps46
  go_wp2
  go_ret
  exact ⟨rfl, rfl⟩
theorem dayOk_no (n : Int) (w : World) (h : ¬ (0 ≤ n ∧ n ≤ 3000000)) :
    Calls Tryz.prog 46 #[.int .i64 n] w fun e w' => e = .returned (.bool false) ∧ w' = w := by
  by_cases h1 : 0 ≤ n
  · have h2 : ¬ n ≤ 3000000 := by omega
    have h3 : 3000000 < n := by omega
    clear h
    go_enter Tryz.func46, Tryz.ntmps46
    go_wp2
    go_ret
    exact ⟨rfl, rfl⟩
  · have h2 : n < 0 := by omega
    clear h
    go_enter Tryz.func46, Tryz.ntmps46
    go_wp2
    go_ret
    exact ⟨rfl, rfl⟩
theorem dayOk_b (n : Int) (w : World) :
    Calls Tryz.prog 46 #[.int .i64 n] w fun e w' => Tells e (0 ≤ n ∧ n ≤ 3000000) ∧ w' = w := by
  by_cases h : 0 ≤ n ∧ n ≤ 3000000
  · exact (dayOk_yes n w h).mono fun e w' ⟨he, hw⟩ => ⟨⟨true, he, fun _ => h, fun e => (by cases e)⟩, hw⟩
  · exact (dayOk_no n w h).mono fun e w' ⟨he, hw⟩ => ⟨⟨false, he, fun e => (by cases e), fun _ => h⟩, hw⟩

set_option maxHeartbeats 4000000 in
theorem specOrd (o : Ord) (w : World) :
    Calls Tryz.prog 53 #[.agg #[.int .i64 o.id, .int .i64 o.src, .int .i64 o.dst, .int .i64 o.amount, .int .i64 o.first, .int .i64 o.every, .int .i64 o.times]] w fun e w' => Tells e (ordOk o) ∧ Below w.heap.size w w' := by
  go_enter Tryz.func53, Tryz.ntmps53
  go_wp2_with fail
  refine (l1In_b o.id 1 1000000 _).mono ?_
  rintro e w8 ⟨⟨b8, rfl, hb8⟩, hw8⟩
  subst hw8
  cases b8 with
  | false =>
    have Hb8 := hb8.2 rfl
    clear hb8
    go_wp2
    go_ret
    exact ⟨Tells.no (by unfold ordOk; omega), by first | exact Below.refl _ _ | exact ((Below.refl _ _).alloc (Nat.le_refl _) _)⟩
  | true =>
    have Hb8 := hb8.1 rfl
    clear hb8
    go_wp2_with fail
    refine (l1In_b o.src 1 1000000 _).mono ?_
    rintro e w7 ⟨⟨b7, rfl, hb7⟩, hw7⟩
    subst hw7
    cases b7 with
    | false =>
      have Hb7 := hb7.2 rfl
      clear hb7
      go_wp2
      go_ret
      exact ⟨Tells.no (by unfold ordOk; omega), by first | exact Below.refl _ _ | exact ((Below.refl _ _).alloc (Nat.le_refl _) _)⟩
    | true =>
      have Hb7 := hb7.1 rfl
      clear hb7
      go_wp2_with fail
      refine (l1In_b o.dst 1 1000000 _).mono ?_
      rintro e w6 ⟨⟨b6, rfl, hb6⟩, hw6⟩
      subst hw6
      cases b6 with
      | false =>
        have Hb6 := hb6.2 rfl
        clear hb6
        go_wp2
        go_ret
        exact ⟨Tells.no (by unfold ordOk; omega), by first | exact Below.refl _ _ | exact ((Below.refl _ _).alloc (Nat.le_refl _) _)⟩
      | true =>
        have Hb6 := hb6.1 rfl
        clear hb6
        by_cases q5 : o.src = o.dst
        · have q5b : (o.src != o.dst) = false := by simp [q5]
          go_wp2
          go_ret
          exact ⟨Tells.no (by unfold ordOk; omega), by first | exact Below.refl _ _ | exact ((Below.refl _ _).alloc (Nat.le_refl _) _)⟩
        have q5b : (o.src != o.dst) = true := by simp [q5]
        go_wp2_with fail
        refine (l1In_b o.amount 1 1000000000000 _).mono ?_
        rintro e w4 ⟨⟨b4, rfl, hb4⟩, hw4⟩
        subst hw4
        cases b4 with
        | false =>
          have Hb4 := hb4.2 rfl
          clear hb4
          go_wp2
          go_ret
          exact ⟨Tells.no (by unfold ordOk; omega), by first | exact Below.refl _ _ | exact ((Below.refl _ _).alloc (Nat.le_refl _) _)⟩
        | true =>
          have Hb4 := hb4.1 rfl
          clear hb4
          go_wp2_with fail
          refine (l1In_b o.first 0 3000000 _).mono ?_
          rintro e w3 ⟨⟨b3, rfl, hb3⟩, hw3⟩
          subst hw3
          cases b3 with
          | false =>
            have Hb3 := hb3.2 rfl
            clear hb3
            go_wp2
            go_ret
            exact ⟨Tells.no (by unfold ordOk; omega), by first | exact Below.refl _ _ | exact ((Below.refl _ _).alloc (Nat.le_refl _) _)⟩
          | true =>
            have Hb3 := hb3.1 rfl
            clear hb3
            go_wp2_with fail
            refine (l1In_b o.every 1 366 _).mono ?_
            rintro e w2 ⟨⟨b2, rfl, hb2⟩, hw2⟩
            subst hw2
            cases b2 with
            | false =>
              have Hb2 := hb2.2 rfl
              clear hb2
              go_wp2
              go_ret
              exact ⟨Tells.no (by unfold ordOk; omega), by first | exact Below.refl _ _ | exact ((Below.refl _ _).alloc (Nat.le_refl _) _)⟩
            | true =>
              have Hb2 := hb2.1 rfl
              clear hb2
              go_wp2_with fail
              refine (l1In_b o.times 1 1000 _).mono ?_
              rintro e w1 ⟨⟨b1, rfl, hb1⟩, hw1⟩
              subst hw1
              cases b1 with
              | false =>
                have Hb1 := hb1.2 rfl
                clear hb1
                go_wp2
                go_ret
                exact ⟨Tells.no (by unfold ordOk; omega), by first | exact Below.refl _ _ | exact ((Below.refl _ _).alloc (Nat.le_refl _) _)⟩
              | true =>
                have Hb1 := hb1.1 rfl
                clear hb1
                go_wp2
                go_ret
                exact ⟨Tells.yes (by unfold ordOk; omega), by first | exact Below.refl _ _ | exact ((Below.refl _ _).alloc (Nat.le_refl _) _)⟩

set_option maxHeartbeats 4000000 in
theorem implOrd (o : Ord) (w : World) :
    Calls Tryz.prog 59 #[.agg #[.int .i64 o.id, .int .i64 o.src, .int .i64 o.dst, .int .i64 o.amount, .int .i64 o.first, .int .i64 o.every, .int .i64 o.times]] w fun e w' => Tells e (ordOk o) ∧ Below w.heap.size w w' := by
  go_enter Tryz.func59, Tryz.ntmps59
  go_wp2_with fail
  refine (idOk_b o.id _).mono ?_
  rintro e w9 ⟨⟨b9, rfl, hb9⟩, hw9⟩
  subst hw9
  cases b9 with
  | false =>
    have Hb9 := hb9.2 rfl
    clear hb9
    go_wp2
    go_ret
    exact ⟨Tells.no (by unfold ordOk; omega), by first | exact Below.refl _ _ | exact ((Below.refl _ _).alloc (Nat.le_refl _) _)⟩
  | true =>
    have Hb9 := hb9.1 rfl
    clear hb9
    go_wp2_with fail
    refine (idOk_b o.src _).mono ?_
    rintro e w8 ⟨⟨b8, rfl, hb8⟩, hw8⟩
    subst hw8
    cases b8 with
    | false =>
      have Hb8 := hb8.2 rfl
      clear hb8
      go_wp2
      go_ret
      exact ⟨Tells.no (by unfold ordOk; omega), by first | exact Below.refl _ _ | exact ((Below.refl _ _).alloc (Nat.le_refl _) _)⟩
    | true =>
      have Hb8 := hb8.1 rfl
      clear hb8
      go_wp2_with fail
      refine (otherOk_b o.src o.dst _).mono ?_
      rintro e w7 ⟨⟨b7, rfl, hb7⟩, hw7⟩
      subst hw7
      cases b7 with
      | false =>
        have Hb7 := hb7.2 rfl
        clear hb7
        go_wp2
        go_ret
        exact ⟨Tells.no (by unfold ordOk; omega), by first | exact Below.refl _ _ | exact ((Below.refl _ _).alloc (Nat.le_refl _) _)⟩
      | true =>
        have Hb7 := hb7.1 rfl
        clear hb7
        go_wp2_with fail
        refine (someOk_b o.amount _).mono ?_
        rintro e w6 ⟨⟨b6, rfl, hb6⟩, hw6⟩
        subst hw6
        cases b6 with
        | false =>
          have Hb6 := hb6.2 rfl
          clear hb6
          go_wp2
          go_ret
          exact ⟨Tells.no (by unfold ordOk; omega), by first | exact Below.refl _ _ | exact ((Below.refl _ _).alloc (Nat.le_refl _) _)⟩
        | true =>
          have Hb6 := hb6.1 rfl
          clear hb6
          go_wp2_with fail
          refine (dayOk_b o.first _).mono ?_
          rintro e w5 ⟨⟨b5, rfl, hb5⟩, hw5⟩
          subst hw5
          cases b5 with
          | false =>
            have Hb5 := hb5.2 rfl
            clear hb5
            go_wp2
            go_ret
            exact ⟨Tells.no (by unfold ordOk; omega), by first | exact Below.refl _ _ | exact ((Below.refl _ _).alloc (Nat.le_refl _) _)⟩
          | true =>
            have Hb5 := hb5.1 rfl
            clear hb5
            by_cases q4 : 1 ≤ o.every
            rotate_left
            · have q4b : o.every < 1 := by omega
              have q4d : decide (1 ≤ o.every) = false := decide_eq_false q4
              go_wp2
              go_ret
              exact ⟨Tells.no (by unfold ordOk; omega), by first | exact Below.refl _ _ | exact ((Below.refl _ _).alloc (Nat.le_refl _) _)⟩
            by_cases q3 : o.every ≤ 366
            rotate_left
            · have q3b : 366 < o.every := by omega
              have q3d : decide (o.every ≤ 366) = false := decide_eq_false q3
              go_wp2
              go_ret
              exact ⟨Tells.no (by unfold ordOk; omega), by first | exact Below.refl _ _ | exact ((Below.refl _ _).alloc (Nat.le_refl _) _)⟩
            by_cases q2 : 1 ≤ o.times
            rotate_left
            · have q2b : o.times < 1 := by omega
              have q2d : decide (1 ≤ o.times) = false := decide_eq_false q2
              go_wp2
              go_ret
              exact ⟨Tells.no (by unfold ordOk; omega), by first | exact Below.refl _ _ | exact ((Below.refl _ _).alloc (Nat.le_refl _) _)⟩
            by_cases q1 : o.times ≤ 1000
            rotate_left
            · have q1b : 1000 < o.times := by omega
              have q1d : decide (o.times ≤ 1000) = false := decide_eq_false q1
              go_wp2
              go_ret
              exact ⟨Tells.no (by unfold ordOk; omega), by first | exact Below.refl _ _ | exact ((Below.refl _ _).alloc (Nat.le_refl _) _)⟩
            go_wp2
            go_ret
            exact ⟨Tells.yes (by unfold ordOk; omega), by first | exact Below.refl _ _ | exact ((Below.refl _ _).alloc (Nat.le_refl _) _)⟩

theorem list7 {l : List Value} (h : l.length = 7) : ∃ a b c d e f g, l = [a, b, c, d, e, f, g] := by
  match l, h with
  | [a, b, c, d, e, f, g], _ => exact ⟨a, b, c, d, e, f, g, rfl⟩
theorem cellsInt : Tryz.prog.cellsOf 2 = 1 := by kernel_rfl

/-- An order in memory: seven cells. -/
def OrdBox (w : World) (R : Nat) (o : Ord) : Prop := w.cell? ⟨R, 0, none⟩ = some (.int .i64 o.id) ∧ w.cell? ⟨R, 1, none⟩ = some (.int .i64 o.src) ∧ w.cell? ⟨R, 2, none⟩ = some (.int .i64 o.dst) ∧ w.cell? ⟨R, 3, none⟩ = some (.int .i64 o.amount) ∧ w.cell? ⟨R, 4, none⟩ = some (.int .i64 o.first) ∧ w.cell? ⟨R, 5, none⟩ = some (.int .i64 o.every) ∧ w.cell? ⟨R, 6, none⟩ = some (.int .i64 o.times) ∧ R < w.heap.size
theorem OrdBox.new (w : World) (o : Ord) (T : Nat) : OrdBox (w.alloc (.cells #[.int .i64 o.id, .int .i64 o.src, .int .i64 o.dst, .int .i64 o.amount, .int .i64 o.first, .int .i64 o.every, .int .i64 o.times] T)) w.heap.size o := by
  unfold OrdBox
  simp [go_sem]
theorem OrdBox.below {w w' : World} {R : Nat} {o : Ord} (h : OrdBox w R o) (hb : Below w.heap.size w w') : OrdBox w' R o := by
  obtain ⟨h0, h1, h2, h3, h4, h5, h6, h7⟩ := h
  exact ⟨by rw [hb.cell (p := ⟨R, 0, none⟩) h7]; exact h0, by rw [hb.cell (p := ⟨R, 1, none⟩) h7]; exact h1, by rw [hb.cell (p := ⟨R, 2, none⟩) h7]; exact h2, by rw [hb.cell (p := ⟨R, 3, none⟩) h7]; exact h3, by rw [hb.cell (p := ⟨R, 4, none⟩) h7]; exact h4, by rw [hb.cell (p := ⟨R, 5, none⟩) h7]; exact h5, by rw [hb.cell (p := ⟨R, 6, none⟩) h7]; exact h6, Nat.lt_of_lt_of_le h7 hb.size⟩
end Go.Proofs.YtedhlmipcfdldaaGreatDoor
