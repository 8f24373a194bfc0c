/- Contracts of the look at one account, of the program and of the specification. No conditions. -/
import Derived.Test.YtedhlmipcfdldaaGreatDoorFAt
namespace Go.Proofs.YtedhlmipcfdldaaGreatDoor
open Go.RowKit
set_option maxRecDepth 8000

theorem l1In_yes (n lo hi : Int) (w : World) (h : lo ≤ n ∧ n ≤ hi) :
    Calls Tryz.prog 33 #[.int .i64 n, .int .i64 lo, .int .i64 hi] w fun e w' => e = .returned (.bool true) ∧ w' = w := by
  obtain ⟨h1, h2⟩ := h
  go_enter Tryz.func33, Tryz.ntmps33
  go_wp2
  go_ret
  exact ⟨rfl, rfl⟩
theorem l1In_no (n lo hi : Int) (w : World) (h : ¬ (lo ≤ n ∧ n ≤ hi)) :
    Calls Tryz.prog 33 #[.int .i64 n, .int .i64 lo, .int .i64 hi] w fun e w' => e = .returned (.bool false) ∧ w' = w := by
  by_cases h1 : lo ≤ n
  · have h2 : ¬ n ≤ hi := by omega
    have h3 : hi < n := by omega
    clear h
    go_enter Tryz.func33, Tryz.ntmps33
    go_wp2
    go_ret
    exact ⟨rfl, rfl⟩
  · have h2 : n < lo := by omega
    clear h
    go_enter Tryz.func33, Tryz.ntmps33
    go_wp2
    go_ret
    exact ⟨rfl, rfl⟩
theorem idOk_yes (n : Int) (w : World) (h : 1 ≤ n ∧ n ≤ 1000000) :
    Calls Tryz.prog 64 #[.int .i64 n] w fun e w' => e = .returned (.bool true) ∧ w' = w := by
  obtain ⟨h1, h2⟩ := h
  go_enter Tryz.func64, Tryz.ntmps64
  go_wp2
  go_ret
  exact ⟨rfl, rfl⟩
theorem idOk_no (n : Int) (w : World) (h : ¬ (1 ≤ n ∧ n ≤ 1000000)) :
    Calls Tryz.prog 64 #[.int .i64 n] w fun e w' => e = .returned (.bool false) ∧ w' = w := by
  by_cases h1 : 1 ≤ n
  · have h2 : ¬ n ≤ 1000000 := by omega
    have h3 : 1000000 < n := by omega
    clear h
    go_enter Tryz.func64, Tryz.ntmps64
    go_wp2
    go_ret
    exact ⟨rfl, rfl⟩
  · have h2 : n < 1 := by omega
    clear h
    go_enter Tryz.func64, Tryz.ntmps64
    go_wp2
    go_ret
    exact ⟨rfl, rfl⟩
theorem amount_yes (n : Int) (w : World) (h : -1 ≤ n ∧ n ≤ 1000000000000) :
    Calls Tryz.prog 65 #[.int .i64 n] w fun e w' => e = .returned (.bool true) ∧ w' = w := by
  obtain ⟨h1, h2⟩ := h
  go_enter Tryz.func65, Tryz.ntmps65
  go_wp2
  go_ret
  exact ⟨rfl, rfl⟩
theorem amount_no (n : Int) (w : World) (h : ¬ (-1 ≤ n ∧ n ≤ 1000000000000)) :
    Calls Tryz.prog 65 #[.int .i64 n] w fun e w' => e = .returned (.bool false) ∧ w' = w := by
  by_cases h1 : -1 ≤ n
  · have h2 : ¬ n ≤ 1000000000000 := by omega
    have h3 : 1000000000000 < n := by omega
    clear h
    go_enter Tryz.func65, Tryz.ntmps65
    go_wp2
    go_ret
    exact ⟨rfl, rfl⟩
  · have h2 : n < -1 := by omega
    clear h
    go_enter Tryz.func65, Tryz.ntmps65
    go_wp2
    go_ret
    exact ⟨rfl, rfl⟩

set_option maxHeartbeats 2000000 in
theorem specAcc (a : Acc) (w : World) :
    Calls Tryz.prog 51 #[.agg #[.int .i64 a.id, .int .i64 a.up, .int .i64 a.limit, .int .i64 a.rate, .int .i64 a.target, .bool a.frozen, .int .i64 a.balance, .int .i64 a.carry]] w fun e w' => ∃ b : Bool, e = .returned (.bool b) ∧ (b = true ↔ okS a) ∧ Below w.heap.size w w' := by
  by_cases h0 : 1 ≤ a.id ∧ a.id ≤ 1000000
  rotate_left
  · have hno : ¬ okS a := fun k => h0 (k.1)
    have HN : Hid (¬ okS a) := hno
    clear hno
    go_enter Tryz.func51, Tryz.ntmps51
    go_wp2_with (first | (go_at_call 33; refine (l1In_yes _ _ _ _ ?_).mono ?_; (focus omega); rintro e w' ⟨rfl, rfl⟩) | (go_at_call 33; refine (l1In_no _ _ _ _ ?_).mono ?_; (focus omega); rintro e w' ⟨rfl, rfl⟩))
    go_ret
    exact ⟨false, rfl, ⟨fun h => (by cases h), fun h => absurd h HN.out⟩, (Below.refl _ _).alloc (Nat.le_refl _) _⟩
  by_cases h1 : 0 ≤ a.up ∧ a.up ≤ 1000000
  rotate_left
  · have hno : ¬ okS a := fun k => h1 (k.2.1)
    have HN : Hid (¬ okS a) := hno
    clear hno
    go_enter Tryz.func51, Tryz.ntmps51
    go_wp2_with (first | (go_at_call 33; refine (l1In_yes _ _ _ _ ?_).mono ?_; (focus omega); rintro e w' ⟨rfl, rfl⟩) | (go_at_call 33; refine (l1In_no _ _ _ _ ?_).mono ?_; (focus omega); rintro e w' ⟨rfl, rfl⟩))
    go_ret
    exact ⟨false, rfl, ⟨fun h => (by cases h), fun h => absurd h HN.out⟩, (Below.refl _ _).alloc (Nat.le_refl _) _⟩
  by_cases h2 : -1 ≤ a.limit ∧ a.limit ≤ 1000000000000
  rotate_left
  · have hno : ¬ okS a := fun k => h2 (k.2.2.1)
    have HN : Hid (¬ okS a) := hno
    clear hno
    go_enter Tryz.func51, Tryz.ntmps51
    go_wp2_with (first | (go_at_call 33; refine (l1In_yes _ _ _ _ ?_).mono ?_; (focus omega); rintro e w' ⟨rfl, rfl⟩) | (go_at_call 33; refine (l1In_no _ _ _ _ ?_).mono ?_; (focus omega); rintro e w' ⟨rfl, rfl⟩))
    go_ret
    exact ⟨false, rfl, ⟨fun h => (by cases h), fun h => absurd h HN.out⟩, (Below.refl _ _).alloc (Nat.le_refl _) _⟩
  by_cases h3 : 0 ≤ a.rate ∧ a.rate ≤ 10000
  rotate_left
  · have hno : ¬ okS a := fun k => h3 (k.2.2.2.1)
    have HN : Hid (¬ okS a) := hno
    clear hno
    go_enter Tryz.func51, Tryz.ntmps51
    go_wp2_with (first | (go_at_call 33; refine (l1In_yes _ _ _ _ ?_).mono ?_; (focus omega); rintro e w' ⟨rfl, rfl⟩) | (go_at_call 33; refine (l1In_no _ _ _ _ ?_).mono ?_; (focus omega); rintro e w' ⟨rfl, rfl⟩))
    go_ret
    exact ⟨false, rfl, ⟨fun h => (by cases h), fun h => absurd h HN.out⟩, (Below.refl _ _).alloc (Nat.le_refl _) _⟩
  by_cases h4 : -1 ≤ a.target ∧ a.target ≤ 1000000000000
  rotate_left
  · have hno : ¬ okS a := fun k => h4 (k.2.2.2.2.1)
    have HN : Hid (¬ okS a) := hno
    clear hno
    go_enter Tryz.func51, Tryz.ntmps51
    go_wp2_with (first | (go_at_call 33; refine (l1In_yes _ _ _ _ ?_).mono ?_; (focus omega); rintro e w' ⟨rfl, rfl⟩) | (go_at_call 33; refine (l1In_no _ _ _ _ ?_).mono ?_; (focus omega); rintro e w' ⟨rfl, rfl⟩))
    go_ret
    exact ⟨false, rfl, ⟨fun h => (by cases h), fun h => absurd h HN.out⟩, (Below.refl _ _).alloc (Nat.le_refl _) _⟩
  by_cases h5 : -1000000000000 ≤ a.balance ∧ a.balance ≤ 1000000000000
  rotate_left
  · have hno : ¬ okS a := fun k => h5 (k.2.2.2.2.2.1)
    have HN : Hid (¬ okS a) := hno
    clear hno
    go_enter Tryz.func51, Tryz.ntmps51
    go_wp2_with (first | (go_at_call 33; refine (l1In_yes _ _ _ _ ?_).mono ?_; (focus omega); rintro e w' ⟨rfl, rfl⟩) | (go_at_call 33; refine (l1In_no _ _ _ _ ?_).mono ?_; (focus omega); rintro e w' ⟨rfl, rfl⟩))
    go_ret
    exact ⟨false, rfl, ⟨fun h => (by cases h), fun h => absurd h HN.out⟩, (Below.refl _ _).alloc (Nat.le_refl _) _⟩
  by_cases h6 : 0 ≤ a.carry ∧ a.carry ≤ 3649999
  rotate_left
  · have hno : ¬ okS a := fun k => h6 (k.2.2.2.2.2.2.1)
    have HN : Hid (¬ okS a) := hno
    clear hno
    go_enter Tryz.func51, Tryz.ntmps51
    go_wp2_with (first | (go_at_call 33; refine (l1In_yes _ _ _ _ ?_).mono ?_; (focus omega); rintro e w' ⟨rfl, rfl⟩) | (go_at_call 33; refine (l1In_no _ _ _ _ ?_).mono ?_; (focus omega); rintro e w' ⟨rfl, rfl⟩))
    go_ret
    exact ⟨false, rfl, ⟨fun h => (by cases h), fun h => absurd h HN.out⟩, (Below.refl _ _).alloc (Nat.le_refl _) _⟩
  by_cases hu : a.up = 0
  · have bu : (a.up == 0) = true := by simp [hu]
    by_cases hl : 0 ≤ a.limit
    · by_cases ht : a.target < 0
      · have HN : Hid (okS a) := ⟨h0, h1, h2, h3, h4, h5, h6, fun _ => ⟨hl, ht⟩, fun e => absurd hu e⟩
        clear hu
        go_enter Tryz.func51, Tryz.ntmps51
        go_wp2_with (first | (go_at_call 33; refine (l1In_yes _ _ _ _ ?_).mono ?_; (focus omega); rintro e w' ⟨rfl, rfl⟩) | (go_at_call 33; refine (l1In_no _ _ _ _ ?_).mono ?_; (focus omega); rintro e w' ⟨rfl, rfl⟩))
        go_ret
        exact ⟨true, rfl, ⟨fun _ => HN.out, fun _ => rfl⟩, (Below.refl _ _).alloc (Nat.le_refl _) _⟩
      · have HN : Hid (¬ okS a) := (fun k => ht (k.2.2.2.2.2.2.2.1 hu).2)
        have ht' : 0 ≤ a.target := by omega
        have hd : decide (a.target < 0) = false := decide_eq_false ht
        clear hu
        go_enter Tryz.func51, Tryz.ntmps51
        go_wp2_with (first | (go_at_call 33; refine (l1In_yes _ _ _ _ ?_).mono ?_; (focus omega); rintro e w' ⟨rfl, rfl⟩) | (go_at_call 33; refine (l1In_no _ _ _ _ ?_).mono ?_; (focus omega); rintro e w' ⟨rfl, rfl⟩))
        go_ret
        exact ⟨false, rfl, ⟨fun h => (by cases h), fun h => absurd h HN.out⟩, (Below.refl _ _).alloc (Nat.le_refl _) _⟩
    · have HN : Hid (¬ okS a) := (fun k => hl (k.2.2.2.2.2.2.2.1 hu).1)
      have hl' : a.limit < 0 := by omega
      have hd : decide (0 ≤ a.limit) = false := decide_eq_false hl
      clear hu
      go_enter Tryz.func51, Tryz.ntmps51
      go_wp2_with (first | (go_at_call 33; refine (l1In_yes _ _ _ _ ?_).mono ?_; (focus omega); rintro e w' ⟨rfl, rfl⟩) | (go_at_call 33; refine (l1In_no _ _ _ _ ?_).mono ?_; (focus omega); rintro e w' ⟨rfl, rfl⟩))
      go_ret
      exact ⟨false, rfl, ⟨fun h => (by cases h), fun h => absurd h HN.out⟩, (Below.refl _ _).alloc (Nat.le_refl _) _⟩
  · have bu : (a.up == 0) = false := by simp [hu]
    by_cases hr : a.rate = 0
    · have br : (a.rate == 0) = true := by simp [hr]
      by_cases hc : a.carry = 0
      · have bc : (a.carry == 0) = true := by simp [hc]
        have HN : Hid (okS a) := ⟨h0, h1, h2, h3, h4, h5, h6, fun e => absurd e hu, fun _ => ⟨hr, hc⟩⟩
        clear hu hr hc
        go_enter Tryz.func51, Tryz.ntmps51
        go_wp2_with (first | (go_at_call 33; refine (l1In_yes _ _ _ _ ?_).mono ?_; (focus omega); rintro e w' ⟨rfl, rfl⟩) | (go_at_call 33; refine (l1In_no _ _ _ _ ?_).mono ?_; (focus omega); rintro e w' ⟨rfl, rfl⟩))
        go_ret
        exact ⟨true, rfl, ⟨fun _ => HN.out, fun _ => rfl⟩, (Below.refl _ _).alloc (Nat.le_refl _) _⟩
      · have bc : (a.carry == 0) = false := by simp [hc]
        have HN : Hid (¬ okS a) := (fun k => hc (k.2.2.2.2.2.2.2.2 hu).2)
        clear hu hr hc
        go_enter Tryz.func51, Tryz.ntmps51
        go_wp2_with (first | (go_at_call 33; refine (l1In_yes _ _ _ _ ?_).mono ?_; (focus omega); rintro e w' ⟨rfl, rfl⟩) | (go_at_call 33; refine (l1In_no _ _ _ _ ?_).mono ?_; (focus omega); rintro e w' ⟨rfl, rfl⟩))
        go_ret
        exact ⟨false, rfl, ⟨fun h => (by cases h), fun h => absurd h HN.out⟩, (Below.refl _ _).alloc (Nat.le_refl _) _⟩
    · have br : (a.rate == 0) = false := by simp [hr]
      have HN : Hid (¬ okS a) := (fun k => hr (k.2.2.2.2.2.2.2.2 hu).1)
      clear hu hr
      go_enter Tryz.func51, Tryz.ntmps51
      go_wp2_with (first | (go_at_call 33; refine (l1In_yes _ _ _ _ ?_).mono ?_; (focus omega); rintro e w' ⟨rfl, rfl⟩) | (go_at_call 33; refine (l1In_no _ _ _ _ ?_).mono ?_; (focus omega); rintro e w' ⟨rfl, rfl⟩))
      go_ret
      exact ⟨false, rfl, ⟨fun h => (by cases h), fun h => absurd h HN.out⟩, (Below.refl _ _).alloc (Nat.le_refl _) _⟩
end Go.Proofs.YtedhlmipcfdldaaGreatDoor
