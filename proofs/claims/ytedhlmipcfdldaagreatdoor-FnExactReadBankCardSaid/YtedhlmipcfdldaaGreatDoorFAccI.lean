/- Contracts of the look at one account, of the program and of the specification. No conditions. -/
import Derived.Test.YtedhlmipcfdldaaGreatDoorFAccS
namespace Go.Proofs.YtedhlmipcfdldaaGreatDoor
open Go.RowKit
set_option maxRecDepth 8000

set_option maxHeartbeats 2000000 in
theorem implAcc (a : Acc) (w : World) :
    Calls Tryz.prog 57 #[.agg #[.int .i64 a.id, .int .i64 a.up, .int .i64 a.limit, .int .i64 a.rate, .int .i64 a.target, .bool a.frozen, .int .i64 a.balance, .int .i64 a.carry]] w fun e w' => ∃ b : Bool, e = .returned (.bool b) ∧ (b = true ↔ okI a) ∧ Below w.heap.size w w' := by
  by_cases h0 : 1 ≤ a.id ∧ a.id ≤ 1000000
  rotate_left
  · have hno : ¬ okI a := fun k => h0 (k.1)
    have HN : Hid (¬ okI a) := hno
    clear hno
    go_enter Tryz.func57, Tryz.ntmps57
    go_wp2_with (first | (go_at_call 64; refine (idOk_yes _ _ ?_).mono ?_; (focus omega); rintro e w' ⟨rfl, rfl⟩) | (go_at_call 64; refine (idOk_no _ _ ?_).mono ?_; (focus omega); rintro e w' ⟨rfl, rfl⟩) | (go_at_call 65; refine (amount_yes _ _ ?_).mono ?_; (focus omega); rintro e w' ⟨rfl, rfl⟩) | (go_at_call 65; refine (amount_no _ _ ?_).mono ?_; (focus omega); rintro e w' ⟨rfl, rfl⟩))
    go_ret
    exact ⟨false, rfl, ⟨fun h => (by cases h), fun h => absurd h HN.out⟩, (Below.refl _ _).alloc (Nat.le_refl _) _⟩
  by_cases h1 : -1 ≤ a.limit ∧ a.limit ≤ 1000000000000
  rotate_left
  · have hno : ¬ okI a := fun k => h1 (k.2.1)
    have HN : Hid (¬ okI a) := hno
    clear hno
    go_enter Tryz.func57, Tryz.ntmps57
    go_wp2_with (first | (go_at_call 64; refine (idOk_yes _ _ ?_).mono ?_; (focus omega); rintro e w' ⟨rfl, rfl⟩) | (go_at_call 64; refine (idOk_no _ _ ?_).mono ?_; (focus omega); rintro e w' ⟨rfl, rfl⟩) | (go_at_call 65; refine (amount_yes _ _ ?_).mono ?_; (focus omega); rintro e w' ⟨rfl, rfl⟩) | (go_at_call 65; refine (amount_no _ _ ?_).mono ?_; (focus omega); rintro e w' ⟨rfl, rfl⟩))
    go_ret
    exact ⟨false, rfl, ⟨fun h => (by cases h), fun h => absurd h HN.out⟩, (Below.refl _ _).alloc (Nat.le_refl _) _⟩
  by_cases h2 : -1 ≤ a.target ∧ a.target ≤ 1000000000000
  rotate_left
  · have hno : ¬ okI a := fun k => h2 (k.2.2.1)
    have HN : Hid (¬ okI a) := hno
    clear hno
    go_enter Tryz.func57, Tryz.ntmps57
    go_wp2_with (first | (go_at_call 64; refine (idOk_yes _ _ ?_).mono ?_; (focus omega); rintro e w' ⟨rfl, rfl⟩) | (go_at_call 64; refine (idOk_no _ _ ?_).mono ?_; (focus omega); rintro e w' ⟨rfl, rfl⟩) | (go_at_call 65; refine (amount_yes _ _ ?_).mono ?_; (focus omega); rintro e w' ⟨rfl, rfl⟩) | (go_at_call 65; refine (amount_no _ _ ?_).mono ?_; (focus omega); rintro e w' ⟨rfl, rfl⟩))
    go_ret
    exact ⟨false, rfl, ⟨fun h => (by cases h), fun h => absurd h HN.out⟩, (Below.refl _ _).alloc (Nat.le_refl _) _⟩
  by_cases hb1 : a.balance < -1000000000000
  · have hno : ¬ okI a := fun k => by have := (k.2.2.2.1); omega
    have HN : Hid (¬ okI a) := hno
    clear hno
    go_enter Tryz.func57, Tryz.ntmps57
    go_wp2_with (first | (go_at_call 64; refine (idOk_yes _ _ ?_).mono ?_; (focus omega); rintro e w' ⟨rfl, rfl⟩) | (go_at_call 64; refine (idOk_no _ _ ?_).mono ?_; (focus omega); rintro e w' ⟨rfl, rfl⟩) | (go_at_call 65; refine (amount_yes _ _ ?_).mono ?_; (focus omega); rintro e w' ⟨rfl, rfl⟩) | (go_at_call 65; refine (amount_no _ _ ?_).mono ?_; (focus omega); rintro e w' ⟨rfl, rfl⟩))
    go_ret
    exact ⟨false, rfl, ⟨fun h => (by cases h), fun h => absurd h HN.out⟩, (Below.refl _ _).alloc (Nat.le_refl _) _⟩
  by_cases hb2 : 1000000000000 < a.balance
  · have hno : ¬ okI a := fun k => by have := (k.2.2.2.1); omega
    have HN : Hid (¬ okI a) := hno
    clear hno
    go_enter Tryz.func57, Tryz.ntmps57
    go_wp2_with (first | (go_at_call 64; refine (idOk_yes _ _ ?_).mono ?_; (focus omega); rintro e w' ⟨rfl, rfl⟩) | (go_at_call 64; refine (idOk_no _ _ ?_).mono ?_; (focus omega); rintro e w' ⟨rfl, rfl⟩) | (go_at_call 65; refine (amount_yes _ _ ?_).mono ?_; (focus omega); rintro e w' ⟨rfl, rfl⟩) | (go_at_call 65; refine (amount_no _ _ ?_).mono ?_; (focus omega); rintro e w' ⟨rfl, rfl⟩))
    go_ret
    exact ⟨false, rfl, ⟨fun h => (by cases h), fun h => absurd h HN.out⟩, (Below.refl _ _).alloc (Nat.le_refl _) _⟩
  by_cases hu : a.up = 0
  · have bu : (a.up != 0) = false := by simp [hu]
    by_cases hl : a.limit = -1
    · have bl : (a.limit == -1) = true := by simp [hl]
      have HN : Hid (¬ okI a) := (fun k => (k.2.2.2.2.2 hu).1 hl)
      clear hu hl
      go_enter Tryz.func57, Tryz.ntmps57
      go_wp2_with (first | (go_at_call 64; refine (idOk_yes _ _ ?_).mono ?_; (focus omega); rintro e w' ⟨rfl, rfl⟩) | (go_at_call 64; refine (idOk_no _ _ ?_).mono ?_; (focus omega); rintro e w' ⟨rfl, rfl⟩) | (go_at_call 65; refine (amount_yes _ _ ?_).mono ?_; (focus omega); rintro e w' ⟨rfl, rfl⟩) | (go_at_call 65; refine (amount_no _ _ ?_).mono ?_; (focus omega); rintro e w' ⟨rfl, rfl⟩))
      go_ret
      exact ⟨false, rfl, ⟨fun h => (by cases h), fun h => absurd h HN.out⟩, (Below.refl _ _).alloc (Nat.le_refl _) _⟩
    have bl : (a.limit == -1) = false := by simp [hl]
    by_cases ht : a.target = -1
    rotate_left
    · have bt : (a.target != -1) = true := by simp [ht]
      have HN : Hid (¬ okI a) := (fun k => ht (k.2.2.2.2.2 hu).2.1)
      clear hu hl ht
      go_enter Tryz.func57, Tryz.ntmps57
      go_wp2_with (first | (go_at_call 64; refine (idOk_yes _ _ ?_).mono ?_; (focus omega); rintro e w' ⟨rfl, rfl⟩) | (go_at_call 64; refine (idOk_no _ _ ?_).mono ?_; (focus omega); rintro e w' ⟨rfl, rfl⟩) | (go_at_call 65; refine (amount_yes _ _ ?_).mono ?_; (focus omega); rintro e w' ⟨rfl, rfl⟩) | (go_at_call 65; refine (amount_no _ _ ?_).mono ?_; (focus omega); rintro e w' ⟨rfl, rfl⟩))
      go_ret
      exact ⟨false, rfl, ⟨fun h => (by cases h), fun h => absurd h HN.out⟩, (Below.refl _ _).alloc (Nat.le_refl _) _⟩
    have bt : (a.target != -1) = false := by simp [ht]
    by_cases hr1 : 0 ≤ a.rate
    rotate_left
    · have HN : Hid (¬ okI a) := (fun k => hr1 (k.2.2.2.2.2 hu).2.2.1.1)
      have hr1' : a.rate < 0 := by omega
      have hd : decide (0 ≤ a.rate) = false := decide_eq_false hr1
      clear hu hl ht
      go_enter Tryz.func57, Tryz.ntmps57
      go_wp2_with (first | (go_at_call 64; refine (idOk_yes _ _ ?_).mono ?_; (focus omega); rintro e w' ⟨rfl, rfl⟩) | (go_at_call 64; refine (idOk_no _ _ ?_).mono ?_; (focus omega); rintro e w' ⟨rfl, rfl⟩) | (go_at_call 65; refine (amount_yes _ _ ?_).mono ?_; (focus omega); rintro e w' ⟨rfl, rfl⟩) | (go_at_call 65; refine (amount_no _ _ ?_).mono ?_; (focus omega); rintro e w' ⟨rfl, rfl⟩))
      go_ret
      exact ⟨false, rfl, ⟨fun h => (by cases h), fun h => absurd h HN.out⟩, (Below.refl _ _).alloc (Nat.le_refl _) _⟩
    by_cases hr2 : a.rate ≤ 10000
    rotate_left
    · have HN : Hid (¬ okI a) := (fun k => hr2 (k.2.2.2.2.2 hu).2.2.1.2)
      have hr2' : 10000 < a.rate := by omega
      have hd : decide (a.rate ≤ 10000) = false := decide_eq_false hr2
      clear hu hl ht
      go_enter Tryz.func57, Tryz.ntmps57
      go_wp2_with (first | (go_at_call 64; refine (idOk_yes _ _ ?_).mono ?_; (focus omega); rintro e w' ⟨rfl, rfl⟩) | (go_at_call 64; refine (idOk_no _ _ ?_).mono ?_; (focus omega); rintro e w' ⟨rfl, rfl⟩) | (go_at_call 65; refine (amount_yes _ _ ?_).mono ?_; (focus omega); rintro e w' ⟨rfl, rfl⟩) | (go_at_call 65; refine (amount_no _ _ ?_).mono ?_; (focus omega); rintro e w' ⟨rfl, rfl⟩))
      go_ret
      exact ⟨false, rfl, ⟨fun h => (by cases h), fun h => absurd h HN.out⟩, (Below.refl _ _).alloc (Nat.le_refl _) _⟩
    by_cases hc1 : 0 ≤ a.carry
    rotate_left
    · have HN : Hid (¬ okI a) := (fun k => hc1 (k.2.2.2.2.2 hu).2.2.2.1)
      have hc1' : a.carry < 0 := by omega
      have hd : decide (0 ≤ a.carry) = false := decide_eq_false hc1
      clear hu hl ht
      go_enter Tryz.func57, Tryz.ntmps57
      go_wp2_with (first | (go_at_call 64; refine (idOk_yes _ _ ?_).mono ?_; (focus omega); rintro e w' ⟨rfl, rfl⟩) | (go_at_call 64; refine (idOk_no _ _ ?_).mono ?_; (focus omega); rintro e w' ⟨rfl, rfl⟩) | (go_at_call 65; refine (amount_yes _ _ ?_).mono ?_; (focus omega); rintro e w' ⟨rfl, rfl⟩) | (go_at_call 65; refine (amount_no _ _ ?_).mono ?_; (focus omega); rintro e w' ⟨rfl, rfl⟩))
      go_ret
      exact ⟨false, rfl, ⟨fun h => (by cases h), fun h => absurd h HN.out⟩, (Below.refl _ _).alloc (Nat.le_refl _) _⟩
    by_cases hc2 : a.carry < 3650000
    rotate_left
    · have HN : Hid (¬ okI a) := (fun k => hc2 (k.2.2.2.2.2 hu).2.2.2.2)
      have hc2' : 3650000 ≤ a.carry := by omega
      have hd : decide (a.carry < 3650000) = false := decide_eq_false hc2
      clear hu hl ht
      go_enter Tryz.func57, Tryz.ntmps57
      go_wp2_with (first | (go_at_call 64; refine (idOk_yes _ _ ?_).mono ?_; (focus omega); rintro e w' ⟨rfl, rfl⟩) | (go_at_call 64; refine (idOk_no _ _ ?_).mono ?_; (focus omega); rintro e w' ⟨rfl, rfl⟩) | (go_at_call 65; refine (amount_yes _ _ ?_).mono ?_; (focus omega); rintro e w' ⟨rfl, rfl⟩) | (go_at_call 65; refine (amount_no _ _ ?_).mono ?_; (focus omega); rintro e w' ⟨rfl, rfl⟩))
      go_ret
      exact ⟨false, rfl, ⟨fun h => (by cases h), fun h => absurd h HN.out⟩, (Below.refl _ _).alloc (Nat.le_refl _) _⟩
    have HN : Hid (okI a) := ⟨h0, h1, h2, by omega, fun e => absurd hu e, fun _ => ⟨hl, ht, ⟨hr1, hr2⟩, hc1, hc2⟩⟩
    clear hu hl ht
    go_enter Tryz.func57, Tryz.ntmps57
    go_wp2_with (first | (go_at_call 64; refine (idOk_yes _ _ ?_).mono ?_; (focus omega); rintro e w' ⟨rfl, rfl⟩) | (go_at_call 64; refine (idOk_no _ _ ?_).mono ?_; (focus omega); rintro e w' ⟨rfl, rfl⟩) | (go_at_call 65; refine (amount_yes _ _ ?_).mono ?_; (focus omega); rintro e w' ⟨rfl, rfl⟩) | (go_at_call 65; refine (amount_no _ _ ?_).mono ?_; (focus omega); rintro e w' ⟨rfl, rfl⟩))
    go_ret
    exact ⟨true, rfl, ⟨fun _ => HN.out, fun _ => rfl⟩, (Below.refl _ _).alloc (Nat.le_refl _) _⟩
  · have bu : (a.up != 0) = true := by simp [hu]
    by_cases hr : a.rate = 0
    · have br : (a.rate == 0) = true := by simp [hr]
      by_cases hc : a.carry = 0
      · have bc : (a.carry == 0) = true := by simp [hc]
        have HN : Hid (okI a) := ⟨h0, h1, h2, by omega, fun _ => ⟨hr, hc⟩, fun e => absurd e hu⟩
        clear hu hr hc
        go_enter Tryz.func57, Tryz.ntmps57
        go_wp2_with (first | (go_at_call 64; refine (idOk_yes _ _ ?_).mono ?_; (focus omega); rintro e w' ⟨rfl, rfl⟩) | (go_at_call 64; refine (idOk_no _ _ ?_).mono ?_; (focus omega); rintro e w' ⟨rfl, rfl⟩) | (go_at_call 65; refine (amount_yes _ _ ?_).mono ?_; (focus omega); rintro e w' ⟨rfl, rfl⟩) | (go_at_call 65; refine (amount_no _ _ ?_).mono ?_; (focus omega); rintro e w' ⟨rfl, rfl⟩))
        go_ret
        exact ⟨true, rfl, ⟨fun _ => HN.out, fun _ => rfl⟩, (Below.refl _ _).alloc (Nat.le_refl _) _⟩
      · have bc : (a.carry == 0) = false := by simp [hc]
        have HN : Hid (¬ okI a) := (fun k => hc (k.2.2.2.2.1 hu).2)
        clear hu hr hc
        go_enter Tryz.func57, Tryz.ntmps57
        go_wp2_with (first | (go_at_call 64; refine (idOk_yes _ _ ?_).mono ?_; (focus omega); rintro e w' ⟨rfl, rfl⟩) | (go_at_call 64; refine (idOk_no _ _ ?_).mono ?_; (focus omega); rintro e w' ⟨rfl, rfl⟩) | (go_at_call 65; refine (amount_yes _ _ ?_).mono ?_; (focus omega); rintro e w' ⟨rfl, rfl⟩) | (go_at_call 65; refine (amount_no _ _ ?_).mono ?_; (focus omega); rintro e w' ⟨rfl, rfl⟩))
        go_ret
        exact ⟨false, rfl, ⟨fun h => (by cases h), fun h => absurd h HN.out⟩, (Below.refl _ _).alloc (Nat.le_refl _) _⟩
    · have br : (a.rate == 0) = false := by simp [hr]
      have HN : Hid (¬ okI a) := (fun k => hr (k.2.2.2.2.1 hu).1)
      clear hu hr
      go_enter Tryz.func57, Tryz.ntmps57
      go_wp2_with (first | (go_at_call 64; refine (idOk_yes _ _ ?_).mono ?_; (focus omega); rintro e w' ⟨rfl, rfl⟩) | (go_at_call 64; refine (idOk_no _ _ ?_).mono ?_; (focus omega); rintro e w' ⟨rfl, rfl⟩) | (go_at_call 65; refine (amount_yes _ _ ?_).mono ?_; (focus omega); rintro e w' ⟨rfl, rfl⟩) | (go_at_call 65; refine (amount_no _ _ ?_).mono ?_; (focus omega); rintro e w' ⟨rfl, rfl⟩))
      go_ret
      exact ⟨false, rfl, ⟨fun h => (by cases h), fun h => absurd h HN.out⟩, (Below.refl _ _).alloc (Nat.le_refl _) _⟩
end Go.Proofs.YtedhlmipcfdldaaGreatDoor
