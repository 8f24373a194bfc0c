/- Contracts of DayOf, of the program and of the specification. Condition: the table of months as its text lays it. -/
import Derived.Test.YtjdpaednagingaaDoorOk
namespace Go.Proofs.YtjdpaednagingaaDoor
open Go.RowKit

/-- The day of a date, or -1. -/
def dayN (y m d : Int) : Int := if dateB y m d = true then (if Cal.dby y + Cal.cum y m + d - 1 ≤ 3000000 then Cal.dby y + Cal.cum y m + d - 1 else -1) else -1

set_option maxHeartbeats 1000000 in
theorem implDayOf_no (y m d : Int) (w : World) (ht : Tab w) (h : dateB y m d = false) :
    Calls Tryd.prog 12 #[.agg #[.int .i64 y, .int .i64 m, .int .i64 d]] w fun e w' => e = .returned (.int .i64 (-1)) ∧ Below w.heap.size w w' := by
  have ht0 : Hid (Tab w) := ht
  clear ht
  go_enter Tryd.func12, Tryd.ntmps12
  go_wp2_with fail
  refine (implDateOk _ _ _ _ (ht0.out.alloc _)).mono ?_
  rintro e w1 ⟨rfl, hb1⟩
  go_wp2
  go_ret
  exact ⟨rfl, ((Below.refl _ _).alloc (Nat.le_refl _) _).trans (hb1.mono (by simp))⟩

set_option maxHeartbeats 1000000 in
theorem implDayOf_yes (y m d : Int) (w : World) (ht : Tab w) (h : dateB y m d = true) :
    Calls Tryd.prog 12 #[.agg #[.int .i64 y, .int .i64 m, .int .i64 d]] w fun e w' => e = .returned (.int .i64 (if Cal.dby y + Cal.cum y m + d - 1 ≤ 3000000 then Cal.dby y + Cal.cum y m + d - 1 else -1)) ∧ Below w.heap.size w w' := by
  have ht0 : Hid (Tab w) := ht
  clear ht
  obtain ⟨h1, h2, h3, h4, h5, h6⟩ := dateB_iff.1 h
  have db := Cal.dim_bd y m
  have yb := Cal.dby_bd y h1 (by omega)
  have HF : Hid (∀ n : Int, n = Cal.dby y + Cal.cum y m + d - 1 → (n ≤ 3000000 → n = (if Cal.dby y + Cal.cum y m + d - 1 ≤ 3000000 then Cal.dby y + Cal.cum y m + d - 1 else -1)) ∧ (3000000 < n → -1 = (if Cal.dby y + Cal.cum y m + d - 1 ≤ 3000000 then Cal.dby y + Cal.cum y m + d - 1 else -1))) := by
    intro n hn
    subst hn
    exact ⟨fun hle => (if_pos hle).symm, fun hgt => (if_neg (by omega)).symm⟩
  generalize (if Cal.dby y + Cal.cum y m + d - 1 ≤ 3000000 then Cal.dby y + Cal.cum y m + d - 1 else -1) = R at HF ⊢
  go_enter Tryd.func12, Tryd.ntmps12
  go_wp2_with fail
  refine (implDateOk _ _ _ _ (ht0.out.alloc _)).mono ?_
  rintro e w1 ⟨rfl, hb1⟩
  have hc1 : ∀ o, w1.cell? ⟨w.heap.size, o, none⟩ = (w.alloc (.cells #[.int .i64 y, .int .i64 m, .int .i64 d] 25)).cell? ⟨w.heap.size, o, none⟩ := fun o => hb1.cell (p := ⟨w.heap.size, o, none⟩) (by simp)
  have T1 : Hid (Tab w1) := (ht0.out.alloc _).below hb1 (by simp)
  have HB : Hid (Below w.heap.size w w1) := ((Below.refl _ _).alloc (Nat.le_refl _) _).trans (hb1.mono (by simp))
  clear hb1
  go_wp2
  go_quiet ((go_at_call 25; refine Calls.quiet_of_same (implYear _ _ ?_ ?_) <;> omega))
  go_wp2
  go_loop [3, 4] (fun n i => ∃ k : Int, 1 ≤ k ∧ k ≤ m ∧ i = .int .i64 k ∧ n = .int .i64 (Cal.dby y + d - 1 + Cal.cum y k)) (fun _ i => (m - intOf i).toNat)
  case atStart => exact ⟨1, by omega, by omega, rfl, by rw [Cal.cum_one]; simp⟩
  case round =>
    obtain ⟨k, hk1, hk2, rfl, rfl⟩ := hrel
    have cb := Cal.cum_bd y k (by omega) (by omega)
    have db' := Cal.dim_bd y k
    by_cases hlt : k < m
    · have cs : Hid (Cal.cum y (k + 1) = Cal.cum y k + Cal.dim y k) := Cal.cum_succ y k (by omega) (by omega)
      go_wp2_with (go_at_call 23; refine (implDim _ _ _ (by omega) (by omega) (by omega) (T1.out.drewN _)).mono ?_; rintro e w' ⟨rfl, rfl⟩)
      go_round
      case rel => exact ⟨k + 1, by omega, by omega, rfl, by rw [cs.out]; go_num⟩
      case measure => simp [intOf]; omega
    · have hkm : k = m := by omega
      subst hkm
      by_cases hle : Cal.dby y + d - 1 + Cal.cum y k ≤ 3000000
      · have E : Hid (Cal.dby y + d - 1 + Cal.cum y k = R) := (HF.out _ (by omega)).1 hle
        clear HF
        go_wp2
        go_ret
        exact ⟨ret_int E.out, below_drewN HB.out _⟩
      · have hle' : 3000000 < Cal.dby y + d - 1 + Cal.cum y k := by omega
        have E : Hid (-1 = R) := (HF.out _ (by omega)).2 hle'
        clear HF
        go_wp2
        go_ret
        exact ⟨ret_int E.out, below_drewN HB.out _⟩

set_option maxHeartbeats 1000000 in
theorem specDayOf_no (y m d : Int) (w : World) (h : dateB y m d = false) :
    Calls Tryd.prog 11 #[.agg #[.int .i64 y, .int .i64 m, .int .i64 d]] w fun e w' => e = .returned (.int .i64 (-1)) ∧ Below w.heap.size w w' := by
  go_enter Tryd.func11, Tryd.ntmps11
  go_wp2_with fail
  refine (specDateOk _ _ _ _ ).mono ?_
  rintro e w1 ⟨rfl, hb1⟩
  go_wp2
  go_ret
  exact ⟨rfl, ((Below.refl _ _).alloc (Nat.le_refl _) _).trans (hb1.mono (by simp))⟩

set_option maxHeartbeats 1000000 in
theorem specDayOf_yes (y m d : Int) (w : World) (h : dateB y m d = true) :
    Calls Tryd.prog 11 #[.agg #[.int .i64 y, .int .i64 m, .int .i64 d]] w fun e w' => e = .returned (.int .i64 (if Cal.dby y + Cal.cum y m + d - 1 ≤ 3000000 then Cal.dby y + Cal.cum y m + d - 1 else -1)) ∧ Below w.heap.size w w' := by
  obtain ⟨h1, h2, h3, h4, h5, h6⟩ := dateB_iff.1 h
  have db := Cal.dim_bd y m
  have yb := Cal.dby_bd y h1 (by omega)
  have HF : Hid (∀ n : Int, n = Cal.dby y + Cal.cum y m + d - 1 → (n ≤ 3000000 → n = (if Cal.dby y + Cal.cum y m + d - 1 ≤ 3000000 then Cal.dby y + Cal.cum y m + d - 1 else -1)) ∧ (3000000 < n → -1 = (if Cal.dby y + Cal.cum y m + d - 1 ≤ 3000000 then Cal.dby y + Cal.cum y m + d - 1 else -1))) := by
    intro n hn
    subst hn
    exact ⟨fun hle => (if_pos hle).symm, fun hgt => (if_neg (by omega)).symm⟩
  generalize (if Cal.dby y + Cal.cum y m + d - 1 ≤ 3000000 then Cal.dby y + Cal.cum y m + d - 1 else -1) = R at HF ⊢
  go_enter Tryd.func11, Tryd.ntmps11
  go_wp2_with fail
  refine (specDateOk _ _ _ _ ).mono ?_
  rintro e w1 ⟨rfl, hb1⟩
  have hc1 : ∀ o, w1.cell? ⟨w.heap.size, o, none⟩ = (w.alloc (.cells #[.int .i64 y, .int .i64 m, .int .i64 d] 25)).cell? ⟨w.heap.size, o, none⟩ := fun o => hb1.cell (p := ⟨w.heap.size, o, none⟩) (by simp)
  have HB : Hid (Below w.heap.size w w1) := ((Below.refl _ _).alloc (Nat.le_refl _) _).trans (hb1.mono (by simp))
  clear hb1
  go_wp2
  go_quiet ((go_at_call 24; refine Calls.quiet_of_same (specYear _ _ ?_ ?_) <;> omega))
  go_wp2
  go_loop [3, 4] (fun n i => ∃ k : Int, 1 ≤ k ∧ k ≤ m ∧ i = .int .i64 k ∧ n = .int .i64 (Cal.dby y + d - 1 + Cal.cum y k)) (fun _ i => (m - intOf i).toNat)
  case atStart => exact ⟨1, by omega, by omega, rfl, by rw [Cal.cum_one]; simp⟩
  case round =>
    obtain ⟨k, hk1, hk2, rfl, rfl⟩ := hrel
    have cb := Cal.cum_bd y k (by omega) (by omega)
    have db' := Cal.dim_bd y k
    by_cases hlt : k < m
    · have cs : Hid (Cal.cum y (k + 1) = Cal.cum y k + Cal.dim y k) := Cal.cum_succ y k (by omega) (by omega)
      go_wp2_with (go_at_call 22; refine (specDim _ _ _ (by omega) (by omega) (by omega)).mono ?_; rintro e w' ⟨rfl, rfl⟩)
      go_round
      case rel => exact ⟨k + 1, by omega, by omega, rfl, by rw [cs.out]; go_num⟩
      case measure => simp [intOf]; omega
    · have hkm : k = m := by omega
      subst hkm
      by_cases hle : Cal.dby y + d - 1 + Cal.cum y k ≤ 3000000
      · have E : Hid (Cal.dby y + d - 1 + Cal.cum y k = R) := (HF.out _ (by omega)).1 hle
        clear HF
        go_wp2
        go_ret
        exact ⟨ret_int E.out, below_drewN HB.out _⟩
      · have hle' : 3000000 < Cal.dby y + d - 1 + Cal.cum y k := by omega
        have E : Hid (-1 = R) := (HF.out _ (by omega)).2 hle'
        clear HF
        go_wp2
        go_ret
        exact ⟨ret_int E.out, below_drewN HB.out _⟩

theorem implDayOf (y m d : Int) (w : World) (ht : Tab w) :
    Calls Tryd.prog 12 #[.agg #[.int .i64 y, .int .i64 m, .int .i64 d]] w fun e w' => e = .returned (.int .i64 (dayN y m d)) ∧ Below w.heap.size w w' := by
  unfold dayN
  cases h : dateB y m d with
  | true => exact implDayOf_yes y m d w ht h
  | false => exact implDayOf_no y m d w ht h
theorem specDayOf (y m d : Int) (w : World) :
    Calls Tryd.prog 11 #[.agg #[.int .i64 y, .int .i64 m, .int .i64 d]] w fun e w' => e = .returned (.int .i64 (dayN y m d)) ∧ Below w.heap.size w w' := by
  unfold dayN
  cases h : dateB y m d with
  | true => exact specDayOf_yes y m d w h
  | false => exact specDayOf_no y m d w h
end Go.Proofs.YtjdpaednagingaaDoor
