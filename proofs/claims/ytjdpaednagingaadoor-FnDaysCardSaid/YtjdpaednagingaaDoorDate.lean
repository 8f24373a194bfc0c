/- Contracts of DateOf, of the program and of the specification: the date of a day. Conditions: days from 0 to 3000001, the table of months as its text lays it. -/
import Derived.Test.YtjdpaednagingaaDoorDay
namespace Go.Proofs.YtjdpaednagingaaDoor
open Go.RowKit

/-- y, m, d is the date of a day. -/
def IsDate (day y m d : Int) : Prop := 1 ≤ y ∧ y ≤ 9998 ∧ 1 ≤ m ∧ m ≤ 12 ∧ 1 ≤ d ∧ d ≤ Cal.dim y m ∧ Cal.dby y + Cal.cum y m + d - 1 = day

theorem dby_9999 : Cal.dby 9999 = 3651694 := by decide +kernel

theorem IsDate.uniq {day y m d y' m' d' : Int} (h : IsDate day y m d) (k : IsDate day y' m' d') : y = y' ∧ m = m' ∧ d = d' := by
  obtain ⟨a1, a2, a3, a4, a5, a6, a7⟩ := h
  obtain ⟨b1, b2, b3, b4, b5, b6, b7⟩ := k
  have s1 := Cal.cum_succ y m a3 a4
  have s2 := Cal.cum_succ y' m' b3 b4
  have l1 := Cal.cum_mono y (m + 1) 13 (by omega) (by omega) (by omega)
  have l2 := Cal.cum_mono y' (m' + 1) 13 (by omega) (by omega) (by omega)
  rw [Cal.cum_13] at l1 l2
  have c1 := Cal.cum_bd y m (by omega) (by omega)
  have c2 := Cal.cum_bd y' m' (by omega) (by omega)
  have e1 := Cal.dby_succ y a1
  have e2 := Cal.dby_succ y' b1
  obtain rfl : y = y' := Cal.dby_uniq y y' day a1 b1 (by omega) (by omega) (by omega) (by omega)
  obtain rfl : m = m' := Cal.cum_uniq y m m' (day - Cal.dby y) a3 b3 a4 b4 (by omega) (by omega) (by omega) (by omega)
  exact ⟨rfl, rfl, by omega⟩

set_option maxHeartbeats 1000000 in
theorem specDate (day : Int) (w : World) (h1 : 0 ≤ day) (h2 : day ≤ 3000001) :
    Calls Tryd.prog 26 #[.int .i64 day] w fun e w' => ∃ y m d : Int, e = .returned (.agg #[.int .i64 y, .int .i64 m, .int .i64 d]) ∧ IsDate day y m d ∧ Below w.heap.size w w' := by
  have g0 := Cal.dby_guess day h1
  go_enter Tryd.func26, Tryd.ntmps26
  go_wp2
  go_loop [3] (fun t => ∃ y : Int, 1 ≤ y ∧ y ≤ 9998 ∧ Cal.dby y ≤ day ∧ t = .int .i64 y) (fun t => (9999 - intOf t).toNat)
  case atStart => exact ⟨_, by omega, by omega, g0, rfl⟩
  case round =>
    obtain ⟨y, hy1, hy2, hy3, rfl⟩ := hrel
    clear g0
    by_cases hc : Cal.dby (y + 1) ≤ day
    · have hlt : y < 9998 := by
        by_cases e : y = 9998
        · subst e
          have := dby_9999
          have e2 : Cal.dby (9998 + 1) = Cal.dby 9999 := rfl
          omega
        · omega
      go_wp2_with (go_at_call 24; refine (specYear _ _ (by omega) (by omega)).mono ?_; rintro e w' ⟨rfl, rfl⟩)
      go_round
      case rel => exact ⟨y + 1, by omega, by omega, hc, rfl⟩
      case measure => simp [intOf]; omega
    · have hb := Cal.dby_bd y hy1 (by omega)
      have hs := Cal.dby_succ y hy1
      have hl := Cal.lp_01 y
      have hs' : day < Cal.dby y + 365 + Cal.lp y := by omega
      have HS : Hid (day < Cal.dby y + 365 + Cal.lp y) := hs'
      have hc' : day < Cal.dby (y + 1) := by omega
      clear hc hs hs'
      go_wp2_with (go_at_call 24; refine (specYear _ _ (by omega) (by omega)).mono ?_; rintro e w' ⟨rfl, rfl⟩)
      go_loop [4, 5] (fun r k => ∃ m : Int, 1 ≤ m ∧ m ≤ 12 ∧ k = .int .i64 m ∧ 0 ≤ day - Cal.dby y - Cal.cum y m ∧ r = .int .i64 (day - Cal.dby y - Cal.cum y m)) (fun _ k => (12 - intOf k).toNat)
      case atStart => exact ⟨1, by omega, by omega, rfl, by rw [Cal.cum_one]; omega, by rw [Cal.cum_one]; simp⟩
      case round =>
        obtain ⟨m, hm1, hm2, rfl, hr, rfl⟩ := hrel
        have cb := Cal.cum_bd y m hm1 (by omega)
        have db := Cal.dim_bd y m
        have cs : Hid (Cal.cum y (m + 1) = Cal.cum y m + Cal.dim y m) := Cal.cum_succ y m hm1 hm2
        by_cases hd : Cal.dim y m ≤ day - Cal.dby y - Cal.cum y m
        · have hm : m < 12 := by
            by_cases e : m = 12
            · subst e
              have c13 : Cal.cum y (12 + 1) = 365 + Cal.lp y := Cal.cum_13 y
              have := cs.out
              have := HS.out
              omega
            · omega
          go_wp2_with (go_at_call 22; refine (specDim _ _ _ (by omega) (by omega) (by omega)).mono ?_; rintro e w' ⟨rfl, rfl⟩)
          go_round
          case rel => exact ⟨m + 1, by omega, by omega, rfl, by rw [cs.out]; omega, by rw [cs.out]; go_num⟩
          case measure => simp [intOf]; omega
        · go_wp2_with (go_at_call 22; refine (specDim _ _ _ (by omega) (by omega) (by omega)).mono ?_; rintro e w' ⟨rfl, rfl⟩)
          refine bodyPost_ret (v := .agg #[.int .i64 y, .int .i64 m, .int .i64 (day - Cal.dby y - Cal.cum y m + 1)]) (by simp [results, Tryd.results26, go_sem]) rfl ⟨y, m, _, rfl, ?_, ?_⟩
          · exact ⟨hy1, hy2, hm1, hm2, by omega, by omega, by omega⟩
          · exact (Below.refl _ _).alloc (Nat.le_refl _) _

set_option maxHeartbeats 1000000 in
theorem implDateOf_yes (day : Int) (w : World) (h1 : 0 ≤ day) (h2 : day ≤ 3000000) (ht : Tab w) :
    Calls Tryd.prog 14 #[.int .i64 day] w fun e w' => ∃ y m d : Int, e = .returned (.tuple #[.agg #[.int .i64 y, .int .i64 m, .int .i64 d], .bool true]) ∧ IsDate day y m d ∧ Below w.heap.size w w' := by
  have T0 : Hid (∀ o, Tab (w.alloc o)) := fun o => ht.alloc o
  clear ht
  have hb := inB_yes ⟨h1, h2⟩
  go_enter Tryd.func14, Tryd.ntmps14
  go_wp2_with (first | (go_at_call 27; refine (dayOk_any _ _).mono ?_; rintro e w' ⟨rfl, rfl⟩) | (go_at_call 28; refine (implYearAt _ _ (by omega) (by omega)).mono ?_; rintro e w' ⟨y, l, rfl, rfl, q1, q2, q3, q4⟩))
  have Q1 : Hid (Cal.dby y + l = day) := q1
  have hl := Cal.lp_01 y
  have hy2 : y ≤ 9998 := by
    by_cases e : 9999 ≤ y
    · have := Cal.dby_mono 9999 y (by omega) e
      have := dby_9999
      omega
    · omega
  clear q1
  go_loop [5, 6] (fun r k => ∃ m : Int, 1 ≤ m ∧ m ≤ 12 ∧ k = .int .i64 m ∧ 0 ≤ l - Cal.cum y m ∧ r = .int .i64 (l - Cal.cum y m)) (fun _ k => (12 - intOf k).toNat)
  case atStart => exact ⟨1, by omega, by omega, rfl, by rw [Cal.cum_one]; omega, by rw [Cal.cum_one]; simp⟩
  case round =>
    obtain ⟨m, hm1, hm2, rfl, hr, rfl⟩ := hrel
    have cb := Cal.cum_bd y m hm1 (by omega)
    have db := Cal.dim_bd y m
    have cs : Hid (Cal.cum y (m + 1) = Cal.cum y m + Cal.dim y m) := Cal.cum_succ y m hm1 hm2
    by_cases hd : Cal.dim y m ≤ l - Cal.cum y m
    · have hm : m < 12 := by
        by_cases e : m = 12
        · subst e
          have c13 : Cal.cum y (12 + 1) = 365 + Cal.lp y := Cal.cum_13 y
          have := cs.out
          omega
        · omega
      go_wp2_with (go_at_call 23; refine (implDim _ _ _ (by omega) (by omega) (by omega) (T0.out _)).mono ?_; rintro e w' ⟨rfl, rfl⟩)
      go_round
      case rel => exact ⟨m + 1, by omega, by omega, rfl, by rw [cs.out]; omega, by rw [cs.out]; go_num⟩
      case measure => simp [intOf]; omega
    · go_wp2_with (go_at_call 23; refine (implDim _ _ _ (by omega) (by omega) (by omega) (T0.out _)).mono ?_; rintro e w' ⟨rfl, rfl⟩)
      have := Q1.out
      refine bodyPost_ret (v := .tuple #[.agg #[.int .i64 y, .int .i64 m, .int .i64 (l - Cal.cum y m + 1)], .bool true]) (by simp [results, Tryd.results14, go_sem]) rfl ⟨y, m, _, rfl, ?_, ?_⟩
      · exact ⟨by omega, by omega, hm1, hm2, by omega, by omega, by omega⟩
      · exact (Below.refl _ _).alloc (Nat.le_refl _) _

theorem implDateOf_no (day : Int) (w : World) (h : ¬ (0 ≤ day ∧ day ≤ 3000000)) :
    Calls Tryd.prog 14 #[.int .i64 day] w fun e w' => e = .returned (.tuple #[.agg #[.int .i64 0, .int .i64 0, .int .i64 0], .bool false]) ∧ Below w.heap.size w w' := by
  have hb := inB_no h
  clear h
  go_enter Tryd.func14, Tryd.ntmps14
  go_wp2_with (go_at_call 27; refine (dayOk_any _ _).mono ?_; rintro e w' ⟨rfl, rfl⟩)
  exact bodyPost_ret (v := .tuple #[.agg #[.int .i64 0, .int .i64 0, .int .i64 0], .bool false]) (by simp [results, Tryd.results14, go_sem]) rfl ⟨rfl, (Below.refl _ _).alloc (Nat.le_refl _) _⟩

theorem specDateOf_no (day : Int) (w : World) (h : ¬ (0 ≤ day ∧ day ≤ 3000000)) :
    Calls Tryd.prog 13 #[.int .i64 day] w fun e w' => e = .returned (.tuple #[.agg #[.int .i64 0, .int .i64 0, .int .i64 0], .bool false]) ∧ Below w.heap.size w w' := by
  have hb := inB_no h
  clear h
  go_enter Tryd.func13, Tryd.ntmps13
  go_wp2_with (go_at_call 21; refine (l1In_any _ _ _ _).mono ?_; rintro e w' ⟨rfl, rfl⟩)
  exact bodyPost_ret (v := .tuple #[.agg #[.int .i64 0, .int .i64 0, .int .i64 0], .bool false]) (by simp [results, Tryd.results13, go_sem]) rfl ⟨rfl, (Below.refl _ _).alloc (Nat.le_refl _) _⟩

theorem specDateOf_yes (day : Int) (w : World) (h1 : 0 ≤ day) (h2 : day ≤ 3000000) :
    Calls Tryd.prog 13 #[.int .i64 day] w fun e w' => ∃ y m d : Int, e = .returned (.tuple #[.agg #[.int .i64 y, .int .i64 m, .int .i64 d], .bool true]) ∧ IsDate day y m d ∧ Below w.heap.size w w' := by
  have hb := inB_yes ⟨h1, h2⟩
  go_enter Tryd.func13, Tryd.ntmps13
  go_wp2_with (go_at_call 21; refine (l1In_any _ _ _ _).mono ?_; rintro e w' ⟨rfl, rfl⟩)
  refine (specDate _ _ (by omega) (by omega)).mono ?_
  rintro e w1 ⟨y, m, d, rfl, hd, hb1⟩
  have hc1 : ∀ o, w1.cell? ⟨w.heap.size, o, none⟩ = (w.alloc (.cells #[.int .i64 0, .int .i64 0, .int .i64 0] 25)).cell? ⟨w.heap.size, o, none⟩ := fun o => hb1.cell (p := ⟨w.heap.size, o, none⟩) (by simp)
  have hf1 : ∀ o, w1.frozen? ⟨w.heap.size, o, none⟩ = (w.alloc (.cells #[.int .i64 0, .int .i64 0, .int .i64 0] 25)).frozen? ⟨w.heap.size, o, none⟩ := fun o => hb1.frozen (p := ⟨w.heap.size, o, none⟩) (by simp)
  have hz : w.heap.size < w1.heap.size := by have := hb1.size; simp at this; omega
  have HD : Hid (IsDate day y m d) := hd
  have HB : Hid (Below w.heap.size w w1) := ((Below.refl _ _).alloc (Nat.le_refl _) _).trans (hb1.mono (by simp))
  clear hd hb1
  go_wp2
  refine bodyPost_ret (v := .tuple #[.agg #[.int .i64 y, .int .i64 m, .int .i64 d], .bool true]) (by simp [results, Tryd.results13, go_sem, hc1]) rfl ⟨y, m, d, rfl, HD.out, ?_⟩
  exact ((HB.out.setCell (p := ⟨w.heap.size, 0, none⟩) (Nat.le_refl _) _).setCell (p := ⟨w.heap.size, 1, none⟩) (Nat.le_refl _) _).setCell (p := ⟨w.heap.size, 2, none⟩) (Nat.le_refl _) _
end Go.Proofs.YtjdpaednagingaaDoor
