/- The laws FnExactDateOf and FnExactMonthEnd return true, whatever the day. Condition: the table of months as its text lays it. -/
import Derived.Test.YtjdpaednagingaaDoorLawOk
import Derived.Test.YtjdpaednagingaaDoorDate
namespace Go.Proofs.YtjdpaednagingaaDoor
open Go.RowKit

theorem eqDate_same (y m d : Int) (w : World) :
    Calls Tryd.prog 15 #[.agg #[.int .i64 y, .int .i64 m, .int .i64 d], .agg #[.int .i64 y, .int .i64 m, .int .i64 d]] w fun e w' => e = .returned (.bool true) ∧ Below w.heap.size w w' := by
  go_enter Tryd.func15, Tryd.ntmps15
  go_wp2
  go_ret
  exact ⟨rfl, ((Below.refl _ _).alloc (Nat.le_refl _) _).alloc (by simp) _⟩

/-- One answer for both: the date of a day and whether there is one. -/
theorem specDateOf (day : Int) (w : World) :
    Calls Tryd.prog 13 #[.int .i64 day] w fun e w' => ∃ y m d : Int, e = .returned (.tuple #[.agg #[.int .i64 y, .int .i64 m, .int .i64 d], .bool (inB day 0 3000000)]) ∧ (0 ≤ day ∧ day ≤ 3000000 → IsDate day y m d) ∧ (¬ (0 ≤ day ∧ day ≤ 3000000) → y = 0 ∧ m = 0 ∧ d = 0) ∧ Below w.heap.size w w' := by
  by_cases h : 0 ≤ day ∧ day ≤ 3000000
  · rw [inB_yes h]
    exact (specDateOf_yes day w h.1 h.2).mono fun e w' ⟨y, m, d, he, hd, hb⟩ => ⟨y, m, d, he, fun _ => hd, fun hn => absurd h hn, hb⟩
  · rw [inB_no h]
    exact (specDateOf_no day w h).mono fun e w' ⟨he, hb⟩ => ⟨0, 0, 0, he, fun hn => absurd hn h, fun _ => ⟨rfl, rfl, rfl⟩, hb⟩
theorem implDateOf (day : Int) (w : World) (ht : Tab w) :
    Calls Tryd.prog 14 #[.int .i64 day] w fun e w' => ∃ y m d : Int, e = .returned (.tuple #[.agg #[.int .i64 y, .int .i64 m, .int .i64 d], .bool (inB day 0 3000000)]) ∧ (0 ≤ day ∧ day ≤ 3000000 → IsDate day y m d) ∧ (¬ (0 ≤ day ∧ day ≤ 3000000) → y = 0 ∧ m = 0 ∧ d = 0) ∧ Below w.heap.size w w' := by
  by_cases h : 0 ≤ day ∧ day ≤ 3000000
  · rw [inB_yes h]
    exact (implDateOf_yes day w h.1 h.2 ht).mono fun e w' ⟨y, m, d, he, hd, hb⟩ => ⟨y, m, d, he, fun _ => hd, fun hn => absurd h hn, hb⟩
  · rw [inB_no h]
    exact (implDateOf_no day w h).mono fun e w' ⟨he, hb⟩ => ⟨0, 0, 0, he, fun hn => absurd hn h, fun _ => ⟨rfl, rfl, rfl⟩, hb⟩
theorem same_date {day y m d y' m' d' : Int} (a : 0 ≤ day ∧ day ≤ 3000000 → IsDate day y m d) (b : ¬ (0 ≤ day ∧ day ≤ 3000000) → y = 0 ∧ m = 0 ∧ d = 0)
    (a' : 0 ≤ day ∧ day ≤ 3000000 → IsDate day y' m' d') (b' : ¬ (0 ≤ day ∧ day ≤ 3000000) → y' = 0 ∧ m' = 0 ∧ d' = 0) : y = y' ∧ m = m' ∧ d = d' := by
  by_cases h : 0 ≤ day ∧ day ≤ 3000000
  · exact (a h).uniq (a' h)
  · obtain ⟨rfl, rfl, rfl⟩ := b h
    obtain ⟨rfl, rfl, rfl⟩ := b' h
    exact ⟨rfl, rfl, rfl⟩

set_option maxHeartbeats 400000 in
theorem lawDateOf (day : Int) (w : World) (ht : Tab w) :
    Calls Tryd.prog 5 #[.int .i64 day] w fun e w' => e = .returned (.bool true) ∧ Below w.heap.size w w' := by
  have T0 : Hid (Tab w) := ht
  clear ht
  go_enter Tryd.func5, Tryd.ntmps5
  go_wp2_with fail
  refine (specDateOf _ _).mono ?_
  rintro e w1 ⟨y, m, d, rfl, a1, a2, hb1⟩
  have T1 : Hid (Tab w1) := T0.out.below hb1 T0.out.1
  have A1 : Hid (0 ≤ day ∧ day ≤ 3000000 → IsDate day y m d) := a1
  have A2 : Hid (¬ (0 ≤ day ∧ day ≤ 3000000) → y = 0 ∧ m = 0 ∧ d = 0) := a2
  have B1 : Hid (Below w.heap.size w w1) := hb1
  clear a1 a2 hb1
  go_wp2_with fail
  refine (implDateOf _ _ ?_).mono ?_
  · exact T1.out.alloc _
  rintro e w2 ⟨y', m', d', rfl, a1', a2', hb2⟩
  obtain ⟨rfl, rfl, rfl⟩ := same_date A1.out A2.out a1' a2'
  clear a1' a2' A1 A2
  have hc2 : ∀ o, w2.cell? ⟨w1.heap.size, o, none⟩ = (w1.alloc (.cells #[.int .i64 y, .int .i64 m, .int .i64 d] 25)).cell? ⟨w1.heap.size, o, none⟩ := fun o => hb2.cell (p := ⟨w1.heap.size, o, none⟩) (by simp)
  have hz2 : w1.heap.size < w2.heap.size := by have := hb2.size; simp at this; omega
  have B2 : Hid (Below w.heap.size w w2) := B1.out.trans ((((Below.refl _ _).alloc (Nat.le_refl _) _).trans (hb2.mono (by simp))).mono B1.out.size)
  clear hb2 B1
  go_wp2_with fail
  refine (eqDate_same _ _ _ _).mono ?_
  rintro e w3 ⟨rfl, hb3⟩
  go_wp2
  go_ret
  exact ⟨rfl, B2.out.trans ((((Below.refl _ _).alloc (Nat.le_refl _) _).trans (hb3.mono (by simp))).mono B2.out.size)⟩

/-- The last of a month: the day behind it is a first one. -/
theorem last_iff {day y m d y' m' d' : Int} (a : IsDate day y m d) (b : IsDate (day + 1) y' m' d') : (d' = 1) ↔ (d = Cal.dim y m) := by
  obtain ⟨a1, a2, a3, a4, a5, a6, a7⟩ := a
  by_cases h : d = Cal.dim y m
  · refine ⟨fun _ => h, fun _ => ?_⟩
    by_cases hm : m = 12
    · subst hm
      have s := Cal.cum_succ y 12 (by omega) (by omega)
      have c13 : Cal.cum y (12 + 1) = 365 + Cal.lp y := Cal.cum_13 y
      have e := Cal.dby_succ y a1
      have hy : y ≤ 9997 := by
        by_cases e8 : y = 9998
        · obtain ⟨b1, b2, b3, b4, b5, b6, b7⟩ := b
          have c1 := Cal.cum_bd y' m' (by omega) (by omega)
          have mo := Cal.dby_mono y' 9998 (by omega) (by omega)
          have su := Cal.cum_succ y' m' b3 b4
          have l2 := Cal.cum_mono y' (m' + 1) 13 (by omega) (by omega) (by omega)
          rw [Cal.cum_13] at l2
          have e2 := Cal.dby_succ y' b1
          have m2 := Cal.dby_mono (y' + 1) 9999 (by omega) (by omega)
          have n9 := dby_9999
          subst e8
          have e3 : Cal.dby (9998 + 1) = Cal.dby 9999 := rfl
          omega
        · omega
      have k : IsDate (day + 1) (y + 1) 1 1 := ⟨by omega, by omega, by omega, by omega, by omega, by have := Cal.dim_bd (y + 1) 1; omega, by rw [Cal.cum_one]; omega⟩
      exact (b.uniq k).2.2
    · have s := Cal.cum_succ y m a3 a4
      have k : IsDate (day + 1) y (m + 1) 1 := ⟨a1, a2, by omega, by omega, by omega, by have := Cal.dim_bd y (m + 1); omega, by omega⟩
      exact (b.uniq k).2.2
  · refine ⟨fun h1 => ?_, fun h2 => absurd h2 h⟩
    have k : IsDate (day + 1) y m (d + 1) := ⟨a1, a2, a3, a4, by omega, by omega, by omega⟩
    have := (b.uniq k).2.2
    omega

/-- A day is the last of its month. -/
def LastOf (day : Int) : Prop := 0 ≤ day ∧ day ≤ 3000000 ∧ ∀ y m d, IsDate day y m d → d = Cal.dim y m
theorem last_of {day y m d : Int} (h1 : 0 ≤ day) (h2 : day ≤ 3000000) (h : IsDate day y m d) : LastOf day ↔ d = Cal.dim y m := by
  refine ⟨fun k => k.2.2 y m d h, fun k => ⟨h1, h2, fun y' m' d' h' => ?_⟩⟩
  obtain ⟨rfl, rfl, rfl⟩ := h.uniq h'
  exact k

theorem field2 (y m d : Int) (w : World) : (Instr.field 25 (.agg #[.int .i64 y, .int .i64 m, .int .i64 d]) 2).run Tryd.prog w = .ok (.int .i64 d) w := by kernel_rfl

set_option maxHeartbeats 400000 in
theorem specMonthEnd (day : Int) (w : World) :
    Calls Tryd.prog 16 #[.int .i64 day] w fun e w' => ∃ b : Bool, e = .returned (.bool b) ∧ (b = true ↔ LastOf day) ∧ Below w.heap.size w w' := by
  by_cases h : 0 ≤ day ∧ day ≤ 3000000
  · obtain ⟨h1, h2⟩ := h
    go_enter Tryd.func16, Tryd.ntmps16
    go_wp2_with (go_at_call 21; refine (l1In_yes _ _ _ _ (by omega)).mono ?_; rintro e w' ⟨rfl, rfl⟩)
    refine (specDate _ _ (by omega) (by omega)).mono ?_
    rintro e w1 ⟨y', m', d', rfl, hd', hb1⟩
    have HD : Hid (IsDate (day + 1) y' m' d') := hd'
    clear hd'
    have hf2 := field2 y' m' d'
    go_wp2
    go_ret
    refine ⟨_, rfl, ?_, hb1⟩
    have hd' := HD.out
    obtain ⟨a1, a2, a3, a4, a5, a6, a7⟩ := hd'
    have ex : ∃ y m d, IsDate day y m d := by
      by_cases hd1 : d' = 1
      · by_cases hm1 : m' = 1
        · subst hm1
          rw [Cal.cum_one] at a7
          have hy : 1 < y' := by
            by_cases e : y' = 1
            · subst e
              have : Cal.dby 1 = 0 := by decide
              omega
            · omega
          have e := Cal.dby_succ (y' - 1) (by omega)
          have s := Cal.cum_succ (y' - 1) 12 (by omega) (by omega)
          have c13 : Cal.cum (y' - 1) (12 + 1) = 365 + Cal.lp (y' - 1) := Cal.cum_13 _
          have ee : y' - 1 + 1 = y' := by omega
          rw [ee] at e
          have b := Cal.dim_bd (y' - 1) 12
          exact ⟨y' - 1, 12, Cal.dim (y' - 1) 12, by omega, by omega, by omega, by omega, by omega, by omega, by omega⟩
        · have s := Cal.cum_succ y' (m' - 1) (by omega) (by omega)
          have ee : m' - 1 + 1 = m' := by omega
          rw [ee] at s
          have b := Cal.dim_bd y' (m' - 1)
          exact ⟨y', m' - 1, Cal.dim y' (m' - 1), by omega, by omega, by omega, by omega, by omega, by omega, by omega⟩
      · exact ⟨y', m', d' - 1, by omega, by omega, by omega, by omega, by omega, by omega, by omega⟩
    obtain ⟨y, m, d, hd⟩ := ex
    rw [last_of h1 h2 hd, ← last_iff hd HD.out]
    simp
  · have hn : ¬ LastOf day := fun k => h ⟨k.1, k.2.1⟩
    go_enter Tryd.func16, Tryd.ntmps16
    go_wp2_with (go_at_call 21; refine (l1In_no _ _ _ _ (by omega)).mono ?_; rintro e w' ⟨rfl, rfl⟩)
    go_ret
    exact ⟨_, rfl, by simp [hn], Below.refl _ _⟩

set_option maxHeartbeats 400000 in
theorem implMonthEnd (day : Int) (w : World) (ht : Tab w) :
    Calls Tryd.prog 17 #[.int .i64 day] w fun e w' => ∃ b : Bool, e = .returned (.bool b) ∧ (b = true ↔ LastOf day) ∧ Below w.heap.size w w' := by
  have T0 : Hid (Tab w) := ht
  clear ht
  by_cases h : 0 ≤ day ∧ day ≤ 3000000
  · obtain ⟨h1, h2⟩ := h
    go_enter Tryd.func17, Tryd.ntmps17
    go_wp2_with fail
    refine (implDateOf_yes _ _ (by omega) (by omega) T0.out).mono ?_
    rintro e w1 ⟨y, m, d, rfl, hd, hb1⟩
    have HD : Hid (IsDate day y m d) := hd
    obtain ⟨a1, a2, a3, a4, a5, a6, a7⟩ := hd
    have T1 : Hid (∀ o, Tab (w1.alloc o)) := fun o => (T0.out.below hb1 T0.out.1).alloc o
    have B1 : Hid (Below w.heap.size w w1) := hb1
    clear hb1 a7
    go_wp2
    go_quiet ((go_at_call 23; exact Calls.quiet_of_same (implDim _ _ _ (by omega) (by omega) (by omega) ((T1.out _).drewN _))))
    go_wp2
    go_ret
    refine ⟨_, rfl, ?_, below_drewN (B1.out.trans (((Below.refl _ _).alloc (Nat.le_refl _) _).mono B1.out.size)) _⟩
    rw [last_of h1 h2 HD.out]
    simp
  · have hn : ¬ LastOf day := fun k => h ⟨k.1, k.2.1⟩
    go_enter Tryd.func17, Tryd.ntmps17
    go_wp2_with fail
    refine (implDateOf_no _ _ h).mono ?_
    rintro e w1 ⟨rfl, hb1⟩
    have B1 : Hid (Below w.heap.size w w1) := hb1
    clear hb1
    go_wp2
    go_quiet (fail)
    go_wp2
    go_ret
    exact ⟨_, rfl, by simp [hn], below_drewN (B1.out.trans (((Below.refl _ _).alloc (Nat.le_refl _) _).mono B1.out.size)) _⟩

theorem lawMonthEnd (day : Int) (w : World) (ht : Tab w) :
    Calls Tryd.prog 6 #[.int .i64 day] w fun e w' => e = .returned (.bool true) ∧ Below w.heap.size w w' := by
  have T0 : Hid (Tab w) := ht
  clear ht
  go_enter Tryd.func6, Tryd.ntmps6
  go_wp2_with fail
  refine (specMonthEnd _ _).mono ?_
  rintro e w1 ⟨b1, rfl, i1, hb1⟩
  have I1 : Hid (b1 = true ↔ LastOf day) := i1
  have T1 : Hid (Tab w1) := T0.out.below hb1 T0.out.1
  clear i1
  go_wp2_with fail
  refine (implMonthEnd _ _ T1.out).mono ?_
  rintro e w2 ⟨b2, rfl, i2, hb2⟩
  obtain rfl : b1 = b2 := by
    rw [Bool.eq_iff_iff]
    exact I1.out.trans i2.symm
  clear i2 I1
  go_wp2
  go_ret
  exact ⟨rfl, hb1.trans (hb2.mono hb1.size)⟩
end Go.Proofs.YtjdpaednagingaaDoor
