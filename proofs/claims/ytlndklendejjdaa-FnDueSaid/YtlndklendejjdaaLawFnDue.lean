/- The law FnDue returns true, whatever the bytes. Conditions: the bytes lie in memory. -/
import Derived.Test.YtlndklendejjdaaDueM
import Derived.Test.YtlndklendejjdaaOver
namespace Go.Proofs.Ytlndklendejjdaa
open Go.RowKit

set_option maxRecDepth 8000 in
set_option maxHeartbeats 8000000 in
theorem lawDue (a : Option Addr) (len cap : Nat) (w : World) (h : Code w a len) :
    Calls Try.prog 10 #[.slice a len cap] w fun e w' => e = .returned (.bool true) ∧ Below w.heap.size w w' := by
  have H : Hid (Code w a len) := h
  clear h
  by_cases hb : len ≤ 1048576
  rotate_left
  · go_enter Try.func10, Try.ntmps10
    go_wp2_with fail
    refine (big_yes a len cap _ (by omega)).mono ?_
    rintro e w1 ⟨rfl, hw⟩
    subst w1
    go_wp2
    go_ret
    exact ⟨rfl, Below.refl _ _⟩
  go_enter Try.func10, Try.ntmps10
  go_wp2_with fail
  refine (big_no a len cap _ hb).mono ?_
  rintro e w1 ⟨rfl, hw⟩
  subst w1
  go_wp2_with fail
  refine (drawIsDue a len cap _ H.out).mono ?_
  rintro e w1 ⟨o, d, rfl, B1⟩
  have X1 : Hid (OrdBox (w1.alloc (.cells #[.int .i64 o.id, .int .i64 o.src, .int .i64 o.dst, .int .i64 o.amount, .int .i64 o.first, .int .i64 o.every, .int .i64 o.times] 25)) w1.heap.size o ∧ Below w.heap.size w (w1.alloc (.cells #[.int .i64 o.id, .int .i64 o.src, .int .i64 o.dst, .int .i64 o.amount, .int .i64 o.first, .int .i64 o.every, .int .i64 o.times] 25))) := ⟨OrdBox.new w1 o 25, B1.alloc B1.size _⟩
  clear B1 H
  obtain ⟨v, hv⟩ : ∃ v, v = nextDue o d := ⟨_, rfl⟩
  have CI : Hid (∀ u : World, Calls Try.prog 28 #[.agg #[.int .i64 o.id, .int .i64 o.src, .int .i64 o.dst, .int .i64 o.amount, .int .i64 o.first, .int .i64 o.every, .int .i64 o.times], .int .i64 d] u fun e w' => e = .returned (.int .i64 v) ∧ Below u.heap.size u w') := fun u => by rw [hv]; exact implNext o d u
  have CN : Hid (∀ u : World, Calls Try.prog 27 #[.agg #[.int .i64 o.id, .int .i64 o.src, .int .i64 o.dst, .int .i64 o.amount, .int .i64 o.first, .int .i64 o.every, .int .i64 o.times], .int .i64 d] u fun e w' => e = .returned (.int .i64 v) ∧ Below u.heap.size u w') := fun u => by rw [hv]; exact specNext o d u
  have ev : (v != v) = false := by simp
  have ev2 : (v == v) = true := by simp
  by_cases ho : ordOk o
  rotate_left
  · have HI : Hid (¬ isDue o d) := fun h => ho (isDue_ok h)
    have HO : Hid (¬ ordOk o) := ho
    clear ho hv
    go_wp2_with fail
    refine (implIs_no o d _ HI.out).mono ?_
    rintro e w2 ⟨rfl, B2⟩
    have X2 : Hid (OrdBox w2 w1.heap.size o ∧ Below w.heap.size w w2) := ⟨X1.out.1.below B2, X1.out.2.trans (B2.mono X1.out.2.size)⟩
    clear X1 B2
    obtain ⟨c0, c1, c2, c3, c4, c5, c6, _⟩ := X2.out.1
    go_wp2_with fail
    refine (CI.out _).mono ?_
    rintro e w3 ⟨rfl, B3⟩
    have X3 : Hid (OrdBox w3 w1.heap.size o ∧ Below w.heap.size w w3) := ⟨X2.out.1.below B3, X2.out.2.trans (B3.mono X2.out.2.size)⟩
    clear X2 B3 c0 c1 c2 c3 c4 c5 c6
    obtain ⟨c0, c1, c2, c3, c4, c5, c6, hz⟩ := X3.out.1
    have hov : ∀ u q, (over w3 u).cell? ⟨w1.heap.size, q, none⟩ = w3.cell? ⟨w1.heap.size, q, none⟩ := fun u q => (below_over w3 u).cell (p := ⟨w1.heap.size, q, none⟩) hz
    go_wp2
    refine wp_region_over (by kernel_rfl) (by kernel_rfl) ?_
    repeat (go_big_quiet_step ((first | (go_at_call 21; exact Calls.over_of (specIs_no o d _ HI.out)) | (go_at_call 27; exact Calls.over_of (CN.out _)) | (go_at_call 15; exact Calls.over_of (implOrd_no o _ HO.out)) | (go_at_call 13; exact Calls.over_of (specOrd_no o _ HO.out)))))
    refine wpQuiet_nil ?_
    intro _ hw'
    obtain ⟨vq, hw''⟩ := hw'
    subst hw''
    have XV : Hid (OrdBox (over w3 vq) w1.heap.size o ∧ Below w.heap.size w (over w3 vq)) := ⟨X3.out.1.below (below_over w3 vq), X3.out.2.trans ((below_over w3 vq).mono X3.out.2.size)⟩
    clear X3 c0 c1 c2 c3 c4 c5 c6 hov
    obtain ⟨c0, c1, c2, c3, c4, c5, c6, _⟩ := XV.out.1
    go_wp2_with fail
    refine (specIs_no o d _ HI.out).mono ?_
    rintro e w5 ⟨rfl, B5⟩
    have X5 : Hid (OrdBox w5 w1.heap.size o ∧ Below w.heap.size w w5) := ⟨XV.out.1.below B5, XV.out.2.trans (B5.mono XV.out.2.size)⟩
    clear XV B5 c0 c1 c2 c3 c4 c5 c6
    obtain ⟨c0, c1, c2, c3, c4, c5, c6, _⟩ := X5.out.1
    go_wp2_with fail
    refine (CN.out _).mono ?_
    rintro e w6 ⟨rfl, B6⟩
    have X6 : Hid (Below w.heap.size w w6) := X5.out.2.trans (B6.mono X5.out.2.size)
    clear X5 B6 c0 c1 c2 c3 c4 c5 c6
    go_wp2
    go_ret
    exact ⟨rfl, X6.out⟩
  have HO : Hid (ordOk o) := ho
  clear ho
  by_cases d1 : 0 ≤ d
  rotate_left
  · have HI : Hid (¬ isDue o d) := fun h => d1 h.1.1
    have d1' : d < 0 := by omega
    have d1b : decide (d < 0) = true := decide_eq_true d1'
    clear hv
    go_wp2_with fail
    refine (implIs_no o d _ HI.out).mono ?_
    rintro e w2 ⟨rfl, B2⟩
    have X2 : Hid (OrdBox w2 w1.heap.size o ∧ Below w.heap.size w w2) := ⟨X1.out.1.below B2, X1.out.2.trans (B2.mono X1.out.2.size)⟩
    clear X1 B2
    obtain ⟨c0, c1, c2, c3, c4, c5, c6, _⟩ := X2.out.1
    go_wp2_with fail
    refine (CI.out _).mono ?_
    rintro e w3 ⟨rfl, B3⟩
    have X3 : Hid (OrdBox w3 w1.heap.size o ∧ Below w.heap.size w w3) := ⟨X2.out.1.below B3, X2.out.2.trans (B3.mono X2.out.2.size)⟩
    clear X2 B3 c0 c1 c2 c3 c4 c5 c6
    obtain ⟨c0, c1, c2, c3, c4, c5, c6, hz⟩ := X3.out.1
    have hov : ∀ u q, (over w3 u).cell? ⟨w1.heap.size, q, none⟩ = w3.cell? ⟨w1.heap.size, q, none⟩ := fun u q => (below_over w3 u).cell (p := ⟨w1.heap.size, q, none⟩) hz
    go_wp2
    refine wp_region_over (by kernel_rfl) (by kernel_rfl) ?_
    repeat (go_big_quiet_step ((first | (go_at_call 21; exact Calls.over_of (specIs_no o d _ HI.out)) | (go_at_call 27; exact Calls.over_of (CN.out _)) | (go_at_call 15; exact Calls.over_of (implOrd_yes o _ HO.out)) | (go_at_call 13; exact Calls.over_of (specOrd_yes o _ HO.out)))))
    refine wpQuiet_nil ?_
    intro _ hw'
    obtain ⟨vq, hw''⟩ := hw'
    subst hw''
    have XV : Hid (OrdBox (over w3 vq) w1.heap.size o ∧ Below w.heap.size w (over w3 vq)) := ⟨X3.out.1.below (below_over w3 vq), X3.out.2.trans ((below_over w3 vq).mono X3.out.2.size)⟩
    clear X3 c0 c1 c2 c3 c4 c5 c6 hov
    obtain ⟨c0, c1, c2, c3, c4, c5, c6, _⟩ := XV.out.1
    go_wp2_with fail
    refine (specIs_no o d _ HI.out).mono ?_
    rintro e w5 ⟨rfl, B5⟩
    have X5 : Hid (OrdBox w5 w1.heap.size o ∧ Below w.heap.size w w5) := ⟨XV.out.1.below B5, XV.out.2.trans (B5.mono XV.out.2.size)⟩
    clear XV B5 c0 c1 c2 c3 c4 c5 c6
    obtain ⟨c0, c1, c2, c3, c4, c5, c6, _⟩ := X5.out.1
    go_wp2_with fail
    refine (CN.out _).mono ?_
    rintro e w6 ⟨rfl, B6⟩
    have X6 : Hid (Below w.heap.size w w6) := X5.out.2.trans (B6.mono X5.out.2.size)
    clear X5 B6 c0 c1 c2 c3 c4 c5 c6
    go_wp2
    go_ret
    exact ⟨rfl, X6.out⟩
  by_cases d2 : d ≤ 3000000
  rotate_left
  · have HI : Hid (¬ isDue o d) := fun h => d2 h.1.2
    have d2' : 3000000 < d := by omega
    have d2b : decide (3000000 < d) = true := decide_eq_true d2'
    have d1b : decide (d < 0) = false := decide_eq_false (by omega)
    clear hv
    go_wp2_with fail
    refine (implIs_no o d _ HI.out).mono ?_
    rintro e w2 ⟨rfl, B2⟩
    have X2 : Hid (OrdBox w2 w1.heap.size o ∧ Below w.heap.size w w2) := ⟨X1.out.1.below B2, X1.out.2.trans (B2.mono X1.out.2.size)⟩
    clear X1 B2
    obtain ⟨c0, c1, c2, c3, c4, c5, c6, _⟩ := X2.out.1
    go_wp2_with fail
    refine (CI.out _).mono ?_
    rintro e w3 ⟨rfl, B3⟩
    have X3 : Hid (OrdBox w3 w1.heap.size o ∧ Below w.heap.size w w3) := ⟨X2.out.1.below B3, X2.out.2.trans (B3.mono X2.out.2.size)⟩
    clear X2 B3 c0 c1 c2 c3 c4 c5 c6
    obtain ⟨c0, c1, c2, c3, c4, c5, c6, hz⟩ := X3.out.1
    have hov : ∀ u q, (over w3 u).cell? ⟨w1.heap.size, q, none⟩ = w3.cell? ⟨w1.heap.size, q, none⟩ := fun u q => (below_over w3 u).cell (p := ⟨w1.heap.size, q, none⟩) hz
    go_wp2
    refine wp_region_over (by kernel_rfl) (by kernel_rfl) ?_
    repeat (go_big_quiet_step ((first | (go_at_call 21; exact Calls.over_of (specIs_no o d _ HI.out)) | (go_at_call 27; exact Calls.over_of (CN.out _)) | (go_at_call 15; exact Calls.over_of (implOrd_yes o _ HO.out)) | (go_at_call 13; exact Calls.over_of (specOrd_yes o _ HO.out)))))
    refine wpQuiet_nil ?_
    intro _ hw'
    obtain ⟨vq, hw''⟩ := hw'
    subst hw''
    have XV : Hid (OrdBox (over w3 vq) w1.heap.size o ∧ Below w.heap.size w (over w3 vq)) := ⟨X3.out.1.below (below_over w3 vq), X3.out.2.trans ((below_over w3 vq).mono X3.out.2.size)⟩
    clear X3 c0 c1 c2 c3 c4 c5 c6 hov
    obtain ⟨c0, c1, c2, c3, c4, c5, c6, _⟩ := XV.out.1
    go_wp2_with fail
    refine (specIs_no o d _ HI.out).mono ?_
    rintro e w5 ⟨rfl, B5⟩
    have X5 : Hid (OrdBox w5 w1.heap.size o ∧ Below w.heap.size w w5) := ⟨XV.out.1.below B5, XV.out.2.trans (B5.mono XV.out.2.size)⟩
    clear XV B5 c0 c1 c2 c3 c4 c5 c6
    obtain ⟨c0, c1, c2, c3, c4, c5, c6, _⟩ := X5.out.1
    go_wp2_with fail
    refine (CN.out _).mono ?_
    rintro e w6 ⟨rfl, B6⟩
    have X6 : Hid (Below w.heap.size w w6) := X5.out.2.trans (B6.mono X5.out.2.size)
    clear X5 B6 c0 c1 c2 c3 c4 c5 c6
    go_wp2
    go_ret
    exact ⟨rfl, X6.out⟩
  have d1b : decide (d < 0) = false := decide_eq_false (by omega)
  have d2b : decide (3000000 < d) = false := decide_eq_false (by omega)
  by_cases hi : isDue o d
  · have HI : Hid (isDue o d) := hi
    clear hi
    have vd : v = d := by rw [hv]; exact HI.out.2
    clear hv
    subst v
    go_wp2_with fail
    refine (implIs_yes o d _ HI.out).mono ?_
    rintro e w2 ⟨rfl, B2⟩
    have X2 : Hid (OrdBox w2 w1.heap.size o ∧ Below w.heap.size w w2) := ⟨X1.out.1.below B2, X1.out.2.trans (B2.mono X1.out.2.size)⟩
    clear X1 B2
    obtain ⟨c0, c1, c2, c3, c4, c5, c6, _⟩ := X2.out.1
    go_wp2_with fail
    refine (CI.out _).mono ?_
    rintro e w3 ⟨rfl, B3⟩
    have X3 : Hid (OrdBox w3 w1.heap.size o ∧ Below w.heap.size w w3) := ⟨X2.out.1.below B3, X2.out.2.trans (B3.mono X2.out.2.size)⟩
    clear X2 B3 c0 c1 c2 c3 c4 c5 c6
    obtain ⟨c0, c1, c2, c3, c4, c5, c6, hz⟩ := X3.out.1
    have hov : ∀ u q, (over w3 u).cell? ⟨w1.heap.size, q, none⟩ = w3.cell? ⟨w1.heap.size, q, none⟩ := fun u q => (below_over w3 u).cell (p := ⟨w1.heap.size, q, none⟩) hz
    go_wp2
    refine wp_region_over (by kernel_rfl) (by kernel_rfl) ?_
    repeat (go_big_quiet_step ((first | (go_at_call 21; exact Calls.over_of (specIs_yes o d _ HI.out)) | (go_at_call 27; exact Calls.over_of (CN.out _)) | (go_at_call 15; exact Calls.over_of (implOrd_yes o _ HO.out)) | (go_at_call 13; exact Calls.over_of (specOrd_yes o _ HO.out)))))
    refine wpQuiet_nil ?_
    intro _ hw'
    obtain ⟨vq, hw''⟩ := hw'
    subst hw''
    have XV : Hid (OrdBox (over w3 vq) w1.heap.size o ∧ Below w.heap.size w (over w3 vq)) := ⟨X3.out.1.below (below_over w3 vq), X3.out.2.trans ((below_over w3 vq).mono X3.out.2.size)⟩
    clear X3 c0 c1 c2 c3 c4 c5 c6 hov
    obtain ⟨c0, c1, c2, c3, c4, c5, c6, _⟩ := XV.out.1
    go_wp2_with fail
    refine (implIs_yes o d _ HI.out).mono ?_
    rintro e w7 ⟨rfl, B7⟩
    have XZ : Hid (OrdBox w7 w1.heap.size o ∧ Below w.heap.size w w7) := ⟨XV.out.1.below B7, XV.out.2.trans (B7.mono XV.out.2.size)⟩
    clear XV B7 c0 c1 c2 c3 c4 c5 c6
    obtain ⟨c0, c1, c2, c3, c4, c5, c6, _⟩ := XZ.out.1
    by_cases ht : 20 < o.times
    · go_wp2
      go_ret
      exact ⟨rfl, XZ.out.2⟩
    by_cases hf : 2992680 < o.first
    · go_wp2
      go_ret
      exact ⟨rfl, XZ.out.2⟩
    have HS : Hid (∀ j : Nat, (j : Int) < o.times → ((j : Int) + 1 < o.times → nextDue o (o.first + (j : Int) * o.every + 1) = o.first + ((j : Int) + 1) * o.every) ∧ ((j : Int) + 1 = o.times → nextDue o (o.first + (j : Int) * o.every + 1) = -1)) := fun j hj => nextDue_step HO.out (by omega) (by omega) hj
    have N0 : Hid (nextDue o 0 = o.first) := nextDue_zero HO.out
    obtain ⟨_, _, _, _, _, ⟨f1, f2⟩, ⟨e1, e2⟩, t1, t2⟩ := HO.out
    go_wp2_with fail
    refine (implNext o 0 _).mono ?_
    rw [N0.out]
    rintro e w8 ⟨rfl, B8⟩
    have X8 : Hid (OrdBox w8 w1.heap.size o ∧ Below w.heap.size w w8) := ⟨XZ.out.1.below B8, XZ.out.2.trans (B8.mono XZ.out.2.size)⟩
    clear XZ B8 c0 c1 c2 c3 c4 c5 c6
    go_wp2
    go_loopw [7, 8] (fun m t wr => ∃ (j : Nat) (x : Int), m = .int .i64 j ∧ t = .int .i64 x ∧ (j : Int) ≤ o.times ∧ Hid (((j : Int) < o.times ∧ x = o.first + (j : Int) * o.every) ∨ ((j : Int) = o.times ∧ x = -1)) ∧ Hid (OrdBox wr w1.heap.size o ∧ Below w.heap.size w wr)) (fun m _ _ => o.times.toNat - (intOf m).toNat)
    case atStart => exact ⟨0, o.first, rfl, rfl, by omega, Or.inl ⟨by omega, by simp⟩, X8⟩
    case round =>
      obtain ⟨j, x, rfl, rfl, hj, hx, hX⟩ := hrel
      obtain ⟨c0, c1, c2, c3, c4, c5, c6, _⟩ := hX.out.1
      rcases hx.out with ⟨hlt, ex⟩ | ⟨hje, ex⟩
      · subst ex
        obtain ⟨m1, m2⟩ := mul_bd20 (j : Int) o.every (by omega) (by omega) e1 e2
        have HSj := HS.out j hlt
        have HC : Hid (∀ u : World, Calls Try.prog 28 #[.agg #[.int .i64 o.id, .int .i64 o.src, .int .i64 o.dst, .int .i64 o.amount, .int .i64 o.first, .int .i64 o.every, .int .i64 o.times], .int .i64 (o.first + (j : Int) * o.every + 1)] u fun e w' => ∃ y : Int, e = .returned (.int .i64 y) ∧ (((j : Int) + 1 < o.times ∧ y = o.first + ((j : Int) + 1) * o.every) ∨ ((j : Int) + 1 = o.times ∧ y = -1)) ∧ Below u.heap.size u w') := fun u =>
          (implNext o (o.first + (j : Int) * o.every + 1) u).mono fun e w' ⟨he, hB⟩ => ⟨_, he, (by
            by_cases h1 : (j : Int) + 1 < o.times
            · exact Or.inl ⟨h1, HSj.1 h1⟩
            · exact Or.inr ⟨by omega, HSj.2 (by omega)⟩), hB⟩
        clear HSj hx
        have q20 : ¬ 20 < (j : Int) + 1 := by omega
        go_wp2_with fail
        refine (HC.out _).mono ?_
        rintro e w9 ⟨y, rfl, hy, B9⟩
        have X9 : Hid (OrdBox w9 w1.heap.size o ∧ Below w.heap.size w w9) := ⟨hX.out.1.below B9, hX.out.2.trans (B9.mono hX.out.2.size)⟩
        have HY : Hid ((((j + 1 : Nat) : Int) < o.times ∧ y = o.first + ((j + 1 : Nat) : Int) * o.every) ∨ (((j + 1 : Nat) : Int) = o.times ∧ y = -1)) := by
          rcases hy with ⟨h1, h2⟩ | ⟨h1, h2⟩
          · exact Or.inl ⟨by omega, by rw [h2]; simp⟩
          · exact Or.inr ⟨by omega, h2⟩
        clear B9 hX c0 c1 c2 c3 c4 c5 c6 hy
        go_wp2
        go_roundw
        case rel => exact ⟨j + 1, y, by go_num, rfl, by omega, HY, X9⟩
        case measure => simp [intOf]; omega
      · subst ex
        have eb : ((j : Int) == o.times) = true := by simp [hje]
        go_wp2
        go_ret
        exact ⟨rfl, hX.out.2⟩
  · have HI : Hid (¬ isDue o d) := hi
    clear hi
    have vd : ¬ v = d := fun h => HI.out ⟨⟨d1, d2⟩, by rw [← hv]; exact h⟩
    have NR : Hid (0 ≤ v → d ≤ v ∧ isDue o v) := fun h => by rw [hv] at h ⊢; exact nextDue_range HO.out d1 d2 h
    clear hv
    have vb : (v == d) = false := by simp [vd]
    clear vd
    go_wp2_with fail
    refine (implIs_no o d _ HI.out).mono ?_
    rintro e w2 ⟨rfl, B2⟩
    have X2 : Hid (OrdBox w2 w1.heap.size o ∧ Below w.heap.size w w2) := ⟨X1.out.1.below B2, X1.out.2.trans (B2.mono X1.out.2.size)⟩
    clear X1 B2
    obtain ⟨c0, c1, c2, c3, c4, c5, c6, _⟩ := X2.out.1
    go_wp2_with fail
    refine (CI.out _).mono ?_
    rintro e w3 ⟨rfl, B3⟩
    have X3 : Hid (OrdBox w3 w1.heap.size o ∧ Below w.heap.size w w3) := ⟨X2.out.1.below B3, X2.out.2.trans (B3.mono X2.out.2.size)⟩
    clear X2 B3 c0 c1 c2 c3 c4 c5 c6
    obtain ⟨c0, c1, c2, c3, c4, c5, c6, hz⟩ := X3.out.1
    have hov : ∀ u q, (over w3 u).cell? ⟨w1.heap.size, q, none⟩ = w3.cell? ⟨w1.heap.size, q, none⟩ := fun u q => (below_over w3 u).cell (p := ⟨w1.heap.size, q, none⟩) hz
    go_wp2
    refine wp_region_over (by kernel_rfl) (by kernel_rfl) ?_
    repeat (go_big_quiet_step ((first | (go_at_call 21; exact Calls.over_of (specIs_no o d _ HI.out)) | (go_at_call 27; exact Calls.over_of (CN.out _)) | (go_at_call 15; exact Calls.over_of (implOrd_yes o _ HO.out)) | (go_at_call 13; exact Calls.over_of (specOrd_yes o _ HO.out)))))
    refine wpQuiet_nil ?_
    intro _ hw'
    obtain ⟨vq, hw''⟩ := hw'
    subst hw''
    have XV : Hid (OrdBox (over w3 vq) w1.heap.size o ∧ Below w.heap.size w (over w3 vq)) := ⟨X3.out.1.below (below_over w3 vq), X3.out.2.trans ((below_over w3 vq).mono X3.out.2.size)⟩
    clear X3 c0 c1 c2 c3 c4 c5 c6 hov
    obtain ⟨c0, c1, c2, c3, c4, c5, c6, _⟩ := XV.out.1
    by_cases v0 : 0 ≤ v
    · obtain ⟨vr, vi⟩ := NR.out v0
      have VI : Hid (isDue o v) := vi
      have vlt : ¬ v < d := by omega
      clear vi vr
      go_wp2_with fail
      refine (implIs_yes o v _ VI.out).mono ?_
      rintro e w7 ⟨rfl, B7⟩
      have XZ : Hid (OrdBox w7 w1.heap.size o ∧ Below w.heap.size w w7) := ⟨XV.out.1.below B7, XV.out.2.trans (B7.mono XV.out.2.size)⟩
      clear XV B7 c0 c1 c2 c3 c4 c5 c6
      obtain ⟨c0, c1, c2, c3, c4, c5, c6, _⟩ := XZ.out.1
      by_cases ht : 20 < o.times
      · go_wp2
        go_ret
        exact ⟨rfl, XZ.out.2⟩
      by_cases hf : 2992680 < o.first
      · go_wp2
        go_ret
        exact ⟨rfl, XZ.out.2⟩
      have HS : Hid (∀ j : Nat, (j : Int) < o.times → ((j : Int) + 1 < o.times → nextDue o (o.first + (j : Int) * o.every + 1) = o.first + ((j : Int) + 1) * o.every) ∧ ((j : Int) + 1 = o.times → nextDue o (o.first + (j : Int) * o.every + 1) = -1)) := fun j hj => nextDue_step HO.out (by omega) (by omega) hj
      have N0 : Hid (nextDue o 0 = o.first) := nextDue_zero HO.out
      obtain ⟨_, _, _, _, _, ⟨f1, f2⟩, ⟨e1, e2⟩, t1, t2⟩ := HO.out
      go_wp2_with fail
      refine (implNext o 0 _).mono ?_
      rw [N0.out]
      rintro e w8 ⟨rfl, B8⟩
      have X8 : Hid (OrdBox w8 w1.heap.size o ∧ Below w.heap.size w w8) := ⟨XZ.out.1.below B8, XZ.out.2.trans (B8.mono XZ.out.2.size)⟩
      clear XZ B8 c0 c1 c2 c3 c4 c5 c6
      go_wp2
      go_loopw [7, 8] (fun m t wr => ∃ (j : Nat) (x : Int), m = .int .i64 j ∧ t = .int .i64 x ∧ (j : Int) ≤ o.times ∧ Hid (((j : Int) < o.times ∧ x = o.first + (j : Int) * o.every) ∨ ((j : Int) = o.times ∧ x = -1)) ∧ Hid (OrdBox wr w1.heap.size o ∧ Below w.heap.size w wr)) (fun m _ _ => o.times.toNat - (intOf m).toNat)
      case atStart => exact ⟨0, o.first, rfl, rfl, by omega, Or.inl ⟨by omega, by simp⟩, X8⟩
      case round =>
        obtain ⟨j, x, rfl, rfl, hj, hx, hX⟩ := hrel
        obtain ⟨c0, c1, c2, c3, c4, c5, c6, _⟩ := hX.out.1
        rcases hx.out with ⟨hlt, ex⟩ | ⟨hje, ex⟩
        · subst ex
          obtain ⟨m1, m2⟩ := mul_bd20 (j : Int) o.every (by omega) (by omega) e1 e2
          have HSj := HS.out j hlt
          have HC : Hid (∀ u : World, Calls Try.prog 28 #[.agg #[.int .i64 o.id, .int .i64 o.src, .int .i64 o.dst, .int .i64 o.amount, .int .i64 o.first, .int .i64 o.every, .int .i64 o.times], .int .i64 (o.first + (j : Int) * o.every + 1)] u fun e w' => ∃ y : Int, e = .returned (.int .i64 y) ∧ (((j : Int) + 1 < o.times ∧ y = o.first + ((j : Int) + 1) * o.every) ∨ ((j : Int) + 1 = o.times ∧ y = -1)) ∧ Below u.heap.size u w') := fun u =>
            (implNext o (o.first + (j : Int) * o.every + 1) u).mono fun e w' ⟨he, hB⟩ => ⟨_, he, (by
              by_cases h1 : (j : Int) + 1 < o.times
              · exact Or.inl ⟨h1, HSj.1 h1⟩
              · exact Or.inr ⟨by omega, HSj.2 (by omega)⟩), hB⟩
          clear HSj hx
          have q20 : ¬ 20 < (j : Int) + 1 := by omega
          go_wp2_with fail
          refine (HC.out _).mono ?_
          rintro e w9 ⟨y, rfl, hy, B9⟩
          have X9 : Hid (OrdBox w9 w1.heap.size o ∧ Below w.heap.size w w9) := ⟨hX.out.1.below B9, hX.out.2.trans (B9.mono hX.out.2.size)⟩
          have HY : Hid ((((j + 1 : Nat) : Int) < o.times ∧ y = o.first + ((j + 1 : Nat) : Int) * o.every) ∨ (((j + 1 : Nat) : Int) = o.times ∧ y = -1)) := by
            rcases hy with ⟨h1, h2⟩ | ⟨h1, h2⟩
            · exact Or.inl ⟨by omega, by rw [h2]; simp⟩
            · exact Or.inr ⟨by omega, h2⟩
          clear B9 hX c0 c1 c2 c3 c4 c5 c6 hy
          go_wp2
          go_roundw
          case rel => exact ⟨j + 1, y, by go_num, rfl, by omega, HY, X9⟩
          case measure => simp [intOf]; omega
        · subst ex
          have eb : ((j : Int) == o.times) = true := by simp [hje]
          go_wp2
          go_ret
          exact ⟨rfl, hX.out.2⟩
    · have v1 : v < 0 := by omega
      have vd0 : decide (0 ≤ v) = false := decide_eq_false v0
      have XZ : Hid (OrdBox (over w3 vq) w1.heap.size o ∧ Below w.heap.size w (over w3 vq)) := XV
      clear XV c0 c1 c2 c3 c4 c5 c6
      obtain ⟨c0, c1, c2, c3, c4, c5, c6, _⟩ := XZ.out.1
      by_cases ht : 20 < o.times
      · go_wp2
        go_ret
        exact ⟨rfl, XZ.out.2⟩
      by_cases hf : 2992680 < o.first
      · go_wp2
        go_ret
        exact ⟨rfl, XZ.out.2⟩
      have HS : Hid (∀ j : Nat, (j : Int) < o.times → ((j : Int) + 1 < o.times → nextDue o (o.first + (j : Int) * o.every + 1) = o.first + ((j : Int) + 1) * o.every) ∧ ((j : Int) + 1 = o.times → nextDue o (o.first + (j : Int) * o.every + 1) = -1)) := fun j hj => nextDue_step HO.out (by omega) (by omega) hj
      have N0 : Hid (nextDue o 0 = o.first) := nextDue_zero HO.out
      obtain ⟨_, _, _, _, _, ⟨f1, f2⟩, ⟨e1, e2⟩, t1, t2⟩ := HO.out
      go_wp2_with fail
      refine (implNext o 0 _).mono ?_
      rw [N0.out]
      rintro e w8 ⟨rfl, B8⟩
      have X8 : Hid (OrdBox w8 w1.heap.size o ∧ Below w.heap.size w w8) := ⟨XZ.out.1.below B8, XZ.out.2.trans (B8.mono XZ.out.2.size)⟩
      clear XZ B8 c0 c1 c2 c3 c4 c5 c6
      go_wp2
      go_loopw [7, 8] (fun m t wr => ∃ (j : Nat) (x : Int), m = .int .i64 j ∧ t = .int .i64 x ∧ (j : Int) ≤ o.times ∧ Hid (((j : Int) < o.times ∧ x = o.first + (j : Int) * o.every) ∨ ((j : Int) = o.times ∧ x = -1)) ∧ Hid (OrdBox wr w1.heap.size o ∧ Below w.heap.size w wr)) (fun m _ _ => o.times.toNat - (intOf m).toNat)
      case atStart => exact ⟨0, o.first, rfl, rfl, by omega, Or.inl ⟨by omega, by simp⟩, X8⟩
      case round =>
        obtain ⟨j, x, rfl, rfl, hj, hx, hX⟩ := hrel
        obtain ⟨c0, c1, c2, c3, c4, c5, c6, _⟩ := hX.out.1
        rcases hx.out with ⟨hlt, ex⟩ | ⟨hje, ex⟩
        · subst ex
          obtain ⟨m1, m2⟩ := mul_bd20 (j : Int) o.every (by omega) (by omega) e1 e2
          have HSj := HS.out j hlt
          have HC : Hid (∀ u : World, Calls Try.prog 28 #[.agg #[.int .i64 o.id, .int .i64 o.src, .int .i64 o.dst, .int .i64 o.amount, .int .i64 o.first, .int .i64 o.every, .int .i64 o.times], .int .i64 (o.first + (j : Int) * o.every + 1)] u fun e w' => ∃ y : Int, e = .returned (.int .i64 y) ∧ (((j : Int) + 1 < o.times ∧ y = o.first + ((j : Int) + 1) * o.every) ∨ ((j : Int) + 1 = o.times ∧ y = -1)) ∧ Below u.heap.size u w') := fun u =>
            (implNext o (o.first + (j : Int) * o.every + 1) u).mono fun e w' ⟨he, hB⟩ => ⟨_, he, (by
              by_cases h1 : (j : Int) + 1 < o.times
              · exact Or.inl ⟨h1, HSj.1 h1⟩
              · exact Or.inr ⟨by omega, HSj.2 (by omega)⟩), hB⟩
          clear HSj hx
          have q20 : ¬ 20 < (j : Int) + 1 := by omega
          go_wp2_with fail
          refine (HC.out _).mono ?_
          rintro e w9 ⟨y, rfl, hy, B9⟩
          have X9 : Hid (OrdBox w9 w1.heap.size o ∧ Below w.heap.size w w9) := ⟨hX.out.1.below B9, hX.out.2.trans (B9.mono hX.out.2.size)⟩
          have HY : Hid ((((j + 1 : Nat) : Int) < o.times ∧ y = o.first + ((j + 1 : Nat) : Int) * o.every) ∨ (((j + 1 : Nat) : Int) = o.times ∧ y = -1)) := by
            rcases hy with ⟨h1, h2⟩ | ⟨h1, h2⟩
            · exact Or.inl ⟨by omega, by rw [h2]; simp⟩
            · exact Or.inr ⟨by omega, h2⟩
          clear B9 hX c0 c1 c2 c3 c4 c5 c6 hy
          go_wp2
          go_roundw
          case rel => exact ⟨j + 1, y, by go_num, rfl, by omega, HY, X9⟩
          case measure => simp [intOf]; omega
        · subst ex
          have eb : ((j : Int) == o.times) = true := by simp [hje]
          go_wp2
          go_ret
          exact ⟨rfl, hX.out.2⟩
end Go.Proofs.Ytlndklendejjdaa
