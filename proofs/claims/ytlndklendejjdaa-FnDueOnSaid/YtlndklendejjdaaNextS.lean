/- The specification's NextDue answers the next day on which an order is due. No conditions. -/
import Derived.Test.YtlndklendejjdaaDays
namespace Go.Proofs.Ytlndklendejjdaa
open Go.RowKit

theorem ret_int {a b : Int} (h : a = b) : Ending.returned (.int .i64 a) = .returned (.int .i64 b) := by rw [h]
theorem specOrd_yes (o : Ord) (w : World) (h : ordOk o) :
    Calls Try.prog 13 #[.agg #[.int .i64 o.id, .int .i64 o.src, .int .i64 o.dst, .int .i64 o.amount, .int .i64 o.first, .int .i64 o.every, .int .i64 o.times]] w fun e w' => e = .returned (.bool true) ∧ Below w.heap.size w w' :=
  (specOrd o w).mono fun e w' ⟨⟨b, he, _, h2⟩, hB⟩ => ⟨by cases b with | true => exact he | false => exact absurd h (h2 rfl), hB⟩
theorem specOrd_no (o : Ord) (w : World) (h : ¬ ordOk o) :
    Calls Try.prog 13 #[.agg #[.int .i64 o.id, .int .i64 o.src, .int .i64 o.dst, .int .i64 o.amount, .int .i64 o.first, .int .i64 o.every, .int .i64 o.times]] w fun e w' => e = .returned (.bool false) ∧ Below w.heap.size w w' :=
  (specOrd o w).mono fun e w' ⟨⟨b, he, h1, _⟩, hB⟩ => ⟨by cases b with | false => exact he | true => exact absurd (h1 rfl) h, hB⟩
theorem implOrd_yes (o : Ord) (w : World) (h : ordOk o) :
    Calls Try.prog 15 #[.agg #[.int .i64 o.id, .int .i64 o.src, .int .i64 o.dst, .int .i64 o.amount, .int .i64 o.first, .int .i64 o.every, .int .i64 o.times]] w fun e w' => e = .returned (.bool true) ∧ Below w.heap.size w w' :=
  (implOrd o w).mono fun e w' ⟨⟨b, he, _, h2⟩, hB⟩ => ⟨by cases b with | true => exact he | false => exact absurd h (h2 rfl), hB⟩
theorem implOrd_no (o : Ord) (w : World) (h : ¬ ordOk o) :
    Calls Try.prog 15 #[.agg #[.int .i64 o.id, .int .i64 o.src, .int .i64 o.dst, .int .i64 o.amount, .int .i64 o.first, .int .i64 o.every, .int .i64 o.times]] w fun e w' => e = .returned (.bool false) ∧ Below w.heap.size w w' :=
  (implOrd o w).mono fun e w' ⟨⟨b, he, h1, _⟩, hB⟩ => ⟨by cases b with | false => exact he | true => exact absurd (h1 rfl) h, hB⟩

set_option maxHeartbeats 1000000 in
theorem specNext (o : Ord) (d : Int) (w : World) :
    Calls Try.prog 27 #[.agg #[.int .i64 o.id, .int .i64 o.src, .int .i64 o.dst, .int .i64 o.amount, .int .i64 o.first, .int .i64 o.every, .int .i64 o.times], .int .i64 d] w fun e w' => e = .returned (.int .i64 (nextDue o d)) ∧ Below w.heap.size w w' := by
  have X0 : Hid (OrdBox (w.alloc (.cells #[.int .i64 o.id, .int .i64 o.src, .int .i64 o.dst, .int .i64 o.amount, .int .i64 o.first, .int .i64 o.every, .int .i64 o.times] 25)) w.heap.size o) := OrdBox.new w o 25
  by_cases ho : ordOk o
  rotate_left
  · have E : Hid (nextDue o d = -1) := nextDue_no (fun h => ho h.1)
    have HO : Hid (¬ ordOk o) := ho
    clear ho
    go_enter Try.func27, Try.ntmps27
    go_wp2_with fail
    refine (specOrd_no o _ HO.out).mono ?_
    rintro e w1 ⟨rfl, B1⟩
    have B1' : Hid (Below w.heap.size w w1) := ((Below.refl _ _).alloc (Nat.le_refl _) _).trans (B1.mono (by simp))
    clear B1 X0
    go_wp2
    go_ret
    rw [E.out]
    exact ⟨rfl, B1'.out⟩
  have HO : Hid (ordOk o) := ho
  obtain ⟨_, _, _, _, _, ⟨f1, f2⟩, ⟨e1, e2⟩, t1, t2⟩ := ho
  by_cases hd : 0 ≤ d ∧ d ≤ 3000000
  rotate_left
  · have E : Hid (nextDue o d = -1) := nextDue_no (fun h => hd h.2)
    have HD : Hid (¬ (0 ≤ d ∧ d ≤ 3000000)) := hd
    clear hd f1 f2 e1 e2 t1 t2
    go_enter Try.func27, Try.ntmps27
    go_wp2_with fail
    refine (specOrd_yes o _ HO.out).mono ?_
    rintro e w1 ⟨rfl, B1⟩
    have B1' : Hid (Below w.heap.size w w1) := ((Below.refl _ _).alloc (Nat.le_refl _) _).trans (B1.mono (by simp))
    clear B1 X0
    go_wp2_with fail
    refine (l1In_no d 0 3000000 _ HD.out).mono ?_
    rintro e w2 ⟨rfl, hw⟩
    subst hw
    go_wp2
    go_ret
    rw [E.out]
    exact ⟨rfl, B1'.out⟩
  obtain ⟨d1, d2⟩ := hd
  have k1 := kth_pos o d e1
  have k2 := kth_le o d d2 f1 e1
  obtain ⟨m1, m2⟩ := mul_bd (kth o d) o.every k1 k2 e1 e2
  have KY : Hid (o.times ≤ kth o d ∨ 3000000 < o.first + kth o d * o.every → nextDue o d = -1) := nextDue_out HO.out d1 d2
  have KN : Hid (kth o d < o.times → o.first + kth o d * o.every ≤ 3000000 → nextDue o d = o.first + kth o d * o.every) := nextDue_yes HO.out d1 d2
  have KK : Hid (kth o d = if o.first < d then (d - o.first + o.every - 1) / o.every else 0) := rfl
  obtain ⟨kk, hkk⟩ : ∃ kk, kk = kth o d := ⟨_, rfl⟩
  rw [← hkk] at k1 k2 m1 m2 KY KN KK
  clear hkk
  go_enter Try.func27, Try.ntmps27
  go_wp2_with fail
  refine (specOrd_yes o _ HO.out).mono ?_
  rintro e w1 ⟨rfl, B1⟩
  have X1 : Hid (OrdBox w1 w.heap.size o) := X0.out.below B1
  have B1' : Hid (Below w.heap.size w w1) := ((Below.refl _ _).alloc (Nat.le_refl _) _).trans (B1.mono (by simp))
  clear B1 X0
  obtain ⟨c0, c1, c2, c3, c4, c5, c6, _⟩ := X1.out
  go_wp2_with fail
  refine (l1In_yes d 0 3000000 _ ⟨d1, d2⟩).mono ?_
  rintro e w2 ⟨rfl, hw⟩
  subst hw
  by_cases hf : o.first < d
  · have ek : Hid (kk = (d - o.first + o.every - 1) / o.every) := by have := KK.out; rw [if_pos hf] at this; exact this
    have ez : ¬ o.every = 0 := by omega
    have eq : (d - o.first + o.every - 1).tdiv o.every = kk := by rw [ek.out, Int.tdiv_eq_ediv_of_nonneg (by omega)]
    clear KK
    by_cases hk : o.times ≤ kk
    · go_wp2
      go_ret
      rw [KY.out (.inl hk)]
      exact ⟨rfl, B1'.out⟩
    · by_cases hm : 3000000 < o.first + kk * o.every
      · go_wp2
        go_ret
        rw [KY.out (.inr hm)]
        exact ⟨rfl, B1'.out⟩
      · go_wp2
        go_ret
        rw [KN.out (by omega) (by omega)]
        exact ⟨rfl, B1'.out⟩
  · have ek : kk = 0 := by have := KK.out; rw [if_neg hf] at this; exact this
    subst ek
    clear KK
    have et : ¬ o.times ≤ 0 := by omega
    have em : ¬ 3000000 < o.first := by omega
    go_wp2
    go_ret
    rw [KN.out (by omega) (by omega)]
    exact ⟨ret_int (by omega), B1'.out⟩
end Go.Proofs.Ytlndklendejjdaa
