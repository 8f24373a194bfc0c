/- IsDue, of the program and of the specification: both answer whether an order is due on a day. No conditions. -/
import Derived.Test.YtlndklendejjdaaNextN
import Derived.BigQuiet
namespace Go.Proofs.Ytlndklendejjdaa
open Go.RowKit

/-- Whether an order is due on a day. -/
def isDue (o : Ord) (d : Int) : Prop := (0 ≤ d ∧ d ≤ 3000000) ∧ nextDue o d = d
theorem isDue_ok {o : Ord} {d : Int} (h : isDue o d) : ordOk o := by
  by_cases e : ordOk o ∧ 0 ≤ d ∧ d ≤ 3000000
  · exact e.1
  · have := nextDue_no e
    have h2 := h.2
    have h1 := h.1.1
    exfalso
    omega
theorem isDue_first {o : Ord} {d : Int} (h : isDue o d) : o.first ≤ d ∧ (d - o.first) % o.every = 0 ∧ (d - o.first) / o.every < o.times := by
  have ho := isDue_ok h
  obtain ⟨⟨h1, h2⟩, h3⟩ := h
  have he := ho.2.2.2.2.2.2.1.1
  have k := kth_pos o d he
  by_cases hk : o.times ≤ kth o d ∨ 3000000 < o.first + kth o d * o.every
  · rw [nextDue_out ho h1 h2 hk] at h3; omega
  · rw [nextDue_yes ho h1 h2 (by omega) (by omega)] at h3
    have e : d - o.first = kth o d * o.every := by omega
    rw [e, Int.mul_emod_left, Int.mul_ediv_cancel _ (by omega)]
    have := Int.mul_nonneg k (show 0 ≤ o.every by omega)
    exact ⟨by omega, rfl, by omega⟩
theorem isDue_of {o : Ord} {d : Int} (ho : ordOk o) (h1 : o.first ≤ d) (h2 : d ≤ 3000000) (hm : (d - o.first) % o.every = 0) (hq : (d - o.first) / o.every < o.times) : isDue o d := by
  have hf := ho.2.2.2.2.2.1.1
  have he := ho.2.2.2.2.2.2.1.1
  refine ⟨⟨by omega, h2⟩, ?_⟩
  have e := Int.emod_add_mul_ediv (d - o.first) o.every
  obtain ⟨q, hq'⟩ : ∃ q, q = (d - o.first) / o.every := ⟨_, rfl⟩
  rw [← hq'] at e hq
  rw [hm, Int.mul_comm] at e
  have q0 : 0 ≤ q := by rw [hq']; exact Int.ediv_nonneg (by omega) (by omega)
  have a := kth_least o d he q q0 (by omega)
  have b := kth_at o d he
  have c : q ≤ kth o d := by
    by_cases hlt : kth o d < q
    · have := Int.mul_le_mul_of_nonneg_right (show kth o d ≤ q - 1 by omega) (show 0 ≤ o.every by omega)
      rw [Int.sub_mul] at this
      omega
    · omega
  have ek : kth o d = q := by omega
  rw [nextDue_yes ho (by omega) h2 (by omega) (by rw [ek]; omega), ek]
  omega

set_option maxHeartbeats 1000000 in
theorem specIs (o : Ord) (d : Int) (w : World) :
    Calls Try.prog 21 #[.agg #[.int .i64 o.id, .int .i64 o.src, .int .i64 o.dst, .int .i64 o.amount, .int .i64 o.first, .int .i64 o.every, .int .i64 o.times], .int .i64 d] w fun e w' => Tells e (isDue o d) ∧ Below w.heap.size w w' := by
  have X0 : Hid (OrdBox (w.alloc (.cells #[.int .i64 o.id, .int .i64 o.src, .int .i64 o.dst, .int .i64 o.amount, .int .i64 o.first, .int .i64 o.every, .int .i64 o.times] 25)) w.heap.size o) := OrdBox.new w o 25
  by_cases ho : ordOk o
  rotate_left
  · have E : Hid (¬ isDue o d) := fun h => ho (isDue_ok h)
    have HO : Hid (¬ ordOk o) := ho
    clear ho
    go_enter Try.func21, Try.ntmps21
    go_wp2_with fail
    refine (specOrd_no o _ HO.out).mono ?_
    rintro e w1 ⟨rfl, B1⟩
    have B1' : Hid (Below w.heap.size w w1) := ((Below.refl _ _).alloc (Nat.le_refl _) _).trans (B1.mono (by simp))
    clear B1 X0
    go_wp2
    go_ret
    exact ⟨Tells.no E.out, B1'.out⟩
  have HO : Hid (ordOk o) := ho
  obtain ⟨_, _, _, _, _, ⟨f1, f2⟩, ⟨e1, e2⟩, t1, t2⟩ := ho
  have ST : ∀ {Q : Ending → World → Prop}, True := trivial
  clear ST
  by_cases hd : o.first ≤ d ∧ d ≤ 3000000
  rotate_left
  · have E : Hid (¬ isDue o d) := fun h => hd ⟨(isDue_first h).1, h.1.2⟩
    have HD : Hid (¬ (o.first ≤ d ∧ d ≤ 3000000)) := hd
    clear hd e1 e2 t1 t2
    go_enter Try.func21, Try.ntmps21
    go_wp2_with fail
    refine (specOrd_yes o _ HO.out).mono ?_
    rintro e w1 ⟨rfl, B1⟩
    have X1 : Hid (OrdBox w1 w.heap.size o) := X0.out.below B1
    have B1' : Hid (Below w.heap.size w w1) := ((Below.refl _ _).alloc (Nat.le_refl _) _).trans (B1.mono (by simp))
    clear B1 X0
    obtain ⟨c0, c1, c2, c3, c4, c5, c6, _⟩ := X1.out
    go_wp2_with fail
    refine (l1In_no d o.first 3000000 _ HD.out).mono ?_
    rintro e w2 ⟨rfl, hw⟩
    subst hw
    go_wp2
    go_ret
    exact ⟨Tells.no E.out, B1'.out⟩
  obtain ⟨d1, d2⟩ := hd
  have em : (d - o.first).tmod o.every = (d - o.first) % o.every := Int.tmod_eq_emod_of_nonneg (by omega)
  have eq : (d - o.first).tdiv o.every = (d - o.first) / o.every := Int.tdiv_eq_ediv_of_nonneg (by omega)
  have KY : Hid ((d - o.first) % o.every = 0 → (d - o.first) / o.every < o.times → isDue o d) := isDue_of HO.out d1 d2
  have KN : Hid (isDue o d → (d - o.first) % o.every = 0 ∧ (d - o.first) / o.every < o.times) := fun h => (isDue_first h).2
  have ez : ¬ o.every = 0 := by omega
  go_enter Try.func21, Try.ntmps21
  go_wp2_with fail
  refine (specOrd_yes o _ HO.out).mono ?_
  rintro e w1 ⟨rfl, B1⟩
  have X1 : Hid (OrdBox w1 w.heap.size o) := X0.out.below B1
  have B1' : Hid (Below w.heap.size w w1) := ((Below.refl _ _).alloc (Nat.le_refl _) _).trans (B1.mono (by simp))
  clear B1 X0
  obtain ⟨c0, c1, c2, c3, c4, c5, c6, _⟩ := X1.out
  go_wp2_with fail
  refine (l1In_yes d o.first 3000000 _ ⟨d1, d2⟩).mono ?_
  rintro e w2 ⟨rfl, hw⟩
  subst hw
  have q0 : 0 ≤ (d - o.first) / o.every := Int.ediv_nonneg (by omega) (by omega)
  have q9 : (d - o.first) / o.every ≤ 3000000 := Int.le_trans (Int.ediv_le_self _ (by omega)) (by omega)
  obtain ⟨m, hm⟩ : ∃ m, (d - o.first) % o.every = m := ⟨_, rfl⟩
  obtain ⟨q, hq⟩ : ∃ q, (d - o.first) / o.every = q := ⟨_, rfl⟩
  rw [hm] at em KY KN
  rw [hq] at eq KY KN q0 q9
  by_cases hz : m = 0
  · have hb : (m == 0) = true := by simp [hz]
    by_cases ht : q < o.times
    · have htd : decide (q < o.times) = true := decide_eq_true ht
      go_wp2
      go_quiet (fail)
      go_wp2
      go_ret
      exact ⟨Tells.yes (KY.out hz ht), B1'.out.trans ⟨rfl, rfl, rfl, Nat.le_refl _, fun _ _ => rfl⟩⟩
    · have htd : decide (q < o.times) = false := decide_eq_false ht
      go_wp2
      go_quiet (fail)
      go_wp2
      go_ret
      exact ⟨Tells.no (fun h => by have := (KN.out h).2; omega), B1'.out.trans ⟨rfl, rfl, rfl, Nat.le_refl _, fun _ _ => rfl⟩⟩
  · have hb : (m == 0) = false := by simp [hz]
    go_wp2
    go_quiet (fail)
    go_wp2
    go_ret
    exact ⟨Tells.no (fun h => hz (KN.out h).1), B1'.out.trans ⟨rfl, rfl, rfl, Nat.le_refl _, fun _ _ => rfl⟩⟩

set_option maxHeartbeats 1000000 in
theorem implIs (o : Ord) (d : Int) (w : World) :
    Calls Try.prog 22 #[.agg #[.int .i64 o.id, .int .i64 o.src, .int .i64 o.dst, .int .i64 o.amount, .int .i64 o.first, .int .i64 o.every, .int .i64 o.times], .int .i64 d] w fun e w' => Tells e (isDue o d) ∧ Below w.heap.size w w' := by
  by_cases hd : 0 ≤ d ∧ d ≤ 3000000
  rotate_left
  · have E : Hid (¬ isDue o d) := fun h => hd h.1
    have HD : Hid (¬ (0 ≤ d ∧ d ≤ 3000000)) := hd
    clear hd
    go_enter Try.func22, Try.ntmps22
    go_wp2_with fail
    refine (dayOk_no d _ HD.out).mono ?_
    rintro e w2 ⟨rfl, hw⟩
    subst hw
    go_wp2
    go_ret
    exact ⟨Tells.no E.out, (Below.refl _ _).alloc (Nat.le_refl _) _⟩
  have HD : Hid (0 ≤ d ∧ d ≤ 3000000) := hd
  clear hd
  go_enter Try.func22, Try.ntmps22
  go_wp2_with fail
  refine (dayOk_yes d _ HD.out).mono ?_
  rintro e w2 ⟨rfl, hw⟩
  subst hw
  go_wp2_with fail
  refine (implNext o d _).mono ?_
  rintro e w1 ⟨rfl, B1⟩
  have B1' : Hid (Below w.heap.size w w1) := ((Below.refl _ _).alloc (Nat.le_refl _) _).trans (B1.mono (by simp))
  clear B1
  have IY : Hid (nextDue o d = d → isDue o d) := fun h => ⟨HD.out, h⟩
  have IN : Hid (isDue o d → nextDue o d = d) := fun h => h.2
  obtain ⟨v, hv⟩ : ∃ v, nextDue o d = v := ⟨_, rfl⟩
  rw [hv] at IY IN ⊢
  by_cases e : v = d
  · have eb : (v == d) = true := by simp [e]
    go_wp2
    go_ret
    exact ⟨Tells.yes (IY.out e), B1'.out⟩
  · have eb : (v == d) = false := by simp [e]
    go_wp2
    go_ret
    exact ⟨Tells.no (fun h => e (IN.out h)), B1'.out⟩
end Go.Proofs.Ytlndklendejjdaa
