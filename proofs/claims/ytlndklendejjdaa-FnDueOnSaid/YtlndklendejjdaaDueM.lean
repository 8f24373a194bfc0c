/- The law FnDue returns true, whatever the bytes: the math. Nothing of the program but contracts that are known. -/
import Derived.Test.YtlndklendejjdaaDrawDue
import Derived.Test.YtlndklendejjdaaIs
import Derived.Test.YtlndklendejjdaaOver
namespace Go.Proofs.Ytlndklendejjdaa
open Go.RowKit

theorem specIs_yes (o : Ord) (d : Int) (w : World) (h : isDue o d) :
    Calls Try.prog 21 #[.agg #[.int .i64 o.id, .int .i64 o.src, .int .i64 o.dst, .int .i64 o.amount, .int .i64 o.first, .int .i64 o.every, .int .i64 o.times], .int .i64 d] w fun e w' => e = .returned (.bool true) ∧ Below w.heap.size w w' :=
  (specIs o d w).mono fun e w' ⟨⟨b, he, _, h2⟩, hB⟩ => ⟨by cases b with | true => exact he | false => exact absurd h (h2 rfl), hB⟩
theorem specIs_no (o : Ord) (d : Int) (w : World) (h : ¬ isDue o d) :
    Calls Try.prog 21 #[.agg #[.int .i64 o.id, .int .i64 o.src, .int .i64 o.dst, .int .i64 o.amount, .int .i64 o.first, .int .i64 o.every, .int .i64 o.times], .int .i64 d] w fun e w' => e = .returned (.bool false) ∧ Below w.heap.size w w' :=
  (specIs o d w).mono fun e w' ⟨⟨b, he, h1, _⟩, hB⟩ => ⟨by cases b with | false => exact he | true => exact absurd (h1 rfl) h, hB⟩
theorem implIs_yes (o : Ord) (d : Int) (w : World) (h : isDue o d) :
    Calls Try.prog 22 #[.agg #[.int .i64 o.id, .int .i64 o.src, .int .i64 o.dst, .int .i64 o.amount, .int .i64 o.first, .int .i64 o.every, .int .i64 o.times], .int .i64 d] w fun e w' => e = .returned (.bool true) ∧ Below w.heap.size w w' :=
  (implIs o d w).mono fun e w' ⟨⟨b, he, _, h2⟩, hB⟩ => ⟨by cases b with | true => exact he | false => exact absurd h (h2 rfl), hB⟩
theorem implIs_no (o : Ord) (d : Int) (w : World) (h : ¬ isDue o d) :
    Calls Try.prog 22 #[.agg #[.int .i64 o.id, .int .i64 o.src, .int .i64 o.dst, .int .i64 o.amount, .int .i64 o.first, .int .i64 o.every, .int .i64 o.times], .int .i64 d] w fun e w' => e = .returned (.bool false) ∧ Below w.heap.size w w' :=
  (implIs o d w).mono fun e w' ⟨⟨b, he, h1, _⟩, hB⟩ => ⟨by cases b with | false => exact he | true => exact absurd (h1 rfl) h, hB⟩
theorem nextDue_range {o : Ord} {d : Int} (ho : ordOk o) (h1 : 0 ≤ d) (h2 : d ≤ 3000000) (hp : 0 ≤ nextDue o d) : d ≤ nextDue o d ∧ isDue o (nextDue o d) := by
  have he := ho.2.2.2.2.2.2.1.1
  have hf := ho.2.2.2.2.2.1.1
  have k0 := kth_pos o d he
  have k1 := kth_at o d he
  by_cases hk : o.times ≤ kth o d ∨ 3000000 < o.first + kth o d * o.every
  · rw [nextDue_out ho h1 h2 hk] at hp; omega
  · have e := nextDue_yes ho h1 h2 (by omega) (by omega)
    rw [e]
    have m := Int.mul_nonneg k0 (show 0 ≤ o.every by omega)
    refine ⟨k1, isDue_of ho (by omega) (by omega) ?_ ?_⟩
    · have e2 : o.first + kth o d * o.every - o.first = kth o d * o.every := by omega
      rw [e2, Int.mul_emod_left]
    · have e2 : o.first + kth o d * o.every - o.first = kth o d * o.every := by omega
      rw [e2, Int.mul_ediv_cancel _ (by omega)]
      omega
theorem nextDue_zero {o : Ord} (ho : ordOk o) : nextDue o 0 = o.first := by
  have hf := ho.2.2.2.2.2.1
  have ht := ho.2.2.2.2.2.2.2
  have e : kth o 0 = 0 := by unfold kth; rw [if_neg (by omega)]
  rw [nextDue_yes ho (by omega) (by omega) (by omega) (by rw [e]; omega), e]
  omega
theorem mul_bd20 (k e : Int) (hk : 0 ≤ k) (hk2 : k ≤ 19) (he : 1 ≤ e) (he2 : e ≤ 366) : 0 ≤ k * e ∧ k * e ≤ 6954 := by
  have a : k * e ≤ k * 366 := Int.mul_le_mul_of_nonneg_left he2 hk
  have b : 0 ≤ k * e := Int.mul_nonneg hk (by omega)
  omega
theorem nextDue_step {o : Ord} (ho : ordOk o) (ht : o.times ≤ 20) (hf : o.first ≤ 2992680) {j : Nat} (hj : (j : Int) < o.times) :
    ((j : Int) + 1 < o.times → nextDue o (o.first + (j : Int) * o.every + 1) = o.first + ((j : Int) + 1) * o.every) ∧ ((j : Int) + 1 = o.times → nextDue o (o.first + (j : Int) * o.every + 1) = -1) := by
  have he := ho.2.2.2.2.2.2.1
  have hf0 := ho.2.2.2.2.2.1.1
  obtain ⟨m1, m2⟩ := mul_bd20 (j : Int) o.every (by omega) (by omega) he.1 he.2
  have e1 : ((j : Int) + 1) * o.every = (j : Int) * o.every + o.every := by rw [Int.add_mul]; omega
  have a := kth_least o (o.first + (j : Int) * o.every + 1) he.1 ((j : Int) + 1) (by omega) (by rw [e1]; omega)
  have b := kth_at o (o.first + (j : Int) * o.every + 1) he.1
  have c : (j : Int) + 1 ≤ kth o (o.first + (j : Int) * o.every + 1) := by
    by_cases hlt : kth o (o.first + (j : Int) * o.every + 1) ≤ (j : Int)
    · have := Int.mul_le_mul_of_nonneg_right hlt (show 0 ≤ o.every by omega)
      omega
    · omega
  have ek : kth o (o.first + (j : Int) * o.every + 1) = (j : Int) + 1 := by omega
  constructor
  · intro h
    rw [nextDue_yes ho (by omega) (by omega) (by omega) (by rw [ek, e1]; omega), ek]
  · intro h
    exact nextDue_out ho (by omega) (by omega) (Or.inl (by omega))
end Go.Proofs.Ytlndklendejjdaa
