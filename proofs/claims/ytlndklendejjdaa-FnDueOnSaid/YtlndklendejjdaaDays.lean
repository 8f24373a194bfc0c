/- The days on which an order is due: the least one from a day on, reckoned in two ways. Nothing of the program. -/
import Derived.Test.YtlndklendejjdaaOrd
namespace Go.Proofs.Ytlndklendejjdaa

/-- The first k days, whatever their number. -/
def upto (o : Ord) (k : Nat) : List Int := (List.range k).map fun i : Nat => o.first + (i : Int) * o.every
theorem upto_succ (o : Ord) (k : Nat) : upto o (k + 1) = upto o k ++ [o.first + (k : Int) * o.every] := by simp [upto, List.range_succ]
theorem upto_len (o : Ord) (k : Nat) : (upto o k).length = k := by simp [upto]
theorem mem_upto {o : Ord} {k i : Nat} (h : i < k) : o.first + (i : Int) * o.every ∈ upto o k := List.mem_map.2 ⟨i, List.mem_range.2 h, rfl⟩

/-- How many are below a day. -/
def kth (o : Ord) (d : Int) : Int := if o.first < d then (d - o.first + o.every - 1) / o.every else 0
/-- The next day on which an order is due, -1: there is none. -/
noncomputable def nextDue (o : Ord) (d : Int) : Int := open Classical in
  if ordOk o ∧ 0 ≤ d ∧ d ≤ 3000000 then (if o.times ≤ kth o d ∨ 3000000 < o.first + kth o d * o.every then -1 else o.first + kth o d * o.every) else -1

theorem kth_pos (o : Ord) (d : Int) (he : 1 ≤ o.every) : 0 ≤ kth o d := by
  unfold kth
  split
  · exact Int.ediv_nonneg (by omega) (by omega)
  · omega
theorem kth_at (o : Ord) (d : Int) (he : 1 ≤ o.every) : d ≤ o.first + kth o d * o.every := by
  unfold kth
  split
  · have h1 := Int.emod_add_mul_ediv (d - o.first + o.every - 1) o.every
    have h2 := Int.emod_lt_of_pos (d - o.first + o.every - 1) (show 0 < o.every by omega)
    rw [Int.mul_comm o.every] at h1
    omega
  · omega
theorem kth_least (o : Ord) (d : Int) (he : 1 ≤ o.every) (i : Int) (hi : 0 ≤ i) (h : d ≤ o.first + i * o.every) : kth o d ≤ i := by
  unfold kth
  split
  · have e : (d - o.first + o.every - 1) < (i + 1) * o.every := by rw [Int.add_mul]; omega
    have := Int.ediv_lt_of_lt_mul (show 0 < o.every by omega) e
    omega
  · omega
theorem kth_le (o : Ord) (d : Int) (hd : d ≤ 3000000) (hf : 0 ≤ o.first) (he : 1 ≤ o.every) : kth o d ≤ 3000000 := by
  refine kth_least o d he 3000000 (by omega) ?_
  have : (3000000 : Int) * 1 ≤ 3000000 * o.every := Int.mul_le_mul_of_nonneg_left he (by omega)
  omega
theorem mul_bd (k e : Int) (hk : 0 ≤ k) (hk2 : k ≤ 3000000) (he : 1 ≤ e) (he2 : e ≤ 366) : 0 ≤ k * e ∧ k * e ≤ 1098000000 := by
  have a : k * e ≤ k * 366 := Int.mul_le_mul_of_nonneg_left he2 hk
  have b : 0 ≤ k * e := Int.mul_nonneg hk (by omega)
  omega
theorem nextDue_yes {o : Ord} {d : Int} (ho : ordOk o) (h1 : 0 ≤ d) (h2 : d ≤ 3000000) (hk : kth o d < o.times) (hm : o.first + kth o d * o.every ≤ 3000000) : nextDue o d = o.first + kth o d * o.every := by
  unfold nextDue
  rw [if_pos ⟨ho, h1, h2⟩, if_neg (by omega)]
theorem nextDue_out {o : Ord} {d : Int} (ho : ordOk o) (h1 : 0 ≤ d) (h2 : d ≤ 3000000) (hk : o.times ≤ kth o d ∨ 3000000 < o.first + kth o d * o.every) : nextDue o d = -1 := by
  unfold nextDue
  rw [if_pos ⟨ho, h1, h2⟩, if_pos hk]
theorem nextDue_no {o : Ord} {d : Int} (h : ¬ (ordOk o ∧ 0 ≤ d ∧ d ≤ 3000000)) : nextDue o d = -1 := by
  unfold nextDue
  rw [if_neg h]
/-- One by one: the first that is not below the day. -/
theorem nextDue_hit {o : Ord} {d : Int} (ho : ordOk o) (h1 : 0 ≤ d) (h2 : d ≤ 3000000) {k : Nat} (hk : (k : Int) < o.times) (hm : o.first + (k : Int) * o.every ≤ 3000000) (hd : d ≤ o.first + (k : Int) * o.every) (hlow : ∀ y ∈ upto o k, y < d) : nextDue o d = o.first + (k : Int) * o.every := by
  have he := ho.2.2.2.2.2.2.1.1
  have a := kth_least o d he k (by omega) hd
  have b := kth_pos o d he
  have c := kth_at o d he
  have e : kth o d = k := by
    by_cases e : kth o d = k
    · exact e
    · obtain ⟨m, hm⟩ := Int.eq_ofNat_of_zero_le b
      have := hlow _ (mem_upto (o := o) (show m < k by omega))
      rw [hm] at c
      omega
  rw [nextDue_yes ho h1 h2 (by omega) (by rw [e]; exact hm), e]
/-- One by one: all are below the day. -/
theorem nextDue_miss {o : Ord} {d : Int} (ho : ordOk o) (h1 : 0 ≤ d) (h2 : d ≤ 3000000) {k : Nat} (hk : (k : Int) = o.times ∨ 3000000 < o.first + (k : Int) * o.every) (hlow : ∀ y ∈ upto o k, y < d) : nextDue o d = -1 := by
  have he := ho.2.2.2.2.2.2.1.1
  have b := kth_pos o d he
  have c := kth_at o d he
  have g : (k : Int) ≤ kth o d := by
    obtain ⟨m, hm⟩ := Int.eq_ofNat_of_zero_le b
    rw [hm] at c ⊢
    by_cases e : m < k
    · have := hlow _ (mem_upto (o := o) e)
      omega
    · omega
  refine nextDue_out ho h1 h2 ?_
  rcases hk with hk | hk
  · left; omega
  · right
    have := Int.mul_le_mul_of_nonneg_right g (show 0 ≤ o.every by omega)
    omega
end Go.Proofs.Ytlndklendejjdaa
