/- The law FnInterest returns true, whatever the bytes of the code. Conditions: the bytes lie in memory. -/
import Derived.Test.YtleblllofibfkaaDrI
import Derived.Test.YtleblllofibfkaaLawInt
namespace Go.Proofs.Ytleblllofibfkaa
open Go.RowKit
set_option maxRecDepth 8000

theorem findAt_ids {F F' : Nat → Acc} (h : ∀ i, (F' i).id = (F i).id) (x : Int) : ∀ m k, findAt F' x m k = findAt F x m k
  | 0, _ => rfl
  | m + 1, k => by unfold findAt; rw [h k, findAt_ids h x m (k + 1)]
theorem place_ids {F F' : Nat → Acc} (h : ∀ i, (F' i).id = (F i).id) (n : Nat) (x : Int) : place F' n x = place F n x := findAt_ids h x n 0
theorem chain_ids {F F' : Nat → Acc} (h : ∀ i, (F' i).id = (F i).id) (hu : ∀ i, (F' i).up = (F i).up) (n : Nat) : ∀ m x, chain F' n m x = chain F n m x
  | 0, _ => rfl
  | m + 1, x => by
    unfold chain
    rw [place_ids h]
    split
    · rfl
    · cases place F n x with
      | none => rfl
      | some i => simp only [hu i, chain_ids h hu n m]
theorem postA_up (A : Acc) (s : Int) : (postA A s).up = A.up := by unfold postA; split <;> rfl
theorem intA_up (F : Nat → Acc) (n i : Nat) : (intA F n i).up = (F i).up := by unfold intA; split; exact postA_up _ _; rfl
theorem intF_up (F : Nat → Acc) (n k i : Nat) : (intF F n k i).up = (F i).up := by unfold intF; split; exact intA_up _ _ _; rfl
theorem postA_ok {A : Acc} {s : Int} (h : okS A) (hu : A.up = 0) : okS (postA A s) := by
  unfold postA
  split
  · rename_i hp
    have b := post_bd h hp.1
    have hb := hp.2
    unfold okS at h ⊢
    simp only
    omega
  · exact h
theorem intF_right {F : Nat → Acc} {n : Nat} (h : Right F n) : Right (intF F n n) n := by
  obtain ⟨h1, h2, h3, h4⟩ := h
  refine ⟨h1, fun i hi => ?_, fun i h0 hi => by rw [intF_id, intF_id]; exact h3 i h0 hi, fun i hi => ?_⟩
  · unfold intF
    rw [if_pos hi]
    unfold intA
    split
    · rename_i he
      exact postA_ok (h2 i hi) he.1
    · exact h2 i hi
  · rw [intF_id, chain_ids (intF_id F n n) (intF_up F n n)]
    exact h4 i hi
theorem postA_bal (A : Acc) (s : Int) : (postA A s).balance = A.balance + postN A s := by
  unfold postA postN
  split <;> simp
theorem intA_bal (F : Nat → Acc) (n i : Nat) : (intA F n i).balance = (F i).balance + intN F n i := by
  unfold intA intN
  split
  · exact postA_bal _ _
  · simp
theorem int_total (F : Nat → Acc) (n : Nat) : ∀ k, k ≤ n → total (intF F n n) k = total F k + intS F n k
  | 0, _ => by simp [total, intS, sumTo]
  | k + 1, hk => by
    have ih := int_total F n k (by omega)
    have e : intS F n (k + 1) = intS F n k + intN F n k := rfl
    have e2 : (intF F n n k).balance = (F k).balance + intN F n k := by
      unfold intF
      rw [if_pos (by omega)]
      exact intA_bal F n k
    simp only [total, e2, e]
    rw [ih]
    omega
theorem total_same {F F' : Nat → Acc} : ∀ k, (∀ i, i < k → F i = F' i) → total F k = total F' k
  | 0, _ => rfl
  | k + 1, h => by
    simp only [total]
    rw [total_same k (fun i hi => h i (by omega)), h k (by omega)]

set_option maxHeartbeats 1000000 in
theorem sameForest_same (a b : Option Addr) (n c d : Nat) (F : Nat → Acc) (w : World) (ha : Fo w a n F) (hb : Fo w b n F) :
    Calls Try.prog 9 #[.slice a n c, .slice b n d] w fun e w' => e = .returned (.bool true) ∧ Below w.heap.size w w' := by
  have HA : Hid (Fo w a n F) := ha
  have HB : Hid (Fo w b n F) := hb
  have hn := ha.1
  clear ha hb
  go_enter Try.func9, Try.ntmps9
  go_wp2
  go_loopw [5] (fun i wr => ∃ (k q : Nat), k ≤ n ∧ i = .int .i64 k ∧ wr = w.drewN q) (fun i _ => n - (ctr i).toNat)
  case atStart => exact ⟨0, 0, Nat.zero_le _, rfl, rfl⟩
  case round =>
    obtain ⟨k, q, hk, rfl, rfl⟩ := hrel
    by_cases hlt : k < n
    · obtain ⟨b1, o1, rfl, hz1, c0, c1, c2, c3, c4, c5, c6, c7⟩ := HA.out.acc hlt
      obtain ⟨b2, o2, rfl, hz2, d0, d1, d2, d3, d4, d5, d6, d7⟩ := HB.out.acc hlt
      generalize F k = x at c0 c1 c2 c3 c4 c5 c6 c7 d0 d1 d2 d3 d4 d5 d6 d7
      go_wp2
      go_quiet (fail)
      go_wp2
      go_roundw
      case rel => exact ⟨k + 1, _, by omega, by go_num, rfl⟩
      case measure => simp [ctr]; omega
    · go_wp2
      go_ret
      exact ⟨rfl, below_drewN (Below.refl _ _) _⟩
end Go.Proofs.Ytleblllofibfkaa
