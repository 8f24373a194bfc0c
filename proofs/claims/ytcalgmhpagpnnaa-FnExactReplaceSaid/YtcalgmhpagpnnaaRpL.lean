/- How long what Replace answers may be. No conditions. -/
import Derived.Test.YtcalgmhpagpnnaaRpI
namespace Go.Proofs.Ytcalgmhpagpnnaa
open Go.RowKit
set_option maxRecDepth 8000
theorem rep_ok : ∀ (ops : List Dp) (t : T3), (rep t ops).2 = t ∨ diskB (rep t ops).2.1 (rep t ops).2.2.1 (rep t ops).2.2.2 = true
  | [], _ => Or.inl rfl
  | o :: r, t => by
    unfold rep
    split
    · rename_i h
      rcases rep_ok r (nxt t o) with k | k
      · rw [k]
        exact Or.inr (next_ok h)
      · exact Or.inr k
    · exact Or.inl rfl
theorem repT_len {L1 L2 : List Fl} {L3 : List Dp} (nm dt : ByteArray) (h1 : L1.length ≤ 1048576) (h2 : L2.length ≤ 1048576) (h3 : L3.length ≤ 1048576) :
    (repT (L1, L2, L3) nm dt).1.length ≤ 1048576 ∧ (repT (L1, L2, L3) nm dt).2.1.length ≤ 1048576 ∧ (repT (L1, L2, L3) nm dt).2.2.length ≤ 1048576 := by
  unfold repT
  split
  · rcases rep_ok (rOps (L1, L2, L3) nm dt) (L1, L2, L3) with k | k
    · rw [k]; exact ⟨h1, h2, h3⟩
    · simp only [diskB, Bool.and_eq_true, decide_eq_true_eq] at k
      obtain ⟨⟨⟨k1, k2⟩, k3⟩, _⟩ := k
      have e1 := (filesB_iff.1 k1).1.1
      have e2 := (filesB_iff.1 k2).1.1
      exact ⟨by omega, by omega, by omega⟩
  split
  · exact ⟨by simp, by simp, by simp⟩
  · exact ⟨h1, h2, h3⟩
end Go.Proofs.Ytcalgmhpagpnnaa
