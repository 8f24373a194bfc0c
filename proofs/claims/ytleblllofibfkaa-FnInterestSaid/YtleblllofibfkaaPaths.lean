/- PathOf, of the program and of the specification: both answer the same path. Conditions: the accounts lie in memory. -/
import Derived.Test.YtleblllofibfkaaPathI
namespace Go.Proofs.Ytleblllofibfkaa
open Go.RowKit
set_option maxRecDepth 8000

theorem chain_len (F : Nat → Acc) (n : Nat) : ∀ (m : Nat) (id : Int) (l : List Int), chain F n m id = some l → l.length ≤ m
  | 0, id, l, h => by
    by_cases h0 : id = 0
    · simp [chain, h0] at h; simp [h]
    · simp [chain, h0] at h
  | m + 1, id, l, h => by
    by_cases h0 : id = 0
    · simp [chain, h0] at h; simp [h]
    · simp only [chain, if_neg h0] at h
      cases hp : place F n id with
      | none => rw [hp] at h; cases h
      | some i =>
        rw [hp] at h
        simp only [Option.map_eq_some_iff] at h
        obtain ⟨l', h1, rfl⟩ := h
        have := chain_len F n m _ l' h1
        simp
        exact this

end Go.Proofs.Ytleblllofibfkaa
