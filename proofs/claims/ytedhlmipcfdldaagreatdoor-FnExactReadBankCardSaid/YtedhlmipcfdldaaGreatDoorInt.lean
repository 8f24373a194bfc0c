/- l1Int of the specification. Conditions: texts of at most 1048576 bytes. -/
import Derived.Test.YtedhlmipcfdldaaGreatDoorCut
namespace Go.Proofs.YtedhlmipcfdldaaGreatDoor
open Go.RowKit

theorem is48 {b : UInt8} : ((b.toNat : Int) = 48) ↔ b = 48 := ⟨fun h => UInt8.toNat_inj.1 (by show b.toNat = 48; omega), fun h => by rw [h]; rfl⟩
theorem is45 {b : UInt8} : ((b.toNat : Int) = 45) ↔ b = 45 := ⟨fun h => UInt8.toNat_inj.1 (by show b.toNat = 45; omega), fun h => by rw [h]; rfl⟩
/-- Behind its sign. -/
theorem neg_mag {s t : ByteArray} (h1 : 1 < s.size) (h2 : s[0] = 45) (ht : s.extract 1 s.size = t) : negL s.data.toList = true ∧ magL s.data.toList = t.data.toList := by
  have hn : negL s.data.toList = true := by
    unfold negL
    rw [(head_45 (by omega)).2 h2]
    simp
    omega
  refine ⟨hn, ?_⟩
  unfold magL
  rw [if_pos hn, ← ht, extLD, List.take_of_length_le (by simp)]
  simp
theorem pos_mag {s : ByteArray} (h : s.size ≤ 1 ∨ ∃ h : 0 < s.size, s[0] ≠ 45) : negL s.data.toList = false ∧ magL s.data.toList = s.data.toList := by
  have hn : negL s.data.toList = false := by
    unfold negL
    rcases h with h | ⟨h0, h⟩
    · simp; omega
    · have := mt (head_45 h0).1 h
      simp [this]
  refine ⟨hn, ?_⟩
  unfold magL
  rw [if_neg (by rw [hn]; simp)]
def Z (t : ByteArray) : Prop := ∃ h : 0 < t.size, t[0] = 48
theorem bad_iff {s t : ByteArray} {g : Bool} (hg : negL s.data.toList = g) (hm : magL s.data.toList = t.data.toList) : badL s.data.toList ↔ (t.size < 1 ∨ 16 < t.size ∨ (Z t ∧ (1 < t.size ∨ g = true))) := by
  unfold badL
  rw [hg, hm, lenD]
  by_cases h0 : 0 < t.size
  · rw [head_48 h0]
    have : Z t ↔ t[0] = 48 := ⟨fun h => h.2, fun h => ⟨h0, h⟩⟩
    rw [this]
  · constructor <;> intro _ <;> exact Or.inl (by omega)
/-- The rest of the walk is one for both signs: what lies ahead is a fact of the frame. -/
def IntTail (g : Bool) (t : ByteArray) (s : ByteArray) (w : World) : Prop :=
  (∀ W, Below w.heap.size w W → (t.size < 1 ∨ 16 < t.size ∨ (Z t ∧ (1 < t.size ∨ g = true))) → IntOut s w (.returned (.tuple #[.int .i64 0, .bool false])) W) ∧
  (∀ W, Below w.heap.size w W → (¬ ∀ b ∈ t.data.toList, Dig b) → IntOut s w (.returned (.tuple #[.int .i64 0, .bool false])) W) ∧
  (∀ W k n, Below w.heap.size w W → ¬ (t.size < 1 ∨ 16 < t.size ∨ (Z t ∧ (1 < t.size ∨ g = true))) → DigsTo t k n → t.size ≤ k → IntOut s w (.returned (.tuple #[.int .i64 (if g then -n else n), .bool true])) W)
theorem intTail {g : Bool} {s t : ByteArray} {w : World} (hg : negL s.data.toList = g) (hm : magL s.data.toList = t.data.toList) : IntTail g t s w := by
  refine ⟨fun W hb h => IntOut.no hb (Or.inl ((bad_iff hg hm).2 h)), fun W hb h => IntOut.no hb (Or.inr (by rw [hm]; exact h)), fun W k n hb h hd hk => ?_⟩
  obtain ⟨h1, h2⟩ := digs_all hd hk
  refine IntOut.yes hb (fun e => h ((bad_iff hg hm).1 e)) (by rw [hm]; exact h1) ?_
  rw [hg, hm, h2]
end Go.Proofs.YtedhlmipcfdldaaGreatDoor
