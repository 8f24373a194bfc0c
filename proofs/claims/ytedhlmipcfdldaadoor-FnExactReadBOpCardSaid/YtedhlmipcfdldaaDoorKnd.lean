/- l6Kind of the specification: the kind of a word. No conditions. -/
import Derived.Test.YtedhlmipcfdldaaDoorTs
import Derived.Test.YtedhlmipcfdldaaDoorNuw
namespace Go.Proofs.YtedhlmipcfdldaaDoor
open Go.RowKit

theorem neList {x y : ByteArray} (h : x ≠ y) : (x.toList == y.toList) = false := by
  rw [beq_eq_false_iff_ne, Lib.toList_data, Lib.toList_data]
  exact fun e => h (ext_ofD e)
theorem eqList (x : ByteArray) : (x.toList == x.toList) = true := by simp
/-- The kind of a word, 0 where it is none. -/
def KindIs (wd : ByteArray) (k : Nat) : Prop := (∃ h : k < wordsL.length, 1 ≤ k ∧ wordsL[k] = wd) ∨ (k = 0 ∧ ∀ j (h : j < wordsL.length), 1 ≤ j → wordsL[j] ≠ wd)
def KindTo (wd : ByteArray) (k : Nat) : Prop := ∀ j (h : j < wordsL.length), 1 ≤ j → j < k → wordsL[j] ≠ wd
theorem KindTo.step {wd : ByteArray} {k : Nat} (h : KindTo wd k) (hk : k < wordsL.length) (hn : wordsL[k] ≠ wd) : KindTo wd (k + 1) := by
  intro j hj h1 h2
  by_cases e : j = k
  · subst e; exact hn
  · exact h j hj h1 (by omega)
theorem wordsL_len : wordsL.length = 11 := rfl
set_option maxHeartbeats 2000000 in
theorem specKind (wd : ByteArray) (w : World) : Calls Tryd.prog 16 #[.string wd] w fun e w' => ∃ k : Nat, KindIs wd k ∧ k ≤ 10 ∧ e = .returned (.int .i64 k) ∧ Below w.heap.size w w' := by
  go_enter Tryd.func16, Tryd.ntmps16
  go_wp2_with fail
  refine (specWords w).mono ?_
  rintro e w1 ⟨rfl, hw1⟩
  have HC : Hid (∀ j (h : j < wordsL.length), w1.cell? ⟨w.heap.size, j, none⟩ = some (.string wordsL[j])) := by
    intro j h
    rw [hw1]
    exact words_cell w j h
  have HB : Hid (Below w.heap.size w w1) := by rw [hw1]; exact (Below.refl _ _).alloc (Nat.le_refl _) _
  clear hw1
  go_wp2
  go_loop [4] (fun i => ∃ k : Nat, 1 ≤ k ∧ k ≤ 11 ∧ i = .int .i64 k ∧ Hid (KindTo wd k)) (fun i => 11 - (intOf i).toNat)
  case atStart => exact ⟨1, by omega, by omega, rfl, (fun j h h1 h2 => by omega : KindTo wd 1)⟩
  case round =>
    obtain ⟨k, hk1, hk, rfl, hK⟩ := hrel
    by_cases hlt : k < 11
    · have hkl : k < wordsL.length := hlt
      have hc := HC.out k hkl
      obtain ⟨x, hx⟩ : ∃ x, wordsL[k] = x := ⟨_, rfl⟩
      rw [hx] at hc
      by_cases he : x = wd
      · have FI : Hid (KindIs wd k) := Or.inl ⟨hkl, hk1, hx.trans he⟩
        subst he
        clear hx hK
        go_wp2
        go_ret
        exact ⟨k, FI.out, by omega, rfl, HB.out⟩
      · have HN : Hid (KindTo wd (k + 1)) := hK.out.step hkl (by rw [hx]; exact he)
        have he' := neList he
        clear hx hK he
        go_wp2
        go_round
        case rel => exact ⟨k + 1, by omega, by omega, by go_num, HN⟩
        case measure => simp [intOf]; omega
    · have FI : Hid (KindIs wd 0) := Or.inr ⟨rfl, fun j h h1 => hK.out j h h1 (by have : j < 11 := h; omega)⟩
      clear hK
      go_wp2
      go_ret
      exact ⟨0, FI.out, by omega, rfl, HB.out⟩
end Go.Proofs.YtedhlmipcfdldaaDoor
