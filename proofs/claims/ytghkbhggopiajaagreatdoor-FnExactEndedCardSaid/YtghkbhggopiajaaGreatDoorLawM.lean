/- Laws' helpers for accounts: marks into a copy, whatever it holds; a comparison. Conditions: they lie in memory, at most 1048576 of them. -/
import Derived.Test.YtghkbhggopiajaaGreatDoorMarks
import Derived.Test.YtghkbhggopiajaaGreatDoorDoneI
namespace Go.Proofs.YtghkbhggopiajaaGreatDoor
open Go.RowKit
set_option maxRecDepth 8000

theorem eqAL_same (B1 B2 : Nat) (v1 v2 : Value) (l : List Acc) (w : World) (hl : l.length ≤ 1048576) (h1 : AL w B1 v1 l) (h2 : AL w B2 v2 l) :
    Calls Tryz.prog 38 #[v1, v2] w fun e w' => e = .returned (.bool true) ∧ Below w.heap.size w w' := by
  obtain ⟨a1, m1, rfl, _, _⟩ := h1.shape
  obtain ⟨a2, m2, rfl, _, _⟩ := h2.shape
  exact eqAccountS_same a1 a2 l.length m1 m2 (FL l) w (h1.fo hl).2 (h2.fo hl).2
theorem doneAny_len (L : List Acc) (k i t m r : Int) (hl : L.length ≤ 1048576) : (doneAny L k i t m r).2.length ≤ 1048576 := by
  unfold doneAny
  split
  · rename_i hR
    have h12 := hR.1
    have hp := partS_len L k i t m r
    unfold doneS
    split
    · unfold finS
      split
      · split
        · omega
        · exact hl
      · exact hl
    · exact hl
  · simp

/-- A row of cells of a call's own, whatever they hold. -/
def Cells8 (w : World) (R m : Nat) : Prop := (∀ o, o < m → (w.cell? ⟨R, o, none⟩).isSome = true) ∧ (∀ o, w.frozen? ⟨R, o, none⟩ = false) ∧ R < w.heap.size
theorem Cells8.set {w : World} {R m : Nat} (h : Cells8 w R m) (o : Nat) (u : Value) : Cells8 (w.setCell ⟨R, o, none⟩ u) R m := by
  refine ⟨fun q hq => ?_, fun q => by rw [World.frozen?_setCell]; exact h.2.1 q, by simpa [World.setCell] using h.2.2⟩
  obtain ⟨v, hv⟩ := Option.isSome_iff_exists.1 (h.1 q hq)
  obtain ⟨v', hv'⟩ := cell?_setCell_some (p := ⟨R, o, none⟩) (x := u) hv
  rw [hv']; rfl

set_option maxRecDepth 8000 in
set_option maxHeartbeats 2000000 in
theorem markRow (R n m : Nat) (k0 : Int) (w : World) (hn : n ≤ 1048576) (k1 : 0 ≤ k0) (k2 : k0 ≤ 100000000) (h : Cells8 w R (n * 8)) :
    Calls Tryz.prog 39 #[.slice (some ⟨R, 0, none⟩) n m, .int .i64 k0] w fun e w' => e = .returned (.int .i64 (k0 + 8 * (n : Int))) ∧ w.grownBy w' (some R) := by
  have H : Hid (Cells8 w R (n * 8)) := h
  clear h
  go_enter Tryz.func39, Tryz.ntmps39
  go_wp2
  go_loopw [1, 5] (fun t i wr => ∃ k : Nat, k ≤ n ∧ i = .int .i64 k ∧ t = .int .i64 (k0 + 8 * (k : Int)) ∧ Hid (Cells8 wr R (n * 8)) ∧ Hid (w.grownBy wr (some R))) (fun _ i _ => n - (intOf i).toNat)
  case atStart => exact ⟨0, Nat.zero_le _, rfl, by simp, H, World.grownBy.refl _ _⟩
  case round =>
    obtain ⟨k, hk, rfl, rfl, hC, hG⟩ := hrel
    by_cases hlt : k < n
    · obtain ⟨s1, s2, s3⟩ := hC.out
      obtain ⟨v0, e0⟩ := Option.isSome_iff_exists.1 (s1 (k * 8) (by omega))
      obtain ⟨v1, e1⟩ := Option.isSome_iff_exists.1 (s1 (k * 8 + 1) (by omega))
      obtain ⟨v2, e2⟩ := Option.isSome_iff_exists.1 (s1 (k * 8 + 2) (by omega))
      obtain ⟨v3, e3⟩ := Option.isSome_iff_exists.1 (s1 (k * 8 + 3) (by omega))
      obtain ⟨v4, e4⟩ := Option.isSome_iff_exists.1 (s1 (k * 8 + 4) (by omega))
      obtain ⟨v5, e5⟩ := Option.isSome_iff_exists.1 (s1 (k * 8 + 5) (by omega))
      obtain ⟨v6, e6⟩ := Option.isSome_iff_exists.1 (s1 (k * 8 + 6) (by omega))
      obtain ⟨v7, e7⟩ := Option.isSome_iff_exists.1 (s1 (k * 8 + 7) (by omega))
      clear s1
      go_wp2
      go_roundw
      case rel =>
        refine ⟨k + 1, by omega, by go_num, by go_num, ?_, ?_⟩
        · exact ((((((((hC.out.set _ _).set _ _).set _ _).set _ _).set _ _).set _ _).set _ _).set _ _)
        · exact grown_transAcc (grown_transAcc (grown_transAcc (grown_transAcc (grown_transAcc (grown_transAcc (grown_transAcc (grown_transAcc (hG.out) (grown_set1Acc _ _ _ _)) (grown_set1Acc _ _ _ _)) (grown_set1Acc _ _ _ _)) (grown_set1Acc _ _ _ _)) (grown_set1Acc _ _ _ _)) (grown_set1Acc _ _ _ _)) (grown_set1Acc _ _ _ _)) (grown_set1Acc _ _ _ _)
      case measure => simp [intOf]; omega
    · have hkn : k = n := by omega
      subst hkn
      go_wp2
      go_ret
      exact ⟨rfl, hG.out⟩

end Go.Proofs.YtghkbhggopiajaaGreatDoor
