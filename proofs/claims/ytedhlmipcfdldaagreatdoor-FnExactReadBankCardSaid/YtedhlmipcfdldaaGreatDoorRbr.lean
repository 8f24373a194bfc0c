/- ReadBank of the program. Conditions: texts of at most 1048576 bytes; the package's errors are there, the library's powers of ten as its text lays them. -/
import Derived.Test.YtedhlmipcfdldaaGreatDoorRwh
namespace Go.Proofs.YtedhlmipcfdldaaGreatDoor
open Go.RowKit Go.Shelf
set_option maxRecDepth 8000

set_option maxHeartbeats 4000000 in
theorem implReadW (s : ByteArray) (hs : s.size ≤ 1048576) (w : World) (g : Glo w) : Calls Tryz.prog 5 #[.string s] w fun e w' => WOut w s e w' := by
  obtain ⟨h, hh⟩ : ∃ h, w.heap.size = h := ⟨_, rfl⟩
  have HH : Hid (w.heap.size = h) := hh
  obtain ⟨W0, hW0, X0⟩ : ∃ W0, W0 = w.alloc (.cells zBk.toArray 25) ∧ Hid (Vals W0 h zBk ∧ Below h w W0 ∧ Glo W0 ∧ W0.heap.size = h + 1) := by
    have bb : Below w.heap.size w (w.alloc (.cells zBk.toArray 25)) := (Below.refl _ _).alloc (Nat.le_refl _) _
    exact ⟨_, rfl, by rw [← hh]; exact Vals.new _ _ _, by rw [← hh]; exact bb, g.below bb, by simp [hh]⟩
  have HW0 : Hid (W0 = w.alloc (.cells #[.int .i64 0, .slice none 0 0, .slice none 0 0, .int .i64 0, .int .i64 0, .int .i64 0, .int .i64 0] 25)) := hW0
  clear hW0 g
  go_enter Tryz.func5, Tryz.ntmps5
  go_wp2_with fail
  rw [← HW0.out]
  clear HW0 hh
  refine (wholeL s hs W0 X0.out.2.2.1).mono ?_
  rintro e w1 ⟨B1, hor⟩
  rw [X0.out.2.2.2] at hor
  have X1 : Hid (Vals w1 h zBk ∧ Below h w w1) := ⟨X0.out.1.kept B1 X0.out.1.2.2, X0.out.2.1.trans (B1.mono (by have := X0.out.1.2.2; omega))⟩
  clear B1 X0
  obtain ⟨k, a1, m1, c1, a2, m2, c2, b, rfl, HF⟩ : ∃ (k : Bk) (a1 : Option Addr) (m1 c1 : Nat) (a2 : Option Addr) (m2 c2 : Nat) (b : Bool), e = .returned (.tuple #[.agg (bkC k (.slice a1 m1 c1) (.slice a2 m2 c2)).toArray, .bool b]) ∧ Hid (WOut w s e ((((((((w1).setCell ⟨h, 0, none⟩ (.int .i64 k.day)).setCell ⟨h, 1, none⟩ (.slice a1 m1 c1)).setCell ⟨h, 2, none⟩ (.slice a2 m2 c2)).setCell ⟨h, 3, none⟩ (.int .i64 k.inn)).setCell ⟨h, 4, none⟩ (.int .i64 k.out)).setCell ⟨h, 5, none⟩ (.int .i64 k.posted)).setCell ⟨h, 6, none⟩ (.int .i64 k.missed))) := by
    rcases hor with ⟨k, L, O, v, u, hr, rfl, A1, O1⟩ | ⟨hr, rfl⟩
    · obtain ⟨a1, c1, hv⟩ := A1.len
      obtain ⟨a2, c2, hu, _⟩ := O1.shape
      subst hv
      subst hu
      exact ⟨k, a1, L.length, c1, a2, O.length, c2, true, rfl, by rw [HH.out]; exact (((((((X1.out.2).setCell (p := ⟨h, 0, none⟩) (Nat.le_refl _) _).setCell (p := ⟨h, 1, none⟩) (Nat.le_refl _) _).setCell (p := ⟨h, 2, none⟩) (Nat.le_refl _) _).setCell (p := ⟨h, 3, none⟩) (Nat.le_refl _) _).setCell (p := ⟨h, 4, none⟩) (Nat.le_refl _) _).setCell (p := ⟨h, 5, none⟩) (Nat.le_refl _) _).setCell (p := ⟨h, 6, none⟩) (Nat.le_refl _) _, Or.inl ⟨k, L, O, _, _, hr, rfl, AL.mono ((((((((A1).put (q := h) (by omega) 0 _).put (q := h) (by omega) 1 _).put (q := h) (by omega) 2 _).put (q := h) (by omega) 3 _).put (q := h) (by omega) 4 _).put (q := h) (by omega) 5 _).put (q := h) (by omega) 6 _) (by rw [HH.out]; omega), OrdL.mono ((((((((O1).put (q := h) (by omega) 0 _).put (q := h) (by omega) 1 _).put (q := h) (by omega) 2 _).put (q := h) (by omega) 3 _).put (q := h) (by omega) 4 _).put (q := h) (by omega) 5 _).put (q := h) (by omega) 6 _) (by rw [HH.out]; omega)⟩⟩
    · exact ⟨⟨0, 0, 0, 0, 0⟩, none, 0, 0, none, 0, 0, false, rfl, by rw [HH.out]; exact (((((((X1.out.2).setCell (p := ⟨h, 0, none⟩) (Nat.le_refl _) _).setCell (p := ⟨h, 1, none⟩) (Nat.le_refl _) _).setCell (p := ⟨h, 2, none⟩) (Nat.le_refl _) _).setCell (p := ⟨h, 3, none⟩) (Nat.le_refl _) _).setCell (p := ⟨h, 4, none⟩) (Nat.le_refl _) _).setCell (p := ⟨h, 5, none⟩) (Nat.le_refl _) _).setCell (p := ⟨h, 6, none⟩) (Nat.le_refl _) _, Or.inr ⟨hr, rfl⟩⟩
  clear hor
  have r0 := X1.out.1.1 0 _ rfl
  have r1 := X1.out.1.1 1 _ rfl
  have r2 := X1.out.1.1 2 _ rfl
  have r3 := X1.out.1.1 3 _ rfl
  have r4 := X1.out.1.1 4 _ rfl
  have r5 := X1.out.1.1 5 _ rfl
  have r6 := X1.out.1.1 6 _ rfl
  have fz := X1.out.1.2.1
  simp only [bkC]
  simp only [bkC] at HF
  go_wp2
  refine bodyPost_ret (v := .tuple #[.agg (bkC k (.slice a1 m1 c1) (.slice a2 m2 c2)).toArray, .bool b]) (by simp [results, Tryz.results5, go_sem, bkC, r0, r1, r2, r3, r4, r5, r6]) rfl ?_
  exact HF.out
end Go.Proofs.YtedhlmipcfdldaaGreatDoor
