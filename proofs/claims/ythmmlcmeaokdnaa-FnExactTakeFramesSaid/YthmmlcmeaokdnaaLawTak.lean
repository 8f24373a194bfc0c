/- The law FnExactTakeFrames returns true, whatever the string. Conditions: what a string is at most long. -/
import Derived.Test.YthmmlcmeaokdnaaTakL
namespace Go.Proofs.Ythmmlcmeaokdnaa
open Go.RowKit

set_option maxHeartbeats 2000000 in
theorem lawTake (s : ByteArray) (hm : s.size ≤ maxLen) (w : World) :
    Calls Try.prog 5 #[.string s] w fun e w' => e = .returned (.bool true) ∧ Below w.heap.size w w' := by
  by_cases h1 : 1048576 < s.size
  · unfold maxLen at hm
    go_enter Try.func5, Try.ntmps5
    go_wp2
    go_ret
    exact ⟨rfl, Below.refl _ _⟩
  have hm' : s.size ≤ 1048576 := by omega
  have IM : Hid (∀ w, Calls Try.prog 8 #[.string s] w fun e w' => ∃ v L, ∃ a : Nat, e = .returned (.tuple #[v, .int .i64 a]) ∧ Res s L a ∧ SL w' w.heap.size v L ∧ Below w.heap.size w w') := fun w => implTake s w hm'
  have SP : Hid (∀ w, Calls Try.prog 9 #[.string s] w fun e w' => ∃ v L, ∃ a : Nat, e = .returned (.tuple #[v, .int .i64 a]) ∧ Res s L a ∧ SL w' w.heap.size v L ∧ Below w.heap.size w w') := fun w => specTake s w hm'
  clear hm
  go_enter Try.func5, Try.ntmps5
  go_wp2_with fail
  refine (SP.out _).mono ?_
  rintro e w1 ⟨v0, L, a, rfl, R1, A1, B1⟩
  have hLl : L.length ≤ 1048576 := by
    obtain ⟨j, ej, _⟩ := R1
    have hb := stF_bd s j
    rw [ej] at hb
    have := hb.1
    have := hb.2
    simp only at *
    omega
  have HR : Hid (Res s L a) := R1
  have J1 : Hid (SL w1 w.heap.size v0 L) := A1
  have LJ : Hid (∀ q, v0.ownBlock = some q → q < w1.heap.size) := fun q hq => (World.ownsRow.lt A1 q hq).2
  have BB1 : Hid (Below w.heap.size w w1) := B1
  clear R1 A1 B1 SP
  go_wp2_with fail
  refine (IM.out _).mono ?_
  rintro e w2 ⟨u0, M, b, rfl, R2, A2, B2⟩
  obtain ⟨rfl, rfl⟩ := R2.one HR.out
  have hee : (((b : Nat) : Int) != (b : Int)) = false := by simp
  have K2 : Hid (SL w2 w1.heap.size u0 M) := A2
  have LK : Hid (∀ q, u0.ownBlock = some q → w1.heap.size ≤ q) := fun q hq => (World.ownsRow.lt A2 q hq).1
  have J2 : Hid (SL w2 w.heap.size v0 M) := J1.out.kept B2
  have BB2 : Hid (Below w.heap.size w w2) := BB1.out.trans (B2.mono BB1.out.size)
  have z12 : w.heap.size ≤ w1.heap.size := BB1.out.size
  clear R2 A2 B2 J1 BB1
  go_wp2_with fail
  refine (eqS_same _ _ _ _ M _ hLl K2.out J2.out).mono ?_
  rintro e w3 ⟨rfl, B3⟩
  have K3 : Hid (SL w3 w1.heap.size u0 M) := K2.out.kept B3
  have J3 : Hid (SL w3 w.heap.size v0 M) := J2.out.kept B3
  have BB3 : Hid (Below w.heap.size w w3) := BB2.out.trans (B3.mono BB2.out.size)
  clear B3 J2 K2 BB2
  go_wp2_with fail
  refine (markS _ _ M _ hLl K3.out).mono ?_
  rintro e w4 ⟨rfl, ⟨D, hDl, hDm, A4⟩, G4⟩
  have J4 : Hid (SL w4 w.heap.size v0 M) := World.ownsRow.kept J3.out G4 (by
    cases hb : v0.ownBlock with
    | none => exact Or.inl rfl
    | some q =>
      right
      intro e
      have h1 := LJ.out q hb
      have h2 := LK.out q e.symm
      omega)
  have BB4 : Hid (Below w.heap.size w w4) := BB3.out.grown G4 BB3.out.size (fun q hq => by have := LK.out q hq; omega)
  have K4 : Hid (SL w4 w1.heap.size u0 D) := A4
  have HDL : Hid (D.length = M.length) := hDl
  have HDM : Hid (MarkS D.length D) := by rw [hDl]; exact hDm
  have hD2 : D.length ≤ 1048576 := by omega
  clear G4 A4 J3 K3 BB3 hDl hDm
  have hk1 : decide (1 + (M.length : Int) < 0) = false := by simp; omega
  have hk2 : (1 + (M.length : Int) != 1 + (M.length : Int)) = false := by simp
  go_wp2_with fail
  refine (heldS _ _ D _ hD2 K4.out HDM.out).mono ?_
  rintro e w5 ⟨rfl, B5⟩
  rw [HDL.out]
  have K5 : Hid (SL w5 w1.heap.size u0 D) := K4.out.kept B5
  have J5 : Hid (SL w5 w.heap.size v0 M) := J4.out.kept B5
  have BB5 : Hid (Below w.heap.size w w5) := BB4.out.trans (B5.mono BB4.out.size)
  clear B5 J4 K4 BB4
  go_wp2_with fail
  refine (IM.out _).mono ?_
  rintro e w6 ⟨t0, N, c, rfl, R6, A6, B6⟩
  obtain ⟨rfl, rfl⟩ := R6.one HR.out
  have K6 : Hid (SL w6 w1.heap.size u0 D) := K5.out.kept B6
  have J6 : Hid (SL w6 w.heap.size v0 N) := J5.out.kept B6
  have T6 : Hid (SL w6 w5.heap.size t0 N) := A6
  have BB6 : Hid (Below w.heap.size w w6) := BB5.out.trans (B6.mono BB5.out.size)
  clear R6 A6 B6 J5 K5 BB5
  go_wp2_with fail
  refine (eqS_same _ _ _ _ N _ hLl T6.out J6.out).mono ?_
  rintro e w7 ⟨rfl, B7⟩
  have K7 : Hid (SL w7 w1.heap.size u0 D) := K6.out.kept B7
  have BB7 : Hid (Below w.heap.size w w7) := BB6.out.trans (B7.mono BB6.out.size)
  clear B7 J6 K6 T6 BB6
  go_wp2_with fail
  refine (heldS _ _ D _ hD2 K7.out HDM.out).mono ?_
  rintro e w8 ⟨rfl, B8⟩
  rw [HDL.out]
  have BB8 : Hid (Below w.heap.size w w8) := BB7.out.trans (B8.mono BB7.out.size)
  clear B8
  go_wp2
  go_ret
  exact ⟨rfl, BB8.out⟩
end Go.Proofs.Ythmmlcmeaokdnaa
