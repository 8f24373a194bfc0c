/- The law FnExactSwept returns true, whatever the accounts. Conditions: they lie in memory; the package's errors lie as they were laid. -/
import Derived.Test.YtghkbhggopiajaaGreatDoorLawM
import Derived.Test.YtghkbhggopiajaaGreatDoorSwps
import Derived.Laws.NewBlocks
namespace Go.Proofs.YtghkbhggopiajaaGreatDoor
open Go.RowKit

theorem Cells8.grown {w w' : World} {R Q m : Nat} (h : Cells8 w R m) (g : w.grownBy w' (some Q)) (hne : R ≠ Q) : Cells8 w' R m := by
  have hb : w'.heap[R]? = w.heap[R]? := g.block R h.2.2 (fun e => hne (by simpa using e))
  exact ⟨fun o ho => by rw [World.cell?_of_block (a := ⟨R, o, none⟩) hb]; exact h.1 o ho, fun o => by rw [World.frozen?_of_block (a := ⟨R, o, none⟩) hb]; exact h.2.1 o, Nat.lt_of_lt_of_le h.2.2 g.size⟩

set_option maxRecDepth 8000 in
set_option maxHeartbeats 8000000 in
theorem lawSw_yes (a : Option Addr) (c : Nat) (L : List Acc) (p : Nat → Addr) (w : World) (hn' : L.length ≤ 1048576) (h : Fo w a L.length (FL L)) (hG : GE w p) :
    Calls Tryz.prog 7 #[.slice a L.length c] w fun e w' => e = .returned (.bool true) ∧ Below w.heap.size w w' := by
  have F0 : Hid (Fo w a L.length (FL L)) := h
  have G0 : Hid (GE w p) := hG
  obtain ⟨G, hGG⟩ : ∃ G, G = swG L := ⟨_, rfl⟩
  have hGl : G.length ≤ 1048576 := by have := swG_len L; rw [← hGG] at this; omega
  have SP : Hid (∀ w a' c', Fo w a' L.length (FL L) → Calls Tryz.prog 15 #[.slice a' L.length c'] w fun e w' => ∃ v, e = .returned v ∧ AL w' w.heap.size v G ∧ Below w.heap.size w w') := fun w a' c' h1 => by
    rw [hGG]; exact specSw a' c' L w h1
  have IM : Hid (∀ w a' c', Fo w a' L.length (FL L) → GE w p → Calls Tryz.prog 13 #[.slice a' L.length c'] w fun e w' => ∃ v, e = .returned v ∧ AL w' w.heap.size v G ∧ Below w.heap.size w w') := fun w a' c' h1 h2 => by
    rw [hGG]; exact implSw a' c' L p w h1 h2
  clear h hG hGG
  have BB0 : Hid (Below w.heap.size w w) := Below.refl _ _
  go_enter Tryz.func7, Tryz.ntmps7
  go_wp2_with fail
  refine (szAccountS_yes _ _ _ _ hn').mono ?_
  rintro e wz ⟨rfl, hwz⟩
  subst wz
  have hsz : decide (1048576 - (L.length : Int) < 0) = false := by simp; omega
  go_wp2_with fail
  refine (toAccountS a L.length c (FL L) _ (F0.out.below BB0.out)).mono ?_
  rintro e w1 ⟨rfl, R, E⟩
  have BB1 : Hid (Below w.heap.size w w1) := BB0.out.trans (E.mono BB0.out.size)
  have z1 : w.heap.size ≤ w1.heap.size := E.size
  have T0 : Hid (Row w1 w.heap.size L.length L.length (FL L)) := R
  clear E BB0 R
  go_wp2_with fail
  refine (SP.out _ _ L.length (T0.out.fo hn')).mono ?_
  rintro e w2 ⟨v0, rfl, A, E⟩
  have T0' : Hid (Row w2 w.heap.size L.length L.length (FL L)) := T0.out.below E
  have BB2 : Hid (Below w.heap.size w w2) := BB1.out.trans (E.mono BB1.out.size)
  have z2 : w1.heap.size ≤ w2.heap.size := E.size
  have J0 : Hid (AL w2 w1.heap.size v0 G) := A
  clear T0
  have T0 := T0'
  clear T0'
  clear E BB1 A
  have LJ0 : Hid (∀ q, v0.ownBlock = some q → q < w2.heap.size) := fun q hq => (World.ownsRow.lt J0.out q hq).2
  clear T0
  go_wp2_with fail
  refine (toAccountS a L.length c (FL L) _ (F0.out.below BB2.out)).mono ?_
  rintro e w3 ⟨rfl, R, E⟩
  have J0' : Hid (AL w3 w1.heap.size v0 G) := J0.out.kept E
  have BB3 : Hid (Below w.heap.size w w3) := BB2.out.trans (E.mono BB2.out.size)
  have z3 : w2.heap.size ≤ w3.heap.size := E.size
  have X0 : Hid (Row w3 w2.heap.size L.length L.length (FL L)) := R
  clear J0
  have J0 := J0'
  clear J0'
  clear E BB2 R
  have y6 : w2.heap.size < w3.heap.size := X0.out.2.2.1
  go_wp2_with fail
  refine (IM.out _ _ L.length (X0.out.fo hn') (G0.out.below BB3.out)).mono ?_
  rintro e w4 ⟨u0, rfl, A, E⟩
  have J0' : Hid (AL w4 w1.heap.size v0 G) := J0.out.kept E
  have X0' : Hid (Row w4 w2.heap.size L.length L.length (FL L)) := X0.out.below E
  have BB4 : Hid (Below w.heap.size w w4) := BB3.out.trans (E.mono BB3.out.size)
  have z4 : w3.heap.size ≤ w4.heap.size := E.size
  have K0 : Hid (AL w4 w3.heap.size u0 G) := A
  clear J0
  have J0 := J0'
  clear J0'
  clear X0
  have X0 := X0'
  clear X0'
  clear E BB3 A
  have LK0 : Hid (∀ q, u0.ownBlock = some q → w3.heap.size ≤ q) := fun q hq => (World.ownsRow.lt K0.out q hq).1
  go_wp2_with fail
  refine (eqAL_same _ _ _ _ G _ hGl K0.out J0.out).mono ?_
  rintro e w5 ⟨rfl, E⟩
  have J0' : Hid (AL w5 w1.heap.size v0 G) := J0.out.kept E
  have X0' : Hid (Row w5 w2.heap.size L.length L.length (FL L)) := X0.out.below E
  have K0' : Hid (AL w5 w3.heap.size u0 G) := K0.out.kept E
  have BB5 : Hid (Below w.heap.size w w5) := BB4.out.trans (E.mono BB4.out.size)
  have z5 : w4.heap.size ≤ w5.heap.size := E.size
  clear J0
  have J0 := J0'
  clear J0'
  clear X0
  have X0 := X0'
  clear X0'
  clear K0
  have K0 := K0'
  clear K0'
  clear E BB4 
  go_wp2_with fail
  refine (toAccountS a L.length c (FL L) _ (F0.out.below BB5.out)).mono ?_
  rintro e w6 ⟨rfl, R, E⟩
  have J0' : Hid (AL w6 w1.heap.size v0 G) := J0.out.kept E
  have X0' : Hid (Row w6 w2.heap.size L.length L.length (FL L)) := X0.out.below E
  have K0' : Hid (AL w6 w3.heap.size u0 G) := K0.out.kept E
  have BB6 : Hid (Below w.heap.size w w6) := BB5.out.trans (E.mono BB5.out.size)
  have z6 : w5.heap.size ≤ w6.heap.size := E.size
  have T0 : Hid (Row w6 w5.heap.size L.length L.length (FL L)) := R
  clear J0
  have J0 := J0'
  clear J0'
  clear X0
  have X0 := X0'
  clear X0'
  clear K0
  have K0 := K0'
  clear K0'
  clear E BB5 R
  go_wp2_with fail
  refine (eqAccountS_same _ _ L.length L.length L.length (FL L) _ (X0.out.fo hn') (T0.out.fo hn')).mono ?_
  rintro e w7 ⟨rfl, E⟩
  have J0' : Hid (AL w7 w1.heap.size v0 G) := J0.out.kept E
  have X0' : Hid (Row w7 w2.heap.size L.length L.length (FL L)) := X0.out.below E
  have K0' : Hid (AL w7 w3.heap.size u0 G) := K0.out.kept E
  have T0' : Hid (Row w7 w5.heap.size L.length L.length (FL L)) := T0.out.below E
  have BB7 : Hid (Below w.heap.size w w7) := BB6.out.trans (E.mono BB6.out.size)
  have z7 : w6.heap.size ≤ w7.heap.size := E.size
  clear J0
  have J0 := J0'
  clear J0'
  clear X0
  have X0 := X0'
  clear X0'
  clear K0
  have K0 := K0'
  clear K0'
  clear T0
  have T0 := T0'
  clear T0'
  clear E BB6 
  clear T0
  have Y0 : Hid (Cells8 w7 w2.heap.size (L.length * 8)) := ⟨X0.out.1, X0.out.2.1, X0.out.2.2.1⟩
  clear X0
  go_wp2_with fail
  refine (markRow w2.heap.size L.length L.length 1 _ hn' (by omega) (by omega) Y0.out).mono ?_
  rintro e w8 ⟨rfl, E⟩
  have J0' : Hid (AL w8 w1.heap.size v0 G) := World.ownsRow.kept J0.out E (by
    cases hb : v0.ownBlock with
    | none => exact Or.inl rfl
    | some q => right; intro e; have := LJ0.out q hb; simp at e; omega)
  have K0' : Hid (AL w8 w3.heap.size u0 G) := World.ownsRow.kept K0.out E (by
    cases hb : u0.ownBlock with
    | none => exact Or.inl rfl
    | some q => right; intro e; have := LK0.out q hb; simp at e; omega)
  have BB8 : Hid (Below w.heap.size w w8) := BB7.out.grown E BB7.out.size (fun q hq => by simp at hq; omega)
  have z8 : w7.heap.size ≤ w8.heap.size := E.size
  clear J0
  have J0 := J0'
  clear J0'
  clear K0
  have K0 := K0'
  clear K0'
  clear E BB7 Y0
  have hk8 : decide (1 + 8 * (L.length : Int) < 0) = false := by simp; omega
  go_wp2_with fail
  refine (eqAL_same _ _ _ _ G _ hGl K0.out J0.out).mono ?_
  rintro e w9 ⟨rfl, E⟩
  have J0' : Hid (AL w9 w1.heap.size v0 G) := J0.out.kept E
  have K0' : Hid (AL w9 w3.heap.size u0 G) := K0.out.kept E
  have BB9 : Hid (Below w.heap.size w w9) := BB8.out.trans (E.mono BB8.out.size)
  have z9 : w8.heap.size ≤ w9.heap.size := E.size
  clear J0
  have J0 := J0'
  clear J0'
  clear K0
  have K0 := K0'
  clear K0'
  clear E BB8 
  go_wp2_with fail
  refine (markAccs _ _ G 1 _ hGl (by omega) (by omega) K0.out).mono ?_
  rintro e w10 ⟨rfl, ⟨M, hlM, hmM, A⟩, E⟩
  have J0' : Hid (AL w10 w1.heap.size v0 G) := World.ownsRow.kept J0.out E (by
    cases hb : v0.ownBlock with
    | none => exact Or.inl rfl
    | some q =>
      right
      intro e
      have h1 := LJ0.out q hb
      have h2 := LK0.out q e.symm
      omega)
  have K0' : Hid (AL w10 w3.heap.size u0 M) := A
  have BB10 : Hid (Below w.heap.size w w10) := BB9.out.grown E BB9.out.size (fun q hq => by have := LK0.out q hq; omega)
  have z10 : w9.heap.size ≤ w10.heap.size := E.size
  clear J0
  have J0 := J0'
  clear J0'
  clear K0
  have K0 := K0'
  clear K0'
  clear E A BB9
  have HLM : Hid (M.length = G.length) := hlM
  have HMM : Hid (MarkedAcc 1 M.length M) := by rw [hlM]; exact hmM
  have hM2 : M.length ≤ 1048576 := by omega
  clear hlM hmM
  have hk9 : decide (1 + 8 * (G.length : Int) < 0) = false := by simp; omega
  have hk11 : (1 + 8 * (G.length : Int) != 1 + 8 * (G.length : Int)) = false := by simp
  go_wp2_with fail
  refine (heldAccs _ _ M 1 _ hM2 (by omega) (by omega) K0.out HMM.out).mono ?_
  rintro e wz ⟨rfl, hwz⟩
  subst wz
  rw [HLM.out]
  go_wp2_with fail
  refine (toAccountS a L.length c (FL L) _ (F0.out.below BB10.out)).mono ?_
  rintro e w11 ⟨rfl, R, E⟩
  have J0' : Hid (AL w11 w1.heap.size v0 G) := J0.out.kept E
  have K0' : Hid (AL w11 w3.heap.size u0 M) := K0.out.kept E
  have BB11 : Hid (Below w.heap.size w w11) := BB10.out.trans (E.mono BB10.out.size)
  have z11 : w10.heap.size ≤ w11.heap.size := E.size
  have T0 : Hid (Row w11 w10.heap.size L.length L.length (FL L)) := R
  clear J0
  have J0 := J0'
  clear J0'
  clear K0
  have K0 := K0'
  clear K0'
  clear E BB10 R
  go_wp2_with fail
  refine (IM.out _ _ L.length (T0.out.fo hn') (G0.out.below BB11.out)).mono ?_
  rintro e w12 ⟨t0, rfl, A, E⟩
  have J0' : Hid (AL w12 w1.heap.size v0 G) := J0.out.kept E
  have K0' : Hid (AL w12 w3.heap.size u0 M) := K0.out.kept E
  have T0' : Hid (Row w12 w10.heap.size L.length L.length (FL L)) := T0.out.below E
  have BB12 : Hid (Below w.heap.size w w12) := BB11.out.trans (E.mono BB11.out.size)
  have z12 : w11.heap.size ≤ w12.heap.size := E.size
  have H0 : Hid (AL w12 w11.heap.size t0 G) := A
  clear J0
  have J0 := J0'
  clear J0'
  clear K0
  have K0 := K0'
  clear K0'
  clear T0
  have T0 := T0'
  clear T0'
  clear E BB11 A
  clear T0
  go_wp2_with fail
  refine (eqAL_same _ _ _ _ G _ hGl H0.out J0.out).mono ?_
  rintro e w13 ⟨rfl, E⟩
  have J0' : Hid (AL w13 w1.heap.size v0 G) := J0.out.kept E
  have K0' : Hid (AL w13 w3.heap.size u0 M) := K0.out.kept E
  have H0' : Hid (AL w13 w11.heap.size t0 G) := H0.out.kept E
  have BB13 : Hid (Below w.heap.size w w13) := BB12.out.trans (E.mono BB12.out.size)
  have z13 : w12.heap.size ≤ w13.heap.size := E.size
  clear J0
  have J0 := J0'
  clear J0'
  clear K0
  have K0 := K0'
  clear K0'
  clear H0
  have H0 := H0'
  clear H0'
  clear E BB12 
  go_wp2_with fail
  refine (heldAccs _ _ M 1 _ hM2 (by omega) (by omega) K0.out HMM.out).mono ?_
  rintro e wz ⟨rfl, hwz⟩
  subst wz
  rw [HLM.out]
  go_wp2
  go_ret
  exact ⟨rfl, BB13.out⟩

/-- The law, of every list that the reach lets in. -/
theorem lawSw (a : Option Addr) (n c : Nat) (F : Nat → Acc) (p : Nat → Addr) (w : World) (hm : n ≤ 9223372036854775807) (h : n ≤ 1048576 → Fo w a n F) (hG : GE w p) :
    Calls Tryz.prog 7 #[.slice a n c] w fun e w' => e = .returned (.bool true) ∧ Below w.heap.size w w' := by
  by_cases hn : n ≤ 1048576
  · have := lawSw_yes a c (toL F n) p w (by rw [toL_len]; exact hn) (by rw [toL_len]; exact (h hn).congr (fun j hj => (FL_toL hj).symm)) hG
    rwa [toL_len] at this
  · have hn' : 1048576 < n := by omega
    clear h hn hG
    go_enter Tryz.func7, Tryz.ntmps7
    go_wp2_with (go_at_call 36; refine (szAccountS_no a n c w hn' hm).mono ?_; rintro e wz ⟨rfl, rfl⟩)
    go_ret
    exact ⟨rfl, Below.refl _ _⟩
end Go.Proofs.YtghkbhggopiajaaGreatDoor
