/- The law FnExactPathOf returns true, whatever the accounts and the id. Conditions: the accounts lie in memory. -/
import Derived.Test.YtggnlojlhgenlaaPaths
namespace Go.Proofs.Ytggnlojlhgenlaa
open Go.RowKit

set_option maxHeartbeats 2000000 in
theorem lawPath (a : Option Addr) (n c : Nat) (F : Nat → Acc) (id : Int) (w : World) (hm : n ≤ 9223372036854775807) (h : n ≤ 1048576 → Fo w a n F) :
    Calls Try.prog 5 #[.slice a n c, .int .i64 id] w fun e w' => e = .returned (.bool true) ∧ Below w.heap.size w w' := by
  by_cases hn : n ≤ 1048576
  · obtain ⟨l, hl, sp, im⟩ := both_path n F id hn
    have SP : Hid (∀ w a' c', Fo w a' n F → Calls Try.prog 18 #[.slice a' n c', .int .i64 id] w fun e w' => ∃ v, e = .returned v ∧ IL w' w.heap.size v l ∧ Below w.heap.size w w') := sp
    have IM : Hid (∀ w a' c', Fo w a' n F → Calls Try.prog 19 #[.slice a' n c', .int .i64 id] w fun e w' => ∃ v, e = .returned v ∧ IL w' w.heap.size v l ∧ Below w.heap.size w w') := im
    clear sp im
    have H : Hid (Fo w a n F) := h hn
    clear h
    go_enter Try.func5, Try.ntmps5
    go_wp2_with fail
    refine (szAccountS_yes _ _ _ _ hn).mono ?_
    rintro e wz ⟨rfl, hwz⟩
    have e0 : w = wz := hwz.symm
    subst e0
    clear hwz
    go_wp2_with fail
    refine (toAccountS a n c F _ H.out).mono ?_
    rintro e w1 ⟨rfl, R1, B1⟩
    go_wp2_with fail
    refine (SP.out _ _ n (R1.fo hn)).mono ?_
    rintro e w2 ⟨v0, rfl, J2, B2⟩
    have B2' : Hid (Below w.heap.size w w2) := B1.trans (B2.mono B1.size)
    have J2' : Hid (IL w2 w1.heap.size v0 l) := J2
    have z12 : w1.heap.size ≤ w2.heap.size := B2.size
    have z01 : w.heap.size ≤ w1.heap.size := B1.size
    clear B1 B2 R1 J2
    go_wp2_with fail
    refine (toAccountS a n c F _ (H.out.below B2'.out)).mono ?_
    rintro e w3 ⟨rfl, R3, B3⟩
    have R3' : Hid (Row w3 w2.heap.size n n F) := R3
    have J3 : Hid (IL w3 w1.heap.size v0 l ∧ ∀ q, v0.ownBlock = some q → q < w2.heap.size) := ⟨J2'.out.kept B3, fun q hq => (World.ownsRow.lt J2'.out q hq).2⟩
    have B3' : Hid (Below w.heap.size w w3) := B2'.out.trans (B3.mono B2'.out.size)
    have z23 : w2.heap.size < w3.heap.size := R3.2.2.1
    clear B3 R3 J2' B2'
    go_wp2_with fail
    refine (IM.out _ _ n (R3'.out.fo hn)).mono ?_
    rintro e w4 ⟨u0, rfl, K4, B4⟩
    have R4 : Hid (Row w4 w2.heap.size n n F) := R3'.out.below B4
    have J4 : Hid (IL w4 w1.heap.size v0 l ∧ ∀ q, v0.ownBlock = some q → q < w2.heap.size) := ⟨J3.out.1.kept B4, J3.out.2⟩
    have K4' : Hid (IL w4 w3.heap.size u0 l ∧ ∀ q, u0.ownBlock = some q → w3.heap.size ≤ q) := ⟨K4, fun q hq => (World.ownsRow.lt K4 q hq).1⟩
    have B4' : Hid (Below w.heap.size w w4) := B3'.out.trans (B4.mono B3'.out.size)
    clear B4 R3' J3 B3' K4
    go_wp2_with fail
    refine (eqInts_same w3.heap.size w1.heap.size u0 v0 l _ hl K4'.out.1 J4.out.1).mono ?_
    rintro e w5 ⟨rfl, B5⟩
    have R5 : Hid (Row w5 w2.heap.size n n F) := R4.out.below B5
    have J5 : Hid (IL w5 w1.heap.size v0 l ∧ ∀ q, v0.ownBlock = some q → q < w2.heap.size) := ⟨J4.out.1.kept B5, J4.out.2⟩
    have K5 : Hid (IL w5 w3.heap.size u0 l ∧ ∀ q, u0.ownBlock = some q → w3.heap.size ≤ q) := ⟨K4'.out.1.kept B5, K4'.out.2⟩
    have B5' : Hid (Below w.heap.size w w5) := B4'.out.trans (B5.mono B4'.out.size)
    clear B5 R4 J4 K4' B4'
    go_wp2_with fail
    refine (toAccountS a n c F _ (H.out.below B5'.out)).mono ?_
    rintro e w6 ⟨rfl, R6, B6⟩
    have R6' : Hid (Row w6 w2.heap.size n n F) := R5.out.below B6
    have J6 : Hid (IL w6 w1.heap.size v0 l ∧ ∀ q, v0.ownBlock = some q → q < w2.heap.size) := ⟨J5.out.1.kept B6, J5.out.2⟩
    have K6 : Hid (IL w6 w3.heap.size u0 l ∧ ∀ q, u0.ownBlock = some q → w3.heap.size ≤ q) := ⟨K5.out.1.kept B6, K5.out.2⟩
    have B6' : Hid (Below w.heap.size w w6) := B5'.out.trans (B6.mono B5'.out.size)
    clear B6 R5 J5 K5 B5'
    go_wp2_with fail
    refine (eqAccountS_same _ _ n n n F _ (R6'.out.fo hn) (R6.fo hn)).mono ?_
    rintro e w7 ⟨rfl, B7⟩
    have R7 : Hid (Row w7 w2.heap.size n n F) := R6'.out.below B7
    have J7 : Hid (IL w7 w1.heap.size v0 l ∧ ∀ q, v0.ownBlock = some q → q < w2.heap.size) := ⟨J6.out.1.kept B7, J6.out.2⟩
    have K7 : Hid (IL w7 w3.heap.size u0 l ∧ ∀ q, u0.ownBlock = some q → w3.heap.size ≤ q) := ⟨K6.out.1.kept B7, K6.out.2⟩
    have B7' : Hid (Below w.heap.size w w7) := B6'.out.trans (B7.mono B6'.out.size)
    clear B7 R6 R6' J6 K6 B6'
    go_wp2_with fail
    refine (markAccs w2.heap.size n n _ hn ⟨R7.out.1, R7.out.2.1, R7.out.2.2.1⟩).mono ?_
    rintro e w8 ⟨rfl, G8⟩
    have J8 : Hid (IL w8 w1.heap.size v0 l ∧ ∀ q, v0.ownBlock = some q → q < w2.heap.size) := ⟨World.ownsRow.kept J7.out.1 G8 (by
      cases hb : v0.ownBlock with
      | none => exact Or.inl rfl
      | some q => right; intro e; have := J7.out.2 q hb; simp at e; omega), J7.out.2⟩
    have K8 : Hid (IL w8 w3.heap.size u0 l ∧ ∀ q, u0.ownBlock = some q → w3.heap.size ≤ q) := ⟨World.ownsRow.kept K7.out.1 G8 (by
      cases hb : u0.ownBlock with
      | none => exact Or.inl rfl
      | some q => right; intro e; have := K7.out.2 q hb; simp at e; omega), K7.out.2⟩
    have B8' : Hid (Below w.heap.size w w8) := B7'.out.grown G8 B7'.out.size (fun q hq => by simp at hq; omega)
    clear G8 R7 J7 K7 B7'
    go_wp2_with fail
    refine (eqInts_same w3.heap.size w1.heap.size u0 v0 l _ hl K8.out.1 J8.out.1).mono ?_
    rintro e w9 ⟨rfl, B9⟩
    have J9 : Hid (IL w9 w1.heap.size v0 l ∧ ∀ q, v0.ownBlock = some q → q < w2.heap.size) := ⟨J8.out.1.kept B9, J8.out.2⟩
    have K9 : Hid (IL w9 w3.heap.size u0 l ∧ ∀ q, u0.ownBlock = some q → w3.heap.size ≤ q) := ⟨K8.out.1.kept B9, K8.out.2⟩
    have B9' : Hid (Below w.heap.size w w9) := B8'.out.trans (B9.mono B8'.out.size)
    clear B9 J8 K8 B8'
    go_wp2_with fail
    refine (markInts w3.heap.size u0 l _ hl K9.out.1).mono ?_
    rintro e w10 ⟨rfl, ⟨L, hLl, hLm, K10⟩, G10⟩
    have J10 : Hid (IL w10 w1.heap.size v0 l) := World.ownsRow.kept J9.out.1 G10 (by
      cases hb : v0.ownBlock with
      | none => exact Or.inl rfl
      | some q =>
        right
        intro e
        have h1 := J9.out.2 q hb
        have h2 := K9.out.2 q e.symm
        omega)
    have B10 : Hid (Below w.heap.size w w10) := B9'.out.grown G10 B9'.out.size (fun q hq => by have := K9.out.2 q hq; omega)
    have K10' : Hid (IL w10 w3.heap.size u0 L) := K10
    have HL : Hid (L.length = l.length) := hLl
    have HM : Hid (Marked 1 L.length L) := by rw [← hLl] at hLm; exact hLm
    have hL2 : L.length ≤ 1048576 := by rw [hLl]; exact hl
    clear G10 J9 K9 B9' K10 hLl hLm
    go_wp2_with fail
    refine (heldInts w3.heap.size u0 L _ hL2 K10'.out HM.out).mono ?_
    rintro e w11 ⟨rfl, hw11⟩
    subst hw11
    rw [HL.out]
    go_wp2_with fail
    refine (toAccountS a n c F _ (H.out.below B10.out)).mono ?_
    rintro e w12 ⟨rfl, R12, B12⟩
    have J12 : Hid (IL w12 w1.heap.size v0 l) := J10.out.kept B12
    have K12 : Hid (IL w12 w3.heap.size u0 L) := K10'.out.kept B12
    have B12' : Hid (Below w.heap.size w w12) := B10.out.trans (B12.mono B10.out.size)
    clear B12 J10 K10' B10
    go_wp2_with fail
    refine (IM.out _ _ n (R12.fo hn)).mono ?_
    rintro e w13 ⟨t0, rfl, T13, B13⟩
    have J13 : Hid (IL w13 w1.heap.size v0 l) := J12.out.kept B13
    have K13 : Hid (IL w13 w3.heap.size u0 L) := K12.out.kept B13
    have T13' : Hid (IL w13 w12.heap.size t0 l) := T13
    have B13' : Hid (Below w.heap.size w w13) := B12'.out.trans (B13.mono B12'.out.size)
    clear B13 J12 K12 B12' T13 R12
    go_wp2_with fail
    refine (eqInts_same w12.heap.size w1.heap.size t0 v0 l _ hl T13'.out J13.out).mono ?_
    rintro e w14 ⟨rfl, B14⟩
    have K14 : Hid (IL w14 w3.heap.size u0 L) := K13.out.kept B14
    have B14' : Hid (Below w.heap.size w w14) := B13'.out.trans (B14.mono B13'.out.size)
    clear B14 J13 K13 B13' T13'
    go_wp2_with fail
    refine (heldInts w3.heap.size u0 L _ hL2 K14.out HM.out).mono ?_
    rintro e w15 ⟨rfl, hw15⟩
    subst hw15
    rw [HL.out]
    go_wp2
    go_ret
    exact ⟨rfl, B14'.out⟩
  · clear h
    go_enter Try.func5, Try.ntmps5
    go_wp2_with (go_at_call 10; refine (szAccountS_no _ _ _ _ (by omega) hm).mono ?_; rintro e w' ⟨rfl, rfl⟩)
    go_ret
    exact ⟨rfl, Below.refl _ _⟩
end Go.Proofs.Ytggnlojlhgenlaa
