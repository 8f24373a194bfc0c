/- The law FnExactDueOn returns true, whatever the orders and the day. Conditions: the orders lie in memory. -/
import Derived.Test.YtlndklendejjdaaDueOn
namespace Go.Proofs.Ytlndklendejjdaa
open Go.RowKit

theorem eqOrdL_same (B1 B2 : Nat) (v1 v2 : Value) (l : List Ord) (w : World) (hl : l.length ≤ 1048576) (h1 : OrdL w B1 v1 l) (h2 : OrdL w B2 v2 l) :
    Calls Try.prog 20 #[v1, v2] w fun e w' => e = .returned (.bool true) ∧ Below w.heap.size w w' := by
  obtain ⟨a1, m1, rfl, _, _⟩ := h1.shape
  obtain ⟨a2, m2, rfl, _, _⟩ := h2.shape
  exact eqSOrd_same a1 a2 l.length m1 m2 (OrdF l) w (h1.list hl).2 (h2.list hl).2
theorem both_due (n : Nat) (F : Nat → Ord) (d : Int) (hn : n ≤ 1048576) : ∃ l : List Ord, l.length ≤ 1048576 ∧ (∀ w a' c', Ords w a' n F → Calls Try.prog 23 #[.slice a' n c', .int .i64 d] w fun e w' => ∃ v, e = .returned v ∧ OrdL w' w.heap.size v l ∧ Below w.heap.size w w') ∧
    ∀ w a' c', Ords w a' n F → Calls Try.prog 24 #[.slice a' n c', .int .i64 d] w fun e w' => ∃ v, e = .returned v ∧ OrdL w' w.heap.size v l ∧ Below w.heap.size w w' :=
  ⟨dueL F n d, Nat.le_trans (dueL_len F n d) hn, fun w a' c' h => specDueOn a' n c' F d w h, fun w a' c' h => implDueOn a' n c' F d w h⟩
/-- A row of cells of a call's own, whatever they hold. -/
def Cells (w : World) (R m : Nat) : Prop := (∀ o, o < m → (w.cell? ⟨R, o, none⟩).isSome = true) ∧ (∀ o, w.frozen? ⟨R, o, none⟩ = false) ∧ R < w.heap.size
theorem Cells.set {w : World} {R m : Nat} (h : Cells w R m) (o : Nat) (u : Value) : Cells (w.setCell ⟨R, o, none⟩ u) R m := by
  refine ⟨fun q hq => ?_, fun q => by rw [World.frozen?_setCell]; exact h.2.1 q, by simpa [World.setCell] using h.2.2⟩
  obtain ⟨v, hv⟩ := Option.isSome_iff_exists.1 (h.1 q hq)
  obtain ⟨v', hv'⟩ := cell?_setCell_some (p := ⟨R, o, none⟩) (x := u) hv
  rw [hv']; rfl

set_option maxHeartbeats 2000000 in
theorem markRow (R n m : Nat) (k0 : Int) (w : World) (hn : n ≤ 1048576) (k1 : 0 ≤ k0) (k2 : k0 ≤ 100000000) (h : Cells w R (n * 7)) :
    Calls Try.prog 25 #[.slice (some ⟨R, 0, none⟩) n m, .int .i64 k0] w fun e w' => e = .returned (.int .i64 (k0 + 7 * (n : Int))) ∧ w.grownBy w' (some R) := by
  have H : Hid (Cells w R (n * 7)) := h
  clear h
  go_enter Try.func25, Try.ntmps25
  go_wp2
  go_loopw [1, 5] (fun t i wr => ∃ k : Nat, k ≤ n ∧ i = .int .i64 k ∧ t = .int .i64 (k0 + 7 * (k : Int)) ∧ Hid (Cells wr R (n * 7)) ∧ Hid (w.grownBy wr (some R))) (fun _ i _ => n - (intOf i).toNat)
  case atStart => exact ⟨0, Nat.zero_le _, rfl, by simp, H, World.grownBy.refl _ _⟩
  case round =>
    obtain ⟨k, hk, rfl, rfl, hC, hG⟩ := hrel
    by_cases hlt : k < n
    · obtain ⟨s1, s2, s3⟩ := hC.out
      obtain ⟨v0, e0⟩ := Option.isSome_iff_exists.1 (s1 (k * 7) (by omega))
      obtain ⟨v1, e1⟩ := Option.isSome_iff_exists.1 (s1 (k * 7 + 1) (by omega))
      obtain ⟨v2, e2⟩ := Option.isSome_iff_exists.1 (s1 (k * 7 + 2) (by omega))
      obtain ⟨v3, e3⟩ := Option.isSome_iff_exists.1 (s1 (k * 7 + 3) (by omega))
      obtain ⟨v4, e4⟩ := Option.isSome_iff_exists.1 (s1 (k * 7 + 4) (by omega))
      obtain ⟨v5, e5⟩ := Option.isSome_iff_exists.1 (s1 (k * 7 + 5) (by omega))
      obtain ⟨v6, e6⟩ := Option.isSome_iff_exists.1 (s1 (k * 7 + 6) (by omega))
      clear s1
      go_wp2
      go_roundw
      case rel =>
        refine ⟨k + 1, by omega, by go_num, by go_num, ?_, ?_⟩
        · exact (((((((hC.out.set _ _).set _ _).set _ _).set _ _).set _ _).set _ _).set _ _)
        · exact grown_transOrd (grown_transOrd (grown_transOrd (grown_transOrd (grown_transOrd (grown_transOrd (grown_transOrd (hG.out) (grown_set1Ord _ _ _ _)) (grown_set1Ord _ _ _ _)) (grown_set1Ord _ _ _ _)) (grown_set1Ord _ _ _ _)) (grown_set1Ord _ _ _ _)) (grown_set1Ord _ _ _ _)) (grown_set1Ord _ _ _ _)
      case measure => simp [intOf]; omega
    · have hkn : k = n := by omega
      subst hkn
      go_wp2
      go_ret
      exact ⟨rfl, hG.out⟩

set_option maxHeartbeats 2000000 in
theorem lawDueOn (a : Option Addr) (n c : Nat) (F : Nat → Ord) (d : Int) (w : World) (hm : n ≤ 9223372036854775807) (h : n ≤ 1048576 → Ords w a n F) :
    Calls Try.prog 6 #[.slice a n c, .int .i64 d] w fun e w' => e = .returned (.bool true) ∧ Below w.heap.size w w' := by
  by_cases hn : n ≤ 1048576
  · obtain ⟨l, hl, sp, im⟩ := both_due n F d hn
    have SP : Hid (∀ w a' c', Ords w a' n F → Calls Try.prog 23 #[.slice a' n c', .int .i64 d] w fun e w' => ∃ v, e = .returned v ∧ OrdL w' w.heap.size v l ∧ Below w.heap.size w w') := sp
    have IM : Hid (∀ w a' c', Ords w a' n F → Calls Try.prog 24 #[.slice a' n c', .int .i64 d] w fun e w' => ∃ v, e = .returned v ∧ OrdL w' w.heap.size v l ∧ Below w.heap.size w w') := im
    clear sp im
    have H : Hid (Ords w a n F) := h hn
    clear h
    go_enter Try.func6, Try.ntmps6
    go_wp2_with fail
    refine (szSOrd_yes _ _ _ 1048576 _ (by omega) (by omega)).mono ?_
    rintro e wz ⟨rfl, hwz⟩
    have e0 : w = wz := hwz.symm
    subst e0
    clear hwz
    go_wp2_with fail
    refine (toSOrd a n c F _ H.out).mono ?_
    rintro e w1 ⟨rfl, R1, B1⟩
    go_wp2_with fail
    refine (SP.out _ _ n (R1.list hn)).mono ?_
    rintro e w2 ⟨v0, rfl, J2, B2⟩
    have B2' : Hid (Below w.heap.size w w2) := B1.trans (B2.mono B1.size)
    have J2' : Hid (OrdL w2 w1.heap.size v0 l) := J2
    have z12 : w1.heap.size ≤ w2.heap.size := B2.size
    have z01 : w.heap.size ≤ w1.heap.size := B1.size
    clear B1 B2 R1 J2
    go_wp2_with fail
    refine (toSOrd a n c F _ (H.out.below B2'.out)).mono ?_
    rintro e w3 ⟨rfl, R3, B3⟩
    have R3' : Hid (RowOrd w3 w2.heap.size n n F) := R3
    have J3 : Hid (OrdL w3 w1.heap.size v0 l ∧ ∀ q, v0.ownBlock = some q → q < w2.heap.size) := ⟨J2'.out.kept B3, fun q hq => (World.ownsRow.lt J2'.out q hq).2⟩
    have B3' : Hid (Below w.heap.size w w3) := B2'.out.trans (B3.mono B2'.out.size)
    have z23 : w2.heap.size < w3.heap.size := R3.2.2.1
    clear B3 R3 J2' B2'
    go_wp2_with fail
    refine (IM.out _ _ n (R3'.out.list hn)).mono ?_
    rintro e w4 ⟨u0, rfl, K4, B4⟩
    have R4 : Hid (RowOrd w4 w2.heap.size n n F) := R3'.out.below B4
    have J4 : Hid (OrdL w4 w1.heap.size v0 l ∧ ∀ q, v0.ownBlock = some q → q < w2.heap.size) := ⟨J3.out.1.kept B4, J3.out.2⟩
    have K4' : Hid (OrdL w4 w3.heap.size u0 l ∧ ∀ q, u0.ownBlock = some q → w3.heap.size ≤ q) := ⟨K4, fun q hq => (World.ownsRow.lt K4 q hq).1⟩
    have B4' : Hid (Below w.heap.size w w4) := B3'.out.trans (B4.mono B3'.out.size)
    clear B4 R3' J3 B3' K4
    go_wp2_with fail
    refine (eqOrdL_same w3.heap.size w1.heap.size u0 v0 l _ hl K4'.out.1 J4.out.1).mono ?_
    rintro e w5 ⟨rfl, B5⟩
    have R5 : Hid (RowOrd w5 w2.heap.size n n F) := R4.out.below B5
    have J5 : Hid (OrdL w5 w1.heap.size v0 l ∧ ∀ q, v0.ownBlock = some q → q < w2.heap.size) := ⟨J4.out.1.kept B5, J4.out.2⟩
    have K5 : Hid (OrdL w5 w3.heap.size u0 l ∧ ∀ q, u0.ownBlock = some q → w3.heap.size ≤ q) := ⟨K4'.out.1.kept B5, K4'.out.2⟩
    have B5' : Hid (Below w.heap.size w w5) := B4'.out.trans (B5.mono B4'.out.size)
    clear B5 R4 J4 K4' B4'
    go_wp2_with fail
    refine (toSOrd a n c F _ (H.out.below B5'.out)).mono ?_
    rintro e w6 ⟨rfl, R6, B6⟩
    have R6' : Hid (RowOrd w6 w2.heap.size n n F) := R5.out.below B6
    have J6 : Hid (OrdL w6 w1.heap.size v0 l ∧ ∀ q, v0.ownBlock = some q → q < w2.heap.size) := ⟨J5.out.1.kept B6, J5.out.2⟩
    have K6 : Hid (OrdL w6 w3.heap.size u0 l ∧ ∀ q, u0.ownBlock = some q → w3.heap.size ≤ q) := ⟨K5.out.1.kept B6, K5.out.2⟩
    have B6' : Hid (Below w.heap.size w w6) := B5'.out.trans (B6.mono B5'.out.size)
    clear B6 R5 J5 K5 B5'
    go_wp2_with fail
    refine (eqSOrd_same _ _ n n n F _ (R6'.out.list hn) (R6.list hn)).mono ?_
    rintro e w7 ⟨rfl, B7⟩
    have R7 : Hid (RowOrd w7 w2.heap.size n n F) := R6'.out.below B7
    have J7 : Hid (OrdL w7 w1.heap.size v0 l ∧ ∀ q, v0.ownBlock = some q → q < w2.heap.size) := ⟨J6.out.1.kept B7, J6.out.2⟩
    have K7 : Hid (OrdL w7 w3.heap.size u0 l ∧ ∀ q, u0.ownBlock = some q → w3.heap.size ≤ q) := ⟨K6.out.1.kept B7, K6.out.2⟩
    have B7' : Hid (Below w.heap.size w w7) := B6'.out.trans (B7.mono B6'.out.size)
    clear B7 R6 R6' J6 K6 B6'
    go_wp2_with fail
    refine (markRow w2.heap.size n n 1 _ hn (by omega) (by omega) ⟨R7.out.1, R7.out.2.1, R7.out.2.2.1⟩).mono ?_
    rintro e w8 ⟨rfl, G8⟩
    have J8 : Hid (OrdL w8 w1.heap.size v0 l ∧ ∀ q, v0.ownBlock = some q → q < w2.heap.size) := ⟨World.ownsRow.kept J7.out.1 G8 (by
      cases hb : v0.ownBlock with
      | none => exact Or.inl rfl
      | some q => right; intro e; have := J7.out.2 q hb; simp at e; omega), J7.out.2⟩
    have K8 : Hid (OrdL w8 w3.heap.size u0 l ∧ ∀ q, u0.ownBlock = some q → w3.heap.size ≤ q) := ⟨World.ownsRow.kept K7.out.1 G8 (by
      cases hb : u0.ownBlock with
      | none => exact Or.inl rfl
      | some q => right; intro e; have := K7.out.2 q hb; simp at e; omega), K7.out.2⟩
    have B8' : Hid (Below w.heap.size w w8) := B7'.out.grown G8 B7'.out.size (fun q hq => by simp at hq; omega)
    clear G8 R7 J7 K7 B7'
    go_wp2_with fail
    refine (eqOrdL_same w3.heap.size w1.heap.size u0 v0 l _ hl K8.out.1 J8.out.1).mono ?_
    rintro e w9 ⟨rfl, B9⟩
    have J9 : Hid (OrdL w9 w1.heap.size v0 l ∧ ∀ q, v0.ownBlock = some q → q < w2.heap.size) := ⟨J8.out.1.kept B9, J8.out.2⟩
    have K9 : Hid (OrdL w9 w3.heap.size u0 l ∧ ∀ q, u0.ownBlock = some q → w3.heap.size ≤ q) := ⟨K8.out.1.kept B9, K8.out.2⟩
    have B9' : Hid (Below w.heap.size w w9) := B8'.out.trans (B9.mono B8'.out.size)
    clear B9 J8 K8 B8'
    go_wp2_with fail
    refine (markOrds w3.heap.size u0 l 1 _ hl (by omega) (by omega) K9.out.1).mono ?_
    rintro e w10 ⟨rfl, ⟨L, hLl, hLm, K10⟩, G10⟩
    have J10 : Hid (OrdL w10 w1.heap.size v0 l) := World.ownsRow.kept J9.out.1 G10 (by
      cases hb : v0.ownBlock with
      | none => exact Or.inl rfl
      | some q =>
        right
        intro e
        have h1 := J9.out.2 q hb
        have h2 := K9.out.2 q e.symm
        omega)
    have B10 : Hid (Below w.heap.size w w10) := B9'.out.grown G10 B9'.out.size (fun q hq => by have := K9.out.2 q hq; omega)
    have K10' : Hid (OrdL w10 w3.heap.size u0 L) := K10
    have HL : Hid (L.length = l.length) := hLl
    have HM : Hid (MarkedOrd 1 L.length L) := by rw [← hLl] at hLm; exact hLm
    have hL2 : L.length ≤ 1048576 := by rw [hLl]; exact hl
    clear G10 J9 K9 B9' K10 hLl hLm
    go_wp2_with fail
    refine (heldOrds w3.heap.size u0 L 1 _ hL2 (by omega) (by omega) K10'.out HM.out).mono ?_
    rintro e w11 ⟨rfl, hw11⟩
    subst hw11
    rw [HL.out]
    go_wp2_with fail
    refine (toSOrd a n c F _ (H.out.below B10.out)).mono ?_
    rintro e w12 ⟨rfl, R12, B12⟩
    have J12 : Hid (OrdL w12 w1.heap.size v0 l) := J10.out.kept B12
    have K12 : Hid (OrdL w12 w3.heap.size u0 L) := K10'.out.kept B12
    have B12' : Hid (Below w.heap.size w w12) := B10.out.trans (B12.mono B10.out.size)
    clear B12 J10 K10' B10
    go_wp2_with fail
    refine (IM.out _ _ n (R12.list hn)).mono ?_
    rintro e w13 ⟨t0, rfl, T13, B13⟩
    have J13 : Hid (OrdL w13 w1.heap.size v0 l) := J12.out.kept B13
    have K13 : Hid (OrdL w13 w3.heap.size u0 L) := K12.out.kept B13
    have T13' : Hid (OrdL w13 w12.heap.size t0 l) := T13
    have B13' : Hid (Below w.heap.size w w13) := B12'.out.trans (B13.mono B12'.out.size)
    clear B13 J12 K12 B12' T13 R12
    go_wp2_with fail
    refine (eqOrdL_same w12.heap.size w1.heap.size t0 v0 l _ hl T13'.out J13.out).mono ?_
    rintro e w14 ⟨rfl, B14⟩
    have K14 : Hid (OrdL w14 w3.heap.size u0 L) := K13.out.kept B14
    have B14' : Hid (Below w.heap.size w w14) := B13'.out.trans (B14.mono B13'.out.size)
    clear B14 J13 K13 B13' T13'
    go_wp2_with fail
    refine (heldOrds w3.heap.size u0 L 1 _ hL2 (by omega) (by omega) K14.out HM.out).mono ?_
    rintro e w15 ⟨rfl, hw15⟩
    subst hw15
    rw [HL.out]
    go_wp2
    go_ret
    exact ⟨rfl, B14'.out⟩
  · clear h
    go_enter Try.func6, Try.ntmps6
    go_wp2_with (go_at_call 16; refine (szSOrd_no _ _ _ 1048576 _ (by omega) (by omega) hm).mono ?_; rintro e w' ⟨rfl, rfl⟩)
    go_ret
    exact ⟨rfl, Below.refl _ _⟩
end Go.Proofs.Ytlndklendejjdaa
