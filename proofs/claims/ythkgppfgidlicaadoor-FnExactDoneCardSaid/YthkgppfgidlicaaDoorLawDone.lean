/- The law FnExactDone returns true, whatever the accounts and the op. Conditions: the accounts lie in memory; the package's errors lie as they were laid. -/
import Derived.Test.YthkgppfgidlicaaDoorLawM
namespace Go.Proofs.YthkgppfgidlicaaDoor
open Go.RowKit

/-- Two worlds, of which the second has grown out of both. -/
def Gr (W V x : World) : Prop := Below W.heap.size W x ∧ Below V.heap.size V x
theorem Gr.go {W V x y : World} (h : Gr W V x) (b : Below x.heap.size x y) : Gr W V y := ⟨h.1.trans (b.mono h.1.size), h.2.trans (b.mono h.2.size)⟩

set_option maxRecDepth 8000 in
set_option maxHeartbeats 8000000 in
theorem lawDone (a : Option Addr) (c : Nat) (L : List Acc) (k i t m r : Int) (p : Nat → Addr) (w : World) (hn : L.length ≤ 1048576) (h : Fo w a L.length (FL L)) (hG : GE w p) :
    Calls Tryd.prog 3 #[.slice a L.length c, .agg #[.int .i64 k, .int .i64 i, .int .i64 t, .int .i64 m, .int .i64 r]] w fun e w' => e = .returned (.bool true) ∧ Below w.heap.size w w' := by
  obtain ⟨W, hW⟩ : ∃ W, W = w.alloc (.cells #[.int .i64 k, .int .i64 i, .int .i64 t, .int .i64 m, .int .i64 r] 24) := ⟨_, rfl⟩
  have OW : Hid (OpBox W w.heap.size k i t m r) := by rw [hW]; exact OpBox.new w _ _ _ _ _ 24
  have BW : Hid (Below w.heap.size w W) := by rw [hW]; exact (Below.refl _ _).alloc (Nat.le_refl _) _
  have GW : Hid (GE W p) := hG.below BW.out
  have FW : Hid (Fo W a L.length (FL L)) := h.below BW.out
  obtain ⟨cd, l, hcl⟩ : ∃ cd l, doneAny L k i t m r = (cd, l) := ⟨_, _, rfl⟩
  have hl : l.length ≤ 1048576 := by have := doneAny_len L k i t m r hn; rw [hcl] at this; exact this
  have SP : Hid (∀ w a' c', Fo w a' L.length (FL L) → Calls Tryd.prog 5 #[.slice a' L.length c', .agg #[.int .i64 k, .int .i64 i, .int .i64 t, .int .i64 m, .int .i64 r]] w fun e w' => ∃ v, e = .returned (.tuple #[v, .int .i64 cd]) ∧ AL w' w.heap.size v l ∧ Below w.heap.size w w') := fun w a' c' h => by
    have := specDone a' c' L k i t m r w h
    rw [hcl] at this
    exact this
  have IM : Hid (∀ w a' c', Fo w a' L.length (FL L) → GE w p → Calls Tryd.prog 8 #[.slice a' L.length c', .agg #[.int .i64 k, .int .i64 i, .int .i64 t, .int .i64 m, .int .i64 r]] w fun e w' => ∃ v, e = .returned (.tuple #[v, .int .i64 cd]) ∧ AL w' w.heap.size v l ∧ Below w.heap.size w w') := fun w a' c' h hg => by
    have := implDone a' c' L k i t m r p w h hg
    rw [hcl] at this
    exact this
  clear h hG hcl
  go_enter Tryd.func3, Tryd.ntmps3
  go_upto_region 1 with fail
  rw [← hW]
  clear hW
  go_wp2_with fail
  refine (szAccountS_yes _ _ _ _ hn).mono ?_
  rintro e wz ⟨rfl, hwz⟩
  subst wz
  have hsz : decide (1048576 - (L.length : Int) < 0) = false := by simp; omega
  go_upto_region 5 with fail
  obtain ⟨o0, o1, o2, o3, o4, oz⟩ := OW.out
  have D0 : Hid (Gr W W W.drew) := ⟨⟨rfl, rfl, rfl, Nat.le_refl _, fun _ _ => rfl⟩, ⟨rfl, rfl, rfl, Nat.le_refl _, fun _ _ => rfl⟩⟩
  go_cut [6, 7] (fun s6 s7 wx => s7 = .int .i64 cd ∧ Hid (AL wx W.heap.size s6 l ∧ Gr W W wx))
  case first =>
    go_region_with (first
      | (go_at_call 6
         refine (toAccountS a L.length c (FL L) _ (FW.out.below (by first | exact E7.out.1 | exact D0.out.1))).mono ?_
         rintro e w6 ⟨rfl, R6, B6⟩
         first
           | (have E6 : Hid (Gr W W w6) := E7.out.go B6)
           | (have E6 : Hid (Gr W W w6) := D0.out.go B6)
         have P6 : Hid (Row w6 _ L.length L.length (FL L)) := R6
         obtain ⟨o0, o1, o2, o3, o4, oz⟩ := OW.out.below E6.out.1
         clear B6 R6)
      | (go_at_call 7
         refine (toOp k i t m r _).mono ?_
         rintro e w7 ⟨rfl, B7⟩
         first
           | (have E7 : Hid (Gr W W w7) := E6.out.go B7
              have P7 : Hid (Row w7 _ L.length L.length (FL L)) := P6.out.below B7)
           | (have E7 : Hid (Gr W W w7) := D0.out.go B7)
         clear B7)
      | (go_at_call 5
         first
           | refine (SP.out w7 _ L.length (P7.out.fo hn)).mono ?_
           | refine (SP.out w6 _ L.length (P6.out.fo hn)).mono ?_
         rintro e w8 ⟨v8, rfl, A8, B8⟩
         first
           | (have E8 : Hid (AL w8 W.heap.size v8 l ∧ Gr W W w8) := ⟨A8.mono E7.out.1.size, E7.out.go B8⟩)
           | (have E8 : Hid (AL w8 W.heap.size v8 l ∧ Gr W W w8) := ⟨A8.mono E6.out.1.size, E6.out.go B8⟩)
         clear A8 B8))
    all_goals go_wp2_with fail
    all_goals go_meet
    all_goals exact ⟨rfl, E8⟩
  case rest =>
    obtain ⟨rfl, hcut2⟩ := hcut
    obtain ⟨w2, hw2⟩ : ∃ w2, w2 = wc := ⟨_, rfl⟩
    subst hw2
    have HC2 := hcut2.out
    obtain ⟨va, vc, hv⟩ := HC2.1.len
    obtain ⟨n', hn'⟩ : ∃ n', n' = l.length := ⟨_, rfl⟩
    rw [← hn'] at hv
    subst hv
    have J2 : Hid (AL w2 W.heap.size (.slice va n' vc) l ∧ ∀ q, (Value.slice va n' vc).ownBlock = some q → q < w2.heap.size) := ⟨HC2.1, fun q hq => (World.ownsRow.lt HC2.1 q hq).2⟩
    have B2 : Hid (Below W.heap.size W w2) := HC2.2.1
    clear hcut2 HC2 o0 o1 o2 o3 o4 D0
    clear hn'
    go_wp2_with fail
    refine (toAccountS a L.length c (FL L) _ (FW.out.below B2.out)).mono ?_
    rintro e w3 ⟨rfl, R3, E3⟩
    have R3' : Hid (Row w3 w2.heap.size L.length L.length (FL L)) := R3
    have J3 : Hid (AL w3 W.heap.size (.slice va n' vc) l ∧ ∀ q, (Value.slice va n' vc).ownBlock = some q → q < w2.heap.size) := ⟨J2.out.1.kept E3, J2.out.2⟩
    have B3 : Hid (Below W.heap.size W w3) := B2.out.trans (E3.mono B2.out.size)
    have z2 : W.heap.size ≤ w2.heap.size := B2.out.size
    have z3 : w2.heap.size < w3.heap.size := R3.2.2.1
    clear R3 E3 J2 B2
    obtain ⟨o0, o1, o2, o3, o4, o5⟩ := OW.out.below B3.out
    go_wp2_with fail
    refine (toOp k i t m r _).mono ?_
    rintro e w3b ⟨rfl, E3⟩
    have R3b : Hid (Row w3b w2.heap.size L.length L.length (FL L)) := R3'.out.below E3
    have J3b : Hid (AL w3b W.heap.size (.slice va n' vc) l ∧ ∀ q, (Value.slice va n' vc).ownBlock = some q → q < w2.heap.size) := ⟨J3.out.1.kept E3, J3.out.2⟩
    have B3b : Hid (Below W.heap.size W w3b) := B3.out.trans (E3.mono B3.out.size)
    have z3b : w3.heap.size ≤ w3b.heap.size := E3.size
    clear E3 R3' J3 B3 o0 o1 o2 o3 o4 o5
    go_wp2_with fail
    refine (IM.out _ _ L.length (R3b.out.fo hn) (GW.out.below B3b.out)).mono ?_
    rintro e w4 ⟨u0, rfl, K4, E4⟩
    have R4 : Hid (Row w4 w2.heap.size L.length L.length (FL L)) := R3b.out.below E4
    have J4 : Hid (AL w4 W.heap.size (.slice va n' vc) l ∧ ∀ q, (Value.slice va n' vc).ownBlock = some q → q < w2.heap.size) := ⟨J3b.out.1.kept E4, J3b.out.2⟩
    have K4' : Hid (AL w4 w3b.heap.size u0 l ∧ ∀ q, u0.ownBlock = some q → w3b.heap.size ≤ q) := ⟨K4, fun q hq => (World.ownsRow.lt K4 q hq).1⟩
    have B4 : Hid (Below W.heap.size W w4) := B3b.out.trans (E4.mono B3b.out.size)
    obtain ⟨ua, uc, hu⟩ := K4.len
    obtain ⟨n2, hn2⟩ : ∃ n2, n2 = l.length := ⟨_, rfl⟩
    rw [← hn2] at hu
    subst hu
    clear hn2 E4 K4 R3b J3b B3b
    go_wp2_with fail
    refine (eqAL_same w3b.heap.size W.heap.size _ _ l _ hl K4'.out.1 J4.out.1).mono ?_
    rintro e w5 ⟨rfl, E5⟩
    have R5 : Hid (Row w5 w2.heap.size L.length L.length (FL L)) := R4.out.below E5
    have J5 : Hid (AL w5 W.heap.size (.slice va n' vc) l ∧ ∀ q, (Value.slice va n' vc).ownBlock = some q → q < w2.heap.size) := ⟨J4.out.1.kept E5, J4.out.2⟩
    have K5 : Hid (AL w5 w3b.heap.size (.slice ua n2 uc) l ∧ ∀ q, (Value.slice ua n2 uc).ownBlock = some q → w3b.heap.size ≤ q) := ⟨K4'.out.1.kept E5, K4'.out.2⟩
    have B5 : Hid (Below W.heap.size W w5) := B4.out.trans (E5.mono B4.out.size)
    clear E5 R4 J4 K4' B4
    have hcc : (cd != cd) = false := by simp
    go_wp2_with fail
    refine (toAccountS a L.length c (FL L) _ (FW.out.below B5.out)).mono ?_
    rintro e w6 ⟨rfl, R6, E6⟩
    have R6' : Hid (Row w6 w2.heap.size L.length L.length (FL L)) := R5.out.below E6
    have Q6 : Hid (Row w6 w5.heap.size L.length L.length (FL L)) := R6
    have J6 : Hid (AL w6 W.heap.size (.slice va n' vc) l ∧ ∀ q, (Value.slice va n' vc).ownBlock = some q → q < w2.heap.size) := ⟨J5.out.1.kept E6, J5.out.2⟩
    have K6 : Hid (AL w6 w3b.heap.size (.slice ua n2 uc) l ∧ ∀ q, (Value.slice ua n2 uc).ownBlock = some q → w3b.heap.size ≤ q) := ⟨K5.out.1.kept E6, K5.out.2⟩
    have B6 : Hid (Below W.heap.size W w6) := B5.out.trans (E6.mono B5.out.size)
    clear E6 R6 R5 J5 K5 B5
    go_wp2_with fail
    refine (eqAccountS_same _ _ L.length L.length L.length (FL L) _ (R6'.out.fo hn) (Q6.out.fo hn)).mono ?_
    rintro e w7 ⟨rfl, E7⟩
    have R7 : Hid (Row w7 w2.heap.size L.length L.length (FL L)) := R6'.out.below E7
    have J7 : Hid (AL w7 W.heap.size (.slice va n' vc) l ∧ ∀ q, (Value.slice va n' vc).ownBlock = some q → q < w2.heap.size) := ⟨J6.out.1.kept E7, J6.out.2⟩
    have K7 : Hid (AL w7 w3b.heap.size (.slice ua n2 uc) l ∧ ∀ q, (Value.slice ua n2 uc).ownBlock = some q → w3b.heap.size ≤ q) := ⟨K6.out.1.kept E7, K6.out.2⟩
    have B7 : Hid (Below W.heap.size W w7) := B6.out.trans (E7.mono B6.out.size)
    clear E7 R6' Q6 J6 K6 B6
    go_wp2_with fail
    refine (markRow w2.heap.size L.length L.length 1 _ hn (by omega) (by omega) ⟨R7.out.1, R7.out.2.1, R7.out.2.2.1⟩).mono ?_
    rintro e w8 ⟨rfl, G8⟩
    have J8 : Hid (AL w8 W.heap.size (.slice va n' vc) l ∧ ∀ q, (Value.slice va n' vc).ownBlock = some q → q < w2.heap.size) := ⟨World.ownsRow.kept J7.out.1 G8 (by
      cases hb : (Value.slice va n' vc).ownBlock with
      | none => exact Or.inl rfl
      | some q => right; intro e; have := J7.out.2 q hb; simp at e; omega), J7.out.2⟩
    have K8 : Hid (AL w8 w3b.heap.size (.slice ua n2 uc) l ∧ ∀ q, (Value.slice ua n2 uc).ownBlock = some q → w3b.heap.size ≤ q) := ⟨World.ownsRow.kept K7.out.1 G8 (by
      cases hb : (Value.slice ua n2 uc).ownBlock with
      | none => exact Or.inl rfl
      | some q => right; intro e; have := K7.out.2 q hb; simp at e; omega), K7.out.2⟩
    have B8 : Hid (Below W.heap.size W w8) := B7.out.grown G8 B7.out.size (fun q hq => by simp at hq; omega)
    clear G8 R7 J7 K7 B7
    have hk8 : decide (1 + 8 * (L.length : Int) < 0) = false := by simp; omega
    go_wp2_with fail
    refine (eqAL_same w3b.heap.size W.heap.size _ _ l _ hl K8.out.1 J8.out.1).mono ?_
    rintro e w9 ⟨rfl, E9⟩
    have J9 : Hid (AL w9 W.heap.size (.slice va n' vc) l ∧ ∀ q, (Value.slice va n' vc).ownBlock = some q → q < w2.heap.size) := ⟨J8.out.1.kept E9, J8.out.2⟩
    have K9 : Hid (AL w9 w3b.heap.size (.slice ua n2 uc) l ∧ ∀ q, (Value.slice ua n2 uc).ownBlock = some q → w3b.heap.size ≤ q) := ⟨K8.out.1.kept E9, K8.out.2⟩
    have B9 : Hid (Below W.heap.size W w9) := B8.out.trans (E9.mono B8.out.size)
    clear E9 J8 K8 B8
    go_wp2_with fail
    refine (markAccs w3b.heap.size _ l 1 _ hl (by omega) (by omega) K9.out.1).mono ?_
    rintro e w10 ⟨rfl, ⟨M, hMl, hMm, K10⟩, G10⟩
    have J10 : Hid (AL w10 W.heap.size (.slice va n' vc) l) := World.ownsRow.kept J9.out.1 G10 (by
      cases hb : (Value.slice va n' vc).ownBlock with
      | none => exact Or.inl rfl
      | some q =>
        right
        intro e
        have h1 := J9.out.2 q hb
        have h2 := K9.out.2 q e.symm
        omega)
    have B10 : Hid (Below W.heap.size W w10) := B9.out.grown G10 B9.out.size (fun q hq => by have := K9.out.2 q hq; omega)
    have K10' : Hid (AL w10 w3b.heap.size (.slice ua n2 uc) M) := K10
    have HL : Hid (M.length = l.length) := hMl
    have HM : Hid (MarkedAcc 1 M.length M) := by rw [← hMl] at hMm; exact hMm
    have hM2 : M.length ≤ 1048576 := by rw [hMl]; exact hl
    clear G10 J9 K9 B9 K10 hMl hMm
    go_wp2_with fail
    refine (heldAccs w3b.heap.size _ M 1 _ hM2 (by omega) (by omega) K10'.out HM.out).mono ?_
    rintro e w11 ⟨rfl, hw11⟩
    subst w11
    rw [HL.out]
    have hk9 : decide (1 + 8 * (l.length : Int) < 0) = false := by simp; omega
    have hk10 : (1 + 8 * (l.length : Int) != 1 + 8 * (l.length : Int)) = false := by simp
    go_upto_region 24 with fail
    obtain ⟨o0, o1, o2, o3, o4, o5⟩ := OW.out.below B10.out
    have D1 : Hid (Gr W w10 w10.drew) := ⟨⟨B10.out.os, B10.out.tape, B10.out.output, B10.out.size, B10.out.block⟩, ⟨rfl, rfl, rfl, Nat.le_refl _, fun _ _ => rfl⟩⟩
    have X10 : Hid (AL w10.drew W.heap.size (.slice va n' vc) l ∧ AL w10.drew w3b.heap.size (.slice ua n2 uc) M) := ⟨J10.out, K10'.out⟩
    go_cut [14, 15] (fun s14 s15 wx => s15 = .int .i64 cd ∧ Hid (AL wx W.heap.size s14 l ∧ Gr W w10 wx))
    case first =>
      go_region_with (first
        | (go_at_call 6
           refine (toAccountS a L.length c (FL L) _ (FW.out.below (by first | exact E7.out.1 | exact D1.out.1))).mono ?_
           rintro e w6 ⟨rfl, R6, B6⟩
           first
             | (have E6 : Hid (Gr W w10 w6) := E7.out.go B6)
             | (have E6 : Hid (Gr W w10 w6) := D1.out.go B6)
           have P6 : Hid (Row w6 _ L.length L.length (FL L)) := R6
           obtain ⟨o0, o1, o2, o3, o4, oz⟩ := OW.out.below E6.out.1
           clear B6 R6)
        | (go_at_call 7
           refine (toOp k i t m r _).mono ?_
           rintro e w7 ⟨rfl, B7⟩
           first
             | (have E7 : Hid (Gr W w10 w7) := E6.out.go B7
                have P7 : Hid (Row w7 _ L.length L.length (FL L)) := P6.out.below B7)
             | (have E7 : Hid (Gr W w10 w7) := D1.out.go B7)
           clear B7)
        | (go_at_call 8
           first
             | refine (IM.out w7 _ L.length (P7.out.fo hn) (GW.out.below E7.out.1)).mono ?_
             | refine (IM.out w6 _ L.length (P6.out.fo hn) (GW.out.below E6.out.1)).mono ?_
           rintro e w8 ⟨v8, rfl, A8, B8⟩
           first
             | (have E8 : Hid (AL w8 W.heap.size v8 l ∧ Gr W w10 w8) := ⟨A8.mono E7.out.1.size, E7.out.go B8⟩)
             | (have E8 : Hid (AL w8 W.heap.size v8 l ∧ Gr W w10 w8) := ⟨A8.mono E6.out.1.size, E6.out.go B8⟩)
           clear A8 B8))
      all_goals go_wp2_with fail
      all_goals go_meet
      all_goals exact ⟨rfl, E8⟩
    case rest =>
      obtain ⟨rfl, hcut2⟩ := hcut
      obtain ⟨w13, hw13⟩ : ∃ w13, w13 = wc := ⟨_, rfl⟩
      subst hw13
      have HC3 := hcut2.out
      obtain ⟨ta, tc, hv⟩ := HC3.1.len
      obtain ⟨n3, hn3⟩ : ∃ n3, n3 = l.length := ⟨_, rfl⟩
      rw [← hn3] at hv
      subst hv
      have T13 : Hid (AL w13 W.heap.size (.slice ta n3 tc) l) := HC3.1
      have J13 : Hid (AL w13 W.heap.size (.slice va n' vc) l) := J10.out.kept HC3.2.2
      have K13 : Hid (AL w13 w3b.heap.size (.slice ua n2 uc) M) := K10'.out.kept HC3.2.2
      have B13 : Hid (Below W.heap.size W w13) := HC3.2.1
      clear hn3 hcut2 HC3 J10 K10' B10 X10 D1 o0 o1 o2 o3 o4 o5
      go_wp2_with fail
      refine (eqAL_same W.heap.size W.heap.size _ _ l _ hl T13.out J13.out).mono ?_
      rintro e w14 ⟨rfl, E14⟩
      have K14 : Hid (AL w14 w3b.heap.size (.slice ua n2 uc) M) := K13.out.kept E14
      have B14 : Hid (Below W.heap.size W w14) := B13.out.trans (E14.mono B13.out.size)
      clear E14 T13 J13 K13 B13
      go_wp2_with fail
      refine (heldAccs w3b.heap.size _ M 1 _ hM2 (by omega) (by omega) K14.out HM.out).mono ?_
      rintro e w15 ⟨rfl, hw15⟩
      subst w15
      rw [HL.out]
      go_wp2
      go_ret
      exact ⟨rfl, BW.out.trans (B14.out.mono BW.out.size)⟩
end Go.Proofs.YthkgppfgidlicaaDoor
