/- The reader draws a disk: its lists lie in memory. Conditions: the reader lies in memory as l1Open lays it. -/
import Derived.Test.YtcalgmhpagpnnaaRdA
import Derived.Deep.RegionHeld3
import Derived.Deep.DeepCutAuto
namespace Go.Proofs.Ytcalgmhpagpnnaa
open Go.RowKit
set_option maxRecDepth 8000

set_option maxHeartbeats 8000000 in
theorem rd_disk (B : Nat) (a : Option Addr) (len cap : Nat) (w : World) (h : Rd w B a len cap) :
    Calls Try.prog 40 #[.pointer (some ⟨B, 0, none⟩)] w fun e w' => DrAns w B a len cap e w' := by
  have hBQ : B < w.heap.size := h.2.2.2.1
  obtain ⟨W0, hW0, D0⟩ : ∃ W0, W0 = (w.alloc (.cells #[.slice none 0 0, .slice none 0 0, .slice none 0 0] 27)).alloc (.cells #[.slice none 0 0, .slice none 0 0, .slice none 0 0] 27) ∧ Hid (DS w B a len cap (w.heap.size + 1 + 1) (.slice none 0 0) (.slice none 0 0) (.slice none 0 0) [] [] [] W0) := ⟨_, rfl, DS.new h⟩
  have HW0 : Hid (W0 = _) := hW0
  clear h hW0
  go_enter Try.func40, Try.ntmps40
  go_wp2_with fail
  rw [← HW0.out]
  refine (rd_size B a len cap _ D0.out.rd).mono ?_
  rintro e w1 ⟨v, rfl, v1, v2, R1, S1⟩
  obtain ⟨k0, rfl⟩ := Int.eq_ofNat_of_zero_le (show 0 ≤ v by omega)
  have D1 : Hid (DS w B a len cap (w.heap.size + 1 + 1) (.slice none 0 0) (.slice none 0 0) (.slice none 0 0) [] [] [] w1) := D0.out.step R1 S1
  have hk0 : k0 ≤ 10 := by omega
  clear R1 S1 D0 HW0 v1 v2
  go_wp2
  go_loopw [4] (fun i wr => ∃ (k hi : Nat) (a1 : Option Addr) (n1 c1 : Nat) (a2 : Option Addr) (n2 c2 : Nat) (a3 : Option Addr) (n3 c3 : Nat) (L1 L2 : List Fl) (L3 : List Dp), k ≤ 10 ∧ i = .int .i64 k ∧ Hid (DS w B a len cap hi (.slice a1 n1 c1) (.slice a2 n2 c2) (.slice a3 n3 c3) L1 L2 L3 wr) ∧ Hid (OkS L1 L2 L3)) (fun i _ => (intOf i).toNat)
  case atStart => exact ⟨k0, _, none, 0, 0, none, 0, 0, none, 0, 0, [], [], [], hk0, rfl, D1, OkS.nil⟩
  case round =>
    obtain ⟨k, hi, a1, n1, c1, a2, n2, c2, a3, n3, c3, L1, L2, L3, hk, rfl, hD, OK⟩ := hrel
    clear D1 hk0
    by_cases hlt : 0 < k
    · have hlt' : (0 : Int) < (k : Int) := by omega
      go_wp2_with fail
      refine (rd_once B a len cap 5 _ hD.out.rd (by omega) (by omega)).mono ?_
      rintro e W ⟨b, rfl, R2, S2⟩
      have D2 : Hid (DS w B a len cap hi (.slice a1 n1 c1) (.slice a2 n2 c2) (.slice a3 n3 c3) L1 L2 L3 W) := hD.out.step R2 S2
      clear R2 S2 hD
      cases b with
      | true =>
        obtain ⟨⟨s0, s1, s2⟩, _, _⟩ := D2.out.sg.box
        go_wp2_with fail
        refine (specSyncL c1 c2 c3 (D2.out.dk OK.out)).mono ?_
        rintro e w3 ⟨p1, m1, pc1, p2, m2, pc2, p3, m3, pc3, rfl, O3, B3⟩
        rw [OK.out.1] at O3
        have hz : hi ≤ W.heap.size ∨ W.heap.size < hi := by omega
        have D3 : Hid (DS w B a len cap w3.heap.size (.slice p1 m1 pc1) (.slice p2 m2 pc2) (.slice p3 m3 pc3) L1 L1 [] (set3 w3 (w.heap.size + 1) (.slice p1 m1 pc1) (.slice p2 m2 pc2) (.slice p3 m3 pc3))) := DS.put (D2.out.fit) B3 O3 (Nat.le_refl _)
        have OK3 : Hid (OkS L1 L1 []) := OK.out.synced
        obtain ⟨⟨t0, t1, t2⟩, tf, tl⟩ := (D2.out.fit.low B3 (Nat.le_refl _)).sg.box
        clear D2 O3 B3 OK s0 s1 s2 hz
        go_wp2
        go_roundw
        case rel => exact ⟨k - 1, _, p1, m1, pc1, p2, m2, pc2, p3, m3, pc3, L1, L1, [], by omega, by go_num, D3, OK3⟩
        case measure => simp [intOf]; omega
      | false =>
        have X : Hid (DS w B a len cap W.heap.size (.slice a1 n1 c1) (.slice a2 n2 c2) (.slice a3 n3 c3) L1 L2 L3 W) := D2.out.fit
        clear D2
        obtain ⟨Y, hY⟩ : ∃ Y : World → Prop, Y = fun V => DS w B a len cap W.heap.size (.slice a1 n1 c1) (.slice a2 n2 c2) (.slice a3 n3 c3) L1 L2 L3 V := ⟨_, rfl⟩
        have YO : Hid (∀ V, Y V → DS w B a len cap W.heap.size (.slice a1 n1 c1) (.slice a2 n2 c2) (.slice a3 n3 c3) L1 L2 L3 V) := fun V hV => by rw [hY] at hV; exact hV
        have LW : Hid (Low W.heap.size Y) := by rw [hY]; exact fun V V' hV hb => DS.low hV hb (Nat.le_refl _)
        have y : Y W := by rw [hY]; exact X.out
        have DP : Hid (∀ V, Y V → Calls Try.prog 55 #[.pointer (some ⟨B, 0, none⟩)] V fun e w' => ∃ o : Dp, e = .returned (.agg #[.int .i64 o.kind, .string o.name, .string o.dst, .string o.data]) ∧ o.data.size ≤ 3 ∧ Y w' ∧ Stp B V w') := fun V hV => (rd_dop B a len cap V (YO.out V hV).rd).mono (by rintro e w' ⟨o, he, ho, hr, hs⟩; exact ⟨o, he, ho, by rw [hY]; exact (YO.out V hV).step hr hs, hs⟩)
        have DO : Hid (∀ V (o : Dp), o.data.size ≤ 3 → Y V → Calls Try.prog 21 #[.agg #[.slice a1 n1 c1, .slice a2 n2 c2, .slice a3 n3 c3], .agg #[.int .i64 o.kind, .string o.name, .string o.dst, .string o.data]] V fun e w' => ActOut V (doC L1 L2 L3 o) (doLv L1 L2 L3 o) (doSf L1 L2 L3 o) (doOs L1 L2 L3 o) e w') := fun V o ho hV => specDoL c1 c2 c3 ((YO.out V hV).dk OK.out) o (by omega)
        have YS : Hid (∀ V, Y V → (V.cell? ⟨w.heap.size + 1, 0, none⟩ = some (.slice a1 n1 c1) ∧ V.cell? ⟨w.heap.size + 1, 1, none⟩ = some (.slice a2 n2 c2) ∧ V.cell? ⟨w.heap.size + 1, 2, none⟩ = some (.slice a3 n3 c3))) := fun V hV => (YO.out V hV).sg.box.1
        clear hY
        have y0 : Y W.drew := LW.out.drew y
        have y0a : Y (W.alloc (.cells #[.slice none 0 0, .slice none 0 0, .slice none 0 0] 27)).drew := LW.out.drew (LW.out.alloc y (Nat.le_refl _) _)
        have q0a : Hid (Box3 (W.alloc (.cells #[.slice none 0 0, .slice none 0 0, .slice none 0 0] 27)).drew W.heap.size (.slice none 0 0) (.slice none 0 0) (.slice none 0 0)) := newDrew W
        have hs0 : W.heap.size ≤ W.drew.heap.size := Nat.le_refl _
        have hs0a : W.heap.size ≤ (W.alloc (.cells #[.slice none 0 0, .slice none 0 0, .slice none 0 0] 27)).drew.heap.size := by show _ ≤ (W.alloc (.cells #[.slice none 0 0, .slice none 0 0, .slice none 0 0] 27)).heap.size; simp
        have k0 : (W.drew.cell? ⟨w.heap.size + 1, 0, none⟩ = some (.slice a1 n1 c1) ∧ W.drew.cell? ⟨w.heap.size + 1, 1, none⟩ = some (.slice a2 n2 c2) ∧ W.drew.cell? ⟨w.heap.size + 1, 2, none⟩ = some (.slice a3 n3 c3)) := YS.out _ y0
        have k0a : ((W.alloc (.cells #[.slice none 0 0, .slice none 0 0, .slice none 0 0] 27)).drew.cell? ⟨w.heap.size + 1, 0, none⟩ = some (.slice a1 n1 c1) ∧ (W.alloc (.cells #[.slice none 0 0, .slice none 0 0, .slice none 0 0] 27)).drew.cell? ⟨w.heap.size + 1, 1, none⟩ = some (.slice a2 n2 c2) ∧ (W.alloc (.cells #[.slice none 0 0, .slice none 0 0, .slice none 0 0] 27)).drew.cell? ⟨w.heap.size + 1, 2, none⟩ = some (.slice a3 n3 c3)) := YS.out _ y0a
        have hBW : W.heap.size ≠ B := by have := X.out.rd.2.2.2.1; omega
        go_wp2_with fail
        go_cut [5, 6] (fun sp sr wx => ∃ (P : Nat) (o : Dp) (p1 : Option Addr) (m1 pc1 : Nat) (p2 : Option Addr) (m2 pc2 : Nat) (p3 : Option Addr) (m3 pc3 : Nat), sp = .pointer (some ⟨P, 0, none⟩) ∧ sr = .int .i64 (doC L1 L2 L3 o) ∧ Hid (o.data.size ≤ 3) ∧ Hid (Y wx ∧ SG wx W.heap.size wx.heap.size P (.slice p1 m1 pc1) (.slice p2 m2 pc2) (.slice p3 m3 pc3) (doLv L1 L2 L3 o) (doSf L1 L2 L3 o) (doOs L1 L2 L3 o)))
        case first =>
          go_region_held3 (fun V => (V.cell? ⟨w.heap.size + 1, 0, none⟩ = some (.slice a1 n1 c1) ∧ V.cell? ⟨w.heap.size + 1, 1, none⟩ = some (.slice a2 n2 c2) ∧ V.cell? ⟨w.heap.size + 1, 2, none⟩ = some (.slice a3 n3 c3))) (first | with_reducible exact k0 | with_reducible exact k0a | with_reducible exact k1 | with_reducible exact k1a | with_reducible exact k2 | with_reducible exact k2a _ | with_reducible exact k2s _ _ _ _ (by omega)) (first | (go_at_call 55; refine (DP.out _ (by first | with_reducible exact y0 | with_reducible exact y0a)).mono ?_; rintro e u1 ⟨o, rfl, ho, y1, S1⟩; have hs1 : W.heap.size ≤ u1.heap.size := (by first | with_reducible exact Nat.le_trans hs0 S1.size | with_reducible exact Nat.le_trans hs0a S1.size); have y1a : Y (u1.alloc (.cells #[.slice none 0 0, .slice none 0 0, .slice none 0 0] 27)) := LW.out.alloc y1 hs1 _; have k1 : (u1.cell? ⟨w.heap.size + 1, 0, none⟩ = some (.slice a1 n1 c1) ∧ u1.cell? ⟨w.heap.size + 1, 1, none⟩ = some (.slice a2 n2 c2) ∧ u1.cell? ⟨w.heap.size + 1, 2, none⟩ = some (.slice a3 n3 c3)) := YS.out _ y1; have k1a : ((u1.alloc (.cells #[.slice none 0 0, .slice none 0 0, .slice none 0 0] 27)).cell? ⟨w.heap.size + 1, 0, none⟩ = some (.slice a1 n1 c1) ∧ (u1.alloc (.cells #[.slice none 0 0, .slice none 0 0, .slice none 0 0] 27)).cell? ⟨w.heap.size + 1, 1, none⟩ = some (.slice a2 n2 c2) ∧ (u1.alloc (.cells #[.slice none 0 0, .slice none 0 0, .slice none 0 0] 27)).cell? ⟨w.heap.size + 1, 2, none⟩ = some (.slice a3 n3 c3)) := YS.out _ y1a; have hs1a : W.heap.size ≤ (u1.alloc (.cells #[.slice none 0 0, .slice none 0 0, .slice none 0 0] 27)).heap.size := Nat.le_trans hs1 (by simp); (first | (have q1' : Box3 u1 W.heap.size (.slice none 0 0) (.slice none 0 0) (.slice none 0 0) := (by first | with_reducible exact q0a.out.stp S1 hBW); have q1 : Hid (Box3 u1 W.heap.size (.slice none 0 0) (.slice none 0 0) (.slice none 0 0)) := q1'; clear q1') | skip); have HO : Hid (o.data.size ≤ 3) := ho; clear S1) | (go_at_call 21; refine (DO.out _ o HO.out (by first | with_reducible exact y1 | with_reducible exact y1a)).mono ?_; rintro e u2 ⟨p1, m1, pc1, p2, m2, pc2, p3, m3, pc3, rfl, O3, B2⟩; have y2 : Y u2 := (by first | with_reducible exact LW.out.kept y1 hs1 B2 | with_reducible exact LW.out.kept y1a hs1a B2); have hs2 : W.heap.size ≤ u2.heap.size := (by first | with_reducible exact Nat.le_trans hs1 B2.size | with_reducible exact Nat.le_trans hs1a B2.size); have k2 : (u2.cell? ⟨w.heap.size + 1, 0, none⟩ = some (.slice a1 n1 c1) ∧ u2.cell? ⟨w.heap.size + 1, 1, none⟩ = some (.slice a2 n2 c2) ∧ u2.cell? ⟨w.heap.size + 1, 2, none⟩ = some (.slice a3 n3 c3)) := YS.out _ y2; have k2a : ∀ ob, ((u2.alloc ob).cell? ⟨w.heap.size + 1, 0, none⟩ = some (.slice a1 n1 c1) ∧ (u2.alloc ob).cell? ⟨w.heap.size + 1, 1, none⟩ = some (.slice a2 n2 c2) ∧ (u2.alloc ob).cell? ⟨w.heap.size + 1, 2, none⟩ = some (.slice a3 n3 c3)) := fun ob => YS.out _ (LW.out.alloc y2 hs2 ob); have k2s : ∀ (P : Nat) (x1 x2 x3 : Value), W.heap.size ≤ P → ((((u2.setCell ⟨P, 0, none⟩ x1).setCell ⟨P, 1, none⟩ x2).setCell ⟨P, 2, none⟩ x3).cell? ⟨w.heap.size + 1, 0, none⟩ = some (.slice a1 n1 c1) ∧ (((u2.setCell ⟨P, 0, none⟩ x1).setCell ⟨P, 1, none⟩ x2).setCell ⟨P, 2, none⟩ x3).cell? ⟨w.heap.size + 1, 1, none⟩ = some (.slice a2 n2 c2) ∧ (((u2.setCell ⟨P, 0, none⟩ x1).setCell ⟨P, 1, none⟩ x2).setCell ⟨P, 2, none⟩ x3).cell? ⟨w.heap.size + 1, 2, none⟩ = some (.slice a3 n3 c3)) := fun P x1 x2 x3 hP => YS.out _ (LW.out.sets y2 hP x1 x2 x3); (first | (have FX0 := doneSet y2 LW.out O3 (q1.out.kept B2 q1.out.2.2) (by omega) q1.out.2.2; obtain ⟨⟨pb0, pb1, pb2⟩, pf, pl⟩ := q1.out.kept B2 q1.out.2.2) | (have FX0 := doneSet y2 LW.out O3 ((Box3.new u1 _ _ _ 27).kept B2 (by simp)) (by omega) (by simp); obtain ⟨⟨pb0, pb1, pb2⟩, pf, pl⟩ := (Box3.new u1 (.slice none 0 0) (.slice none 0 0) (.slice none 0 0) 27).kept B2 (by simp)) | have FX0 := doneNew y2 LW.out O3 (by omega) hs2); have FX : Hid _ := FX0; clear FX0 O3 B2))
          all_goals go_wp2_with fail
          all_goals go_meet
          all_goals exact ⟨_, o, p1, m1, pc1, p2, m2, pc2, p3, m3, pc3, rfl, rfl, HO, FX⟩
        case rest =>
          obtain ⟨P, o, p1, m1, pc1, p2, m2, pc2, p3, m3, pc3, rfl, rfl, HO, HZ⟩ := hcut
          obtain ⟨w4, hw4⟩ : ∃ w4, w4 = wc := ⟨_, rfl⟩
          subst hw4
          have D4 : Hid (DS w B a len cap W.heap.size (.slice a1 n1 c1) (.slice a2 n2 c2) (.slice a3 n3 c3) L1 L2 L3 w4) := YO.out _ HZ.out.1
          have SP : Hid (SG w4 W.heap.size w4.heap.size P (.slice p1 m1 pc1) (.slice p2 m2 pc2) (.slice p3 m3 pc3) (doLv L1 L2 L3 o) (doSf L1 L2 L3 o) (doOs L1 L2 L3 o)) := HZ.out.2
          clear HZ YO LW y DP DO YS y0 y0a q0a hs0 hs0a k0 k0a hBW X
          by_cases hc : doC L1 L2 L3 o = 0
          · have hc' : (doC L1 L2 L3 o == 0) = true := by simp [hc]
            have OK4 : Hid (OkS (doLv L1 L2 L3 o) (doSf L1 L2 L3 o) (doOs L1 L2 L3 o)) := OK.out.done hc HO.out
            have D5 : Hid (DS w B a len cap w4.heap.size (.slice p1 m1 pc1) (.slice p2 m2 pc2) (.slice p3 m3 pc3) (doLv L1 L2 L3 o) (doSf L1 L2 L3 o) (doOs L1 L2 L3 o) (set3 w4 (w.heap.size + 1) (.slice p1 m1 pc1) (.slice p2 m2 pc2) (.slice p3 m3 pc3))) := DS.put D4.out (Below.refl _ _) SP.out.own (Nat.le_refl _)
            obtain ⟨⟨s0, s1, s2⟩, _, _⟩ := SP.out.box
            obtain ⟨⟨t0, t1, t2⟩, tf, tl⟩ := D4.out.sg.box
            clear D4 SP OK HO hc
            generalize doC L1 L2 L3 o = kc at *
            go_wp2
            go_roundw
            case rel => exact ⟨k - 1, _, p1, m1, pc1, p2, m2, pc2, p3, m3, pc3, _, _, _, by omega, by go_num, D5, OK4⟩
            case measure => simp [intOf]; omega
          · have hc' : (doC L1 L2 L3 o == 0) = false := by simp [hc]
            clear SP HO hc
            generalize doC L1 L2 L3 o = kc at *
            go_wp2
            go_roundw
            case rel => exact ⟨k - 1, _, a1, n1, c1, a2, n2, c2, a3, n3, c3, L1, L2, L3, by omega, by go_num, D4, OK⟩
            case measure => simp [intOf]; omega
    · have hk00 : k = 0 := by omega
      subst hk00
      go_wp2_with fail
      refine (rd_below B a len cap 40 _ hD.out.rd (by omega) (by omega)).mono ?_
      rintro e W ⟨v, rfl, v1, v2, R2, S2⟩
      have D2 : Hid (DS w B a len cap W.heap.size (.slice a1 n1 c1) (.slice a2 n2 c2) (.slice a3 n3 c3) L1 L2 L3 W) := (hD.out.step R2 S2).fit
      clear R2 S2 hD hlt hk
      obtain ⟨⟨s0, s1, s2⟩, sf, sl⟩ := D2.out.sg.box
      obtain ⟨⟨r0, r1, r2⟩, rf, rl⟩ := D2.out.r0
      by_cases h0 : v = 0
      · subst h0
        obtain ⟨i0, hi0, hz0, hz1, hz2⟩ := info_parts infoFl
        obtain ⟨bb1, _⟩ := OK.out.bounds
        clear r0 r1 r2 rf rl
        go_wp2_with (at_builtin; refine wpList_append_own _ rfl _ _ 24 rfl (w.heap.size + 1 + 1) 75 i0 _ 2 32 Try.underlying24 hi0 hz0 hz1 hz2 rfl (by decide) _ L1.length _ rfl (World.ownsRow.alloc D2.out.own2.live _) ⟨_, 0, none⟩ 1 1 (FlC (⟨⟨#[122, 122]⟩, ⟨#[]⟩⟩ : Fl)) rfl rfl (flNews _ (⟨⟨#[122, 122]⟩, ⟨#[]⟩⟩ : Fl)) (flOne _) (by unfold maxLen; omega) (by omega) (by have := D2.out.sg.box.2.2; simp; omega) ?_; intro v3 w3 own3 grow3 _; have A3 : FlL w3 (w.heap.size + 1 + 1) v3 (L1 ++ [(⟨⟨#[122, 122]⟩, ⟨#[]⟩⟩ : Fl)]) := FlL.snoc own3; have FI := D2.out.app OK.out A3 (by show (⟨#[]⟩ : ByteArray).size ≤ 1000; decide) grow3; obtain ⟨va, vn, vc, hv⟩ : ∃ va vn vc, v3 = .slice va vn vc := (by obtain ⟨x, y, hh, _, _⟩ := A3.shape; exact ⟨x, _, y, hh⟩); subst hv; have FI2 : Hid (DrAns w B a len cap (.returned (.agg #[.slice va vn vc, .slice a2 n2 c2, .slice a3 n3 c3])) (set3 (w3.setCell ⟨w.heap.size + 1, 0, none⟩ (.slice va vn vc)) w.heap.size (.slice va vn vc) (.slice a2 n2 c2) (.slice a3 n3 c3))) := FI.2; obtain ⟨⟨⟨r0, r1, r2⟩, rf, rl⟩, ⟨s0, s1, s2⟩, sf, sl⟩ := FI.1; clear A3 own3 grow3 FI)
        exact bodyPost_ret (v := .agg #[.slice va vn vc, .slice a2 n2 c2, .slice a3 n3 c3]) (by simp [results, Try.results40, go_sem, r0, r1, r2]) rfl FI2.out
      have b0 : (v == 0) = false := by simp [h0]
      by_cases h1 : v = 1
      · subst h1
        by_cases hz : n3 = 0
        · subst hz
          have FI : Hid (DrAns w B a len cap (.returned (.agg #[.slice a1 n1 c1, .slice a2 n2 c2, .slice a3 0 c3])) (set3 W w.heap.size (.slice a1 n1 c1) (.slice a2 n2 c2) (.slice a3 0 c3))) := D2.out.fin OK.out
          go_wp2
          exact bodyPost_ret (v := .agg #[.slice a1 n1 c1, .slice a2 n2 c2, .slice a3 0 c3]) (by simp [results, Try.results40, go_sem, r0, r1, r2]) rfl FI.out
        have hz' : (0 : Int) < (n3 : Int) := by omega
        obtain ⟨g3, hg3, hn3, hm3, HT⟩ := D2.out.tail OK.out (by omega)
        subst hg3
        have hn3' : (n3 : Int) ≤ (c3 : Int) := by omega
        have hn1 : (1 : Int) ≤ (n3 : Int) := by omega
        go_wp2
        · have e3 : n3 = 1 := by omega
          exact bodyPost_ret (v := .agg #[.slice a1 n1 c1, .slice a2 n2 c2, .slice (some ⟨g3, 0, none⟩) (n3 - 1) 0]) (by simp [results, Try.results40, go_sem, r0, r1, r2]) rfl (HT.out _ _ (Or.inr ⟨e3, rfl⟩))
        · exact bodyPost_ret (v := .agg #[.slice a1 n1 c1, .slice a2 n2 c2, .slice (some ⟨g3, 4, none⟩) (n3 - 1) (c3 - 1)]) (by simp [results, Try.results40, go_sem, r0, r1, r2]) rfl (HT.out _ _ (Or.inl rfl))
      have b1 : (v == 1) = false := by simp [h1]
      by_cases h2 : v = 2
      · subst h2
        clear r0 r1 r2 rf rl s0 s1 s2 sf sl
        go_wp2_with fail
        refine (rd_below B a len cap 9 _ D2.out.rd (by omega) (by omega)).mono ?_
        rintro e W1 ⟨v, rfl, v3, v4, R3, S3⟩
        obtain ⟨n, hn⟩ := Int.eq_ofNat_of_zero_le (show 0 ≤ 200000 - v by omega)
        have hnn : n ≤ 200000 := by omega
        have D3 : Hid (DS w B a len cap W.heap.size (.slice a1 n1 c1) (.slice a2 n2 c2) (.slice a3 n3 c3) L1 L2 L3 W1) := D2.out.step R3 S3
        obtain ⟨⟨s0, s1, s2⟩, sf, sl⟩ := D3.out.sg.box
        obtain ⟨⟨r0, r1, r2⟩, rf, rl⟩ := D3.out.r0
        have hmk := makeBy n hnn
        have hcv := convBy W1 n hnn
        have hdz : (zeroB n).size = n := zeroB_size n
        clear R3 S3 D2 v1 v2 v3 v4
        generalize zeroB n = dz at *
        obtain ⟨VB, hVB, FB⟩ : ∃ VB, VB = bigW W1 (w.heap.size + 1) n ⟨#[98, 105, 103]⟩ dz ∧ _ := ⟨_, rfl, D3.out.big n ⟨#[98, 105, 103]⟩ dz (by omega)⟩
        rw [← hVB] at FB
        have FI : Hid (DrAns w B a len cap (.returned (.agg #[.slice (some ⟨W1.heap.size + 1, 0, none⟩) 1 1, .slice (some ⟨W1.heap.size + 1, 0, none⟩) 1 1, .slice none 0 0])) (set3 VB w.heap.size (.slice (some ⟨W1.heap.size + 1, 0, none⟩) 1 1) (.slice (some ⟨W1.heap.size + 1, 0, none⟩) 1 1) (.slice none 0 0))) := FB.2
        have FX : Hid (Box3 VB w.heap.size (.slice none 0 0) (.slice none 0 0) (.slice none 0 0) ∧ Box3 VB (w.heap.size + 1) (.slice (some ⟨W1.heap.size + 1, 0, none⟩) 1 1) (.slice (some ⟨W1.heap.size + 1, 0, none⟩) 1 1) (.slice none 0 0)) := FB.1
        have HVB : Hid (bigW W1 (w.heap.size + 1) n ⟨#[98, 105, 103]⟩ dz = VB) := hVB.symm
        clear hVB FB D3
        go_upto_region 19 with fail
        have hfin := HVB.out
        unfold bigW at hfin
        rw [hfin]
        clear hfin s0 s1 s2 sf sl r0 r1 r2 rf rl hmk hcv
        obtain ⟨⟨⟨r0, r1, r2⟩, rf, rl⟩, ⟨s0, s1, s2⟩, sf, sl⟩ := FX.out
        go_wp2
        exact bodyPost_ret (v := .agg #[.slice (some ⟨W1.heap.size + 1, 0, none⟩) 1 1, .slice (some ⟨W1.heap.size + 1, 0, none⟩) 1 1, .slice none 0 0]) (by simp [results, Try.results40, go_sem, r0, r1, r2]) rfl FI.out
      have b2 : (v == 2) = false := by simp [h2]
      clear h0 h1 h2 v1 v2
      have F : Hid (DkL W a1 n1 a2 n2 a3 n3 L1 L2 L3) := D2.out.dk OK.out
      have FI : Hid (DrAns w B a len cap (.returned (.agg #[.slice a1 n1 c1, .slice a2 n2 c2, .slice a3 n3 c3])) (set3 W w.heap.size (.slice a1 n1 c1) (.slice a2 n2 c2) (.slice a3 n3 c3))) := D2.out.fin OK.out
      go_wp2
      exact bodyPost_ret (v := .agg #[.slice a1 n1 c1, .slice a2 n2 c2, .slice a3 n3 c3]) (by simp [results, Try.results40, go_sem, r0, r1, r2]) rfl FI.out
end Go.Proofs.Ytcalgmhpagpnnaa
