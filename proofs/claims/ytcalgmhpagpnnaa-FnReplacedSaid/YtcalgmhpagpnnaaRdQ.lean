/- The reader draws a disk: its lists lie in memory. Conditions: the reader lies in memory as l1Open lays it. -/
import Derived.Test.YtcalgmhpagpnnaaRdA
import Derived.Deep.RegionHeld3
import Derived.Deep.DeepCutAuto
import Derived.Test.YtcalgmhpagpnnaaCrJ
namespace Go.Proofs.Ytcalgmhpagpnnaa
open Go.RowKit
set_option maxRecDepth 8000

set_option maxHeartbeats 8000000 in
theorem rd_disk (B : Nat) (a : Option Addr) (len cap : Nat) (w : World) (h : Rd w B a len cap) :
    Calls Try.prog 40 #[.pointer (some ⟨B, 0, none⟩)] w fun e w' => DrAns w B a len cap e w' := by
  have hBQ : B < w.heap.size := h.2.2.2.1
  obtain ⟨W0, hW0, D0⟩ : ∃ W0, W0 = (w.alloc (.cells #[.slice none 0 0, .slice none 0 0, .slice none 0 0] 27)).alloc (.cells #[.slice none 0 0, .slice none 0 0, .slice none 0 0] 27) ∧ Hid (DS w B a len cap (w.heap.size + 1 + 1) (.slice none 0 0) (.slice none 0 0) (.slice none 0 0) [] [] [] W0) := ⟨_, rfl, DS.new h⟩
  have HW0 : Hid (W0 = _) := hW0
  clear h hW0
  go_enter Try.func40, Try.ntmps40
  go_wp2_with fail
  rw [← HW0.out]
  refine (rd_size B a len cap _ D0.out.rd).mono ?_
  rintro e w1 ⟨v, rfl, v1, v2, R1, S1⟩
  obtain ⟨k0, rfl⟩ := Int.eq_ofNat_of_zero_le (show 0 ≤ v by omega)
  have D1 : Hid (DS w B a len cap (w.heap.size + 1 + 1) (.slice none 0 0) (.slice none 0 0) (.slice none 0 0) [] [] [] w1) := D0.out.step R1 S1
  have hk0 : k0 ≤ 10 := by omega
  clear R1 S1 D0 HW0 v1 v2
  go_wp2
  go_loopw [4] (fun i wr => ∃ (k hi : Nat) (a1 : Option Addr) (n1 c1 : Nat) (a2 : Option Addr) (n2 c2 : Nat) (a3 : Option Addr) (n3 c3 : Nat) (L1 L2 : List Fl) (L3 : List Dp), k ≤ 10 ∧ i = .int .i64 k ∧ Hid (DS w B a len cap hi (.slice a1 n1 c1) (.slice a2 n2 c2) (.slice a3 n3 c3) L1 L2 L3 wr) ∧ Hid (OkS L1 L2 L3)) (fun i _ => (intOf i).toNat)
  case atStart => exact ⟨k0, _, none, 0, 0, none, 0, 0, none, 0, 0, [], [], [], hk0, rfl, D1, OkS.nil⟩
  case round =>
    obtain ⟨k, hi, a1, n1, c1, a2, n2, c2, a3, n3, c3, L1, L2, L3, hk, rfl, hD, OK⟩ := hrel
    clear D1 hk0
    by_cases hlt : 0 < k
    · have hlt' : (0 : Int) < (k : Int) := by omega
      go_wp2_with fail
      refine (rd_once B a len cap 5 _ hD.out.rd (by omega) (by omega)).mono ?_
      rintro e W ⟨b, rfl, R2, S2⟩
      have D2 : Hid (DS w B a len cap hi (.slice a1 n1 c1) (.slice a2 n2 c2) (.slice a3 n3 c3) L1 L2 L3 W) := hD.out.step R2 S2
      clear R2 S2 hD
      cases b with
      | true =>
        obtain ⟨⟨s0, s1, s2⟩, _, _⟩ := D2.out.sg.box
        go_wp2_with fail
        refine (specSyncL c1 c2 c3 (D2.out.dk OK.out)).mono ?_
        rintro e w3 ⟨p1, m1, pc1, p2, m2, pc2, p3, m3, pc3, rfl, O3, B3⟩
        rw [OK.out.1] at O3
        have hz : hi ≤ W.heap.size ∨ W.heap.size < hi := by omega
        have D3 : Hid (DS w B a len cap w3.heap.size (.slice p1 m1 pc1) (.slice p2 m2 pc2) (.slice p3 m3 pc3) L1 L1 [] (set3 w3 (w.heap.size + 1) (.slice p1 m1 pc1) (.slice p2 m2 pc2) (.slice p3 m3 pc3))) := DS.put (D2.out.fit) B3 O3 (Nat.le_refl _)
        have OK3 : Hid (OkS L1 L1 []) := OK.out.synced
        obtain ⟨⟨t0, t1, t2⟩, tf, tl⟩ := (D2.out.fit.low B3 (Nat.le_refl _)).sg.box
        clear D2 O3 B3 OK s0 s1 s2 hz
        go_wp2
        go_roundw
        case rel => exact ⟨k - 1, _, p1, m1, pc1, p2, m2, pc2, p3, m3, pc3, L1, L1, [], by omega, by go_num, D3, OK3⟩
        case measure => simp [intOf]; omega
      | false =>
        have X : Hid (DS w B a len cap W.heap.size (.slice a1 n1 c1) (.slice a2 n2 c2) (.slice a3 n3 c3) L1 L2 L3 W) := D2.out.fit
        clear D2
        obtain ⟨Y, hY⟩ : ∃ Y : World → Prop, Y = fun V => DS w B a len cap W.heap.size (.slice a1 n1 c1) (.slice a2 n2 c2) (.slice a3 n3 c3) L1 L2 L3 V := ⟨_, rfl⟩
        have YO : Hid (∀ V, Y V → DS w B a len cap W.heap.size (.slice a1 n1 c1) (.slice a2 n2 c2) (.slice a3 n3 c3) L1 L2 L3 V) := fun V hV => by rw [hY] at hV; exact hV
        have LW : Hid (Low W.heap.size Y) := by rw [hY]; exact fun V V' hV hb => DS.low hV hb (Nat.le_refl _)
        have y : Y W := by rw [hY]; exact X.out
        have DP : Hid (∀ V, Y V → Calls Try.prog 55 #[.pointer (some ⟨B, 0, none⟩)] V fun e w' => ∃ o : Dp, e = .returned (.agg #[.int .i64 o.kind, .string o.name, .string o.dst, .string o.data]) ∧ o.data.size ≤ 3 ∧ Y w' ∧ Stp B V w') := fun V hV => (rd_dop B a len cap V (YO.out V hV).rd).mono (by rintro e w' ⟨o, he, ho, hr, hs⟩; exact ⟨o, he, ho, by rw [hY]; exact (YO.out V hV).step hr hs, hs⟩)
        have DO : Hid (∀ V (o : Dp), o.data.size ≤ 3 → Y V → Calls Try.prog 21 #[.agg #[.slice a1 n1 c1, .slice a2 n2 c2, .slice a3 n3 c3], .agg #[.int .i64 o.kind, .string o.name, .string o.dst, .string o.data]] V fun e w' => ActOut V (doC L1 L2 L3 o) (doLv L1 L2 L3 o) (doSf L1 L2 L3 o) (doOs L1 L2 L3 o) e w') := fun V o ho hV => specDoL c1 c2 c3 ((YO.out V hV).dk OK.out) o (by omega)
        have YS : Hid (∀ V, Y V → (V.cell? ⟨w.heap.size + 1, 0, none⟩ = some (.slice a1 n1 c1) ∧ V.cell? ⟨w.heap.size + 1, 1, none⟩ = some (.slice a2 n2 c2) ∧ V.cell? ⟨w.heap.size + 1, 2, none⟩ = some (.slice a3 n3 c3))) := fun V hV => (YO.out V hV).sg.box.1
        clear hY
        have y0 : Y W.drew := LW.out.drew y
        have y0a : Y (W.alloc (.cells #[.slice none 0 0, .slice none 0 0, .slice none 0 0] 27)).drew := LW.out.drew (LW.out.alloc y (Nat.le_refl _) _)
        have q0a : Hid (Box3 (W.alloc (.cells #[.slice none 0 0, .slice none 0 0, .slice none 0 0] 27)).drew W.heap.size (.slice none 0 0) (.slice none 0 0) (.slice none 0 0)) := newDrew W
        have hs0 : W.heap.size ≤ W.drew.heap.size := Nat.le_refl _
        have hs0a : W.heap.size ≤ (W.alloc (.cells #[.slice none 0 0, .slice none 0 0, .slice none 0 0] 27)).drew.heap.size := by show _ ≤ (W.alloc (.cells #[.slice none 0 0, .slice none 0 0, .slice none 0 0] 27)).heap.size; simp
        have k0 : (W.drew.cell? ⟨w.heap.size + 1, 0, none⟩ = some (.slice a1 n1 c1) ∧ W.drew.cell? ⟨w.heap.size + 1, 1, none⟩ = some (.slice a2 n2 c2) ∧ W.drew.cell? ⟨w.heap.size + 1, 2, none⟩ = some (.slice a3 n3 c3)) := YS.out _ y0
        have k0a : ((W.alloc (.cells #[.slice none 0 0, .slice none 0 0, .slice none 0 0] 27)).drew.cell? ⟨w.heap.size + 1, 0, none⟩ = some (.slice a1 n1 c1) ∧ (W.alloc (.cells #[.slice none 0 0, .slice none 0 0, .slice none 0 0] 27)).drew.cell? ⟨w.heap.size + 1, 1, none⟩ = some (.slice a2 n2 c2) ∧ (W.alloc (.cells #[.slice none 0 0, .slice none 0 0, .slice none 0 0] 27)).drew.cell? ⟨w.heap.size + 1, 2, none⟩ = some (.slice a3 n3 c3)) := YS.out _ y0a
        have hBW : W.heap.size ≠ B := by have := X.out.rd.2.2.2.1; omega
        go_wp2_with fail
        go_cut [5, 6] (fun sp sr wx => ∃ (P : Nat) (o : Dp) (p1 : Option Addr) (m1 pc1 : Nat) (p2 : Option Addr) (m2 pc2 : Nat) (p3 : Option Addr) (m3 pc3 : Nat), sp = .pointer (some ⟨P, 0, none⟩) ∧ sr = .int .i64 (doC L1 L2 L3 o) ∧ Hid (o.data.size ≤ 3) ∧ Hid (Y wx ∧ SG wx W.heap.size wx.heap.size P (.slice p1 m1 pc1) (.slice p2 m2 pc2) (.slice p3 m3 pc3) (doLv L1 L2 L3 o) (doSf L1 L2 L3 o) (doOs L1 L2 L3 o)))
        case first =>
          go_region_held3 (fun V => (V.cell? ⟨w.heap.size + 1, 0, none⟩ = some (.slice a1 n1 c1) ∧ V.cell? ⟨w.heap.size + 1, 1, none⟩ = some (.slice a2 n2 c2) ∧ V.cell? ⟨w.heap.size + 1, 2, none⟩ = some (.slice a3 n3 c3))) (first | with_reducible exact k0 | with_reducible exact k0a | with_reducible exact k1 | with_reducible exact k1a | with_reducible exact k2 | with_reducible exact k2a _ | with_reducible exact k2s _ _ _ _ (by omega)) (first | (go_at_call 55; refine (DP.out _ (by first | with_reducible exact y0 | with_reducible exact y0a)).mono ?_; rintro e u1 ⟨o, rfl, ho, y1, S1⟩; have hs1 : W.heap.size ≤ u1.heap.size := (by first | with_reducible exact Nat.le_trans hs0 S1.size | with_reducible exact Nat.le_trans hs0a S1.size); have y1a : Y (u1.alloc (.cells #[.slice none 0 0, .slice none 0 0, .slice none 0 0] 27)) := LW.out.alloc y1 hs1 _; have k1 : (u1.cell? ⟨w.heap.size + 1, 0, none⟩ = some (.slice a1 n1 c1) ∧ u1.cell? ⟨w.heap.size + 1, 1, none⟩ = some (.slice a2 n2 c2) ∧ u1.cell? ⟨w.heap.size + 1, 2, none⟩ = some (.slice a3 n3 c3)) := YS.out _ y1; have k1a : ((u1.alloc (.cells #[.slice none 0 0, .slice none 0 0, .slice none 0 0] 27)).cell? ⟨w.heap.size + 1, 0, none⟩ = some (.slice a1 n1 c1) ∧ (u1.alloc (.cells #[.slice none 0 0, .slice none 0 0, .slice none 0 0] 27)).cell? ⟨w.heap.size + 1, 1, none⟩ = some (.slice a2 n2 c2) ∧ (u1.alloc (.cells #[.slice none 0 0, .slice none 0 0, .slice none 0 0] 27)).cell? ⟨w.heap.size + 1, 2, none⟩ = some (.slice a3 n3 c3)) := YS.out _ y1a; have hs1a : W.heap.size ≤ (u1.alloc (.cells #[.slice none 0 0, .slice none 0 0, .slice none 0 0] 27)).heap.size := Nat.le_trans hs1 (by simp); (first | (have q1' : Box3 u1 W.heap.size (.slice none 0 0) (.slice none 0 0) (.slice none 0 0) := (by first | with_reducible exact q0a.out.stp S1 hBW); have q1 : Hid (Box3 u1 W.heap.size (.slice none 0 0) (.slice none 0 0) (.slice none 0 0)) := q1'; clear q1') | skip); have HO : Hid (o.data.size ≤ 3) := ho; clear S1) | (go_at_call 21; refine (DO.out _ o HO.out (by first | with_reducible exact y1 | with_reducible exact y1a)).mono ?_; rintro e u2 ⟨p1, m1, pc1, p2, m2, pc2, p3, m3, pc3, rfl, O3, B2⟩; have y2 : Y u2 := (by first | with_reducible exact LW.out.kept y1 hs1 B2 | with_reducible exact LW.out.kept y1a hs1a B2); have hs2 : W.heap.size ≤ u2.heap.size := (by first | with_reducible exact Nat.le_trans hs1 B2.size | with_reducible exact Nat.le_trans hs1a B2.size); have k2 : (u2.cell? ⟨w.heap.size + 1, 0, none⟩ = some (.slice a1 n1 c1) ∧ u2.cell? ⟨w.heap.size + 1, 1, none⟩ = some (.slice a2 n2 c2) ∧ u2.cell? ⟨w.heap.size + 1, 2, none⟩ = some (.slice a3 n3 c3)) := YS.out _ y2; have k2a : ∀ ob, ((u2.alloc ob).cell? ⟨w.heap.size + 1, 0, none⟩ = some (.slice a1 n1 c1) ∧ (u2.alloc ob).cell? ⟨w.heap.size + 1, 1, none⟩ = some (.slice a2 n2 c2) ∧ (u2.alloc ob).cell? ⟨w.heap.size + 1, 2, none⟩ = some (.slice a3 n3 c3)) := fun ob => YS.out _ (LW.out.alloc y2 hs2 ob); have k2s : ∀ (P : Nat) (x1 x2 x3 : Value), W.heap.size ≤ P → ((((u2.setCell ⟨P, 0, none⟩ x1).setCell ⟨P, 1, none⟩ x2).setCell ⟨P, 2, none⟩ x3).cell? ⟨w.heap.size + 1, 0, none⟩ = some (.slice a1 n1 c1) ∧ (((u2.setCell ⟨P, 0, none⟩ x1).setCell ⟨P, 1, none⟩ x2).setCell ⟨P, 2, none⟩ x3).cell? ⟨w.heap.size + 1, 1, none⟩ = some (.slice a2 n2 c2) ∧ (((u2.setCell ⟨P, 0, none⟩ x1).setCell ⟨P, 1, none⟩ x2).setCell ⟨P, 2, none⟩ x3).cell? ⟨w.heap.size + 1, 2, none⟩ = some (.slice a3 n3 c3)) := fun P x1 x2 x3 hP => YS.out _ (LW.out.sets y2 hP x1 x2 x3); (first | (have FX0 := doneSet y2 LW.out O3 (q1.out.kept B2 q1.out.2.2) (by omega) q1.out.2.2; obtain ⟨⟨pb0, pb1, pb2⟩, pf, pl⟩ := q1.out.kept B2 q1.out.2.2) | (have FX0 := doneSet y2 LW.out O3 ((Box3.new u1 _ _ _ 27).kept B2 (by simp)) (by omega) (by simp); obtain ⟨⟨pb0, pb1, pb2⟩, pf, pl⟩ := (Box3.new u1 (.slice none 0 0) (.slice none 0 0) (.slice none 0 0) 27).kept B2 (by simp)) | have FX0 := doneNew y2 LW.out O3 (by omega) hs2); have FX : Hid _ := FX0; clear FX0 O3 B2))
          all_goals go_wp2_with fail
          all_goals go_meet
          all_goals exact ⟨_, o, p1, m1, pc1, p2, m2, pc2, p3, m3, pc3, rfl, rfl, HO, FX⟩
        case rest =>
          obtain ⟨P, o, p1, m1, pc1, p2, m2, pc2, p3, m3, pc3, rfl, rfl, HO, HZ⟩ := hcut
          obtain ⟨w4, hw4⟩ : ∃ w4, w4 = wc := ⟨_, rfl⟩
          subst hw4
          have D4 : Hid (DS w B a len cap W.heap.size (.slice a1 n1 c1) (.slice a2 n2 c2) (.slice a3 n3 c3) L1 L2 L3 w4) := YO.out _ HZ.out.1
          have SP : Hid (SG w4 W.heap.size w4.heap.size P (.slice p1 m1 pc1) (.slice p2 m2 pc2) (.slice p3 m3 pc3) (doLv L1 L2 L3 o) (doSf L1 L2 L3 o) (doOs L1 L2 L3 o)) := HZ.out.2
          clear HZ YO LW y DP DO YS y0 y0a q0a hs0 hs0a k0 k0a hBW X
          by_cases hc : doC L1 L2 L3 o = 0
          · have hc' : (doC L1 L2 L3 o == 0) = true := by simp [hc]
            have OK4 : Hid (OkS (doLv L1 L2 L3 o) (doSf L1 L2 L3 o) (doOs L1 L2 L3 o)) := OK.out.done hc HO.out
            have D5 : Hid (DS w B a len cap w4.heap.size (.slice p1 m1 pc1) (.slice p2 m2 pc2) (.slice p3 m3 pc3) (doLv L1 L2 L3 o) (doSf L1 L2 L3 o) (doOs L1 L2 L3 o) (set3 w4 (w.heap.size + 1) (.slice p1 m1 pc1) (.slice p2 m2 pc2) (.slice p3 m3 pc3))) := DS.put D4.out (Below.refl _ _) SP.out.own (Nat.le_refl _)
            obtain ⟨⟨s0, s1, s2⟩, _, _⟩ := SP.out.box
            obtain ⟨⟨t0, t1, t2⟩, tf, tl⟩ := D4.out.sg.box
            clear D4 SP OK HO hc
            generalize doC L1 L2 L3 o = kc at *
            go_wp2
            go_roundw
            case rel => exact ⟨k - 1, _, p1, m1, pc1, p2, m2, pc2, p3, m3, pc3, _, _, _, by omega, by go_num, D5, OK4⟩
            case measure => simp [intOf]; omega
          · have hc' : (doC L1 L2 L3 o == 0) = false := by simp [hc]
            clear SP HO hc
            generalize doC L1 L2 L3 o = kc at *
            go_wp2
            go_roundw
            case rel => exact ⟨k - 1, _, a1, n1, c1, a2, n2, c2, a3, n3, c3, L1, L2, L3, by omega, by go_num, D4, OK⟩
            case measure => simp [intOf]; omega
    · have hk00 : k = 0 := by omega
      subst hk00
      go_wp2_with fail
      refine (rd_below B a len cap 40 _ hD.out.rd (by omega) (by omega)).mono ?_
      rintro e W ⟨v, rfl, v1, v2, R2, S2⟩
      have D2 : Hid (DS w B a len cap W.heap.size (.slice a1 n1 c1) (.slice a2 n2 c2) (.slice a3 n3 c3) L1 L2 L3 W) := (hD.out.step R2 S2).fit
      clear R2 S2 hD hlt hk
      obtain ⟨⟨s0, s1, s2⟩, sf, sl⟩ := D2.out.sg.box
      obtain ⟨⟨r0, r1, r2⟩, rf, rl⟩ := D2.out.r0
      by_cases h0 : v = 0
      · subst h0
        obtain ⟨i0, hi0, hz0, hz1, hz2⟩ := info_parts infoFl
        obtain ⟨bb1, _⟩ := OK.out.bounds
        clear r0 r1 r2 rf rl
        go_wp2_with (at_builtin; refine wpList_append_own _ rfl _ _ 24 rfl (w.heap.size + 1 + 1) 75 i0 _ 2 32 Try.underlying24 hi0 hz0 hz1 hz2 rfl (by decide) _ L1.length _ rfl (World.ownsRow.alloc D2.out.own2.live _) ⟨_, 0, none⟩ 1 1 (FlC (⟨⟨#[122, 122]⟩, ⟨#[]⟩⟩ : Fl)) rfl rfl (flNews _ (⟨⟨#[122, 122]⟩, ⟨#[]⟩⟩ : Fl)) (flOne _) (by unfold maxLen; omega) (by omega) (by have := D2.out.sg.box.2.2; simp; omega) ?_; intro v3 w3 own3 grow3 _; have A3 : FlL w3 (w.heap.size + 1 + 1) v3 (L1 ++ [(⟨⟨#[122, 122]⟩, ⟨#[]⟩⟩ : Fl)]) := FlL.snoc own3; have FI := D2.out.app OK.out A3 (by show (⟨#[]⟩ : ByteArray).size ≤ 1000; decide) grow3; obtain ⟨va, vn, vc, hv⟩ : ∃ va vn vc, v3 = .slice va vn vc := (by obtain ⟨x, y, hh, _, _⟩ := A3.shape; exact ⟨x, _, y, hh⟩); subst hv; have FI2 : Hid (DrAns w B a len cap (.returned (.agg #[.slice va vn vc, .slice a2 n2 c2, .slice a3 n3 c3])) (set3 (w3.setCell ⟨w.heap.size + 1, 0, none⟩ (.slice va vn vc)) w.heap.size (.slice va vn vc) (.slice a2 n2 c2) (.slice a3 n3 c3))) := FI.2; obtain ⟨⟨⟨r0, r1, r2⟩, rf, rl⟩, ⟨s0, s1, s2⟩, sf, sl⟩ := FI.1; clear A3 own3 grow3 FI)
        exact bodyPost_ret (v := .agg #[.slice va vn vc, .slice a2 n2 c2, .slice a3 n3 c3]) (by simp [results, Try.results40, go_sem, r0, r1, r2]) rfl FI2.out
      have b0 : (v == 0) = false := by simp [h0]
      by_cases h1 : v = 1
      · subst h1
        by_cases hz : n3 = 0
        · subst hz
          have FI : Hid (DrAns w B a len cap (.returned (.agg #[.slice a1 n1 c1, .slice a2 n2 c2, .slice a3 0 c3])) (set3 W w.heap.size (.slice a1 n1 c1) (.slice a2 n2 c2) (.slice a3 0 c3))) := D2.out.fin OK.out
          go_wp2
          exact bodyPost_ret (v := .agg #[.slice a1 n1 c1, .slice a2 n2 c2, .slice a3 0 c3]) (by simp [results, Try.results40, go_sem, r0, r1, r2]) rfl FI.out
        have hz' : (0 : Int) < (n3 : Int) := by omega
        obtain ⟨g3, hg3, hn3, hm3, HT⟩ := D2.out.tail OK.out (by omega)
        subst hg3
        have hn3' : (n3 : Int) ≤ (c3 : Int) := by omega
        have hn1 : (1 : Int) ≤ (n3 : Int) := by omega
        go_wp2
        · have e3 : n3 = 1 := by omega
          exact bodyPost_ret (v := .agg #[.slice a1 n1 c1, .slice a2 n2 c2, .slice (some ⟨g3, 0, none⟩) (n3 - 1) 0]) (by simp [results, Try.results40, go_sem, r0, r1, r2]) rfl (HT.out _ _ (Or.inr ⟨e3, rfl⟩))
        · exact bodyPost_ret (v := .agg #[.slice a1 n1 c1, .slice a2 n2 c2, .slice (some ⟨g3, 4, none⟩) (n3 - 1) (c3 - 1)]) (by simp [results, Try.results40, go_sem, r0, r1, r2]) rfl (HT.out _ _ (Or.inl rfl))
      have b1 : (v == 1) = false := by simp [h1]
      by_cases h2 : v = 2
      · subst h2
        clear r0 r1 r2 rf rl s0 s1 s2 sf sl
        go_wp2_with fail
        refine (rd_below B a len cap 9 _ D2.out.rd (by omega) (by omega)).mono ?_
        rintro e W1 ⟨v, rfl, v3, v4, R3, S3⟩
        obtain ⟨n, hn⟩ := Int.eq_ofNat_of_zero_le (show 0 ≤ 200000 - v by omega)
        have hnn : n ≤ 200000 := by omega
        have D3 : Hid (DS w B a len cap W.heap.size (.slice a1 n1 c1) (.slice a2 n2 c2) (.slice a3 n3 c3) L1 L2 L3 W1) := D2.out.step R3 S3
        obtain ⟨⟨s0, s1, s2⟩, sf, sl⟩ := D3.out.sg.box
        obtain ⟨⟨r0, r1, r2⟩, rf, rl⟩ := D3.out.r0
        have hmk := makeBy n hnn
        have hcv := convBy W1 n hnn
        have hdz : (zeroB n).size = n := zeroB_size n
        clear R3 S3 D2 v1 v2 v3 v4
        generalize zeroB n = dz at *
        obtain ⟨VB, hVB, FB⟩ : ∃ VB, VB = bigW W1 (w.heap.size + 1) n ⟨#[98, 105, 103]⟩ dz ∧ _ := ⟨_, rfl, D3.out.big n ⟨#[98, 105, 103]⟩ dz (by omega)⟩
        rw [← hVB] at FB
        have FI : Hid (DrAns w B a len cap (.returned (.agg #[.slice (some ⟨W1.heap.size + 1, 0, none⟩) 1 1, .slice (some ⟨W1.heap.size + 1, 0, none⟩) 1 1, .slice none 0 0])) (set3 VB w.heap.size (.slice (some ⟨W1.heap.size + 1, 0, none⟩) 1 1) (.slice (some ⟨W1.heap.size + 1, 0, none⟩) 1 1) (.slice none 0 0))) := FB.2
        have FX : Hid (Box3 VB w.heap.size (.slice none 0 0) (.slice none 0 0) (.slice none 0 0) ∧ Box3 VB (w.heap.size + 1) (.slice (some ⟨W1.heap.size + 1, 0, none⟩) 1 1) (.slice (some ⟨W1.heap.size + 1, 0, none⟩) 1 1) (.slice none 0 0)) := FB.1
        have HVB : Hid (bigW W1 (w.heap.size + 1) n ⟨#[98, 105, 103]⟩ dz = VB) := hVB.symm
        clear hVB FB D3
        go_upto_region 19 with fail
        have hfin := HVB.out
        unfold bigW at hfin
        rw [hfin]
        clear hfin s0 s1 s2 sf sl r0 r1 r2 rf rl hmk hcv
        obtain ⟨⟨⟨r0, r1, r2⟩, rf, rl⟩, ⟨s0, s1, s2⟩, sf, sl⟩ := FX.out
        go_wp2
        exact bodyPost_ret (v := .agg #[.slice (some ⟨W1.heap.size + 1, 0, none⟩) 1 1, .slice (some ⟨W1.heap.size + 1, 0, none⟩) 1 1, .slice none 0 0]) (by simp [results, Try.results40, go_sem, r0, r1, r2]) rfl FI.out
      have b2 : (v == 2) = false := by simp [h2]
      clear h0 h1 h2 v1 v2
      have F : Hid (DkL W a1 n1 a2 n2 a3 n3 L1 L2 L3) := D2.out.dk OK.out
      have FI : Hid (DrAns w B a len cap (.returned (.agg #[.slice a1 n1 c1, .slice a2 n2 c2, .slice a3 n3 c3])) (set3 W w.heap.size (.slice a1 n1 c1) (.slice a2 n2 c2) (.slice a3 n3 c3))) := D2.out.fin OK.out
      go_wp2
      exact bodyPost_ret (v := .agg #[.slice a1 n1 c1, .slice a2 n2 c2, .slice a3 n3 c3]) (by simp [results, Try.results40, go_sem, r0, r1, r2]) rfl FI.out
end Go.Proofs.Ytcalgmhpagpnnaa

/- When power is lost: all ops kept, or none (mathematics). No conditions. -/
namespace Go.Proofs.Ytcalgmhpagpnnaa
open Go.RowKit
set_option maxRecDepth 8000

theorem kp_all (r : Nat) : kpB r (fun i => (i : Int)) r = true := kpB_yes.2 fun i hi => ⟨by show (0 : Int) ≤ (i : Int); omega, by show (i : Int) < (r : Int); omega, fun h => by show ((i - 1 : Nat) : Int) < (i : Int); omega⟩
theorem kp_nil (r : Nat) (K : Nat → Int) : kpB r K 0 = true := kpB_yes.2 fun _ hi => absurd hi (Nat.not_lt_zero _)
theorem stepF_do {M M' : List Fl} {o : Dp} (h : stepF M o = some M') : doF M o = some M' := by
  unfold stepF at h
  split at h
  · cases hd : doF M o with
    | none => rw [hd] at h; cases h
    | some X =>
      rw [hd] at h
      simp only [Option.bind_some] at h
      split at h
      · exact h
      · cases h
  · cases h
theorem crOp_all {O : Nat → Dp} {r : Nat} {t : Int} {k : Nat} (hk : k < r) (hf : ∀ i, i < r → formB (O i) = true) (hs : ∀ i, i < r → ((O i).data.size : Int) ≤ t) : crOp O (fun i => (i : Int)) r t k = O k := by
  have h0 := hs k hk
  unfold crOp
  simp only [Int.toNat_natCast]
  split
  · exact torn_same (hf k hk) (by omega) (Or.inr h0)
  · rfl
theorem crF_all {O : Nat → Dp} {r : Nat} {t : Int} {Sf Lv : List Fl} (hr : runF Sf (lst O r) = some Lv) (hs : ∀ i, i < r → ((O i).data.size : Int) ≤ t) : crF O (fun i => (i : Int)) r t Sf r = Lv := by
  have hf : ∀ i, i < r → formB (O i) = true := fun i hi => run_forms _ _ _ hr _ (lst_mem.2 ⟨i, hi, rfl⟩)
  have key : ∀ k, k ≤ r → runF Sf (lst O k) = some (crF O (fun i => (i : Int)) r t Sf k) := by
    intro k
    induction k with
    | zero => intro _; rfl
    | succ k ih =>
      intro hk
      have h1 := ih (by omega)
      obtain ⟨ys, hy⟩ := lst_split O hk
      rw [hy, runF_append] at hr
      have h2 : ∃ M, runF Sf (lst O (k + 1)) = some M := by
        cases h : runF Sf (lst O (k + 1)) with
        | none => rw [h] at hr; cases hr
        | some M => exact ⟨M, rfl⟩
      obtain ⟨M, hM⟩ := h2
      have h3 := hM
      rw [lst_succ, runF_snoc, h1] at h3
      have h4 := stepF_do (by simpa using h3)
      have h5 : crF O (fun i => (i : Int)) r t Sf (k + 1) = M := by
        show (doF (crF O (fun i => (i : Int)) r t Sf k) (crOp O (fun i => (i : Int)) r t k)).getD _ = M
        rw [crOp_all (by omega) hf hs, h4]
        rfl
      rw [hM, h5]
  have := key r (Nat.le_refl _)
  rw [hr] at this
  exact (Option.some.inj this).symm
theorem disk_parts {Lv Sf : List Fl} {Os : List Dp} (h : diskB Lv Sf Os = true) : filesB Lv = true ∧ filesB Sf = true ∧ Os.length ≤ 200 ∧ runF Sf Os = some Lv := by
  simp only [diskB, Bool.and_eq_true, decide_eq_true_eq] at h
  exact ⟨h.1.1.1, h.1.1.2, h.1.2, h.2⟩
/-- All ops kept, whole. -/
theorem cr_all {Lv Sf : List Fl} {O : Nat → Dp} {r : Nat} (hs : ∀ i, i < r → (O i).data.size ≤ 1048576) :
    crB Lv Sf O r (fun i => (i : Int)) r 1099511627776 = diskB Lv Sf (lst O r) ∧ crL Lv Sf O r (fun i => (i : Int)) r 1099511627776 = sy1 (diskB Lv Sf (lst O r)) Lv := by
  cases hx : diskB Lv Sf (lst O r)
  · exact ⟨(cr_no (Or.inl hx)).1, (cr_no (Or.inl hx)).2⟩
  · obtain ⟨h1, h2, h3, h4⟩ := disk_parts hx
    have e := crF_all (t := 1099511627776) h4 (fun i hi => by have := hs i hi; omega)
    obtain ⟨y1, y2⟩ := cr_yes (t := 1099511627776) hx (kp_all r) (by omega)
    rw [e] at y1 y2
    rw [y1, y2, h1]
    exact ⟨rfl, rfl⟩
/-- None kept. -/
theorem cr_nil {Lv Sf : List Fl} {O : Nat → Dp} {r : Nat} (K : Nat → Int) :
    crB Lv Sf O r K 0 0 = diskB Lv Sf (lst O r) ∧ crL Lv Sf O r K 0 0 = sy1 (diskB Lv Sf (lst O r)) Sf := by
  cases hx : diskB Lv Sf (lst O r)
  · exact ⟨(cr_no (Or.inl hx)).1, (cr_no (Or.inl hx)).2⟩
  · obtain ⟨h1, h2, h3, h4⟩ := disk_parts hx
    obtain ⟨y1, y2⟩ := cr_yes (t := 0) hx (kp_nil r K) (by omega)
    have e : crF O K 0 0 Sf 0 = Sf := rfl
    rw [e, h2] at y1 y2
    rw [y1, y2]
    exact ⟨rfl, rfl⟩
end Go.Proofs.Ytcalgmhpagpnnaa

/- The drawn laws of disks: a disk is drawn, disks in boxes. Conditions: the code's bytes lie in memory. -/
namespace Go.Proofs.Ytcalgmhpagpnnaa
open Go.RowKit
set_option maxRecDepth 8000

/-- A disk that is drawn. -/
def DrawOut (w : World) (e : Ending) (w' : World) : Prop :=
  ∃ a1 n1 c1 a2 n2 c2 a3 n3 c3 L1 L2 L3, e = .returned (.agg #[.slice a1 n1 c1, .slice a2 n2 c2, .slice a3 n3 c3]) ∧ DkL w' a1 n1 a2 n2 a3 n3 L1 L2 L3 ∧ Below w.heap.size w w'

set_option maxHeartbeats 1000000 in
theorem drawDisk (a : Option Addr) (len cap : Nat) (w : World) (hc : Code w a len) :
    Calls Try.prog 13 #[.slice a len cap] w fun e w' => DrawOut w e w' := by
  obtain ⟨W0, hW0, X0, xb, hs0⟩ : ∃ W0, W0 = w.alloc (.cells #[.slice none 0 0, .slice none 0 0, .slice none 0 0] 27) ∧ Hid (Box3 W0 w.heap.size (.slice none 0 0) (.slice none 0 0) (.slice none 0 0)) ∧ Hid (Below w.heap.size w W0) ∧ Hid (W0.heap.size = w.heap.size + 1) := ⟨_, rfl, Box3.new w _ _ _ 27, (Below.refl _ _).alloc (Nat.le_refl _) _, World.size_alloc _ _⟩
  have HW0 : Hid (W0 = _) := hW0
  have HC : Hid (Code w a len) := hc
  clear hW0 hc
  go_enter Try.func13, Try.ntmps13
  go_wp2_with fail
  rw [← HW0.out]
  refine (rd_open a len cap _ HC.out.1 (fun i hi => by obtain ⟨b, off, z, h1, h2, h3, h4⟩ := HC.out.2 i hi; exact ⟨b, off, z, h1, by have := hs0.out; omega, (xb.out.cell (p := ⟨b, off + i, none⟩) h2).trans h3, h4⟩)).mono ?_
  rintro e w1 ⟨rfl, R1, B1⟩
  have X1 : Hid (Box3 w1 w.heap.size (.slice none 0 0) (.slice none 0 0) (.slice none 0 0) ∧ Below w.heap.size w w1 ∧ Rd w1 W0.heap.size a len cap) := ⟨X0.out.kept B1 (by have := hs0.out; omega), xb.out.trans (B1.mono (by have := hs0.out; omega)), R1⟩
  clear R1 B1 X0 xb HW0
  go_wp2_with fail
  refine (rd_disk _ a len cap _ X1.out.2.2).mono ?_
  rintro e w2 ⟨a1, n1, c1, a2, n2, c2, a3, n3, c3, L1, L2, L3, rfl, D2, Bh, R2, S2⟩
  have hlt : w.heap.size < w1.heap.size := X1.out.1.2.2
  have FI : Hid (DrawOut w (.returned (.agg #[.slice a1 n1 c1, .slice a2 n2 c2, .slice a3 n3 c3])) (set3 w2 w.heap.size (.slice a1 n1 c1) (.slice a2 n2 c2) (.slice a3 n3 c3))) := by
    have B2 : Below w.heap.size w w2 := X1.out.2.1.trans ((S2.below (Nat.le_of_lt X1.out.2.2.2.2.2.1)).mono (by have := hs0.out; omega))
    have Bh' : Beh w.heap.size a1 a2 a3 := Bh.mono (by omega)
    exact ⟨a1, n1, c1, a2, n2, c2, a3, n3, c3, L1, L2, L3, rfl, ((D2.set Bh' (Nat.le_refl _) _ _).set Bh' (Nat.le_refl _) _ _).set Bh' (Nat.le_refl _) _ _, below_far (below_far (below_far B2 (Nat.le_refl _) _ _) (Nat.le_refl _) _ _) (Nat.le_refl _) _ _⟩
  obtain ⟨⟨r0, r1, r2⟩, rf, rl⟩ := X1.out.1.stp S2 (by have := hs0.out; omega)
  clear hlt D2 Bh R2 S2 X1
  go_wp2
  exact bodyPost_ret (v := .agg #[.slice a1 n1 c1, .slice a2 n2 c2, .slice a3 n3 c3]) (by simp [results, Try.results13, go_sem, r0, r1, r2]) rfl FI.out

/-- Files in memory, by their list. -/
def FlsL (V : World) (q : Option Addr) (n : Nat) (L : List Fl) : Prop := ∃ F, Fls V q n F ∧ lst F n = L
theorem FlsL.below {V V' : World} {q : Option Addr} {n : Nat} {L : List Fl} (h : FlsL V q n L) (hb : Below V.heap.size V V') : FlsL V' q n L := by
  obtain ⟨F, h1, h2⟩ := h
  exact ⟨F, h1.below hb, h2⟩
theorem FlsL.of {V : World} {B : Nat} {q : Option Addr} {n c : Nat} {L : List Fl} (h : FlL V B (.slice q n c) L) (hl : L.length ≤ 1048576) : FlsL V q n L := by
  obtain ⟨e, f⟩ := h.list hl
  subst e
  exact ⟨_, f, lst_FlF _⟩
theorem same_yes {V : World} {q q' : Option Addr} {n m : Nat} (c c' : Nat) {L : List Fl} (h1 : FlsL V q n L) (h2 : FlsL V q' m L) :
    Calls Try.prog 18 #[.slice q n c, .slice q' m c'] V fun e w' => e = .returned (.bool true) ∧ Below V.heap.size V w' := by
  obtain ⟨F, h1, e1⟩ := h1
  obtain ⟨G, h2, e2⟩ := h2
  exact lawSameL h1 h2 (by rw [e1, e2])
theorem implDiskL {V : World} {q q' q'' : Option Addr} {n m r : Nat} (c c' c'' : Nat) {L1 L2 : List Fl} {L3 : List Dp} (h : DkL V q n q' m q'' r L1 L2 L3) :
    Calls Try.prog 14 #[.agg #[.slice q n c, .slice q' m c', .slice q'' r c'']] V fun e w' => e = .returned (.bool (diskB L1 L2 L3)) ∧ Below V.heap.size V w' := by
  obtain ⟨F, G, O, hd, rfl, rfl, rfl⟩ := h
  exact implDisk q q' q'' n m r c c' c'' F G O V hd
theorem specDiskL {V : World} {q q' q'' : Option Addr} {n m r : Nat} (c c' c'' : Nat) {L1 L2 : List Fl} {L3 : List Dp} (h : DkL V q n q' m q'' r L1 L2 L3) :
    Calls Try.prog 15 #[.agg #[.slice q n c, .slice q' m c', .slice q'' r c'']] V fun e w' => e = .returned (.bool (diskB L1 L2 L3)) ∧ Below V.heap.size V w' := by
  obtain ⟨F, G, O, hd, rfl, rfl, rfl⟩ := h
  exact specDisk q q' q'' n m r c c' c'' F G O V hd
/-- A disk as an answer: its two lists of files, no ops. -/
def AnsQ (V0 : World) (M1 M2 : List Fl) (v : Value) (w' : World) : Prop :=
  ∃ a1 n1 c1 a2 n2 c2 a3 c3, v = .agg #[.slice a1 n1 c1, .slice a2 n2 c2, .slice a3 0 c3] ∧ n1 = M1.length ∧ FlsL w' a1 n1 M1 ∧ FlsL w' a2 n2 M2 ∧ Below V0.heap.size V0 w'
theorem ansQ {V0 : World} {M1 M2 : List Fl} {v : Value} {w' : World} (h : DkAns V0 M1 M2 [] v w') (l1 : M1.length ≤ 1048576) (l2 : M2.length ≤ 1048576) : AnsQ V0 M1 M2 v w' := by
  obtain ⟨a1, c1, a2, c2, a3, c3, rfl, O, D⟩ := h
  exact ⟨a1, _, c1, a2, _, c2, a3, c3, rfl, rfl, FlsL.of O.live l1, FlsL.of O.safe l2, D⟩
theorem copyQ {V0 : World} {M1 M2 : List Fl} {e : Ending} {w' : World} (h : CopyOut V0 M1 M2 [] e w') (l1 : M1.length ≤ 1048576) (l2 : M2.length ≤ 1048576) : ∃ v, e = .returned v ∧ AnsQ V0 M1 M2 v w' := by
  obtain ⟨a1, n1, c1, a2, n2, c2, a3, n3, c3, rfl, O, D⟩ := h
  obtain ⟨e1, _⟩ := O.live.list l1
  obtain ⟨e3, _⟩ := O.ops.list (by simp)
  subst e1
  refine ⟨_, rfl, a1, _, c1, a2, n2, c2, a3, c3, ?_, rfl, FlsL.of O.live l1, FlsL.of O.safe l2, D⟩
  rw [e3]; rfl
theorem sy1_len {x : Bool} {L : List Fl} (h : L.length ≤ 1048576) : (sy1 x L).length ≤ 1048576 := by
  unfold sy1
  split
  · exact h
  · simp
theorem DkL.lens {V : World} {q q' q'' : Option Addr} {n m r : Nat} {L1 L2 : List Fl} {L3 : List Dp} (h : DkL V q n q' m q'' r L1 L2 L3) : L1.length ≤ 1048576 ∧ L2.length ≤ 1048576 ∧ L3.length = r ∧ r ≤ 1048576 ∧ L1.length = n ∧ L2.length = m := by
  obtain ⟨F, G, O, hd, rfl, rfl, rfl⟩ := h
  simp only [lst_len]
  exact ⟨hd.live.1, hd.safe.1, trivial, hd.ops.1, trivial, trivial⟩
theorem DkL.files {V : World} {q q' q'' : Option Addr} {n m r : Nat} {L1 L2 : List Fl} {L3 : List Dp} (h : DkL V q n q' m q'' r L1 L2 L3) : FlsL V q n L1 ∧ FlsL V q' m L2 := by
  obtain ⟨F, G, O, hd, rfl, rfl, rfl⟩ := h
  exact ⟨⟨F, hd.live, rfl⟩, ⟨G, hd.safe, rfl⟩⟩
/-- Crash, all ops kept. -/
theorem crashAll {V : World} {q q' q'' : Option Addr} {n m r : Nat} (c c' c'' : Nat) {L1 L2 : List Fl} {L3 : List Dp} (h : DkL V q n q' m q'' r L1 L2 L3) (k : Option Addr) (kc : Nat) (hk : Ints V k r (fun i => (i : Int))) :
    Calls Try.prog 16 #[.agg #[.slice q n c, .slice q' m c', .slice q'' r c''], .slice k r kc, .int .i64 1099511627776] V fun e w' => ∃ v, e = .returned (.tuple #[v, .bool (diskB L1 L2 L3)]) ∧ AnsQ V (sy1 (diskB L1 L2 L3) L1) (sy1 (diskB L1 L2 L3) L1) v w' := by
  obtain ⟨l1, l2, _⟩ := h.lens
  obtain ⟨F, G, O, hd, rfl, rfl, rfl⟩ := h
  have := implCr q q' q'' n m r c c' c'' F G O k r kc (fun i => (i : Int)) 1099511627776 V hd hk
  rw [(cr_all hd.so).1, (cr_all hd.so).2] at this
  exact this.mono (by rintro e w' ⟨v, h1, h2⟩; exact ⟨v, h1, ansQ h2 (sy1_len l1) (sy1_len l1)⟩)
/-- Crash, none kept. -/
theorem crashNone {V : World} {q q' q'' : Option Addr} {n m r : Nat} (c c' c'' : Nat) {L1 L2 : List Fl} {L3 : List Dp} (h : DkL V q n q' m q'' r L1 L2 L3) :
    Calls Try.prog 16 #[.agg #[.slice q n c, .slice q' m c', .slice q'' r c''], .slice none 0 0, .int .i64 0] V fun e w' => ∃ v, e = .returned (.tuple #[v, .bool (diskB L1 L2 L3)]) ∧ AnsQ V (sy1 (diskB L1 L2 L3) L2) (sy1 (diskB L1 L2 L3) L2) v w' := by
  obtain ⟨l1, l2, _⟩ := h.lens
  obtain ⟨F, G, O, hd, rfl, rfl, rfl⟩ := h
  have := implCr q q' q'' n m r c c' c'' F G O none 0 0 (fun _ => 0) 0 V hd ⟨by omega, Or.inl rfl⟩
  rw [(cr_nil _).1, (cr_nil _).2] at this
  exact this.mono (by rintro e w' ⟨v, h1, h2⟩; exact ⟨v, h1, ansQ h2 (sy1_len l2) (sy1_len l2)⟩)
theorem syncQ {V : World} {q q' q'' : Option Addr} {n m r : Nat} (c c' c'' : Nat) {L1 L2 : List Fl} {L3 : List Dp} (h : DkL V q n q' m q'' r L1 L2 L3) :
    Calls Try.prog 17 #[.agg #[.slice q n c, .slice q' m c', .slice q'' r c'']] V fun e w' => ∃ v, e = .returned v ∧ AnsQ V (sy1 (diskB L1 L2 L3) L1) (sy1 (diskB L1 L2 L3) L1) v w' :=
  (implSyncL c c' c'' h).mono fun _ _ hh => copyQ hh (sy1_len h.lens.1) (sy1_len h.lens.1)
end Go.Proofs.Ytcalgmhpagpnnaa
