/- The law FnPaid returns true, whatever the bytes of the code: what is paid is less at the one and more at the other one, and nobody else has other than it had; what is hung elsewhere has what it had, with all below it. Conditions: the bytes lie in memory, the package's errors lie as they were laid. -/
import Derived.Test.YthkgppfgidlicaaGreatDoorLawF
import Derived.Test.YthkgppfgidlicaaGreatDoorPaid
namespace Go.Proofs.YthkgppfgidlicaaGreatDoor
open Go.RowKit
set_option maxRecDepth 8000

set_option maxHeartbeats 4000000 in
theorem lawPaid (a : Option Addr) (len cap : Nat) (p : Nat → Addr) (w : World) (h : Code w a len) (hG : GE w p) :
    Calls Tryz.prog 6 #[.slice a len cap] w fun e w' => e = .returned (.bool true) ∧ Below w.heap.size w w' := by
  have H : Hid (Code w a len) := h
  have HG : Hid (GE w p) := hG
  clear h hG
  by_cases hbig : 1048576 < len
  · go_enter Tryz.func6, Tryz.ntmps6
    go_wp2_with (go_at_call 9; refine (big_yes _ _ _ _ hbig).mono ?_; rintro e w' ⟨rfl, rfl⟩)
    go_ret
    exact ⟨rfl, Below.refl _ _⟩
  go_enter Tryz.func6, Tryz.ntmps6
  go_wp2_with (go_at_call 9; refine (big_no _ _ _ _ (by omega)).mono ?_; rintro e w' ⟨rfl, rfl⟩)
  refine (drawDone a len cap _ H.out).mono ?_
  rintro e w1 ⟨v, L, k, i, t, m, r, rfl, hl, A1, B1⟩
  obtain ⟨fa, fc, hv⟩ := A1.len
  subst hv
  obtain ⟨W, hW⟩ : ∃ W, W = w1.alloc (.cells #[.int .i64 k, .int .i64 i, .int .i64 t, .int .i64 m, .int .i64 r] 26) := ⟨_, rfl⟩
  have OW : Hid (OpBox W w1.heap.size k i t m r) := by rw [hW]; exact OpBox.new w1 _ _ _ _ _ 26
  have FW : Hid (Fo W fa L.length (FL L)) := by rw [hW]; exact (A1.fo (by omega)).2.alloc _
  have BW : Hid (Below w'.heap.size w' W) := by rw [hW]; exact B1.alloc B1.size _
  have GW : Hid (GE W p) := HG.out.below BW.out
  obtain ⟨cd, l, hcl⟩ : ∃ cd l, doneAny L k i t m r = (cd, l) := ⟨_, _, rfl⟩
  have hll : l.length ≤ 1048576 := by have := doneAny_len L k i t m r (by omega); rw [hcl] at this; exact this
  have HE : Hid (Ends L k i t m r cd l) := by have := ends L k i t m r; rw [hcl] at this; exact this
  have SP : Hid (∀ w, Fo w fa L.length (FL L) → Calls Tryz.prog 12 #[.slice fa L.length fc, .agg #[.int .i64 k, .int .i64 i, .int .i64 t, .int .i64 m, .int .i64 r]] w fun e w' => ∃ v, e = .returned (.tuple #[v, .int .i64 cd]) ∧ AL w' w.heap.size v l ∧ Below w.heap.size w w') := fun w h => by
    have := specDone fa fc L k i t m r w h
    rw [hcl] at this
    exact this
  have IM : Hid (∀ w, Fo w fa L.length (FL L) → GE w p → Calls Tryz.prog 11 #[.slice fa L.length fc, .agg #[.int .i64 k, .int .i64 i, .int .i64 t, .int .i64 m, .int .i64 r]] w fun e w' => ∃ v, e = .returned (.tuple #[v, .int .i64 cd]) ∧ AL w' w.heap.size v l ∧ Below w.heap.size w w') := fun w h hg => by
    have := implDone fa fc L k i t m r p w h hg
    rw [hcl] at this
    exact this
  clear hcl A1 B1 H HG hbig hl
  obtain ⟨o0, o1, o2, o3, o4, oz⟩ := OW.out
  obtain ⟨n, hn⟩ : ∃ n, n = L.length := ⟨_, rfl⟩
  rw [← hn] at FW SP IM
  rw [← hn]
  have HN : Hid (n = L.length) := hn
  clear hn
  go_upto_region 4 with fail
  rw [← hW]
  clear hW
  go_wp2_with fail
  refine (IM.out _ FW.out GW.out).mono ?_
  rintro e w2 ⟨v2, rfl, A2, B2⟩
  obtain ⟨ga, gc, hv2⟩ := A2.len
  obtain ⟨n2, hn2⟩ : ∃ n2, n2 = l.length := ⟨_, rfl⟩
  rw [← hn2] at hv2
  subst hv2
  have G2 : Hid (Fo w2 ga n2 (FL l)) := (A2.fo hll).2
  have HN2 : Hid (n2 = l.length) := hn2
  have F2 : Hid (Fo w2 fa n (FL L)) := FW.out.below B2
  have BB2 : Hid (Below w'.heap.size w' w2) := BW.out.trans (B2.mono BW.out.size)
  have O2 : Hid (OpBox w2 w1.heap.size k i t m r) := OW.out.below B2
  clear A2 B2 FW BW GW OW o0 o1 o2 o3 o4 oz hn2
  obtain ⟨o0, o1, o2, o3, o4, oz⟩ := O2.out
  go_wp2_with fail
  refine (SP.out _ F2.out).mono ?_
  rintro e w3 ⟨v3, rfl, A3, B3⟩
  obtain ⟨sa, sc, hv3⟩ := A3.len
  rw [← HN2.out] at hv3
  subst hv3
  have T3 : Hid (Fo w3 sa n2 (FL l)) := (A3.fo hll).2
  have G3 : Hid (Fo w3 ga n2 (FL l)) := G2.out.below B3
  have F3 : Hid (Fo w3 fa n (FL L)) := F2.out.below B3
  have BB3 : Hid (Below w'.heap.size w' w3) := BB2.out.trans (B3.mono BB2.out.size)
  have O3 : Hid (OpBox w3 w1.heap.size k i t m r) := O2.out.below B3
  clear A3 B3 G2 F2 BB2 O2 o0 o1 o2 o3 o4 oz SP IM
  obtain ⟨o0, o1, o2, o3, o4, oz⟩ := O3.out
  have hcc : (cd != cd) = false := by simp
  have hce : (cd == cd) = true := by simp
  clear T3
  by_cases h0 : cd = 0
  · subst h0
    have HE2 : Hid (Right (FL L) L.length ∧ doneS L k i t m r = (0, l)) := by
      rcases HE.out with ⟨_, e, _⟩ | ⟨a, _, b⟩
      · cases e
      · exact ⟨a, b⟩
    obtain ⟨ho, hpt, hrl⟩ := doneS_zero HE2.out.2
    have hme := made ho hpt
    have HRL : Hid (Right (FL l) n2) := by rw [HN2.out]; exact hrl
    have HR : Hid (Right (FL L) n) := by rw [HN.out]; exact HE2.out.1
    by_cases k9 : k = 9
    · subst k9
      obtain ⟨hlen, p, hp1, hp2, hsum, rest, hpath⟩ := made_hung HE2.out.1 hrl hme
      have hnn : n2 = n := by rw [HN2.out, HN.out, hlen]
      subst hnn
      have e2 := HN2.out
      rw [← e2] at hp2 hsum hpath
      rw [← HN.out] at hp1 hsum
      obtain ⟨hpn, hpid⟩ := place_some hp2
      have hch : chain (FL l) n2 n2 i = some (i :: t :: rest) := by
        have e := HRL.out.path hpn
        rw [hpath, hpid] at e
        exact e
      have hpl : (i :: t :: rest).length ≤ n2 := by rw [← hpath]; exact path_len HRL.out hpn
      have hbd := sumAll_bd HR.out p
      have n12 := HRL.out.1
      generalize hs : sumAll (FL L) n2 p = s at *
      have SW : Hid (∀ w, Fo w fa n2 (FL L) → Calls Tryz.prog 17 #[.slice fa n2 fc, .int .i64 i] w fun e w' => e = .returned (.tuple #[.int .i64 s, .bool true]) ∧ Below w.heap.size w w') := fun w h => by
        have := implSumOf_yes fa n2 fc (FL L) i p w h HR.out hp1
        rw [hs] at this
        exact this
      have SN : Hid (∀ w, Fo w ga n2 (FL l) → Calls Tryz.prog 17 #[.slice ga n2 gc, .int .i64 i] w fun e w' => e = .returned (.tuple #[.int .i64 s, .bool true]) ∧ Below w.heap.size w w') := fun w h => by
        have := implSumOf_yes ga n2 gc (FL l) i p w h HRL.out hp2
        rw [hsum] at this
        exact this
      have PI : Hid (∀ w, Fo w ga n2 (FL l) → Calls Tryz.prog 19 #[.slice ga n2 gc, .int .i64 i] w fun e w' => ∃ v, e = .returned v ∧ IL w' w.heap.size v (i :: t :: rest) ∧ Below w.heap.size w w') := fun w h => implPathOf_of ga n2 gc (FL l) i _ w h HRL.out (fun w2 h2 => implPathFrom ga n2 gc (FL l) i _ w2 h2 HRL.out hch)
      clear hs hsum hpath hp1 hp2 hpn hpid hch hme hrl hpt ho HE2 HE e2 hlen hll HN HN2
      obtain ⟨hb1, hb2⟩ := hbd
      go_wp2_with fail
      refine (SW.out _ F3.out).mono ?_
      rintro e w4 ⟨rfl, B4⟩
      have BB4 : Hid (Below w3.heap.size w3 w4) := B4
      clear B4 o0 o1 o2 o3 o4 oz
      obtain ⟨o0, o1, o2, o3, o4, oz⟩ := O3.out.below BB4.out
      go_wp2_with fail
      refine (SN.out _ (G3.out.below BB4.out)).mono ?_
      rintro e w5 ⟨rfl, B5⟩
      have BB5 : Hid (Below w3.heap.size w3 w5) := BB4.out.trans (B5.mono BB4.out.size)
      clear B5 o0 o1 o2 o3 o4 oz BB4
      obtain ⟨o0, o1, o2, o3, o4, oz⟩ := O3.out.below BB5.out
      go_wp2_with fail
      refine (PI.out _ (G3.out.below BB5.out)).mono ?_
      rintro e w6 ⟨pv, rfl, I6, B6⟩
      have BB6 : Hid (Below w3.heap.size w3 w6) := BB5.out.trans (B6.mono BB5.out.size)
      obtain ⟨pa, pc, hpv, _, ps⟩ := I6.shape
      obtain ⟨g, rfl, _, _, hg, hcell, _⟩ := ps 1 (by simp)
      have hcell' : w6.cell? ⟨g, 1, none⟩ = some (.int .i64 t) := by simpa using hcell
      obtain ⟨n5, hn5⟩ : ∃ n5 : Nat, n5 = (i :: t :: rest).length := ⟨_, rfl⟩
      have hn5' : 1 < n5 := by rw [hn5]; simp
      have hn5m : n5 ≤ 12 := by omega
      rw [← hn5] at hpv
      subst hpv
      clear B6 o0 o1 o2 o3 o4 oz BB5 I6 ps hcell hn5 hpl
      obtain ⟨o0, o1, o2, o3, o4, oz⟩ := O3.out.below BB6.out
      have g1 : (s == s) = true := by simp
      have g2 : decide ((n5 : Int) > 1) = true := by simp; omega
      have g2' : decide (1 < (n5 : Int)) = true := by simp; omega
      have g3 : (t == t) = true := by simp
      have g4 : ((n2 : Int) == (n2 : Int)) = true := by simp
      go_wp2
      go_quiet (fail)
      go_wp2
      go_ret
      exact ⟨rfl, below_drewQ (BB3.out.trans (BB6.out.mono BB3.out.size)) _⟩
    · by_cases k7 : k = 7
      · subst k7
        obtain ⟨hlen, hall⟩ := made_paid HE2.out.1 ho hme
        have hnn : n2 = n := by rw [HN2.out, HN.out, hlen]
        subst hnn
        have hit : i ≠ t := by unfold opOk at ho; omega
        have hm1 : 1 ≤ m ∧ m ≤ 1000000000000 := by unfold opOk at ho; omega
        have HALL : Hid (∀ z, z < n2 → (FL l z).id = (FL L z).id ∧ (FL l z).balance = (FL L z).balance + ((if (FL L z).id = i then -m else 0) + (if (FL L z).id = t then m else 0))) := fun z hz => hall z (by rw [← HN.out]; exact hz)
        have SX : Hid (∀ (a : Option Addr) (c : Nat) (K : List Acc) w, Right (FL K) n2 → Fo w a n2 (FL K) → Calls Tryz.prog 17 #[.slice a n2 c, .int .i64 i] w fun e w' => ∃ (s : Int) (b : Bool), e = .returned (.tuple #[.int .i64 s, .bool b]) ∧ Below w.heap.size w w') := fun a c K w hr h => by
          cases hp : place (FL K) n2 i with
          | none => exact (implSumOf_no a n2 c (FL K) i w h (fun ⟨_, q, hq⟩ => by rw [hp] at hq; cases hq)).mono fun e w' ⟨he, hb⟩ => ⟨_, _, he, hb⟩
          | some p => exact (implSumOf_yes a n2 c (FL K) i p w h hr hp).mono fun e w' ⟨he, hb⟩ => ⟨_, _, he, hb⟩
        have n12 := HRL.out.1
        clear hme hrl hpt ho HE2 HE hlen hall hll HN HN2 k9
        obtain ⟨m1, m2⟩ := hm1
        go_wp2_with fail
        refine (SX.out fa fc L _ HR.out F3.out).mono ?_
        rintro e w4 ⟨s1, sb1, rfl, B4⟩
        have BB4 : Hid (Below w3.heap.size w3 w4) := B4
        clear B4 o0 o1 o2 o3 o4 oz
        obtain ⟨o0, o1, o2, o3, o4, oz⟩ := O3.out.below BB4.out
        go_wp2_with fail
        refine (SX.out ga gc l _ HRL.out (G3.out.below BB4.out)).mono ?_
        rintro e w5 ⟨s2, sb2, rfl, B5⟩
        have BB5 : Hid (Below w3.heap.size w3 w5) := BB4.out.trans (B5.mono BB4.out.size)
        clear B5 o0 o1 o2 o3 o4 oz BB4
        obtain ⟨o0, o1, o2, o3, o4, oz⟩ := O3.out.below BB5.out
        have g4 : ((n2 : Int) == (n2 : Int)) = true := by simp
        go_wp2
        go_loopw [14] (fun q wr => ∃ j : Nat, j ≤ n2 ∧ q = .int .i64 j ∧ Hid (Below w3.heap.size w3 wr)) (fun q _ => n2 - (intOf q).toNat)
        case atStart => exact ⟨0, Nat.zero_le _, rfl, BB5⟩
        case round =>
          obtain ⟨j, hj, rfl, hB⟩ := hrel
          by_cases hlt : j < n2
          · obtain ⟨b1, p1, rfl, hz1, hA1⟩ := F3.out.acc hlt
            obtain ⟨b2, p2, rfl, hz2, hA2⟩ := G3.out.acc hlt
            obtain ⟨y1, y2⟩ := HALL.out j hlt
            have xbd := (HR.out.2.1 j hlt).2.2.2.2.2.1
            have hC1 := hA1.of_cells (w' := wr) (fun q => hB.out.cell (p := ⟨b1, q, none⟩) hz1)
            have hC2 := hA2.of_cells (w' := wr) (fun q => hB.out.cell (p := ⟨b2, q, none⟩) hz2)
            clear hA1 hA2
            cases hx : FL L j with
            | mk xi xu xl xr xt xf xb xc =>
            cases hy : FL l j with
            | mk yi yu yl yr yt yf yb yc =>
            rw [hx, hy] at y1 y2
            rw [hx] at hC1 xbd
            rw [hy] at hC2
            have HX : Hid (FL L j = ⟨xi, xu, xl, xr, xt, xf, xb, xc⟩) := hx
            have HY : Hid (FL l j = ⟨yi, yu, yl, yr, yt, yf, yb, yc⟩) := hy
            simp only at y1 y2 xbd
            clear hx hy
            obtain ⟨c0, c1, c2, c3, c4, c5, c6, c7⟩ := hC1
            obtain ⟨d0, d1, d2, d3, d4, d5, d6, d7⟩ := hC2
            clear o0 o1 o2 o3 o4 oz
            obtain ⟨o0, o1, o2, o3, o4, oz⟩ := O3.out.below hB.out
            subst y1
            obtain ⟨xb1, xb2⟩ := xbd
            have gid : (yi != yi) = false := by simp
            by_cases ei : yi = i
            · subst ei
              have g1 : (yi == yi) = true := by simp
              have g2 : (yi == t) = false := by simp [hit]
              have ey : yb = xb - m := by simp [hit] at y2; omega
              subst ey
              clear y2 hit
              go_wp2
              go_quiet (fail)
              go_wp2
              go_quiet (fail)
              go_wp2
              go_quiet (fail)
              go_wp2
              go_roundw
              case rel =>
                refine ⟨j + 1, by omega, by go_num, ?_⟩
                first
                  | exact below_drewQ (below_drewQ (below_drewQ hB.out _) _) _
                  | exact below_drewQ hB.out _
              case measure => simp [intOf]; omega
            · have g1 : (yi == i) = false := by simp [ei]
              by_cases et : yi = t
              · subst et
                have g2 : (yi == yi) = true := by simp
                have ey : yb = xb + m := by simp [ei] at y2; omega
                subst ey
                clear y2 hit ei
                go_wp2
                go_quiet (fail)
                go_wp2
                go_quiet (fail)
                go_wp2
                go_quiet (fail)
                go_wp2
                go_roundw
                case rel =>
                  refine ⟨j + 1, by omega, by go_num, ?_⟩
                  first
                    | exact below_drewQ (below_drewQ (below_drewQ hB.out _) _) _
                    | exact below_drewQ hB.out _
                case measure => simp [intOf]; omega
              · have g2 : (yi == t) = false := by simp [et]
                have ey : yb = xb := by simp [ei, et] at y2; omega
                subst ey
                clear y2 hit ei et
                go_wp2
                go_quiet (fail)
                go_wp2
                go_quiet (fail)
                go_wp2
                go_quiet (fail)
                go_wp2
                go_roundw
                case rel =>
                  refine ⟨j + 1, by omega, by go_num, ?_⟩
                  first
                    | exact below_drewQ (below_drewQ (below_drewQ hB.out _) _) _
                    | exact below_drewQ hB.out _
                case measure => simp [intOf]; omega
          · go_wp2
            go_ret
            exact ⟨rfl, BB3.out.trans (hB.out.mono BB3.out.size)⟩
      · have k7' : (k != 7) = true := by simp [k7]
        have k9' : (k != 9) = true := by simp [k9]
        clear hme hrl hpt ho HE2 HE hll HN HN2 k7 k9
        go_wp2
        go_ret
        exact ⟨rfl, BB3.out⟩
  · have h0' : (cd != 0) = true := by simp [h0]
    clear h0
    go_wp2
    go_ret
    exact ⟨rfl, BB3.out⟩
end Go.Proofs.YthkgppfgidlicaaGreatDoor
