/- The law FnLimits returns true, whatever the bytes of the code: no op but of the limits themselves brings what an account has with all below it under what it may owe, or farther under it. Conditions: the bytes lie in memory, the package's errors lie as they were laid. -/
import Derived.Test.YthkgppfgidlicaaGreatDoorLawF
import Derived.Test.YthkgppfgidlicaaGreatDoorLim
namespace Go.Proofs.YthkgppfgidlicaaGreatDoor
open Go.RowKit
set_option maxRecDepth 8000

set_option maxHeartbeats 4000000 in
theorem lawLimits (a : Option Addr) (len cap : Nat) (p : Nat → Addr) (w : World) (h : Code w a len) (hG : GE w p) :
    Calls Tryz.prog 4 #[.slice a len cap] w fun e w' => e = .returned (.bool true) ∧ Below w.heap.size w w' := by
  have H : Hid (Code w a len) := h
  have HG : Hid (GE w p) := hG
  clear h hG
  by_cases hbig : 1048576 < len
  · go_enter Tryz.func4, Tryz.ntmps4
    go_wp2_with (go_at_call 9; refine (big_yes _ _ _ _ hbig).mono ?_; rintro e w' ⟨rfl, rfl⟩)
    go_ret
    exact ⟨rfl, Below.refl _ _⟩
  go_enter Tryz.func4, Tryz.ntmps4
  go_wp2_with (go_at_call 9; refine (big_no _ _ _ _ (by omega)).mono ?_; rintro e w' ⟨rfl, rfl⟩)
  refine (drawDone a len cap _ H.out).mono ?_
  rintro e w1 ⟨v, L, k, i, t, m, r, rfl, hl, A1, B1⟩
  obtain ⟨fa, fc, hv⟩ := A1.len
  subst hv
  obtain ⟨W, hW⟩ : ∃ W, W = w1.alloc (.cells #[.int .i64 k, .int .i64 i, .int .i64 t, .int .i64 m, .int .i64 r] 26) := ⟨_, rfl⟩
  have OW : Hid (OpBox W w1.heap.size k i t m r) := by rw [hW]; exact OpBox.new w1 _ _ _ _ _ 26
  have FW : Hid (Fo W fa L.length (FL L)) := by rw [hW]; exact (A1.fo (by omega)).2.alloc _
  have BW : Hid (Below w'.heap.size w' W) := by rw [hW]; exact B1.alloc B1.size _
  have GW : Hid (GE W p) := HG.out.below BW.out
  obtain ⟨cd, l, hcl⟩ : ∃ cd l, doneAny L k i t m r = (cd, l) := ⟨_, _, rfl⟩
  have hll : l.length ≤ 1048576 := by have := doneAny_len L k i t m r (by omega); rw [hcl] at this; exact this
  have HE : Hid (Ends L k i t m r cd l) := by have := ends L k i t m r; rw [hcl] at this; exact this
  have SP : Hid (∀ w, Fo w fa L.length (FL L) → Calls Tryz.prog 12 #[.slice fa L.length fc, .agg #[.int .i64 k, .int .i64 i, .int .i64 t, .int .i64 m, .int .i64 r]] w fun e w' => ∃ v, e = .returned (.tuple #[v, .int .i64 cd]) ∧ AL w' w.heap.size v l ∧ Below w.heap.size w w') := fun w h => by
    have := specDone fa fc L k i t m r w h
    rw [hcl] at this
    exact this
  have IM : Hid (∀ w, Fo w fa L.length (FL L) → GE w p → Calls Tryz.prog 11 #[.slice fa L.length fc, .agg #[.int .i64 k, .int .i64 i, .int .i64 t, .int .i64 m, .int .i64 r]] w fun e w' => ∃ v, e = .returned (.tuple #[v, .int .i64 cd]) ∧ AL w' w.heap.size v l ∧ Below w.heap.size w w') := fun w h hg => by
    have := implDone fa fc L k i t m r p w h hg
    rw [hcl] at this
    exact this
  clear hcl A1 B1 H HG hbig hl
  obtain ⟨o0, o1, o2, o3, o4, oz⟩ := OW.out
  obtain ⟨n, hn⟩ : ∃ n, n = L.length := ⟨_, rfl⟩
  rw [← hn] at FW SP IM
  rw [← hn]
  have HN : Hid (n = L.length) := hn
  clear hn
  go_upto_region 4 with fail
  rw [← hW]
  clear hW
  go_wp2_with fail
  refine (IM.out _ FW.out GW.out).mono ?_
  rintro e w2 ⟨v2, rfl, A2, B2⟩
  obtain ⟨ga, gc, hv2⟩ := A2.len
  obtain ⟨n2, hn2⟩ : ∃ n2, n2 = l.length := ⟨_, rfl⟩
  rw [← hn2] at hv2
  subst hv2
  have G2 : Hid (Fo w2 ga n2 (FL l)) := (A2.fo hll).2
  have HN2 : Hid (n2 = l.length) := hn2
  have F2 : Hid (Fo w2 fa n (FL L)) := FW.out.below B2
  have BB2 : Hid (Below w'.heap.size w' w2) := BW.out.trans (B2.mono BW.out.size)
  have O2 : Hid (OpBox w2 w1.heap.size k i t m r) := OW.out.below B2
  clear A2 B2 FW BW GW OW o0 o1 o2 o3 o4 oz hn2
  obtain ⟨o0, o1, o2, o3, o4, oz⟩ := O2.out
  go_wp2_with fail
  refine (SP.out _ F2.out).mono ?_
  rintro e w3 ⟨v3, rfl, A3, B3⟩
  obtain ⟨sa, sc, hv3⟩ := A3.len
  rw [← HN2.out] at hv3
  subst hv3
  have T3 : Hid (Fo w3 sa n2 (FL l)) := (A3.fo hll).2
  have G3 : Hid (Fo w3 ga n2 (FL l)) := G2.out.below B3
  have F3 : Hid (Fo w3 fa n (FL L)) := F2.out.below B3
  have BB3 : Hid (Below w'.heap.size w' w3) := BB2.out.trans (B3.mono BB2.out.size)
  have O3 : Hid (OpBox w3 w1.heap.size k i t m r) := O2.out.below B3
  clear A3 B3 G2 F2 BB2 O2 o0 o1 o2 o3 o4 oz SP IM
  obtain ⟨o0, o1, o2, o3, o4, oz⟩ := O3.out
  have hcc : (cd != cd) = false := by simp
  have hce : (cd == cd) = true := by simp
  clear T3
  by_cases h0 : cd = 0
  · by_cases k8 : k = 8
    · subst k8
      subst h0
      go_wp2
      go_ret
      exact ⟨rfl, BB3.out⟩
    · have k8' : (k == 8) = false := by simp [k8]
      subst h0
      have HE2 : Hid (Right (FL L) L.length ∧ doneS L k i t m r = (0, l)) := by
        rcases HE.out with ⟨_, e, _⟩ | ⟨a, _, b⟩
        · cases e
        · exact ⟨a, b⟩
      obtain ⟨ho, hpt, hrl⟩ := doneS_zero HE2.out.2
      have hme := made ho hpt
      have HRL : Hid (Right (FL l) n2) := by rw [HN2.out]; exact hrl
      have HR : Hid (Right (FL L) n) := by rw [HN.out]; exact HE2.out.1
      have HH : Hid (∀ x j, x < n2 → place (FL L) n (FL l x).id = some j → Held (sumAll (FL L) n j) (sumAll (FL l) n2 x) (FL l x).limit) := fun x j hx hj => by
        have e1 := HN.out
        have e2 := HN2.out
        subst e1
        subst e2
        exact made_held HE2.out.1 hrl ho k8 hme hx hj
      have hn2m : n2 ≤ 12 := HRL.out.1
      clear hme hrl hpt ho HE2 HE k8 hll HN HN2
      go_wp2
      go_loopw [9] (fun q wr => ∃ j : Nat, j ≤ n2 ∧ q = .int .i64 j ∧ Hid (Below w3.heap.size w3 wr)) (fun q _ => n2 - (intOf q).toNat)
      case atStart => exact ⟨0, Nat.zero_le _, rfl, Below.refl _ _⟩
      case round =>
        obtain ⟨j, hj, rfl, hB⟩ := hrel
        by_cases hlt : j < n2
        · obtain ⟨b1, o1, rfl, hz1, hA1⟩ := G3.out.acc hlt
          have HP : Hid (place (FL l) n2 (FL l j).id = some j) := place_self HRL.out.2.2.1 hlt
          have HQ : Hid (∀ j', place (FL L) n (FL l j).id = some j' → Held (sumAll (FL L) n j') (sumAll (FL l) n2 j) (FL l j).limit) := fun j' hj' => HH.out j j' hlt hj'
          have hsb := sumAll_bd HRL.out j
          have hlb := (HRL.out.2.1 j hlt).2.2.1
          have HAA : Hid (AccAt w3 b1 (o1 + j * 8) (FL l j)) := hA1
          clear hA1
          generalize hnow : sumAll (FL l) n2 j = now at *
          have NI : Hid (∀ w, Fo w (some ⟨b1, o1, none⟩) n2 (FL l) → Calls Tryz.prog 17 #[.slice (some ⟨b1, o1, none⟩) n2 gc, .int .i64 (FL l j).id] w fun e w' => e = .returned (.tuple #[.int .i64 now, .bool true]) ∧ Below w.heap.size w w') := fun w h => by
            have := implSumOf_yes _ n2 gc (FL l) _ j w h HRL.out HP.out
            rw [hnow] at this
            exact this
          clear hnow HP
          cases hy : FL l j with
          | mk yi yu yl yr yt yf yb yc =>
          rw [hy] at HQ HAA NI hlb
          simp only at hlb
          obtain ⟨c0, c1, c2, c3, c4, c5, c6, c7⟩ := HAA.out.of_cells (w' := wr) (fun q => hB.out.cell (p := ⟨b1, q, none⟩) hz1)
          have HPL : Hid (∀ w, Fo w fa n (FL L) → Calls Tryz.prog 17 #[.slice fa n fc, .int .i64 yi] w fun e w' => (∃ was : Int, -12000000000000 ≤ was ∧ was ≤ 12000000000000 ∧ Held was now yl ∧ e = .returned (.tuple #[.int .i64 was, .bool true]) ∧ Below w.heap.size w w') ∨ (e = .returned (.tuple #[.int .i64 0, .bool false]) ∧ Below w.heap.size w w')) := fun w h => by
            cases hp : place (FL L) n yi with
            | none => exact (implSumOf_no fa n fc (FL L) yi w h (fun ⟨_, q, hq⟩ => by rw [hp] at hq; cases hq)).mono fun e w' hh => Or.inr hh
            | some j' => exact (implSumOf_yes fa n fc (FL L) yi j' w h HR.out hp).mono fun e w' ⟨he, hb⟩ => Or.inl ⟨_, (sumAll_bd HR.out j').1, (sumAll_bd HR.out j').2, HQ.out j' hp, he, hb⟩
          have HY : Hid (FL l j = ⟨yi, yu, yl, yr, yt, yf, yb, yc⟩) := hy
          clear hy HQ
          obtain ⟨hs1, hs2⟩ := hsb
          obtain ⟨hl1, hl2⟩ := hlb
          go_wp2_with fail
          refine (HPL.out _ (F3.out.below hB.out)).mono ?_
          rintro e w5 (⟨was, ws1, ws2, hheld, rfl, B5⟩ | ⟨rfl, B5⟩)
          · have HHD : Hid (Held was now yl) := hheld
            have BB5 : Hid (Below w3.heap.size w3 w5) := hB.out.trans (B5.mono hB.out.size)
            clear B5 c0 c1 c2 c3 c4 c5 c6 c7 hheld
            obtain ⟨c0, c1, c2, c3, c4, c5, c6, c7⟩ := HAA.out.of_cells (w' := w5) (fun q => BB5.out.cell (p := ⟨b1, q, none⟩) hz1)
            go_wp2_with fail
            refine (NI.out _ (G3.out.below BB5.out)).mono ?_
            rintro e w6 ⟨rfl, B6⟩
            have BB6 : Hid (Below w3.heap.size w3 w6) := BB5.out.trans (B6.mono BB5.out.size)
            clear B6 c0 c1 c2 c3 c4 c5 c6 c7
            obtain ⟨c0, c1, c2, c3, c4, c5, c6, c7⟩ := HAA.out.of_cells (w' := w6) (fun q => BB6.out.cell (p := ⟨b1, q, none⟩) hz1)
            by_cases hlim : 0 ≤ yl
            · have g1 : decide (yl ≥ 0) = true := by simp; omega
              have g1' : decide (0 ≤ yl) = true := by simp; omega
              by_cases hlow : now < -yl
              · have g2 : decide (now < -yl) = true := by simp; omega
                have hnot := HHD.out hlim hlow
                have g3 : decide (now < was) = false := by simp; omega
                clear HHD
                go_wp2
                go_roundw
                case rel => exact ⟨j + 1, by omega, by go_num, BB6⟩
                case measure => simp [intOf]; omega
              · have g2 : decide (now < -yl) = false := by simp; omega
                clear HHD
                go_wp2
                go_roundw
                case rel => exact ⟨j + 1, by omega, by go_num, BB6⟩
                case measure => simp [intOf]; omega
            · have g1 : decide (yl ≥ 0) = false := by simp; omega
              have g1' : decide (0 ≤ yl) = false := by simp; omega
              clear HHD
              go_wp2
              go_roundw
              case rel => exact ⟨j + 1, by omega, by go_num, BB6⟩
              case measure => simp [intOf]; omega
          · have BB5 : Hid (Below w3.heap.size w3 w5) := hB.out.trans (B5.mono hB.out.size)
            clear B5 c0 c1 c2 c3 c4 c5 c6 c7
            obtain ⟨c0, c1, c2, c3, c4, c5, c6, c7⟩ := HAA.out.of_cells (w' := w5) (fun q => BB5.out.cell (p := ⟨b1, q, none⟩) hz1)
            go_wp2_with fail
            refine (NI.out _ (G3.out.below BB5.out)).mono ?_
            rintro e w6 ⟨rfl, B6⟩
            have BB6 : Hid (Below w3.heap.size w3 w6) := BB5.out.trans (B6.mono BB5.out.size)
            clear B6 c0 c1 c2 c3 c4 c5 c6 c7
            go_wp2
            go_roundw
            case rel => exact ⟨j + 1, by omega, by go_num, BB6⟩
            case measure => simp [intOf]; omega
        · go_wp2
          go_ret
          exact ⟨rfl, BB3.out.trans (hB.out.mono BB3.out.size)⟩
  · have h0' : (cd != 0) = true := by simp [h0]
    clear h0
    go_wp2
    go_ret
    exact ⟨rfl, BB3.out⟩
end Go.Proofs.YthkgppfgidlicaaGreatDoor
