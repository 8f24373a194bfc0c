/- The law FnFrozen returns true, whatever the bytes of the code: an account that is frozen has what it has, whatever is done, and is not closed. Conditions: the bytes lie in memory, the package's errors lie as they were laid. -/
import Derived.Test.YthkgppfgidlicaaGreatDoorLawF
namespace Go.Proofs.YthkgppfgidlicaaGreatDoor
open Go.RowKit
set_option maxRecDepth 8000

set_option maxHeartbeats 4000000 in
theorem lawFrozen (a : Option Addr) (len cap : Nat) (p : Nat → Addr) (w : World) (h : Code w a len) (hG : GE w p) :
    Calls Tryz.prog 5 #[.slice a len cap] w fun e w' => e = .returned (.bool true) ∧ Below w.heap.size w w' := by
  have H : Hid (Code w a len) := h
  have HG : Hid (GE w p) := hG
  clear h hG
  by_cases hbig : 1048576 < len
  · go_enter Tryz.func5, Tryz.ntmps5
    go_wp2_with (go_at_call 9; refine (big_yes _ _ _ _ hbig).mono ?_; rintro e w' ⟨rfl, rfl⟩)
    go_ret
    exact ⟨rfl, Below.refl _ _⟩
  go_enter Tryz.func5, Tryz.ntmps5
  go_wp2_with (go_at_call 9; refine (big_no _ _ _ _ (by omega)).mono ?_; rintro e w' ⟨rfl, rfl⟩)
  refine (drawDone a len cap _ H.out).mono ?_
  rintro e w1 ⟨v, L, k, i, t, m, r, rfl, hl, A1, B1⟩
  obtain ⟨fa, fc, hv⟩ := A1.len
  subst hv
  obtain ⟨W, hW⟩ : ∃ W, W = w1.alloc (.cells #[.int .i64 k, .int .i64 i, .int .i64 t, .int .i64 m, .int .i64 r] 26) := ⟨_, rfl⟩
  have OW : Hid (OpBox W w1.heap.size k i t m r) := by rw [hW]; exact OpBox.new w1 _ _ _ _ _ 26
  have FW : Hid (Fo W fa L.length (FL L)) := by rw [hW]; exact (A1.fo (by omega)).2.alloc _
  have BW : Hid (Below w'.heap.size w' W) := by rw [hW]; exact B1.alloc B1.size _
  have GW : Hid (GE W p) := HG.out.below BW.out
  obtain ⟨cd, l, hcl⟩ : ∃ cd l, doneAny L k i t m r = (cd, l) := ⟨_, _, rfl⟩
  have hll : l.length ≤ 1048576 := by have := doneAny_len L k i t m r (by omega); rw [hcl] at this; exact this
  have HE : Hid (Ends L k i t m r cd l) := by have := ends L k i t m r; rw [hcl] at this; exact this
  have SP : Hid (∀ w, Fo w fa L.length (FL L) → Calls Tryz.prog 12 #[.slice fa L.length fc, .agg #[.int .i64 k, .int .i64 i, .int .i64 t, .int .i64 m, .int .i64 r]] w fun e w' => ∃ v, e = .returned (.tuple #[v, .int .i64 cd]) ∧ AL w' w.heap.size v l ∧ Below w.heap.size w w') := fun w h => by
    have := specDone fa fc L k i t m r w h
    rw [hcl] at this
    exact this
  have IM : Hid (∀ w, Fo w fa L.length (FL L) → GE w p → Calls Tryz.prog 11 #[.slice fa L.length fc, .agg #[.int .i64 k, .int .i64 i, .int .i64 t, .int .i64 m, .int .i64 r]] w fun e w' => ∃ v, e = .returned (.tuple #[v, .int .i64 cd]) ∧ AL w' w.heap.size v l ∧ Below w.heap.size w w') := fun w h hg => by
    have := implDone fa fc L k i t m r p w h hg
    rw [hcl] at this
    exact this
  clear hcl A1 B1 H HG hbig hl
  obtain ⟨o0, o1, o2, o3, o4, oz⟩ := OW.out
  obtain ⟨n, hn⟩ : ∃ n, n = L.length := ⟨_, rfl⟩
  rw [← hn] at FW SP IM
  rw [← hn]
  have HN : Hid (n = L.length) := hn
  clear hn
  go_upto_region 4 with fail
  rw [← hW]
  clear hW
  go_wp2_with fail
  refine (IM.out _ FW.out GW.out).mono ?_
  rintro e w2 ⟨v2, rfl, A2, B2⟩
  obtain ⟨ga, gc, hv2⟩ := A2.len
  obtain ⟨n2, hn2⟩ : ∃ n2, n2 = l.length := ⟨_, rfl⟩
  rw [← hn2] at hv2
  subst hv2
  have G2 : Hid (Fo w2 ga n2 (FL l)) := (A2.fo hll).2
  have HN2 : Hid (n2 = l.length) := hn2
  have F2 : Hid (Fo w2 fa n (FL L)) := FW.out.below B2
  have BB2 : Hid (Below w'.heap.size w' w2) := BW.out.trans (B2.mono BW.out.size)
  have O2 : Hid (OpBox w2 w1.heap.size k i t m r) := OW.out.below B2
  clear A2 B2 FW BW GW OW o0 o1 o2 o3 o4 oz hn2
  obtain ⟨o0, o1, o2, o3, o4, oz⟩ := O2.out
  go_wp2_with fail
  refine (SP.out _ F2.out).mono ?_
  rintro e w3 ⟨v3, rfl, A3, B3⟩
  obtain ⟨sa, sc, hv3⟩ := A3.len
  rw [← HN2.out] at hv3
  subst hv3
  have T3 : Hid (Fo w3 sa n2 (FL l)) := (A3.fo hll).2
  have G3 : Hid (Fo w3 ga n2 (FL l)) := G2.out.below B3
  have F3 : Hid (Fo w3 fa n (FL L)) := F2.out.below B3
  have BB3 : Hid (Below w'.heap.size w' w3) := BB2.out.trans (B3.mono BB2.out.size)
  have O3 : Hid (OpBox w3 w1.heap.size k i t m r) := O2.out.below B3
  clear A3 B3 G2 F2 BB2 O2 o0 o1 o2 o3 o4 oz SP IM
  obtain ⟨o0, o1, o2, o3, o4, oz⟩ := O3.out
  have hcc : (cd != cd) = false := by simp
  have hce : (cd == cd) = true := by simp
  clear T3
  by_cases h1 : cd = 1
  · subst h1
    go_wp2
    go_ret
    exact ⟨rfl, BB3.out⟩
  · have h1' : (cd == 1) = false := by simp [h1]
    have HE2 : Hid (Right (FL L) L.length ∧ doneS L k i t m r = (cd, l)) := by
      rcases HE.out with ⟨_, e, _⟩ | ⟨a, _, b⟩
      · exact absurd e h1
      · exact ⟨a, b⟩
    have HRL : Hid (Right (FL l) n2) := by
      rw [HN2.out]
      by_cases h0 : cd = 0
      · subst h0
        exact (doneS_zero HE2.out.2).2.2
      · have := fin_same (L := L) (k := k) (i := i) (t := t) (m := m) (r := r) (by rw [HE2.out.2]; exact h0)
        rw [HE2.out.2] at this
        simp only at this
        rw [this]
        exact HE2.out.1
    have HST : Hid (∀ j, j < n → (FL L j).frozen = true → ∃ q, place (FL l) n2 (FL L j).id = some q ∧ Stays k i cd (FL L j) (FL l q)) := fun j hj hf => by
      have e1 := HN.out
      have e2 := HN2.out
      subst e1
      subst e2
      have := done_stays (k := k) (i := i) (t := t) (m := m) (r := r) HE2.out.1 hj hf
      rw [HE2.out.2] at this
      exact this
    have hnm : n ≤ 12 := by rw [HN.out]; exact HE2.out.1.1
    clear HE2 HE h1 hll HN HN2
    go_wp2
    go_loopw [9] (fun q wr => ∃ j : Nat, j ≤ n ∧ q = .int .i64 j ∧ Hid (Below w3.heap.size w3 wr)) (fun q _ => n - (intOf q).toNat)
    case atStart => exact ⟨0, Nat.zero_le _, rfl, Below.refl _ _⟩
    case round =>
      obtain ⟨j, hj, rfl, hB⟩ := hrel
      by_cases hlt : j < n
      · obtain ⟨b1, o1, rfl, hz1, hA1⟩ := F3.out.acc hlt
        have HS := HST.out j hlt
        have HAA0 : Hid (AccAt w3 b1 (o1 + j * 8) (FL L j)) := hA1
        clear hA1
        cases hx : FL L j with
        | mk xi xu xl xr xt xf xb xc =>
        rw [hx] at HS HAA0
        have HAA : Hid (AccAt w3 b1 (o1 + j * 8) ⟨xi, xu, xl, xr, xt, xf, xb, xc⟩) := HAA0.out
        simp only at HS
        have HX : Hid (FL L j = ⟨xi, xu, xl, xr, xt, xf, xb, xc⟩) := hx
        clear hx HAA0
        obtain ⟨c0, c1, c2, c3, c4, c5, c6, c7⟩ := HAA.out.of_cells (w' := wr) (fun q => hB.out.cell (p := ⟨b1, q, none⟩) hz1)
        cases xf with
        | true =>
          obtain ⟨q, hq, hst⟩ := HS rfl
          have HF : Hid (∀ w, Fo w ga n2 (FL l) → Calls Tryz.prog 18 #[.slice ga n2 gc, .int .i64 xi] w fun e w' => e = .returned (.tuple #[.agg #[.int .i64 (FL l q).id, .int .i64 (FL l q).up, .int .i64 (FL l q).limit, .int .i64 (FL l q).rate, .int .i64 (FL l q).target, .bool (FL l q).frozen, .int .i64 (FL l q).balance, .int .i64 (FL l q).carry], .bool true]) ∧ Below w.heap.size w w') := fun w h => implFind_yes ga n2 gc (FL l) xi q w h HRL.out hq
          cases hy : FL l q with
          | mk yi yu yl yr yt yf yb yc =>
          rw [hy] at HF hst
          obtain ⟨s1, s2, s3⟩ := hst
          simp only at s1 s2 s3
          subst s1
          subst s2
          have H3 : Hid (yf = true ↔ ¬ (k = 3 ∧ i = yi ∧ cd = 0)) := s3
          clear s3 hy hq HS HST HX
          go_wp2_with fail
          refine (HF.out _ (G3.out.below hB.out)).mono ?_
          rintro e w5 ⟨rfl, B5⟩
          have BB5 : Hid (Below w3.heap.size w3 w5) := hB.out.trans (B5.mono hB.out.size)
          clear B5 c0 c1 c2 c3 c4 c5 c6 c7
          have hbb : (yb != yb) = false := by simp
          by_cases k3 : k = 3
          · subst k3
            by_cases ki : i = yi
            · subst ki
              have hii : (i == i) = true := by simp
              by_cases h0 : cd = 0
              · subst h0
                have e : yf = false := by
                  cases yf with
                  | false => rfl
                  | true => exact absurd ⟨rfl, rfl, rfl⟩ (H3.out.1 rfl)
                subst e
                obtain ⟨X, hX⟩ : ∃ X, X = w5.alloc (.cells #[.int .i64 i, .int .i64 yu, .int .i64 yl, .int .i64 yr, .int .i64 yt, .bool false, .int .i64 yb, .int .i64 yc] 38) := ⟨_, rfl⟩
                have BX : Hid (Below w3.heap.size w3 X) := by rw [hX]; exact BB5.out.alloc BB5.out.size _
                have hXA : AccAt X w5.heap.size 0 ⟨i, yu, yl, yr, yt, false, yb, yc⟩ := by rw [hX]; exact (Box.new w5 ⟨i, yu, yl, yr, yt, false, yb, yc⟩ 38).1
                obtain ⟨e0, e1, e2, e3, e4, e5, e6, e7⟩ := hXA
                simp only [Nat.zero_add] at e0 e1 e2 e3 e4 e5 e6 e7
                have hXs : w5.heap.size < X.heap.size := by rw [hX]; simp
                obtain ⟨c0, c1, c2, c3, c4, c5, c6, c7⟩ := HAA.out.of_cells (w' := X) (fun q => BX.out.cell (p := ⟨b1, q, none⟩) hz1)
                obtain ⟨o0, o1', o2, o3, o4, oz⟩ := O3.out.below BX.out
                go_upto_region 12 with fail
                rw [← hX]
                clear hX
                go_quiet (fail)
                go_wp2
                go_roundw
                case rel => exact ⟨j + 1, by omega, by go_num, below_drewQ BX.out _⟩
                case measure => simp [intOf]; omega
              · have h0' : (cd == 0) = false := by simp [h0]
                have e : yf = true := H3.out.2 (fun ⟨_, _, h⟩ => h0 h)
                subst e
                clear h0
                obtain ⟨X, hX⟩ : ∃ X, X = w5.alloc (.cells #[.int .i64 i, .int .i64 yu, .int .i64 yl, .int .i64 yr, .int .i64 yt, .bool true, .int .i64 yb, .int .i64 yc] 38) := ⟨_, rfl⟩
                have BX : Hid (Below w3.heap.size w3 X) := by rw [hX]; exact BB5.out.alloc BB5.out.size _
                have hXA : AccAt X w5.heap.size 0 ⟨i, yu, yl, yr, yt, true, yb, yc⟩ := by rw [hX]; exact (Box.new w5 ⟨i, yu, yl, yr, yt, true, yb, yc⟩ 38).1
                obtain ⟨e0, e1, e2, e3, e4, e5, e6, e7⟩ := hXA
                simp only [Nat.zero_add] at e0 e1 e2 e3 e4 e5 e6 e7
                have hXs : w5.heap.size < X.heap.size := by rw [hX]; simp
                obtain ⟨c0, c1, c2, c3, c4, c5, c6, c7⟩ := HAA.out.of_cells (w' := X) (fun q => BX.out.cell (p := ⟨b1, q, none⟩) hz1)
                obtain ⟨o0, o1', o2, o3, o4, oz⟩ := O3.out.below BX.out
                go_upto_region 12 with fail
                rw [← hX]
                clear hX
                go_quiet (fail)
                go_wp2
                go_roundw
                case rel => exact ⟨j + 1, by omega, by go_num, below_drewQ BX.out _⟩
                case measure => simp [intOf]; omega
            · have ki' : (i == yi) = false := by simp [ki]
              have e : yf = true := H3.out.2 (fun ⟨_, h, _⟩ => ki h)
              subst e
              clear ki
              obtain ⟨X, hX⟩ : ∃ X, X = w5.alloc (.cells #[.int .i64 yi, .int .i64 yu, .int .i64 yl, .int .i64 yr, .int .i64 yt, .bool true, .int .i64 yb, .int .i64 yc] 38) := ⟨_, rfl⟩
              have BX : Hid (Below w3.heap.size w3 X) := by rw [hX]; exact BB5.out.alloc BB5.out.size _
              have hXA : AccAt X w5.heap.size 0 ⟨yi, yu, yl, yr, yt, true, yb, yc⟩ := by rw [hX]; exact (Box.new w5 ⟨yi, yu, yl, yr, yt, true, yb, yc⟩ 38).1
              obtain ⟨e0, e1, e2, e3, e4, e5, e6, e7⟩ := hXA
              simp only [Nat.zero_add] at e0 e1 e2 e3 e4 e5 e6 e7
              have hXs : w5.heap.size < X.heap.size := by rw [hX]; simp
              obtain ⟨c0, c1, c2, c3, c4, c5, c6, c7⟩ := HAA.out.of_cells (w' := X) (fun q => BX.out.cell (p := ⟨b1, q, none⟩) hz1)
              obtain ⟨o0, o1', o2, o3, o4, oz⟩ := O3.out.below BX.out
              go_upto_region 12 with fail
              rw [← hX]
              clear hX
              go_quiet (fail)
              go_wp2
              go_roundw
              case rel => exact ⟨j + 1, by omega, by go_num, below_drewQ BX.out _⟩
              case measure => simp [intOf]; omega
          · have k3' : (k == 3) = false := by simp [k3]
            have e : yf = true := H3.out.2 (fun ⟨h, _, _⟩ => k3 h)
            subst e
            clear k3
            obtain ⟨X, hX⟩ : ∃ X, X = w5.alloc (.cells #[.int .i64 yi, .int .i64 yu, .int .i64 yl, .int .i64 yr, .int .i64 yt, .bool true, .int .i64 yb, .int .i64 yc] 38) := ⟨_, rfl⟩
            have BX : Hid (Below w3.heap.size w3 X) := by rw [hX]; exact BB5.out.alloc BB5.out.size _
            have hXA : AccAt X w5.heap.size 0 ⟨yi, yu, yl, yr, yt, true, yb, yc⟩ := by rw [hX]; exact (Box.new w5 ⟨yi, yu, yl, yr, yt, true, yb, yc⟩ 38).1
            obtain ⟨e0, e1, e2, e3, e4, e5, e6, e7⟩ := hXA
            simp only [Nat.zero_add] at e0 e1 e2 e3 e4 e5 e6 e7
            have hXs : w5.heap.size < X.heap.size := by rw [hX]; simp
            obtain ⟨c0, c1, c2, c3, c4, c5, c6, c7⟩ := HAA.out.of_cells (w' := X) (fun q => BX.out.cell (p := ⟨b1, q, none⟩) hz1)
            obtain ⟨o0, o1', o2, o3, o4, oz⟩ := O3.out.below BX.out
            go_upto_region 12 with fail
            rw [← hX]
            clear hX
            go_quiet (fail)
            go_wp2
            go_roundw
            case rel => exact ⟨j + 1, by omega, by go_num, below_drewQ BX.out _⟩
            case measure => simp [intOf]; omega
        | false =>
          clear HS HST HX
          by_cases hp : ∃ q, place (FL l) n2 xi = some q
          · obtain ⟨q, hq⟩ := hp
            have HF : Hid (∀ w, Fo w ga n2 (FL l) → Calls Tryz.prog 18 #[.slice ga n2 gc, .int .i64 xi] w fun e w' => e = .returned (.tuple #[.agg #[.int .i64 (FL l q).id, .int .i64 (FL l q).up, .int .i64 (FL l q).limit, .int .i64 (FL l q).rate, .int .i64 (FL l q).target, .bool (FL l q).frozen, .int .i64 (FL l q).balance, .int .i64 (FL l q).carry], .bool true]) ∧ Below w.heap.size w w') := fun w h => implFind_yes ga n2 gc (FL l) xi q w h HRL.out hq
            cases hy : FL l q with
            | mk yi yu yl yr yt yf yb yc =>
            rw [hy] at HF
            clear hy hq
            go_wp2_with fail
            refine (HF.out _ (G3.out.below hB.out)).mono ?_
            rintro e w5 ⟨rfl, B5⟩
            have BB5 : Hid (Below w3.heap.size w3 w5) := hB.out.trans (B5.mono hB.out.size)
            clear B5 c0 c1 c2 c3 c4 c5 c6 c7
            obtain ⟨X, hX⟩ : ∃ X, X = w5.alloc (.cells #[.int .i64 yi, .int .i64 yu, .int .i64 yl, .int .i64 yr, .int .i64 yt, .bool yf, .int .i64 yb, .int .i64 yc] 38) := ⟨_, rfl⟩
            have BX : Hid (Below w3.heap.size w3 X) := by rw [hX]; exact BB5.out.alloc BB5.out.size _
            have hXA : AccAt X w5.heap.size 0 ⟨yi, yu, yl, yr, yt, yf, yb, yc⟩ := by rw [hX]; exact (Box.new w5 ⟨yi, yu, yl, yr, yt, yf, yb, yc⟩ 38).1
            obtain ⟨e0, e1, e2, e3, e4, e5, e6, e7⟩ := hXA
            simp only [Nat.zero_add] at e0 e1 e2 e3 e4 e5 e6 e7
            have hXs : w5.heap.size < X.heap.size := by rw [hX]; simp
            obtain ⟨c0, c1, c2, c3, c4, c5, c6, c7⟩ := HAA.out.of_cells (w' := X) (fun q => BX.out.cell (p := ⟨b1, q, none⟩) hz1)
            obtain ⟨o0, o1', o2, o3, o4, oz⟩ := O3.out.below BX.out
            go_upto_region 12 with fail
            rw [← hX]
            clear hX
            go_quiet (fail)
            go_wp2
            go_roundw
            case rel => exact ⟨j + 1, by omega, by go_num, below_drewQ BX.out _⟩
            case measure => simp [intOf]; omega
          · have HF : Hid (∀ w, Fo w ga n2 (FL l) → Calls Tryz.prog 18 #[.slice ga n2 gc, .int .i64 xi] w fun e w' => e = .returned (.tuple #[.agg #[.int .i64 0, .int .i64 0, .int .i64 0, .int .i64 0, .int .i64 0, .bool false, .int .i64 0, .int .i64 0], .bool false]) ∧ Below w.heap.size w w') := fun w h => implFind_no ga n2 gc (FL l) xi w h (fun h => hp h.2)
            clear hp
            go_wp2_with fail
            refine (HF.out _ (G3.out.below hB.out)).mono ?_
            rintro e w5 ⟨rfl, B5⟩
            have BB5 : Hid (Below w3.heap.size w3 w5) := hB.out.trans (B5.mono hB.out.size)
            clear B5 c0 c1 c2 c3 c4 c5 c6 c7
            obtain ⟨X, hX⟩ : ∃ X, X = w5.alloc (.cells #[.int .i64 0, .int .i64 0, .int .i64 0, .int .i64 0, .int .i64 0, .bool false, .int .i64 0, .int .i64 0] 38) := ⟨_, rfl⟩
            have BX : Hid (Below w3.heap.size w3 X) := by rw [hX]; exact BB5.out.alloc BB5.out.size _
            have hXA : AccAt X w5.heap.size 0 ⟨0, 0, 0, 0, 0, false, 0, 0⟩ := by rw [hX]; exact (Box.new w5 ⟨0, 0, 0, 0, 0, false, 0, 0⟩ 38).1
            obtain ⟨e0, e1, e2, e3, e4, e5, e6, e7⟩ := hXA
            simp only [Nat.zero_add] at e0 e1 e2 e3 e4 e5 e6 e7
            have hXs : w5.heap.size < X.heap.size := by rw [hX]; simp
            obtain ⟨c0, c1, c2, c3, c4, c5, c6, c7⟩ := HAA.out.of_cells (w' := X) (fun q => BX.out.cell (p := ⟨b1, q, none⟩) hz1)
            obtain ⟨o0, o1', o2, o3, o4, oz⟩ := O3.out.below BX.out
            go_upto_region 12 with fail
            rw [← hX]
            clear hX
            go_quiet (fail)
            go_wp2
            go_roundw
            case rel => exact ⟨j + 1, by omega, by go_num, below_drewQ BX.out _⟩
            case measure => simp [intOf]; omega
      · go_wp2
        go_ret
        exact ⟨rfl, BB3.out.trans (hB.out.mono BB3.out.size)⟩
end Go.Proofs.YthkgppfgidlicaaGreatDoor
