/- The law FnDonePieces returns true, whatever the bytes of the code: ops in two pieces are the same ops. Conditions: the bytes lie in memory, the package's errors lie as they were laid. -/
import Derived.Test.YthkgppfgidlicaaGreatDoorDAll
import Derived.Test.YthkgppfgidlicaaGreatDoorAllS
import Derived.Test.YthkgppfgidlicaaGreatDoorSame
import Derived.Laws.OwnMore
namespace Go.Proofs.YthkgppfgidlicaaGreatDoor
open Go.RowKit
set_option maxRecDepth 8000

/-- 'append' of one own row of ints behind another, under a guard that is met, whichever of them is nil. -/
theorem wpList_append_ints {w : World} {ops : Array Oper} {rest : List Oper} {o : Oper} {a : Act} {Q : Exit → Act → World → Prop} (hgd : Region.wanted o (yielded ops a.tmps) = true) (s x : Operand)
    (ho : o.op = .call { callee := .builtin .append, args := #[s, x], argTypes := #[41, 41] }) (B1 B2 : Nat) (v y : Value) (l r : List Int) (hs : a.eval s = v) (hx : a.eval x = y)
    (h1 : IL w B1 v l) (h2 : IL w B2 y r) (hl : l.length + r.length ≤ 1048576) (hb : B1 ≤ w.heap.size)
    (h : ∀ v' w', IL w' B1 v' (l ++ r) → w.grownBy w' v.ownBlock → wpList Tryz.prog ops Q rest (a.put o.dst v') w') : wpList Tryz.prog ops Q (o :: rest) a w := by
  refine wpList_step fun K hK => ?_
  rw [if_pos hgd]
  obtain ⟨i0, hi, hz0, hz1, hz2⟩ := info_parts info2
  rcases h2.2 with ⟨hv, hn⟩ | ⟨g, cap, cur, hv, hg, hb1, hc1, hc2, hc3, hc4⟩
  · have hrun := run_append_owned_none (P := Tryz.prog) (w := w) B1 41 o.type 2 i0 1 Tryz.underlying41 hi v l.length (l.map (Value.int .i64)) h1
    unfold Oper.wp
    rw [hv] at hx
    simp [execOp, ho, resolve, invoke, builtin, hs, hx, hrun, Result.andThen]
    have : r = [] := List.length_eq_zero_iff.1 hn
    subst this
    exact hK _ _ (h v w (by simpa using h1) ⟨rfl, rfl, rfl, Nat.le_refl _, fun _ _ _ => rfl⟩)
  · rw [hv] at hx
    have h2' : w.ownsRow B2 2 1 (.slice (some ⟨g, 0, none⟩) r.length cap) r.length (r.map (Value.int .i64)) := by rw [← hv]; exact h2
    refine wp_append_own w s x 41 ho B1 2 i0 (.int .i64 0) 1 8 Tryz.underlying41 hi hz0 hz1 hz2 rfl (by decide) v l.length (l.map (Value.int .i64)) hs h1 ⟨g, 0, none⟩ r.length cap (r.map (Value.int .i64)) hx (by simp) ?_ ?_ ?_ ?_ hb ?_
    · intro j u hj
      have hjl : j < r.length := by
        by_cases e : j < r.length
        · exact e
        · rw [List.getElem?_eq_none (by simp; omega)] at hj; cases hj
      have ea : (⟨g, 0, none⟩ : Addr).add j = ⟨g, j, none⟩ := by by_cases e : j = 0 <;> simp [Addr.add, e]
      rw [ea, World.ownsRow.cellAt h2' j (by omega), hj]
    · intro u hu
      obtain ⟨z, _, rfl⟩ := List.mem_map.1 hu
      rfl
    · unfold maxLen; omega
    · omega
    · intro v' w' h3 h4 _
      refine hK _ _ (h v' w' ?_ h4)
      unfold IL
      simpa using h3

set_option maxHeartbeats 4000000 in
theorem lawPieces (a : Option Addr) (len cap : Nat) (p : Nat → Addr) (w : World) (h : Code w a len) (hG : GE w p) :
    Calls Tryz.prog 7 #[.slice a len cap] w fun e w' => e = .returned (.bool true) ∧ Below w.heap.size w w' := by
  have H : Hid (Code w a len) := h
  have HG : Hid (GE w p) := hG
  clear h hG
  by_cases hbig : 1048576 < len
  · go_enter Tryz.func7, Tryz.ntmps7
    go_wp2_with (go_at_call 9; refine (big_yes _ _ _ _ hbig).mono ?_; rintro e w' ⟨rfl, rfl⟩)
    go_ret
    exact ⟨rfl, Below.refl _ _⟩
  go_enter Tryz.func7, Tryz.ntmps7
  go_wp2_with (go_at_call 9; refine (big_no _ _ _ _ (by omega)).mono ?_; rintro e w' ⟨rfl, rfl⟩)
  refine (drawDoneAll a len cap _ H.out).mono ?_
  rintro e w1 ⟨v, L, u, O, rfl, hl, hol, A1, P1, hY, B1⟩
  obtain ⟨fa, fc, hv⟩ := A1.len
  subst hv
  obtain ⟨g, oc, hu, hoc1, hoc2⟩ := P1.own hY
  subst hu
  unfold maxLen at hoc2
  clear hY
  have FW : Hid (Fo w1 fa L.length (FL L)) := (A1.fo (by omega)).2
  have OW : Hid (OpRs w1 (some ⟨g, 0, none⟩) O.length (OpRF O)) := (P1.list (by omega)).2
  have BW : Hid (Below w'.heap.size w' w1) := B1
  have GW : Hid (GE w1 p) := HG.out.below B1
  have HL12 : Hid (L.length ≤ 12) := hl
  have HO12 : Hid (O.length ≤ 12) := hol
  obtain ⟨R, hR⟩ : ∃ R, allAny L O = R := ⟨_, rfl⟩
  have HRL : Hid (R.2.length ≤ 12 ∧ R.1.length ≤ 12) := by
    show R.2.length ≤ 12 ∧ R.1.length ≤ 12
    rw [← hR]
    unfold allAny
    split
    · rename_i hh
      exact ⟨(runAll_right O ([], L) hh.1).1, by rw [runAll_len]; simp; omega⟩
    · simp
  obtain ⟨n, hn⟩ : ∃ n, n = L.length := ⟨_, rfl⟩
  obtain ⟨on, hon⟩ : ∃ on, on = O.length := ⟨_, rfl⟩
  have SP : Hid (∀ w, Fo w fa n (FL L) → OpRs w (some ⟨g, 0, none⟩) on (OpRF O) → Calls Tryz.prog 22 #[.slice fa n fc, .slice (some ⟨g, 0, none⟩) on oc] w fun e w' => ∃ v u, e = .returned (.tuple #[v, u]) ∧ AL w' w.heap.size v R.2 ∧ IL w' w.heap.size u R.1 ∧ Below w.heap.size w w') := fun w h1 h2 => by
    have := specAll fa fc L (some ⟨g, 0, none⟩) oc O w (by rw [← hn]; exact h1) (by rw [← hon]; exact h2)
    rw [hR, ← hn, ← hon] at this
    exact this
  have IM : Hid (∀ w, Fo w fa n (FL L) → OpRs w (some ⟨g, 0, none⟩) on (OpRF O) → GE w p → Calls Tryz.prog 21 #[.slice fa n fc, .slice (some ⟨g, 0, none⟩) on oc] w fun e w' => ∃ v u, e = .returned (.tuple #[v, u]) ∧ AL w' w.heap.size v R.2 ∧ IL w' w.heap.size u R.1 ∧ Below w.heap.size w w') := fun w h1 h2 h3 => by
    have := implAll fa fc L (some ⟨g, 0, none⟩) oc O p w (by rw [← hn]; exact h1) (by rw [← hon]; exact h2) h3
    rw [hR, ← hn, ← hon] at this
    exact this
  have HRE : Hid (allAny L O = R) := hR
  rw [← hon] at hoc1 OW
  rw [← hn] at FW
  rw [← hn, ← hon]
  have hn12 : n ≤ 12 := by omega
  have hon12 : on ≤ 12 := by omega
  have HN : Hid (n = L.length) := hn
  have HON : Hid (on = O.length) := hon
  clear hR A1 B1 P1 H HG hl hol hn hon
  go_wp2_with fail
  refine (IM.out _ FW.out OW.out GW.out).mono ?_
  rintro e w2 ⟨v2, u2, rfl, A2, I2, B2⟩
  obtain ⟨ga, gc, hv2⟩ := A2.len
  obtain ⟨rn, hrn⟩ : ∃ rn, rn = R.2.length := ⟨_, rfl⟩
  rw [← hrn] at hv2
  subst hv2
  have HRN : Hid (rn = R.2.length) := hrn
  clear hrn
  have G2 : Hid (Fo w2 ga rn (FL R.2)) := (A2.fo (by have := HRL.out.1; omega)).2
  have J2 : Hid (IL w2 w1.heap.size u2 R.1) := I2
  have F2 : Hid (Fo w2 fa n (FL L)) := FW.out.below B2
  have O2 : Hid (OpRs w2 (some ⟨g, 0, none⟩) on (OpRF O)) := OW.out.below B2
  have BB2 : Hid (Below w'.heap.size w' w2) := BW.out.trans (B2.mono BW.out.size)
  have GE2 : Hid (GE w2 p) := GW.out.below B2
  clear A2 I2 B2 FW OW BW GW
  go_wp2_with fail
  refine (SP.out _ F2.out O2.out).mono ?_
  rintro e w3 ⟨v3, u3, rfl, A3, I3, B3⟩
  obtain ⟨sa, sc, hv3⟩ := A3.len
  rw [← HRN.out] at hv3
  subst hv3
  have T3 : Hid (Fo w3 sa rn (FL R.2)) := by have := (A3.fo (by have := HRL.out.1; omega)).2; exact this
  have K3 : Hid (IL w3 w2.heap.size u3 R.1) := I3
  have J3 : Hid (IL w3 w1.heap.size u2 R.1) := J2.out.kept B3
  have G3 : Hid (Fo w3 ga rn (FL R.2)) := G2.out.below B3
  have F3 : Hid (Fo w3 fa n (FL L)) := F2.out.below B3
  have O3 : Hid (OpRs w3 (some ⟨g, 0, none⟩) on (OpRF O)) := O2.out.below B3
  have BB3 : Hid (Below w'.heap.size w' w3) := BB2.out.trans (B3.mono BB2.out.size)
  have GE3 : Hid (GE w3 p) := GE2.out.below B3
  clear A3 I3 B3 G2 J2 F2 O2 BB2 GE2 SP
  go_wp2_with fail
  refine (sameInts_same _ _ _ _ R.1 _ (by have := HRL.out.2; omega) J3.out K3.out).mono ?_
  rintro e w4 ⟨rfl, B4⟩
  have T4 : Hid (Fo w4 sa rn (FL R.2)) := T3.out.below B4
  have K4 : Hid (IL w4 w2.heap.size u3 R.1) := K3.out.kept B4
  have J4 : Hid (IL w4 w1.heap.size u2 R.1) := J3.out.kept B4
  have G4 : Hid (Fo w4 ga rn (FL R.2)) := G3.out.below B4
  have F4 : Hid (Fo w4 fa n (FL L)) := F3.out.below B4
  have O4 : Hid (OpRs w4 (some ⟨g, 0, none⟩) on (OpRF O)) := O3.out.below B4
  have BB4 : Hid (Below w'.heap.size w' w4) := BB3.out.trans (B4.mono BB3.out.size)
  have GE4 : Hid (GE w4 p) := GE3.out.below B4
  clear B4 T3 K3 J3 G3 F3 O3 BB3 GE3
  go_wp2_with fail
  refine (sameForest_same ga sa rn gc sc (FL R.2) _ G4.out T4.out).mono ?_
  rintro e w5 ⟨rfl, B5⟩
  have T5 : Hid (Fo w5 sa rn (FL R.2)) := T4.out.below B5
  have K5 : Hid (IL w5 w2.heap.size u3 R.1) := K4.out.kept B5
  have J5 : Hid (IL w5 w1.heap.size u2 R.1) := J4.out.kept B5
  have G5 : Hid (Fo w5 ga rn (FL R.2)) := G4.out.below B5
  have F5 : Hid (Fo w5 fa n (FL L)) := F4.out.below B5
  have O5 : Hid (OpRs w5 (some ⟨g, 0, none⟩) on (OpRF O)) := O4.out.below B5
  have BB5 : Hid (Below w'.heap.size w' w5) := BB4.out.trans (B5.mono BB4.out.size)
  have GE5 : Hid (GE w5 p) := GE4.out.below B5
  clear B5 T4 K4 J4 G4 F4 O4 BB4 GE4
  by_cases hRi : Right (FL L) n
  · have HRi : Hid (Right (FL L) n) := hRi
    clear hRi
    go_wp2_with fail
    refine (specOk_yes fa n fc (FL L) _ F5.out HRi.out).mono ?_
    rintro e w6 ⟨rfl, B6⟩
    have J6 : Hid (IL w6 w1.heap.size u2 R.1) := J5.out.kept B6
    have G6 : Hid (Fo w6 ga rn (FL R.2)) := G5.out.below B6
    have F6 : Hid (Fo w6 fa n (FL L)) := F5.out.below B6
    have O6 : Hid (OpRs w6 (some ⟨g, 0, none⟩) on (OpRF O)) := O5.out.below B6
    have BB6 : Hid (Below w'.heap.size w' w6) := BB5.out.trans (B6.mono BB5.out.size)
    have GE6 : Hid (GE w6 p) := GE5.out.below B6
    clear B6 T5 K5 J5 G5 F5 O5 BB5 GE5
    obtain ⟨k, hk⟩ : ∃ k : Nat, k = len % (on + 1) := ⟨_, rfl⟩
    have hkn : k ≤ on := by have := Nat.mod_lt len (show 0 < on + 1 by omega); omega
    have hke : (len : Int) % ((on : Int) + 1) = (k : Int) := by rw [hk]; simp
    clear hk
    have hrun : R = runAll ([], L) O := by rw [← HRE.out]; unfold allAny; rw [if_pos ⟨by rw [← HN.out]; exact HRi.out, by have := HO12.out; omega⟩]
    obtain ⟨X, hX⟩ : ∃ X, runAll ([], L) (O.take k) = X := ⟨_, rfl⟩
    obtain ⟨Y, hYe⟩ : ∃ Y, runAll ([], X.2) (O.drop k) = Y := ⟨_, rfl⟩
    have HP : Hid (R = (X.1 ++ Y.1, Y.2)) := by
      show R = (X.1 ++ Y.1, Y.2)
      rw [hrun, runAll_pieces L O k, hX, hYe]
    have hRX : Right (FL X.2) X.2.length := by rw [← hX]; exact runAll_right _ _ (by rw [← HN.out]; exact HRi.out)
    have HX12 : Hid (X.2.length ≤ 12) := hRX.1
    have HXL : Hid (X.1.length = k ∧ Y.1.length = on - k) := by
      show X.1.length = k ∧ Y.1.length = on - k
      rw [← hYe, ← hX, runAll_len, runAll_len]
      have := HON.out
      simp
      omega
    obtain ⟨xn, hxn⟩ : ∃ xn, xn = X.2.length := ⟨_, rfl⟩
    have IX : Hid (∀ w, Fo w fa n (FL L) → OpRs w (some ⟨g, 0, none⟩) k (OpRF (O.take k)) → GE w p → Calls Tryz.prog 21 #[.slice fa n fc, .slice (some ⟨g, 0, none⟩) k oc] w fun e w' => ∃ v u, e = .returned (.tuple #[v, u]) ∧ AL w' w.heap.size v X.2 ∧ IL w' w.heap.size u X.1 ∧ Below w.heap.size w w') := fun w h1 h2 h3 => by
      have e1 : (O.take k).length = k := by have := HON.out; simp; omega
      have := implAll fa fc L (some ⟨g, 0, none⟩) oc (O.take k) p w (by rw [← HN.out]; exact h1) (by rw [e1]; exact h2) h3
      rw [e1, ← HN.out] at this
      have e2 : allAny L (O.take k) = X := by unfold allAny; rw [if_pos ⟨by rw [← HN.out]; exact HRi.out, by rw [e1]; omega⟩]; exact hX
      rw [e2] at this
      exact this
    have IY : Hid (∀ w xa xc oa oc, Fo w xa xn (FL X.2) → OpRs w oa (on - k) (OpRF (O.drop k)) → GE w p → Calls Tryz.prog 21 #[.slice xa xn xc, .slice oa (on - k) oc] w fun e w' => ∃ v u, e = .returned (.tuple #[v, u]) ∧ AL w' w.heap.size v Y.2 ∧ IL w' w.heap.size u Y.1 ∧ Below w.heap.size w w') := fun w xa xc oa oc h1 h2 h3 => by
      have e1 : (O.drop k).length = on - k := by have := HON.out; simp; omega
      have := implAll xa xc X.2 oa oc (O.drop k) p w (by rw [← hxn]; exact h1) (by rw [e1]; exact h2) h3
      rw [e1, ← hxn] at this
      have e2 : allAny X.2 (O.drop k) = Y := by unfold allAny; rw [if_pos ⟨hRX, by rw [e1]; omega⟩]; exact hYe
      rw [e2] at this
      exact this
    have HXN : Hid (xn = X.2.length) := hxn
    have D6 : Hid (OpRs w6 (some ⟨g, k * 5, none⟩) (on - k) (OpRF (O.drop k))) := by have := HON.out; have h6 := O6.out; rw [this] at h6 ⊢; exact h6.drop (by omega)
    have E6 : Hid (OpRs w6 (some ⟨g, 0, none⟩) k (OpRF (O.take k))) := by have := HON.out; have h6 := O6.out; rw [this] at h6; exact h6.take (by omega)
    have hki : (0 : Int) ≤ (k : Int) := by omega
    have hkc : (k : Int) ≤ (oc : Int) := by omega
    have hko : (k : Int) ≤ (on : Int) := by omega
    clear hrun hX hYe hRX hxn IM
    go_wp2_with fail
    refine (IX.out _ F6.out E6.out GE6.out).mono ?_
    rintro e w7 ⟨v7, u7, rfl, A7, I7, B7⟩
    obtain ⟨xa, xc, hv7⟩ := A7.len
    rw [← HXN.out] at hv7
    subst hv7
    have X7 : Hid (Fo w7 xa xn (FL X.2)) := by have := (A7.fo (by have := HX12.out; omega)).2; exact this
    have U7 : Hid (IL w7 w6.heap.size u7 X.1) := I7
    have J7 : Hid (IL w7 w1.heap.size u2 R.1) := J6.out.kept B7
    have G7 : Hid (Fo w7 ga rn (FL R.2)) := G6.out.below B7
    have D7 : Hid (OpRs w7 (some ⟨g, k * 5, none⟩) (on - k) (OpRF (O.drop k))) := D6.out.below B7
    have BB7 : Hid (Below w'.heap.size w' w7) := BB6.out.trans (B7.mono BB6.out.size)
    have GE7 : Hid (GE w7 p) := GE6.out.below B7
    clear A7 I7 B7 J6 G6 F6 O6 BB6 GE6 D6 E6 IX
    by_cases hcp : oc = k
    · have hoe : on = k := by omega
      have IY0 : Hid (∀ w xa xc oa oc, Fo w xa xn (FL X.2) → GE w p → Calls Tryz.prog 21 #[.slice xa xn xc, .slice oa 0 oc] w fun e w' => ∃ v u, e = .returned (.tuple #[v, u]) ∧ AL w' w.heap.size v Y.2 ∧ IL w' w.heap.size u Y.1 ∧ Below w.heap.size w w') := fun w xa xc oa oc h1 h3 => by
        have e1 : on - k = 0 := by omega
        have := IY.out w xa xc oa oc h1 (by rw [e1]; exact ⟨by omega, Or.inl rfl⟩) h3
        rw [e1] at this
        exact this
      subst hcp
      subst hoe
      go_wp2_with fail
      refine (IY0.out _ xa xc _ _ X7.out GE7.out).mono ?_
      rintro e w8 ⟨v8, u8, rfl, A8, I8, B8⟩
      have hYR : Y.2 = R.2 := by rw [HP.out]
      rw [hYR] at A8
      clear hYR
      obtain ⟨ba, bc, hv8⟩ := A8.len
      rw [← HRN.out] at hv8
      subst hv8
      have Z8 : Hid (Fo w8 ba rn (FL R.2)) := by have := (A8.fo (by have := HRL.out.1; omega)).2; exact this
      have V8 : Hid (IL w8 w7.heap.size u8 Y.1) := I8
      have U8 : Hid (IL w8 w6.heap.size u7 X.1) := U7.out.kept B8
      have J8 : Hid (IL w8 w1.heap.size u2 R.1) := J7.out.kept B8
      have G8 : Hid (Fo w8 ga rn (FL R.2)) := G7.out.below B8
      have BB8 : Hid (Below w'.heap.size w' w8) := BB7.out.trans (B8.mono BB7.out.size)
      clear A8 I8 B8 U7 J7 G7 D7 X7 BB7 GE7
      go_wp2_with fail
      refine (sameForest_same ba ga rn bc gc (FL R.2) _ Z8.out G8.out).mono ?_
      rintro e w9 ⟨rfl, B9⟩
      have V9 : Hid (IL w9 w7.heap.size u8 Y.1) := V8.out.kept B9
      have U9 : Hid (IL w9 w6.heap.size u7 X.1) := U8.out.kept B9
      have J9 : Hid (IL w9 w1.heap.size u2 R.1) := J8.out.kept B9
      have BB9 : Hid (Below w'.heap.size w' w9) := BB8.out.trans (B9.mono BB8.out.size)
      clear B9 V8 U8 J8 G8 Z8 BB8
      obtain ⟨s7, c7, hu7⟩ : ∃ s7 c7, u7 = .slice s7 X.1.length c7 := by obtain ⟨s, c, e, _⟩ := U9.out.shape; exact ⟨s, c, e⟩
      obtain ⟨s8, c8, hu8⟩ : ∃ s8 c8, u8 = .slice s8 Y.1.length c8 := by obtain ⟨s, c, e, _⟩ := V9.out.shape; exact ⟨s, c, e⟩
      have hb9 := U9.out
      have Q7 : Hid (∀ q, u7.ownBlock = some q → w6.heap.size ≤ q ∧ q < w9.heap.size) := fun q hq => World.ownsRow.lt U9.out q hq
      have Q8 : Hid (∀ q, u8.ownBlock = some q → w7.heap.size ≤ q ∧ q < w9.heap.size) := fun q hq => World.ownsRow.lt V9.out q hq
      have Q2 : Hid (∀ q, u2.ownBlock = some q → q < w9.heap.size) := fun q hq => (World.ownsRow.lt J9.out q hq).2
      clear hb9
      rw [HXL.out.1] at hu7
      rw [HXL.out.2, Nat.sub_self] at hu8
      have N0 : Hid (IL (w9.alloc (.cells #[] 2)) w9.heap.size (.slice (some ⟨w9.heap.size, 0, none⟩) 0 0) []) := IL.empty w9 _ (Nat.le_refl _)
      subst hu7
      subst hu8
      go_wp2_with (at_builtin; refine wpList_append_ints (by rfl) _ _ rfl w9.heap.size w6.heap.size _ _ [] X.1 rfl rfl N0.out (World.ownsRow.alloc U9.out _) ?_ ?_ ?_)
      · have := HXL.out; simp; omega
      · simp
      intro v10 w10 I10 gr10
      have J10 : Hid (IL w10 w1.heap.size u2 R.1) := World.ownsRow.kept (World.ownsRow.alloc J9.out _) gr10 (by
        cases hb : u2.ownBlock with
        | none => exact Or.inl rfl
        | some q =>
          right
          intro e
          have h1 := Q2.out q hb
          have h2 : q = w9.heap.size := by simpa [Value.ownBlock] using e
          omega)
      have V10 : Hid (IL w10 w7.heap.size (.slice s8 (0) c8) Y.1) := World.ownsRow.kept (World.ownsRow.alloc V9.out _) gr10 (by
        cases hb : (Value.slice s8 (0) c8).ownBlock with
        | none => exact Or.inl rfl
        | some q =>
          right
          intro e
          have h1 := Q8.out q hb
          have h2 : q = w9.heap.size := by simpa [Value.ownBlock] using e
          omega)
      have I10' : Hid (IL w10 w9.heap.size v10 X.1) := I10
      have BB10 : Hid (Below w'.heap.size w' w10) := (BB9.out.alloc BB9.out.size _).grown gr10 (by have := BB9.out.size; simp; omega) (fun q hq => Nat.le_trans BB9.out.size (Nat.le_of_eq (by simpa [Value.ownBlock] using hq)))
      have hz10 : w9.heap.size ≤ w10.heap.size := Nat.le_trans (by simp) gr10.size
      have hlt10 : Hid (∀ q, v10.ownBlock = some q → w9.heap.size ≤ q) := fun q hq => (World.ownsRow.lt I10 q hq).1
      clear I10 gr10 J9 V9 U9 N0 Q7 Q8
      go_wp2_with (at_builtin; refine wpList_append_ints (by rfl) _ _ rfl w9.heap.size w7.heap.size _ _ X.1 Y.1 rfl rfl I10'.out V10.out ?_ ?_ ?_)
      · have := HXL.out; omega
      · exact hz10
      intro v11 w11 I11 gr11
      have hRp : X.1 ++ Y.1 = R.1 := by rw [HP.out]
      rw [hRp] at I11
      have I11' : Hid (IL w11 w9.heap.size v11 R.1) := I11
      have J11 : Hid (IL w11 w1.heap.size u2 R.1) := World.ownsRow.kept J10.out gr11 (by
        cases hb : u2.ownBlock with
        | none => exact Or.inl rfl
        | some q =>
          right
          intro e
          have h1 := Q2.out q hb
          have h2 := hlt10.out q e.symm
          omega)
      have BB11 : Hid (Below w'.heap.size w' w11) := BB10.out.grown gr11 BB10.out.size (fun q hq => Nat.le_trans BB9.out.size (hlt10.out q hq))
      clear I11 gr11 hRp I10' V10 J10 BB10 hlt10 Q2
      go_wp2_with fail
      refine (sameInts_same _ _ _ _ R.1 _ (by have := HRL.out.2; omega) I11'.out J11.out).mono ?_
      rintro e w12 ⟨rfl, B12⟩
      have BB12 : Hid (Below w'.heap.size w' w12) := BB11.out.trans (B12.mono BB11.out.size)
      clear B12
      go_wp2
      go_ret
      exact ⟨rfl, BB12.out⟩
    · have hcp' : ¬ ((oc : Int) = (k : Int)) := by omega
      go_wp2_with fail
      refine (IY.out _ xa xc _ _ X7.out D7.out GE7.out).mono ?_
      rintro e w8 ⟨v8, u8, rfl, A8, I8, B8⟩
      have hYR : Y.2 = R.2 := by rw [HP.out]
      rw [hYR] at A8
      clear hYR
      obtain ⟨ba, bc, hv8⟩ := A8.len
      rw [← HRN.out] at hv8
      subst hv8
      have Z8 : Hid (Fo w8 ba rn (FL R.2)) := by have := (A8.fo (by have := HRL.out.1; omega)).2; exact this
      have V8 : Hid (IL w8 w7.heap.size u8 Y.1) := I8
      have U8 : Hid (IL w8 w6.heap.size u7 X.1) := U7.out.kept B8
      have J8 : Hid (IL w8 w1.heap.size u2 R.1) := J7.out.kept B8
      have G8 : Hid (Fo w8 ga rn (FL R.2)) := G7.out.below B8
      have BB8 : Hid (Below w'.heap.size w' w8) := BB7.out.trans (B8.mono BB7.out.size)
      clear A8 I8 B8 U7 J7 G7 D7 X7 BB7 GE7
      go_wp2_with fail
      refine (sameForest_same ba ga rn bc gc (FL R.2) _ Z8.out G8.out).mono ?_
      rintro e w9 ⟨rfl, B9⟩
      have V9 : Hid (IL w9 w7.heap.size u8 Y.1) := V8.out.kept B9
      have U9 : Hid (IL w9 w6.heap.size u7 X.1) := U8.out.kept B9
      have J9 : Hid (IL w9 w1.heap.size u2 R.1) := J8.out.kept B9
      have BB9 : Hid (Below w'.heap.size w' w9) := BB8.out.trans (B9.mono BB8.out.size)
      clear B9 V8 U8 J8 G8 Z8 BB8
      obtain ⟨s7, c7, hu7⟩ : ∃ s7 c7, u7 = .slice s7 X.1.length c7 := by obtain ⟨s, c, e, _⟩ := U9.out.shape; exact ⟨s, c, e⟩
      obtain ⟨s8, c8, hu8⟩ : ∃ s8 c8, u8 = .slice s8 Y.1.length c8 := by obtain ⟨s, c, e, _⟩ := V9.out.shape; exact ⟨s, c, e⟩
      have hb9 := U9.out
      have Q7 : Hid (∀ q, u7.ownBlock = some q → w6.heap.size ≤ q ∧ q < w9.heap.size) := fun q hq => World.ownsRow.lt U9.out q hq
      have Q8 : Hid (∀ q, u8.ownBlock = some q → w7.heap.size ≤ q ∧ q < w9.heap.size) := fun q hq => World.ownsRow.lt V9.out q hq
      have Q2 : Hid (∀ q, u2.ownBlock = some q → q < w9.heap.size) := fun q hq => (World.ownsRow.lt J9.out q hq).2
      clear hb9
      rw [HXL.out.1] at hu7
      rw [HXL.out.2] at hu8
      have N0 : Hid (IL (w9.alloc (.cells #[] 2)) w9.heap.size (.slice (some ⟨w9.heap.size, 0, none⟩) 0 0) []) := IL.empty w9 _ (Nat.le_refl _)
      subst hu7
      subst hu8
      go_wp2_with (at_builtin; refine wpList_append_ints (by rfl) _ _ rfl w9.heap.size w6.heap.size _ _ [] X.1 rfl rfl N0.out (World.ownsRow.alloc U9.out _) ?_ ?_ ?_)
      · have := HXL.out; simp; omega
      · simp
      intro v10 w10 I10 gr10
      have J10 : Hid (IL w10 w1.heap.size u2 R.1) := World.ownsRow.kept (World.ownsRow.alloc J9.out _) gr10 (by
        cases hb : u2.ownBlock with
        | none => exact Or.inl rfl
        | some q =>
          right
          intro e
          have h1 := Q2.out q hb
          have h2 : q = w9.heap.size := by simpa [Value.ownBlock] using e
          omega)
      have V10 : Hid (IL w10 w7.heap.size (.slice s8 (on - k) c8) Y.1) := World.ownsRow.kept (World.ownsRow.alloc V9.out _) gr10 (by
        cases hb : (Value.slice s8 (on - k) c8).ownBlock with
        | none => exact Or.inl rfl
        | some q =>
          right
          intro e
          have h1 := Q8.out q hb
          have h2 : q = w9.heap.size := by simpa [Value.ownBlock] using e
          omega)
      have I10' : Hid (IL w10 w9.heap.size v10 X.1) := I10
      have BB10 : Hid (Below w'.heap.size w' w10) := (BB9.out.alloc BB9.out.size _).grown gr10 (by have := BB9.out.size; simp; omega) (fun q hq => Nat.le_trans BB9.out.size (Nat.le_of_eq (by simpa [Value.ownBlock] using hq)))
      have hz10 : w9.heap.size ≤ w10.heap.size := Nat.le_trans (by simp) gr10.size
      have hlt10 : Hid (∀ q, v10.ownBlock = some q → w9.heap.size ≤ q) := fun q hq => (World.ownsRow.lt I10 q hq).1
      clear I10 gr10 J9 V9 U9 N0 Q7 Q8
      go_wp2_with (at_builtin; refine wpList_append_ints (by rfl) _ _ rfl w9.heap.size w7.heap.size _ _ X.1 Y.1 rfl rfl I10'.out V10.out ?_ ?_ ?_)
      · have := HXL.out; omega
      · exact hz10
      intro v11 w11 I11 gr11
      have hRp : X.1 ++ Y.1 = R.1 := by rw [HP.out]
      rw [hRp] at I11
      have I11' : Hid (IL w11 w9.heap.size v11 R.1) := I11
      have J11 : Hid (IL w11 w1.heap.size u2 R.1) := World.ownsRow.kept J10.out gr11 (by
        cases hb : u2.ownBlock with
        | none => exact Or.inl rfl
        | some q =>
          right
          intro e
          have h1 := Q2.out q hb
          have h2 := hlt10.out q e.symm
          omega)
      have BB11 : Hid (Below w'.heap.size w' w11) := BB10.out.grown gr11 BB10.out.size (fun q hq => Nat.le_trans BB9.out.size (hlt10.out q hq))
      clear I11 gr11 hRp I10' V10 J10 BB10 hlt10 Q2
      go_wp2_with fail
      refine (sameInts_same _ _ _ _ R.1 _ (by have := HRL.out.2; omega) I11'.out J11.out).mono ?_
      rintro e w12 ⟨rfl, B12⟩
      have BB12 : Hid (Below w'.heap.size w' w12) := BB11.out.trans (B12.mono BB11.out.size)
      clear B12
      go_wp2
      go_ret
      exact ⟨rfl, BB12.out⟩
  · have HRi : Hid (¬ Right (FL L) n) := hRi
    clear hRi
    go_wp2_with fail
    refine (specOk_no fa n fc (FL L) _ F5.out HRi.out).mono ?_
    rintro e w6 ⟨rfl, B6⟩
    have T6 : Hid (Fo w6 sa rn (FL R.2)) := T5.out.below B6
    have K6 : Hid (IL w6 w2.heap.size u3 R.1) := K5.out.kept B6
    have J6 : Hid (IL w6 w1.heap.size u2 R.1) := J5.out.kept B6
    have G6 : Hid (Fo w6 ga rn (FL R.2)) := G5.out.below B6
    have BB6 : Hid (Below w'.heap.size w' w6) := BB5.out.trans (B6.mono BB5.out.size)
    clear B6 T5 K5 J5 G5 F5 O5 BB5 GE5
    go_wp2_with fail
    refine (sameInts_same _ _ _ _ R.1 _ (by have := HRL.out.2; omega) J6.out K6.out).mono ?_
    rintro e w7 ⟨rfl, B7⟩
    have T7 : Hid (Fo w7 sa rn (FL R.2)) := T6.out.below B7
    have G7 : Hid (Fo w7 ga rn (FL R.2)) := G6.out.below B7
    have BB7 : Hid (Below w'.heap.size w' w7) := BB6.out.trans (B7.mono BB6.out.size)
    clear B7 T6 K6 J6 G6 BB6
    go_wp2_with fail
    refine (sameForest_same ga sa rn gc sc (FL R.2) _ G7.out T7.out).mono ?_
    rintro e w8 ⟨rfl, B8⟩
    have BB8 : Hid (Below w'.heap.size w' w8) := BB7.out.trans (B8.mono BB7.out.size)
    clear B8
    go_wp2
    go_ret
    exact ⟨rfl, BB8.out⟩
end Go.Proofs.YthkgppfgidlicaaGreatDoor
