/- The specification's DoneAll. Conditions: the accounts and the ops lie in memory. -/
import Derived.Test.YthkgppfgidlicaaGreatDoorAll
namespace Go.Proofs.YthkgppfgidlicaaGreatDoor
open Go.RowKit
set_option maxRecDepth 8000

set_option maxHeartbeats 4000000 in
theorem specAll_yes (a : Option Addr) (c : Nat) (L : List Acc) (oa : Option Addr) (oc : Nat) (O : List OpR) (w : World) (h : Fo w a L.length (FL L)) (ho : OpRs w oa O.length (OpRF O)) (hR : Right (FL L) L.length) (h100 : O.length ≤ 100) :
    Calls Tryz.prog 22 #[.slice a L.length c, .slice oa O.length oc] w fun e w' => ∃ v u, e = .returned (.tuple #[v, u]) ∧ AL w' w.heap.size v (runAll ([], L) O).2 ∧ IL w' w.heap.size u (runAll ([], L) O).1 ∧ Below w.heap.size w w' := by
  have H : Hid (Fo w a L.length (FL L)) := h
  have HO : Hid (OpRs w oa O.length (OpRF O)) := ho
  have HR : Hid (∀ k, Right (FL (runAll ([], L) (O.take k)).2) (runAll ([], L) (O.take k)).2.length) := fun k => runAll_right _ _ hR
  have HT : Hid (∀ k, k < O.length → runAll ([], L) (O.take (k + 1)) = stepAll (runAll ([], L) (O.take k)) (OpRF O k)) := fun k hk => runAll_take _ O k hk
  have HLN : Hid (∀ k, k ≤ O.length → (runAll ([], L) (O.take k)).1.length = k) := fun k hk => by rw [runAll_len]; simp; omega
  have HE : Hid (O.take O.length = O) := List.take_length
  have HZ : Hid ((runAll ([], L) (O.take 0)).2 = L ∧ (runAll ([], L) (O.take 0)).1 = []) := ⟨rfl, rfl⟩
  obtain ⟨i0, hi, hz0, hz1, hz2⟩ := info_parts info2
  obtain ⟨n, hn⟩ : ∃ n, n = L.length := ⟨_, rfl⟩
  have HN : Hid (n = L.length) := hn
  have C1 : Hid (∀ w, Fo w a n (FL L) → Calls Tryz.prog 24 #[.slice a n c] w fun e w' => e = .returned (.bool true) ∧ Below w.heap.size w w') := fun w h => by rw [hn] at h ⊢; exact specOk_yes a L.length c (FL L) w h hR
  have C2 : Hid (∀ w, Fo w a n (FL L) → Calls Tryz.prog 58 #[.slice a n c] w fun e w' => ∃ g c', e = .returned (.slice (some ⟨g, 0, none⟩) L.length c') ∧ AL w' w.heap.size (.slice (some ⟨g, 0, none⟩) L.length c') L ∧ Below w.heap.size w w') := fun w h => specCopy2 a n c L w HN.out h
  rw [← hn] at H
  rw [← hn]
  clear h ho hn hR
  generalize hon : O.length = on at *
  clear hon
  generalize runAll ([], L) = f at *
  have g1 : decide ((on : Int) > 100) = false := by simp; omega
  have g1' : decide (100 < (on : Int)) = false := by simp; omega
  go_enter Tryz.func22, Tryz.ntmps22
  go_wp2_with fail
  refine (C1.out _ H.out).mono ?_
  rintro e w1 ⟨rfl, B1⟩
  have BB1 : Hid (Below w.heap.size w w1) := B1
  clear B1
  go_wp2_with fail
  refine (C2.out _ (H.out.below BB1.out)).mono ?_
  rintro e w2 ⟨g, c2, rfl, A2, B2⟩
  have BB2 : Hid (Below w.heap.size w (w2.alloc (.cells #[] 2))) := (BB1.out.trans (B2.mono BB1.out.size)).alloc (BB1.out.trans (B2.mono BB1.out.size)).size _
  have A0 : Hid (AL (w2.alloc (.cells #[] 2)) w.heap.size (.slice (some ⟨g, 0, none⟩) L.length c2) (f (O.take 0)).2) := by rw [HZ.out.1]; exact World.ownsRow.alloc (A2.mono BB1.out.size) _
  have I0 : Hid (IL (w2.alloc (.cells #[] 2)) w.heap.size (.slice (some ⟨w2.heap.size, 0, none⟩) 0 0) (f (O.take 0)).1) := by rw [HZ.out.2]; exact IL.empty w2 w.heap.size (BB1.out.trans (B2.mono BB1.out.size)).size
  obtain ⟨n2, hn2⟩ : ∃ n2, n2 = L.length := ⟨_, rfl⟩
  rw [← hn2] at A0
  rw [← hn2]
  clear A2 B2 hn2 g1 g1'
  go_wp2
  go_loopw [6, 7, 8] (fun s c q wr => ∃ k : Nat, k ≤ on ∧ q = .int .i64 k ∧ Hid (AL wr w.heap.size s (f (O.take k)).2) ∧ Hid (IL wr w.heap.size c (f (O.take k)).1) ∧ Hid (Below w.heap.size w wr)) (fun _ _ q _ => on - (intOf q).toNat)
  case atStart => exact ⟨0, Nat.zero_le _, rfl, A0, I0, BB2⟩
  case round =>
    obtain ⟨k, hk, rfl, A1, I1, B1⟩ := hrel
    clear A0 I0 BB2 BB1
    by_cases hlt : k < on
    · obtain ⟨b, o, rfl, hb0, hA0⟩ := HO.out.acc hlt
      have hT := HT.out k hlt
      have hRk := HR.out k
      have hLk := HLN.out k hk
      cases hx : OpRF O k with
      | mk xk xi xt xm xr =>
      rw [hx] at hA0 hT
      obtain ⟨d0, d1, d2, d3, d4⟩ := hA0.of_cells (w' := wr) (fun q => B1.out.cell (p := ⟨b, q, none⟩) hb0)
      have HX : Hid (OpRF O k = ⟨xk, xi, xt, xm, xr⟩) := hx
      clear hA0 hx
      obtain ⟨M, hM⟩ : ∃ M, M = (f (O.take k)).2 := ⟨_, rfl⟩
      obtain ⟨c, hc⟩ : ∃ c, c = (f (O.take k)).1 := ⟨_, rfl⟩
      rw [← hM] at A1 hRk
      rw [← hc] at I1 hLk
      obtain ⟨D, hD⟩ : ∃ D, D = doneAny M xk xi xt xm xr := ⟨_, rfl⟩
      have HT1 : Hid (f (O.take (k + 1)) = (c ++ [D.1], D.2)) := by
        show f (O.take (k + 1)) = (c ++ [D.1], D.2)
        rw [hT, hc, hD, hM]
        rfl
      have hml : M.length ≤ 12 := hRk.1
      have DI : Hid (∀ w a cc, Fo w a M.length (FL M) → Calls Tryz.prog 45 #[.slice a M.length cc, .agg #[.int .i64 xk, .int .i64 xi, .int .i64 xt, .int .i64 xm, .int .i64 xr]] w fun e w' => Out D w.heap.size w e w') := fun w a cc h => by
        have e : doneAny M xk xi xt xm xr = doneS M xk xi xt xm xr := by unfold doneAny; rw [if_pos hRk]
        rw [hD, e]
        exact specDone3 a cc M xk xi xt xm xr w h hRk
      obtain ⟨cd, G⟩ := D
      clear hT hD hM hc hRk
      obtain ⟨sa, sc, hv⟩ := A1.out.len
      subst hv
      obtain ⟨a', m', hv2, hlt', _⟩ := I1.out.shape
      subst hv2
      obtain ⟨mn, hmn⟩ : ∃ mn, mn = M.length := ⟨_, rfl⟩
      rw [← hmn] at A1 DI
      rw [hLk] at I1 hlt'
      have HCN : Hid (k = c.length) := hLk.symm
      rw [← hmn, hLk]
      clear hmn hLk
      have FA : Hid (Fo wr sa mn (FL M)) := (A1.out.fo (by omega)).2
      go_wp2_with fail
      refine (DI.out _ _ _ FA.out).mono ?_
      rintro e w5 ⟨v5, rfl, A5, B5⟩
      have HL : Hid (∀ q, (Value.slice a' k m').ownBlock = some q → w.heap.size ≤ q ∧ q < wr.heap.size) := hlt'
      have A6 : Hid (AL w5 w.heap.size v5 G ∧ ∀ q, v5.ownBlock = some q → wr.heap.size ≤ q) := ⟨A5.mono B1.out.size, fun q hq => (World.ownsRow.lt A5 q hq).1⟩
      have I6 : Hid (IL w5 w.heap.size (.slice a' k m') c) := I1.out.kept B5
      have B6 : Hid (Below w.heap.size w w5) := B1.out.trans (B5.mono B1.out.size)
      obtain ⟨ga, gc, hv5⟩ := A5.len
      obtain ⟨gn, hgn⟩ : ∃ gn, gn = G.length := ⟨_, rfl⟩
      rw [← hgn] at hv5
      subst hv5
      clear hgn A5 B5 hlt' FA A1 I1 B1 d0 d1 d2 d3 d4
      have hb6 := B6.out.size
      go_wp2_with (at_builtin; refine wpList_append_own _ rfl _ _ 41 rfl w.heap.size 2 i0 (.int .i64 0) 1 8 Tryz.underlying41 hi hz0 hz1 hz2 rfl (by decide) _ _ _ rfl (World.ownsRow.alloc I6.out _) ⟨_, 0, none⟩ 1 1 [.int .i64 cd] rfl rfl ?_ ?_ ?_ ?_ ?_ ?_)
      · intro j u hj
        match j, hj with
        | 0, hj => simp at hj; subst hj; simp [Addr.add, go_sem]
      · intro u hu; simp at hu; subst hu; rfl
      · unfold maxLen; have := HCN.out; omega
      · have := HCN.out; omega
      · simp; omega
      · intro v' w7 hown hgrow _
        have I7 : Hid (IL w7 w.heap.size v' (c ++ [cd])) := by
          show IL w7 w.heap.size v' (c ++ [cd])
          unfold IL
          have e := HCN.out
          subst e
          simpa using hown
        have A7 : Hid (AL w7 w.heap.size (.slice ga gn gc) G) := World.ownsRow.kept (World.ownsRow.alloc A6.out.1 _) hgrow (by
          cases hb : (Value.slice ga gn gc).ownBlock with
          | none => exact Or.inl rfl
          | some q =>
            right
            intro e
            have h1 := A6.out.2 q hb
            have h2 := HL.out q e.symm
            omega)
        have B7 : Hid (Below w.heap.size w w7) := (B6.out.alloc B6.out.size _).grown hgrow (by simp; omega) (fun q hq => (HL.out q hq).1)
        clear hown hgrow
        go_wp2
        go_roundw
        case rel => exact ⟨k + 1, by omega, by go_num, (by rw [HT1.out]; exact A7), (by rw [HT1.out]; exact I7), B7⟩
        case measure => simp [intOf]; omega
    · have hkn : k = on := by omega
      subst hkn
      rw [HE.out] at A1 I1
      obtain ⟨sa, sc, hv⟩ := A1.out.len
      obtain ⟨a', m', hv2, _, _⟩ := I1.out.shape
      obtain ⟨g1, hg1⟩ : ∃ g1, g1 = (f O).2.length := ⟨_, rfl⟩
      obtain ⟨g2, hg2⟩ : ∃ g2, g2 = (f O).1.length := ⟨_, rfl⟩
      rw [← hg1] at hv
      rw [← hg2] at hv2
      subst hv
      subst hv2
      clear hg1 hg2
      go_wp2
      go_ret2
      exact ⟨_, _, rfl, A1.out, I1.out, B1.out⟩

set_option maxHeartbeats 2000000 in
theorem specAll (a : Option Addr) (c : Nat) (L : List Acc) (oa : Option Addr) (oc : Nat) (O : List OpR) (w : World) (h : Fo w a L.length (FL L)) (ho : OpRs w oa O.length (OpRF O)) :
    Calls Tryz.prog 22 #[.slice a L.length c, .slice oa O.length oc] w fun e w' => ∃ v u, e = .returned (.tuple #[v, u]) ∧ AL w' w.heap.size v (allAny L O).2 ∧ IL w' w.heap.size u (allAny L O).1 ∧ Below w.heap.size w w' := by
  by_cases hR : Right (FL L) L.length
  · by_cases h100 : O.length ≤ 100
    · have hE : allAny L O = runAll ([], L) O := by unfold allAny; rw [if_pos ⟨hR, h100⟩]
      rw [hE]
      exact specAll_yes a c L oa oc O w h ho hR h100
    · have hE : allAny L O = ([], []) := by unfold allAny; rw [if_neg (fun h => h100 h.2)]
      rw [hE]
      have hon := ho.1
      have H : Hid (Fo w a L.length (FL L)) := h
      obtain ⟨n, hn⟩ : ∃ n, n = L.length := ⟨_, rfl⟩
      have C1 : Hid (∀ w, Fo w a n (FL L) → Calls Tryz.prog 24 #[.slice a n c] w fun e w' => e = .returned (.bool true) ∧ Below w.heap.size w w') := fun w h => by rw [hn] at h ⊢; exact specOk_yes a L.length c (FL L) w h hR
      rw [← hn] at H
      rw [← hn]
      generalize O.length = on at *
      have g1 : decide ((on : Int) > 100) = true := by simp; omega
      have g1' : decide (100 < (on : Int)) = true := by simp; omega
      clear hE hn hR h100 hon h ho
      go_enter Tryz.func22, Tryz.ntmps22
      go_wp2_with fail
      refine (C1.out _ H.out).mono ?_
      rintro e w1 ⟨rfl, B1⟩
      have BB1 : Hid (Below w.heap.size w w1) := B1
      clear B1
      go_wp2
      go_ret2
      exact ⟨_, _, rfl, World.ownsRow_nil _ _ 38 8, IL.nil _ _, BB1.out⟩
  · have hE : allAny L O = ([], []) := by unfold allAny; rw [if_neg (fun h => hR h.1)]
    rw [hE]
    have H : Hid (Fo w a L.length (FL L)) := h
    obtain ⟨n, hn⟩ : ∃ n, n = L.length := ⟨_, rfl⟩
    have C1 : Hid (∀ w, Fo w a n (FL L) → Calls Tryz.prog 24 #[.slice a n c] w fun e w' => e = .returned (.bool false) ∧ Below w.heap.size w w') := fun w h => by rw [hn] at h ⊢; exact specOk_no a L.length c (FL L) w h hR
    rw [← hn] at H
    rw [← hn]
    generalize O.length = on at *
    clear hE hn hR h ho
    go_enter Tryz.func22, Tryz.ntmps22
    go_wp2_with fail
    refine (C1.out _ H.out).mono ?_
    rintro e w1 ⟨rfl, B1⟩
    have BB1 : Hid (Below w.heap.size w w1) := B1
    clear B1
    go_wp2
    go_ret2
    exact ⟨_, _, rfl, World.ownsRow_nil _ _ 38 8, IL.nil _ _, BB1.out⟩
end Go.Proofs.YthkgppfgidlicaaGreatDoor
