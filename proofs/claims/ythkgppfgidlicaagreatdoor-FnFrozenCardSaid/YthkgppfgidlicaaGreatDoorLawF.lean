/- The law FnDoneForest returns true, whatever the bytes of the code: an op leaves a right forest; one that is refused leaves it as it was; all there is changes by what comes in or goes out alone. Conditions: the bytes lie in memory, the package's errors lie as they were laid. -/
import Derived.Test.YthkgppfgidlicaaGreatDoorDDraw
import Derived.Test.YthkgppfgidlicaaGreatDoorKeep
import Derived.Test.YthkgppfgidlicaaGreatDoorLawM
import Derived.Test.YthkgppfgidlicaaGreatDoorSame
namespace Go.Proofs.YthkgppfgidlicaaGreatDoor
open Go.RowKit
set_option maxRecDepth 8000

theorem partS_ne1 (L : List Acc) (k i t m r : Int) : (partS L k i t m r).1 ≠ 1 := by
  have ite1 : ∀ {p : Prop} {d : Decidable p} {A C : Int × List Acc}, A.1 ≠ 1 → C.1 ≠ 1 → (@ite _ p d A C).1 ≠ 1 := by
    intro p d A C hA hC
    split
    · exact hA
    · exact hC
  unfold partS
  refine ite1 ?_ ?_
  · unfold openS
    exact ite1 (by simp) (ite1 (by simp) (by simp))
  · cases place (FL L) L.length i with
    | none => simp
    | some p =>
      refine ite1 ?_ (ite1 ?_ ?_)
      · cases place (FL L) L.length t with
        | none => simp
        | some q => unfold payS; exact ite1 (by simp) (ite1 (by simp) (by simp))
      · cases place (FL L) L.length t with
        | none => simp
        | some q => unfold hangS; exact ite1 (by simp) (ite1 (by simp) (by simp))
      · unfold actS closeS takeS
        exact ite1 (ite1 (by simp) (by simp)) (ite1 (ite1 (by simp) (by simp)) (ite1 (ite1 (by simp) (ite1 (by simp) (by simp))) (ite1 (ite1 (by simp) (by simp)) (ite1 (ite1 (by simp) (ite1 (by simp) (by simp))) (ite1 (ite1 (by simp) (by simp)) (ite1 (by simp) (by simp)))))))
theorem doneS_ne1 (L : List Acc) (k i t m r : Int) : (doneS L k i t m r).1 ≠ 1 := by
  unfold doneS
  split
  · unfold finS
    split
    · split
      · exact partS_ne1 L k i t m r
      · simp
    · exact partS_ne1 L k i t m r
  · simp

/-- What the laws of drawn ops know of what an op came to. -/
def Ends (L : List Acc) (k i t m r cd : Int) (l : List Acc) : Prop :=
  (¬ Right (FL L) L.length ∧ cd = 1 ∧ l = []) ∨ (Right (FL L) L.length ∧ cd ≠ 1 ∧ doneS L k i t m r = (cd, l))
theorem ends (L : List Acc) (k i t m r : Int) : Ends L k i t m r (doneAny L k i t m r).1 (doneAny L k i t m r).2 := by
  by_cases hR : Right (FL L) L.length
  · have e : doneAny L k i t m r = doneS L k i t m r := by unfold doneAny; rw [if_pos hR]
    rw [e]
    exact Or.inr ⟨hR, doneS_ne1 L k i t m r, rfl⟩
  · have e : doneAny L k i t m r = (1, []) := by unfold doneAny; rw [if_neg hR]
    rw [e]
    exact Or.inl ⟨hR, rfl, rfl⟩

set_option maxHeartbeats 4000000 in
theorem lawDoneForest (a : Option Addr) (len cap : Nat) (p : Nat → Addr) (w : World) (h : Code w a len) (hG : GE w p) :
    Calls Tryz.prog 3 #[.slice a len cap] w fun e w' => e = .returned (.bool true) ∧ Below w.heap.size w w' := by
  have H : Hid (Code w a len) := h
  have HG : Hid (GE w p) := hG
  clear h hG
  by_cases hbig : 1048576 < len
  · go_enter Tryz.func3, Tryz.ntmps3
    go_wp2_with (go_at_call 9; refine (big_yes _ _ _ _ hbig).mono ?_; rintro e w' ⟨rfl, rfl⟩)
    go_ret
    exact ⟨rfl, Below.refl _ _⟩
  go_enter Tryz.func3, Tryz.ntmps3
  go_wp2_with (go_at_call 9; refine (big_no _ _ _ _ (by omega)).mono ?_; rintro e w' ⟨rfl, rfl⟩)
  refine (drawDone a len cap _ H.out).mono ?_
  rintro e w1 ⟨v, L, k, i, t, m, r, rfl, hl, A1, B1⟩
  obtain ⟨fa, fc, hv⟩ := A1.len
  subst hv
  obtain ⟨W, hW⟩ : ∃ W, W = w1.alloc (.cells #[.int .i64 k, .int .i64 i, .int .i64 t, .int .i64 m, .int .i64 r] 26) := ⟨_, rfl⟩
  have OW : Hid (OpBox W w1.heap.size k i t m r) := by rw [hW]; exact OpBox.new w1 _ _ _ _ _ 26
  have FW : Hid (Fo W fa L.length (FL L)) := by rw [hW]; exact (A1.fo (by omega)).2.alloc _
  have BW : Hid (Below w'.heap.size w' W) := by rw [hW]; exact B1.alloc B1.size _
  have GW : Hid (GE W p) := HG.out.below BW.out
  obtain ⟨cd, l, hcl⟩ : ∃ cd l, doneAny L k i t m r = (cd, l) := ⟨_, _, rfl⟩
  have hll : l.length ≤ 1048576 := by have := doneAny_len L k i t m r (by omega); rw [hcl] at this; exact this
  have HE : Hid (Ends L k i t m r cd l) := by have := ends L k i t m r; rw [hcl] at this; exact this
  have SP : Hid (∀ w, Fo w fa L.length (FL L) → Calls Tryz.prog 12 #[.slice fa L.length fc, .agg #[.int .i64 k, .int .i64 i, .int .i64 t, .int .i64 m, .int .i64 r]] w fun e w' => ∃ v, e = .returned (.tuple #[v, .int .i64 cd]) ∧ AL w' w.heap.size v l ∧ Below w.heap.size w w') := fun w h => by
    have := specDone fa fc L k i t m r w h
    rw [hcl] at this
    exact this
  have IM : Hid (∀ w, Fo w fa L.length (FL L) → GE w p → Calls Tryz.prog 11 #[.slice fa L.length fc, .agg #[.int .i64 k, .int .i64 i, .int .i64 t, .int .i64 m, .int .i64 r]] w fun e w' => ∃ v, e = .returned (.tuple #[v, .int .i64 cd]) ∧ AL w' w.heap.size v l ∧ Below w.heap.size w w') := fun w h hg => by
    have := implDone fa fc L k i t m r p w h hg
    rw [hcl] at this
    exact this
  clear hcl A1 B1 H HG hbig hl
  obtain ⟨o0, o1, o2, o3, o4, oz⟩ := OW.out
  obtain ⟨n, hn⟩ : ∃ n, n = L.length := ⟨_, rfl⟩
  rw [← hn] at FW SP IM
  rw [← hn]
  have HN : Hid (n = L.length) := hn
  clear hn
  go_upto_region 4 with fail
  rw [← hW]
  clear hW
  go_wp2_with fail
  refine (IM.out _ FW.out GW.out).mono ?_
  rintro e w2 ⟨v2, rfl, A2, B2⟩
  obtain ⟨ga, gc, hv2⟩ := A2.len
  obtain ⟨n2, hn2⟩ : ∃ n2, n2 = l.length := ⟨_, rfl⟩
  rw [← hn2] at hv2
  subst hv2
  have G2 : Hid (Fo w2 ga n2 (FL l)) := (A2.fo hll).2
  have HN2 : Hid (n2 = l.length) := hn2
  have F2 : Hid (Fo w2 fa n (FL L)) := FW.out.below B2
  have BB2 : Hid (Below w'.heap.size w' w2) := BW.out.trans (B2.mono BW.out.size)
  have O2 : Hid (OpBox w2 w1.heap.size k i t m r) := OW.out.below B2
  clear A2 B2 FW BW GW OW o0 o1 o2 o3 o4 oz hn2
  obtain ⟨o0, o1, o2, o3, o4, oz⟩ := O2.out
  go_wp2_with fail
  refine (SP.out _ F2.out).mono ?_
  rintro e w3 ⟨v3, rfl, A3, B3⟩
  obtain ⟨sa, sc, hv3⟩ := A3.len
  rw [← HN2.out] at hv3
  subst hv3
  have T3 : Hid (Fo w3 sa n2 (FL l)) := (A3.fo hll).2
  have G3 : Hid (Fo w3 ga n2 (FL l)) := G2.out.below B3
  have F3 : Hid (Fo w3 fa n (FL L)) := F2.out.below B3
  have BB3 : Hid (Below w'.heap.size w' w3) := BB2.out.trans (B3.mono BB2.out.size)
  have O3 : Hid (OpBox w3 w1.heap.size k i t m r) := O2.out.below B3
  clear A3 B3 G2 F2 BB2 O2 o0 o1 o2 o3 o4 oz SP IM
  obtain ⟨o0, o1, o2, o3, o4, oz⟩ := O3.out
  have hcc : (cd != cd) = false := by simp
  have hce : (cd == cd) = true := by simp
  go_wp2_with fail
  refine (sameForest_same ga sa n2 gc sc (FL l) _ G3.out T3.out).mono ?_
  rintro e w4 ⟨rfl, B4⟩
  have T4 : Hid (Fo w4 sa n2 (FL l)) := T3.out.below B4
  have G4 : Hid (Fo w4 ga n2 (FL l)) := G3.out.below B4
  have F4 : Hid (Fo w4 fa n (FL L)) := F3.out.below B4
  have BB4 : Hid (Below w'.heap.size w' w4) := BB3.out.trans (B4.mono BB3.out.size)
  have O4 : Hid (OpBox w4 w1.heap.size k i t m r) := O3.out.below B4
  clear B4 T3 G3 F3 BB3 O3 o0 o1 o2 o3 o4 oz
  by_cases h1 : cd = 1
  · subst h1
    go_wp2_with fail
    refine (sameForest_same ga sa n2 gc sc (FL l) _ G4.out T4.out).mono ?_
    rintro e w5 ⟨rfl, B5⟩
    have BB5 : Hid (Below w'.heap.size w' w5) := BB4.out.trans (B5.mono BB4.out.size)
    clear B5
    go_wp2
    go_ret
    exact ⟨rfl, BB5.out⟩
  · have h1' : (cd == 1) = false := by simp [h1]
    have HE2 : Hid (Right (FL L) L.length ∧ doneS L k i t m r = (cd, l)) := by
      rcases HE.out with ⟨_, e, _⟩ | ⟨a, _, b⟩
      · exact absurd e h1
      · exact ⟨a, b⟩
    clear HE h1
    by_cases h0 : cd = 0
    · subst h0
      obtain ⟨ho, hpt, hrl⟩ := doneS_zero HE2.out.2
      have hme := made ho hpt
      have htot := made_tot (fun e7 e => by subst e7; unfold opOk at ho; omega) hme
      have HRL : Hid (Right (FL l) n2) := by rw [HN2.out]; exact hrl
      have HR : Hid (Right (FL L) n) := by rw [HN.out]; exact HE2.out.1
      have HO : Hid (opOk k i t m r) := ho
      have bd1 := total_bd hrl l.length (Nat.le_refl _)
      have bd2 := total_bd HE2.out.1 L.length (Nat.le_refl _)
      have l1 := hrl.1
      have l2 := HE2.out.1.1
      rw [total_tot] at bd1 bd2
      have t1 : total (FL l) n2 = tot l := by rw [HN2.out]; exact total_tot l
      have t2 : total (FL L) n = tot L := by rw [HN.out]; exact total_tot L
      have TI : Hid (∀ w, Fo w ga n2 (FL l) → Calls Tryz.prog 14 #[.slice ga n2 gc] w fun e w' => e = .returned (.int .i64 (tot l)) ∧ Below w.heap.size w w') := fun w h => by
        have := implTotal_yes ga n2 gc (FL l) w h HRL.out
        rw [t1] at this
        exact this
      have TJ : Hid (∀ w, Fo w fa n (FL L) → Calls Tryz.prog 14 #[.slice fa n fc] w fun e w' => e = .returned (.int .i64 (tot L)) ∧ Below w.heap.size w w') := fun w h => by
        have := implTotal_yes fa n fc (FL L) w h HR.out
        rw [t2] at this
        exact this
      have hm5 : k = 5 ∨ k = 6 → 1 ≤ m ∧ m ≤ 1000000000000 := fun e => by unfold opOk at ho; omega
      generalize tot l = tl at *
      generalize tot L = tL at *
      have bl : -12000000000000 ≤ tl ∧ tl ≤ 12000000000000 := by omega
      have bL : -12000000000000 ≤ tL ∧ tL ≤ 12000000000000 := by omega
      have HT : Hid (tl = tL + comes k m) := htot
      clear bd1 bd2 l1 l2 t1 t2 hme hrl hpt ho HE2 htot
      obtain ⟨bl1, bl2⟩ := bl
      obtain ⟨bL1, bL2⟩ := bL
      go_wp2_with fail
      refine (TI.out _ G4.out).mono ?_
      rintro e w5 ⟨rfl, B5⟩
      have G5 : Hid (Fo w5 ga n2 (FL l)) := G4.out.below B5
      have F5 : Hid (Fo w5 fa n (FL L)) := F4.out.below B5
      have BB5 : Hid (Below w'.heap.size w' w5) := BB4.out.trans (B5.mono BB4.out.size)
      have O5 : Hid (OpBox w5 w1.heap.size k i t m r) := O4.out.below B5
      clear B5 G4 F4 BB4 O4 T4
      go_wp2_with fail
      refine (TJ.out _ F5.out).mono ?_
      rintro e w6 ⟨rfl, B6⟩
      have G6 : Hid (Fo w6 ga n2 (FL l)) := G5.out.below B6
      have BB6 : Hid (Below w'.heap.size w' w6) := BB5.out.trans (B6.mono BB5.out.size)
      have O6 : Hid (OpBox w6 w1.heap.size k i t m r) := O5.out.below B6
      clear B6 G5 F5 BB5 O5
      obtain ⟨o0, o1, o2, o3, o4, oz⟩ := O6.out
      by_cases k5 : k = 5
      · subst k5
        have hmm := hm5 (Or.inl rfl)
        have HD : Hid (tl - tL = m) := (by have htot := HT.out; simp [comes] at htot; omega : tl - tL = m)
        clear HT hm5
        go_wp2_with fail
        refine (implOk_yes ga n2 gc (FL l) _ G6.out HRL.out).mono ?_
        rintro e w7 ⟨rfl, B7⟩
        have BB7 : Hid (Below w'.heap.size w' w7) := BB6.out.trans (B7.mono BB6.out.size)
        obtain ⟨p0, p1, p2, p3, p4, pz⟩ := O6.out.below B7
        clear B7
        go_wp2
        go_ret
        have hd := HD.out
        exact ⟨by rw [hd]; simp, BB7.out⟩
      · have k5' : (k == 5) = false := by simp [k5]
        by_cases k6 : k = 6
        · subst k6
          have hmm := hm5 (Or.inr rfl)
          have HD : Hid (tl - tL = -m) := (by have htot := HT.out; simp [comes] at htot; omega : tl - tL = -m)
          clear HT hm5
          go_wp2_with fail
          refine (implOk_yes ga n2 gc (FL l) _ G6.out HRL.out).mono ?_
          rintro e w7 ⟨rfl, B7⟩
          have BB7 : Hid (Below w'.heap.size w' w7) := BB6.out.trans (B7.mono BB6.out.size)
          obtain ⟨p0, p1, p2, p3, p4, pz⟩ := O6.out.below B7
          clear B7
          go_wp2
          go_ret
          have hd := HD.out
          exact ⟨by rw [hd]; simp, BB7.out⟩
        · have k6' : (k == 6) = false := by simp [k6]
          have htl : tl = tL := by have htot := HT.out; simp [comes, k5, k6] at htot; omega
          subst htl
          clear HT hm5
          go_wp2_with fail
          refine (implOk_yes ga n2 gc (FL l) _ G6.out HRL.out).mono ?_
          rintro e w7 ⟨rfl, B7⟩
          have BB7 : Hid (Below w'.heap.size w' w7) := BB6.out.trans (B7.mono BB6.out.size)
          obtain ⟨p0, p1, p2, p3, p4, pz⟩ := O6.out.below B7
          clear B7
          go_wp2_with fail
          refine (implOpOk_yes k i t m r _ HO.out).mono ?_
          rintro e w8 ⟨rfl, B8⟩
          have BB8 : Hid (Below w'.heap.size w' w8) := BB7.out.trans (B8.mono BB7.out.size)
          clear B8
          go_wp2
          go_ret
          exact ⟨rfl, BB8.out⟩
    · have h0' : (cd != 0) = true := by simp [h0]
      have hL : l = L := by
        have := fin_same (L := L) (k := k) (i := i) (t := t) (m := m) (r := r) (by rw [HE2.out.2]; exact h0)
        rw [HE2.out.2] at this
        exact this
      have hnn : n2 = n := by rw [HN2.out, HN.out, hL]
      subst hL
      subst hnn
      clear HE2 h0
      go_wp2_with fail
      refine (sameForest_same ga fa n2 gc fc (FL l) _ G4.out F4.out).mono ?_
      rintro e w5 ⟨rfl, B5⟩
      have BB5 : Hid (Below w'.heap.size w' w5) := BB4.out.trans (B5.mono BB4.out.size)
      clear B5
      go_wp2
      go_ret
      exact ⟨rfl, BB5.out⟩
end Go.Proofs.YthkgppfgidlicaaGreatDoor
