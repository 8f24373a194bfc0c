/- The specification's Done, the other kinds. Conditions: the accounts lie in memory and are a right forest. -/
import Derived.Test.YtppgbjjojikpdaaDoorCopyS
namespace Go.Proofs.YtppgbjjojikpdaaDoor
open Go.RowKit

set_option maxRecDepth 8000 in
set_option maxHeartbeats 2000000 in
theorem specDone_act (a : Option Addr) (c : Nat) (L : List Acc) (k i t m r : Int) (w : World) (h : Fo w a L.length (FL L)) (hR : Right (FL L) L.length) (ho : opOk k i t m r) (p : Nat) (hpi : place (FL L) L.length i = some p) (k1 : k ≠ 1) (k7 : k ≠ 7) (k9 : k ≠ 9) :
    Calls Tryd.prog 13 #[.slice a L.length c, .agg #[.int .i64 k, .int .i64 i, .int .i64 t, .int .i64 m, .int .i64 r]] w fun e w' => Out (doneS L k i t m r) w.heap.size w e w' := by
  have HF : Hid (Fo w a L.length (FL L)) := h
  have HR : Hid (Right (FL L) L.length) := hR
  have hn := hR.1
  have HO : Hid (opOk k i t m r) := ho
  have HD0 : Hid (doneS L k i t m r = finS L (partS L k i t m r)) := (by unfold doneS; rw [if_pos ho] : doneS L k i t m r = finS L (partS L k i t m r))
  obtain ⟨hp, _⟩ := place_some hpi
  have HAI : Hid (placeI (FL L) L.length i = (p : Int)) := placeI_some hpi
  have HP : Hid (partS L k i t m r = actS L p k m) := (by unfold partS; simp [hpi, k1, k7, k9] : partS L k i t m r = actS L p k m)
  have j1 : (k == 1) = false := by simp [k1]
  have j7 : (k == 7) = false := by simp [k7]
  have j9 : (k == 9) = false := by simp [k9]
  have K1 : Hid (k ≠ 1) := k1
  have K7 : Hid (k ≠ 7) := k7
  have K9 : Hid (k ≠ 9) := k9
  clear hpi k1 k7 k9
  obtain ⟨W, hW⟩ : ∃ W, W = w.alloc (.cells #[.int .i64 k, .int .i64 i, .int .i64 t, .int .i64 m, .int .i64 r] 30) := ⟨_, rfl⟩
  have OW : Hid (OpBox W w.heap.size k i t m r) := by rw [hW]; exact OpBox.new w _ _ _ _ _ 30
  have BW : Hid (Below w.heap.size w W) := by rw [hW]; exact (Below.refl _ _).alloc (Nat.le_refl _) _
  obtain ⟨o0, o1, o2, o3, o4, oz⟩ := OW.out
  clear h hR ho
  go_enter Tryd.func13, Tryd.ntmps13
  go_upto_region 1 with fail
  rw [← hW]
  clear hW
  go_wp2_with fail
  refine (specOpOk_yes k i t m r _ HO.out).mono ?_
  rintro e w1 ⟨rfl, B1⟩
  have O1 : Hid (OpBox w1 w.heap.size k i t m r) := OW.out.below B1
  have BW1 : Hid (Below w.heap.size w w1) := BW.out.trans (B1.mono BW.out.size)
  clear B1 OW BW o0 o1 o2 o3 o4 oz
  go_wp2_with fail
  refine (specCopy2 a L.length c L _ rfl (HF.out.below BW1.out)).mono ?_
  rintro e w2 ⟨g, c2, rfl, A2, B2⟩
  have O2 : Hid (OpBox w2 w.heap.size k i t m r) := O1.out.below B2
  have A2' : Hid (AL w2 w.heap.size (.slice (some ⟨g, 0, none⟩) L.length c2) L) := A2.mono BW1.out.size
  have BW2 : Hid (Below w.heap.size w w2) := BW1.out.trans (B2.mono BW1.out.size)
  have hw2 : w.heap.size ≤ w2.heap.size := BW2.out.size
  clear A2 B2 O1 BW1
  obtain ⟨o0, o1, o2, o3, o4, oz⟩ := O2.out
  clear O2
  go_wp2_with fail
  refine (specAt a L.length c (FL L) i _ (HF.out.below BW2.out)).mono ?_
  rintro e wx ⟨rfl, hwx⟩
  have ew : w2 = wx := hwx.symm
  subst ew
  clear hwx
  rw [HAI.out]
  go_wp2_with fail
  refine (specAt a L.length c (FL L) t _ (HF.out.below BW2.out)).mono ?_
  rintro e wx ⟨rfl, hwx⟩
  have ew : w2 = wx := hwx.symm
  subst ew
  clear hwx
  generalize placeI (FL L) L.length t = zt
  go_wp2_with fail
  refine (specAct w.heap.size g c2 L p k i t m r _ A2'.out hw2 HR.out hp HO.out K1.out K7.out K9.out).mono ?_
  rintro e w3 ⟨v3, rfl, A3, B3⟩
  have BW3 : Hid (Below w.heap.size w w3) := BW2.out.trans B3
  have HLen : Hid ((partS L k i t m r).2.length ≤ L.length + 1) := partS_len L k i t m r
  have HD : Hid (doneS L k i t m r = finS L (partS L k i t m r)) := HD0.out
  rw [HP.out] at HLen HD
  generalize actS L p k m = R at *
  clear B3 HP
  obtain ⟨cd, L3⟩ := R
  have AH : Hid (AL w3 w.heap.size v3 L3) := A3
  clear A3
  have hl3 : L3.length ≤ 1048576 := by have := HLen.out; simp only at this; omega
  obtain ⟨a3, c3, hv3⟩ := AH.out.len
  subst hv3
  have F3 : Hid (Fo w3 a3 L3.length (FL L3)) := (AH.out.fo hl3).2
  by_cases h0 : cd = 0
  · subst h0
    by_cases hr3 : Right (FL L3) L3.length
    · have E : Hid (doneS L k i t m r = (0, L3)) := (by rw [HD.out]; simp [finS, hr3] : doneS L k i t m r = (0, L3))
      have HR3 : Hid (Right (FL L3) L3.length) := hr3
      clear hr3
      go_wp2_with fail
      refine (specOk_yes a3 L3.length c3 (FL L3) _ F3.out HR3.out).mono ?_
      rintro e w4 ⟨rfl, B4⟩
      have A4 : Hid (AL w4 w.heap.size (.slice a3 L3.length c3) L3) := AH.out.kept B4
      have B4' : Hid (Below w.heap.size w w4) := BW3.out.trans (B4.mono BW3.out.size)
      clear B4
      go_wp2
      go_ret2
      rw [E.out]
      exact ⟨_, rfl, A4.out, B4'.out⟩
    · have E : Hid (doneS L k i t m r = (7, L)) := (by rw [HD.out]; simp [finS, hr3] : doneS L k i t m r = (7, L))
      have HR3 : Hid (¬ Right (FL L3) L3.length) := hr3
      clear hr3
      go_wp2_with fail
      refine (specOk_no a3 L3.length c3 (FL L3) _ F3.out HR3.out).mono ?_
      rintro e w4 ⟨rfl, B4⟩
      have B4' : Hid (Below w.heap.size w w4) := BW3.out.trans (B4.mono BW3.out.size)
      clear B4
      go_wp2_with fail
      refine (specCopy2 a L.length c L _ rfl (HF.out.below B4'.out)).mono ?_
      rintro e w9 ⟨g9, c9, rfl, A9, B9⟩
      have A9' : Hid (AL w9 w.heap.size (.slice (some ⟨g9, 0, none⟩) L.length c9) L) := A9.mono B4'.out.size
      have B9' : Hid (Below w.heap.size w w9) := B4'.out.trans (B9.mono B4'.out.size)
      clear A9 B9
      go_wp2
      go_ret2
      rw [E.out]
      exact ⟨_, rfl, A9'.out, B9'.out⟩
  · have E : Hid (doneS L k i t m r = (cd, L)) := (by rw [HD.out]; simp [finS, h0] : doneS L k i t m r = (cd, L))
    have hb0 : (cd == 0) = false := by simp [h0]
    have hb1 : (cd != 0) = true := by simp [h0]
    clear h0
    go_wp2_with fail
    refine (specCopy2 a L.length c L _ rfl (HF.out.below BW3.out)).mono ?_
    rintro e w9 ⟨g9, c9, rfl, A9, B9⟩
    have A9' : Hid (AL w9 w.heap.size (.slice (some ⟨g9, 0, none⟩) L.length c9) L) := A9.mono BW3.out.size
    have B9' : Hid (Below w.heap.size w w9) := BW3.out.trans (B9.mono BW3.out.size)
    clear A9 B9
    go_wp2
    go_ret2
    rw [E.out]
    exact ⟨_, rfl, A9'.out, B9'.out⟩
end Go.Proofs.YtppgbjjojikpdaaDoor
