/- The specification's Done, refused by its form, and where there is no such account. Conditions: the accounts lie in memory and are a right forest. -/
import Derived.Test.YtppgbjjojikpdaaDoorCopyS
namespace Go.Proofs.YtppgbjjojikpdaaDoor
open Go.RowKit

set_option maxRecDepth 8000 in
set_option maxHeartbeats 2000000 in
theorem specDone_form (a : Option Addr) (c : Nat) (L : List Acc) (k i t m r : Int) (w : World) (h : Fo w a L.length (FL L)) (ho : ¬ opOk k i t m r) :
    Calls Tryd.prog 13 #[.slice a L.length c, .agg #[.int .i64 k, .int .i64 i, .int .i64 t, .int .i64 m, .int .i64 r]] w fun e w' => Out (doneS L k i t m r) w.heap.size w e w' := by
  have HF : Hid (Fo w a L.length (FL L)) := h
  have HO : Hid (¬ opOk k i t m r) := ho
  have E : Hid (doneS L k i t m r = (2, L)) := (by unfold doneS; rw [if_neg ho] : doneS L k i t m r = (2, L))
  obtain ⟨W, hW⟩ : ∃ W, W = w.alloc (.cells #[.int .i64 k, .int .i64 i, .int .i64 t, .int .i64 m, .int .i64 r] 30) := ⟨_, rfl⟩
  have OW : Hid (OpBox W w.heap.size k i t m r) := by rw [hW]; exact OpBox.new w _ _ _ _ _ 30
  have BW : Hid (Below w.heap.size w W) := by rw [hW]; exact (Below.refl _ _).alloc (Nat.le_refl _) _
  obtain ⟨o0, o1, o2, o3, o4, oz⟩ := OW.out
  clear h ho
  go_enter Tryd.func13, Tryd.ntmps13
  go_upto_region 1 with fail
  rw [← hW]
  clear hW
  go_wp2_with fail
  refine (specOpOk_no k i t m r _ HO.out).mono ?_
  rintro e w1 ⟨rfl, B1⟩
  have BW1 : Hid (Below w.heap.size w w1) := BW.out.trans (B1.mono BW.out.size)
  clear B1 OW BW o0 o1 o2 o3 o4 oz
  go_wp2_with fail
  refine (specCopy2 a L.length c L _ rfl (HF.out.below BW1.out)).mono ?_
  rintro e w9 ⟨g9, c9, rfl, A9, B9⟩
  have A9' : Hid (AL w9 w.heap.size (.slice (some ⟨g9, 0, none⟩) L.length c9) L) := A9.mono BW1.out.size
  have B9' : Hid (Below w.heap.size w w9) := BW1.out.trans (B9.mono BW1.out.size)
  clear A9 B9
  go_wp2
  go_ret2
  rw [E.out]
  exact ⟨_, rfl, A9'.out, B9'.out⟩
set_option maxRecDepth 8000 in
set_option maxHeartbeats 2000000 in
theorem specDone_none (a : Option Addr) (c : Nat) (L : List Acc) (k i t m r : Int) (w : World) (h : Fo w a L.length (FL L)) (hR : Right (FL L) L.length) (ho : opOk k i t m r) (hpi : place (FL L) L.length i = none) (k1 : k ≠ 1) (k7 : k ≠ 7) (k9 : k ≠ 9) :
    Calls Tryd.prog 13 #[.slice a L.length c, .agg #[.int .i64 k, .int .i64 i, .int .i64 t, .int .i64 m, .int .i64 r]] w fun e w' => Out (doneS L k i t m r) w.heap.size w e w' := by
  have HF : Hid (Fo w a L.length (FL L)) := h
  have HR : Hid (Right (FL L) L.length) := hR
  have hn := hR.1
  have HO : Hid (opOk k i t m r) := ho
  have HD0 : Hid (doneS L k i t m r = finS L (partS L k i t m r)) := (by unfold doneS; rw [if_pos ho] : doneS L k i t m r = finS L (partS L k i t m r))
  have HP : Hid (partS L k i t m r = (3, L)) := (by unfold partS; simp [hpi, k1] : partS L k i t m r = (3, L))
  have HAI : Hid (placeI (FL L) L.length i = -1) := placeI_none hpi
  have j1 : (k == 1) = false := by simp [k1]
  have j7 : (k == 7) = false := by simp [k7]
  have j9 : (k == 9) = false := by simp [k9]
  clear k1 k7 k9
  clear hpi
  obtain ⟨W, hW⟩ : ∃ W, W = w.alloc (.cells #[.int .i64 k, .int .i64 i, .int .i64 t, .int .i64 m, .int .i64 r] 30) := ⟨_, rfl⟩
  have OW : Hid (OpBox W w.heap.size k i t m r) := by rw [hW]; exact OpBox.new w _ _ _ _ _ 30
  have BW : Hid (Below w.heap.size w W) := by rw [hW]; exact (Below.refl _ _).alloc (Nat.le_refl _) _
  obtain ⟨o0, o1, o2, o3, o4, oz⟩ := OW.out
  clear h hR ho
  go_enter Tryd.func13, Tryd.ntmps13
  go_upto_region 1 with fail
  rw [← hW]
  clear hW
  go_wp2_with fail
  refine (specOpOk_yes k i t m r _ HO.out).mono ?_
  rintro e w1 ⟨rfl, B1⟩
  have O1 : Hid (OpBox w1 w.heap.size k i t m r) := OW.out.below B1
  have BW1 : Hid (Below w.heap.size w w1) := BW.out.trans (B1.mono BW.out.size)
  clear B1 OW BW o0 o1 o2 o3 o4 oz
  go_wp2_with fail
  refine (specCopy2 a L.length c L _ rfl (HF.out.below BW1.out)).mono ?_
  rintro e w2 ⟨g, c2, rfl, A2, B2⟩
  have O2 : Hid (OpBox w2 w.heap.size k i t m r) := O1.out.below B2
  have A2' : Hid (AL w2 w.heap.size (.slice (some ⟨g, 0, none⟩) L.length c2) L) := A2.mono BW1.out.size
  have BW2 : Hid (Below w.heap.size w w2) := BW1.out.trans (B2.mono BW1.out.size)
  have hw2 : w.heap.size ≤ w2.heap.size := BW2.out.size
  clear A2 B2 O1 BW1
  obtain ⟨o0, o1, o2, o3, o4, oz⟩ := O2.out
  clear O2
  go_wp2_with fail
  refine (specAt a L.length c (FL L) i _ (HF.out.below BW2.out)).mono ?_
  rintro e wx ⟨rfl, hwx⟩
  have ew : w2 = wx := hwx.symm
  subst ew
  clear hwx
  rw [HAI.out]
  go_wp2_with fail
  refine (specAt a L.length c (FL L) t _ (HF.out.below BW2.out)).mono ?_
  rintro e wx ⟨rfl, hwx⟩
  have ew : w2 = wx := hwx.symm
  subst ew
  clear hwx
  generalize placeI (FL L) L.length t = zt
  have E : Hid (doneS L k i t m r = (3, L)) := (by rw [HD0.out, HP.out]; simp [finS] : doneS L k i t m r = (3, L))
  go_wp2_with fail
  refine (specCopy2 a L.length c L _ rfl (HF.out.below BW2.out)).mono ?_
  rintro e w9 ⟨g9, c9, rfl, A9, B9⟩
  have A9' : Hid (AL w9 w.heap.size (.slice (some ⟨g9, 0, none⟩) L.length c9) L) := A9.mono BW2.out.size
  have B9' : Hid (Below w.heap.size w w9) := BW2.out.trans (B9.mono BW2.out.size)
  clear A9 B9
  go_wp2
  go_ret2
  rw [E.out]
  exact ⟨_, rfl, A9'.out, B9'.out⟩
set_option maxRecDepth 8000 in
set_option maxHeartbeats 2000000 in
theorem specDone_none7 (a : Option Addr) (c : Nat) (L : List Acc) (i t m r : Int) (w : World) (h : Fo w a L.length (FL L)) (hR : Right (FL L) L.length) (ho : opOk 7 i t m r) (hpi : place (FL L) L.length i = none) :
    Calls Tryd.prog 13 #[.slice a L.length c, .agg #[.int .i64 7, .int .i64 i, .int .i64 t, .int .i64 m, .int .i64 r]] w fun e w' => Out (doneS L 7 i t m r) w.heap.size w e w' := by
  have HF : Hid (Fo w a L.length (FL L)) := h
  have HR : Hid (Right (FL L) L.length) := hR
  have hn := hR.1
  have HO : Hid (opOk 7 i t m r) := ho
  have HD0 : Hid (doneS L 7 i t m r = finS L (partS L 7 i t m r)) := (by unfold doneS; rw [if_pos ho] : doneS L 7 i t m r = finS L (partS L 7 i t m r))
  have HP : Hid (partS L 7 i t m r = (3, L)) := (by unfold partS; simp [hpi] : partS L 7 i t m r = (3, L))
  have HAI : Hid (placeI (FL L) L.length i = -1) := placeI_none hpi
  clear hpi
  obtain ⟨W, hW⟩ : ∃ W, W = w.alloc (.cells #[.int .i64 7, .int .i64 i, .int .i64 t, .int .i64 m, .int .i64 r] 30) := ⟨_, rfl⟩
  have OW : Hid (OpBox W w.heap.size 7 i t m r) := by rw [hW]; exact OpBox.new w _ _ _ _ _ 30
  have BW : Hid (Below w.heap.size w W) := by rw [hW]; exact (Below.refl _ _).alloc (Nat.le_refl _) _
  obtain ⟨o0, o1, o2, o3, o4, oz⟩ := OW.out
  clear h hR ho
  go_enter Tryd.func13, Tryd.ntmps13
  go_upto_region 1 with fail
  rw [← hW]
  clear hW
  go_wp2_with fail
  refine (specOpOk_yes 7 i t m r _ HO.out).mono ?_
  rintro e w1 ⟨rfl, B1⟩
  have O1 : Hid (OpBox w1 w.heap.size 7 i t m r) := OW.out.below B1
  have BW1 : Hid (Below w.heap.size w w1) := BW.out.trans (B1.mono BW.out.size)
  clear B1 OW BW o0 o1 o2 o3 o4 oz
  go_wp2_with fail
  refine (specCopy2 a L.length c L _ rfl (HF.out.below BW1.out)).mono ?_
  rintro e w2 ⟨g, c2, rfl, A2, B2⟩
  have O2 : Hid (OpBox w2 w.heap.size 7 i t m r) := O1.out.below B2
  have A2' : Hid (AL w2 w.heap.size (.slice (some ⟨g, 0, none⟩) L.length c2) L) := A2.mono BW1.out.size
  have BW2 : Hid (Below w.heap.size w w2) := BW1.out.trans (B2.mono BW1.out.size)
  have hw2 : w.heap.size ≤ w2.heap.size := BW2.out.size
  clear A2 B2 O1 BW1
  obtain ⟨o0, o1, o2, o3, o4, oz⟩ := O2.out
  clear O2
  go_wp2_with fail
  refine (specAt a L.length c (FL L) i _ (HF.out.below BW2.out)).mono ?_
  rintro e wx ⟨rfl, hwx⟩
  have ew : w2 = wx := hwx.symm
  subst ew
  clear hwx
  rw [HAI.out]
  go_wp2_with fail
  refine (specAt a L.length c (FL L) t _ (HF.out.below BW2.out)).mono ?_
  rintro e wx ⟨rfl, hwx⟩
  have ew : w2 = wx := hwx.symm
  subst ew
  clear hwx
  generalize placeI (FL L) L.length t = zt
  have E : Hid (doneS L 7 i t m r = (3, L)) := (by rw [HD0.out, HP.out]; simp [finS] : doneS L 7 i t m r = (3, L))
  go_wp2_with fail
  refine (specCopy2 a L.length c L _ rfl (HF.out.below BW2.out)).mono ?_
  rintro e w9 ⟨g9, c9, rfl, A9, B9⟩
  have A9' : Hid (AL w9 w.heap.size (.slice (some ⟨g9, 0, none⟩) L.length c9) L) := A9.mono BW2.out.size
  have B9' : Hid (Below w.heap.size w w9) := BW2.out.trans (B9.mono BW2.out.size)
  clear A9 B9
  go_wp2
  go_ret2
  rw [E.out]
  exact ⟨_, rfl, A9'.out, B9'.out⟩
set_option maxRecDepth 8000 in
set_option maxHeartbeats 2000000 in
theorem specDone_none9 (a : Option Addr) (c : Nat) (L : List Acc) (i t m r : Int) (w : World) (h : Fo w a L.length (FL L)) (hR : Right (FL L) L.length) (ho : opOk 9 i t m r) (hpi : place (FL L) L.length i = none) :
    Calls Tryd.prog 13 #[.slice a L.length c, .agg #[.int .i64 9, .int .i64 i, .int .i64 t, .int .i64 m, .int .i64 r]] w fun e w' => Out (doneS L 9 i t m r) w.heap.size w e w' := by
  have HF : Hid (Fo w a L.length (FL L)) := h
  have HR : Hid (Right (FL L) L.length) := hR
  have hn := hR.1
  have HO : Hid (opOk 9 i t m r) := ho
  have HD0 : Hid (doneS L 9 i t m r = finS L (partS L 9 i t m r)) := (by unfold doneS; rw [if_pos ho] : doneS L 9 i t m r = finS L (partS L 9 i t m r))
  have HP : Hid (partS L 9 i t m r = (3, L)) := (by unfold partS; simp [hpi] : partS L 9 i t m r = (3, L))
  have HAI : Hid (placeI (FL L) L.length i = -1) := placeI_none hpi
  clear hpi
  obtain ⟨W, hW⟩ : ∃ W, W = w.alloc (.cells #[.int .i64 9, .int .i64 i, .int .i64 t, .int .i64 m, .int .i64 r] 30) := ⟨_, rfl⟩
  have OW : Hid (OpBox W w.heap.size 9 i t m r) := by rw [hW]; exact OpBox.new w _ _ _ _ _ 30
  have BW : Hid (Below w.heap.size w W) := by rw [hW]; exact (Below.refl _ _).alloc (Nat.le_refl _) _
  obtain ⟨o0, o1, o2, o3, o4, oz⟩ := OW.out
  clear h hR ho
  go_enter Tryd.func13, Tryd.ntmps13
  go_upto_region 1 with fail
  rw [← hW]
  clear hW
  go_wp2_with fail
  refine (specOpOk_yes 9 i t m r _ HO.out).mono ?_
  rintro e w1 ⟨rfl, B1⟩
  have O1 : Hid (OpBox w1 w.heap.size 9 i t m r) := OW.out.below B1
  have BW1 : Hid (Below w.heap.size w w1) := BW.out.trans (B1.mono BW.out.size)
  clear B1 OW BW o0 o1 o2 o3 o4 oz
  go_wp2_with fail
  refine (specCopy2 a L.length c L _ rfl (HF.out.below BW1.out)).mono ?_
  rintro e w2 ⟨g, c2, rfl, A2, B2⟩
  have O2 : Hid (OpBox w2 w.heap.size 9 i t m r) := O1.out.below B2
  have A2' : Hid (AL w2 w.heap.size (.slice (some ⟨g, 0, none⟩) L.length c2) L) := A2.mono BW1.out.size
  have BW2 : Hid (Below w.heap.size w w2) := BW1.out.trans (B2.mono BW1.out.size)
  have hw2 : w.heap.size ≤ w2.heap.size := BW2.out.size
  clear A2 B2 O1 BW1
  obtain ⟨o0, o1, o2, o3, o4, oz⟩ := O2.out
  clear O2
  go_wp2_with fail
  refine (specAt a L.length c (FL L) i _ (HF.out.below BW2.out)).mono ?_
  rintro e wx ⟨rfl, hwx⟩
  have ew : w2 = wx := hwx.symm
  subst ew
  clear hwx
  rw [HAI.out]
  go_wp2_with fail
  refine (specAt a L.length c (FL L) t _ (HF.out.below BW2.out)).mono ?_
  rintro e wx ⟨rfl, hwx⟩
  have ew : w2 = wx := hwx.symm
  subst ew
  clear hwx
  generalize placeI (FL L) L.length t = zt
  have E : Hid (doneS L 9 i t m r = (3, L)) := (by rw [HD0.out, HP.out]; simp [finS] : doneS L 9 i t m r = (3, L))
  go_wp2_with fail
  refine (specCopy2 a L.length c L _ rfl (HF.out.below BW2.out)).mono ?_
  rintro e w9 ⟨g9, c9, rfl, A9, B9⟩
  have A9' : Hid (AL w9 w.heap.size (.slice (some ⟨g9, 0, none⟩) L.length c9) L) := A9.mono BW2.out.size
  have B9' : Hid (Below w.heap.size w w9) := BW2.out.trans (B9.mono BW2.out.size)
  clear A9 B9
  go_wp2
  go_ret2
  rw [E.out]
  exact ⟨_, rfl, A9'.out, B9'.out⟩
set_option maxRecDepth 8000 in
set_option maxHeartbeats 2000000 in
theorem specDone_to7 (a : Option Addr) (c : Nat) (L : List Acc) (i t m r : Int) (w : World) (h : Fo w a L.length (FL L)) (hR : Right (FL L) L.length) (ho : opOk 7 i t m r) (p : Nat) (hpi : place (FL L) L.length i = some p) (hpt : place (FL L) L.length t = none) :
    Calls Tryd.prog 13 #[.slice a L.length c, .agg #[.int .i64 7, .int .i64 i, .int .i64 t, .int .i64 m, .int .i64 r]] w fun e w' => Out (doneS L 7 i t m r) w.heap.size w e w' := by
  have HF : Hid (Fo w a L.length (FL L)) := h
  have HR : Hid (Right (FL L) L.length) := hR
  have hn := hR.1
  have HO : Hid (opOk 7 i t m r) := ho
  have HD0 : Hid (doneS L 7 i t m r = finS L (partS L 7 i t m r)) := (by unfold doneS; rw [if_pos ho] : doneS L 7 i t m r = finS L (partS L 7 i t m r))
  have HP : Hid (partS L 7 i t m r = (3, L)) := (by unfold partS; simp [hpi, hpt] : partS L 7 i t m r = (3, L))
  have HAI : Hid (placeI (FL L) L.length i = (p : Int)) := placeI_some hpi
  have HAT : Hid (placeI (FL L) L.length t = -1) := placeI_none hpt
  clear hpi hpt
  obtain ⟨W, hW⟩ : ∃ W, W = w.alloc (.cells #[.int .i64 7, .int .i64 i, .int .i64 t, .int .i64 m, .int .i64 r] 30) := ⟨_, rfl⟩
  have OW : Hid (OpBox W w.heap.size 7 i t m r) := by rw [hW]; exact OpBox.new w _ _ _ _ _ 30
  have BW : Hid (Below w.heap.size w W) := by rw [hW]; exact (Below.refl _ _).alloc (Nat.le_refl _) _
  obtain ⟨o0, o1, o2, o3, o4, oz⟩ := OW.out
  clear h hR ho
  go_enter Tryd.func13, Tryd.ntmps13
  go_upto_region 1 with fail
  rw [← hW]
  clear hW
  go_wp2_with fail
  refine (specOpOk_yes 7 i t m r _ HO.out).mono ?_
  rintro e w1 ⟨rfl, B1⟩
  have O1 : Hid (OpBox w1 w.heap.size 7 i t m r) := OW.out.below B1
  have BW1 : Hid (Below w.heap.size w w1) := BW.out.trans (B1.mono BW.out.size)
  clear B1 OW BW o0 o1 o2 o3 o4 oz
  go_wp2_with fail
  refine (specCopy2 a L.length c L _ rfl (HF.out.below BW1.out)).mono ?_
  rintro e w2 ⟨g, c2, rfl, A2, B2⟩
  have O2 : Hid (OpBox w2 w.heap.size 7 i t m r) := O1.out.below B2
  have A2' : Hid (AL w2 w.heap.size (.slice (some ⟨g, 0, none⟩) L.length c2) L) := A2.mono BW1.out.size
  have BW2 : Hid (Below w.heap.size w w2) := BW1.out.trans (B2.mono BW1.out.size)
  have hw2 : w.heap.size ≤ w2.heap.size := BW2.out.size
  clear A2 B2 O1 BW1
  obtain ⟨o0, o1, o2, o3, o4, oz⟩ := O2.out
  clear O2
  go_wp2_with fail
  refine (specAt a L.length c (FL L) i _ (HF.out.below BW2.out)).mono ?_
  rintro e wx ⟨rfl, hwx⟩
  have ew : w2 = wx := hwx.symm
  subst ew
  clear hwx
  rw [HAI.out]
  go_wp2_with fail
  refine (specAt a L.length c (FL L) t _ (HF.out.below BW2.out)).mono ?_
  rintro e wx ⟨rfl, hwx⟩
  have ew : w2 = wx := hwx.symm
  subst ew
  clear hwx
  rw [HAT.out]
  have E : Hid (doneS L 7 i t m r = (3, L)) := (by rw [HD0.out, HP.out]; simp [finS] : doneS L 7 i t m r = (3, L))
  go_wp2_with fail
  refine (specCopy2 a L.length c L _ rfl (HF.out.below BW2.out)).mono ?_
  rintro e w9 ⟨g9, c9, rfl, A9, B9⟩
  have A9' : Hid (AL w9 w.heap.size (.slice (some ⟨g9, 0, none⟩) L.length c9) L) := A9.mono BW2.out.size
  have B9' : Hid (Below w.heap.size w w9) := BW2.out.trans (B9.mono BW2.out.size)
  clear A9 B9
  go_wp2
  go_ret2
  rw [E.out]
  exact ⟨_, rfl, A9'.out, B9'.out⟩
set_option maxRecDepth 8000 in
set_option maxHeartbeats 2000000 in
theorem specDone_to9 (a : Option Addr) (c : Nat) (L : List Acc) (i t m r : Int) (w : World) (h : Fo w a L.length (FL L)) (hR : Right (FL L) L.length) (ho : opOk 9 i t m r) (p : Nat) (hpi : place (FL L) L.length i = some p) (hpt : place (FL L) L.length t = none) :
    Calls Tryd.prog 13 #[.slice a L.length c, .agg #[.int .i64 9, .int .i64 i, .int .i64 t, .int .i64 m, .int .i64 r]] w fun e w' => Out (doneS L 9 i t m r) w.heap.size w e w' := by
  have HF : Hid (Fo w a L.length (FL L)) := h
  have HR : Hid (Right (FL L) L.length) := hR
  have hn := hR.1
  have HO : Hid (opOk 9 i t m r) := ho
  have HD0 : Hid (doneS L 9 i t m r = finS L (partS L 9 i t m r)) := (by unfold doneS; rw [if_pos ho] : doneS L 9 i t m r = finS L (partS L 9 i t m r))
  have HP : Hid (partS L 9 i t m r = (3, L)) := (by unfold partS; simp [hpi, hpt] : partS L 9 i t m r = (3, L))
  have HAI : Hid (placeI (FL L) L.length i = (p : Int)) := placeI_some hpi
  have HAT : Hid (placeI (FL L) L.length t = -1) := placeI_none hpt
  clear hpi hpt
  obtain ⟨W, hW⟩ : ∃ W, W = w.alloc (.cells #[.int .i64 9, .int .i64 i, .int .i64 t, .int .i64 m, .int .i64 r] 30) := ⟨_, rfl⟩
  have OW : Hid (OpBox W w.heap.size 9 i t m r) := by rw [hW]; exact OpBox.new w _ _ _ _ _ 30
  have BW : Hid (Below w.heap.size w W) := by rw [hW]; exact (Below.refl _ _).alloc (Nat.le_refl _) _
  obtain ⟨o0, o1, o2, o3, o4, oz⟩ := OW.out
  clear h hR ho
  go_enter Tryd.func13, Tryd.ntmps13
  go_upto_region 1 with fail
  rw [← hW]
  clear hW
  go_wp2_with fail
  refine (specOpOk_yes 9 i t m r _ HO.out).mono ?_
  rintro e w1 ⟨rfl, B1⟩
  have O1 : Hid (OpBox w1 w.heap.size 9 i t m r) := OW.out.below B1
  have BW1 : Hid (Below w.heap.size w w1) := BW.out.trans (B1.mono BW.out.size)
  clear B1 OW BW o0 o1 o2 o3 o4 oz
  go_wp2_with fail
  refine (specCopy2 a L.length c L _ rfl (HF.out.below BW1.out)).mono ?_
  rintro e w2 ⟨g, c2, rfl, A2, B2⟩
  have O2 : Hid (OpBox w2 w.heap.size 9 i t m r) := O1.out.below B2
  have A2' : Hid (AL w2 w.heap.size (.slice (some ⟨g, 0, none⟩) L.length c2) L) := A2.mono BW1.out.size
  have BW2 : Hid (Below w.heap.size w w2) := BW1.out.trans (B2.mono BW1.out.size)
  have hw2 : w.heap.size ≤ w2.heap.size := BW2.out.size
  clear A2 B2 O1 BW1
  obtain ⟨o0, o1, o2, o3, o4, oz⟩ := O2.out
  clear O2
  go_wp2_with fail
  refine (specAt a L.length c (FL L) i _ (HF.out.below BW2.out)).mono ?_
  rintro e wx ⟨rfl, hwx⟩
  have ew : w2 = wx := hwx.symm
  subst ew
  clear hwx
  rw [HAI.out]
  go_wp2_with fail
  refine (specAt a L.length c (FL L) t _ (HF.out.below BW2.out)).mono ?_
  rintro e wx ⟨rfl, hwx⟩
  have ew : w2 = wx := hwx.symm
  subst ew
  clear hwx
  rw [HAT.out]
  have E : Hid (doneS L 9 i t m r = (3, L)) := (by rw [HD0.out, HP.out]; simp [finS] : doneS L 9 i t m r = (3, L))
  go_wp2_with fail
  refine (specCopy2 a L.length c L _ rfl (HF.out.below BW2.out)).mono ?_
  rintro e w9 ⟨g9, c9, rfl, A9, B9⟩
  have A9' : Hid (AL w9 w.heap.size (.slice (some ⟨g9, 0, none⟩) L.length c9) L) := A9.mono BW2.out.size
  have B9' : Hid (Below w.heap.size w w9) := BW2.out.trans (B9.mono BW2.out.size)
  clear A9 B9
  go_wp2
  go_ret2
  rw [E.out]
  exact ⟨_, rfl, A9'.out, B9'.out⟩
end Go.Proofs.YtppgbjjojikpdaaDoor
