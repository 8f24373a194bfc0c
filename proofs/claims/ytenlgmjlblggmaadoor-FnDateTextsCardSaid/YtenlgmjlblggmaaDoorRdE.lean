/- ReadDate of the specification, and the law FnExactReadDate. Conditions: the table of months as its text lays it. -/
import Derived.Test.YtenlgmjlblggmaaDoorRdD
namespace Go.Proofs.YtenlgmjlblggmaaDoor
open Go.RowKit

theorem text_of {s : ByteArray} (h10 : s.size = 10) : ∃ x : ByteArray, (∀ w, Calls Tryd.prog 6 #[.agg #[.int .i64 (valI (s.data.toList.take 4)), .int .i64 (valI ((s.data.toList.drop 5).take 2)), .int .i64 (valI (s.data.toList.drop 8))]] w fun e w' => e = .returned (.string x) ∧ Below w.heap.size w w') ∧ (x = s ↔ G10 s) := by
  have hl10 : s.data.toList.length = 10 := by simp; exact h10
  by_cases hb : dateB (valI (s.data.toList.take 4)) (valI ((s.data.toList.drop 5).take 2)) (valI (s.data.toList.drop 8)) = true
  · have hb' := dateB_iff.1 hb
    have hdm := dim_le (valI (s.data.toList.take 4)) (valI ((s.data.toList.drop 5).take 2))
    obtain ⟨Y, hY⟩ := Int.eq_ofNat_of_zero_le (show 0 ≤ valI (s.data.toList.take 4) by omega)
    obtain ⟨M, hM⟩ := Int.eq_ofNat_of_zero_le (show 0 ≤ valI ((s.data.toList.drop 5).take 2) by omega)
    obtain ⟨D, hD⟩ := Int.eq_ofNat_of_zero_le (show 0 ≤ valI (s.data.toList.drop 8) by omega)
    have hb2 := hb
    rw [hY, hM, hD] at hb2
    have hg := good_text hl10 hY.symm hM.symm hD.symm hb2
    refine ⟨dateT Y M D, fun w => ?_, ?_⟩
    · rw [hY, hM, hD]
      exact specText_yes Y M D w hb2 (by omega) (by omega) (by omega)
    · rw [← hg]
      exact ⟨fun h => ⟨h10, h⟩, fun h => h.2⟩
  · have hb' : dateB (valI (s.data.toList.take 4)) (valI ((s.data.toList.drop 5).take 2)) (valI (s.data.toList.drop 8)) = false := by simpa using hb
    refine ⟨⟨#[]⟩, fun w => specText_no _ _ _ w hb', ?_⟩
    constructor
    · intro e
      rw [← e] at h10
      cases h10
    · intro h
      exact absurd h.2.2.2.2.2.2 hb

set_option maxHeartbeats 4000000 in
theorem specRead (s : ByteArray) (w : World) (_hs : s.size ≤ 1048576) : Calls Tryd.prog 9 #[.string s] w fun e w' => ReadIs s w e w' := by
  by_cases h10 : s.size = 10
  · have hl10 : s.data.toList.length = 10 := by simp; exact h10
    have q10 : (((s.size : Nat) : Int) != 10) = false := by rw [h10]; rfl
    obtain ⟨x, HX, hxg⟩ := text_of h10
    have HXX : Hid (∀ w, Calls Tryd.prog 6 #[.agg #[.int .i64 (valI (s.data.toList.take 4)), .int .i64 (valI ((s.data.toList.drop 5).take 2)), .int .i64 (valI (s.data.toList.drop 8))]] w fun e w' => e = .returned (.string x) ∧ Below w.heap.size w w') := HX
    have HXG : Hid (x = s ↔ G10 s) := hxg
    clear HX hxg
    have x1 : (s.extract 0 4).data.toList = s.data.toList.take 4 := by rw [extLD]; rfl
    have x2 : (s.extract 5 7).data.toList = (s.data.toList.drop 5).take 2 := extLD s 5 7
    have x3 : (s.extract 8 10).data.toList = s.data.toList.drop 8 := by rw [extLD]; exact List.take_of_length_le (by rw [List.length_drop]; omega)
    obtain ⟨A1, hA1⟩ : ∃ A, s.extract 0 4 = A := ⟨_, rfl⟩
    obtain ⟨A2, hA2⟩ : ∃ A, s.extract 5 7 = A := ⟨_, rfl⟩
    obtain ⟨A3, hA3⟩ : ∃ A, s.extract 8 10 = A := ⟨_, rfl⟩
    have z1 : A1.size ≤ 4 := by rw [← hA1, ByteArray.size_extract]; omega
    have z2 : A2.size ≤ 4 := by rw [← hA2, ByteArray.size_extract]; omega
    have z3 : A3.size ≤ 4 := by rw [← hA3, ByteArray.size_extract]; omega
    rw [hA1] at x1
    rw [hA2] at x2
    rw [hA3] at x3
    have NN : Hid (∀ x : ByteArray, x.size ≤ 4 → ∀ w, Calls Tryd.prog 19 #[.string x] w fun e w' => e = .returned (.int .i64 (valI x.data.toList)) ∧ w' = w) := fun x hx w => specNum x w hx
    have y1 : valI A1.data.toList = valI (s.data.toList.take 4) := by rw [x1]
    have y2 : valI A2.data.toList = valI ((s.data.toList.drop 5).take 2) := by rw [x2]
    have y3 : valI A3.data.toList = valI (s.data.toList.drop 8) := by rw [x3]
    have Z : Hid (A1.size ≤ 4 ∧ A2.size ≤ 4 ∧ A3.size ≤ 4) := ⟨z1, z2, z3⟩
    have HR : Hid (∀ W' : World, Below w.heap.size w W' → G10 s → ReadIs s w (.returned (.tuple #[.agg #[.int .i64 (valI (s.data.toList.take 4)), .int .i64 (valI ((s.data.toList.drop 5).take 2)), .int .i64 (valI (s.data.toList.drop 8))], .bool true])) W') := fun W' hb hg => ⟨hb, Or.inl ⟨hg, rfl⟩⟩
    clear x1 x2 x3 z1 z2 z3
    generalize valI (s.data.toList.take 4) = r1 at *
    generalize valI ((s.data.toList.drop 5).take 2) = r2 at *
    generalize valI (s.data.toList.drop 8) = r3 at *
    go_enter Tryd.func9, Tryd.ntmps9
    go_wp2
    go_region_with (first | (go_at_call 19; refine (NN.out _ (by first | exact Z.out.1 | exact Z.out.2.1 | exact Z.out.2.2) _).mono ?_; rintro e w' ⟨rfl, rfl⟩))
    all_goals go_wp2_with fail
    all_goals refine (HXX.out _).mono ?_
    all_goals rintro e w1 ⟨rfl, B1⟩
    all_goals obtain ⟨BB, k0, k1, k2, kf, l0, l1, l2⟩ := twoBoxes B1
    all_goals have BX : Hid (Below w.heap.size w w1) := BB
    all_goals clear B1 BB
    all_goals by_cases hx : x = s
    all_goals first
      | (have HG : Hid (G10 s) := HXG.out.1 hx
         subst hx
         go_wp2
         refine bodyPost_ret (v := .tuple #[.agg #[.int .i64 r1, .int .i64 r2, .int .i64 r3], .bool true]) (by simp [results, Tryd.results9, go_sem, k0, k1, k2]) rfl ?_
         exact HR.out _ (((BX.out.setCell (p := ⟨w.heap.size, 0, none⟩) (Nat.le_refl _) _).setCell (p := ⟨w.heap.size, 1, none⟩) (Nat.le_refl _) _).setCell (p := ⟨w.heap.size, 2, none⟩) (Nat.le_refl _) _) HG.out)
      | (have HG : Hid (¬ G10 s) := fun h => hx (HXG.out.2 h)
         have hxl : x.toList ≠ s.toList := fun e => hx (ext_ofD (by rw [← ByteArray.toList_eq, ← ByteArray.toList_eq]; exact e))
         have hx1 : (x.toList == s.toList) = false := beq_eq_false_iff_ne.2 hxl
         have hx2 : (x.toList != s.toList) = true := bne_iff_ne.2 hxl
         clear hxl
         go_wp2
         refine bodyPost_ret (v := .tuple #[.agg #[.int .i64 0, .int .i64 0, .int .i64 0], .bool false]) (by simp [results, Tryd.results9, go_sem, k0, k1, k2]) rfl ?_
         exact read_no HG.out (((BX.out.setCell (p := ⟨w.heap.size, 0, none⟩) (Nat.le_refl _) _).setCell (p := ⟨w.heap.size, 1, none⟩) (Nat.le_refl _) _).setCell (p := ⟨w.heap.size, 2, none⟩) (Nat.le_refl _) _))
      | trace_state
  · have q10 : (((s.size : Nat) : Int) != 10) = true := by simp; omega
    have HN : Hid (¬ G10 s) := fun hg => h10 hg.1
    go_enter Tryd.func9, Tryd.ntmps9
    go_wp2
    refine bodyPost_ret (v := .tuple #[.agg #[.int .i64 0, .int .i64 0, .int .i64 0], .bool false]) (by simp [results, Tryd.results9, go_sem]) rfl ?_
    exact read_no HN.out ((Below.refl _ _).alloc (Nat.le_refl _) _)

theorem readIs {s : ByteArray} : ∃ r1 r2 r3 b, ∀ (w : World) (e : Ending) (w' : World), ReadIs s w e w' → e = .returned (.tuple #[.agg #[.int .i64 r1, .int .i64 r2, .int .i64 r3], .bool b]) ∧ Below w.heap.size w w' := by
  by_cases h : G10 s
  · refine ⟨valI (s.data.toList.take 4), valI ((s.data.toList.drop 5).take 2), valI (s.data.toList.drop 8), true, fun w e w' hh => ⟨?_, hh.1⟩⟩
    rcases hh.2 with ⟨_, he⟩ | ⟨hn, _⟩
    · exact he
    · exact absurd h hn
  · refine ⟨0, 0, 0, false, fun w e w' hh => ⟨?_, hh.1⟩⟩
    rcases hh.2 with ⟨hy, _⟩ | ⟨_, he⟩
    · exact absurd hy h
    · exact he
set_option maxHeartbeats 1000000 in
theorem eqDate_same (y m d : Int) (w : World) : Calls Tryd.prog 11 #[.agg #[.int .i64 y, .int .i64 m, .int .i64 d], .agg #[.int .i64 y, .int .i64 m, .int .i64 d]] w fun e w' => e = .returned (.bool true) ∧ Below w.heap.size w w' := by
  have hy : (y != y) = false := by simp
  have hm : (m != m) = false := by simp
  have hd : (d != d) = false := by simp
  go_enter Tryd.func11, Tryd.ntmps11
  go_wp2
  go_ret
  exact ⟨rfl, ((Below.refl _ w).alloc (Nat.le_refl _) _).alloc (by simp) _⟩
set_option maxHeartbeats 2000000 in
theorem lawRead (s : ByteArray) (hm : s.size ≤ maxLen) (w : World) (ht : Tab w) :
    Calls Tryd.prog 4 #[.string s] w fun e w' => e = .returned (.bool true) ∧ Below w.heap.size w w' := by
  by_cases h1 : 1048576 < s.size
  · unfold maxLen at hm
    go_enter Tryd.func4, Tryd.ntmps4
    go_wp2
    go_ret
    exact ⟨rfl, Below.refl _ _⟩
  have hm' : s.size ≤ 1048576 := by omega
  have HT : Hid (Tab w) := ht
  obtain ⟨r1, r2, r3, b, hr⟩ := readIs (s := s)
  have SP : Hid (∀ w, Calls Tryd.prog 9 #[.string s] w fun e w' => e = .returned (.tuple #[.agg #[.int .i64 r1, .int .i64 r2, .int .i64 r3], .bool b]) ∧ Below w.heap.size w w') := fun w => (specRead s w hm').mono (hr w)
  have IM : Hid (∀ w, Tab w → Calls Tryd.prog 10 #[.string s] w fun e w' => e = .returned (.tuple #[.agg #[.int .i64 r1, .int .i64 r2, .int .i64 r3], .bool b]) ∧ Below w.heap.size w w') := fun w ht => (implRead s w hm' ht).mono (hr w)
  have hbb : (b != b) = false := by simp
  clear hm hr ht
  go_enter Tryd.func4, Tryd.ntmps4
  go_wp2_with fail
  refine (SP.out _).mono ?_
  rintro e w1 ⟨rfl, B1⟩
  obtain ⟨W1, hW1⟩ : ∃ W1, W1 = w1.alloc (.cells #[.int .i64 r1, .int .i64 r2, .int .i64 r3] 25) := ⟨_, rfl⟩
  have BB1 : Hid (Below w.heap.size w W1) := by rw [hW1]; exact B1.alloc B1.size _
  have k0 : W1.cell? ⟨w1.heap.size, 0, none⟩ = some (.int .i64 r1) := by rw [hW1]; simp [go_sem]
  have k1 : W1.cell? ⟨w1.heap.size, 1, none⟩ = some (.int .i64 r2) := by rw [hW1]; simp [go_sem]
  have k2 : W1.cell? ⟨w1.heap.size, 2, none⟩ = some (.int .i64 r3) := by rw [hW1]; simp [go_sem]
  have z1 : w1.heap.size < W1.heap.size := by rw [hW1]; simp
  clear B1
  go_upto_region 4 with fail
  rw [← hW1]
  clear hW1
  go_wp2_with fail
  refine (IM.out _ (HT.out.below BB1.out HT.out.1)).mono ?_
  rintro e w2 ⟨rfl, B2⟩
  have c0 : w2.cell? ⟨w1.heap.size, 0, none⟩ = some (.int .i64 r1) := by rw [B2.cell (p := ⟨w1.heap.size, 0, none⟩) z1]; exact k0
  have c1 : w2.cell? ⟨w1.heap.size, 1, none⟩ = some (.int .i64 r2) := by rw [B2.cell (p := ⟨w1.heap.size, 1, none⟩) z1]; exact k1
  have c2 : w2.cell? ⟨w1.heap.size, 2, none⟩ = some (.int .i64 r3) := by rw [B2.cell (p := ⟨w1.heap.size, 2, none⟩) z1]; exact k2
  have BB2 : Hid (Below w.heap.size w w2) := BB1.out.trans (B2.mono BB1.out.size)
  have z2 : w1.heap.size < w2.heap.size := Nat.lt_of_lt_of_le z1 B2.size
  have d0 : ∀ o : Obj, (w2.alloc o).cell? ⟨w1.heap.size, 0, none⟩ = some (.int .i64 r1) := fun o => by rw [World.cell?_alloc_lt _ _ _ (by exact z2)]; exact c0
  have d1 : ∀ o : Obj, (w2.alloc o).cell? ⟨w1.heap.size, 1, none⟩ = some (.int .i64 r2) := fun o => by rw [World.cell?_alloc_lt _ _ _ (by exact z2)]; exact c1
  have d2 : ∀ o : Obj, (w2.alloc o).cell? ⟨w1.heap.size, 2, none⟩ = some (.int .i64 r3) := fun o => by rw [World.cell?_alloc_lt _ _ _ (by exact z2)]; exact c2
  clear B2 BB1 k0 k1 k2 z1 c0 c1 c2
  go_wp2_with fail
  refine (eqDate_same r1 r2 r3 _).mono ?_
  rintro e w3 ⟨rfl, B3⟩
  have BB3 : Hid (Below w.heap.size w w3) := (BB2.out.alloc BB2.out.size _).trans (B3.mono (by have := BB2.out.size; simp; omega))
  clear B3
  go_wp2
  go_ret
  exact ⟨rfl, BB3.out⟩
end Go.Proofs.YtenlgmjlblggmaaDoor
