/- ReadBOp of the program, and the law FnExactReadBOp. Conditions: texts of at most 1048576 bytes; the package's errors are there, the library's powers of ten as its text lays them. -/
import Derived.Test.YtedhlmipcfdldaaDoorSrw
namespace Go.Proofs.YtedhlmipcfdldaaDoor
open Go.RowKit
set_option maxRecDepth 8000

set_option maxHeartbeats 4000000 in
theorem implReadW (s : ByteArray) (hs : s.size ≤ 1048576) (w : World) (g : Glo w) : Calls Tryd.prog 5 #[.string s] w fun e w' => WOut w s e w' := by
  obtain ⟨h, hh⟩ : ∃ h, w.heap.size = h := ⟨_, rfl⟩
  have HH : Hid (w.heap.size = h) := hh
  obtain ⟨W0, hW0, X0⟩ : ∃ W0, W0 = w.alloc (.cells (bl0 0).toArray 27) ∧ Hid (Vals W0 h (bl0 0) ∧ Below h w W0 ∧ Glo W0) := by
    have bb : Below w.heap.size w (w.alloc (.cells (bl0 0).toArray 27)) := (Below.refl _ _).alloc (Nat.le_refl _) _
    exact ⟨_, rfl, by rw [← hh]; exact Vals.new _ _ _, by rw [← hh]; exact bb, g.below bb⟩
  have HW0 : Hid (W0 = _) := hW0
  clear hW0 g
  go_enter Tryd.func5, Tryd.ntmps5
  go_wp2_with fail
  rw [← HW0.out]
  clear HW0 hh
  refine (wholeL s hs W0 X0.out.2.2).mono ?_
  rintro e w1 ⟨B1, hor⟩
  obtain ⟨K, x, o, n, b, rfl, HF⟩ : ∃ K x o n b, e = .returned (.tuple #[.agg (bl K x o n).toArray, .bool b]) ∧ Hid (∀ W, Below h w W → WOut w s e W) := by
    rcases hor with ⟨K, x, o, n, hr, rfl⟩ | ⟨hr, rfl⟩
    · exact ⟨K, x, o, n, true, rfl, fun W hb => ⟨by rw [HH.out]; exact hb, Or.inl ⟨K, x, o, n, hr, rfl⟩⟩⟩
    · exact ⟨0, ⟨0, 0, 0, 0, 0⟩, O0, 0, false, rfl, fun W hb => ⟨by rw [HH.out]; exact hb, Or.inr ⟨hr, rfl⟩⟩⟩
  have X1 : Hid (Vals w1 h (bl0 0) ∧ Below h w w1) := ⟨X0.out.1.kept B1 X0.out.1.2.2, X0.out.2.1.trans (B1.mono (by have := X0.out.1.2.2; omega))⟩
  clear B1 hor X0
  have r0 := X1.out.1.1 0 _ rfl
  have r1 := X1.out.1.1 1 _ rfl
  have r2 := X1.out.1.1 2 _ rfl
  have r3 := X1.out.1.1 3 _ rfl
  have r4 := X1.out.1.1 4 _ rfl
  have r5 := X1.out.1.1 5 _ rfl
  have r6 := X1.out.1.1 6 _ rfl
  have r7 := X1.out.1.1 7 _ rfl
  have r8 := X1.out.1.1 8 _ rfl
  have r9 := X1.out.1.1 9 _ rfl
  have r10 := X1.out.1.1 10 _ rfl
  have r11 := X1.out.1.1 11 _ rfl
  have r12 := X1.out.1.1 12 _ rfl
  have r13 := X1.out.1.1 13 _ rfl
  have fz := X1.out.1.2.1
  go_wp2
  refine bodyPost_ret (v := .tuple #[.agg (bl K x o n).toArray, .bool b]) (by simp [results, Tryd.results5, go_sem, r0, r1, r2, r3, r4, r5, r6, r7, r8, r9, r10, r11, r12, r13]) rfl ?_
  exact HF.out _ ((((((((((((((X1.out.2.setCell (p := ⟨h, 0, none⟩) (Nat.le_refl _) _).setCell (p := ⟨h, 1, none⟩) (Nat.le_refl _) _).setCell (p := ⟨h, 2, none⟩) (Nat.le_refl _) _).setCell (p := ⟨h, 3, none⟩) (Nat.le_refl _) _).setCell (p := ⟨h, 4, none⟩) (Nat.le_refl _) _).setCell (p := ⟨h, 5, none⟩) (Nat.le_refl _) _).setCell (p := ⟨h, 6, none⟩) (Nat.le_refl _) _).setCell (p := ⟨h, 7, none⟩) (Nat.le_refl _) _).setCell (p := ⟨h, 8, none⟩) (Nat.le_refl _) _).setCell (p := ⟨h, 9, none⟩) (Nat.le_refl _) _).setCell (p := ⟨h, 10, none⟩) (Nat.le_refl _) _).setCell (p := ⟨h, 11, none⟩) (Nat.le_refl _) _).setCell (p := ⟨h, 12, none⟩) (Nat.le_refl _) _).setCell (p := ⟨h, 13, none⟩) (Nat.le_refl _) _)
theorem eqOp_same (a b c d e : Int) (w : World) : Calls Tryd.prog 13 #[.agg #[.int .i64 a, .int .i64 b, .int .i64 c, .int .i64 d, .int .i64 e], .agg #[.int .i64 a, .int .i64 b, .int .i64 c, .int .i64 d, .int .i64 e]] w fun e w' => e = .returned (.bool true) ∧ Below w.heap.size w w' := by
  go_enter Tryd.func13, Tryd.ntmps13
  go_wp2
  go_ret
  exact ⟨rfl, ((Below.refl _ _).alloc (Nat.le_refl _) _).alloc (by simp) _⟩
theorem eqOrd_same (a b c d e f g : Int) (w : World) : Calls Tryd.prog 14 #[.agg #[.int .i64 a, .int .i64 b, .int .i64 c, .int .i64 d, .int .i64 e, .int .i64 f, .int .i64 g], .agg #[.int .i64 a, .int .i64 b, .int .i64 c, .int .i64 d, .int .i64 e, .int .i64 f, .int .i64 g]] w fun e w' => e = .returned (.bool true) ∧ Below w.heap.size w w' := by
  go_enter Tryd.func14, Tryd.ntmps14
  go_wp2
  go_ret
  exact ⟨rfl, ((Below.refl _ _).alloc (Nat.le_refl _) _).alloc (by simp) _⟩
set_option maxHeartbeats 4000000 in
theorem eqBOp_same (K n : Int) (x : OpF) (o : Ord) (w : World) : Calls Tryd.prog 6 #[.agg (bl K x o n).toArray, .agg (bl K x o n).toArray] w fun e w' => e = .returned (.bool true) ∧ Below w.heap.size w w' := by
  obtain ⟨h, hh⟩ : ∃ h, w.heap.size = h := ⟨_, rfl⟩
  obtain ⟨W0, hW0, X0⟩ : ∃ W0, W0 = (w.alloc (.cells (bl K x o n).toArray 27)).alloc (.cells (bl K x o n).toArray 27) ∧ Hid (Vals W0 h (bl K x o n) ∧ Vals W0 (h + 1) (bl K x o n) ∧ Below h w W0) := by
    have b1 : ∀ (V : World) (o : Obj), Below V.heap.size V (V.alloc o) := fun V o => (Below.refl _ _).alloc (Nat.le_refl _) _
    have v0 := (Vals.new w (bl K x o n) 27).kept (b1 _ (.cells (bl K x o n).toArray 27)) (by simp)
    have v1 := Vals.new (w.alloc (.cells (bl K x o n).toArray 27)) (bl K x o n) 27
    simp only [World.size_alloc] at v1
    rw [hh] at v0 v1
    exact ⟨_, rfl, v0, v1, by rw [← hh]; exact ((Below.refl _ _).alloc (Nat.le_refl _) _).alloc (by simp) _⟩
  have HW0 : Hid (W0 = _) := hW0
  have HH : Hid (w.heap.size = h) := hh
  clear hW0
  go_enter Tryd.func6, Tryd.ntmps6
  go_upto_region 1 with fail
  rw [← HW0.out]
  try rw [hh]
  clear HW0 hh
  have a0 := X0.out.1.1 0 _ rfl
  have a1 := X0.out.1.1 1 _ rfl
  have a2 := X0.out.1.1 2 _ rfl
  have a3 := X0.out.1.1 3 _ rfl
  have a4 := X0.out.1.1 4 _ rfl
  have a5 := X0.out.1.1 5 _ rfl
  have a6 := X0.out.1.1 6 _ rfl
  have a7 := X0.out.1.1 7 _ rfl
  have a8 := X0.out.1.1 8 _ rfl
  have a9 := X0.out.1.1 9 _ rfl
  have a10 := X0.out.1.1 10 _ rfl
  have a11 := X0.out.1.1 11 _ rfl
  have a12 := X0.out.1.1 12 _ rfl
  have a13 := X0.out.1.1 13 _ rfl
  have b0 := X0.out.2.1.1 0 _ rfl
  have b1 := X0.out.2.1.1 1 _ rfl
  have b2 := X0.out.2.1.1 2 _ rfl
  have b3 := X0.out.2.1.1 3 _ rfl
  have b4 := X0.out.2.1.1 4 _ rfl
  have b5 := X0.out.2.1.1 5 _ rfl
  have b6 := X0.out.2.1.1 6 _ rfl
  have b7 := X0.out.2.1.1 7 _ rfl
  have b8 := X0.out.2.1.1 8 _ rfl
  have b9 := X0.out.2.1.1 9 _ rfl
  have b10 := X0.out.2.1.1 10 _ rfl
  have b11 := X0.out.2.1.1 11 _ rfl
  have b12 := X0.out.2.1.1 12 _ rfl
  have b13 := X0.out.2.1.1 13 _ rfl
  go_wp2_with fail
  refine (eqOp_same _ _ _ _ _ _).mono ?_
  rintro e w1 ⟨rfl, B1⟩
  have X1 : Hid (Vals w1 h (bl K x o n) ∧ Vals w1 (h + 1) (bl K x o n) ∧ Below h w w1) := ⟨X0.out.1.kept B1 X0.out.1.2.2, X0.out.2.1.kept B1 X0.out.2.1.2.2, X0.out.2.2.trans (B1.mono (by have := X0.out.1.2.2; omega))⟩
  clear B1 X0 a0 b0 a1 b1 a2 b2 a3 b3 a4 b4 a5 b5 a6 b6 a7 b7 a8 b8 a9 b9 a10 b10 a11 b11 a12 b12 a13 b13
  have a0 := X1.out.1.1 0 _ rfl
  have a1 := X1.out.1.1 1 _ rfl
  have a2 := X1.out.1.1 2 _ rfl
  have a3 := X1.out.1.1 3 _ rfl
  have a4 := X1.out.1.1 4 _ rfl
  have a5 := X1.out.1.1 5 _ rfl
  have a6 := X1.out.1.1 6 _ rfl
  have a7 := X1.out.1.1 7 _ rfl
  have a8 := X1.out.1.1 8 _ rfl
  have a9 := X1.out.1.1 9 _ rfl
  have a10 := X1.out.1.1 10 _ rfl
  have a11 := X1.out.1.1 11 _ rfl
  have a12 := X1.out.1.1 12 _ rfl
  have a13 := X1.out.1.1 13 _ rfl
  have b0 := X1.out.2.1.1 0 _ rfl
  have b1 := X1.out.2.1.1 1 _ rfl
  have b2 := X1.out.2.1.1 2 _ rfl
  have b3 := X1.out.2.1.1 3 _ rfl
  have b4 := X1.out.2.1.1 4 _ rfl
  have b5 := X1.out.2.1.1 5 _ rfl
  have b6 := X1.out.2.1.1 6 _ rfl
  have b7 := X1.out.2.1.1 7 _ rfl
  have b8 := X1.out.2.1.1 8 _ rfl
  have b9 := X1.out.2.1.1 9 _ rfl
  have b10 := X1.out.2.1.1 10 _ rfl
  have b11 := X1.out.2.1.1 11 _ rfl
  have b12 := X1.out.2.1.1 12 _ rfl
  have b13 := X1.out.2.1.1 13 _ rfl
  go_wp2_with fail
  refine (eqOrd_same _ _ _ _ _ _ _ _).mono ?_
  rintro e w2 ⟨rfl, B2⟩
  have X2 : Hid (Vals w2 h (bl K x o n) ∧ Vals w2 (h + 1) (bl K x o n) ∧ Below h w w2) := ⟨X1.out.1.kept B2 X1.out.1.2.2, X1.out.2.1.kept B2 X1.out.2.1.2.2, X1.out.2.2.trans (B2.mono (by have := X1.out.1.2.2; omega))⟩
  clear B2 X1 a0 b0 a1 b1 a2 b2 a3 b3 a4 b4 a5 b5 a6 b6 a7 b7 a8 b8 a9 b9 a10 b10 a11 b11 a12 b12 a13 b13
  have a13 := X2.out.1.1 13 _ rfl
  have b13 := X2.out.2.1.1 13 _ rfl
  go_wp2
  go_ret
  exact ⟨rfl, by rw [HH.out]; exact X2.out.2.2⟩
/-- Both sides have one answer. -/
theorem wout_one (s : ByteArray) : ∃ K x o n b, ∀ w e w', WOut w s e w' → e = .returned (.tuple #[.agg (bl K x o n).toArray, .bool b]) ∧ Below w.heap.size w w' := by
  by_cases h : ∃ K x o n, RightAt s.data.toList K x o n []
  · obtain ⟨K, x, o, n, hr⟩ := h
    refine ⟨K, x, o, n, true, fun w e w' hw => ⟨?_, hw.1⟩⟩
    rcases hw.2 with ⟨K', x', o', n', hr', rfl⟩ | ⟨hn, _⟩
    · obtain ⟨i, hi, e1, e2, e3⟩ := right_fill hr.1
      have hww : (nameK i).data.toList = wordOf s.data.toList := by rw [← e1, hr.2.1]
      have a := the_right (wd := nameK i) hww hi rfl hr
      have b := the_right (wd := nameK i) hww hi rfl hr'
      have c := congrArg Prod.fst (Option.some.inj (a.1.symm.trans b.1))
      have d : bl K x o n = bl K' x' o' n' := a.2.symm.trans ((congrArg (setAll (kindV i) (offK i)) c).trans b.2)
      rw [d]
    · exact absurd hr (hn K x o n)
  · refine ⟨0, X0, O0, 0, false, fun w e w' hw => ⟨?_, hw.1⟩⟩
    rcases hw.2 with ⟨K', x', o', n', hr', _⟩ | ⟨_, rfl⟩
    · exact absurd ⟨K', x', o', n', hr'⟩ h
    · rfl
set_option maxHeartbeats 4000000 in
theorem lawReadBOp (s : ByteArray) (hm : s.size ≤ maxLen) (w : World) (g : Glo w) : Calls Tryd.prog 3 #[.string s] w fun e w' => e = .returned (.bool true) ∧ Below w.heap.size w w' := by
  by_cases hs : s.size ≤ 1048576
  rotate_left
  · have hs' : 1048576 < s.size := by omega
    unfold maxLen at hm
    go_enter Tryd.func3, Tryd.ntmps3
    go_wp2
    go_ret
    exact ⟨rfl, Below.refl _ _⟩
  obtain ⟨K, x, o, n, b, hone⟩ := wout_one s
  have CS : Hid (∀ w, Calls Tryd.prog 4 #[.string s] w fun e w' => e = .returned (.tuple #[.agg (bl K x o n).toArray, .bool b]) ∧ Below w.heap.size w w') := fun w => (specReadW s hs w).mono fun e w' h => hone w e w' h
  have CI : Hid (∀ w, Glo w → Calls Tryd.prog 5 #[.string s] w fun e w' => e = .returned (.tuple #[.agg (bl K x o n).toArray, .bool b]) ∧ Below w.heap.size w w') := fun w g => (implReadW s hs w g).mono fun e w' h => hone w e w' h
  have HG : Hid (Glo w) := g
  obtain ⟨h, hh⟩ : ∃ h, w.heap.size = h := ⟨_, rfl⟩
  have HH : Hid (w.heap.size = h) := hh
  have bb : (b != b) = false := by simp
  clear hone g hm
  go_enter Tryd.func3, Tryd.ntmps3
  go_wp2_with fail
  refine (CS.out _).mono ?_
  rintro e w1 ⟨rfl, B1⟩
  obtain ⟨V1, hV1, X1⟩ : ∃ V, V = w1.alloc (.cells (bl K x o n).toArray 27) ∧ Hid (Vals V w1.heap.size (bl K x o n) ∧ Below w.heap.size w V) := ⟨_, rfl, Vals.new _ _ _, B1.alloc B1.size _⟩
  have HV1 : Hid (V1 = _) := hV1
  clear hV1 B1
  go_wp2_with fail
  rw [← HV1.out]
  clear HV1
  refine (CI.out _ (HG.out.below X1.out.2)).mono ?_
  rintro e w2 ⟨rfl, B2⟩
  obtain ⟨r1, hr1⟩ : ∃ r, w1.heap.size = r := ⟨_, rfl⟩
  rw [hr1] at X1
  obtain ⟨V2, hV2, X2⟩ : ∃ V, V = w2.alloc (.cells (bl K x o n).toArray 27) ∧ Hid (Vals V w2.heap.size (bl K x o n) ∧ Vals V r1 (bl K x o n) ∧ Below w.heap.size w V) := ⟨_, rfl, Vals.new _ _ _, (X1.out.1.kept B2 X1.out.1.2.2).kept ((Below.refl _ _).alloc (Nat.le_refl _) _) (Nat.lt_of_lt_of_le X1.out.1.2.2 B2.size), (X1.out.2.trans (B2.mono X1.out.2.size)).alloc (X1.out.2.trans (B2.mono X1.out.2.size)).size _⟩
  have HV2 : Hid (V2 = _) := hV2
  clear hV2 B2
  go_upto_region 5 with fail
  rw [← HV2.out]
  try rw [hr1]
  obtain ⟨r2, hr2⟩ : ∃ r, w2.heap.size = r := ⟨_, rfl⟩
  rw [hr2] at X2 ⊢
  clear HV2 hr1 hr2 X1
  have a0 := X2.out.1.1 0 _ rfl
  have a1 := X2.out.1.1 1 _ rfl
  have a2 := X2.out.1.1 2 _ rfl
  have a3 := X2.out.1.1 3 _ rfl
  have a4 := X2.out.1.1 4 _ rfl
  have a5 := X2.out.1.1 5 _ rfl
  have a6 := X2.out.1.1 6 _ rfl
  have a7 := X2.out.1.1 7 _ rfl
  have a8 := X2.out.1.1 8 _ rfl
  have a9 := X2.out.1.1 9 _ rfl
  have a10 := X2.out.1.1 10 _ rfl
  have a11 := X2.out.1.1 11 _ rfl
  have a12 := X2.out.1.1 12 _ rfl
  have a13 := X2.out.1.1 13 _ rfl
  have b0 := X2.out.2.1.1 0 _ rfl
  have b1 := X2.out.2.1.1 1 _ rfl
  have b2 := X2.out.2.1.1 2 _ rfl
  have b3 := X2.out.2.1.1 3 _ rfl
  have b4 := X2.out.2.1.1 4 _ rfl
  have b5 := X2.out.2.1.1 5 _ rfl
  have b6 := X2.out.2.1.1 6 _ rfl
  have b7 := X2.out.2.1.1 7 _ rfl
  have b8 := X2.out.2.1.1 8 _ rfl
  have b9 := X2.out.2.1.1 9 _ rfl
  have b10 := X2.out.2.1.1 10 _ rfl
  have b11 := X2.out.2.1.1 11 _ rfl
  have b12 := X2.out.2.1.1 12 _ rfl
  have b13 := X2.out.2.1.1 13 _ rfl
  go_wp2_with fail
  refine (eqBOp_same K n x o V2).mono ?_
  rintro e w3 ⟨rfl, B3⟩
  have FI : Hid (Below w.heap.size w w3) := X2.out.2.2.trans (B3.mono X2.out.2.2.size)
  clear B3 X2 a0 b0 a1 b1 a2 b2 a3 b3 a4 b4 a5 b5 a6 b6 a7 b7 a8 b8 a9 b9 a10 b10 a11 b11 a12 b12 a13 b13
  go_wp2
  go_ret
  exact ⟨rfl, FI.out⟩
end Go.Proofs.YtedhlmipcfdldaaDoor
