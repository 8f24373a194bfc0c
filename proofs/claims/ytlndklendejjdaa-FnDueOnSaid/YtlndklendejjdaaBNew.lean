/- BankNew, of the program and of the specification, and the law FnExactBankNew, which returns true, whatever the day. No conditions. -/
import Derived.Test.YtlndklendejjdaaBanks
namespace Go.Proofs.Ytlndklendejjdaa
open Go.RowKit

theorem specNew_yes (d : Int) (w : World) (h : 0 ≤ d ∧ d ≤ 3000000) :
    Calls Try.prog 34 #[.int .i64 d] w fun e w' => e = .returned (.tuple #[.agg #[.int .i64 d, .slice none 0 0, .slice none 0 0, .int .i64 0, .int .i64 0, .int .i64 0, .int .i64 0], .bool true]) ∧ Below w.heap.size w w' := by
  go_enter Try.func34, Try.ntmps34
  go_wp2_with fail
  refine (l1In_yes d 0 3000000 _ h).mono ?_
  rintro e w1 ⟨rfl, hw⟩
  subst hw
  go_wp2
  refine bodyPost_ret (v := .tuple #[.agg #[.int .i64 d, .slice none 0 0, .slice none 0 0, .int .i64 0, .int .i64 0, .int .i64 0, .int .i64 0], .bool true]) (by simp [results, Try.results34, go_sem]) rfl ⟨rfl, ?_⟩
  exact (Below.refl _ _).alloc (Nat.le_refl _) _
theorem specNew_no (d : Int) (w : World) (h : ¬ (0 ≤ d ∧ d ≤ 3000000)) :
    Calls Try.prog 34 #[.int .i64 d] w fun e w' => e = .returned (.tuple #[.agg #[.int .i64 0, .slice none 0 0, .slice none 0 0, .int .i64 0, .int .i64 0, .int .i64 0, .int .i64 0], .bool false]) ∧ Below w.heap.size w w' := by
  go_enter Try.func34, Try.ntmps34
  go_wp2_with fail
  refine (l1In_no d 0 3000000 _ h).mono ?_
  rintro e w1 ⟨rfl, hw⟩
  subst hw
  go_wp2
  refine bodyPost_ret (v := .tuple #[.agg #[.int .i64 0, .slice none 0 0, .slice none 0 0, .int .i64 0, .int .i64 0, .int .i64 0, .int .i64 0], .bool false]) (by simp [results, Try.results34, go_sem]) rfl ⟨rfl, ?_⟩
  exact (Below.refl _ _).alloc (Nat.le_refl _) _
theorem implNew_yes (d : Int) (w : World) (h : 0 ≤ d ∧ d ≤ 3000000) :
    Calls Try.prog 35 #[.int .i64 d] w fun e w' => e = .returned (.tuple #[.agg #[.int .i64 d, .slice none 0 0, .slice none 0 0, .int .i64 0, .int .i64 0, .int .i64 0, .int .i64 0], .bool true]) ∧ Below w.heap.size w w' := by
  go_enter Try.func35, Try.ntmps35
  go_wp2_with fail
  refine (dayOk_yes d _ h).mono ?_
  rintro e w1 ⟨rfl, hw⟩
  subst hw
  go_wp2
  refine bodyPost_ret (v := .tuple #[.agg #[.int .i64 d, .slice none 0 0, .slice none 0 0, .int .i64 0, .int .i64 0, .int .i64 0, .int .i64 0], .bool true]) (by simp [results, Try.results35, go_sem]) rfl ⟨rfl, ?_⟩
  exact (Below.refl _ _).alloc (Nat.le_refl _) _
theorem implNew_no (d : Int) (w : World) (h : ¬ (0 ≤ d ∧ d ≤ 3000000)) :
    Calls Try.prog 35 #[.int .i64 d] w fun e w' => e = .returned (.tuple #[.agg #[.int .i64 0, .slice none 0 0, .slice none 0 0, .int .i64 0, .int .i64 0, .int .i64 0, .int .i64 0], .bool false]) ∧ Below w.heap.size w w' := by
  go_enter Try.func35, Try.ntmps35
  go_wp2_with fail
  refine (dayOk_no d _ h).mono ?_
  rintro e w1 ⟨rfl, hw⟩
  subst hw
  go_wp2
  refine bodyPost_ret (v := .tuple #[.agg #[.int .i64 0, .slice none 0 0, .slice none 0 0, .int .i64 0, .int .i64 0, .int .i64 0, .int .i64 0], .bool false]) (by simp [results, Try.results35, go_sem]) rfl ⟨rfl, ?_⟩
  exact (Below.refl _ _).alloc (Nat.le_refl _) _
theorem markAcc_nil (w : World) :
    Calls Try.prog 59 #[.slice none 0 0, .int .i64 1] w fun e w' => e = .returned (.int .i64 1) ∧ w' = w := by
  go_enter Try.func59, Try.ntmps59
  go_wp2
  refine wp_loop_rounds 1 ?_
  rw [rounds_succ]
  go_wp2
  go_ret
  exact ⟨rfl, rfl⟩
theorem heldAcc_nil (w : World) :
    Calls Try.prog 60 #[.slice none 0 0, .int .i64 1] w fun e w' => e = .returned (.int .i64 1) ∧ w' = w := by
  go_enter Try.func60, Try.ntmps60
  go_wp2
  refine wp_loop_rounds 1 ?_
  rw [rounds_succ]
  go_wp2
  go_ret
  exact ⟨rfl, rfl⟩
theorem markOrd_nil (w : World) :
    Calls Try.prog 25 #[.slice none 0 0, .int .i64 1] w fun e w' => e = .returned (.int .i64 1) ∧ w' = w := by
  go_enter Try.func25, Try.ntmps25
  go_wp2
  refine wp_loop_rounds 1 ?_
  rw [rounds_succ]
  go_wp2
  go_ret
  exact ⟨rfl, rfl⟩
theorem heldOrd_nil (w : World) :
    Calls Try.prog 26 #[.slice none 0 0, .int .i64 1] w fun e w' => e = .returned (.int .i64 1) ∧ w' = w := by
  go_enter Try.func26, Try.ntmps26
  go_wp2
  refine wp_loop_rounds 1 ?_
  rw [rounds_succ]
  go_wp2
  go_ret
  exact ⟨rfl, rfl⟩
theorem markBank_nil (d : Int) (w : World) :
    Calls Try.prog 36 #[.agg #[.int .i64 d, .slice none 0 0, .slice none 0 0, .int .i64 0, .int .i64 0, .int .i64 0, .int .i64 0], .int .i64 1] w fun e w' => e = .returned (.int .i64 1) ∧ Below w.heap.size w w' := by
  have hB : Hid (Below w.heap.size w (w.alloc (.cells #[.int .i64 d, .slice none 0 0, .slice none 0 0, .int .i64 0, .int .i64 0, .int .i64 0, .int .i64 0] 48))) := (Below.refl _ _).alloc (Nat.le_refl _) _
  go_enter Try.func36, Try.ntmps36
  go_wp2_with fail
  refine (markAcc_nil _).mono ?_
  rintro e w1 ⟨rfl, hw⟩
  subst hw
  go_wp2_with fail
  refine (markOrd_nil _).mono ?_
  rintro e w1 ⟨rfl, hw⟩
  subst hw
  go_wp2
  go_ret
  exact ⟨rfl, hB.out⟩
theorem heldBank_nil (d : Int) (w : World) :
    Calls Try.prog 37 #[.agg #[.int .i64 d, .slice none 0 0, .slice none 0 0, .int .i64 0, .int .i64 0, .int .i64 0, .int .i64 0], .int .i64 1] w fun e w' => e = .returned (.int .i64 1) ∧ Below w.heap.size w w' := by
  have hB : Hid (Below w.heap.size w (w.alloc (.cells #[.int .i64 d, .slice none 0 0, .slice none 0 0, .int .i64 0, .int .i64 0, .int .i64 0, .int .i64 0] 48))) := (Below.refl _ _).alloc (Nat.le_refl _) _
  go_enter Try.func37, Try.ntmps37
  go_wp2_with fail
  refine (heldAcc_nil _).mono ?_
  rintro e w1 ⟨rfl, hw⟩
  subst hw
  go_wp2_with fail
  refine (heldOrd_nil _).mono ?_
  rintro e w1 ⟨rfl, hw⟩
  subst hw
  go_wp2
  go_ret
  exact ⟨rfl, hB.out⟩
theorem Fo.none (w : World) (F : Nat → Acc) : Fo w none 0 F := ⟨by omega, Or.inl rfl⟩
theorem Ords.none (w : World) (F : Nat → Ord) : Ords w none 0 F := ⟨by omega, Or.inl rfl⟩
theorem eqBn (d : Int) (w : World) :
    Calls Try.prog 33 #[.agg #[.int .i64 d, .slice none 0 0, .slice none 0 0, .int .i64 0, .int .i64 0, .int .i64 0, .int .i64 0], .agg #[.int .i64 d, .slice none 0 0, .slice none 0 0, .int .i64 0, .int .i64 0, .int .i64 0, .int .i64 0]] w fun e w' => e = .returned (.bool true) ∧ Below w.heap.size w w' :=
  eqBank_same none none none none 0 0 0 0 0 0 (fun _ => ⟨0, 0, 0, 0, 0, false, 0, 0⟩) (fun _ => ⟨0, 0, 0, 0, 0, 0, 0⟩) ⟨d, 0, 0, 0, 0⟩ w (Fo.none _ _) (Fo.none _ _) (Ords.none _ _) (Ords.none _ _)
/-- A new bank in memory. -/
def BnBox (w : World) (R : Nat) (d : Int) : Prop := BkBox w R (.slice none 0 0) (.slice none 0 0) ⟨d, 0, 0, 0, 0⟩
theorem BnBox.new (w : World) (d : Int) (T : Nat) : BnBox (w.alloc (.cells #[.int .i64 d, .slice none 0 0, .slice none 0 0, .int .i64 0, .int .i64 0, .int .i64 0, .int .i64 0] T)) w.heap.size d := BkBox.new w _ _ ⟨d, 0, 0, 0, 0⟩ T
theorem BnBox.below {w w' : World} {R : Nat} {d : Int} (h : BnBox w R d) (hb : Below w.heap.size w w') : BnBox w' R d := BkBox.below h hb

set_option maxHeartbeats 2000000 in
theorem lawNew (d : Int) (w : World) :
    Calls Try.prog 9 #[.int .i64 d] w fun e w' => e = .returned (.bool true) ∧ Below w.heap.size w w' := by
  by_cases h : 0 ≤ d ∧ d ≤ 3000000
  · skip
    go_enter Try.func9, Try.ntmps9
    go_wp2_with fail
    refine (specNew_yes d _ h).mono ?_
    rintro e w1 ⟨rfl, D1⟩
    have Y1 : Hid (BnBox (w1.alloc (.cells #[.int .i64 d, .slice none 0 0, .slice none 0 0, .int .i64 0, .int .i64 0, .int .i64 0, .int .i64 0] 48)) w1.heap.size d ∧ Below w.heap.size w (w1.alloc (.cells #[.int .i64 d, .slice none 0 0, .slice none 0 0, .int .i64 0, .int .i64 0, .int .i64 0, .int .i64 0] 48))) := ⟨BnBox.new _ _ _, D1.alloc D1.size _⟩
    clear D1
    go_wp2_with fail
    refine (implNew_yes d _ h).mono ?_
    rintro e w2 ⟨rfl, D2⟩
    have Y2 : Hid (BnBox (w2.alloc (.cells #[.int .i64 d, .slice none 0 0, .slice none 0 0, .int .i64 0, .int .i64 0, .int .i64 0, .int .i64 0] 48)) w1.heap.size d ∧ BnBox (w2.alloc (.cells #[.int .i64 d, .slice none 0 0, .slice none 0 0, .int .i64 0, .int .i64 0, .int .i64 0, .int .i64 0] 48)) w2.heap.size d ∧ Below w.heap.size w (w2.alloc (.cells #[.int .i64 d, .slice none 0 0, .slice none 0 0, .int .i64 0, .int .i64 0, .int .i64 0, .int .i64 0] 48))) :=
      ⟨(Y1.out.1.below D2).below ((Below.refl _ _).alloc (Nat.le_refl _) _), BnBox.new _ _ _, (Y1.out.2.trans (D2.mono Y1.out.2.size)).alloc (Nat.le_trans Y1.out.2.size D2.size) _⟩
    clear D2 Y1
    obtain ⟨⟨c0, c1, c2, c3, c4, c5, c6, _⟩, _, _⟩ := Y2.out
    go_wp2_with fail
    refine (eqBn d _).mono ?_
    rintro e w3 ⟨rfl, D3⟩
    have Y3 : Hid (BnBox w3 w1.heap.size d ∧ BnBox w3 w2.heap.size d ∧ Below w.heap.size w w3) := ⟨Y2.out.1.below D3, Y2.out.2.1.below D3, Y2.out.2.2.trans (D3.mono Y2.out.2.2.size)⟩
    clear D3 Y2 c0 c1 c2 c3 c4 c5 c6
    obtain ⟨⟨c0, c1, c2, c3, c4, c5, c6, _⟩, ⟨g0, g1, g2, g3, g4, g5, g6, _⟩, _⟩ := Y3.out
    go_wp2_with fail
    refine (markBank_nil d _).mono ?_
    rintro e w4 ⟨rfl, D4⟩
    have Y4 : Hid (BnBox w4 w1.heap.size d ∧ BnBox w4 w2.heap.size d ∧ Below w.heap.size w w4) := ⟨Y3.out.1.below D4, Y3.out.2.1.below D4, Y3.out.2.2.trans (D4.mono Y3.out.2.2.size)⟩
    clear D4 Y3 c0 c1 c2 c3 c4 c5 c6 g0 g1 g2 g3 g4 g5 g6
    obtain ⟨⟨c0, c1, c2, c3, c4, c5, c6, _⟩, ⟨g0, g1, g2, g3, g4, g5, g6, _⟩, _⟩ := Y4.out
    go_wp2_with fail
    refine (heldBank_nil d _).mono ?_
    rintro e w5 ⟨rfl, D5⟩
    have Y5 : Hid (BnBox w5 w1.heap.size d ∧ BnBox w5 w2.heap.size d ∧ Below w.heap.size w w5) := ⟨Y4.out.1.below D5, Y4.out.2.1.below D5, Y4.out.2.2.trans (D5.mono Y4.out.2.2.size)⟩
    clear D5 Y4 c0 c1 c2 c3 c4 c5 c6 g0 g1 g2 g3 g4 g5 g6
    go_wp2_with fail
    refine (implNew_yes d _ h).mono ?_
    rintro e w6 ⟨rfl, D6⟩
    have Y6 : Hid (BnBox (w6.alloc (.cells #[.int .i64 d, .slice none 0 0, .slice none 0 0, .int .i64 0, .int .i64 0, .int .i64 0, .int .i64 0] 48)) w1.heap.size d ∧ BnBox (w6.alloc (.cells #[.int .i64 d, .slice none 0 0, .slice none 0 0, .int .i64 0, .int .i64 0, .int .i64 0, .int .i64 0] 48)) w2.heap.size d ∧ Below w.heap.size w (w6.alloc (.cells #[.int .i64 d, .slice none 0 0, .slice none 0 0, .int .i64 0, .int .i64 0, .int .i64 0, .int .i64 0] 48))) :=
      ⟨(Y5.out.1.below D6).below ((Below.refl _ _).alloc (Nat.le_refl _) _), (Y5.out.2.1.below D6).below ((Below.refl _ _).alloc (Nat.le_refl _) _), (Y5.out.2.2.trans (D6.mono Y5.out.2.2.size)).alloc (Nat.le_trans Y5.out.2.2.size D6.size) _⟩
    clear D6 Y5
    obtain ⟨⟨c0, c1, c2, c3, c4, c5, c6, _⟩, _, _⟩ := Y6.out
    go_wp2_with fail
    refine (eqBn d _).mono ?_
    rintro e w7 ⟨rfl, D7⟩
    have Y7 : Hid (BnBox w7 w2.heap.size d ∧ Below w.heap.size w w7) := ⟨Y6.out.2.1.below D7, Y6.out.2.2.trans (D7.mono Y6.out.2.2.size)⟩
    clear D7 Y6 c0 c1 c2 c3 c4 c5 c6
    obtain ⟨⟨g0, g1, g2, g3, g4, g5, g6, _⟩, _⟩ := Y7.out
    go_wp2_with fail
    refine (heldBank_nil d _).mono ?_
    rintro e w8 ⟨rfl, D8⟩
    have Y8 : Hid (Below w.heap.size w w8) := Y7.out.2.trans (D8.mono Y7.out.2.size)
    clear D8 Y7 g0 g1 g2 g3 g4 g5 g6
    go_wp2
    go_ret
    exact ⟨rfl, Y8.out⟩
  · skip
    go_enter Try.func9, Try.ntmps9
    go_wp2_with fail
    refine (specNew_no d _ h).mono ?_
    rintro e w1 ⟨rfl, D1⟩
    have Y1 : Hid (BnBox (w1.alloc (.cells #[.int .i64 0, .slice none 0 0, .slice none 0 0, .int .i64 0, .int .i64 0, .int .i64 0, .int .i64 0] 48)) w1.heap.size 0 ∧ Below w.heap.size w (w1.alloc (.cells #[.int .i64 0, .slice none 0 0, .slice none 0 0, .int .i64 0, .int .i64 0, .int .i64 0, .int .i64 0] 48))) := ⟨BnBox.new _ _ _, D1.alloc D1.size _⟩
    clear D1
    go_wp2_with fail
    refine (implNew_no d _ h).mono ?_
    rintro e w2 ⟨rfl, D2⟩
    have Y2 : Hid (BnBox (w2.alloc (.cells #[.int .i64 0, .slice none 0 0, .slice none 0 0, .int .i64 0, .int .i64 0, .int .i64 0, .int .i64 0] 48)) w1.heap.size 0 ∧ BnBox (w2.alloc (.cells #[.int .i64 0, .slice none 0 0, .slice none 0 0, .int .i64 0, .int .i64 0, .int .i64 0, .int .i64 0] 48)) w2.heap.size 0 ∧ Below w.heap.size w (w2.alloc (.cells #[.int .i64 0, .slice none 0 0, .slice none 0 0, .int .i64 0, .int .i64 0, .int .i64 0, .int .i64 0] 48))) :=
      ⟨(Y1.out.1.below D2).below ((Below.refl _ _).alloc (Nat.le_refl _) _), BnBox.new _ _ _, (Y1.out.2.trans (D2.mono Y1.out.2.size)).alloc (Nat.le_trans Y1.out.2.size D2.size) _⟩
    clear D2 Y1
    obtain ⟨⟨c0, c1, c2, c3, c4, c5, c6, _⟩, _, _⟩ := Y2.out
    go_wp2_with fail
    refine (eqBn 0 _).mono ?_
    rintro e w3 ⟨rfl, D3⟩
    have Y3 : Hid (BnBox w3 w1.heap.size 0 ∧ BnBox w3 w2.heap.size 0 ∧ Below w.heap.size w w3) := ⟨Y2.out.1.below D3, Y2.out.2.1.below D3, Y2.out.2.2.trans (D3.mono Y2.out.2.2.size)⟩
    clear D3 Y2 c0 c1 c2 c3 c4 c5 c6
    obtain ⟨⟨c0, c1, c2, c3, c4, c5, c6, _⟩, ⟨g0, g1, g2, g3, g4, g5, g6, _⟩, _⟩ := Y3.out
    go_wp2_with fail
    refine (markBank_nil 0 _).mono ?_
    rintro e w4 ⟨rfl, D4⟩
    have Y4 : Hid (BnBox w4 w1.heap.size 0 ∧ BnBox w4 w2.heap.size 0 ∧ Below w.heap.size w w4) := ⟨Y3.out.1.below D4, Y3.out.2.1.below D4, Y3.out.2.2.trans (D4.mono Y3.out.2.2.size)⟩
    clear D4 Y3 c0 c1 c2 c3 c4 c5 c6 g0 g1 g2 g3 g4 g5 g6
    obtain ⟨⟨c0, c1, c2, c3, c4, c5, c6, _⟩, ⟨g0, g1, g2, g3, g4, g5, g6, _⟩, _⟩ := Y4.out
    go_wp2_with fail
    refine (heldBank_nil 0 _).mono ?_
    rintro e w5 ⟨rfl, D5⟩
    have Y5 : Hid (BnBox w5 w1.heap.size 0 ∧ BnBox w5 w2.heap.size 0 ∧ Below w.heap.size w w5) := ⟨Y4.out.1.below D5, Y4.out.2.1.below D5, Y4.out.2.2.trans (D5.mono Y4.out.2.2.size)⟩
    clear D5 Y4 c0 c1 c2 c3 c4 c5 c6 g0 g1 g2 g3 g4 g5 g6
    go_wp2_with fail
    refine (implNew_no d _ h).mono ?_
    rintro e w6 ⟨rfl, D6⟩
    have Y6 : Hid (BnBox (w6.alloc (.cells #[.int .i64 0, .slice none 0 0, .slice none 0 0, .int .i64 0, .int .i64 0, .int .i64 0, .int .i64 0] 48)) w1.heap.size 0 ∧ BnBox (w6.alloc (.cells #[.int .i64 0, .slice none 0 0, .slice none 0 0, .int .i64 0, .int .i64 0, .int .i64 0, .int .i64 0] 48)) w2.heap.size 0 ∧ Below w.heap.size w (w6.alloc (.cells #[.int .i64 0, .slice none 0 0, .slice none 0 0, .int .i64 0, .int .i64 0, .int .i64 0, .int .i64 0] 48))) :=
      ⟨(Y5.out.1.below D6).below ((Below.refl _ _).alloc (Nat.le_refl _) _), (Y5.out.2.1.below D6).below ((Below.refl _ _).alloc (Nat.le_refl _) _), (Y5.out.2.2.trans (D6.mono Y5.out.2.2.size)).alloc (Nat.le_trans Y5.out.2.2.size D6.size) _⟩
    clear D6 Y5
    obtain ⟨⟨c0, c1, c2, c3, c4, c5, c6, _⟩, _, _⟩ := Y6.out
    go_wp2_with fail
    refine (eqBn 0 _).mono ?_
    rintro e w7 ⟨rfl, D7⟩
    have Y7 : Hid (BnBox w7 w2.heap.size 0 ∧ Below w.heap.size w w7) := ⟨Y6.out.2.1.below D7, Y6.out.2.2.trans (D7.mono Y6.out.2.2.size)⟩
    clear D7 Y6 c0 c1 c2 c3 c4 c5 c6
    obtain ⟨⟨g0, g1, g2, g3, g4, g5, g6, _⟩, _⟩ := Y7.out
    go_wp2_with fail
    refine (heldBank_nil 0 _).mono ?_
    rintro e w8 ⟨rfl, D8⟩
    have Y8 : Hid (Below w.heap.size w w8) := Y7.out.2.trans (D8.mono Y7.out.2.size)
    clear D8 Y7 g0 g1 g2 g3 g4 g5 g6
    go_wp2
    go_ret
    exact ⟨rfl, Y8.out⟩
end Go.Proofs.Ytlndklendejjdaa
