/- The laws' own looks at banks, and the law FnBankNew, which returns true, whatever the bytes. Conditions: the bytes lie in memory. -/
import Derived.Test.YtlndklendejjdaaBNew
import Derived.Test.YtlndklendejjdaaRd
namespace Go.Proofs.Ytlndklendejjdaa
open Go.RowKit

set_option maxHeartbeats 1000000 in
theorem sameForest_same (a1 a2 : Option Addr) (n m1 m2 : Nat) (F : Nat → Acc) (w : World) (h1 : Fo w a1 n F) (h2 : Fo w a2 n F) :
    Calls Try.prog 67 #[.slice a1 n m1, .slice a2 n m2] w fun e w' => e = .returned (.bool true) ∧ Below w.heap.size w w' := by
  have H1 : Hid (Fo w a1 n F) := h1
  have H2 : Hid (Fo w a2 n F) := h2
  have hn := h1.1
  clear h1 h2
  go_enter Try.func67, Try.ntmps67
  go_wp2
  go_loopw [5] (fun i wr => ∃ (k q : Nat), k ≤ n ∧ i = .int .i64 k ∧ wr = w.drewN q) (fun i _ => n - (intOf i).toNat)
  case atStart => exact ⟨0, 0, Nat.zero_le _, rfl, rfl⟩
  case round =>
    obtain ⟨k, q, hk, rfl, rfl⟩ := hrel
    by_cases hlt : k < n
    · obtain ⟨b, o, rfl, hb0, hA⟩ := H1.out.acc hlt
      obtain ⟨b', o', rfl, hb0', hA'⟩ := H2.out.acc hlt
      obtain ⟨c0, c1, c2, c3, c4, c5, c6, c7⟩ := hA
      obtain ⟨d0, d1, d2, d3, d4, d5, d6, d7⟩ := hA'
      have hk0 : (k : Int) < (n : Int) := by omega
      go_wp2
      go_quiet (fail)
      go_wp2
      go_roundw
      case rel => exact ⟨k + 1, _, by omega, by go_num, rfl⟩
      case measure => simp [intOf]; omega
    · go_wp2
      go_ret
      exact ⟨rfl, below_drewN (Below.refl _ _) _⟩
set_option maxHeartbeats 1000000 in
theorem sameOrders_same (a1 a2 : Option Addr) (n m1 m2 : Nat) (F : Nat → Ord) (w : World) (h1 : Ords w a1 n F) (h2 : Ords w a2 n F) :
    Calls Try.prog 41 #[.slice a1 n m1, .slice a2 n m2] w fun e w' => e = .returned (.bool true) ∧ Below w.heap.size w w' := by
  have H1 : Hid (Ords w a1 n F) := h1
  have H2 : Hid (Ords w a2 n F) := h2
  have hn := h1.1
  clear h1 h2
  go_enter Try.func41, Try.ntmps41
  go_wp2
  go_loopw [5] (fun i wr => ∃ (k q : Nat), k ≤ n ∧ i = .int .i64 k ∧ wr = w.drewN q) (fun i _ => n - (intOf i).toNat)
  case atStart => exact ⟨0, 0, Nat.zero_le _, rfl, rfl⟩
  case round =>
    obtain ⟨k, q, hk, rfl, rfl⟩ := hrel
    by_cases hlt : k < n
    · obtain ⟨b, o, rfl, hb0, hA⟩ := H1.out.acc hlt
      obtain ⟨b', o', rfl, hb0', hA'⟩ := H2.out.acc hlt
      obtain ⟨c0, c1, c2, c3, c4, c5, c6⟩ := hA
      obtain ⟨d0, d1, d2, d3, d4, d5, d6⟩ := hA'
      have hk0 : (k : Int) < (n : Int) := by omega
      go_wp2
      go_quiet (fail)
      go_wp2
      go_roundw
      case rel => exact ⟨k + 1, _, by omega, by go_num, rfl⟩
      case measure => simp [intOf]; omega
    · go_wp2
      go_ret
      exact ⟨rfl, below_drewN (Below.refl _ _) _⟩

set_option maxHeartbeats 1000000 in
theorem sameBank_same (a1 a2 b1 b2 : Option Addr) (n p1 p2 m q1 q2 : Nat) (F : Nat → Acc) (O : Nat → Ord) (k : Bk) (w : World) (hF1 : Fo w a1 n F) (hF2 : Fo w a2 n F) (hO1 : Ords w b1 m O) (hO2 : Ords w b2 m O) :
    Calls Try.prog 43 #[.agg #[.int .i64 k.day, .slice a1 n p1, .slice b1 m q1, .int .i64 k.inn, .int .i64 k.out, .int .i64 k.posted, .int .i64 k.missed], .agg #[.int .i64 k.day, .slice a2 n p2, .slice b2 m q2, .int .i64 k.inn, .int .i64 k.out, .int .i64 k.posted, .int .i64 k.missed]] w fun e w' => e = .returned (.bool true) ∧ Below w.heap.size w w' := by
  have X1 : Hid (BkAll ((w.alloc (.cells #[.int .i64 k.day, .slice a1 n p1, .slice b1 m q1, .int .i64 k.inn, .int .i64 k.out, .int .i64 k.posted, .int .i64 k.missed] 48)).alloc (.cells #[.int .i64 k.day, .slice a2 n p2, .slice b2 m q2, .int .i64 k.inn, .int .i64 k.out, .int .i64 k.posted, .int .i64 k.missed] 48)) w.heap.size a1 b1 n p1 m q1 F O k w) := by
    have : BkAll (w.alloc (.cells #[.int .i64 k.day, .slice a1 n p1, .slice b1 m q1, .int .i64 k.inn, .int .i64 k.out, .int .i64 k.posted, .int .i64 k.missed] 48)) w.heap.size a1 b1 n p1 m q1 F O k w := ⟨BkBox.new w _ _ k 48, hF1.alloc _, hO1.alloc _, (Below.refl _ _).alloc (Nat.le_refl _) _⟩
    exact this.below ((Below.refl _ _).alloc (Nat.le_refl _) _)
  have X2 : Hid (BkAll ((w.alloc (.cells #[.int .i64 k.day, .slice a1 n p1, .slice b1 m q1, .int .i64 k.inn, .int .i64 k.out, .int .i64 k.posted, .int .i64 k.missed] 48)).alloc (.cells #[.int .i64 k.day, .slice a2 n p2, .slice b2 m q2, .int .i64 k.inn, .int .i64 k.out, .int .i64 k.posted, .int .i64 k.missed] 48)) (w.heap.size + 1) a2 b2 n p2 m q2 F O k w) := by
    have h := BkBox.new (w.alloc (.cells #[.int .i64 k.day, .slice a1 n p1, .slice b1 m q1, .int .i64 k.inn, .int .i64 k.out, .int .i64 k.posted, .int .i64 k.missed] 48)) (.slice a2 n p2) (.slice b2 m q2) k 48
    rw [World.size_alloc] at h
    exact ⟨h, (hF2.alloc _).alloc _, (hO2.alloc _).alloc _, ((Below.refl _ _).alloc (Nat.le_refl _) _).alloc (by simp) _⟩
  clear hF1 hF2 hO1 hO2
  have e0 : (k.day == k.day) = true := by simp
  have e1 : (k.inn == k.inn) = true := by simp
  have e2 : (k.out == k.out) = true := by simp
  have e3 : (k.posted == k.posted) = true := by simp
  have e4 : (k.missed == k.missed) = true := by simp
  go_enter Try.func43, Try.ntmps43
  go_wp2_with fail
  refine (sameForest_same _ _ n _ _ F _ X1.out.2.1 X2.out.2.1).mono ?_
  rintro e w1 ⟨rfl, B1⟩
  have Y1 : Hid (BkAll w1 w.heap.size a1 b1 n p1 m q1 F O k w) := X1.out.below B1
  have Y2 : Hid (BkAll w1 (w.heap.size + 1) a2 b2 n p2 m q2 F O k w) := X2.out.below B1
  clear X1 X2 B1
  obtain ⟨⟨c0, c1, c2, c3, c4, c5, c6, _⟩, _, _, _⟩ := Y1.out
  obtain ⟨⟨g0, g1, g2, g3, g4, g5, g6, _⟩, _, _, _⟩ := Y2.out
  go_wp2_with fail
  refine (sameOrders_same _ _ m _ _ O _ Y1.out.2.2.1 Y2.out.2.2.1).mono ?_
  rintro e w2 ⟨rfl, B2⟩
  have Z1 : Hid (Below w.heap.size w w2) := Y1.out.2.2.2.trans (B2.mono Y1.out.2.2.2.size)
  clear Y1 Y2 B2 c0 c1 c2 c3 c4 c5 c6 g0 g1 g2 g3 g4 g5 g6
  go_wp2
  go_ret
  exact ⟨rfl, Z1.out⟩
theorem sameBn (d : Int) (w : World) :
    Calls Try.prog 43 #[.agg #[.int .i64 d, .slice none 0 0, .slice none 0 0, .int .i64 0, .int .i64 0, .int .i64 0, .int .i64 0], .agg #[.int .i64 d, .slice none 0 0, .slice none 0 0, .int .i64 0, .int .i64 0, .int .i64 0, .int .i64 0]] w fun e w' => e = .returned (.bool true) ∧ Below w.heap.size w w' :=
  sameBank_same none none none none 0 0 0 0 0 0 (fun _ => ⟨0, 0, 0, 0, 0, false, 0, 0⟩) (fun _ => ⟨0, 0, 0, 0, 0, 0, 0⟩) ⟨d, 0, 0, 0, 0⟩ w (Fo.none _ _) (Fo.none _ _) (Ords.none _ _) (Ords.none _ _)
theorem okBn (d : Int) (w : World) (h : 0 ≤ d ∧ d ≤ 3000000) :
    Calls Try.prog 32 #[.agg #[.int .i64 d, .slice none 0 0, .slice none 0 0, .int .i64 0, .int .i64 0, .int .i64 0, .int .i64 0]] w fun e w' => e = .returned (.bool true) ∧ Below w.heap.size w w' :=
  (implBank none none 0 0 0 0 (fun _ => ⟨0, 0, 0, 0, 0, false, 0, 0⟩) (fun _ => ⟨0, 0, 0, 0, 0, 0, 0⟩) ⟨d, 0, 0, 0, 0⟩ w (Fo.none _ _) (Ords.none _ _)).mono fun e w' ⟨⟨b, he, _, h2⟩, hB⟩ => ⟨by
    cases b with
    | true => exact he
    | false =>
      refine absurd ?_ (h2 rfl)
      exact ⟨h, ⟨by omega, fun i hi => absurd hi (Nat.not_lt_zero _), fun i _ hi => absurd hi (Nat.not_lt_zero _), fun i hi => absurd hi (Nat.not_lt_zero _)⟩, ⟨by omega, fun i hi => absurd hi (Nat.not_lt_zero _), fun i _ hi => absurd hi (Nat.not_lt_zero _)⟩, ⟨by simp, by simp⟩, ⟨by simp, by simp⟩, ⟨by simp, by simp⟩, ⟨by simp, by simp⟩, rfl⟩, hB⟩

theorem drawNew (a : Option Addr) (len cap : Nat) (w : World) (h : Code w a len) :
    Calls Try.prog 42 #[.slice a len cap] w fun e w' => ∃ d : Int, e = .returned (.int .i64 d) ∧ Below w.heap.size w w' := by
  have H : Hid (Code w a len) := h
  clear h
  go_enter Try.func42, Try.ntmps42
  go_wp2_with fail
  refine (rd_open a len cap _ H.out.1 H.out.2).mono ?_
  rintro e w1 ⟨rfl, R1, B1⟩
  have R1' : Hid (Rd w1 w.heap.size a len cap) := R1
  have B1' : Hid (Below w.heap.size w w1) := B1
  clear R1 B1
  go_wp2_with fail
  refine (rd_off w.heap.size a len cap 0 3000000 _ R1'.out (by omega) (by omega) (by omega)).mono ?_
  rintro e w2 ⟨v, rfl, R2, S2⟩
  have B2' : Hid (Below w.heap.size w w2) := B1'.out.trans (S2.below B1'.out.size)
  clear R2 S2
  go_wp2
  go_ret
  exact ⟨_, rfl, B2'.out⟩

set_option maxHeartbeats 2000000 in
theorem lawBNew (a : Option Addr) (len cap : Nat) (w : World) (h : Code w a len) :
    Calls Try.prog 12 #[.slice a len cap] w fun e w' => e = .returned (.bool true) ∧ Below w.heap.size w w' := by
  have H : Hid (Code w a len) := h
  clear h
  by_cases hb : len ≤ 1048576
  rotate_left
  · go_enter Try.func12, Try.ntmps12
    go_wp2_with fail
    refine (big_yes a len cap _ (by omega)).mono ?_
    rintro e w1 ⟨rfl, hw⟩
    subst w1
    go_wp2
    go_ret
    exact ⟨rfl, Below.refl _ _⟩
  go_enter Try.func12, Try.ntmps12
  go_wp2_with fail
  refine (big_no a len cap _ hb).mono ?_
  rintro e w1 ⟨rfl, hw⟩
  subst w1
  go_wp2_with fail
  refine (drawNew a len cap _ H.out).mono ?_
  rintro e w1 ⟨d, rfl, B1⟩
  have B1' : Hid (Below w.heap.size w w1) := B1
  clear B1 H
  by_cases h : 0 ≤ d ∧ d ≤ 3000000
  · skip
    go_wp2_with fail
    refine (implNew_yes d _ h).mono ?_
    rintro e w2 ⟨rfl, D2⟩
    have Y2 : Hid (BnBox (w2.alloc (.cells #[.int .i64 d, .slice none 0 0, .slice none 0 0, .int .i64 0, .int .i64 0, .int .i64 0, .int .i64 0] 48)) w2.heap.size d ∧ Below w.heap.size w (w2.alloc (.cells #[.int .i64 d, .slice none 0 0, .slice none 0 0, .int .i64 0, .int .i64 0, .int .i64 0, .int .i64 0] 48))) := ⟨BnBox.new _ _ _, (B1'.out.trans (D2.mono B1'.out.size)).alloc (Nat.le_trans B1'.out.size D2.size) _⟩
    clear D2 B1'
    go_wp2_with fail
    refine (specNew_yes d _ h).mono ?_
    rintro e w3 ⟨rfl, D3⟩
    have Y3 : Hid (BnBox (w3.alloc (.cells #[.int .i64 d, .slice none 0 0, .slice none 0 0, .int .i64 0, .int .i64 0, .int .i64 0, .int .i64 0] 48)) w2.heap.size d ∧ BnBox (w3.alloc (.cells #[.int .i64 d, .slice none 0 0, .slice none 0 0, .int .i64 0, .int .i64 0, .int .i64 0, .int .i64 0] 48)) w3.heap.size d ∧ Below w.heap.size w (w3.alloc (.cells #[.int .i64 d, .slice none 0 0, .slice none 0 0, .int .i64 0, .int .i64 0, .int .i64 0, .int .i64 0] 48))) :=
      ⟨(Y2.out.1.below D3).below ((Below.refl _ _).alloc (Nat.le_refl _) _), BnBox.new _ _ _, (Y2.out.2.trans (D3.mono Y2.out.2.size)).alloc (Nat.le_trans Y2.out.2.size D3.size) _⟩
    clear D3 Y2
    obtain ⟨⟨c0, c1, c2, c3, c4, c5, c6, _⟩, _, _⟩ := Y3.out
    go_wp2_with fail
    refine (sameBn d _).mono ?_
    rintro e w4 ⟨rfl, D4⟩
    have Y4 : Hid (BnBox w4 w2.heap.size d ∧ Below w.heap.size w w4) := ⟨Y3.out.1.below D4, Y3.out.2.2.trans (D4.mono Y3.out.2.2.size)⟩
    clear D4 Y3 c0 c1 c2 c3 c4 c5 c6
    obtain ⟨⟨c0, c1, c2, c3, c4, c5, c6, _⟩, _⟩ := Y4.out
    go_wp2_with fail
    refine (okBn d _ h).mono ?_
    rintro e w5 ⟨rfl, D5⟩
    have Y5 : Hid (BnBox w5 w2.heap.size d ∧ Below w.heap.size w w5) := ⟨Y4.out.1.below D5, Y4.out.2.trans (D5.mono Y4.out.2.size)⟩
    clear D5 Y4 c0 c1 c2 c3 c4 c5 c6
    obtain ⟨⟨c0, c1, c2, c3, c4, c5, c6, _⟩, _⟩ := Y5.out
    have ed : (d == d) = true := by simp
    go_wp2
    go_ret
    exact ⟨rfl, Y5.out.2⟩
  · skip
    go_wp2_with fail
    refine (implNew_no d _ h).mono ?_
    rintro e w2 ⟨rfl, D2⟩
    have Y2 : Hid (BnBox (w2.alloc (.cells #[.int .i64 0, .slice none 0 0, .slice none 0 0, .int .i64 0, .int .i64 0, .int .i64 0, .int .i64 0] 48)) w2.heap.size 0 ∧ Below w.heap.size w (w2.alloc (.cells #[.int .i64 0, .slice none 0 0, .slice none 0 0, .int .i64 0, .int .i64 0, .int .i64 0, .int .i64 0] 48))) := ⟨BnBox.new _ _ _, (B1'.out.trans (D2.mono B1'.out.size)).alloc (Nat.le_trans B1'.out.size D2.size) _⟩
    clear D2 B1'
    go_wp2_with fail
    refine (specNew_no d _ h).mono ?_
    rintro e w3 ⟨rfl, D3⟩
    have Y3 : Hid (BnBox (w3.alloc (.cells #[.int .i64 0, .slice none 0 0, .slice none 0 0, .int .i64 0, .int .i64 0, .int .i64 0, .int .i64 0] 48)) w2.heap.size 0 ∧ BnBox (w3.alloc (.cells #[.int .i64 0, .slice none 0 0, .slice none 0 0, .int .i64 0, .int .i64 0, .int .i64 0, .int .i64 0] 48)) w3.heap.size 0 ∧ Below w.heap.size w (w3.alloc (.cells #[.int .i64 0, .slice none 0 0, .slice none 0 0, .int .i64 0, .int .i64 0, .int .i64 0, .int .i64 0] 48))) :=
      ⟨(Y2.out.1.below D3).below ((Below.refl _ _).alloc (Nat.le_refl _) _), BnBox.new _ _ _, (Y2.out.2.trans (D3.mono Y2.out.2.size)).alloc (Nat.le_trans Y2.out.2.size D3.size) _⟩
    clear D3 Y2
    obtain ⟨⟨c0, c1, c2, c3, c4, c5, c6, _⟩, _, _⟩ := Y3.out
    go_wp2_with fail
    refine (sameBn 0 _).mono ?_
    rintro e w4 ⟨rfl, D4⟩
    have Y4 : Hid (BnBox w4 w2.heap.size 0 ∧ Below w.heap.size w w4) := ⟨Y3.out.1.below D4, Y3.out.2.2.trans (D4.mono Y3.out.2.2.size)⟩
    clear D4 Y3 c0 c1 c2 c3 c4 c5 c6
    obtain ⟨⟨c0, c1, c2, c3, c4, c5, c6, _⟩, _⟩ := Y4.out
    go_wp2
    go_ret
    exact ⟨rfl, Y4.out.2⟩
end Go.Proofs.Ytlndklendejjdaa
