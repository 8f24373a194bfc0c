/- The law FnInterest returns true, whatever the bytes of the code: the walk. Conditions: the bytes lie in memory. -/
import Derived.Test.YtleblllofibfkaaLawFI
namespace Go.Proofs.Ytleblllofibfkaa
open Go.RowKit
set_option maxRecDepth 8000

theorem fo_accs {w : World} {B : Nat} {v : Value} {X : Nat → Acc} {n : Nat} (h : AL w B v (toL X n)) (hn : n ≤ 12) : ∃ a c, v = .slice a n c ∧ Fo w a n X := by
  obtain ⟨a, c, rfl⟩ := h.len
  have := (h.fo (by rw [toL_len]; omega)).2
  rw [toL_len] at this ⊢
  exact ⟨a, c, rfl, this.congr (fun j hj => FL_toL hj)⟩
/-- Accrued of a right account, whatever the sum. -/
theorem accr_any (A : Acc) (s : Int) (ho : okS A) : ∃ (x y : Int) (b : Bool), (-3000000000 ≤ x ∧ x ≤ 3000000000) ∧ (b = true ↔ (-1000000000000 ≤ s ∧ s ≤ 1000000000000)) ∧ (b = true → x = postX A s ∧ y = postC A s) ∧
    ∀ w, Calls Try.prog 12 #[.int .i64 s, .int .i64 A.rate, .int .i64 A.carry] w fun e w' => e = .returned (.tuple #[.int .i64 x, .int .i64 y, .bool b]) ∧ w' = w := by
  by_cases h : -1000000000000 ≤ s ∧ s ≤ 1000000000000
  · have := post_bd ho h
    exact ⟨_, _, true, by omega, by simp [h], fun _ => ⟨rfl, rfl⟩, fun w => implAccr A s w ho h⟩
  · exact ⟨0, 0, false, by omega, by simp [h], fun hh => absurd hh (by simp), fun w => implAccr_no A s w h⟩
/-- What interest does to an account, by cases. -/
theorem int_cases {F : Nat → Acc} {n k : Nat} {x y : Int} {b : Bool} (hb : b = true ↔ (-1000000000000 ≤ sumAll F n k ∧ sumAll F n k ≤ 1000000000000)) (hx : b = true → x = postX (F k) (sumAll F n k) ∧ y = postC (F k) (sumAll F n k)) (ho : okS (F k)) :
    ((F k).up ≠ 0 ∧ intA F n k = F k) ∨ ((F k).up = 0 ∧ (F k).rate = 0 ∧ intA F n k = F k) ∨ ((F k).up = 0 ∧ 0 < (F k).rate ∧ b = false ∧ intA F n k = F k) ∨
    ((F k).up = 0 ∧ 0 < (F k).rate ∧ b = true ∧ x ≠ 0 ∧ intA F n k = F k) ∨ ((F k).up = 0 ∧ 0 < (F k).rate ∧ b = true ∧ intA F n k = { F k with balance := (F k).balance + x, carry := y }) := by
  by_cases hu : (F k).up = 0
  · by_cases hr : (F k).rate = 0
    · exact Or.inr (Or.inl ⟨hu, hr, by simp [intA, earns, hr]⟩)
    · have he : earns (F k) := ⟨hu, hr⟩
      have hr' : 0 < (F k).rate := by have := ho.2.2.2.1; omega
      cases b with
      | false =>
        have hs : ¬ (-1000000000000 ≤ sumAll F n k ∧ sumAll F n k ≤ 1000000000000) := fun h => by have := hb.2 h; cases this
        exact Or.inr (Or.inr (Or.inl ⟨hu, hr', rfl, by rw [intA, if_pos he, postA, if_neg (fun h => hs h.1)]⟩))
      | true =>
        have hs := hb.1 rfl
        obtain ⟨rfl, rfl⟩ := hx rfl
        by_cases hp : postOk (F k) (sumAll F n k)
        · exact Or.inr (Or.inr (Or.inr (Or.inr ⟨hu, hr', rfl, by rw [intA, if_pos he, postA, if_pos hp]⟩)))
        · refine Or.inr (Or.inr (Or.inr (Or.inl ⟨hu, hr', rfl, fun h0 => hp ⟨hs, ?_⟩, by rw [intA, if_pos he, postA, if_neg hp]⟩)))
          have := ho.2.2.2.2.2.1
          rw [h0]
          omega
  · exact Or.inl ⟨hu, by rw [intA, if_neg (fun h => hu h.1)]⟩

set_option maxHeartbeats 8000000 in
theorem lawFI (a : Option Addr) (len cap : Nat) (w : World) (h : Code w a len) :
    Calls Try.prog 3 #[.slice a len cap] w fun e w' => e = .returned (.bool true) ∧ Below w.heap.size w w' := by
  have H : Hid (Code w a len) := h
  clear h
  by_cases hbig : 1048576 < len
  · go_enter Try.func3, Try.ntmps3
    go_wp2_with (go_at_call 5; refine (big_yes _ _ _ _ hbig).mono ?_; rintro e w' ⟨rfl, rfl⟩)
    go_ret
    exact ⟨rfl, Below.refl _ _⟩
  go_enter Try.func3, Try.ntmps3
  go_wp2_with (go_at_call 5; refine (big_no _ _ _ _ (by omega)).mono ?_; rintro e w' ⟨rfl, rfl⟩)
  refine (drawInterest a len cap _ H.out).mono ?_
  rintro e w1 ⟨v, L, rfl, hl, A1, B1⟩
  obtain ⟨fa, fc, hv⟩ := A1.len
  subst hv
  have F1 : Hid (Fo w1 fa L.length (FL L)) := (A1.fo (by omega)).2
  have BB1 : Hid (Below _ _ w1) := B1
  clear B1 H hbig A1
  generalize FL L = F at *
  generalize L.length = n at *
  by_cases hR : Right F n
  · have HR : Hid (Right F n) := hR
    have HRG : Hid (Right (intF F n n) n) := intF_right hR
    have HT : Hid (total (intF F n n) n = total F n + intS F n n) := int_total F n n (Nat.le_refl _)
    obtain ⟨t1, t2⟩ := total_bd hR n (Nat.le_refl _)
    obtain ⟨t3, t4⟩ := intS_bd hR n (Nat.le_refl _)
    have t1' : -12000000000000 ≤ total F n := by omega
    have t2' : total F n ≤ 12000000000000 := by omega
    have t3' : -36000000000 ≤ intS F n n := by omega
    have t4' : intS F n n ≤ 36000000000 := by omega
    clear hR t1 t2 t3 t4
    go_wp2_with fail
    refine (implInterest_yes fa n fc F _ F1.out HR.out).mono ?_
    rintro e w2 ⟨v, rfl, A2, B2⟩
    obtain ⟨ga, gc, hv, G2⟩ := fo_accs (X := intF F n n) A2 hl
    subst hv
    have F2 : Hid (Fo w2 fa n F) := F1.out.below B2
    have G2' : Hid (Fo w2 ga n (intF F n n)) := G2
    have BB2 : Hid (Below _ _ w2) := BB1.out.trans (B2.mono BB1.out.size)
    clear B2 F1 BB1 G2 A2
    go_wp2_with fail
    refine (specInt_yes fa n fc F _ F2.out HR.out).mono ?_
    rintro e w3 ⟨v, rfl, A3, B3⟩
    obtain ⟨sa, sc, hv, S3⟩ := fo_accs (X := intF F n n) A3 hl
    subst hv
    have F3 : Hid (Fo w3 fa n F) := F2.out.below B3
    have G3 : Hid (Fo w3 ga n (intF F n n)) := G2'.out.below B3
    have S3' : Hid (Fo w3 sa n (intF F n n)) := S3
    have BB3 : Hid (Below _ _ w3) := BB2.out.trans (B3.mono BB2.out.size)
    clear B3 F2 BB2 G2' A3 S3
    have HS : Hid (intS F n n = intS F n n) := rfl
    have hss : (intS F n n != intS F n n) = false := by simp
    go_wp2_with fail
    refine (sameForest_same ga sa n gc sc (intF F n n) _ G3.out S3'.out).mono ?_
    rintro e w4 ⟨rfl, B4⟩
    have F4 : Hid (Fo w4 fa n F) := F3.out.below B4
    have G4 : Hid (Fo w4 ga n (intF F n n)) := G3.out.below B4
    have BB4 : Hid (Below _ _ w4) := BB3.out.trans (B4.mono BB3.out.size)
    clear B4 F3 BB3 G3 S3'
    go_wp2_with fail
    refine (specOk_yes fa n fc F _ F4.out HR.out).mono ?_
    rintro e w5 ⟨rfl, B5⟩
    have F5 : Hid (Fo w5 fa n F) := F4.out.below B5
    have G5 : Hid (Fo w5 ga n (intF F n n)) := G4.out.below B5
    have BB5 : Hid (Below _ _ w5) := BB4.out.trans (B5.mono BB4.out.size)
    clear B5 F4 BB4 G4
    go_wp2
    go_loopw [8] (fun q wr => ∃ k : Nat, k ≤ n ∧ q = .int .i64 k ∧ Hid (Below w5.heap.size w5 wr)) (fun q _ => n - (ctr q).toNat)
    case atStart => exact ⟨0, Nat.zero_le _, rfl, Below.refl _ _⟩
    case round =>
      obtain ⟨k, hk, rfl, hB⟩ := hrel
      have FR : Hid (Fo wr fa n F) := F5.out.below hB.out
      have GR : Hid (Fo wr ga n (intF F n n)) := G5.out.below hB.out
      by_cases hlt : k < n
      · have hO : Hid (okS (F k)) := HR.out.2.1 k hlt
        obtain ⟨x, y, b, hxb, hb, hxy, cA⟩ := accr_any (F k) (sumAll F n k) hO.out
        have hcs := int_cases hb hxy hO.out
        have CA : Hid (∀ w, Calls Try.prog 12 #[.int .i64 (sumAll F n k), .int .i64 (F k).rate, .int .i64 (F k).carry] w fun e w' => e = .returned (.tuple #[.int .i64 x, .int .i64 y, .bool b]) ∧ w' = w) := cA
        obtain ⟨b1, o1, rfl, hz1, p0, _⟩ := FR.out.acc hlt
        clear cA hb hxy
        go_wp2_with fail
        refine (implSumOf_yes _ n fc F (F k).id k _ FR.out HR.out (place_self HR.out.2.2.1 hlt)).mono ?_
        rintro e w6 ⟨rfl, B6⟩
        have B6' : Hid (Below w5.heap.size w5 w6) := hB.out.trans (B6.mono hB.out.size)
        obtain ⟨b1', o1', hbo, hz1', c0, c1, c2, c3, c4, c5, c6, c7⟩ := (FR.out.below B6).acc hlt
        obtain ⟨rfl, rfl⟩ : b1 = b1' ∧ o1 = o1' := by simpa using hbo
        obtain ⟨b2, o2, rfl, hz2, d0, d1, d2, d3, d4, d5, d6, d7⟩ := (GR.out.below B6).acc hlt
        have hgk : intF F n n k = intA F n k := by rw [intF, if_pos hlt]
        rw [hgk] at d0 d1 d2 d3 d4 d5 d6 d7
        have hbal := hO.out.2.2.2.2.2.1
        clear B6 hB FR GR p0 hz1 hgk hbo
        generalize sumAll F n k = s at *
        generalize intA F n k = g at *
        generalize hX : F k = X at *
        clear hX
        go_upto_region 12 with fail
        obtain ⟨hx1, hx2⟩ := hxb
        obtain ⟨hb1, hb2⟩ := hbal
        rcases hcs with ⟨hu, hg⟩ | ⟨hu, hr, hg⟩ | ⟨hu, hr, hbb, hg⟩ | ⟨hu, hr, hbb, hx0, hg⟩ | ⟨hu, hr, hbb, hg⟩
        · have u1 : (X.up != 0) = true := by simp [hu]
          have u2 : (X.up == 0) = false := by simp [hu]
          clear hu
          subst hg
          go_quiet ((go_at_call 12; exact Calls.quiet_of_same (CA.out _)))
          go_upto_region 13 with fail
          dsimp only [List.append]
          go_big_quiet (fail)
          go_wp2
          go_roundw
          case rel => exact ⟨k + 1, by omega, by go_num, below_drewN B6'.out _⟩
          case measure => simp [ctr]; omega
        · have u1 : (X.up != 0) = false := by simp [hu]
          have u2 : (X.up == 0) = true := by simp [hu]
          clear hu
          have r1 : decide (0 < X.rate) = false := by simp [hr]
          clear hr
          subst hg
          cases b with
          | false =>
            go_quiet ((go_at_call 12; exact Calls.quiet_of_same (CA.out _)))
            go_upto_region 13 with fail
            dsimp only [List.append]
            go_big_quiet (fail)
            go_wp2
            go_roundw
            case rel => exact ⟨k + 1, by omega, by go_num, below_drewN B6'.out _⟩
            case measure => simp [ctr]; omega
          | true =>
            go_quiet ((go_at_call 12; exact Calls.quiet_of_same (CA.out _)))
            go_upto_region 13 with fail
            dsimp only [List.append]
            go_big_quiet (fail)
            go_wp2
            go_roundw
            case rel => exact ⟨k + 1, by omega, by go_num, below_drewN B6'.out _⟩
            case measure => simp [ctr]; omega
        · have u1 : (X.up != 0) = false := by simp [hu]
          have u2 : (X.up == 0) = true := by simp [hu]
          clear hu
          have r1 : decide (0 < X.rate) = true := by simp [hr]
          clear hr
          subst hg hbb
          go_quiet ((go_at_call 12; exact Calls.quiet_of_same (CA.out _)))
          go_upto_region 13 with fail
          dsimp only [List.append]
          go_big_quiet (fail)
          go_wp2
          go_roundw
          case rel => exact ⟨k + 1, by omega, by go_num, below_drewN B6'.out _⟩
          case measure => simp [ctr]; omega
        · have u1 : (X.up != 0) = false := by simp [hu]
          have u2 : (X.up == 0) = true := by simp [hu]
          clear hu
          have r1 : decide (0 < X.rate) = true := by simp [hr]
          have n1 : (X.balance != X.balance + x) = true := by simp; omega
          have n2 : (X.balance == X.balance + x) = false := by simp; omega
          clear hr hx0
          subst hg hbb
          go_quiet ((go_at_call 12; exact Calls.quiet_of_same (CA.out _)))
          go_upto_region 13 with fail
          dsimp only [List.append]
          go_big_quiet (fail)
          go_wp2
          go_roundw
          case rel => exact ⟨k + 1, by omega, by go_num, below_drewN B6'.out _⟩
          case measure => simp [ctr]; omega
        · have u1 : (X.up != 0) = false := by simp [hu]
          have u2 : (X.up == 0) = true := by simp [hu]
          clear hu
          have r1 : decide (0 < X.rate) = true := by simp [hr]
          clear hr
          subst hg hbb
          go_quiet ((go_at_call 12; exact Calls.quiet_of_same (CA.out _)))
          go_upto_region 13 with fail
          dsimp only [List.append]
          go_big_quiet (fail)
          go_wp2
          go_roundw
          case rel => exact ⟨k + 1, by omega, by go_num, below_drewN B6'.out _⟩
          case measure => simp [ctr]; omega
      · obtain rfl : k = n := by omega
        go_wp2_with fail
        refine (implTotal_yes ga k gc (intF F k k) _ GR.out HRG.out).mono ?_
        rintro e w6 ⟨rfl, B6⟩
        have FR6 : Hid (Fo w6 fa k F) := FR.out.below B6
        have GR6 : Hid (Fo w6 ga k (intF F k k)) := GR.out.below B6
        have B6' : Hid (Below w5.heap.size w5 w6) := hB.out.trans (B6.mono hB.out.size)
        clear B6 FR GR hB
        go_wp2_with fail
        refine (implTotal_yes fa k fc F _ FR6.out HR.out).mono ?_
        rintro e w7 ⟨rfl, B7⟩
        have GR7 : Hid (Fo w7 ga k (intF F k k)) := GR6.out.below B7
        have B7' : Hid (Below w5.heap.size w5 w7) := B6'.out.trans (B7.mono B6'.out.size)
        clear B7 GR6 B6' FR6
        have HT' : total (intF F k k) k = total F k + intS F k k := HT.out
        rw [HT']
        clear HT HT'
        go_wp2_with (go_at_call 14; refine (implOk_yes ga k gc (intF F k k) _ GR7.out HRG.out).mono ?_; rintro e w8 ⟨rfl, B8⟩)
        go_ret
        exact ⟨rfl, BB5.out.trans ((B7'.out.trans (B8.mono B7'.out.size)).mono BB5.out.size)⟩
  · have HR : Hid (¬ Right F n) := hR
    clear hR
    go_wp2_with fail
    refine (implInterest_no fa n fc F _ F1.out HR.out).mono ?_
    rintro e w2 ⟨rfl, B2⟩
    have F2 : Hid (Fo w2 fa n F) := F1.out.below B2
    have BB2 : Hid (Below _ _ w2) := BB1.out.trans (B2.mono BB1.out.size)
    clear B2 F1 BB1
    go_wp2_with fail
    refine (specInt_no fa n fc F _ F2.out HR.out).mono ?_
    rintro e w3 ⟨rfl, B3⟩
    have F3 : Hid (Fo w3 fa n F) := F2.out.below B3
    have BB3 : Hid (Below _ _ w3) := BB2.out.trans (B3.mono BB2.out.size)
    clear B3 F2 BB2
    go_wp2_with fail
    refine (sameForest_same none none 0 0 0 F _ ⟨by omega, Or.inl rfl⟩ ⟨by omega, Or.inl rfl⟩).mono ?_
    rintro e w4 ⟨rfl, B4⟩
    have F4 : Hid (Fo w4 fa n F) := F3.out.below B4
    have BB4 : Hid (Below _ _ w4) := BB3.out.trans (B4.mono BB3.out.size)
    clear B4 F3 BB3
    go_wp2_with fail
    refine (specOk_no fa n fc F _ F4.out HR.out).mono ?_
    rintro e w5 ⟨rfl, B5⟩
    have BB5 : Hid (Below _ _ w5) := BB4.out.trans (B5.mono BB4.out.size)
    clear B5 F4 BB4
    go_wp2_with (go_at_call 9; refine (sameForest_same none none 0 0 0 F _ ⟨by omega, Or.inl rfl⟩ ⟨by omega, Or.inl rfl⟩).mono ?_; rintro e w6 ⟨rfl, B6⟩)
    go_ret
    exact ⟨rfl, BB5.out.trans (B6.mono BB5.out.size)⟩
end Go.Proofs.Ytleblllofibfkaa
