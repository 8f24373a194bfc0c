/- The law FnDueOn returns true, whatever the bytes. Conditions: the bytes lie in memory. -/
import Derived.Test.YtlndklendejjdaaRdOrds
import Derived.Test.YtlndklendejjdaaDueOn
import Derived.Test.YtlndklendejjdaaDueM
import Derived.Test.YtlndklendejjdaaLawBNew
namespace Go.Proofs.Ytlndklendejjdaa
open Go.RowKit

theorem dueUp_prefix (F : Nat → Ord) (d : Int) (k : Nat) : ∀ m, k ≤ m → ∃ r, dueUp F d m = dueUp F d k ++ r := by
  intro m
  induction m with
  | zero => intro h; have : k = 0 := by omega
            subst this; exact ⟨[], by simp⟩
  | succ m ih =>
    intro h
    by_cases e : k = m + 1
    · subst e; exact ⟨[], by simp⟩
    · obtain ⟨r, hr⟩ := ih (by omega)
      by_cases hi : isDue (F m) d
      · exact ⟨r ++ [F m], by rw [dueUp_yes hi, hr, List.append_assoc]⟩
      · exact ⟨r, by rw [dueUp_no hi, hr]⟩
theorem dueUp_at {F : Nat → Ord} {d : Int} {i n : Nat} (hi : i < n) (h : isDue (F i) d) : ∃ hl : (dueUp F d i).length < (dueUp F d n).length, (dueUp F d n)[(dueUp F d i).length] = F i := by
  obtain ⟨r, hr⟩ := dueUp_prefix F d (i + 1) n hi
  rw [dueUp_yes h] at hr
  have hl : (dueUp F d i).length < (dueUp F d n).length := by rw [hr]; simp
  refine ⟨hl, ?_⟩
  simp only [hr]
  simp

set_option maxRecDepth 8000 in
set_option maxHeartbeats 4000000 in
theorem lawFnDueOn (a : Option Addr) (len cap : Nat) (w : World) (h : Code w a len) :
    Calls Try.prog 11 #[.slice a len cap] w fun e w' => e = .returned (.bool true) ∧ Below w.heap.size w w' := by
  have H : Hid (Code w a len) := h
  clear h
  by_cases hb : len ≤ 1048576
  rotate_left
  · go_enter Try.func11, Try.ntmps11
    go_wp2_with fail
    refine (big_yes a len cap _ (by omega)).mono ?_
    rintro e w1 ⟨rfl, hw⟩
    subst w1
    go_wp2
    go_ret
    exact ⟨rfl, Below.refl _ _⟩
  go_enter Try.func11, Try.ntmps11
  go_wp2_with fail
  refine (big_no a len cap _ hb).mono ?_
  rintro e w1 ⟨rfl, hw⟩
  subst w1
  go_wp2_with fail
  refine (drawDueOn a len cap _ H.out).mono ?_
  rintro e w1 ⟨av, cv, L, z, rfl, hL, A1, B1⟩
  have X1 : Hid (OrdL w1 w.heap.size (.slice av L.length cv) L ∧ Below w.heap.size w w1) := ⟨A1, B1⟩
  clear B1 H A1
  have hD := dueL_len (OrdF L) L.length z
  go_wp2_with fail
  refine (implDueOn av L.length cv (OrdF L) z _ (X1.out.1.list (by omega)).2).mono ?_
  rintro e w2 ⟨vd, rfl, A2, B2⟩
  obtain ⟨ad, cd, hvd, _, _⟩ := A2.shape
  subst hvd
  have X2 : Hid (OrdL w2 w.heap.size (.slice av L.length cv) L ∧ OrdL w2 w1.heap.size (.slice ad (dueL (OrdF L) L.length z).length cd) (dueL (OrdF L) L.length z) ∧ Below w.heap.size w w2) := ⟨X1.out.1.kept B2, A2, X1.out.2.trans (B2.mono X1.out.2.size)⟩
  clear B2 A2 X1
  by_cases hR : RightO (OrdF L) L.length
  rotate_left
  · have HR : Hid (¬ RightO (OrdF L) L.length) := hR
    clear hR
    go_wp2_with fail
    refine (specDueOn av L.length cv (OrdF L) z _ (X2.out.1.list (by omega)).2).mono ?_
    rintro e w3 ⟨vs, rfl, A3, B3⟩
    have X3 : Hid (OrdL w3 w.heap.size (.slice av L.length cv) L ∧ OrdL w3 w1.heap.size (.slice ad (dueL (OrdF L) L.length z).length cd) (dueL (OrdF L) L.length z) ∧ Below w.heap.size w w3) := ⟨X2.out.1.kept B3, X2.out.2.1.kept B3, X2.out.2.2.trans (B3.mono X2.out.2.2.size)⟩
    obtain ⟨ax, cx, hvs, _, _⟩ := A3.shape
    subst hvs
    have A3' : Hid (OrdL w3 w2.heap.size (.slice ax (dueL (OrdF L) L.length z).length cx) (dueL (OrdF L) L.length z)) := A3
    clear B3 A3 X2
    go_wp2_with fail
    refine (sameOrders_same _ _ _ _ _ (OrdF (dueL (OrdF L) L.length z)) _ (X3.out.2.1.list (by omega)).2 (A3'.out.list (by omega)).2).mono ?_
    rintro e w4 ⟨rfl, B4⟩
    have X4 : Hid (OrdL w4 w.heap.size (.slice av L.length cv) L ∧ OrdL w4 w1.heap.size (.slice ad (dueL (OrdF L) L.length z).length cd) (dueL (OrdF L) L.length z) ∧ Below w.heap.size w w4) := ⟨X3.out.1.kept B4, X3.out.2.1.kept B4, X3.out.2.2.trans (B4.mono X3.out.2.2.size)⟩
    clear B4 X3 A3'
    go_wp2_with fail
    refine (implOrds_no av L.length cv (OrdF L) _ (X4.out.1.list (by omega)).2 HR.out).mono ?_
    rintro e w5 ⟨rfl, B5⟩
    have X5 : Hid (OrdL w5 w.heap.size (.slice av L.length cv) L ∧ OrdL w5 w1.heap.size (.slice ad (dueL (OrdF L) L.length z).length cd) (dueL (OrdF L) L.length z) ∧ Below w.heap.size w w5) := ⟨X4.out.1.kept B5, X4.out.2.1.kept B5, X4.out.2.2.trans (B5.mono X4.out.2.2.size)⟩
    clear B5 X4
    go_wp2_with fail
    refine (specOrds_no av L.length cv (OrdF L) _ (X5.out.1.list (by omega)).2 HR.out).mono ?_
    rintro e w6 ⟨rfl, B6⟩
    have X6 : Hid (OrdL w6 w.heap.size (.slice av L.length cv) L ∧ OrdL w6 w1.heap.size (.slice ad (dueL (OrdF L) L.length z).length cd) (dueL (OrdF L) L.length z) ∧ Below w.heap.size w w6) := ⟨X5.out.1.kept B6, X5.out.2.1.kept B6, X5.out.2.2.trans (B6.mono X5.out.2.2.size)⟩
    clear B6 X5
    go_wp2_with fail
    refine (specOrds_no av L.length cv (OrdF L) _ (X6.out.1.list (by omega)).2 HR.out).mono ?_
    rintro e w7 ⟨rfl, B7⟩
    have X7 : Hid (OrdL w7 w.heap.size (.slice av L.length cv) L ∧ OrdL w7 w1.heap.size (.slice ad (dueL (OrdF L) L.length z).length cd) (dueL (OrdF L) L.length z) ∧ Below w.heap.size w w7) := ⟨X6.out.1.kept B7, X6.out.2.1.kept B7, X6.out.2.2.trans (B7.mono X6.out.2.2.size)⟩
    clear B7 X6
    go_wp2_with fail
    refine (specDueOn av L.length cv (OrdF L) z _ (X7.out.1.list (by omega)).2).mono ?_
    rintro e w8 ⟨vs, rfl, A8, B8⟩
    have X8 : Hid (OrdL w8 w.heap.size (.slice av L.length cv) L ∧ OrdL w8 w1.heap.size (.slice ad (dueL (OrdF L) L.length z).length cd) (dueL (OrdF L) L.length z) ∧ Below w.heap.size w w8) := ⟨X7.out.1.kept B8, X7.out.2.1.kept B8, X7.out.2.2.trans (B8.mono X7.out.2.2.size)⟩
    obtain ⟨ax, cx, hvs, _, _⟩ := A8.shape
    subst hvs
    have A8' : Hid (OrdL w8 w7.heap.size (.slice ax (dueL (OrdF L) L.length z).length cx) (dueL (OrdF L) L.length z)) := A8
    clear B8 A8 X7
    go_wp2_with fail
    refine (sameOrders_same _ _ _ _ _ (OrdF (dueL (OrdF L) L.length z)) _ (X8.out.2.1.list (by omega)).2 (A8'.out.list (by omega)).2).mono ?_
    rintro e w9 ⟨rfl, B9⟩
    have X9 : Hid (OrdL w9 w.heap.size (.slice av L.length cv) L ∧ OrdL w9 w1.heap.size (.slice ad (dueL (OrdF L) L.length z).length cd) (dueL (OrdF L) L.length z) ∧ Below w.heap.size w w9) := ⟨X8.out.1.kept B9, X8.out.2.1.kept B9, X8.out.2.2.trans (B9.mono X8.out.2.2.size)⟩
    clear B9 X8 A8'
    go_wp2_with fail
    refine (implOrds_no av L.length cv (OrdF L) _ (X9.out.1.list (by omega)).2 HR.out).mono ?_
    rintro e w10 ⟨rfl, B10⟩
    have X10 : Hid (OrdL w10 w.heap.size (.slice av L.length cv) L ∧ OrdL w10 w1.heap.size (.slice ad (dueL (OrdF L) L.length z).length cd) (dueL (OrdF L) L.length z) ∧ Below w.heap.size w w10) := ⟨X9.out.1.kept B10, X9.out.2.1.kept B10, X9.out.2.2.trans (B10.mono X9.out.2.2.size)⟩
    clear B10 X9
    go_wp2_with fail
    refine (specOrds_no av L.length cv (OrdF L) _ (X10.out.1.list (by omega)).2 HR.out).mono ?_
    rintro e w11 ⟨rfl, B11⟩
    have X11 : Hid (OrdL w11 w.heap.size (.slice av L.length cv) L ∧ OrdL w11 w1.heap.size (.slice ad (dueL (OrdF L) L.length z).length cd) (dueL (OrdF L) L.length z) ∧ Below w.heap.size w w11) := ⟨X10.out.1.kept B11, X10.out.2.1.kept B11, X10.out.2.2.trans (B11.mono X10.out.2.2.size)⟩
    clear B11 X10
    go_wp2
    go_ret
    exact ⟨rfl, X11.out.2.2⟩
  have HR : Hid (RightO (OrdF L) L.length) := hR
  have ED : Hid (dueL (OrdF L) L.length z = dueUp (OrdF L) z L.length) := if_pos hR
  clear hR
  go_wp2_with fail
  refine (specDueOn av L.length cv (OrdF L) z _ (X2.out.1.list (by omega)).2).mono ?_
  rintro e w3 ⟨vs, rfl, A3, B3⟩
  have X3 : Hid (OrdL w3 w.heap.size (.slice av L.length cv) L ∧ OrdL w3 w1.heap.size (.slice ad (dueL (OrdF L) L.length z).length cd) (dueL (OrdF L) L.length z) ∧ Below w.heap.size w w3) := ⟨X2.out.1.kept B3, X2.out.2.1.kept B3, X2.out.2.2.trans (B3.mono X2.out.2.2.size)⟩
  obtain ⟨ax, cx, hvs, _, _⟩ := A3.shape
  subst hvs
  have A3' : Hid (OrdL w3 w2.heap.size (.slice ax (dueL (OrdF L) L.length z).length cx) (dueL (OrdF L) L.length z)) := A3
  clear B3 A3 X2
  go_wp2_with fail
  refine (sameOrders_same _ _ _ _ _ (OrdF (dueL (OrdF L) L.length z)) _ (X3.out.2.1.list (by omega)).2 (A3'.out.list (by omega)).2).mono ?_
  rintro e w4 ⟨rfl, B4⟩
  have X4 : Hid (OrdL w4 w.heap.size (.slice av L.length cv) L ∧ OrdL w4 w1.heap.size (.slice ad (dueL (OrdF L) L.length z).length cd) (dueL (OrdF L) L.length z) ∧ Below w.heap.size w w4) := ⟨X3.out.1.kept B4, X3.out.2.1.kept B4, X3.out.2.2.trans (B4.mono X3.out.2.2.size)⟩
  clear B4 X3 A3'
  go_wp2_with fail
  refine (implOrds_yes av L.length cv (OrdF L) _ (X4.out.1.list (by omega)).2 HR.out).mono ?_
  rintro e w5 ⟨rfl, B5⟩
  have X5 : Hid (OrdL w5 w.heap.size (.slice av L.length cv) L ∧ OrdL w5 w1.heap.size (.slice ad (dueL (OrdF L) L.length z).length cd) (dueL (OrdF L) L.length z) ∧ Below w.heap.size w w5) := ⟨X4.out.1.kept B5, X4.out.2.1.kept B5, X4.out.2.2.trans (B5.mono X4.out.2.2.size)⟩
  clear B5 X4
  go_wp2_with fail
  refine (specOrds_yes av L.length cv (OrdF L) _ (X5.out.1.list (by omega)).2 HR.out).mono ?_
  rintro e w6 ⟨rfl, B6⟩
  have X6 : Hid (OrdL w6 w.heap.size (.slice av L.length cv) L ∧ OrdL w6 w1.heap.size (.slice ad (dueL (OrdF L) L.length z).length cd) (dueL (OrdF L) L.length z) ∧ Below w.heap.size w w6) := ⟨X5.out.1.kept B6, X5.out.2.1.kept B6, X5.out.2.2.trans (B6.mono X5.out.2.2.size)⟩
  clear B6 X5
  go_wp2_with fail
  refine (specOrds_yes av L.length cv (OrdF L) _ (X6.out.1.list (by omega)).2 HR.out).mono ?_
  rintro e w7 ⟨rfl, B7⟩
  have X7 : Hid (OrdL w7 w.heap.size (.slice av L.length cv) L ∧ OrdL w7 w1.heap.size (.slice ad (dueL (OrdF L) L.length z).length cd) (dueL (OrdF L) L.length z) ∧ Below w.heap.size w w7) := ⟨X6.out.1.kept B7, X6.out.2.1.kept B7, X6.out.2.2.trans (B7.mono X6.out.2.2.size)⟩
  clear B7 X6
  obtain ⟨D, hDe⟩ : ∃ D, D = dueL (OrdF L) L.length z := ⟨_, rfl⟩
  have Y7 : Hid (OrdL w7 w.heap.size (.slice av L.length cv) L ∧ OrdL w7 w1.heap.size (.slice ad D.length cd) D ∧ Below w.heap.size w w7) := by rw [hDe]; exact X7.out
  have HDe : Hid (D = dueUp (OrdF L) z L.length) := by rw [hDe]; exact ED.out
  rw [← hDe] at hD ⊢
  have hDl : D.length ≤ 5 := by omega
  clear X7 ED hDe
  go_wp2
  go_loopw [6, 7] (fun c i wr => ∃ (k j : Nat), k ≤ L.length ∧ j ≤ D.length ∧ i = .int .i64 k ∧ c = .int .i64 j ∧ Hid (j = (dueUp (OrdF L) z k).length) ∧ Hid (OrdL wr w.heap.size (.slice av L.length cv) L ∧ OrdL wr w1.heap.size (.slice ad D.length cd) D ∧ Below w.heap.size w wr)) (fun _ i _ => L.length - (intOf i).toNat)
  case atStart => exact ⟨0, 0, Nat.zero_le _, Nat.zero_le _, rfl, rfl, rfl, Y7⟩
  case round =>
    obtain ⟨k, j, hk, hj, rfl, rfl, hJ, hX⟩ := hrel
    clear Y7
    by_cases hlt : k < L.length
    · obtain ⟨b, q, rfl, hbz, hA⟩ := (hX.out.1.list (by omega)).2.acc hlt
      obtain ⟨c0, c1, c2, c3, c4, c5, c6⟩ := hA
      by_cases hi : isDue (OrdF L k) z
      · obtain ⟨hjl, hat⟩ := dueUp_at (F := OrdF L) hlt hi
        have HI : Hid (isDue (OrdF L k) z) := hi
        have hjl' : j < D.length := by rw [hJ.out, HDe.out]; exact hjl
        have hat' : OrdF D j = OrdF L k := by
          rw [OrdF_lt hjl']
          simp only [hJ.out, HDe.out]
          exact hat
        have HAT : Hid (OrdF D j = OrdF L k) := hat'
        have HJ1 : Hid (j + 1 = (dueUp (OrdF L) z (k + 1)).length) := by
          show j + 1 = (dueUp (OrdF L) z (k + 1)).length
          rw [dueUp_yes hi, hJ.out]; simp
        clear hi hat hat' hjl
        go_wp2_with fail
        refine (implIs_yes (OrdF L k) z _ HI.out).mono ?_
        rintro e wn ⟨rfl, Bn⟩
        have Xn : Hid (OrdL wn w.heap.size (.slice (some ⟨b, q, none⟩) L.length cv) L ∧ OrdL wn w1.heap.size (.slice ad D.length cd) D ∧ Below w.heap.size w wn) := ⟨hX.out.1.kept Bn, hX.out.2.1.kept Bn, hX.out.2.2.trans (Bn.mono hX.out.2.2.size)⟩
        clear Bn hX c0 c1 c2 c3 c4 c5 c6
        obtain ⟨b2, q2, e2, hbz2, hA2⟩ := (Xn.out.1.list (by omega)).2.acc hlt
        obtain ⟨rfl, rfl⟩ : b = b2 ∧ q = q2 := by simpa using e2
        obtain ⟨c0, c1, c2, c3, c4, c5, c6⟩ := hA2
        obtain ⟨b3, q3, rfl, hbz3, hA3⟩ := (Xn.out.2.1.list (by omega)).2.acc hjl'
        rw [HAT.out] at hA3
        obtain ⟨g0, g1, g2, g3, g4, g5, g6⟩ := hA3
        clear e2
        have hjd : decide ((D.length : Int) ≤ (j : Int)) = false := decide_eq_false (by omega)
        have hj0 : (j : Int) < (D.length : Int) := by omega
        have hk0 : (k : Int) < (L.length : Int) := by omega
        generalize OrdF L k = x at c0 c1 c2 c3 c4 c5 c6 g0 g1 g2 g3 g4 g5 g6
        go_wp2
        go_quiet (fail)
        have Xn' : Hid (OrdL (wn.drewN nq) w.heap.size (.slice (some ⟨b, q, none⟩) L.length cv) L ∧ OrdL (wn.drewN nq) w1.heap.size (.slice (some ⟨b3, q3, none⟩) D.length cd) D ∧ Below w.heap.size w (wn.drewN nq)) := ⟨Xn.out.1, Xn.out.2.1, below_drewN Xn.out.2.2 _⟩
        go_wp2
        go_roundw
        case rel => exact ⟨k + 1, j + 1, by omega, by omega, by go_num, by go_num, HJ1, Xn'⟩
        case measure => simp [intOf]; omega
      · have HI : Hid (¬ isDue (OrdF L k) z) := hi
        have HJ1 : Hid (j = (dueUp (OrdF L) z (k + 1)).length) := by
          show j = (dueUp (OrdF L) z (k + 1)).length
          rw [dueUp_no hi, hJ.out]
        clear hi
        go_wp2_with fail
        refine (implIs_no (OrdF L k) z _ HI.out).mono ?_
        rintro e wn ⟨rfl, Bn⟩
        have Xn : Hid (OrdL wn w.heap.size (.slice (some ⟨b, q, none⟩) L.length cv) L ∧ OrdL wn w1.heap.size (.slice ad D.length cd) D ∧ Below w.heap.size w wn) := ⟨hX.out.1.kept Bn, hX.out.2.1.kept Bn, hX.out.2.2.trans (Bn.mono hX.out.2.2.size)⟩
        clear Bn hX c0 c1 c2 c3 c4 c5 c6
        go_wp2
        go_roundw
        case rel => exact ⟨k + 1, j, by omega, by omega, by go_num, rfl, HJ1, Xn⟩
        case measure => simp [intOf]; omega
    · have hkn : k = L.length := by omega
      have ejd : j = D.length := by rw [hJ.out, HDe.out, hkn]
      have eb : ((j : Int) == (D.length : Int)) = true := by simp [ejd]
      clear ejd
      go_wp2
      go_ret
      exact ⟨rfl, hX.out.2.2⟩
end Go.Proofs.Ytlndklendejjdaa
