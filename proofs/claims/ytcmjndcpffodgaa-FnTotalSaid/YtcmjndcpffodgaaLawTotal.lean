/- The law FnTotal returns true, whatever the bytes of the code: all there is are the sums of the roots. Conditions: the bytes lie in memory. -/
import Derived.Test.YtcmjndcpffodgaaDraws
namespace Go.Proofs.Ytcmjndcpffodgaa
open Go.RowKit

/-- On each path there is just one root. -/
theorem roots_on {F : Nat → Acc} {n : Nat} (h : Right F n) : ∀ (d j : Nat), j < n → (pathL F n j).length ≤ d → sumTo (fun i => if (F i).up = 0 then on F n i j else 0) n = 1
  | 0, j, hj, hd => by
    by_cases hu : (F j).up = 0
    · rw [h.path_root hj hu] at hd; simp at hd
    · obtain ⟨p, _, _, e⟩ := h.path_up hj hu
      rw [e] at hd; simp at hd
  | d + 1, j, hj, hd => by
    by_cases hu : (F j).up = 0
    · have e : sumTo (fun i => if (F i).up = 0 then on F n i j else 0) n = sumTo (fun i => if i = j then 1 else 0) n := by
        refine sumTo_congr (fun i hi => ?_)
        by_cases eij : i = j
        · subst eij
          rw [if_pos hu, if_pos rfl, on_root h hi hj hu, if_pos rfl]
        · rw [if_neg eij]
          by_cases hui : (F i).up = 0
          · rw [if_pos hui, on_root h hi hj hu, if_neg eij]
          · rw [if_neg hui]
      rw [e, sumTo_single, if_pos hj]
    · obtain ⟨p, hp, _, e⟩ := h.path_up hj hu
      have ih := roots_on h d p hp (by rw [e] at hd; simp at hd; omega)
      rw [← ih]
      refine sumTo_congr (fun i hi => ?_)
      by_cases hui : (F i).up = 0
      · rw [if_pos hui, if_pos hui, on_up h hi hj hp e]
        have eij : i ≠ j := fun e' => hu (by rw [← e']; exact hui)
        rw [if_neg eij]; omega
      · rw [if_neg hui, if_neg hui]
/-- The sums of those of the first k accounts that are roots. -/
def rootSum (F : Nat → Acc) (n k : Nat) : Int := sumTo (fun i => if (F i).up = 0 then sumAll F n i else 0) k
theorem rootSum_hit {F : Nat → Acc} {n k : Nat} (h : (F k).up = 0) : rootSum F n (k + 1) = rootSum F n k + sumAll F n k := by simp [rootSum, sumTo, h]
theorem rootSum_miss {F : Nat → Acc} {n k : Nat} (h : (F k).up ≠ 0) : rootSum F n (k + 1) = rootSum F n k := by simp [rootSum, sumTo, h]
theorem rootSum_bd {F : Nat → Acc} {n : Nat} (h : Right F n) : ∀ k : Nat, -(12000000000000 * (k : Int)) ≤ rootSum F n k ∧ rootSum F n k ≤ 12000000000000 * (k : Int)
  | 0 => by simp [rootSum, sumTo]
  | k + 1 => by
    have ih := rootSum_bd h k
    have b := sumAll_bd h k
    by_cases hu : (F k).up = 0
    · rw [rootSum_hit hu]; omega
    · rw [rootSum_miss hu]; omega
theorem total_sumTo (F : Nat → Acc) : ∀ k, total F k = sumTo (fun j => (F j).balance) k
  | 0 => rfl
  | k + 1 => by simp only [total, sumTo]; rw [total_sumTo F k]
theorem total_roots {F : Nat → Acc} {n : Nat} (h : Right F n) : total F n = rootSum F n n := by
  have e1 : rootSum F n n = sumTo (fun i => sumTo (fun j => (if (F i).up = 0 then on F n i j else 0) * (F j).balance) n) n := by
    refine sumTo_congr (fun i _ => ?_)
    by_cases hu : (F i).up = 0
    · simp only [if_pos hu]; rfl
    · simp only [if_neg hu, Int.zero_mul]; exact (sumTo_zero n).symm
  rw [e1, sumTo_swap, total_sumTo]
  refine sumTo_congr (fun j hj => ?_)
  rw [sumTo_mul, roots_on h _ j hj (Nat.le_refl _)]
  omega

set_option maxHeartbeats 2000000 in
theorem lawTotal (a : Option Addr) (len cap : Nat) (w : World) (h : Code w a len) :
    Calls Try.prog 8 #[.slice a len cap] w fun e w' => e = .returned (.bool true) ∧ Below w.heap.size w w' := by
  have H : Hid (Code w a len) := h
  clear h
  by_cases hbig : 1048576 < len
  · go_enter Try.func8, Try.ntmps8
    go_wp2_with (go_at_call 19; refine (big_yes _ _ _ _ hbig).mono ?_; rintro e w' ⟨rfl, rfl⟩)
    go_ret
    exact ⟨rfl, Below.refl _ _⟩
  go_enter Try.func8, Try.ntmps8
  go_wp2_with (go_at_call 19; refine (big_no _ _ _ _ (by omega)).mono ?_; rintro e w' ⟨rfl, rfl⟩)
  refine (drawTotalOf a len cap _ H.out).mono ?_
  rintro e w1 ⟨v, L, rfl, hl, A1, B1⟩
  obtain ⟨fa, fc, hv⟩ := A1.len
  subst hv
  have F1 : Hid (Fo w1 fa L.length (FL L)) := (A1.fo (by omega)).2
  have BB1 : Hid (Below _ _ w1) := B1
  clear B1 H hbig A1
  by_cases hR : Right (FL L) L.length
  · have HR : Hid (Right (FL L) L.length) := hR
    have HT : Hid (total (FL L) L.length = rootSum (FL L) L.length L.length) := total_roots hR
    clear hR
    go_wp2_with fail
    refine (implTotal_yes fa L.length fc (FL L) _ F1.out HR.out).mono ?_
    rintro e w2 ⟨rfl, B2⟩
    have F2 : Hid (Fo w2 fa L.length (FL L)) := F1.out.below B2
    have BB2 : Hid (Below _ _ w2) := BB1.out.trans (B2.mono BB1.out.size)
    clear B2 F1 BB1
    go_wp2_with fail
    refine (specTotal_yes fa L.length fc (FL L) _ F2.out HR.out).mono ?_
    rintro e w3 ⟨rfl, B3⟩
    have F3 : Hid (Fo w3 fa L.length (FL L)) := F2.out.below B3
    have BB3 : Hid (Below _ _ w3) := BB2.out.trans (B3.mono BB2.out.size)
    clear B3 F2 BB2
    go_wp2_with fail
    refine (specOk_yes fa L.length fc (FL L) _ F3.out HR.out).mono ?_
    rintro e w4 ⟨rfl, B4⟩
    have F4 : Hid (Fo w4 fa L.length (FL L)) := F3.out.below B4
    have BB4 : Hid (Below _ _ w4) := BB3.out.trans (B4.mono BB3.out.size)
    clear B4 F3 BB3
    generalize total (FL L) L.length = T at *
    go_wp2
    go_loopw [5, 6] (fun s q wr => ∃ k : Nat, k ≤ L.length ∧ q = .int .i64 k ∧ s = .int .i64 (rootSum (FL L) L.length k) ∧ Hid (Below w4.heap.size w4 wr)) (fun _ q _ => L.length - (intOf q).toNat)
    case atStart => exact ⟨0, Nat.zero_le _, rfl, rfl, Below.refl _ _⟩
    case round =>
      obtain ⟨k, hk, rfl, rfl, hB⟩ := hrel
      obtain ⟨rb1, rb2⟩ := rootSum_bd HR.out k
      have FR : Hid (Fo wr fa L.length (FL L)) := F4.out.below hB.out
      by_cases hlt : k < L.length
      · obtain ⟨b, o, rfl, hb0, hA⟩ := FR.out.acc hlt
        obtain ⟨c0, c1, c2, c3, c4, c5, c6, c7⟩ := hA
        clear c2 c3 c4 c5 c6 c7
        obtain ⟨sb1, sb2⟩ := sumAll_bd HR.out k
        by_cases hu : (FL L k).up = 0
        · have hub : ((FL L k).up == 0) = true := by simp [hu]
          have HK : Hid (rootSum (FL L) L.length (k + 1) = rootSum (FL L) L.length k + sumAll (FL L) L.length k) := rootSum_hit hu
          clear hu
          go_wp2_with fail
          refine (implSumOf_yes _ L.length fc (FL L) (FL L k).id k _ FR.out HR.out (place_self HR.out.2.2.1 hlt)).mono ?_
          rintro e w5 ⟨rfl, B5⟩
          have B5' : Hid (Below w4.heap.size w4 w5) := hB.out.trans (B5.mono hB.out.size)
          clear B5
          go_wp2
          go_roundw
          case rel => exact ⟨k + 1, by omega, by go_num, by rw [HK.out], B5'⟩
          case measure => simp [intOf]; omega
        · have hub : ((FL L k).up == 0) = false := by simp [hu]
          have HK : Hid (rootSum (FL L) L.length (k + 1) = rootSum (FL L) L.length k) := rootSum_miss hu
          clear hu
          go_wp2
          go_roundw
          case rel => exact ⟨k + 1, by omega, by go_num, by rw [HK.out], hB⟩
          case measure => simp [intOf]; omega
      · have hkn : k = L.length := by omega
        subst hkn
        rw [← HT.out]
        go_wp2
        go_ret
        exact ⟨by simp, BB4.out.trans (hB.out.mono BB4.out.size)⟩
  · have HR : Hid (¬ Right (FL L) L.length) := hR
    clear hR
    go_wp2_with fail
    refine (implTotal_no fa L.length fc (FL L) _ F1.out HR.out).mono ?_
    rintro e w2 ⟨rfl, B2⟩
    have F2 : Hid (Fo w2 fa L.length (FL L)) := F1.out.below B2
    have BB2 : Hid (Below _ _ w2) := BB1.out.trans (B2.mono BB1.out.size)
    clear B2 F1 BB1
    go_wp2_with fail
    refine (specTotal_no fa L.length fc (FL L) _ F2.out HR.out).mono ?_
    rintro e w3 ⟨rfl, B3⟩
    have F3 : Hid (Fo w3 fa L.length (FL L)) := F2.out.below B3
    have BB3 : Hid (Below _ _ w3) := BB2.out.trans (B3.mono BB2.out.size)
    clear B3 F2 BB2
    go_wp2_with fail
    refine (specOk_no fa L.length fc (FL L) _ F3.out HR.out).mono ?_
    rintro e w4 ⟨rfl, B4⟩
    have F4 : Hid (Fo w4 fa L.length (FL L)) := F3.out.below B4
    have BB4 : Hid (Below _ _ w4) := BB3.out.trans (B4.mono BB3.out.size)
    clear B4 F3 BB3
    go_wp2_with fail
    refine (specTotal_no fa L.length fc (FL L) _ F4.out HR.out).mono ?_
    rintro e w5 ⟨rfl, B5⟩
    have BB5 : Hid (Below _ _ w5) := BB4.out.trans (B5.mono BB4.out.size)
    clear B5
    go_wp2
    go_ret
    exact ⟨rfl, BB5.out⟩
end Go.Proofs.Ytcmjndcpffodgaa
