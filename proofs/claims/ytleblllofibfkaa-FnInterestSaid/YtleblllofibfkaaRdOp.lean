/- The draw of an op: some op, and the reader stays a reader. Conditions: the reader lies in memory as l1Open leaves it. -/
import Derived.Test.YtleblllofibfkaaRd2
namespace Go.Proofs.Ytleblllofibfkaa
open Go.RowKit
set_option maxRecDepth 8000

set_option maxRecDepth 4000 in
set_option maxHeartbeats 8000000 in
theorem rd_op (B : Nat) (a : Option Addr) (len cap : Nat) (w : World) (h : Rd w B a len cap) :
    Calls Try.prog 38 #[.pointer (some ⟨B, 0, none⟩)] w fun e w' => ∃ k i t m r : Int, e = .returned (.agg #[.int .i64 k, .int .i64 i, .int .i64 t, .int .i64 m, .int .i64 r]) ∧ Rd w' B a len cap ∧ Stp B w w' := by
  have H : Hid (Rd w B a len cap) := h
  have hBQ : B < w.heap.size := h.2.2.2.1
  clear h
  go_enter Try.func38, Try.ntmps38
  go_wp2_with fail
  refine (rd_id B a len cap _ (H.out.alloc _)).mono ?_
  rintro e w1 ⟨vi, rfl, vi1, vi2, R1, S1⟩
  have R1' : Hid (Rd w1 B a len cap) := R1
  have hQB : w.heap.size ≠ B := by omega
  have Q1 : Hid (OB w1 w.heap.size 0 0 0 0 0) := (OB.new w 0 0 0 0 0 68).stp S1 hQB
  have S1' : Hid (Stp B w w1) := ((Stp.refl B w).alloc _).trans S1
  have hwR : w.heap.size ≤ w1.heap.size := S1'.out.size
  have hQ1 : w.heap.size < w1.heap.size := Q1.out.1.2.2.2.2.2
  have hBR : B < w1.heap.size := by omega
  have hRB : w1.heap.size ≠ B := by omega
  have hRQ : w1.heap.size ≠ w.heap.size := by omega
  clear R1 S1
  go_wp2_with fail
  refine (rd_below B a len cap 17 _ (R1'.out.alloc _) (by omega) (by omega)).mono ?_
  rintro e x2 ⟨vk, rfl, vk1, vk2, R2, S2⟩
  have OXx2 : Hid (OB x2 w1.heap.size 0 vi 0 0 0) := (OB.new w1 0 vi 0 0 0 68).stp S2 hRB
  have QXx2 : Hid (OB x2 w.heap.size 0 0 0 0 0) := (Q1.out.alloc _).stp S2 hQB
  have RXx2 : Hid (Rd x2 B a len cap) := R2
  have SXx2 : Hid (Stp B w x2) := (S1'.out.alloc _).trans S2
  clear R2 S2 Q1 S1' R1' H
  have hvk : vk = 0 ∨ vk = 1 ∨ vk = 2 ∨ vk = 3 ∨ vk = 4 ∨ vk = 5 ∨ vk = 6 ∨ vk = 7 ∨ vk = 8 ∨ vk = 9 ∨ vk = 10 ∨ vk = 11 ∨ vk = 12 ∨ vk = 13 ∨ vk = 14 ∨ vk = 15 ∨ vk = 16 := by omega
  clear vk1 vk2
  rcases hvk with rfl | rfl | rfl | rfl | rfl | rfl | rfl | rfl | rfl | rfl | rfl | rfl | rfl | rfl | rfl | rfl | rfl
  · obtain ⟨⟨y0, y1, y2, y3, y4, yz⟩, yf⟩ := OXx2.out
    go_wp2_with fail
    refine (rd_below B a len cap 4 _ ((RXx2.out.setFar hBR _).alloc _) (by omega) (by omega)).mono ?_
    rintro e x3 ⟨v3, rfl, v31, v32, RN, SN⟩
    have OXx3 : Hid (OB x3 w1.heap.size (1) (vi) (0) (0) (0)) := ((OXx2.out.set0 (1)).alloc _).stp SN hRB
    have QXx3 : Hid (OB x3 w.heap.size 0 0 0 0 0) := ((QXx2.out.far hRQ 0 _).alloc _).stp SN hQB
    have RXx3 : Hid (Rd x3 B a len cap) := RN
    have SXx3 : Hid (Stp B w x3) := ((SXx2.out.far hwR 0 _).alloc _).trans SN
    obtain ⟨v3k, rfl⟩ := Int.eq_ofNat_of_zero_le v31
    obtain ⟨z3, hz3⟩ := row_cell (x2.setCell ⟨w1.heap.size, 0, none⟩ (.int .i64 (1))) [1, 1, 2, 0] 2 v3k (by simp; omega)
    have cz3 : x3.cell? ⟨x2.heap.size, v3k, none⟩ = some (.int .i64 z3) := by
      have e : (x2.setCell ⟨w1.heap.size, 0, none⟩ (.int .i64 (1))).heap.size = x2.heap.size := by simp [World.setCell]
      have hBo : x2.heap.size ≠ B := by have := RXx2.out.2.2.2.1; omega
      rw [SN.cell (p := ⟨x2.heap.size, v3k, none⟩) (by simp [World.setCell]) hBo, ← e]
      exact hz3
    clear hz3
    clear RN SN OXx2 QXx2 RXx2 SXx2
    clear y0 y1 y2 y3 y4 yz yf
    obtain ⟨⟨y0, y1, y2, y3, y4, yz⟩, yf⟩ := OXx3.out
    go_wp2_with fail
    refine (rd_below B a len cap 60 _ ((RXx3.out.setFar hBR _)) (by omega) (by omega)).mono ?_
    rintro e x4 ⟨v4, rfl, v41, v42, RN, SN⟩
    have OXx4 : Hid (OB x4 w1.heap.size (1) (vi) (z3) (0) (0)) := ((OXx3.out.set2 (z3))).stp SN hRB
    have QXx4 : Hid (OB x4 w.heap.size 0 0 0 0 0) := ((QXx3.out.far hRQ 2 _)).stp SN hQB
    have RXx4 : Hid (Rd x4 B a len cap) := RN
    have SXx4 : Hid (Stp B w x4) := ((SXx3.out.far hwR 2 _)).trans SN
    clear RN SN OXx3 QXx3 RXx3 SXx3
    clear y0 y1 y2 y3 y4 yz yf
    obtain ⟨⟨y0, y1, y2, y3, y4, yz⟩, yf⟩ := OXx4.out
    by_cases hz0 : z3 = 0
    · subst hz0
      by_cases hv0 : v4 ≤ 1
      · skip
        go_wp2_with fail
        refine (rd_below B a len cap 600 _ (((RXx4.out.setFar hBR _).setFar hBR _)) (by omega) (by omega)).mono ?_
        rintro e x5 ⟨vr, rfl, vr1, vr2, RN, SN⟩
        have OXx5 : Hid (OB x5 w1.heap.size (1) (vi) (0) (0) (0)) := (((OXx4.out.set3 (v4 - 1)).set3 (0))).stp SN hRB
        have QXx5 : Hid (OB x5 w.heap.size 0 0 0 0 0) := (((QXx4.out.far hRQ 3 _).far hRQ 3 _)).stp SN hQB
        have RXx5 : Hid (Rd x5 B a len cap) := RN
        have SXx5 : Hid (Stp B w x5) := (((SXx4.out.far hwR 3 _).far hwR 3 _)).trans SN
        clear RN SN OXx4 QXx4 RXx4 SXx4
        clear y0 y1 y2 y3 y4 yz yf
        obtain ⟨⟨y0, y1, y2, y3, y4, yz⟩, yf⟩ := OXx5.out
        go_wp2_with fail
        refine (rd_once B a len cap 40 _ ((RXx5.out.setFar hBR _)) (by omega) (by omega)).mono ?_
        rintro e x6 ⟨bo, rfl, RN, SN⟩
        have OXx6 : Hid (OB x6 w1.heap.size (1) (vi) (0) (0) (vr)) := ((OXx5.out.set4 (vr))).stp SN hRB
        have QXx6 : Hid (OB x6 w.heap.size 0 0 0 0 0) := ((QXx5.out.far hRQ 4 _)).stp SN hQB
        have RXx6 : Hid (Rd x6 B a len cap) := RN
        have SXx6 : Hid (Stp B w x6) := ((SXx5.out.far hwR 4 _)).trans SN
        clear RN SN OXx5 QXx5 RXx5 SXx5
        clear y0 y1 y2 y3 y4 yz yf
        cases bo with
        | false =>
          obtain ⟨⟨y0, y1, y2, y3, y4, yz⟩, yf⟩ := OXx6.out
          obtain ⟨⟨q0, q1, q2, q3, q4, qz⟩, qf⟩ := QXx6.out
          go_wp2
          refine bodyPost_ret (v := .agg #[.int .i64 (1), .int .i64 (vi), .int .i64 (0), .int .i64 (0), .int .i64 (vr)]) (by simp [results, Try.results38, go_sem, q0, q1, q2, q3, q4]) rfl ⟨_, _, _, _, _, rfl, ?_, ?_⟩
          · exact (((((RXx6.out.setFar hBQ _).setFar hBQ _).setFar hBQ _).setFar hBQ _).setFar hBQ _)
          · exact (((((SXx6.out.far (Nat.le_refl _) 0 _).far (Nat.le_refl _) 1 _).far (Nat.le_refl _) 2 _).far (Nat.le_refl _) 3 _).far (Nat.le_refl _) 4 _)
        | true =>
          obtain ⟨⟨y0, y1, y2, y3, y4, yz⟩, yf⟩ := OXx6.out
          go_wp2_with fail
          refine (rd_off B a len cap 0 1000000000000 _ (RXx6.out) (by omega) (by omega) (by omega)).mono ?_
          rintro e x7 ⟨vo, rfl, RN, SN⟩
          have OXx7 : Hid (OB x7 w1.heap.size (1) (vi) (0) (0) (vr)) := (OXx6.out).stp SN hRB
          have QXx7 : Hid (OB x7 w.heap.size 0 0 0 0 0) := (QXx6.out).stp SN hQB
          have RXx7 : Hid (Rd x7 B a len cap) := RN
          have SXx7 : Hid (Stp B w x7) := (SXx6.out).trans SN
          clear RN SN OXx6 QXx6 RXx6 SXx6
          clear y0 y1 y2 y3 y4 yz yf
          obtain ⟨⟨y0, y1, y2, y3, y4, yz⟩, yf⟩ := OXx7.out
          obtain ⟨⟨q0, q1, q2, q3, q4, qz⟩, qf⟩ := QXx7.out
          go_wp2
          refine bodyPost_ret (v := .agg #[.int .i64 (1), .int .i64 (vi), .int .i64 (0), .int .i64 (vo), .int .i64 (vr)]) (by simp [results, Try.results38, go_sem, q0, q1, q2, q3, q4]) rfl ⟨_, _, _, _, _, rfl, ?_, ?_⟩
          · exact ((((((RXx7.out.setFar hBR _).setFar hBQ _).setFar hBQ _).setFar hBQ _).setFar hBQ _).setFar hBQ _)
          · exact ((((((SXx7.out.far hwR 3 _).far (Nat.le_refl _) 0 _).far (Nat.le_refl _) 1 _).far (Nat.le_refl _) 2 _).far (Nat.le_refl _) 3 _).far (Nat.le_refl _) 4 _)
      · have hv1 : 2 ≤ v4 := by omega
        clear hv0
        go_wp2_with fail
        refine (rd_below B a len cap 600 _ (((RXx4.out.setFar hBR _).setFar hBR _)) (by omega) (by omega)).mono ?_
        rintro e x5 ⟨vr, rfl, vr1, vr2, RN, SN⟩
        have OXx5 : Hid (OB x5 w1.heap.size (1) (vi) (0) (v4 - 1) (0)) := (((OXx4.out.set3 (v4 - 1)).set3 (v4 - 1))).stp SN hRB
        have QXx5 : Hid (OB x5 w.heap.size 0 0 0 0 0) := (((QXx4.out.far hRQ 3 _).far hRQ 3 _)).stp SN hQB
        have RXx5 : Hid (Rd x5 B a len cap) := RN
        have SXx5 : Hid (Stp B w x5) := (((SXx4.out.far hwR 3 _).far hwR 3 _)).trans SN
        clear RN SN OXx4 QXx4 RXx4 SXx4
        clear y0 y1 y2 y3 y4 yz yf
        obtain ⟨⟨y0, y1, y2, y3, y4, yz⟩, yf⟩ := OXx5.out
        go_wp2_with fail
        refine (rd_once B a len cap 40 _ ((RXx5.out.setFar hBR _)) (by omega) (by omega)).mono ?_
        rintro e x6 ⟨bo, rfl, RN, SN⟩
        have OXx6 : Hid (OB x6 w1.heap.size (1) (vi) (0) (v4 - 1) (vr)) := ((OXx5.out.set4 (vr))).stp SN hRB
        have QXx6 : Hid (OB x6 w.heap.size 0 0 0 0 0) := ((QXx5.out.far hRQ 4 _)).stp SN hQB
        have RXx6 : Hid (Rd x6 B a len cap) := RN
        have SXx6 : Hid (Stp B w x6) := ((SXx5.out.far hwR 4 _)).trans SN
        clear RN SN OXx5 QXx5 RXx5 SXx5
        clear y0 y1 y2 y3 y4 yz yf
        cases bo with
        | false =>
          obtain ⟨⟨y0, y1, y2, y3, y4, yz⟩, yf⟩ := OXx6.out
          obtain ⟨⟨q0, q1, q2, q3, q4, qz⟩, qf⟩ := QXx6.out
          go_wp2
          refine bodyPost_ret (v := .agg #[.int .i64 (1), .int .i64 (vi), .int .i64 (0), .int .i64 (v4 - 1), .int .i64 (vr)]) (by simp [results, Try.results38, go_sem, q0, q1, q2, q3, q4]) rfl ⟨_, _, _, _, _, rfl, ?_, ?_⟩
          · exact (((((RXx6.out.setFar hBQ _).setFar hBQ _).setFar hBQ _).setFar hBQ _).setFar hBQ _)
          · exact (((((SXx6.out.far (Nat.le_refl _) 0 _).far (Nat.le_refl _) 1 _).far (Nat.le_refl _) 2 _).far (Nat.le_refl _) 3 _).far (Nat.le_refl _) 4 _)
        | true =>
          obtain ⟨⟨y0, y1, y2, y3, y4, yz⟩, yf⟩ := OXx6.out
          go_wp2_with fail
          refine (rd_off B a len cap 0 1000000000000 _ (RXx6.out) (by omega) (by omega) (by omega)).mono ?_
          rintro e x7 ⟨vo, rfl, RN, SN⟩
          have OXx7 : Hid (OB x7 w1.heap.size (1) (vi) (0) (v4 - 1) (vr)) := (OXx6.out).stp SN hRB
          have QXx7 : Hid (OB x7 w.heap.size 0 0 0 0 0) := (QXx6.out).stp SN hQB
          have RXx7 : Hid (Rd x7 B a len cap) := RN
          have SXx7 : Hid (Stp B w x7) := (SXx6.out).trans SN
          clear RN SN OXx6 QXx6 RXx6 SXx6
          clear y0 y1 y2 y3 y4 yz yf
          obtain ⟨⟨y0, y1, y2, y3, y4, yz⟩, yf⟩ := OXx7.out
          obtain ⟨⟨q0, q1, q2, q3, q4, qz⟩, qf⟩ := QXx7.out
          go_wp2
          refine bodyPost_ret (v := .agg #[.int .i64 (1), .int .i64 (vi), .int .i64 (0), .int .i64 (vo), .int .i64 (vr)]) (by simp [results, Try.results38, go_sem, q0, q1, q2, q3, q4]) rfl ⟨_, _, _, _, _, rfl, ?_, ?_⟩
          · exact ((((((RXx7.out.setFar hBR _).setFar hBQ _).setFar hBQ _).setFar hBQ _).setFar hBQ _).setFar hBQ _)
          · exact ((((((SXx7.out.far hwR 3 _).far (Nat.le_refl _) 0 _).far (Nat.le_refl _) 1 _).far (Nat.le_refl _) 2 _).far (Nat.le_refl _) 3 _).far (Nat.le_refl _) 4 _)
    · have hzb : (z3 == 0) = false := by simp [hz0]
      clear hz0
      clear y0 y1 y2 y3 y4 yz yf
      obtain ⟨⟨y0, y1, y2, y3, y4, yz⟩, yf⟩ := OXx4.out
      go_wp2_with fail
      refine (rd_once B a len cap 40 _ ((RXx4.out.setFar hBR _)) (by omega) (by omega)).mono ?_
      rintro e x5 ⟨bo, rfl, RN, SN⟩
      have OXx5 : Hid (OB x5 w1.heap.size (1) (vi) (z3) (v4 - 1) (0)) := ((OXx4.out.set3 (v4 - 1))).stp SN hRB
      have QXx5 : Hid (OB x5 w.heap.size 0 0 0 0 0) := ((QXx4.out.far hRQ 3 _)).stp SN hQB
      have RXx5 : Hid (Rd x5 B a len cap) := RN
      have SXx5 : Hid (Stp B w x5) := ((SXx4.out.far hwR 3 _)).trans SN
      clear RN SN OXx4 QXx4 RXx4 SXx4
      clear y0 y1 y2 y3 y4 yz yf
      cases bo with
      | false =>
        obtain ⟨⟨y0, y1, y2, y3, y4, yz⟩, yf⟩ := OXx5.out
        obtain ⟨⟨q0, q1, q2, q3, q4, qz⟩, qf⟩ := QXx5.out
        go_wp2
        refine bodyPost_ret (v := .agg #[.int .i64 (1), .int .i64 (vi), .int .i64 (z3), .int .i64 (v4 - 1), .int .i64 (0)]) (by simp [results, Try.results38, go_sem, q0, q1, q2, q3, q4]) rfl ⟨_, _, _, _, _, rfl, ?_, ?_⟩
        · exact (((((RXx5.out.setFar hBQ _).setFar hBQ _).setFar hBQ _).setFar hBQ _).setFar hBQ _)
        · exact (((((SXx5.out.far (Nat.le_refl _) 0 _).far (Nat.le_refl _) 1 _).far (Nat.le_refl _) 2 _).far (Nat.le_refl _) 3 _).far (Nat.le_refl _) 4 _)
      | true =>
        obtain ⟨⟨y0, y1, y2, y3, y4, yz⟩, yf⟩ := OXx5.out
        go_wp2_with fail
        refine (rd_off B a len cap 0 1000000000000 _ (RXx5.out) (by omega) (by omega) (by omega)).mono ?_
        rintro e x6 ⟨vo, rfl, RN, SN⟩
        have OXx6 : Hid (OB x6 w1.heap.size (1) (vi) (z3) (v4 - 1) (0)) := (OXx5.out).stp SN hRB
        have QXx6 : Hid (OB x6 w.heap.size 0 0 0 0 0) := (QXx5.out).stp SN hQB
        have RXx6 : Hid (Rd x6 B a len cap) := RN
        have SXx6 : Hid (Stp B w x6) := (SXx5.out).trans SN
        clear RN SN OXx5 QXx5 RXx5 SXx5
        clear y0 y1 y2 y3 y4 yz yf
        obtain ⟨⟨y0, y1, y2, y3, y4, yz⟩, yf⟩ := OXx6.out
        obtain ⟨⟨q0, q1, q2, q3, q4, qz⟩, qf⟩ := QXx6.out
        go_wp2
        refine bodyPost_ret (v := .agg #[.int .i64 (1), .int .i64 (vi), .int .i64 (z3), .int .i64 (vo), .int .i64 (0)]) (by simp [results, Try.results38, go_sem, q0, q1, q2, q3, q4]) rfl ⟨_, _, _, _, _, rfl, ?_, ?_⟩
        · exact ((((((RXx6.out.setFar hBR _).setFar hBQ _).setFar hBQ _).setFar hBQ _).setFar hBQ _).setFar hBQ _)
        · exact ((((((SXx6.out.far hwR 3 _).far (Nat.le_refl _) 0 _).far (Nat.le_refl _) 1 _).far (Nat.le_refl _) 2 _).far (Nat.le_refl _) 3 _).far (Nat.le_refl _) 4 _)
  · obtain ⟨⟨y0, y1, y2, y3, y4, yz⟩, yf⟩ := OXx2.out
    go_wp2_with fail
    refine (rd_below B a len cap 4 _ ((RXx2.out.setFar hBR _).alloc _) (by omega) (by omega)).mono ?_
    rintro e x3 ⟨v3, rfl, v31, v32, RN, SN⟩
    have OXx3 : Hid (OB x3 w1.heap.size (1) (vi) (0) (0) (0)) := ((OXx2.out.set0 (1)).alloc _).stp SN hRB
    have QXx3 : Hid (OB x3 w.heap.size 0 0 0 0 0) := ((QXx2.out.far hRQ 0 _).alloc _).stp SN hQB
    have RXx3 : Hid (Rd x3 B a len cap) := RN
    have SXx3 : Hid (Stp B w x3) := ((SXx2.out.far hwR 0 _).alloc _).trans SN
    obtain ⟨v3k, rfl⟩ := Int.eq_ofNat_of_zero_le v31
    obtain ⟨z3, hz3⟩ := row_cell (x2.setCell ⟨w1.heap.size, 0, none⟩ (.int .i64 (1))) [1, 1, 2, 0] 2 v3k (by simp; omega)
    have cz3 : x3.cell? ⟨x2.heap.size, v3k, none⟩ = some (.int .i64 z3) := by
      have e : (x2.setCell ⟨w1.heap.size, 0, none⟩ (.int .i64 (1))).heap.size = x2.heap.size := by simp [World.setCell]
      have hBo : x2.heap.size ≠ B := by have := RXx2.out.2.2.2.1; omega
      rw [SN.cell (p := ⟨x2.heap.size, v3k, none⟩) (by simp [World.setCell]) hBo, ← e]
      exact hz3
    clear hz3
    clear RN SN OXx2 QXx2 RXx2 SXx2
    clear y0 y1 y2 y3 y4 yz yf
    obtain ⟨⟨y0, y1, y2, y3, y4, yz⟩, yf⟩ := OXx3.out
    go_wp2_with fail
    refine (rd_below B a len cap 60 _ ((RXx3.out.setFar hBR _)) (by omega) (by omega)).mono ?_
    rintro e x4 ⟨v4, rfl, v41, v42, RN, SN⟩
    have OXx4 : Hid (OB x4 w1.heap.size (1) (vi) (z3) (0) (0)) := ((OXx3.out.set2 (z3))).stp SN hRB
    have QXx4 : Hid (OB x4 w.heap.size 0 0 0 0 0) := ((QXx3.out.far hRQ 2 _)).stp SN hQB
    have RXx4 : Hid (Rd x4 B a len cap) := RN
    have SXx4 : Hid (Stp B w x4) := ((SXx3.out.far hwR 2 _)).trans SN
    clear RN SN OXx3 QXx3 RXx3 SXx3
    clear y0 y1 y2 y3 y4 yz yf
    obtain ⟨⟨y0, y1, y2, y3, y4, yz⟩, yf⟩ := OXx4.out
    by_cases hz0 : z3 = 0
    · subst hz0
      by_cases hv0 : v4 ≤ 1
      · skip
        go_wp2_with fail
        refine (rd_below B a len cap 600 _ (((RXx4.out.setFar hBR _).setFar hBR _)) (by omega) (by omega)).mono ?_
        rintro e x5 ⟨vr, rfl, vr1, vr2, RN, SN⟩
        have OXx5 : Hid (OB x5 w1.heap.size (1) (vi) (0) (0) (0)) := (((OXx4.out.set3 (v4 - 1)).set3 (0))).stp SN hRB
        have QXx5 : Hid (OB x5 w.heap.size 0 0 0 0 0) := (((QXx4.out.far hRQ 3 _).far hRQ 3 _)).stp SN hQB
        have RXx5 : Hid (Rd x5 B a len cap) := RN
        have SXx5 : Hid (Stp B w x5) := (((SXx4.out.far hwR 3 _).far hwR 3 _)).trans SN
        clear RN SN OXx4 QXx4 RXx4 SXx4
        clear y0 y1 y2 y3 y4 yz yf
        obtain ⟨⟨y0, y1, y2, y3, y4, yz⟩, yf⟩ := OXx5.out
        go_wp2_with fail
        refine (rd_once B a len cap 40 _ ((RXx5.out.setFar hBR _)) (by omega) (by omega)).mono ?_
        rintro e x6 ⟨bo, rfl, RN, SN⟩
        have OXx6 : Hid (OB x6 w1.heap.size (1) (vi) (0) (0) (vr)) := ((OXx5.out.set4 (vr))).stp SN hRB
        have QXx6 : Hid (OB x6 w.heap.size 0 0 0 0 0) := ((QXx5.out.far hRQ 4 _)).stp SN hQB
        have RXx6 : Hid (Rd x6 B a len cap) := RN
        have SXx6 : Hid (Stp B w x6) := ((SXx5.out.far hwR 4 _)).trans SN
        clear RN SN OXx5 QXx5 RXx5 SXx5
        clear y0 y1 y2 y3 y4 yz yf
        cases bo with
        | false =>
          obtain ⟨⟨y0, y1, y2, y3, y4, yz⟩, yf⟩ := OXx6.out
          obtain ⟨⟨q0, q1, q2, q3, q4, qz⟩, qf⟩ := QXx6.out
          go_wp2
          refine bodyPost_ret (v := .agg #[.int .i64 (1), .int .i64 (vi), .int .i64 (0), .int .i64 (0), .int .i64 (vr)]) (by simp [results, Try.results38, go_sem, q0, q1, q2, q3, q4]) rfl ⟨_, _, _, _, _, rfl, ?_, ?_⟩
          · exact (((((RXx6.out.setFar hBQ _).setFar hBQ _).setFar hBQ _).setFar hBQ _).setFar hBQ _)
          · exact (((((SXx6.out.far (Nat.le_refl _) 0 _).far (Nat.le_refl _) 1 _).far (Nat.le_refl _) 2 _).far (Nat.le_refl _) 3 _).far (Nat.le_refl _) 4 _)
        | true =>
          obtain ⟨⟨y0, y1, y2, y3, y4, yz⟩, yf⟩ := OXx6.out
          go_wp2_with fail
          refine (rd_off B a len cap 0 1000000000000 _ (RXx6.out) (by omega) (by omega) (by omega)).mono ?_
          rintro e x7 ⟨vo, rfl, RN, SN⟩
          have OXx7 : Hid (OB x7 w1.heap.size (1) (vi) (0) (0) (vr)) := (OXx6.out).stp SN hRB
          have QXx7 : Hid (OB x7 w.heap.size 0 0 0 0 0) := (QXx6.out).stp SN hQB
          have RXx7 : Hid (Rd x7 B a len cap) := RN
          have SXx7 : Hid (Stp B w x7) := (SXx6.out).trans SN
          clear RN SN OXx6 QXx6 RXx6 SXx6
          clear y0 y1 y2 y3 y4 yz yf
          obtain ⟨⟨y0, y1, y2, y3, y4, yz⟩, yf⟩ := OXx7.out
          obtain ⟨⟨q0, q1, q2, q3, q4, qz⟩, qf⟩ := QXx7.out
          go_wp2
          refine bodyPost_ret (v := .agg #[.int .i64 (1), .int .i64 (vi), .int .i64 (0), .int .i64 (vo), .int .i64 (vr)]) (by simp [results, Try.results38, go_sem, q0, q1, q2, q3, q4]) rfl ⟨_, _, _, _, _, rfl, ?_, ?_⟩
          · exact ((((((RXx7.out.setFar hBR _).setFar hBQ _).setFar hBQ _).setFar hBQ _).setFar hBQ _).setFar hBQ _)
          · exact ((((((SXx7.out.far hwR 3 _).far (Nat.le_refl _) 0 _).far (Nat.le_refl _) 1 _).far (Nat.le_refl _) 2 _).far (Nat.le_refl _) 3 _).far (Nat.le_refl _) 4 _)
      · have hv1 : 2 ≤ v4 := by omega
        clear hv0
        go_wp2_with fail
        refine (rd_below B a len cap 600 _ (((RXx4.out.setFar hBR _).setFar hBR _)) (by omega) (by omega)).mono ?_
        rintro e x5 ⟨vr, rfl, vr1, vr2, RN, SN⟩
        have OXx5 : Hid (OB x5 w1.heap.size (1) (vi) (0) (v4 - 1) (0)) := (((OXx4.out.set3 (v4 - 1)).set3 (v4 - 1))).stp SN hRB
        have QXx5 : Hid (OB x5 w.heap.size 0 0 0 0 0) := (((QXx4.out.far hRQ 3 _).far hRQ 3 _)).stp SN hQB
        have RXx5 : Hid (Rd x5 B a len cap) := RN
        have SXx5 : Hid (Stp B w x5) := (((SXx4.out.far hwR 3 _).far hwR 3 _)).trans SN
        clear RN SN OXx4 QXx4 RXx4 SXx4
        clear y0 y1 y2 y3 y4 yz yf
        obtain ⟨⟨y0, y1, y2, y3, y4, yz⟩, yf⟩ := OXx5.out
        go_wp2_with fail
        refine (rd_once B a len cap 40 _ ((RXx5.out.setFar hBR _)) (by omega) (by omega)).mono ?_
        rintro e x6 ⟨bo, rfl, RN, SN⟩
        have OXx6 : Hid (OB x6 w1.heap.size (1) (vi) (0) (v4 - 1) (vr)) := ((OXx5.out.set4 (vr))).stp SN hRB
        have QXx6 : Hid (OB x6 w.heap.size 0 0 0 0 0) := ((QXx5.out.far hRQ 4 _)).stp SN hQB
        have RXx6 : Hid (Rd x6 B a len cap) := RN
        have SXx6 : Hid (Stp B w x6) := ((SXx5.out.far hwR 4 _)).trans SN
        clear RN SN OXx5 QXx5 RXx5 SXx5
        clear y0 y1 y2 y3 y4 yz yf
        cases bo with
        | false =>
          obtain ⟨⟨y0, y1, y2, y3, y4, yz⟩, yf⟩ := OXx6.out
          obtain ⟨⟨q0, q1, q2, q3, q4, qz⟩, qf⟩ := QXx6.out
          go_wp2
          refine bodyPost_ret (v := .agg #[.int .i64 (1), .int .i64 (vi), .int .i64 (0), .int .i64 (v4 - 1), .int .i64 (vr)]) (by simp [results, Try.results38, go_sem, q0, q1, q2, q3, q4]) rfl ⟨_, _, _, _, _, rfl, ?_, ?_⟩
          · exact (((((RXx6.out.setFar hBQ _).setFar hBQ _).setFar hBQ _).setFar hBQ _).setFar hBQ _)
          · exact (((((SXx6.out.far (Nat.le_refl _) 0 _).far (Nat.le_refl _) 1 _).far (Nat.le_refl _) 2 _).far (Nat.le_refl _) 3 _).far (Nat.le_refl _) 4 _)
        | true =>
          obtain ⟨⟨y0, y1, y2, y3, y4, yz⟩, yf⟩ := OXx6.out
          go_wp2_with fail
          refine (rd_off B a len cap 0 1000000000000 _ (RXx6.out) (by omega) (by omega) (by omega)).mono ?_
          rintro e x7 ⟨vo, rfl, RN, SN⟩
          have OXx7 : Hid (OB x7 w1.heap.size (1) (vi) (0) (v4 - 1) (vr)) := (OXx6.out).stp SN hRB
          have QXx7 : Hid (OB x7 w.heap.size 0 0 0 0 0) := (QXx6.out).stp SN hQB
          have RXx7 : Hid (Rd x7 B a len cap) := RN
          have SXx7 : Hid (Stp B w x7) := (SXx6.out).trans SN
          clear RN SN OXx6 QXx6 RXx6 SXx6
          clear y0 y1 y2 y3 y4 yz yf
          obtain ⟨⟨y0, y1, y2, y3, y4, yz⟩, yf⟩ := OXx7.out
          obtain ⟨⟨q0, q1, q2, q3, q4, qz⟩, qf⟩ := QXx7.out
          go_wp2
          refine bodyPost_ret (v := .agg #[.int .i64 (1), .int .i64 (vi), .int .i64 (0), .int .i64 (vo), .int .i64 (vr)]) (by simp [results, Try.results38, go_sem, q0, q1, q2, q3, q4]) rfl ⟨_, _, _, _, _, rfl, ?_, ?_⟩
          · exact ((((((RXx7.out.setFar hBR _).setFar hBQ _).setFar hBQ _).setFar hBQ _).setFar hBQ _).setFar hBQ _)
          · exact ((((((SXx7.out.far hwR 3 _).far (Nat.le_refl _) 0 _).far (Nat.le_refl _) 1 _).far (Nat.le_refl _) 2 _).far (Nat.le_refl _) 3 _).far (Nat.le_refl _) 4 _)
    · have hzb : (z3 == 0) = false := by simp [hz0]
      clear hz0
      clear y0 y1 y2 y3 y4 yz yf
      obtain ⟨⟨y0, y1, y2, y3, y4, yz⟩, yf⟩ := OXx4.out
      go_wp2_with fail
      refine (rd_once B a len cap 40 _ ((RXx4.out.setFar hBR _)) (by omega) (by omega)).mono ?_
      rintro e x5 ⟨bo, rfl, RN, SN⟩
      have OXx5 : Hid (OB x5 w1.heap.size (1) (vi) (z3) (v4 - 1) (0)) := ((OXx4.out.set3 (v4 - 1))).stp SN hRB
      have QXx5 : Hid (OB x5 w.heap.size 0 0 0 0 0) := ((QXx4.out.far hRQ 3 _)).stp SN hQB
      have RXx5 : Hid (Rd x5 B a len cap) := RN
      have SXx5 : Hid (Stp B w x5) := ((SXx4.out.far hwR 3 _)).trans SN
      clear RN SN OXx4 QXx4 RXx4 SXx4
      clear y0 y1 y2 y3 y4 yz yf
      cases bo with
      | false =>
        obtain ⟨⟨y0, y1, y2, y3, y4, yz⟩, yf⟩ := OXx5.out
        obtain ⟨⟨q0, q1, q2, q3, q4, qz⟩, qf⟩ := QXx5.out
        go_wp2
        refine bodyPost_ret (v := .agg #[.int .i64 (1), .int .i64 (vi), .int .i64 (z3), .int .i64 (v4 - 1), .int .i64 (0)]) (by simp [results, Try.results38, go_sem, q0, q1, q2, q3, q4]) rfl ⟨_, _, _, _, _, rfl, ?_, ?_⟩
        · exact (((((RXx5.out.setFar hBQ _).setFar hBQ _).setFar hBQ _).setFar hBQ _).setFar hBQ _)
        · exact (((((SXx5.out.far (Nat.le_refl _) 0 _).far (Nat.le_refl _) 1 _).far (Nat.le_refl _) 2 _).far (Nat.le_refl _) 3 _).far (Nat.le_refl _) 4 _)
      | true =>
        obtain ⟨⟨y0, y1, y2, y3, y4, yz⟩, yf⟩ := OXx5.out
        go_wp2_with fail
        refine (rd_off B a len cap 0 1000000000000 _ (RXx5.out) (by omega) (by omega) (by omega)).mono ?_
        rintro e x6 ⟨vo, rfl, RN, SN⟩
        have OXx6 : Hid (OB x6 w1.heap.size (1) (vi) (z3) (v4 - 1) (0)) := (OXx5.out).stp SN hRB
        have QXx6 : Hid (OB x6 w.heap.size 0 0 0 0 0) := (QXx5.out).stp SN hQB
        have RXx6 : Hid (Rd x6 B a len cap) := RN
        have SXx6 : Hid (Stp B w x6) := (SXx5.out).trans SN
        clear RN SN OXx5 QXx5 RXx5 SXx5
        clear y0 y1 y2 y3 y4 yz yf
        obtain ⟨⟨y0, y1, y2, y3, y4, yz⟩, yf⟩ := OXx6.out
        obtain ⟨⟨q0, q1, q2, q3, q4, qz⟩, qf⟩ := QXx6.out
        go_wp2
        refine bodyPost_ret (v := .agg #[.int .i64 (1), .int .i64 (vi), .int .i64 (z3), .int .i64 (vo), .int .i64 (0)]) (by simp [results, Try.results38, go_sem, q0, q1, q2, q3, q4]) rfl ⟨_, _, _, _, _, rfl, ?_, ?_⟩
        · exact ((((((RXx6.out.setFar hBR _).setFar hBQ _).setFar hBQ _).setFar hBQ _).setFar hBQ _).setFar hBQ _)
        · exact ((((((SXx6.out.far hwR 3 _).far (Nat.le_refl _) 0 _).far (Nat.le_refl _) 1 _).far (Nat.le_refl _) 2 _).far (Nat.le_refl _) 3 _).far (Nat.le_refl _) 4 _)
  · obtain ⟨⟨y0, y1, y2, y3, y4, yz⟩, yf⟩ := OXx2.out
    go_wp2_with fail
    refine (rd_below B a len cap 4 _ ((RXx2.out.setFar hBR _).alloc _) (by omega) (by omega)).mono ?_
    rintro e x3 ⟨v3, rfl, v31, v32, RN, SN⟩
    have OXx3 : Hid (OB x3 w1.heap.size (1) (vi) (0) (0) (0)) := ((OXx2.out.set0 (1)).alloc _).stp SN hRB
    have QXx3 : Hid (OB x3 w.heap.size 0 0 0 0 0) := ((QXx2.out.far hRQ 0 _).alloc _).stp SN hQB
    have RXx3 : Hid (Rd x3 B a len cap) := RN
    have SXx3 : Hid (Stp B w x3) := ((SXx2.out.far hwR 0 _).alloc _).trans SN
    obtain ⟨v3k, rfl⟩ := Int.eq_ofNat_of_zero_le v31
    obtain ⟨z3, hz3⟩ := row_cell (x2.setCell ⟨w1.heap.size, 0, none⟩ (.int .i64 (1))) [1, 1, 2, 0] 2 v3k (by simp; omega)
    have cz3 : x3.cell? ⟨x2.heap.size, v3k, none⟩ = some (.int .i64 z3) := by
      have e : (x2.setCell ⟨w1.heap.size, 0, none⟩ (.int .i64 (1))).heap.size = x2.heap.size := by simp [World.setCell]
      have hBo : x2.heap.size ≠ B := by have := RXx2.out.2.2.2.1; omega
      rw [SN.cell (p := ⟨x2.heap.size, v3k, none⟩) (by simp [World.setCell]) hBo, ← e]
      exact hz3
    clear hz3
    clear RN SN OXx2 QXx2 RXx2 SXx2
    clear y0 y1 y2 y3 y4 yz yf
    obtain ⟨⟨y0, y1, y2, y3, y4, yz⟩, yf⟩ := OXx3.out
    go_wp2_with fail
    refine (rd_below B a len cap 60 _ ((RXx3.out.setFar hBR _)) (by omega) (by omega)).mono ?_
    rintro e x4 ⟨v4, rfl, v41, v42, RN, SN⟩
    have OXx4 : Hid (OB x4 w1.heap.size (1) (vi) (z3) (0) (0)) := ((OXx3.out.set2 (z3))).stp SN hRB
    have QXx4 : Hid (OB x4 w.heap.size 0 0 0 0 0) := ((QXx3.out.far hRQ 2 _)).stp SN hQB
    have RXx4 : Hid (Rd x4 B a len cap) := RN
    have SXx4 : Hid (Stp B w x4) := ((SXx3.out.far hwR 2 _)).trans SN
    clear RN SN OXx3 QXx3 RXx3 SXx3
    clear y0 y1 y2 y3 y4 yz yf
    obtain ⟨⟨y0, y1, y2, y3, y4, yz⟩, yf⟩ := OXx4.out
    by_cases hz0 : z3 = 0
    · subst hz0
      by_cases hv0 : v4 ≤ 1
      · skip
        go_wp2_with fail
        refine (rd_below B a len cap 600 _ (((RXx4.out.setFar hBR _).setFar hBR _)) (by omega) (by omega)).mono ?_
        rintro e x5 ⟨vr, rfl, vr1, vr2, RN, SN⟩
        have OXx5 : Hid (OB x5 w1.heap.size (1) (vi) (0) (0) (0)) := (((OXx4.out.set3 (v4 - 1)).set3 (0))).stp SN hRB
        have QXx5 : Hid (OB x5 w.heap.size 0 0 0 0 0) := (((QXx4.out.far hRQ 3 _).far hRQ 3 _)).stp SN hQB
        have RXx5 : Hid (Rd x5 B a len cap) := RN
        have SXx5 : Hid (Stp B w x5) := (((SXx4.out.far hwR 3 _).far hwR 3 _)).trans SN
        clear RN SN OXx4 QXx4 RXx4 SXx4
        clear y0 y1 y2 y3 y4 yz yf
        obtain ⟨⟨y0, y1, y2, y3, y4, yz⟩, yf⟩ := OXx5.out
        go_wp2_with fail
        refine (rd_once B a len cap 40 _ ((RXx5.out.setFar hBR _)) (by omega) (by omega)).mono ?_
        rintro e x6 ⟨bo, rfl, RN, SN⟩
        have OXx6 : Hid (OB x6 w1.heap.size (1) (vi) (0) (0) (vr)) := ((OXx5.out.set4 (vr))).stp SN hRB
        have QXx6 : Hid (OB x6 w.heap.size 0 0 0 0 0) := ((QXx5.out.far hRQ 4 _)).stp SN hQB
        have RXx6 : Hid (Rd x6 B a len cap) := RN
        have SXx6 : Hid (Stp B w x6) := ((SXx5.out.far hwR 4 _)).trans SN
        clear RN SN OXx5 QXx5 RXx5 SXx5
        clear y0 y1 y2 y3 y4 yz yf
        cases bo with
        | false =>
          obtain ⟨⟨y0, y1, y2, y3, y4, yz⟩, yf⟩ := OXx6.out
          obtain ⟨⟨q0, q1, q2, q3, q4, qz⟩, qf⟩ := QXx6.out
          go_wp2
          refine bodyPost_ret (v := .agg #[.int .i64 (1), .int .i64 (vi), .int .i64 (0), .int .i64 (0), .int .i64 (vr)]) (by simp [results, Try.results38, go_sem, q0, q1, q2, q3, q4]) rfl ⟨_, _, _, _, _, rfl, ?_, ?_⟩
          · exact (((((RXx6.out.setFar hBQ _).setFar hBQ _).setFar hBQ _).setFar hBQ _).setFar hBQ _)
          · exact (((((SXx6.out.far (Nat.le_refl _) 0 _).far (Nat.le_refl _) 1 _).far (Nat.le_refl _) 2 _).far (Nat.le_refl _) 3 _).far (Nat.le_refl _) 4 _)
        | true =>
          obtain ⟨⟨y0, y1, y2, y3, y4, yz⟩, yf⟩ := OXx6.out
          go_wp2_with fail
          refine (rd_off B a len cap 0 1000000000000 _ (RXx6.out) (by omega) (by omega) (by omega)).mono ?_
          rintro e x7 ⟨vo, rfl, RN, SN⟩
          have OXx7 : Hid (OB x7 w1.heap.size (1) (vi) (0) (0) (vr)) := (OXx6.out).stp SN hRB
          have QXx7 : Hid (OB x7 w.heap.size 0 0 0 0 0) := (QXx6.out).stp SN hQB
          have RXx7 : Hid (Rd x7 B a len cap) := RN
          have SXx7 : Hid (Stp B w x7) := (SXx6.out).trans SN
          clear RN SN OXx6 QXx6 RXx6 SXx6
          clear y0 y1 y2 y3 y4 yz yf
          obtain ⟨⟨y0, y1, y2, y3, y4, yz⟩, yf⟩ := OXx7.out
          obtain ⟨⟨q0, q1, q2, q3, q4, qz⟩, qf⟩ := QXx7.out
          go_wp2
          refine bodyPost_ret (v := .agg #[.int .i64 (1), .int .i64 (vi), .int .i64 (0), .int .i64 (vo), .int .i64 (vr)]) (by simp [results, Try.results38, go_sem, q0, q1, q2, q3, q4]) rfl ⟨_, _, _, _, _, rfl, ?_, ?_⟩
          · exact ((((((RXx7.out.setFar hBR _).setFar hBQ _).setFar hBQ _).setFar hBQ _).setFar hBQ _).setFar hBQ _)
          · exact ((((((SXx7.out.far hwR 3 _).far (Nat.le_refl _) 0 _).far (Nat.le_refl _) 1 _).far (Nat.le_refl _) 2 _).far (Nat.le_refl _) 3 _).far (Nat.le_refl _) 4 _)
      · have hv1 : 2 ≤ v4 := by omega
        clear hv0
        go_wp2_with fail
        refine (rd_below B a len cap 600 _ (((RXx4.out.setFar hBR _).setFar hBR _)) (by omega) (by omega)).mono ?_
        rintro e x5 ⟨vr, rfl, vr1, vr2, RN, SN⟩
        have OXx5 : Hid (OB x5 w1.heap.size (1) (vi) (0) (v4 - 1) (0)) := (((OXx4.out.set3 (v4 - 1)).set3 (v4 - 1))).stp SN hRB
        have QXx5 : Hid (OB x5 w.heap.size 0 0 0 0 0) := (((QXx4.out.far hRQ 3 _).far hRQ 3 _)).stp SN hQB
        have RXx5 : Hid (Rd x5 B a len cap) := RN
        have SXx5 : Hid (Stp B w x5) := (((SXx4.out.far hwR 3 _).far hwR 3 _)).trans SN
        clear RN SN OXx4 QXx4 RXx4 SXx4
        clear y0 y1 y2 y3 y4 yz yf
        obtain ⟨⟨y0, y1, y2, y3, y4, yz⟩, yf⟩ := OXx5.out
        go_wp2_with fail
        refine (rd_once B a len cap 40 _ ((RXx5.out.setFar hBR _)) (by omega) (by omega)).mono ?_
        rintro e x6 ⟨bo, rfl, RN, SN⟩
        have OXx6 : Hid (OB x6 w1.heap.size (1) (vi) (0) (v4 - 1) (vr)) := ((OXx5.out.set4 (vr))).stp SN hRB
        have QXx6 : Hid (OB x6 w.heap.size 0 0 0 0 0) := ((QXx5.out.far hRQ 4 _)).stp SN hQB
        have RXx6 : Hid (Rd x6 B a len cap) := RN
        have SXx6 : Hid (Stp B w x6) := ((SXx5.out.far hwR 4 _)).trans SN
        clear RN SN OXx5 QXx5 RXx5 SXx5
        clear y0 y1 y2 y3 y4 yz yf
        cases bo with
        | false =>
          obtain ⟨⟨y0, y1, y2, y3, y4, yz⟩, yf⟩ := OXx6.out
          obtain ⟨⟨q0, q1, q2, q3, q4, qz⟩, qf⟩ := QXx6.out
          go_wp2
          refine bodyPost_ret (v := .agg #[.int .i64 (1), .int .i64 (vi), .int .i64 (0), .int .i64 (v4 - 1), .int .i64 (vr)]) (by simp [results, Try.results38, go_sem, q0, q1, q2, q3, q4]) rfl ⟨_, _, _, _, _, rfl, ?_, ?_⟩
          · exact (((((RXx6.out.setFar hBQ _).setFar hBQ _).setFar hBQ _).setFar hBQ _).setFar hBQ _)
          · exact (((((SXx6.out.far (Nat.le_refl _) 0 _).far (Nat.le_refl _) 1 _).far (Nat.le_refl _) 2 _).far (Nat.le_refl _) 3 _).far (Nat.le_refl _) 4 _)
        | true =>
          obtain ⟨⟨y0, y1, y2, y3, y4, yz⟩, yf⟩ := OXx6.out
          go_wp2_with fail
          refine (rd_off B a len cap 0 1000000000000 _ (RXx6.out) (by omega) (by omega) (by omega)).mono ?_
          rintro e x7 ⟨vo, rfl, RN, SN⟩
          have OXx7 : Hid (OB x7 w1.heap.size (1) (vi) (0) (v4 - 1) (vr)) := (OXx6.out).stp SN hRB
          have QXx7 : Hid (OB x7 w.heap.size 0 0 0 0 0) := (QXx6.out).stp SN hQB
          have RXx7 : Hid (Rd x7 B a len cap) := RN
          have SXx7 : Hid (Stp B w x7) := (SXx6.out).trans SN
          clear RN SN OXx6 QXx6 RXx6 SXx6
          clear y0 y1 y2 y3 y4 yz yf
          obtain ⟨⟨y0, y1, y2, y3, y4, yz⟩, yf⟩ := OXx7.out
          obtain ⟨⟨q0, q1, q2, q3, q4, qz⟩, qf⟩ := QXx7.out
          go_wp2
          refine bodyPost_ret (v := .agg #[.int .i64 (1), .int .i64 (vi), .int .i64 (0), .int .i64 (vo), .int .i64 (vr)]) (by simp [results, Try.results38, go_sem, q0, q1, q2, q3, q4]) rfl ⟨_, _, _, _, _, rfl, ?_, ?_⟩
          · exact ((((((RXx7.out.setFar hBR _).setFar hBQ _).setFar hBQ _).setFar hBQ _).setFar hBQ _).setFar hBQ _)
          · exact ((((((SXx7.out.far hwR 3 _).far (Nat.le_refl _) 0 _).far (Nat.le_refl _) 1 _).far (Nat.le_refl _) 2 _).far (Nat.le_refl _) 3 _).far (Nat.le_refl _) 4 _)
    · have hzb : (z3 == 0) = false := by simp [hz0]
      clear hz0
      clear y0 y1 y2 y3 y4 yz yf
      obtain ⟨⟨y0, y1, y2, y3, y4, yz⟩, yf⟩ := OXx4.out
      go_wp2_with fail
      refine (rd_once B a len cap 40 _ ((RXx4.out.setFar hBR _)) (by omega) (by omega)).mono ?_
      rintro e x5 ⟨bo, rfl, RN, SN⟩
      have OXx5 : Hid (OB x5 w1.heap.size (1) (vi) (z3) (v4 - 1) (0)) := ((OXx4.out.set3 (v4 - 1))).stp SN hRB
      have QXx5 : Hid (OB x5 w.heap.size 0 0 0 0 0) := ((QXx4.out.far hRQ 3 _)).stp SN hQB
      have RXx5 : Hid (Rd x5 B a len cap) := RN
      have SXx5 : Hid (Stp B w x5) := ((SXx4.out.far hwR 3 _)).trans SN
      clear RN SN OXx4 QXx4 RXx4 SXx4
      clear y0 y1 y2 y3 y4 yz yf
      cases bo with
      | false =>
        obtain ⟨⟨y0, y1, y2, y3, y4, yz⟩, yf⟩ := OXx5.out
        obtain ⟨⟨q0, q1, q2, q3, q4, qz⟩, qf⟩ := QXx5.out
        go_wp2
        refine bodyPost_ret (v := .agg #[.int .i64 (1), .int .i64 (vi), .int .i64 (z3), .int .i64 (v4 - 1), .int .i64 (0)]) (by simp [results, Try.results38, go_sem, q0, q1, q2, q3, q4]) rfl ⟨_, _, _, _, _, rfl, ?_, ?_⟩
        · exact (((((RXx5.out.setFar hBQ _).setFar hBQ _).setFar hBQ _).setFar hBQ _).setFar hBQ _)
        · exact (((((SXx5.out.far (Nat.le_refl _) 0 _).far (Nat.le_refl _) 1 _).far (Nat.le_refl _) 2 _).far (Nat.le_refl _) 3 _).far (Nat.le_refl _) 4 _)
      | true =>
        obtain ⟨⟨y0, y1, y2, y3, y4, yz⟩, yf⟩ := OXx5.out
        go_wp2_with fail
        refine (rd_off B a len cap 0 1000000000000 _ (RXx5.out) (by omega) (by omega) (by omega)).mono ?_
        rintro e x6 ⟨vo, rfl, RN, SN⟩
        have OXx6 : Hid (OB x6 w1.heap.size (1) (vi) (z3) (v4 - 1) (0)) := (OXx5.out).stp SN hRB
        have QXx6 : Hid (OB x6 w.heap.size 0 0 0 0 0) := (QXx5.out).stp SN hQB
        have RXx6 : Hid (Rd x6 B a len cap) := RN
        have SXx6 : Hid (Stp B w x6) := (SXx5.out).trans SN
        clear RN SN OXx5 QXx5 RXx5 SXx5
        clear y0 y1 y2 y3 y4 yz yf
        obtain ⟨⟨y0, y1, y2, y3, y4, yz⟩, yf⟩ := OXx6.out
        obtain ⟨⟨q0, q1, q2, q3, q4, qz⟩, qf⟩ := QXx6.out
        go_wp2
        refine bodyPost_ret (v := .agg #[.int .i64 (1), .int .i64 (vi), .int .i64 (z3), .int .i64 (vo), .int .i64 (0)]) (by simp [results, Try.results38, go_sem, q0, q1, q2, q3, q4]) rfl ⟨_, _, _, _, _, rfl, ?_, ?_⟩
        · exact ((((((RXx6.out.setFar hBR _).setFar hBQ _).setFar hBQ _).setFar hBQ _).setFar hBQ _).setFar hBQ _)
        · exact ((((((SXx6.out.far hwR 3 _).far (Nat.le_refl _) 0 _).far (Nat.le_refl _) 1 _).far (Nat.le_refl _) 2 _).far (Nat.le_refl _) 3 _).far (Nat.le_refl _) 4 _)
  · obtain ⟨⟨y0, y1, y2, y3, y4, yz⟩, yf⟩ := OXx2.out
    go_wp2_with fail
    refine (rd_below B a len cap 4 _ ((RXx2.out.setFar hBR _).alloc _) (by omega) (by omega)).mono ?_
    rintro e x3 ⟨v3, rfl, v31, v32, RN, SN⟩
    have OXx3 : Hid (OB x3 w1.heap.size (1) (vi) (0) (0) (0)) := ((OXx2.out.set0 (1)).alloc _).stp SN hRB
    have QXx3 : Hid (OB x3 w.heap.size 0 0 0 0 0) := ((QXx2.out.far hRQ 0 _).alloc _).stp SN hQB
    have RXx3 : Hid (Rd x3 B a len cap) := RN
    have SXx3 : Hid (Stp B w x3) := ((SXx2.out.far hwR 0 _).alloc _).trans SN
    obtain ⟨v3k, rfl⟩ := Int.eq_ofNat_of_zero_le v31
    obtain ⟨z3, hz3⟩ := row_cell (x2.setCell ⟨w1.heap.size, 0, none⟩ (.int .i64 (1))) [1, 1, 2, 0] 2 v3k (by simp; omega)
    have cz3 : x3.cell? ⟨x2.heap.size, v3k, none⟩ = some (.int .i64 z3) := by
      have e : (x2.setCell ⟨w1.heap.size, 0, none⟩ (.int .i64 (1))).heap.size = x2.heap.size := by simp [World.setCell]
      have hBo : x2.heap.size ≠ B := by have := RXx2.out.2.2.2.1; omega
      rw [SN.cell (p := ⟨x2.heap.size, v3k, none⟩) (by simp [World.setCell]) hBo, ← e]
      exact hz3
    clear hz3
    clear RN SN OXx2 QXx2 RXx2 SXx2
    clear y0 y1 y2 y3 y4 yz yf
    obtain ⟨⟨y0, y1, y2, y3, y4, yz⟩, yf⟩ := OXx3.out
    go_wp2_with fail
    refine (rd_below B a len cap 60 _ ((RXx3.out.setFar hBR _)) (by omega) (by omega)).mono ?_
    rintro e x4 ⟨v4, rfl, v41, v42, RN, SN⟩
    have OXx4 : Hid (OB x4 w1.heap.size (1) (vi) (z3) (0) (0)) := ((OXx3.out.set2 (z3))).stp SN hRB
    have QXx4 : Hid (OB x4 w.heap.size 0 0 0 0 0) := ((QXx3.out.far hRQ 2 _)).stp SN hQB
    have RXx4 : Hid (Rd x4 B a len cap) := RN
    have SXx4 : Hid (Stp B w x4) := ((SXx3.out.far hwR 2 _)).trans SN
    clear RN SN OXx3 QXx3 RXx3 SXx3
    clear y0 y1 y2 y3 y4 yz yf
    obtain ⟨⟨y0, y1, y2, y3, y4, yz⟩, yf⟩ := OXx4.out
    by_cases hz0 : z3 = 0
    · subst hz0
      by_cases hv0 : v4 ≤ 1
      · skip
        go_wp2_with fail
        refine (rd_below B a len cap 600 _ (((RXx4.out.setFar hBR _).setFar hBR _)) (by omega) (by omega)).mono ?_
        rintro e x5 ⟨vr, rfl, vr1, vr2, RN, SN⟩
        have OXx5 : Hid (OB x5 w1.heap.size (1) (vi) (0) (0) (0)) := (((OXx4.out.set3 (v4 - 1)).set3 (0))).stp SN hRB
        have QXx5 : Hid (OB x5 w.heap.size 0 0 0 0 0) := (((QXx4.out.far hRQ 3 _).far hRQ 3 _)).stp SN hQB
        have RXx5 : Hid (Rd x5 B a len cap) := RN
        have SXx5 : Hid (Stp B w x5) := (((SXx4.out.far hwR 3 _).far hwR 3 _)).trans SN
        clear RN SN OXx4 QXx4 RXx4 SXx4
        clear y0 y1 y2 y3 y4 yz yf
        obtain ⟨⟨y0, y1, y2, y3, y4, yz⟩, yf⟩ := OXx5.out
        go_wp2_with fail
        refine (rd_once B a len cap 40 _ ((RXx5.out.setFar hBR _)) (by omega) (by omega)).mono ?_
        rintro e x6 ⟨bo, rfl, RN, SN⟩
        have OXx6 : Hid (OB x6 w1.heap.size (1) (vi) (0) (0) (vr)) := ((OXx5.out.set4 (vr))).stp SN hRB
        have QXx6 : Hid (OB x6 w.heap.size 0 0 0 0 0) := ((QXx5.out.far hRQ 4 _)).stp SN hQB
        have RXx6 : Hid (Rd x6 B a len cap) := RN
        have SXx6 : Hid (Stp B w x6) := ((SXx5.out.far hwR 4 _)).trans SN
        clear RN SN OXx5 QXx5 RXx5 SXx5
        clear y0 y1 y2 y3 y4 yz yf
        cases bo with
        | false =>
          obtain ⟨⟨y0, y1, y2, y3, y4, yz⟩, yf⟩ := OXx6.out
          obtain ⟨⟨q0, q1, q2, q3, q4, qz⟩, qf⟩ := QXx6.out
          go_wp2
          refine bodyPost_ret (v := .agg #[.int .i64 (1), .int .i64 (vi), .int .i64 (0), .int .i64 (0), .int .i64 (vr)]) (by simp [results, Try.results38, go_sem, q0, q1, q2, q3, q4]) rfl ⟨_, _, _, _, _, rfl, ?_, ?_⟩
          · exact (((((RXx6.out.setFar hBQ _).setFar hBQ _).setFar hBQ _).setFar hBQ _).setFar hBQ _)
          · exact (((((SXx6.out.far (Nat.le_refl _) 0 _).far (Nat.le_refl _) 1 _).far (Nat.le_refl _) 2 _).far (Nat.le_refl _) 3 _).far (Nat.le_refl _) 4 _)
        | true =>
          obtain ⟨⟨y0, y1, y2, y3, y4, yz⟩, yf⟩ := OXx6.out
          go_wp2_with fail
          refine (rd_off B a len cap 0 1000000000000 _ (RXx6.out) (by omega) (by omega) (by omega)).mono ?_
          rintro e x7 ⟨vo, rfl, RN, SN⟩
          have OXx7 : Hid (OB x7 w1.heap.size (1) (vi) (0) (0) (vr)) := (OXx6.out).stp SN hRB
          have QXx7 : Hid (OB x7 w.heap.size 0 0 0 0 0) := (QXx6.out).stp SN hQB
          have RXx7 : Hid (Rd x7 B a len cap) := RN
          have SXx7 : Hid (Stp B w x7) := (SXx6.out).trans SN
          clear RN SN OXx6 QXx6 RXx6 SXx6
          clear y0 y1 y2 y3 y4 yz yf
          obtain ⟨⟨y0, y1, y2, y3, y4, yz⟩, yf⟩ := OXx7.out
          obtain ⟨⟨q0, q1, q2, q3, q4, qz⟩, qf⟩ := QXx7.out
          go_wp2
          refine bodyPost_ret (v := .agg #[.int .i64 (1), .int .i64 (vi), .int .i64 (0), .int .i64 (vo), .int .i64 (vr)]) (by simp [results, Try.results38, go_sem, q0, q1, q2, q3, q4]) rfl ⟨_, _, _, _, _, rfl, ?_, ?_⟩
          · exact ((((((RXx7.out.setFar hBR _).setFar hBQ _).setFar hBQ _).setFar hBQ _).setFar hBQ _).setFar hBQ _)
          · exact ((((((SXx7.out.far hwR 3 _).far (Nat.le_refl _) 0 _).far (Nat.le_refl _) 1 _).far (Nat.le_refl _) 2 _).far (Nat.le_refl _) 3 _).far (Nat.le_refl _) 4 _)
      · have hv1 : 2 ≤ v4 := by omega
        clear hv0
        go_wp2_with fail
        refine (rd_below B a len cap 600 _ (((RXx4.out.setFar hBR _).setFar hBR _)) (by omega) (by omega)).mono ?_
        rintro e x5 ⟨vr, rfl, vr1, vr2, RN, SN⟩
        have OXx5 : Hid (OB x5 w1.heap.size (1) (vi) (0) (v4 - 1) (0)) := (((OXx4.out.set3 (v4 - 1)).set3 (v4 - 1))).stp SN hRB
        have QXx5 : Hid (OB x5 w.heap.size 0 0 0 0 0) := (((QXx4.out.far hRQ 3 _).far hRQ 3 _)).stp SN hQB
        have RXx5 : Hid (Rd x5 B a len cap) := RN
        have SXx5 : Hid (Stp B w x5) := (((SXx4.out.far hwR 3 _).far hwR 3 _)).trans SN
        clear RN SN OXx4 QXx4 RXx4 SXx4
        clear y0 y1 y2 y3 y4 yz yf
        obtain ⟨⟨y0, y1, y2, y3, y4, yz⟩, yf⟩ := OXx5.out
        go_wp2_with fail
        refine (rd_once B a len cap 40 _ ((RXx5.out.setFar hBR _)) (by omega) (by omega)).mono ?_
        rintro e x6 ⟨bo, rfl, RN, SN⟩
        have OXx6 : Hid (OB x6 w1.heap.size (1) (vi) (0) (v4 - 1) (vr)) := ((OXx5.out.set4 (vr))).stp SN hRB
        have QXx6 : Hid (OB x6 w.heap.size 0 0 0 0 0) := ((QXx5.out.far hRQ 4 _)).stp SN hQB
        have RXx6 : Hid (Rd x6 B a len cap) := RN
        have SXx6 : Hid (Stp B w x6) := ((SXx5.out.far hwR 4 _)).trans SN
        clear RN SN OXx5 QXx5 RXx5 SXx5
        clear y0 y1 y2 y3 y4 yz yf
        cases bo with
        | false =>
          obtain ⟨⟨y0, y1, y2, y3, y4, yz⟩, yf⟩ := OXx6.out
          obtain ⟨⟨q0, q1, q2, q3, q4, qz⟩, qf⟩ := QXx6.out
          go_wp2
          refine bodyPost_ret (v := .agg #[.int .i64 (1), .int .i64 (vi), .int .i64 (0), .int .i64 (v4 - 1), .int .i64 (vr)]) (by simp [results, Try.results38, go_sem, q0, q1, q2, q3, q4]) rfl ⟨_, _, _, _, _, rfl, ?_, ?_⟩
          · exact (((((RXx6.out.setFar hBQ _).setFar hBQ _).setFar hBQ _).setFar hBQ _).setFar hBQ _)
          · exact (((((SXx6.out.far (Nat.le_refl _) 0 _).far (Nat.le_refl _) 1 _).far (Nat.le_refl _) 2 _).far (Nat.le_refl _) 3 _).far (Nat.le_refl _) 4 _)
        | true =>
          obtain ⟨⟨y0, y1, y2, y3, y4, yz⟩, yf⟩ := OXx6.out
          go_wp2_with fail
          refine (rd_off B a len cap 0 1000000000000 _ (RXx6.out) (by omega) (by omega) (by omega)).mono ?_
          rintro e x7 ⟨vo, rfl, RN, SN⟩
          have OXx7 : Hid (OB x7 w1.heap.size (1) (vi) (0) (v4 - 1) (vr)) := (OXx6.out).stp SN hRB
          have QXx7 : Hid (OB x7 w.heap.size 0 0 0 0 0) := (QXx6.out).stp SN hQB
          have RXx7 : Hid (Rd x7 B a len cap) := RN
          have SXx7 : Hid (Stp B w x7) := (SXx6.out).trans SN
          clear RN SN OXx6 QXx6 RXx6 SXx6
          clear y0 y1 y2 y3 y4 yz yf
          obtain ⟨⟨y0, y1, y2, y3, y4, yz⟩, yf⟩ := OXx7.out
          obtain ⟨⟨q0, q1, q2, q3, q4, qz⟩, qf⟩ := QXx7.out
          go_wp2
          refine bodyPost_ret (v := .agg #[.int .i64 (1), .int .i64 (vi), .int .i64 (0), .int .i64 (vo), .int .i64 (vr)]) (by simp [results, Try.results38, go_sem, q0, q1, q2, q3, q4]) rfl ⟨_, _, _, _, _, rfl, ?_, ?_⟩
          · exact ((((((RXx7.out.setFar hBR _).setFar hBQ _).setFar hBQ _).setFar hBQ _).setFar hBQ _).setFar hBQ _)
          · exact ((((((SXx7.out.far hwR 3 _).far (Nat.le_refl _) 0 _).far (Nat.le_refl _) 1 _).far (Nat.le_refl _) 2 _).far (Nat.le_refl _) 3 _).far (Nat.le_refl _) 4 _)
    · have hzb : (z3 == 0) = false := by simp [hz0]
      clear hz0
      clear y0 y1 y2 y3 y4 yz yf
      obtain ⟨⟨y0, y1, y2, y3, y4, yz⟩, yf⟩ := OXx4.out
      go_wp2_with fail
      refine (rd_once B a len cap 40 _ ((RXx4.out.setFar hBR _)) (by omega) (by omega)).mono ?_
      rintro e x5 ⟨bo, rfl, RN, SN⟩
      have OXx5 : Hid (OB x5 w1.heap.size (1) (vi) (z3) (v4 - 1) (0)) := ((OXx4.out.set3 (v4 - 1))).stp SN hRB
      have QXx5 : Hid (OB x5 w.heap.size 0 0 0 0 0) := ((QXx4.out.far hRQ 3 _)).stp SN hQB
      have RXx5 : Hid (Rd x5 B a len cap) := RN
      have SXx5 : Hid (Stp B w x5) := ((SXx4.out.far hwR 3 _)).trans SN
      clear RN SN OXx4 QXx4 RXx4 SXx4
      clear y0 y1 y2 y3 y4 yz yf
      cases bo with
      | false =>
        obtain ⟨⟨y0, y1, y2, y3, y4, yz⟩, yf⟩ := OXx5.out
        obtain ⟨⟨q0, q1, q2, q3, q4, qz⟩, qf⟩ := QXx5.out
        go_wp2
        refine bodyPost_ret (v := .agg #[.int .i64 (1), .int .i64 (vi), .int .i64 (z3), .int .i64 (v4 - 1), .int .i64 (0)]) (by simp [results, Try.results38, go_sem, q0, q1, q2, q3, q4]) rfl ⟨_, _, _, _, _, rfl, ?_, ?_⟩
        · exact (((((RXx5.out.setFar hBQ _).setFar hBQ _).setFar hBQ _).setFar hBQ _).setFar hBQ _)
        · exact (((((SXx5.out.far (Nat.le_refl _) 0 _).far (Nat.le_refl _) 1 _).far (Nat.le_refl _) 2 _).far (Nat.le_refl _) 3 _).far (Nat.le_refl _) 4 _)
      | true =>
        obtain ⟨⟨y0, y1, y2, y3, y4, yz⟩, yf⟩ := OXx5.out
        go_wp2_with fail
        refine (rd_off B a len cap 0 1000000000000 _ (RXx5.out) (by omega) (by omega) (by omega)).mono ?_
        rintro e x6 ⟨vo, rfl, RN, SN⟩
        have OXx6 : Hid (OB x6 w1.heap.size (1) (vi) (z3) (v4 - 1) (0)) := (OXx5.out).stp SN hRB
        have QXx6 : Hid (OB x6 w.heap.size 0 0 0 0 0) := (QXx5.out).stp SN hQB
        have RXx6 : Hid (Rd x6 B a len cap) := RN
        have SXx6 : Hid (Stp B w x6) := (SXx5.out).trans SN
        clear RN SN OXx5 QXx5 RXx5 SXx5
        clear y0 y1 y2 y3 y4 yz yf
        obtain ⟨⟨y0, y1, y2, y3, y4, yz⟩, yf⟩ := OXx6.out
        obtain ⟨⟨q0, q1, q2, q3, q4, qz⟩, qf⟩ := QXx6.out
        go_wp2
        refine bodyPost_ret (v := .agg #[.int .i64 (1), .int .i64 (vi), .int .i64 (z3), .int .i64 (vo), .int .i64 (0)]) (by simp [results, Try.results38, go_sem, q0, q1, q2, q3, q4]) rfl ⟨_, _, _, _, _, rfl, ?_, ?_⟩
        · exact ((((((RXx6.out.setFar hBR _).setFar hBQ _).setFar hBQ _).setFar hBQ _).setFar hBQ _).setFar hBQ _)
        · exact ((((((SXx6.out.far hwR 3 _).far (Nat.le_refl _) 0 _).far (Nat.le_refl _) 1 _).far (Nat.le_refl _) 2 _).far (Nat.le_refl _) 3 _).far (Nat.le_refl _) 4 _)
  · obtain ⟨⟨y0, y1, y2, y3, y4, yz⟩, yf⟩ := OXx2.out
    go_wp2_with fail
    refine (rd_below B a len cap 3 _ (RXx2.out.alloc _) (by omega) (by omega)).mono ?_
    rintro e x3 ⟨v3, rfl, v31, v32, RN, SN⟩
    have OXx3 : Hid (OB x3 w1.heap.size (0) (vi) (0) (0) (0)) := (OXx2.out.alloc _).stp SN hRB
    have QXx3 : Hid (OB x3 w.heap.size 0 0 0 0 0) := (QXx2.out.alloc _).stp SN hQB
    have RXx3 : Hid (Rd x3 B a len cap) := RN
    have SXx3 : Hid (Stp B w x3) := (SXx2.out.alloc _).trans SN
    obtain ⟨v3k, rfl⟩ := Int.eq_ofNat_of_zero_le v31
    obtain ⟨z3, hz3⟩ := row_cell x2 [2, 3, 3] 2 v3k (by simp; omega)
    have cz3 : x3.cell? ⟨x2.heap.size, v3k, none⟩ = some (.int .i64 z3) := by
      have hBo : x2.heap.size ≠ B := by have := RXx2.out.2.2.2.1; omega
      rw [SN.cell (p := ⟨x2.heap.size, v3k, none⟩) (by simp) hBo]
      exact hz3
    clear hz3
    clear RN SN OXx2 QXx2 RXx2 SXx2
    clear y0 y1 y2 y3 y4 yz yf
    obtain ⟨⟨y0, y1, y2, y3, y4, yz⟩, yf⟩ := OXx3.out
    go_wp2_with fail
    refine (rd_once B a len cap 40 _ ((RXx3.out.setFar hBR _)) (by omega) (by omega)).mono ?_
    rintro e x4 ⟨bo, rfl, RN, SN⟩
    have OXx4 : Hid (OB x4 w1.heap.size (z3) (vi) (0) (0) (0)) := ((OXx3.out.set0 (z3))).stp SN hRB
    have QXx4 : Hid (OB x4 w.heap.size 0 0 0 0 0) := ((QXx3.out.far hRQ 0 _)).stp SN hQB
    have RXx4 : Hid (Rd x4 B a len cap) := RN
    have SXx4 : Hid (Stp B w x4) := ((SXx3.out.far hwR 0 _)).trans SN
    clear RN SN OXx3 QXx3 RXx3 SXx3
    clear y0 y1 y2 y3 y4 yz yf
    cases bo with
    | false =>
      obtain ⟨⟨y0, y1, y2, y3, y4, yz⟩, yf⟩ := OXx4.out
      obtain ⟨⟨q0, q1, q2, q3, q4, qz⟩, qf⟩ := QXx4.out
      go_wp2
      refine bodyPost_ret (v := .agg #[.int .i64 (z3), .int .i64 (vi), .int .i64 (0), .int .i64 (0), .int .i64 (0)]) (by simp [results, Try.results38, go_sem, q0, q1, q2, q3, q4]) rfl ⟨_, _, _, _, _, rfl, ?_, ?_⟩
      · exact (((((RXx4.out.setFar hBQ _).setFar hBQ _).setFar hBQ _).setFar hBQ _).setFar hBQ _)
      · exact (((((SXx4.out.far (Nat.le_refl _) 0 _).far (Nat.le_refl _) 1 _).far (Nat.le_refl _) 2 _).far (Nat.le_refl _) 3 _).far (Nat.le_refl _) 4 _)
    | true =>
      obtain ⟨⟨y0, y1, y2, y3, y4, yz⟩, yf⟩ := OXx4.out
      go_wp2_with fail
      refine (rd_off B a len cap 0 1000000000000 _ (RXx4.out) (by omega) (by omega) (by omega)).mono ?_
      rintro e x5 ⟨vo, rfl, RN, SN⟩
      have OXx5 : Hid (OB x5 w1.heap.size (z3) (vi) (0) (0) (0)) := (OXx4.out).stp SN hRB
      have QXx5 : Hid (OB x5 w.heap.size 0 0 0 0 0) := (QXx4.out).stp SN hQB
      have RXx5 : Hid (Rd x5 B a len cap) := RN
      have SXx5 : Hid (Stp B w x5) := (SXx4.out).trans SN
      clear RN SN OXx4 QXx4 RXx4 SXx4
      clear y0 y1 y2 y3 y4 yz yf
      obtain ⟨⟨y0, y1, y2, y3, y4, yz⟩, yf⟩ := OXx5.out
      obtain ⟨⟨q0, q1, q2, q3, q4, qz⟩, qf⟩ := QXx5.out
      go_wp2
      refine bodyPost_ret (v := .agg #[.int .i64 (z3), .int .i64 (vi), .int .i64 (0), .int .i64 (vo), .int .i64 (0)]) (by simp [results, Try.results38, go_sem, q0, q1, q2, q3, q4]) rfl ⟨_, _, _, _, _, rfl, ?_, ?_⟩
      · exact ((((((RXx5.out.setFar hBR _).setFar hBQ _).setFar hBQ _).setFar hBQ _).setFar hBQ _).setFar hBQ _)
      · exact ((((((SXx5.out.far hwR 3 _).far (Nat.le_refl _) 0 _).far (Nat.le_refl _) 1 _).far (Nat.le_refl _) 2 _).far (Nat.le_refl _) 3 _).far (Nat.le_refl _) 4 _)
  · obtain ⟨⟨y0, y1, y2, y3, y4, yz⟩, yf⟩ := OXx2.out
    go_wp2_with fail
    refine (rd_once B a len cap 40 _ ((RXx2.out.setFar hBR _)) (by omega) (by omega)).mono ?_
    rintro e x3 ⟨bo, rfl, RN, SN⟩
    have OXx3 : Hid (OB x3 w1.heap.size (4) (vi) (0) (0) (0)) := ((OXx2.out.set0 (4))).stp SN hRB
    have QXx3 : Hid (OB x3 w.heap.size 0 0 0 0 0) := ((QXx2.out.far hRQ 0 _)).stp SN hQB
    have RXx3 : Hid (Rd x3 B a len cap) := RN
    have SXx3 : Hid (Stp B w x3) := ((SXx2.out.far hwR 0 _)).trans SN
    clear RN SN OXx2 QXx2 RXx2 SXx2
    clear y0 y1 y2 y3 y4 yz yf
    cases bo with
    | false =>
      obtain ⟨⟨y0, y1, y2, y3, y4, yz⟩, yf⟩ := OXx3.out
      obtain ⟨⟨q0, q1, q2, q3, q4, qz⟩, qf⟩ := QXx3.out
      go_wp2
      refine bodyPost_ret (v := .agg #[.int .i64 (4), .int .i64 (vi), .int .i64 (0), .int .i64 (0), .int .i64 (0)]) (by simp [results, Try.results38, go_sem, q0, q1, q2, q3, q4]) rfl ⟨_, _, _, _, _, rfl, ?_, ?_⟩
      · exact (((((RXx3.out.setFar hBQ _).setFar hBQ _).setFar hBQ _).setFar hBQ _).setFar hBQ _)
      · exact (((((SXx3.out.far (Nat.le_refl _) 0 _).far (Nat.le_refl _) 1 _).far (Nat.le_refl _) 2 _).far (Nat.le_refl _) 3 _).far (Nat.le_refl _) 4 _)
    | true =>
      obtain ⟨⟨y0, y1, y2, y3, y4, yz⟩, yf⟩ := OXx3.out
      go_wp2_with fail
      refine (rd_off B a len cap 0 1000000000000 _ (RXx3.out) (by omega) (by omega) (by omega)).mono ?_
      rintro e x4 ⟨vo, rfl, RN, SN⟩
      have OXx4 : Hid (OB x4 w1.heap.size (4) (vi) (0) (0) (0)) := (OXx3.out).stp SN hRB
      have QXx4 : Hid (OB x4 w.heap.size 0 0 0 0 0) := (QXx3.out).stp SN hQB
      have RXx4 : Hid (Rd x4 B a len cap) := RN
      have SXx4 : Hid (Stp B w x4) := (SXx3.out).trans SN
      clear RN SN OXx3 QXx3 RXx3 SXx3
      clear y0 y1 y2 y3 y4 yz yf
      obtain ⟨⟨y0, y1, y2, y3, y4, yz⟩, yf⟩ := OXx4.out
      obtain ⟨⟨q0, q1, q2, q3, q4, qz⟩, qf⟩ := QXx4.out
      go_wp2
      refine bodyPost_ret (v := .agg #[.int .i64 (4), .int .i64 (vi), .int .i64 (0), .int .i64 (vo), .int .i64 (0)]) (by simp [results, Try.results38, go_sem, q0, q1, q2, q3, q4]) rfl ⟨_, _, _, _, _, rfl, ?_, ?_⟩
      · exact ((((((RXx4.out.setFar hBR _).setFar hBQ _).setFar hBQ _).setFar hBQ _).setFar hBQ _).setFar hBQ _)
      · exact ((((((SXx4.out.far hwR 3 _).far (Nat.le_refl _) 0 _).far (Nat.le_refl _) 1 _).far (Nat.le_refl _) 2 _).far (Nat.le_refl _) 3 _).far (Nat.le_refl _) 4 _)
  · obtain ⟨⟨y0, y1, y2, y3, y4, yz⟩, yf⟩ := OXx2.out
    go_wp2_with fail
    refine (rd_money B a len cap _ ((RXx2.out.setFar hBR _))).mono ?_
    rintro e x3 ⟨v3, rfl, v31, v32, RN, SN⟩
    have OXx3 : Hid (OB x3 w1.heap.size (5) (vi) (0) (0) (0)) := ((OXx2.out.set0 (5))).stp SN hRB
    have QXx3 : Hid (OB x3 w.heap.size 0 0 0 0 0) := ((QXx2.out.far hRQ 0 _)).stp SN hQB
    have RXx3 : Hid (Rd x3 B a len cap) := RN
    have SXx3 : Hid (Stp B w x3) := ((SXx2.out.far hwR 0 _)).trans SN
    clear RN SN OXx2 QXx2 RXx2 SXx2
    clear y0 y1 y2 y3 y4 yz yf
    obtain ⟨⟨y0, y1, y2, y3, y4, yz⟩, yf⟩ := OXx3.out
    go_wp2_with fail
    refine (rd_once B a len cap 40 _ ((RXx3.out.setFar hBR _)) (by omega) (by omega)).mono ?_
    rintro e x4 ⟨bo, rfl, RN, SN⟩
    have OXx4 : Hid (OB x4 w1.heap.size (5) (vi) (0) (1 + v3) (0)) := ((OXx3.out.set3 (1 + v3))).stp SN hRB
    have QXx4 : Hid (OB x4 w.heap.size 0 0 0 0 0) := ((QXx3.out.far hRQ 3 _)).stp SN hQB
    have RXx4 : Hid (Rd x4 B a len cap) := RN
    have SXx4 : Hid (Stp B w x4) := ((SXx3.out.far hwR 3 _)).trans SN
    clear RN SN OXx3 QXx3 RXx3 SXx3
    clear y0 y1 y2 y3 y4 yz yf
    cases bo with
    | false =>
      obtain ⟨⟨y0, y1, y2, y3, y4, yz⟩, yf⟩ := OXx4.out
      obtain ⟨⟨q0, q1, q2, q3, q4, qz⟩, qf⟩ := QXx4.out
      go_wp2
      refine bodyPost_ret (v := .agg #[.int .i64 (5), .int .i64 (vi), .int .i64 (0), .int .i64 (1 + v3), .int .i64 (0)]) (by simp [results, Try.results38, go_sem, q0, q1, q2, q3, q4]) rfl ⟨_, _, _, _, _, rfl, ?_, ?_⟩
      · exact (((((RXx4.out.setFar hBQ _).setFar hBQ _).setFar hBQ _).setFar hBQ _).setFar hBQ _)
      · exact (((((SXx4.out.far (Nat.le_refl _) 0 _).far (Nat.le_refl _) 1 _).far (Nat.le_refl _) 2 _).far (Nat.le_refl _) 3 _).far (Nat.le_refl _) 4 _)
    | true =>
      obtain ⟨⟨y0, y1, y2, y3, y4, yz⟩, yf⟩ := OXx4.out
      go_wp2_with fail
      refine (rd_off B a len cap 0 1000000000000 _ (RXx4.out) (by omega) (by omega) (by omega)).mono ?_
      rintro e x5 ⟨vo, rfl, RN, SN⟩
      have OXx5 : Hid (OB x5 w1.heap.size (5) (vi) (0) (1 + v3) (0)) := (OXx4.out).stp SN hRB
      have QXx5 : Hid (OB x5 w.heap.size 0 0 0 0 0) := (QXx4.out).stp SN hQB
      have RXx5 : Hid (Rd x5 B a len cap) := RN
      have SXx5 : Hid (Stp B w x5) := (SXx4.out).trans SN
      clear RN SN OXx4 QXx4 RXx4 SXx4
      clear y0 y1 y2 y3 y4 yz yf
      obtain ⟨⟨y0, y1, y2, y3, y4, yz⟩, yf⟩ := OXx5.out
      obtain ⟨⟨q0, q1, q2, q3, q4, qz⟩, qf⟩ := QXx5.out
      go_wp2
      refine bodyPost_ret (v := .agg #[.int .i64 (5), .int .i64 (vi), .int .i64 (0), .int .i64 (vo), .int .i64 (0)]) (by simp [results, Try.results38, go_sem, q0, q1, q2, q3, q4]) rfl ⟨_, _, _, _, _, rfl, ?_, ?_⟩
      · exact ((((((RXx5.out.setFar hBR _).setFar hBQ _).setFar hBQ _).setFar hBQ _).setFar hBQ _).setFar hBQ _)
      · exact ((((((SXx5.out.far hwR 3 _).far (Nat.le_refl _) 0 _).far (Nat.le_refl _) 1 _).far (Nat.le_refl _) 2 _).far (Nat.le_refl _) 3 _).far (Nat.le_refl _) 4 _)
  · obtain ⟨⟨y0, y1, y2, y3, y4, yz⟩, yf⟩ := OXx2.out
    go_wp2_with fail
    refine (rd_money B a len cap _ ((RXx2.out.setFar hBR _))).mono ?_
    rintro e x3 ⟨v3, rfl, v31, v32, RN, SN⟩
    have OXx3 : Hid (OB x3 w1.heap.size (5) (vi) (0) (0) (0)) := ((OXx2.out.set0 (5))).stp SN hRB
    have QXx3 : Hid (OB x3 w.heap.size 0 0 0 0 0) := ((QXx2.out.far hRQ 0 _)).stp SN hQB
    have RXx3 : Hid (Rd x3 B a len cap) := RN
    have SXx3 : Hid (Stp B w x3) := ((SXx2.out.far hwR 0 _)).trans SN
    clear RN SN OXx2 QXx2 RXx2 SXx2
    clear y0 y1 y2 y3 y4 yz yf
    obtain ⟨⟨y0, y1, y2, y3, y4, yz⟩, yf⟩ := OXx3.out
    go_wp2_with fail
    refine (rd_once B a len cap 40 _ ((RXx3.out.setFar hBR _)) (by omega) (by omega)).mono ?_
    rintro e x4 ⟨bo, rfl, RN, SN⟩
    have OXx4 : Hid (OB x4 w1.heap.size (5) (vi) (0) (1 + v3) (0)) := ((OXx3.out.set3 (1 + v3))).stp SN hRB
    have QXx4 : Hid (OB x4 w.heap.size 0 0 0 0 0) := ((QXx3.out.far hRQ 3 _)).stp SN hQB
    have RXx4 : Hid (Rd x4 B a len cap) := RN
    have SXx4 : Hid (Stp B w x4) := ((SXx3.out.far hwR 3 _)).trans SN
    clear RN SN OXx3 QXx3 RXx3 SXx3
    clear y0 y1 y2 y3 y4 yz yf
    cases bo with
    | false =>
      obtain ⟨⟨y0, y1, y2, y3, y4, yz⟩, yf⟩ := OXx4.out
      obtain ⟨⟨q0, q1, q2, q3, q4, qz⟩, qf⟩ := QXx4.out
      go_wp2
      refine bodyPost_ret (v := .agg #[.int .i64 (5), .int .i64 (vi), .int .i64 (0), .int .i64 (1 + v3), .int .i64 (0)]) (by simp [results, Try.results38, go_sem, q0, q1, q2, q3, q4]) rfl ⟨_, _, _, _, _, rfl, ?_, ?_⟩
      · exact (((((RXx4.out.setFar hBQ _).setFar hBQ _).setFar hBQ _).setFar hBQ _).setFar hBQ _)
      · exact (((((SXx4.out.far (Nat.le_refl _) 0 _).far (Nat.le_refl _) 1 _).far (Nat.le_refl _) 2 _).far (Nat.le_refl _) 3 _).far (Nat.le_refl _) 4 _)
    | true =>
      obtain ⟨⟨y0, y1, y2, y3, y4, yz⟩, yf⟩ := OXx4.out
      go_wp2_with fail
      refine (rd_off B a len cap 0 1000000000000 _ (RXx4.out) (by omega) (by omega) (by omega)).mono ?_
      rintro e x5 ⟨vo, rfl, RN, SN⟩
      have OXx5 : Hid (OB x5 w1.heap.size (5) (vi) (0) (1 + v3) (0)) := (OXx4.out).stp SN hRB
      have QXx5 : Hid (OB x5 w.heap.size 0 0 0 0 0) := (QXx4.out).stp SN hQB
      have RXx5 : Hid (Rd x5 B a len cap) := RN
      have SXx5 : Hid (Stp B w x5) := (SXx4.out).trans SN
      clear RN SN OXx4 QXx4 RXx4 SXx4
      clear y0 y1 y2 y3 y4 yz yf
      obtain ⟨⟨y0, y1, y2, y3, y4, yz⟩, yf⟩ := OXx5.out
      obtain ⟨⟨q0, q1, q2, q3, q4, qz⟩, qf⟩ := QXx5.out
      go_wp2
      refine bodyPost_ret (v := .agg #[.int .i64 (5), .int .i64 (vi), .int .i64 (0), .int .i64 (vo), .int .i64 (0)]) (by simp [results, Try.results38, go_sem, q0, q1, q2, q3, q4]) rfl ⟨_, _, _, _, _, rfl, ?_, ?_⟩
      · exact ((((((RXx5.out.setFar hBR _).setFar hBQ _).setFar hBQ _).setFar hBQ _).setFar hBQ _).setFar hBQ _)
      · exact ((((((SXx5.out.far hwR 3 _).far (Nat.le_refl _) 0 _).far (Nat.le_refl _) 1 _).far (Nat.le_refl _) 2 _).far (Nat.le_refl _) 3 _).far (Nat.le_refl _) 4 _)
  · obtain ⟨⟨y0, y1, y2, y3, y4, yz⟩, yf⟩ := OXx2.out
    go_wp2_with fail
    refine (rd_below B a len cap 80 _ ((RXx2.out.setFar hBR _)) (by omega) (by omega)).mono ?_
    rintro e x3 ⟨v3, rfl, v31, v32, RN, SN⟩
    have OXx3 : Hid (OB x3 w1.heap.size (6) (vi) (0) (0) (0)) := ((OXx2.out.set0 (6))).stp SN hRB
    have QXx3 : Hid (OB x3 w.heap.size 0 0 0 0 0) := ((QXx2.out.far hRQ 0 _)).stp SN hQB
    have RXx3 : Hid (Rd x3 B a len cap) := RN
    have SXx3 : Hid (Stp B w x3) := ((SXx2.out.far hwR 0 _)).trans SN
    clear RN SN OXx2 QXx2 RXx2 SXx2
    clear y0 y1 y2 y3 y4 yz yf
    obtain ⟨⟨y0, y1, y2, y3, y4, yz⟩, yf⟩ := OXx3.out
    go_wp2_with fail
    refine (rd_once B a len cap 40 _ ((RXx3.out.setFar hBR _)) (by omega) (by omega)).mono ?_
    rintro e x4 ⟨bo, rfl, RN, SN⟩
    have OXx4 : Hid (OB x4 w1.heap.size (6) (vi) (0) (1 + v3) (0)) := ((OXx3.out.set3 (1 + v3))).stp SN hRB
    have QXx4 : Hid (OB x4 w.heap.size 0 0 0 0 0) := ((QXx3.out.far hRQ 3 _)).stp SN hQB
    have RXx4 : Hid (Rd x4 B a len cap) := RN
    have SXx4 : Hid (Stp B w x4) := ((SXx3.out.far hwR 3 _)).trans SN
    clear RN SN OXx3 QXx3 RXx3 SXx3
    clear y0 y1 y2 y3 y4 yz yf
    cases bo with
    | false =>
      obtain ⟨⟨y0, y1, y2, y3, y4, yz⟩, yf⟩ := OXx4.out
      obtain ⟨⟨q0, q1, q2, q3, q4, qz⟩, qf⟩ := QXx4.out
      go_wp2
      refine bodyPost_ret (v := .agg #[.int .i64 (6), .int .i64 (vi), .int .i64 (0), .int .i64 (1 + v3), .int .i64 (0)]) (by simp [results, Try.results38, go_sem, q0, q1, q2, q3, q4]) rfl ⟨_, _, _, _, _, rfl, ?_, ?_⟩
      · exact (((((RXx4.out.setFar hBQ _).setFar hBQ _).setFar hBQ _).setFar hBQ _).setFar hBQ _)
      · exact (((((SXx4.out.far (Nat.le_refl _) 0 _).far (Nat.le_refl _) 1 _).far (Nat.le_refl _) 2 _).far (Nat.le_refl _) 3 _).far (Nat.le_refl _) 4 _)
    | true =>
      obtain ⟨⟨y0, y1, y2, y3, y4, yz⟩, yf⟩ := OXx4.out
      go_wp2_with fail
      refine (rd_off B a len cap 0 1000000000000 _ (RXx4.out) (by omega) (by omega) (by omega)).mono ?_
      rintro e x5 ⟨vo, rfl, RN, SN⟩
      have OXx5 : Hid (OB x5 w1.heap.size (6) (vi) (0) (1 + v3) (0)) := (OXx4.out).stp SN hRB
      have QXx5 : Hid (OB x5 w.heap.size 0 0 0 0 0) := (QXx4.out).stp SN hQB
      have RXx5 : Hid (Rd x5 B a len cap) := RN
      have SXx5 : Hid (Stp B w x5) := (SXx4.out).trans SN
      clear RN SN OXx4 QXx4 RXx4 SXx4
      clear y0 y1 y2 y3 y4 yz yf
      obtain ⟨⟨y0, y1, y2, y3, y4, yz⟩, yf⟩ := OXx5.out
      obtain ⟨⟨q0, q1, q2, q3, q4, qz⟩, qf⟩ := QXx5.out
      go_wp2
      refine bodyPost_ret (v := .agg #[.int .i64 (6), .int .i64 (vi), .int .i64 (0), .int .i64 (vo), .int .i64 (0)]) (by simp [results, Try.results38, go_sem, q0, q1, q2, q3, q4]) rfl ⟨_, _, _, _, _, rfl, ?_, ?_⟩
      · exact ((((((RXx5.out.setFar hBR _).setFar hBQ _).setFar hBQ _).setFar hBQ _).setFar hBQ _).setFar hBQ _)
      · exact ((((((SXx5.out.far hwR 3 _).far (Nat.le_refl _) 0 _).far (Nat.le_refl _) 1 _).far (Nat.le_refl _) 2 _).far (Nat.le_refl _) 3 _).far (Nat.le_refl _) 4 _)
  · obtain ⟨⟨y0, y1, y2, y3, y4, yz⟩, yf⟩ := OXx2.out
    go_wp2_with fail
    refine (rd_below B a len cap 80 _ ((RXx2.out.setFar hBR _)) (by omega) (by omega)).mono ?_
    rintro e x3 ⟨v3, rfl, v31, v32, RN, SN⟩
    have OXx3 : Hid (OB x3 w1.heap.size (6) (vi) (0) (0) (0)) := ((OXx2.out.set0 (6))).stp SN hRB
    have QXx3 : Hid (OB x3 w.heap.size 0 0 0 0 0) := ((QXx2.out.far hRQ 0 _)).stp SN hQB
    have RXx3 : Hid (Rd x3 B a len cap) := RN
    have SXx3 : Hid (Stp B w x3) := ((SXx2.out.far hwR 0 _)).trans SN
    clear RN SN OXx2 QXx2 RXx2 SXx2
    clear y0 y1 y2 y3 y4 yz yf
    obtain ⟨⟨y0, y1, y2, y3, y4, yz⟩, yf⟩ := OXx3.out
    go_wp2_with fail
    refine (rd_once B a len cap 40 _ ((RXx3.out.setFar hBR _)) (by omega) (by omega)).mono ?_
    rintro e x4 ⟨bo, rfl, RN, SN⟩
    have OXx4 : Hid (OB x4 w1.heap.size (6) (vi) (0) (1 + v3) (0)) := ((OXx3.out.set3 (1 + v3))).stp SN hRB
    have QXx4 : Hid (OB x4 w.heap.size 0 0 0 0 0) := ((QXx3.out.far hRQ 3 _)).stp SN hQB
    have RXx4 : Hid (Rd x4 B a len cap) := RN
    have SXx4 : Hid (Stp B w x4) := ((SXx3.out.far hwR 3 _)).trans SN
    clear RN SN OXx3 QXx3 RXx3 SXx3
    clear y0 y1 y2 y3 y4 yz yf
    cases bo with
    | false =>
      obtain ⟨⟨y0, y1, y2, y3, y4, yz⟩, yf⟩ := OXx4.out
      obtain ⟨⟨q0, q1, q2, q3, q4, qz⟩, qf⟩ := QXx4.out
      go_wp2
      refine bodyPost_ret (v := .agg #[.int .i64 (6), .int .i64 (vi), .int .i64 (0), .int .i64 (1 + v3), .int .i64 (0)]) (by simp [results, Try.results38, go_sem, q0, q1, q2, q3, q4]) rfl ⟨_, _, _, _, _, rfl, ?_, ?_⟩
      · exact (((((RXx4.out.setFar hBQ _).setFar hBQ _).setFar hBQ _).setFar hBQ _).setFar hBQ _)
      · exact (((((SXx4.out.far (Nat.le_refl _) 0 _).far (Nat.le_refl _) 1 _).far (Nat.le_refl _) 2 _).far (Nat.le_refl _) 3 _).far (Nat.le_refl _) 4 _)
    | true =>
      obtain ⟨⟨y0, y1, y2, y3, y4, yz⟩, yf⟩ := OXx4.out
      go_wp2_with fail
      refine (rd_off B a len cap 0 1000000000000 _ (RXx4.out) (by omega) (by omega) (by omega)).mono ?_
      rintro e x5 ⟨vo, rfl, RN, SN⟩
      have OXx5 : Hid (OB x5 w1.heap.size (6) (vi) (0) (1 + v3) (0)) := (OXx4.out).stp SN hRB
      have QXx5 : Hid (OB x5 w.heap.size 0 0 0 0 0) := (QXx4.out).stp SN hQB
      have RXx5 : Hid (Rd x5 B a len cap) := RN
      have SXx5 : Hid (Stp B w x5) := (SXx4.out).trans SN
      clear RN SN OXx4 QXx4 RXx4 SXx4
      clear y0 y1 y2 y3 y4 yz yf
      obtain ⟨⟨y0, y1, y2, y3, y4, yz⟩, yf⟩ := OXx5.out
      obtain ⟨⟨q0, q1, q2, q3, q4, qz⟩, qf⟩ := QXx5.out
      go_wp2
      refine bodyPost_ret (v := .agg #[.int .i64 (6), .int .i64 (vi), .int .i64 (0), .int .i64 (vo), .int .i64 (0)]) (by simp [results, Try.results38, go_sem, q0, q1, q2, q3, q4]) rfl ⟨_, _, _, _, _, rfl, ?_, ?_⟩
      · exact ((((((RXx5.out.setFar hBR _).setFar hBQ _).setFar hBQ _).setFar hBQ _).setFar hBQ _).setFar hBQ _)
      · exact ((((((SXx5.out.far hwR 3 _).far (Nat.le_refl _) 0 _).far (Nat.le_refl _) 1 _).far (Nat.le_refl _) 2 _).far (Nat.le_refl _) 3 _).far (Nat.le_refl _) 4 _)
  · obtain ⟨⟨y0, y1, y2, y3, y4, yz⟩, yf⟩ := OXx2.out
    go_wp2_with fail
    refine (rd_below B a len cap 60 _ ((RXx2.out.setFar hBR _)) (by omega) (by omega)).mono ?_
    rintro e x3 ⟨v3, rfl, v31, v32, RN, SN⟩
    have OXx3 : Hid (OB x3 w1.heap.size (8) (vi) (0) (0) (0)) := ((OXx2.out.set0 (8))).stp SN hRB
    have QXx3 : Hid (OB x3 w.heap.size 0 0 0 0 0) := ((QXx2.out.far hRQ 0 _)).stp SN hQB
    have RXx3 : Hid (Rd x3 B a len cap) := RN
    have SXx3 : Hid (Stp B w x3) := ((SXx2.out.far hwR 0 _)).trans SN
    clear RN SN OXx2 QXx2 RXx2 SXx2
    clear y0 y1 y2 y3 y4 yz yf
    obtain ⟨⟨y0, y1, y2, y3, y4, yz⟩, yf⟩ := OXx3.out
    go_wp2_with fail
    refine (rd_once B a len cap 40 _ ((RXx3.out.setFar hBR _)) (by omega) (by omega)).mono ?_
    rintro e x4 ⟨bo, rfl, RN, SN⟩
    have OXx4 : Hid (OB x4 w1.heap.size (8) (vi) (0) (v3 - 1) (0)) := ((OXx3.out.set3 (v3 - 1))).stp SN hRB
    have QXx4 : Hid (OB x4 w.heap.size 0 0 0 0 0) := ((QXx3.out.far hRQ 3 _)).stp SN hQB
    have RXx4 : Hid (Rd x4 B a len cap) := RN
    have SXx4 : Hid (Stp B w x4) := ((SXx3.out.far hwR 3 _)).trans SN
    clear RN SN OXx3 QXx3 RXx3 SXx3
    clear y0 y1 y2 y3 y4 yz yf
    cases bo with
    | false =>
      obtain ⟨⟨y0, y1, y2, y3, y4, yz⟩, yf⟩ := OXx4.out
      obtain ⟨⟨q0, q1, q2, q3, q4, qz⟩, qf⟩ := QXx4.out
      go_wp2
      refine bodyPost_ret (v := .agg #[.int .i64 (8), .int .i64 (vi), .int .i64 (0), .int .i64 (v3 - 1), .int .i64 (0)]) (by simp [results, Try.results38, go_sem, q0, q1, q2, q3, q4]) rfl ⟨_, _, _, _, _, rfl, ?_, ?_⟩
      · exact (((((RXx4.out.setFar hBQ _).setFar hBQ _).setFar hBQ _).setFar hBQ _).setFar hBQ _)
      · exact (((((SXx4.out.far (Nat.le_refl _) 0 _).far (Nat.le_refl _) 1 _).far (Nat.le_refl _) 2 _).far (Nat.le_refl _) 3 _).far (Nat.le_refl _) 4 _)
    | true =>
      obtain ⟨⟨y0, y1, y2, y3, y4, yz⟩, yf⟩ := OXx4.out
      go_wp2_with fail
      refine (rd_off B a len cap 0 1000000000000 _ (RXx4.out) (by omega) (by omega) (by omega)).mono ?_
      rintro e x5 ⟨vo, rfl, RN, SN⟩
      have OXx5 : Hid (OB x5 w1.heap.size (8) (vi) (0) (v3 - 1) (0)) := (OXx4.out).stp SN hRB
      have QXx5 : Hid (OB x5 w.heap.size 0 0 0 0 0) := (QXx4.out).stp SN hQB
      have RXx5 : Hid (Rd x5 B a len cap) := RN
      have SXx5 : Hid (Stp B w x5) := (SXx4.out).trans SN
      clear RN SN OXx4 QXx4 RXx4 SXx4
      clear y0 y1 y2 y3 y4 yz yf
      obtain ⟨⟨y0, y1, y2, y3, y4, yz⟩, yf⟩ := OXx5.out
      obtain ⟨⟨q0, q1, q2, q3, q4, qz⟩, qf⟩ := QXx5.out
      go_wp2
      refine bodyPost_ret (v := .agg #[.int .i64 (8), .int .i64 (vi), .int .i64 (0), .int .i64 (vo), .int .i64 (0)]) (by simp [results, Try.results38, go_sem, q0, q1, q2, q3, q4]) rfl ⟨_, _, _, _, _, rfl, ?_, ?_⟩
      · exact ((((((RXx5.out.setFar hBR _).setFar hBQ _).setFar hBQ _).setFar hBQ _).setFar hBQ _).setFar hBQ _)
      · exact ((((((SXx5.out.far hwR 3 _).far (Nat.le_refl _) 0 _).far (Nat.le_refl _) 1 _).far (Nat.le_refl _) 2 _).far (Nat.le_refl _) 3 _).far (Nat.le_refl _) 4 _)
  · obtain ⟨⟨y0, y1, y2, y3, y4, yz⟩, yf⟩ := OXx2.out
    go_wp2_with fail
    refine (rd_id B a len cap _ ((RXx2.out.setFar hBR _))).mono ?_
    rintro e x3 ⟨v3, rfl, v31, v32, RN, SN⟩
    have OXx3 : Hid (OB x3 w1.heap.size (9) (vi) (0) (0) (0)) := ((OXx2.out.set0 (9))).stp SN hRB
    have QXx3 : Hid (OB x3 w.heap.size 0 0 0 0 0) := ((QXx2.out.far hRQ 0 _)).stp SN hQB
    have RXx3 : Hid (Rd x3 B a len cap) := RN
    have SXx3 : Hid (Stp B w x3) := ((SXx2.out.far hwR 0 _)).trans SN
    clear RN SN OXx2 QXx2 RXx2 SXx2
    clear y0 y1 y2 y3 y4 yz yf
    obtain ⟨⟨y0, y1, y2, y3, y4, yz⟩, yf⟩ := OXx3.out
    go_wp2_with fail
    refine (rd_once B a len cap 40 _ ((RXx3.out.setFar hBR _)) (by omega) (by omega)).mono ?_
    rintro e x4 ⟨bo, rfl, RN, SN⟩
    have OXx4 : Hid (OB x4 w1.heap.size (9) (vi) (v3) (0) (0)) := ((OXx3.out.set2 (v3))).stp SN hRB
    have QXx4 : Hid (OB x4 w.heap.size 0 0 0 0 0) := ((QXx3.out.far hRQ 2 _)).stp SN hQB
    have RXx4 : Hid (Rd x4 B a len cap) := RN
    have SXx4 : Hid (Stp B w x4) := ((SXx3.out.far hwR 2 _)).trans SN
    clear RN SN OXx3 QXx3 RXx3 SXx3
    clear y0 y1 y2 y3 y4 yz yf
    cases bo with
    | false =>
      obtain ⟨⟨y0, y1, y2, y3, y4, yz⟩, yf⟩ := OXx4.out
      obtain ⟨⟨q0, q1, q2, q3, q4, qz⟩, qf⟩ := QXx4.out
      go_wp2
      refine bodyPost_ret (v := .agg #[.int .i64 (9), .int .i64 (vi), .int .i64 (v3), .int .i64 (0), .int .i64 (0)]) (by simp [results, Try.results38, go_sem, q0, q1, q2, q3, q4]) rfl ⟨_, _, _, _, _, rfl, ?_, ?_⟩
      · exact (((((RXx4.out.setFar hBQ _).setFar hBQ _).setFar hBQ _).setFar hBQ _).setFar hBQ _)
      · exact (((((SXx4.out.far (Nat.le_refl _) 0 _).far (Nat.le_refl _) 1 _).far (Nat.le_refl _) 2 _).far (Nat.le_refl _) 3 _).far (Nat.le_refl _) 4 _)
    | true =>
      obtain ⟨⟨y0, y1, y2, y3, y4, yz⟩, yf⟩ := OXx4.out
      go_wp2_with fail
      refine (rd_off B a len cap 0 1000000000000 _ (RXx4.out) (by omega) (by omega) (by omega)).mono ?_
      rintro e x5 ⟨vo, rfl, RN, SN⟩
      have OXx5 : Hid (OB x5 w1.heap.size (9) (vi) (v3) (0) (0)) := (OXx4.out).stp SN hRB
      have QXx5 : Hid (OB x5 w.heap.size 0 0 0 0 0) := (QXx4.out).stp SN hQB
      have RXx5 : Hid (Rd x5 B a len cap) := RN
      have SXx5 : Hid (Stp B w x5) := (SXx4.out).trans SN
      clear RN SN OXx4 QXx4 RXx4 SXx4
      clear y0 y1 y2 y3 y4 yz yf
      obtain ⟨⟨y0, y1, y2, y3, y4, yz⟩, yf⟩ := OXx5.out
      obtain ⟨⟨q0, q1, q2, q3, q4, qz⟩, qf⟩ := QXx5.out
      go_wp2
      refine bodyPost_ret (v := .agg #[.int .i64 (9), .int .i64 (vi), .int .i64 (v3), .int .i64 (vo), .int .i64 (0)]) (by simp [results, Try.results38, go_sem, q0, q1, q2, q3, q4]) rfl ⟨_, _, _, _, _, rfl, ?_, ?_⟩
      · exact ((((((RXx5.out.setFar hBR _).setFar hBQ _).setFar hBQ _).setFar hBQ _).setFar hBQ _).setFar hBQ _)
      · exact ((((((SXx5.out.far hwR 3 _).far (Nat.le_refl _) 0 _).far (Nat.le_refl _) 1 _).far (Nat.le_refl _) 2 _).far (Nat.le_refl _) 3 _).far (Nat.le_refl _) 4 _)
  · obtain ⟨⟨y0, y1, y2, y3, y4, yz⟩, yf⟩ := OXx2.out
    go_wp2_with fail
    refine (rd_below B a len cap 40 _ ((RXx2.out.setFar hBR _)) (by omega) (by omega)).mono ?_
    rintro e x3 ⟨v3, rfl, v31, v32, RN, SN⟩
    have OXx3 : Hid (OB x3 w1.heap.size (10) (vi) (0) (0) (0)) := ((OXx2.out.set0 (10))).stp SN hRB
    have QXx3 : Hid (OB x3 w.heap.size 0 0 0 0 0) := ((QXx2.out.far hRQ 0 _)).stp SN hQB
    have RXx3 : Hid (Rd x3 B a len cap) := RN
    have SXx3 : Hid (Stp B w x3) := ((SXx2.out.far hwR 0 _)).trans SN
    clear RN SN OXx2 QXx2 RXx2 SXx2
    clear y0 y1 y2 y3 y4 yz yf
    obtain ⟨⟨y0, y1, y2, y3, y4, yz⟩, yf⟩ := OXx3.out
    go_wp2_with fail
    refine (rd_once B a len cap 40 _ ((RXx3.out.setFar hBR _)) (by omega) (by omega)).mono ?_
    rintro e x4 ⟨bo, rfl, RN, SN⟩
    have OXx4 : Hid (OB x4 w1.heap.size (10) (vi) (0) (v3 - 1) (0)) := ((OXx3.out.set3 (v3 - 1))).stp SN hRB
    have QXx4 : Hid (OB x4 w.heap.size 0 0 0 0 0) := ((QXx3.out.far hRQ 3 _)).stp SN hQB
    have RXx4 : Hid (Rd x4 B a len cap) := RN
    have SXx4 : Hid (Stp B w x4) := ((SXx3.out.far hwR 3 _)).trans SN
    clear RN SN OXx3 QXx3 RXx3 SXx3
    clear y0 y1 y2 y3 y4 yz yf
    cases bo with
    | false =>
      obtain ⟨⟨y0, y1, y2, y3, y4, yz⟩, yf⟩ := OXx4.out
      obtain ⟨⟨q0, q1, q2, q3, q4, qz⟩, qf⟩ := QXx4.out
      go_wp2
      refine bodyPost_ret (v := .agg #[.int .i64 (10), .int .i64 (vi), .int .i64 (0), .int .i64 (v3 - 1), .int .i64 (0)]) (by simp [results, Try.results38, go_sem, q0, q1, q2, q3, q4]) rfl ⟨_, _, _, _, _, rfl, ?_, ?_⟩
      · exact (((((RXx4.out.setFar hBQ _).setFar hBQ _).setFar hBQ _).setFar hBQ _).setFar hBQ _)
      · exact (((((SXx4.out.far (Nat.le_refl _) 0 _).far (Nat.le_refl _) 1 _).far (Nat.le_refl _) 2 _).far (Nat.le_refl _) 3 _).far (Nat.le_refl _) 4 _)
    | true =>
      obtain ⟨⟨y0, y1, y2, y3, y4, yz⟩, yf⟩ := OXx4.out
      go_wp2_with fail
      refine (rd_off B a len cap 0 1000000000000 _ (RXx4.out) (by omega) (by omega) (by omega)).mono ?_
      rintro e x5 ⟨vo, rfl, RN, SN⟩
      have OXx5 : Hid (OB x5 w1.heap.size (10) (vi) (0) (v3 - 1) (0)) := (OXx4.out).stp SN hRB
      have QXx5 : Hid (OB x5 w.heap.size 0 0 0 0 0) := (QXx4.out).stp SN hQB
      have RXx5 : Hid (Rd x5 B a len cap) := RN
      have SXx5 : Hid (Stp B w x5) := (SXx4.out).trans SN
      clear RN SN OXx4 QXx4 RXx4 SXx4
      clear y0 y1 y2 y3 y4 yz yf
      obtain ⟨⟨y0, y1, y2, y3, y4, yz⟩, yf⟩ := OXx5.out
      obtain ⟨⟨q0, q1, q2, q3, q4, qz⟩, qf⟩ := QXx5.out
      go_wp2
      refine bodyPost_ret (v := .agg #[.int .i64 (10), .int .i64 (vi), .int .i64 (0), .int .i64 (vo), .int .i64 (0)]) (by simp [results, Try.results38, go_sem, q0, q1, q2, q3, q4]) rfl ⟨_, _, _, _, _, rfl, ?_, ?_⟩
      · exact ((((((RXx5.out.setFar hBR _).setFar hBQ _).setFar hBQ _).setFar hBQ _).setFar hBQ _).setFar hBQ _)
      · exact ((((((SXx5.out.far hwR 3 _).far (Nat.le_refl _) 0 _).far (Nat.le_refl _) 1 _).far (Nat.le_refl _) 2 _).far (Nat.le_refl _) 3 _).far (Nat.le_refl _) 4 _)
  · obtain ⟨⟨y0, y1, y2, y3, y4, yz⟩, yf⟩ := OXx2.out
    go_wp2_with fail
    refine (rd_id B a len cap _ ((RXx2.out.setFar hBR _))).mono ?_
    rintro e x3 ⟨v3, rfl, v31, v32, RN, SN⟩
    have OXx3 : Hid (OB x3 w1.heap.size (7) (vi) (0) (0) (0)) := ((OXx2.out.set0 (7))).stp SN hRB
    have QXx3 : Hid (OB x3 w.heap.size 0 0 0 0 0) := ((QXx2.out.far hRQ 0 _)).stp SN hQB
    have RXx3 : Hid (Rd x3 B a len cap) := RN
    have SXx3 : Hid (Stp B w x3) := ((SXx2.out.far hwR 0 _)).trans SN
    clear RN SN OXx2 QXx2 RXx2 SXx2
    clear y0 y1 y2 y3 y4 yz yf
    obtain ⟨⟨y0, y1, y2, y3, y4, yz⟩, yf⟩ := OXx3.out
    go_wp2_with fail
    refine (rd_below B a len cap 60 _ ((RXx3.out.setFar hBR _)) (by omega) (by omega)).mono ?_
    rintro e x4 ⟨v4, rfl, v41, v42, RN, SN⟩
    have OXx4 : Hid (OB x4 w1.heap.size (7) (vi) (v3) (0) (0)) := ((OXx3.out.set2 (v3))).stp SN hRB
    have QXx4 : Hid (OB x4 w.heap.size 0 0 0 0 0) := ((QXx3.out.far hRQ 2 _)).stp SN hQB
    have RXx4 : Hid (Rd x4 B a len cap) := RN
    have SXx4 : Hid (Stp B w x4) := ((SXx3.out.far hwR 2 _)).trans SN
    clear RN SN OXx3 QXx3 RXx3 SXx3
    clear y0 y1 y2 y3 y4 yz yf
    obtain ⟨⟨y0, y1, y2, y3, y4, yz⟩, yf⟩ := OXx4.out
    go_wp2_with fail
    refine (rd_once B a len cap 40 _ ((RXx4.out.setFar hBR _)) (by omega) (by omega)).mono ?_
    rintro e x5 ⟨bo, rfl, RN, SN⟩
    have OXx5 : Hid (OB x5 w1.heap.size (7) (vi) (v3) (1 + v4) (0)) := ((OXx4.out.set3 (1 + v4))).stp SN hRB
    have QXx5 : Hid (OB x5 w.heap.size 0 0 0 0 0) := ((QXx4.out.far hRQ 3 _)).stp SN hQB
    have RXx5 : Hid (Rd x5 B a len cap) := RN
    have SXx5 : Hid (Stp B w x5) := ((SXx4.out.far hwR 3 _)).trans SN
    clear RN SN OXx4 QXx4 RXx4 SXx4
    clear y0 y1 y2 y3 y4 yz yf
    cases bo with
    | false =>
      obtain ⟨⟨y0, y1, y2, y3, y4, yz⟩, yf⟩ := OXx5.out
      obtain ⟨⟨q0, q1, q2, q3, q4, qz⟩, qf⟩ := QXx5.out
      go_wp2
      refine bodyPost_ret (v := .agg #[.int .i64 (7), .int .i64 (vi), .int .i64 (v3), .int .i64 (1 + v4), .int .i64 (0)]) (by simp [results, Try.results38, go_sem, q0, q1, q2, q3, q4]) rfl ⟨_, _, _, _, _, rfl, ?_, ?_⟩
      · exact (((((RXx5.out.setFar hBQ _).setFar hBQ _).setFar hBQ _).setFar hBQ _).setFar hBQ _)
      · exact (((((SXx5.out.far (Nat.le_refl _) 0 _).far (Nat.le_refl _) 1 _).far (Nat.le_refl _) 2 _).far (Nat.le_refl _) 3 _).far (Nat.le_refl _) 4 _)
    | true =>
      obtain ⟨⟨y0, y1, y2, y3, y4, yz⟩, yf⟩ := OXx5.out
      go_wp2_with fail
      refine (rd_off B a len cap 0 1000000000000 _ (RXx5.out) (by omega) (by omega) (by omega)).mono ?_
      rintro e x6 ⟨vo, rfl, RN, SN⟩
      have OXx6 : Hid (OB x6 w1.heap.size (7) (vi) (v3) (1 + v4) (0)) := (OXx5.out).stp SN hRB
      have QXx6 : Hid (OB x6 w.heap.size 0 0 0 0 0) := (QXx5.out).stp SN hQB
      have RXx6 : Hid (Rd x6 B a len cap) := RN
      have SXx6 : Hid (Stp B w x6) := (SXx5.out).trans SN
      clear RN SN OXx5 QXx5 RXx5 SXx5
      clear y0 y1 y2 y3 y4 yz yf
      obtain ⟨⟨y0, y1, y2, y3, y4, yz⟩, yf⟩ := OXx6.out
      obtain ⟨⟨q0, q1, q2, q3, q4, qz⟩, qf⟩ := QXx6.out
      go_wp2
      refine bodyPost_ret (v := .agg #[.int .i64 (7), .int .i64 (vi), .int .i64 (v3), .int .i64 (vo), .int .i64 (0)]) (by simp [results, Try.results38, go_sem, q0, q1, q2, q3, q4]) rfl ⟨_, _, _, _, _, rfl, ?_, ?_⟩
      · exact ((((((RXx6.out.setFar hBR _).setFar hBQ _).setFar hBQ _).setFar hBQ _).setFar hBQ _).setFar hBQ _)
      · exact ((((((SXx6.out.far hwR 3 _).far (Nat.le_refl _) 0 _).far (Nat.le_refl _) 1 _).far (Nat.le_refl _) 2 _).far (Nat.le_refl _) 3 _).far (Nat.le_refl _) 4 _)
  · obtain ⟨⟨y0, y1, y2, y3, y4, yz⟩, yf⟩ := OXx2.out
    go_wp2_with fail
    refine (rd_id B a len cap _ ((RXx2.out.setFar hBR _))).mono ?_
    rintro e x3 ⟨v3, rfl, v31, v32, RN, SN⟩
    have OXx3 : Hid (OB x3 w1.heap.size (7) (vi) (0) (0) (0)) := ((OXx2.out.set0 (7))).stp SN hRB
    have QXx3 : Hid (OB x3 w.heap.size 0 0 0 0 0) := ((QXx2.out.far hRQ 0 _)).stp SN hQB
    have RXx3 : Hid (Rd x3 B a len cap) := RN
    have SXx3 : Hid (Stp B w x3) := ((SXx2.out.far hwR 0 _)).trans SN
    clear RN SN OXx2 QXx2 RXx2 SXx2
    clear y0 y1 y2 y3 y4 yz yf
    obtain ⟨⟨y0, y1, y2, y3, y4, yz⟩, yf⟩ := OXx3.out
    go_wp2_with fail
    refine (rd_below B a len cap 60 _ ((RXx3.out.setFar hBR _)) (by omega) (by omega)).mono ?_
    rintro e x4 ⟨v4, rfl, v41, v42, RN, SN⟩
    have OXx4 : Hid (OB x4 w1.heap.size (7) (vi) (v3) (0) (0)) := ((OXx3.out.set2 (v3))).stp SN hRB
    have QXx4 : Hid (OB x4 w.heap.size 0 0 0 0 0) := ((QXx3.out.far hRQ 2 _)).stp SN hQB
    have RXx4 : Hid (Rd x4 B a len cap) := RN
    have SXx4 : Hid (Stp B w x4) := ((SXx3.out.far hwR 2 _)).trans SN
    clear RN SN OXx3 QXx3 RXx3 SXx3
    clear y0 y1 y2 y3 y4 yz yf
    obtain ⟨⟨y0, y1, y2, y3, y4, yz⟩, yf⟩ := OXx4.out
    go_wp2_with fail
    refine (rd_once B a len cap 40 _ ((RXx4.out.setFar hBR _)) (by omega) (by omega)).mono ?_
    rintro e x5 ⟨bo, rfl, RN, SN⟩
    have OXx5 : Hid (OB x5 w1.heap.size (7) (vi) (v3) (1 + v4) (0)) := ((OXx4.out.set3 (1 + v4))).stp SN hRB
    have QXx5 : Hid (OB x5 w.heap.size 0 0 0 0 0) := ((QXx4.out.far hRQ 3 _)).stp SN hQB
    have RXx5 : Hid (Rd x5 B a len cap) := RN
    have SXx5 : Hid (Stp B w x5) := ((SXx4.out.far hwR 3 _)).trans SN
    clear RN SN OXx4 QXx4 RXx4 SXx4
    clear y0 y1 y2 y3 y4 yz yf
    cases bo with
    | false =>
      obtain ⟨⟨y0, y1, y2, y3, y4, yz⟩, yf⟩ := OXx5.out
      obtain ⟨⟨q0, q1, q2, q3, q4, qz⟩, qf⟩ := QXx5.out
      go_wp2
      refine bodyPost_ret (v := .agg #[.int .i64 (7), .int .i64 (vi), .int .i64 (v3), .int .i64 (1 + v4), .int .i64 (0)]) (by simp [results, Try.results38, go_sem, q0, q1, q2, q3, q4]) rfl ⟨_, _, _, _, _, rfl, ?_, ?_⟩
      · exact (((((RXx5.out.setFar hBQ _).setFar hBQ _).setFar hBQ _).setFar hBQ _).setFar hBQ _)
      · exact (((((SXx5.out.far (Nat.le_refl _) 0 _).far (Nat.le_refl _) 1 _).far (Nat.le_refl _) 2 _).far (Nat.le_refl _) 3 _).far (Nat.le_refl _) 4 _)
    | true =>
      obtain ⟨⟨y0, y1, y2, y3, y4, yz⟩, yf⟩ := OXx5.out
      go_wp2_with fail
      refine (rd_off B a len cap 0 1000000000000 _ (RXx5.out) (by omega) (by omega) (by omega)).mono ?_
      rintro e x6 ⟨vo, rfl, RN, SN⟩
      have OXx6 : Hid (OB x6 w1.heap.size (7) (vi) (v3) (1 + v4) (0)) := (OXx5.out).stp SN hRB
      have QXx6 : Hid (OB x6 w.heap.size 0 0 0 0 0) := (QXx5.out).stp SN hQB
      have RXx6 : Hid (Rd x6 B a len cap) := RN
      have SXx6 : Hid (Stp B w x6) := (SXx5.out).trans SN
      clear RN SN OXx5 QXx5 RXx5 SXx5
      clear y0 y1 y2 y3 y4 yz yf
      obtain ⟨⟨y0, y1, y2, y3, y4, yz⟩, yf⟩ := OXx6.out
      obtain ⟨⟨q0, q1, q2, q3, q4, qz⟩, qf⟩ := QXx6.out
      go_wp2
      refine bodyPost_ret (v := .agg #[.int .i64 (7), .int .i64 (vi), .int .i64 (v3), .int .i64 (vo), .int .i64 (0)]) (by simp [results, Try.results38, go_sem, q0, q1, q2, q3, q4]) rfl ⟨_, _, _, _, _, rfl, ?_, ?_⟩
      · exact ((((((RXx6.out.setFar hBR _).setFar hBQ _).setFar hBQ _).setFar hBQ _).setFar hBQ _).setFar hBQ _)
      · exact ((((((SXx6.out.far hwR 3 _).far (Nat.le_refl _) 0 _).far (Nat.le_refl _) 1 _).far (Nat.le_refl _) 2 _).far (Nat.le_refl _) 3 _).far (Nat.le_refl _) 4 _)
  · obtain ⟨⟨y0, y1, y2, y3, y4, yz⟩, yf⟩ := OXx2.out
    go_wp2_with fail
    refine (rd_id B a len cap _ ((RXx2.out.setFar hBR _))).mono ?_
    rintro e x3 ⟨v3, rfl, v31, v32, RN, SN⟩
    have OXx3 : Hid (OB x3 w1.heap.size (7) (vi) (0) (0) (0)) := ((OXx2.out.set0 (7))).stp SN hRB
    have QXx3 : Hid (OB x3 w.heap.size 0 0 0 0 0) := ((QXx2.out.far hRQ 0 _)).stp SN hQB
    have RXx3 : Hid (Rd x3 B a len cap) := RN
    have SXx3 : Hid (Stp B w x3) := ((SXx2.out.far hwR 0 _)).trans SN
    clear RN SN OXx2 QXx2 RXx2 SXx2
    clear y0 y1 y2 y3 y4 yz yf
    obtain ⟨⟨y0, y1, y2, y3, y4, yz⟩, yf⟩ := OXx3.out
    go_wp2_with fail
    refine (rd_below B a len cap 60 _ ((RXx3.out.setFar hBR _)) (by omega) (by omega)).mono ?_
    rintro e x4 ⟨v4, rfl, v41, v42, RN, SN⟩
    have OXx4 : Hid (OB x4 w1.heap.size (7) (vi) (v3) (0) (0)) := ((OXx3.out.set2 (v3))).stp SN hRB
    have QXx4 : Hid (OB x4 w.heap.size 0 0 0 0 0) := ((QXx3.out.far hRQ 2 _)).stp SN hQB
    have RXx4 : Hid (Rd x4 B a len cap) := RN
    have SXx4 : Hid (Stp B w x4) := ((SXx3.out.far hwR 2 _)).trans SN
    clear RN SN OXx3 QXx3 RXx3 SXx3
    clear y0 y1 y2 y3 y4 yz yf
    obtain ⟨⟨y0, y1, y2, y3, y4, yz⟩, yf⟩ := OXx4.out
    go_wp2_with fail
    refine (rd_once B a len cap 40 _ ((RXx4.out.setFar hBR _)) (by omega) (by omega)).mono ?_
    rintro e x5 ⟨bo, rfl, RN, SN⟩
    have OXx5 : Hid (OB x5 w1.heap.size (7) (vi) (v3) (1 + v4) (0)) := ((OXx4.out.set3 (1 + v4))).stp SN hRB
    have QXx5 : Hid (OB x5 w.heap.size 0 0 0 0 0) := ((QXx4.out.far hRQ 3 _)).stp SN hQB
    have RXx5 : Hid (Rd x5 B a len cap) := RN
    have SXx5 : Hid (Stp B w x5) := ((SXx4.out.far hwR 3 _)).trans SN
    clear RN SN OXx4 QXx4 RXx4 SXx4
    clear y0 y1 y2 y3 y4 yz yf
    cases bo with
    | false =>
      obtain ⟨⟨y0, y1, y2, y3, y4, yz⟩, yf⟩ := OXx5.out
      obtain ⟨⟨q0, q1, q2, q3, q4, qz⟩, qf⟩ := QXx5.out
      go_wp2
      refine bodyPost_ret (v := .agg #[.int .i64 (7), .int .i64 (vi), .int .i64 (v3), .int .i64 (1 + v4), .int .i64 (0)]) (by simp [results, Try.results38, go_sem, q0, q1, q2, q3, q4]) rfl ⟨_, _, _, _, _, rfl, ?_, ?_⟩
      · exact (((((RXx5.out.setFar hBQ _).setFar hBQ _).setFar hBQ _).setFar hBQ _).setFar hBQ _)
      · exact (((((SXx5.out.far (Nat.le_refl _) 0 _).far (Nat.le_refl _) 1 _).far (Nat.le_refl _) 2 _).far (Nat.le_refl _) 3 _).far (Nat.le_refl _) 4 _)
    | true =>
      obtain ⟨⟨y0, y1, y2, y3, y4, yz⟩, yf⟩ := OXx5.out
      go_wp2_with fail
      refine (rd_off B a len cap 0 1000000000000 _ (RXx5.out) (by omega) (by omega) (by omega)).mono ?_
      rintro e x6 ⟨vo, rfl, RN, SN⟩
      have OXx6 : Hid (OB x6 w1.heap.size (7) (vi) (v3) (1 + v4) (0)) := (OXx5.out).stp SN hRB
      have QXx6 : Hid (OB x6 w.heap.size 0 0 0 0 0) := (QXx5.out).stp SN hQB
      have RXx6 : Hid (Rd x6 B a len cap) := RN
      have SXx6 : Hid (Stp B w x6) := (SXx5.out).trans SN
      clear RN SN OXx5 QXx5 RXx5 SXx5
      clear y0 y1 y2 y3 y4 yz yf
      obtain ⟨⟨y0, y1, y2, y3, y4, yz⟩, yf⟩ := OXx6.out
      obtain ⟨⟨q0, q1, q2, q3, q4, qz⟩, qf⟩ := QXx6.out
      go_wp2
      refine bodyPost_ret (v := .agg #[.int .i64 (7), .int .i64 (vi), .int .i64 (v3), .int .i64 (vo), .int .i64 (0)]) (by simp [results, Try.results38, go_sem, q0, q1, q2, q3, q4]) rfl ⟨_, _, _, _, _, rfl, ?_, ?_⟩
      · exact ((((((RXx6.out.setFar hBR _).setFar hBQ _).setFar hBQ _).setFar hBQ _).setFar hBQ _).setFar hBQ _)
      · exact ((((((SXx6.out.far hwR 3 _).far (Nat.le_refl _) 0 _).far (Nat.le_refl _) 1 _).far (Nat.le_refl _) 2 _).far (Nat.le_refl _) 3 _).far (Nat.le_refl _) 4 _)
  · obtain ⟨⟨y0, y1, y2, y3, y4, yz⟩, yf⟩ := OXx2.out
    go_wp2_with fail
    refine (rd_id B a len cap _ ((RXx2.out.setFar hBR _))).mono ?_
    rintro e x3 ⟨v3, rfl, v31, v32, RN, SN⟩
    have OXx3 : Hid (OB x3 w1.heap.size (7) (vi) (0) (0) (0)) := ((OXx2.out.set0 (7))).stp SN hRB
    have QXx3 : Hid (OB x3 w.heap.size 0 0 0 0 0) := ((QXx2.out.far hRQ 0 _)).stp SN hQB
    have RXx3 : Hid (Rd x3 B a len cap) := RN
    have SXx3 : Hid (Stp B w x3) := ((SXx2.out.far hwR 0 _)).trans SN
    clear RN SN OXx2 QXx2 RXx2 SXx2
    clear y0 y1 y2 y3 y4 yz yf
    obtain ⟨⟨y0, y1, y2, y3, y4, yz⟩, yf⟩ := OXx3.out
    go_wp2_with fail
    refine (rd_below B a len cap 60 _ ((RXx3.out.setFar hBR _)) (by omega) (by omega)).mono ?_
    rintro e x4 ⟨v4, rfl, v41, v42, RN, SN⟩
    have OXx4 : Hid (OB x4 w1.heap.size (7) (vi) (v3) (0) (0)) := ((OXx3.out.set2 (v3))).stp SN hRB
    have QXx4 : Hid (OB x4 w.heap.size 0 0 0 0 0) := ((QXx3.out.far hRQ 2 _)).stp SN hQB
    have RXx4 : Hid (Rd x4 B a len cap) := RN
    have SXx4 : Hid (Stp B w x4) := ((SXx3.out.far hwR 2 _)).trans SN
    clear RN SN OXx3 QXx3 RXx3 SXx3
    clear y0 y1 y2 y3 y4 yz yf
    obtain ⟨⟨y0, y1, y2, y3, y4, yz⟩, yf⟩ := OXx4.out
    go_wp2_with fail
    refine (rd_once B a len cap 40 _ ((RXx4.out.setFar hBR _)) (by omega) (by omega)).mono ?_
    rintro e x5 ⟨bo, rfl, RN, SN⟩
    have OXx5 : Hid (OB x5 w1.heap.size (7) (vi) (v3) (1 + v4) (0)) := ((OXx4.out.set3 (1 + v4))).stp SN hRB
    have QXx5 : Hid (OB x5 w.heap.size 0 0 0 0 0) := ((QXx4.out.far hRQ 3 _)).stp SN hQB
    have RXx5 : Hid (Rd x5 B a len cap) := RN
    have SXx5 : Hid (Stp B w x5) := ((SXx4.out.far hwR 3 _)).trans SN
    clear RN SN OXx4 QXx4 RXx4 SXx4
    clear y0 y1 y2 y3 y4 yz yf
    cases bo with
    | false =>
      obtain ⟨⟨y0, y1, y2, y3, y4, yz⟩, yf⟩ := OXx5.out
      obtain ⟨⟨q0, q1, q2, q3, q4, qz⟩, qf⟩ := QXx5.out
      go_wp2
      refine bodyPost_ret (v := .agg #[.int .i64 (7), .int .i64 (vi), .int .i64 (v3), .int .i64 (1 + v4), .int .i64 (0)]) (by simp [results, Try.results38, go_sem, q0, q1, q2, q3, q4]) rfl ⟨_, _, _, _, _, rfl, ?_, ?_⟩
      · exact (((((RXx5.out.setFar hBQ _).setFar hBQ _).setFar hBQ _).setFar hBQ _).setFar hBQ _)
      · exact (((((SXx5.out.far (Nat.le_refl _) 0 _).far (Nat.le_refl _) 1 _).far (Nat.le_refl _) 2 _).far (Nat.le_refl _) 3 _).far (Nat.le_refl _) 4 _)
    | true =>
      obtain ⟨⟨y0, y1, y2, y3, y4, yz⟩, yf⟩ := OXx5.out
      go_wp2_with fail
      refine (rd_off B a len cap 0 1000000000000 _ (RXx5.out) (by omega) (by omega) (by omega)).mono ?_
      rintro e x6 ⟨vo, rfl, RN, SN⟩
      have OXx6 : Hid (OB x6 w1.heap.size (7) (vi) (v3) (1 + v4) (0)) := (OXx5.out).stp SN hRB
      have QXx6 : Hid (OB x6 w.heap.size 0 0 0 0 0) := (QXx5.out).stp SN hQB
      have RXx6 : Hid (Rd x6 B a len cap) := RN
      have SXx6 : Hid (Stp B w x6) := (SXx5.out).trans SN
      clear RN SN OXx5 QXx5 RXx5 SXx5
      clear y0 y1 y2 y3 y4 yz yf
      obtain ⟨⟨y0, y1, y2, y3, y4, yz⟩, yf⟩ := OXx6.out
      obtain ⟨⟨q0, q1, q2, q3, q4, qz⟩, qf⟩ := QXx6.out
      go_wp2
      refine bodyPost_ret (v := .agg #[.int .i64 (7), .int .i64 (vi), .int .i64 (v3), .int .i64 (vo), .int .i64 (0)]) (by simp [results, Try.results38, go_sem, q0, q1, q2, q3, q4]) rfl ⟨_, _, _, _, _, rfl, ?_, ?_⟩
      · exact ((((((RXx6.out.setFar hBR _).setFar hBQ _).setFar hBQ _).setFar hBQ _).setFar hBQ _).setFar hBQ _)
      · exact ((((((SXx6.out.far hwR 3 _).far (Nat.le_refl _) 0 _).far (Nat.le_refl _) 1 _).far (Nat.le_refl _) 2 _).far (Nat.le_refl _) 3 _).far (Nat.le_refl _) 4 _)
end Go.Proofs.Ytleblllofibfkaa
