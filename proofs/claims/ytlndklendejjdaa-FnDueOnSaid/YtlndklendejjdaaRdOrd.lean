/- The draw of an order: some order, and the reader stays a reader. Conditions: the reader lies in memory as l1Open leaves it. -/
import Derived.Test.YtlndklendejjdaaRd
import Derived.Test.YtlndklendejjdaaBanks
namespace Go.Proofs.Ytlndklendejjdaa
open Go.RowKit

theorem Box7.stp {B : Nat} {w w' : World} {R : Nat} {v0 v1 v2 v3 v4 v5 v6 : Value} (h : Box7 w R v0 v1 v2 v3 v4 v5 v6) (hs : Stp B w w') (hR : R ≠ B) : Box7 w' R v0 v1 v2 v3 v4 v5 v6 := by
  obtain ⟨⟨h0, h1, h2, h3, h4, h5, h6⟩, hf, hz⟩ := h
  exact ⟨⟨by rw [hs.cell (p := ⟨R, 0, none⟩) hz hR]; exact h0, by rw [hs.cell (p := ⟨R, 1, none⟩) hz hR]; exact h1, by rw [hs.cell (p := ⟨R, 2, none⟩) hz hR]; exact h2, by rw [hs.cell (p := ⟨R, 3, none⟩) hz hR]; exact h3, by rw [hs.cell (p := ⟨R, 4, none⟩) hz hR]; exact h4, by rw [hs.cell (p := ⟨R, 5, none⟩) hz hR]; exact h5, by rw [hs.cell (p := ⟨R, 6, none⟩) hz hR]; exact h6⟩, fun o => by rw [hs.frozen (p := ⟨R, o, none⟩) hz hR]; exact hf o, Nat.lt_of_lt_of_le hz hs.size⟩
theorem Box7.alloc {w : World} {R : Nat} {v0 v1 v2 v3 v4 v5 v6 : Value} (h : Box7 w R v0 v1 v2 v3 v4 v5 v6) (x : Obj) : Box7 (w.alloc x) R v0 v1 v2 v3 v4 v5 v6 := h.kept ((Below.refl _ _).alloc (Nat.le_refl _) x) h.2.2

set_option maxRecDepth 4000 in
set_option maxHeartbeats 4000000 in
theorem rd_order (B : Nat) (a : Option Addr) (len cap : Nat) (w : World) (h : Rd w B a len cap) :
    Calls Try.prog 62 #[.pointer (some ⟨B, 0, none⟩)] w fun e w' => ∃ o : Ord, e = .returned (.agg #[.int .i64 o.id, .int .i64 o.src, .int .i64 o.dst, .int .i64 o.amount, .int .i64 o.first, .int .i64 o.every, .int .i64 o.times]) ∧ Rd w' B a len cap ∧ Stp B w w' := by
  have hBw : B < w.heap.size := h.2.2.2.1
  have hQB : w.heap.size ≠ B := by omega
  have RXW : Hid (Rd (w.alloc (.cells #[.int .i64 0, .int .i64 0, .int .i64 0, .int .i64 0, .int .i64 0, .int .i64 0, .int .i64 0] 25)) B a len cap) := h.alloc _
  have QXW : Hid (Box7 (w.alloc (.cells #[.int .i64 0, .int .i64 0, .int .i64 0, .int .i64 0, .int .i64 0, .int .i64 0, .int .i64 0] 25)) w.heap.size (.int .i64 0) (.int .i64 0) (.int .i64 0) (.int .i64 0) (.int .i64 0) (.int .i64 0) (.int .i64 0)) := Box7.new w (.int .i64 0) (.int .i64 0) (.int .i64 0) (.int .i64 0) (.int .i64 0) (.int .i64 0) (.int .i64 0) 25
  have SXW : Hid (Stp B w (w.alloc (.cells #[.int .i64 0, .int .i64 0, .int .i64 0, .int .i64 0, .int .i64 0, .int .i64 0, .int .i64 0] 25))) := (Stp.refl B w).alloc _
  clear h
  go_enter Try.func62, Try.ntmps62
  go_wp2_with fail
  refine (rd_below B a len cap 4 _ (RXW.out) (by omega) (by omega)).mono ?_
  rintro e w1 ⟨x1, rfl, x11, x12, RN, SN⟩
  have RXw1 : Hid (Rd w1 B a len cap) := RN
  have QXw1 : Hid (Box7 w1 w.heap.size (.int .i64 0) (.int .i64 0) (.int .i64 0) (.int .i64 0) (.int .i64 0) (.int .i64 0) (.int .i64 0)) := (QXW.out).stp SN hQB
  have SXw1 : Hid (Stp B w w1) := (SXW.out).trans SN
  clear RN SN RXW QXW SXW
  go_wp2_with fail
  refine (rd_id B a len cap _ (RXw1.out)).mono ?_
  rintro e w2 ⟨x2, rfl, x21, x22, RN, SN⟩
  have RXw2 : Hid (Rd w2 B a len cap) := RN
  have QXw2 : Hid (Box7 w2 w.heap.size (.int .i64 0) (.int .i64 0) (.int .i64 0) (.int .i64 0) (.int .i64 0) (.int .i64 0) (.int .i64 0)) := (QXw1.out).stp SN hQB
  have SXw2 : Hid (Stp B w w2) := (SXw1.out).trans SN
  clear RN SN RXw1 QXw1 SXw1
  go_wp2_with fail
  refine (rd_id B a len cap _ (RXw2.out)).mono ?_
  rintro e w3 ⟨x3, rfl, x31, x32, RN, SN⟩
  have RXw3 : Hid (Rd w3 B a len cap) := RN
  have QXw3 : Hid (Box7 w3 w.heap.size (.int .i64 0) (.int .i64 0) (.int .i64 0) (.int .i64 0) (.int .i64 0) (.int .i64 0) (.int .i64 0)) := (QXw2.out).stp SN hQB
  have SXw3 : Hid (Stp B w w3) := (SXw2.out).trans SN
  clear RN SN RXw2 QXw2 SXw2
  go_wp2_with fail
  refine (rd_below B a len cap 50 _ (RXw3.out) (by omega) (by omega)).mono ?_
  rintro e w4 ⟨x4, rfl, x41, x42, RN, SN⟩
  have RXw4 : Hid (Rd w4 B a len cap) := RN
  have QXw4 : Hid (Box7 w4 w.heap.size (.int .i64 0) (.int .i64 0) (.int .i64 0) (.int .i64 0) (.int .i64 0) (.int .i64 0) (.int .i64 0)) := (QXw3.out).stp SN hQB
  have SXw4 : Hid (Stp B w w4) := (SXw3.out).trans SN
  clear RN SN RXw3 QXw3 SXw3
  go_wp2_with fail
  refine (rd_below B a len cap 12 _ (RXw4.out) (by omega) (by omega)).mono ?_
  rintro e w5 ⟨x5, rfl, x51, x52, RN, SN⟩
  have RXw5 : Hid (Rd w5 B a len cap) := RN
  have QXw5 : Hid (Box7 w5 w.heap.size (.int .i64 0) (.int .i64 0) (.int .i64 0) (.int .i64 0) (.int .i64 0) (.int .i64 0) (.int .i64 0)) := (QXw4.out).stp SN hQB
  have SXw5 : Hid (Stp B w w5) := (SXw4.out).trans SN
  clear RN SN RXw4 QXw4 SXw4
  go_wp2_with fail
  refine (rd_below B a len cap 4 _ (RXw5.out) (by omega) (by omega)).mono ?_
  rintro e w6 ⟨x6, rfl, x61, x62, RN, SN⟩
  have RXw6 : Hid (Rd w6 B a len cap) := RN
  have QXw6 : Hid (Box7 w6 w.heap.size (.int .i64 0) (.int .i64 0) (.int .i64 0) (.int .i64 0) (.int .i64 0) (.int .i64 0) (.int .i64 0)) := (QXw5.out).stp SN hQB
  have SXw6 : Hid (Stp B w w6) := (SXw5.out).trans SN
  clear RN SN RXw5 QXw5 SXw5
  go_wp2_with fail
  refine (rd_below B a len cap 4 _ (RXw6.out) (by omega) (by omega)).mono ?_
  rintro e w7 ⟨x7, rfl, x71, x72, RN, SN⟩
  have RXw7 : Hid (Rd w7 B a len cap) := RN
  have QXw7 : Hid (Box7 w7 w.heap.size (.int .i64 0) (.int .i64 0) (.int .i64 0) (.int .i64 0) (.int .i64 0) (.int .i64 0) (.int .i64 0)) := (QXw6.out).stp SN hQB
  have SXw7 : Hid (Stp B w w7) := (SXw6.out).trans SN
  clear RN SN RXw6 QXw6 SXw6
  have hwR : w.heap.size ≤ w7.heap.size := SXw7.out.size
  have hwQ : w.heap.size < w7.heap.size := QXw7.out.2.2
  have hRB : w7.heap.size ≠ B := by omega
  by_cases hx : x2 = x3
  · have hxb : (x2 == x3) = true := by simp [hx]
    clear hx
    go_wp2_with fail
    refine (rd_below B a len cap 30 _ (RXw7.out.alloc _) (by omega) (by omega)).mono ?_
    rintro e w8 ⟨y, rfl, y1, y2, RN, SN⟩
    have RXw8 : Hid (Rd w8 B a len cap) := RN
    have QXw8 : Hid (Box7 w8 w.heap.size (.int .i64 0) (.int .i64 0) (.int .i64 0) (.int .i64 0) (.int .i64 0) (.int .i64 0) (.int .i64 0)) := (QXw7.out.alloc _).stp SN hQB
    have SXw8 : Hid (Stp B w w8) := (SXw7.out.alloc _).trans SN
    have OXw8 : Hid (Box7 w8 w7.heap.size (.int .i64 (1 + x1)) (.int .i64 (x2)) (.int .i64 (x2 % 6 + 1)) (.int .i64 (1 + x4)) (.int .i64 (x5)) (.int .i64 (1 + x6)) (.int .i64 (1 + x7))) := (Box7.new w7 (.int .i64 (1 + x1)) (.int .i64 (x2)) (.int .i64 (x2 % 6 + 1)) (.int .i64 (1 + x4)) (.int .i64 (x5)) (.int .i64 (1 + x6)) (.int .i64 (1 + x7)) 25).stp SN hRB
    clear RN SN RXw7 QXw7 SXw7
    by_cases y27 : y = 27
    · subst y27
      go_wp2_with fail
      refine (rd_off B a len cap 1 366 _ (RXw8.out) (by omega) (by omega) (by omega)).mono ?_
      rintro e w9 ⟨z, rfl, RN, SN⟩
      have RXw9 : Hid (Rd w9 B a len cap) := RN
      have QXw9 : Hid (Box7 w9 w.heap.size (.int .i64 0) (.int .i64 0) (.int .i64 0) (.int .i64 0) (.int .i64 0) (.int .i64 0) (.int .i64 0)) := (QXw8.out).stp SN hQB
      have SXw9 : Hid (Stp B w w9) := (SXw8.out).trans SN
      have OXw9 : Hid (Box7 w9 w7.heap.size (.int .i64 (1 + x1)) (.int .i64 (x2)) (.int .i64 (x2 % 6 + 1)) (.int .i64 (1 + x4)) (.int .i64 (x5)) (.int .i64 (1 + x6)) (.int .i64 (1 + x7))) := OXw8.out.stp SN hRB
      clear RN SN RXw8 QXw8 SXw8 OXw8
      obtain ⟨⟨r0, r1, r2, r3, r4, r5, r6⟩, rf, _⟩ := OXw9.out
      obtain ⟨⟨q0, q1, q2, q3, q4, q5, q6⟩, qf, _⟩ := QXw9.out
      go_wp2
      refine bodyPost_ret (v := .agg #[.int .i64 (1 + x1), .int .i64 (x2), .int .i64 (x2 % 6 + 1), .int .i64 (1 + x4), .int .i64 (x5), .int .i64 (z), .int .i64 (1 + x7)]) (by simp [results, Try.results62, go_sem, q0, q1, q2, q3, q4, q5, q6]) rfl ⟨⟨1 + x1, x2, x2 % 6 + 1, 1 + x4, x5, z, 1 + x7⟩, rfl, ?_, ?_⟩
      · repeat (refine Rd.setFar ?_ (by omega) _)
        exact RXw9.out
      · repeat (refine Stp.far ?_ (by omega) _ _)
        exact SXw9.out
    have y27b : (y == 27) = false := by simp [y27]
    by_cases y28 : y = 28
    · subst y28
      go_wp2_with fail
      refine (rd_off B a len cap 1 1000 _ (RXw8.out) (by omega) (by omega) (by omega)).mono ?_
      rintro e w9 ⟨z, rfl, RN, SN⟩
      have RXw9 : Hid (Rd w9 B a len cap) := RN
      have QXw9 : Hid (Box7 w9 w.heap.size (.int .i64 0) (.int .i64 0) (.int .i64 0) (.int .i64 0) (.int .i64 0) (.int .i64 0) (.int .i64 0)) := (QXw8.out).stp SN hQB
      have SXw9 : Hid (Stp B w w9) := (SXw8.out).trans SN
      have OXw9 : Hid (Box7 w9 w7.heap.size (.int .i64 (1 + x1)) (.int .i64 (x2)) (.int .i64 (x2 % 6 + 1)) (.int .i64 (1 + x4)) (.int .i64 (x5)) (.int .i64 (1 + x6)) (.int .i64 (1 + x7))) := OXw8.out.stp SN hRB
      clear RN SN RXw8 QXw8 SXw8 OXw8
      obtain ⟨⟨r0, r1, r2, r3, r4, r5, r6⟩, rf, _⟩ := OXw9.out
      obtain ⟨⟨q0, q1, q2, q3, q4, q5, q6⟩, qf, _⟩ := QXw9.out
      go_wp2
      refine bodyPost_ret (v := .agg #[.int .i64 (1 + x1), .int .i64 (x2), .int .i64 (x2 % 6 + 1), .int .i64 (1 + x4), .int .i64 (x5), .int .i64 (1 + x6), .int .i64 (z)]) (by simp [results, Try.results62, go_sem, q0, q1, q2, q3, q4, q5, q6]) rfl ⟨⟨1 + x1, x2, x2 % 6 + 1, 1 + x4, x5, 1 + x6, z⟩, rfl, ?_, ?_⟩
      · repeat (refine Rd.setFar ?_ (by omega) _)
        exact RXw9.out
      · repeat (refine Stp.far ?_ (by omega) _ _)
        exact SXw9.out
    have y28b : (y == 28) = false := by simp [y28]
    by_cases y29 : y = 29
    · subst y29
      go_wp2_with fail
      refine (rd_off B a len cap 0 3000000 _ (RXw8.out) (by omega) (by omega) (by omega)).mono ?_
      rintro e w9 ⟨z, rfl, RN, SN⟩
      have RXw9 : Hid (Rd w9 B a len cap) := RN
      have QXw9 : Hid (Box7 w9 w.heap.size (.int .i64 0) (.int .i64 0) (.int .i64 0) (.int .i64 0) (.int .i64 0) (.int .i64 0) (.int .i64 0)) := (QXw8.out).stp SN hQB
      have SXw9 : Hid (Stp B w w9) := (SXw8.out).trans SN
      have OXw9 : Hid (Box7 w9 w7.heap.size (.int .i64 (1 + x1)) (.int .i64 (x2)) (.int .i64 (x2 % 6 + 1)) (.int .i64 (1 + x4)) (.int .i64 (x5)) (.int .i64 (1 + x6)) (.int .i64 (1 + x7))) := OXw8.out.stp SN hRB
      clear RN SN RXw8 QXw8 SXw8 OXw8
      obtain ⟨⟨r0, r1, r2, r3, r4, r5, r6⟩, rf, _⟩ := OXw9.out
      obtain ⟨⟨q0, q1, q2, q3, q4, q5, q6⟩, qf, _⟩ := QXw9.out
      go_wp2
      refine bodyPost_ret (v := .agg #[.int .i64 (1 + x1), .int .i64 (x2), .int .i64 (x2 % 6 + 1), .int .i64 (1 + x4), .int .i64 (z), .int .i64 (1 + x6), .int .i64 (1 + x7)]) (by simp [results, Try.results62, go_sem, q0, q1, q2, q3, q4, q5, q6]) rfl ⟨⟨1 + x1, x2, x2 % 6 + 1, 1 + x4, z, 1 + x6, 1 + x7⟩, rfl, ?_, ?_⟩
      · repeat (refine Rd.setFar ?_ (by omega) _)
        exact RXw9.out
      · repeat (refine Stp.far ?_ (by omega) _ _)
        exact SXw9.out
    have y29b : (y == 29) = false := by simp [y29]
    obtain ⟨⟨r0, r1, r2, r3, r4, r5, r6⟩, rf, _⟩ := OXw8.out
    obtain ⟨⟨q0, q1, q2, q3, q4, q5, q6⟩, qf, _⟩ := QXw8.out
    go_wp2
    refine bodyPost_ret (v := .agg #[.int .i64 (1 + x1), .int .i64 (x2), .int .i64 (x2 % 6 + 1), .int .i64 (1 + x4), .int .i64 (x5), .int .i64 (1 + x6), .int .i64 (1 + x7)]) (by simp [results, Try.results62, go_sem, q0, q1, q2, q3, q4, q5, q6]) rfl ⟨⟨1 + x1, x2, x2 % 6 + 1, 1 + x4, x5, 1 + x6, 1 + x7⟩, rfl, ?_, ?_⟩
    · repeat (refine Rd.setFar ?_ (by omega) _)
      exact RXw8.out
    · repeat (refine Stp.far ?_ (by omega) _ _)
      exact SXw8.out
  · have hxb : (x2 == x3) = false := by simp [hx]
    clear hx
    go_wp2_with fail
    refine (rd_below B a len cap 30 _ (RXw7.out.alloc _) (by omega) (by omega)).mono ?_
    rintro e w8 ⟨y, rfl, y1, y2, RN, SN⟩
    have RXw8 : Hid (Rd w8 B a len cap) := RN
    have QXw8 : Hid (Box7 w8 w.heap.size (.int .i64 0) (.int .i64 0) (.int .i64 0) (.int .i64 0) (.int .i64 0) (.int .i64 0) (.int .i64 0)) := (QXw7.out.alloc _).stp SN hQB
    have SXw8 : Hid (Stp B w w8) := (SXw7.out.alloc _).trans SN
    have OXw8 : Hid (Box7 w8 w7.heap.size (.int .i64 (1 + x1)) (.int .i64 (x2)) (.int .i64 (x3)) (.int .i64 (1 + x4)) (.int .i64 (x5)) (.int .i64 (1 + x6)) (.int .i64 (1 + x7))) := (Box7.new w7 (.int .i64 (1 + x1)) (.int .i64 (x2)) (.int .i64 (x3)) (.int .i64 (1 + x4)) (.int .i64 (x5)) (.int .i64 (1 + x6)) (.int .i64 (1 + x7)) 25).stp SN hRB
    clear RN SN RXw7 QXw7 SXw7
    by_cases y27 : y = 27
    · subst y27
      go_wp2_with fail
      refine (rd_off B a len cap 1 366 _ (RXw8.out) (by omega) (by omega) (by omega)).mono ?_
      rintro e w9 ⟨z, rfl, RN, SN⟩
      have RXw9 : Hid (Rd w9 B a len cap) := RN
      have QXw9 : Hid (Box7 w9 w.heap.size (.int .i64 0) (.int .i64 0) (.int .i64 0) (.int .i64 0) (.int .i64 0) (.int .i64 0) (.int .i64 0)) := (QXw8.out).stp SN hQB
      have SXw9 : Hid (Stp B w w9) := (SXw8.out).trans SN
      have OXw9 : Hid (Box7 w9 w7.heap.size (.int .i64 (1 + x1)) (.int .i64 (x2)) (.int .i64 (x3)) (.int .i64 (1 + x4)) (.int .i64 (x5)) (.int .i64 (1 + x6)) (.int .i64 (1 + x7))) := OXw8.out.stp SN hRB
      clear RN SN RXw8 QXw8 SXw8 OXw8
      obtain ⟨⟨r0, r1, r2, r3, r4, r5, r6⟩, rf, _⟩ := OXw9.out
      obtain ⟨⟨q0, q1, q2, q3, q4, q5, q6⟩, qf, _⟩ := QXw9.out
      go_wp2
      refine bodyPost_ret (v := .agg #[.int .i64 (1 + x1), .int .i64 (x2), .int .i64 (x3), .int .i64 (1 + x4), .int .i64 (x5), .int .i64 (z), .int .i64 (1 + x7)]) (by simp [results, Try.results62, go_sem, q0, q1, q2, q3, q4, q5, q6]) rfl ⟨⟨1 + x1, x2, x3, 1 + x4, x5, z, 1 + x7⟩, rfl, ?_, ?_⟩
      · repeat (refine Rd.setFar ?_ (by omega) _)
        exact RXw9.out
      · repeat (refine Stp.far ?_ (by omega) _ _)
        exact SXw9.out
    have y27b : (y == 27) = false := by simp [y27]
    by_cases y28 : y = 28
    · subst y28
      go_wp2_with fail
      refine (rd_off B a len cap 1 1000 _ (RXw8.out) (by omega) (by omega) (by omega)).mono ?_
      rintro e w9 ⟨z, rfl, RN, SN⟩
      have RXw9 : Hid (Rd w9 B a len cap) := RN
      have QXw9 : Hid (Box7 w9 w.heap.size (.int .i64 0) (.int .i64 0) (.int .i64 0) (.int .i64 0) (.int .i64 0) (.int .i64 0) (.int .i64 0)) := (QXw8.out).stp SN hQB
      have SXw9 : Hid (Stp B w w9) := (SXw8.out).trans SN
      have OXw9 : Hid (Box7 w9 w7.heap.size (.int .i64 (1 + x1)) (.int .i64 (x2)) (.int .i64 (x3)) (.int .i64 (1 + x4)) (.int .i64 (x5)) (.int .i64 (1 + x6)) (.int .i64 (1 + x7))) := OXw8.out.stp SN hRB
      clear RN SN RXw8 QXw8 SXw8 OXw8
      obtain ⟨⟨r0, r1, r2, r3, r4, r5, r6⟩, rf, _⟩ := OXw9.out
      obtain ⟨⟨q0, q1, q2, q3, q4, q5, q6⟩, qf, _⟩ := QXw9.out
      go_wp2
      refine bodyPost_ret (v := .agg #[.int .i64 (1 + x1), .int .i64 (x2), .int .i64 (x3), .int .i64 (1 + x4), .int .i64 (x5), .int .i64 (1 + x6), .int .i64 (z)]) (by simp [results, Try.results62, go_sem, q0, q1, q2, q3, q4, q5, q6]) rfl ⟨⟨1 + x1, x2, x3, 1 + x4, x5, 1 + x6, z⟩, rfl, ?_, ?_⟩
      · repeat (refine Rd.setFar ?_ (by omega) _)
        exact RXw9.out
      · repeat (refine Stp.far ?_ (by omega) _ _)
        exact SXw9.out
    have y28b : (y == 28) = false := by simp [y28]
    by_cases y29 : y = 29
    · subst y29
      go_wp2_with fail
      refine (rd_off B a len cap 0 3000000 _ (RXw8.out) (by omega) (by omega) (by omega)).mono ?_
      rintro e w9 ⟨z, rfl, RN, SN⟩
      have RXw9 : Hid (Rd w9 B a len cap) := RN
      have QXw9 : Hid (Box7 w9 w.heap.size (.int .i64 0) (.int .i64 0) (.int .i64 0) (.int .i64 0) (.int .i64 0) (.int .i64 0) (.int .i64 0)) := (QXw8.out).stp SN hQB
      have SXw9 : Hid (Stp B w w9) := (SXw8.out).trans SN
      have OXw9 : Hid (Box7 w9 w7.heap.size (.int .i64 (1 + x1)) (.int .i64 (x2)) (.int .i64 (x3)) (.int .i64 (1 + x4)) (.int .i64 (x5)) (.int .i64 (1 + x6)) (.int .i64 (1 + x7))) := OXw8.out.stp SN hRB
      clear RN SN RXw8 QXw8 SXw8 OXw8
      obtain ⟨⟨r0, r1, r2, r3, r4, r5, r6⟩, rf, _⟩ := OXw9.out
      obtain ⟨⟨q0, q1, q2, q3, q4, q5, q6⟩, qf, _⟩ := QXw9.out
      go_wp2
      refine bodyPost_ret (v := .agg #[.int .i64 (1 + x1), .int .i64 (x2), .int .i64 (x3), .int .i64 (1 + x4), .int .i64 (z), .int .i64 (1 + x6), .int .i64 (1 + x7)]) (by simp [results, Try.results62, go_sem, q0, q1, q2, q3, q4, q5, q6]) rfl ⟨⟨1 + x1, x2, x3, 1 + x4, z, 1 + x6, 1 + x7⟩, rfl, ?_, ?_⟩
      · repeat (refine Rd.setFar ?_ (by omega) _)
        exact RXw9.out
      · repeat (refine Stp.far ?_ (by omega) _ _)
        exact SXw9.out
    have y29b : (y == 29) = false := by simp [y29]
    obtain ⟨⟨r0, r1, r2, r3, r4, r5, r6⟩, rf, _⟩ := OXw8.out
    obtain ⟨⟨q0, q1, q2, q3, q4, q5, q6⟩, qf, _⟩ := QXw8.out
    go_wp2
    refine bodyPost_ret (v := .agg #[.int .i64 (1 + x1), .int .i64 (x2), .int .i64 (x3), .int .i64 (1 + x4), .int .i64 (x5), .int .i64 (1 + x6), .int .i64 (1 + x7)]) (by simp [results, Try.results62, go_sem, q0, q1, q2, q3, q4, q5, q6]) rfl ⟨⟨1 + x1, x2, x3, 1 + x4, x5, 1 + x6, 1 + x7⟩, rfl, ?_, ?_⟩
    · repeat (refine Rd.setFar ?_ (by omega) _)
      exact RXw8.out
    · repeat (refine Stp.far ?_ (by omega) _ _)
      exact SXw8.out
end Go.Proofs.Ytlndklendejjdaa
