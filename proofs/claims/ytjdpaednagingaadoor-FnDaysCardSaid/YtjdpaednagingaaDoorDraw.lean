/- Contracts of the draws of dates, days and interest: each call answers some value, whatever the bytes, and writes nothing that was there. Conditions: the bytes lie in memory. -/
import Derived.Test.YtjdpaednagingaaDoorRd
namespace Go.Proofs.YtjdpaednagingaaDoor
open Go.RowKit

set_option maxHeartbeats 1000000 in
theorem rd_date (B : Nat) (a : Option Addr) (len cap : Nat) (w : World) (h : Rd w B a len cap) :
    Calls Tryd.prog 30 #[.pointer (some ⟨B, 0, none⟩)] w fun e w' => ∃ y m d : Int, e = .returned (.agg #[.int .i64 y, .int .i64 m, .int .i64 d]) ∧ Rd w' B a len cap ∧ Stp B w w' := by
  have H : Hid (Rd w B a len cap) := h
  have hBw : B < w.heap.size := h.2.2.2.1
  clear h
  go_enter Tryd.func30, Tryd.ntmps30
  go_wp2_with fail
  refine (rd_below B a len cap 10 _ ((H.out.alloc _).alloc _) (by omega) (by omega)).mono ?_
  rintro e w1 ⟨v, rfl, v1, v2, R1, S1⟩
  obtain ⟨k, rfl⟩ := Int.eq_ofNat_of_zero_le v1
  obtain ⟨y, hy⟩ := row_cell (w.alloc (.cells #[.int .i64 0, .int .i64 0, .int .i64 0] 25)) [1, 4, 100, 400, 1900, 2000, 2023, 2024, 2026, 8213] 2 k (by simp; omega)
  have hc1 : w1.cell? ⟨w.heap.size + 1, k, none⟩ = some (.int .i64 y) := by
    rw [S1.cell (p := ⟨w.heap.size + 1, k, none⟩) (by simp) (by show w.heap.size + 1 ≠ B; omega)]
    have e : (w.alloc (.cells #[.int .i64 0, .int .i64 0, .int .i64 0] 25)).heap.size = w.heap.size + 1 := by simp
    rw [← e]
    exact hy
  have R1' : Hid (Rd w1 B a len cap) := R1
  have SS1 : Hid (Stp B (w.alloc (.cells #[.int .i64 0, .int .i64 0, .int .i64 0] 25)) w1) := ((Stp.refl B _).alloc _).trans S1
  clear R1 S1 hy
  go_wp2_with fail
  clear hc1
  refine (rd_below B a len cap 12 _ R1'.out (by omega) (by omega)).mono ?_
  rintro e w2 ⟨m, rfl, m1, m2, R2, S2⟩
  have R2' : Hid (Rd w2 B a len cap) := R2
  have SS2 : Hid (Stp B (w.alloc (.cells #[.int .i64 0, .int .i64 0, .int .i64 0] 25)) w2) := SS1.out.trans S2
  clear R2 S2 R1' SS1
  go_wp2_with fail
  refine (rd_below B a len cap 7 _ (R2'.out.alloc _) (by omega) (by omega)).mono ?_
  rintro e w3 ⟨u, rfl, u1, u2, R3, S3⟩
  obtain ⟨j, rfl⟩ := Int.eq_ofNat_of_zero_le u1
  obtain ⟨d, hd⟩ := row_cell w2 [1, 2, 15, 28, 29, 30, 31] 2 j (by simp; omega)
  have hB2 : w2.heap.size ≠ B := by have := R2'.out.2.2.2.1; omega
  have hc3 : w3.cell? ⟨w2.heap.size, j, none⟩ = some (.int .i64 d) := by
    rw [S3.cell (p := ⟨w2.heap.size, j, none⟩) (by simp) hB2]
    exact hd
  have R3' : Hid (Rd w3 B a len cap) := R3
  have SS3 : Hid (Stp B (w.alloc (.cells #[.int .i64 0, .int .i64 0, .int .i64 0] 25)) w3) := SS2.out.trans (((Stp.refl B _).alloc _).trans S3)
  clear R3 S3 hd hB2 R2' SS2
  go_wp2_with fail
  clear hc3
  refine (rd_once B a len cap 12 _ R3'.out (by omega) (by omega)).mono ?_
  rintro e w4 ⟨b, rfl, R4, S4⟩
  have R4' : Hid (Rd w4 B a len cap) := R4
  have SS4 : Hid (Stp B (w.alloc (.cells #[.int .i64 0, .int .i64 0, .int .i64 0] 25)) w4) := SS3.out.trans S4
  clear R4 S4 R3' SS3
  have hnB : w.heap.size ≠ B := by omega
  cases b with
  | false =>
    have hc : ∀ o, w4.cell? ⟨w.heap.size, o, none⟩ = (w.alloc (.cells #[.int .i64 0, .int .i64 0, .int .i64 0] 25)).cell? ⟨w.heap.size, o, none⟩ := fun o => SS4.out.cell (p := ⟨w.heap.size, o, none⟩) (by simp) hnB
    have hf : ∀ o, w4.frozen? ⟨w.heap.size, o, none⟩ = (w.alloc (.cells #[.int .i64 0, .int .i64 0, .int .i64 0] 25)).frozen? ⟨w.heap.size, o, none⟩ := fun o => SS4.out.frozen (p := ⟨w.heap.size, o, none⟩) (by simp) hnB
    have hz : w.heap.size < w4.heap.size := by have := SS4.out.size; simp at this; omega
    go_wp2
    refine bodyPost_ret (v := .agg #[.int .i64 y, .int .i64 (1 + m), .int .i64 d]) (by simp [results, Tryd.results30, go_sem, hc]) rfl ⟨_, _, _, rfl, ?_, ?_⟩
    · exact ((R4'.out.setFar hBw _).setFar hBw _).setFar hBw _
    · exact ((((((Stp.refl B w).alloc _).trans SS4.out).setNew (p := ⟨w.heap.size, 0, none⟩) (Nat.le_refl _) _).setNew (p := ⟨w.heap.size, 1, none⟩) (Nat.le_refl _) _).setNew (p := ⟨w.heap.size, 2, none⟩) (Nat.le_refl _) _)
  | true =>
    go_wp2_with fail
    refine (rd_off B a len cap 1 9999 _ R4'.out (by omega) (by omega) (by omega)).mono ?_
    rintro e w5 ⟨y', rfl, R5, S5⟩
    have R5' : Hid (Rd w5 B a len cap) := R5
    have SS5 : Hid (Stp B (w.alloc (.cells #[.int .i64 0, .int .i64 0, .int .i64 0] 25)) w5) := SS4.out.trans S5
    clear R5 S5 R4' SS4
    go_wp2_with fail
    refine (rd_off B a len cap 1 12 _ R5'.out (by omega) (by omega) (by omega)).mono ?_
    rintro e w6 ⟨m', rfl, R6, S6⟩
    have R6' : Hid (Rd w6 B a len cap) := R6
    have SS6 : Hid (Stp B (w.alloc (.cells #[.int .i64 0, .int .i64 0, .int .i64 0] 25)) w6) := SS5.out.trans S6
    clear R6 S6 R5' SS5
    go_wp2_with fail
    refine (rd_off B a len cap 1 31 _ R6'.out (by omega) (by omega) (by omega)).mono ?_
    rintro e w7 ⟨d', rfl, R7, S7⟩
    have R7' : Hid (Rd w7 B a len cap) := R7
    have SS7 : Hid (Stp B (w.alloc (.cells #[.int .i64 0, .int .i64 0, .int .i64 0] 25)) w7) := SS6.out.trans S7
    clear R7 S7 R6' SS6
    have hc : ∀ o, w7.cell? ⟨w.heap.size, o, none⟩ = (w.alloc (.cells #[.int .i64 0, .int .i64 0, .int .i64 0] 25)).cell? ⟨w.heap.size, o, none⟩ := fun o => SS7.out.cell (p := ⟨w.heap.size, o, none⟩) (by simp) hnB
    have hf : ∀ o, w7.frozen? ⟨w.heap.size, o, none⟩ = (w.alloc (.cells #[.int .i64 0, .int .i64 0, .int .i64 0] 25)).frozen? ⟨w.heap.size, o, none⟩ := fun o => SS7.out.frozen (p := ⟨w.heap.size, o, none⟩) (by simp) hnB
    have hz : w.heap.size < w7.heap.size := by have := SS7.out.size; simp at this; omega
    go_wp2
    refine bodyPost_ret (v := .agg #[.int .i64 y', .int .i64 m', .int .i64 d']) (by simp [results, Tryd.results30, go_sem, hc]) rfl ⟨_, _, _, rfl, ?_, ?_⟩
    · exact ((R7'.out.setFar hBw _).setFar hBw _).setFar hBw _
    · exact ((((((Stp.refl B w).alloc _).trans SS7.out).setNew (p := ⟨w.heap.size, 0, none⟩) (Nat.le_refl _) _).setNew (p := ⟨w.heap.size, 1, none⟩) (Nat.le_refl _) _).setNew (p := ⟨w.heap.size, 2, none⟩) (Nat.le_refl _) _)

/-- The bytes of a code, as they lie in memory. -/
def Code (w : World) (a : Option Addr) (len : Nat) : Prop := len ≤ 9223372036854775807 ∧
  ∀ i : Nat, i < len → ∃ (b off : Nat) (z : Int), a = some ⟨b, off, none⟩ ∧ b < w.heap.size ∧ w.cell? ⟨b, off + i, none⟩ = some (.int .u8 z) ∧ 0 ≤ z ∧ z ≤ 255
theorem Code.below {w w' : World} {a : Option Addr} {len : Nat} (h : Code w a len) (hb : Below w.heap.size w w') : Code w' a len := by
  refine ⟨h.1, fun i hi => ?_⟩
  obtain ⟨b, off, z, ha, hb1, hc, hz⟩ := h.2 i hi
  exact ⟨b, off, z, ha, Nat.lt_of_lt_of_le hb1 hb.size, by rw [hb.cell (p := ⟨b, off + i, none⟩) hb1]; exact hc, hz⟩

set_option maxHeartbeats 400000 in
theorem drawDateOf (a : Option Addr) (len cap : Nat) (w : World) (h : Code w a len) :
    Calls Tryd.prog 20 #[.slice a len cap] w fun e w' => ∃ v : Int, e = .returned (.int .i64 v) ∧ Below w.heap.size w w' := by
  have H : Hid (Code w a len) := h
  clear h
  go_enter Tryd.func20, Tryd.ntmps20
  go_wp2_with fail
  refine (rd_open a len cap _ H.out.1 H.out.2).mono ?_
  rintro e w1 ⟨rfl, R1, B1⟩
  have R1' : Hid (Rd w1 w.heap.size a len cap) := R1
  have BB1 : Hid (Below w.heap.size w w1) := B1
  clear R1 B1
  go_wp2_with fail
  refine (rd_once w.heap.size a len cap 3 _ R1'.out (by omega) (by omega)).mono ?_
  rintro e w2 ⟨b, rfl, R2, S2⟩
  have R2' : Hid (Rd w2 w.heap.size a len cap) := R2
  have BB2 : Hid (Below w.heap.size w w2) := BB1.out.trans (S2.below BB1.out.size)
  clear R2 S2 R1' BB1
  cases b with
  | true =>
    go_wp2_with fail
    refine (rd_off w.heap.size a len cap 0 3000000 _ R2'.out (by omega) (by omega) (by omega)).mono ?_
    rintro e w3 ⟨v, rfl, R3, S3⟩
    have BB3 : Hid (Below w.heap.size w w3) := BB2.out.trans (S3.below BB2.out.size)
    clear R3 S3
    go_wp2
    go_ret
    exact ⟨_, rfl, BB3.out⟩
  | false =>
    go_wp2_with fail
    refine (rd_date w.heap.size a len cap _ R2'.out).mono ?_
    rintro e w3 ⟨y, m, d, rfl, R3, S3⟩
    have R3' : Hid (Rd w3 w.heap.size a len cap) := R3
    have BB3 : Hid (Below w.heap.size w w3) := BB2.out.trans (S3.below BB2.out.size)
    clear R3 S3 R2' BB2
    go_wp2_with fail
    refine (specDayOf y m d _).mono ?_
    rintro e w4 ⟨rfl, B4⟩
    have R4' : Hid (Rd w4 w.heap.size a len cap) := R3'.out.same (B4.mono R3'.out.2.2.2.1)
    have BB4 : Hid (Below w.heap.size w w4) := BB3.out.trans (B4.mono BB3.out.size)
    clear B4 R3' BB3
    go_wp2_with fail
    refine (rd_below w.heap.size a len cap 3 _ R4'.out (by omega) (by omega)).mono ?_
    rintro e w5 ⟨v, rfl, v1, v2, R5, S5⟩
    have BB5 : Hid (Below w.heap.size w w5) := BB4.out.trans (S5.below BB4.out.size)
    clear R5 S5
    go_wp2
    go_ret
    exact ⟨_, rfl, BB5.out⟩

set_option maxHeartbeats 400000 in
theorem drawDayOf (a : Option Addr) (len cap : Nat) (w : World) (h : Code w a len) :
    Calls Tryd.prog 19 #[.slice a len cap] w fun e w' => ∃ y m d : Int, e = .returned (.agg #[.int .i64 y, .int .i64 m, .int .i64 d]) ∧ Below w.heap.size w w' := by
  have H : Hid (Code w a len) := h
  clear h
  have e0 : (w.alloc (.cells #[.int .i64 0, .int .i64 0, .int .i64 0] 25)).heap.size = w.heap.size + 1 := by simp
  go_enter Tryd.func19, Tryd.ntmps19
  go_wp2_with fail
  refine (rd_open a len cap _ ?_ ?_).mono ?_
  · exact H.out.1
  · exact (H.out.below ((Below.refl _ _).alloc (Nat.le_refl _) _)).2
  rintro e w1 ⟨rfl, R1, B1⟩
  rw [e0] at R1 B1
  rw [e0]
  have R1' : Hid (Rd w1 (w.heap.size + 1) a len cap) := R1
  have hc1 : ∀ o, w1.cell? ⟨w.heap.size, o, none⟩ = (w.alloc (.cells #[.int .i64 0, .int .i64 0, .int .i64 0] 25)).cell? ⟨w.heap.size, o, none⟩ := fun o => B1.cell (p := ⟨w.heap.size, o, none⟩) (by simp)
  have hf1 : ∀ o, w1.frozen? ⟨w.heap.size, o, none⟩ = (w.alloc (.cells #[.int .i64 0, .int .i64 0, .int .i64 0] 25)).frozen? ⟨w.heap.size, o, none⟩ := fun o => B1.frozen (p := ⟨w.heap.size, o, none⟩) (by simp)
  have BB1 : Hid (Below w.heap.size w w1) := ((Below.refl _ _).alloc (Nat.le_refl _) _).trans (B1.mono (by omega))
  have hz1 : w.heap.size + 1 < w1.heap.size := R1.2.2.2.1
  clear R1 B1 e0
  go_wp2_with fail
  refine (rd_date (w.heap.size + 1) a len cap _ R1'.out).mono ?_
  rintro e w2 ⟨y, m, d, rfl, R2, S2⟩
  have hc : ∀ o, w2.cell? ⟨w.heap.size, o, none⟩ = (w.alloc (.cells #[.int .i64 0, .int .i64 0, .int .i64 0] 25)).cell? ⟨w.heap.size, o, none⟩ := fun o => by rw [S2.cell (p := ⟨w.heap.size, o, none⟩) (by show w.heap.size < w1.heap.size; omega) (by show w.heap.size ≠ w.heap.size + 1; omega)]; exact hc1 o
  have hf : ∀ o, w2.frozen? ⟨w.heap.size, o, none⟩ = (w.alloc (.cells #[.int .i64 0, .int .i64 0, .int .i64 0] 25)).frozen? ⟨w.heap.size, o, none⟩ := fun o => by rw [S2.frozen (p := ⟨w.heap.size, o, none⟩) (by show w.heap.size < w1.heap.size; omega) (by show w.heap.size ≠ w.heap.size + 1; omega)]; exact hf1 o
  have BB2 : Hid (Below w.heap.size w w2) := BB1.out.trans ((S2.below (by omega)).mono (by omega))
  clear R2 S2 hc1 hf1
  go_wp2
  refine bodyPost_ret (v := .agg #[.int .i64 y, .int .i64 m, .int .i64 d]) (by simp [results, Tryd.results19, go_sem, hc]) rfl ⟨y, m, d, rfl, ?_⟩
  exact ((BB2.out.setCell (p := ⟨w.heap.size, 0, none⟩) (Nat.le_refl _) _).setCell (p := ⟨w.heap.size, 1, none⟩) (Nat.le_refl _) _).setCell (p := ⟨w.heap.size, 2, none⟩) (Nat.le_refl _) _
end Go.Proofs.YtjdpaednagingaaDoor
