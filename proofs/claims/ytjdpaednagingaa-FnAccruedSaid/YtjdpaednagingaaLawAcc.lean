/- The law FnAccrued returns true, whatever the bytes of the code. Conditions: the bytes lie in memory. -/
import Derived.Test.YtjdpaednagingaaLawWeek
import Derived.Test.YtjdpaednagingaaInt
namespace Go.Proofs.Ytjdpaednagingaa
open Go.RowKit

set_option maxHeartbeats 1000000 in
theorem rd_money (B : Nat) (a : Option Addr) (len cap : Nat) (w : World) (h : Rd w B a len cap) :
    Calls Try.prog 18 #[.pointer (some ⟨B, 0, none⟩)] w fun e w' => ∃ v : Int, e = .returned (.int .i64 v) ∧ Rd w' B a len cap ∧ Stp B w w' := by
  have H : Hid (Rd w B a len cap) := h
  clear h
  go_enter Try.func18, Try.ntmps18
  go_wp2_with fail
  refine (rd_below B a len cap 8 _ H.out (by omega) (by omega)).mono ?_
  rintro e w1 ⟨v, rfl, v1, v2, R1, S1⟩
  have R1' : Hid (Rd w1 B a len cap) := R1
  have SS1 : Hid (Stp B w w1) := S1
  clear R1 S1 H
  by_cases h5 : v = 5
  · subst h5
    go_wp2_with fail
    refine (rd_below B a len cap 100000 _ R1'.out (by omega) (by omega)).mono ?_
    rintro e w2 ⟨u, rfl, u1, u2, R2, S2⟩
    have R2' : Hid (Rd w2 B a len cap) := R2
    have SS2 : Hid (Stp B w w2) := SS1.out.trans S2
    clear R2 S2
    go_wp2
    go_ret
    exact ⟨_, rfl, R2'.out, SS2.out⟩
  by_cases h6 : v = 6
  · subst h6
    go_wp2_with fail
    refine (rd_below B a len cap 3 _ R1'.out (by omega) (by omega)).mono ?_
    rintro e w2 ⟨u, rfl, u1, u2, R2, S2⟩
    have R2' : Hid (Rd w2 B a len cap) := R2
    have SS2 : Hid (Stp B w w2) := SS1.out.trans S2
    clear R2 S2
    go_wp2
    go_ret
    exact ⟨_, rfl, R2'.out, SS2.out⟩
  by_cases h7 : v = 7
  · subst h7
    go_wp2_with fail
    refine (rd_word B a len cap _ R1'.out).mono ?_
    rintro e w2 ⟨u, rfl, hu, R2, S2⟩
    have R2' : Hid (Rd w2 B a len cap) := R2
    have SS2 : Hid (Stp B w w2) := SS1.out.trans S2
    clear R2 S2 hu
    go_wp2
    go_ret
    exact ⟨_, rfl, R2'.out, SS2.out⟩
  have b5 : (v == 5) = false := by simp [h5]
  have b6 : (v == 6) = false := by simp [h6]
  have b7 : (v == 7) = false := by simp [h7]
  clear h5 h6 h7
  go_wp2_with fail
  refine (rd_below B a len cap 60 _ R1'.out (by omega) (by omega)).mono ?_
  rintro e w2 ⟨u, rfl, u1, u2, R2, S2⟩
  have R2' : Hid (Rd w2 B a len cap) := R2
  have SS2 : Hid (Stp B w w2) := SS1.out.trans S2
  clear R2 S2
  go_wp2
  go_ret
  exact ⟨_, rfl, R2'.out, SS2.out⟩

set_option maxHeartbeats 1000000 in
theorem drawAccrued (a : Option Addr) (len cap : Nat) (w : World) (h : Code w a len) :
    Calls Try.prog 13 #[.slice a len cap] w fun e w' => ∃ x y z : Int, e = .returned (.tuple #[.int .i64 x, .int .i64 y, .int .i64 z]) ∧ Below w.heap.size w w' := by
  have H : Hid (Code w a len) := h
  clear h
  go_enter Try.func13, Try.ntmps13
  go_wp2_with fail
  refine (rd_open a len cap _ H.out.1 H.out.2).mono ?_
  rintro e w1 ⟨rfl, R1, B1⟩
  have R1' : Hid (Rd w1 w.heap.size a len cap) := R1
  have BB1 : Hid (Below w.heap.size w w1) := B1
  clear R1 B1 H
  go_wp2_with fail
  refine (rd_money w.heap.size a len cap _ R1'.out).mono ?_
  rintro e w2 ⟨x, rfl, R2, S2⟩
  have R2' : Hid (Rd w2 w.heap.size a len cap) := R2
  have BB2 : Hid (Below w.heap.size w w2) := BB1.out.trans (S2.below BB1.out.size)
  clear R2 S2 R1' BB1
  go_wp2_with fail
  refine (rd_once w.heap.size a len cap 3 _ R2'.out (by omega) (by omega)).mono ?_
  rintro e w3 ⟨b, rfl, R3, S3⟩
  have R3' : Hid (Rd w3 w.heap.size a len cap) := R3
  have BB3 : Hid (Below w.heap.size w w3) := BB2.out.trans (S3.below BB2.out.size)
  clear R3 S3 R2' BB2
  cases b
  all_goals
    go_wp2_with fail
    refine (rd_below w.heap.size a len cap 12 _ R3'.out (by omega) (by omega)).mono ?_
    rintro e w4 ⟨v, rfl, v1, v2, R4, S4⟩
    have R4' : Hid (Rd w4 w.heap.size a len cap) := R4
    have BB4 : Hid (Below w.heap.size w w4) := BB3.out.trans (S4.below BB3.out.size)
    clear R4 S4 R3' BB3
    by_cases h10 : v = 10
    · subst h10
      go_wp2_with fail
      refine (rd_off w.heap.size a len cap 0 10000 _ R4'.out (by omega) (by omega) (by omega)).mono ?_
      rintro e w5 ⟨u, rfl, R5, S5⟩
      have BB5 : Hid (Below w.heap.size w w5) := BB4.out.trans (S5.below BB4.out.size)
      clear R5 S5
      go_wp2
      go_ret3
      exact ⟨_, _, _, rfl, BB5.out⟩
    by_cases h11 : v = 11
    · subst h11
      go_wp2_with fail
      refine (rd_off w.heap.size a len cap 0 3649999 _ R4'.out (by omega) (by omega) (by omega)).mono ?_
      rintro e w5 ⟨u, rfl, R5, S5⟩
      have BB5 : Hid (Below w.heap.size w w5) := BB4.out.trans (S5.below BB4.out.size)
      clear R5 S5
      go_wp2
      go_ret3
      exact ⟨_, _, _, rfl, BB5.out⟩
    have b10 : (v == 10) = false := by simp [h10]
    have b11 : (v == 11) = false := by simp [h11]
    clear h10 h11
    go_wp2_with fail
    refine (rd_below w.heap.size a len cap 800 _ R4'.out (by omega) (by omega)).mono ?_
    rintro e w5 ⟨u, rfl, u1, u2, R5, S5⟩
    have R5' : Hid (Rd w5 w.heap.size a len cap) := R5
    have BB5 : Hid (Below w.heap.size w w5) := BB4.out.trans (S5.below BB4.out.size)
    clear R5 S5 R4' BB4
    go_wp2_with fail
    refine (rd_below w.heap.size a len cap 3650000 _ R5'.out (by omega) (by omega)).mono ?_
    rintro e w6 ⟨t, rfl, t1, t2, R6, S6⟩
    have BB6 : Hid (Below w.heap.size w w6) := BB5.out.trans (S6.below BB5.out.size)
    clear R6 S6
    go_wp2
    go_ret3
    exact ⟨_, _, _, rfl, BB6.out⟩

theorem implAccrued_nought (r c : Int) (w : World) (h3 : 0 ≤ r) (h4 : r ≤ 10000) (h5 : 0 ≤ c) (h6 : c < 3650000) :
    Calls Try.prog 10 #[.int .i64 0, .int .i64 r, .int .i64 c] w fun e w' => e = .returned (.tuple #[.int .i64 0, .int .i64 c, .bool true]) ∧ w' = w := by
  have := implAccrued_yes 0 r c w (by omega) (by omega) h3 h4 h5 h6
  rwa [show (0 * r + c) / 3650000 = 0 from by rw [Int.zero_mul]; omega, show (0 * r + c) % 3650000 = c from by rw [Int.zero_mul]; omega] at this

theorem parts_of {n l t : Int} (h1 : n * 3650000 + l ≤ t) (h2 : t ≤ n * 3650000 + l) (h3 : 0 ≤ l) (h4 : l < 3650000) : t / 3650000 = n ∧ t % 3650000 = l := by omega
theorem implAccrued_at (b r c n l : Int) (w : World) (h1 : -1000000000000 ≤ b) (h2 : b ≤ 1000000000000) (h3 : 0 ≤ r) (h4 : r ≤ 10000) (h5 : 0 ≤ c) (h6 : c < 3650000)
    (e1 : n * 3650000 + l ≤ b * r + c) (e2 : b * r + c ≤ n * 3650000 + l) (e3 : 0 ≤ l) (e4 : l < 3650000) :
    Calls Try.prog 10 #[.int .i64 b, .int .i64 r, .int .i64 c] w fun e w' => e = .returned (.tuple #[.int .i64 n, .int .i64 l, .bool true]) ∧ w' = w := by
  have := implAccrued_yes b r c w h1 h2 h3 h4 h5 h6
  rwa [(parts_of e1 e2 e3 e4).1, (parts_of e1 e2 e3 e4).2] at this
theorem specAccrued_at (b r c n l : Int) (w : World) (h1 : -1000000000000 ≤ b) (h2 : b ≤ 1000000000000) (h3 : 0 ≤ r) (h4 : r ≤ 10000) (h5 : 0 ≤ c) (h6 : c < 3650000)
    (e1 : n * 3650000 + l ≤ b * r + c) (e2 : b * r + c ≤ n * 3650000 + l) (e3 : 0 ≤ l) (e4 : l < 3650000) :
    Calls Try.prog 9 #[.int .i64 b, .int .i64 r, .int .i64 c] w fun e w' => e = .returned (.tuple #[.int .i64 n, .int .i64 l, .bool true]) ∧ w' = w := by
  have := specAccrued_yes b r c w h1 h2 h3 h4 h5 h6
  rwa [(parts_of e1 e2 e3 e4).1, (parts_of e1 e2 e3 e4).2] at this
theorem ex_parts (t : Int) : ∃ n l : Int, n * 3650000 + l ≤ t ∧ t ≤ n * 3650000 + l ∧ 0 ≤ l ∧ l < 3650000 := ⟨t / 3650000, t % 3650000, by omega⟩

set_option maxHeartbeats 1000000 in
theorem lawAccrued2 (a : Option Addr) (len cap : Nat) (w : World) (h : Code w a len) :
    Calls Try.prog 6 #[.slice a len cap] w fun e w' => e = .returned (.bool true) ∧ Below w.heap.size w w' := by
  have H : Hid (Code w a len) := h
  clear h
  by_cases hbig : 1048576 < len
  · go_enter Try.func6, Try.ntmps6
    go_wp2_with (go_at_call 11; refine (big_yes _ _ _ _ hbig).mono ?_; rintro e w' ⟨rfl, rfl⟩)
    go_ret
    exact ⟨rfl, Below.refl _ _⟩
  go_enter Try.func6, Try.ntmps6
  go_wp2_with (go_at_call 11; refine (big_no _ _ _ _ (by omega)).mono ?_; rintro e w' ⟨rfl, rfl⟩)
  refine (drawAccrued a len cap _ H.out).mono ?_
  rintro e w1 ⟨b, r, c, rfl, B1⟩
  have BB : Hid (Below _ _ w1) := B1
  clear B1 H hbig
  by_cases hok : -1000000000000 ≤ b ∧ b ≤ 1000000000000 ∧ 0 ≤ r ∧ r ≤ 10000 ∧ 0 ≤ c ∧ c < 3650000
  · obtain ⟨h1, h2, h3, h4, h5, h6⟩ := hok
    obtain ⟨m1, m2⟩ := mul_bd b r h1 h2 h3 h4
    obtain ⟨n, l, e1, e2, e3, e4⟩ := ex_parts (b * r + c)
    obtain ⟨m, d, f1, f2, f3, f4⟩ := ex_parts (b * r + l)
    go_wp2_with fail
    refine (implAccrued_at b r c n l _ h1 h2 h3 h4 h5 h6 e1 e2 e3 e4).mono ?_
    rintro e w2 ⟨rfl, rfl⟩
    go_wp2_with fail
    refine (specAccrued_at b r c n l _ h1 h2 h3 h4 h5 h6 e1 e2 e3 e4).mono ?_
    rintro e w3 ⟨rfl, rfl⟩
    go_wp2_with fail
    refine (implAccrued_at b r l m d _ h1 h2 h3 h4 e3 e4 f1 f2 f3 f4).mono ?_
    rintro e w4 ⟨rfl, rfl⟩
    have hm : 2 * b * r = 2 * (b * r) := Int.mul_assoc 2 b r
    have t1 : (n * 3650000 + l != b * r + c) = false := by simp only [bne_eq_false_iff_eq]; omega
    have t2 : ((n + m) * 3650000 + d != 2 * (b * r) + c) = false := by simp only [bne_eq_false_iff_eq]; omega
    go_wp2_with fail
    refine (implAccrued_nought r c _ h3 h4 h5 h6).mono ?_
    rintro e w5 ⟨rfl, rfl⟩
    go_wp2
    go_ret
    exact ⟨rfl, BB.out⟩
  · go_wp2_with fail
    refine (implAccrued_no b r c _ hok).mono ?_
    rintro e w2 ⟨rfl, rfl⟩
    go_wp2_with fail
    refine (specAccrued_no b r c _ hok).mono ?_
    rintro e w3 ⟨rfl, rfl⟩
    clear hok
    go_wp2
    go_ret
    exact ⟨rfl, BB.out⟩
end Go.Proofs.Ytjdpaednagingaa
