/- The draws of the law FnDateTexts. Conditions: the bytes lie in memory. -/
import Derived.Test.YtenlgmjlblggmaaDoorDrB
namespace Go.Proofs.YtenlgmjlblggmaaDoor
open Go.RowKit

theorem big_no (a : Option Addr) (len cap : Nat) (w : World) (h : len ≤ 1048576) :
    Calls Tryd.prog 12 #[.slice a len cap] w fun e w' => e = .returned (.bool false) ∧ w' = w := by
  have h' : ¬ (1048576 < len) := by omega
  go_enter Tryd.func12, Tryd.ntmps12
  go_wp2
  go_ret
  exact ⟨by simp; omega, rfl⟩
theorem big_yes (a : Option Addr) (len cap : Nat) (w : World) (h : 1048576 < len) :
    Calls Tryd.prog 12 #[.slice a len cap] w fun e w' => e = .returned (.bool true) ∧ w' = w := by
  go_enter Tryd.func12, Tryd.ntmps12
  go_wp2
  go_ret
  exact ⟨by simp; omega, rfl⟩
set_option maxHeartbeats 2000000 in
theorem drawDate (a : Option Addr) (len cap : Nat) (w : World) (h : Code w a len) :
    Calls Tryd.prog 13 #[.slice a len cap] w fun e w' => ∃ y m d : Int, e = .returned (.agg #[.int .i64 y, .int .i64 m, .int .i64 d]) ∧ Below w.heap.size w w' := by
  obtain ⟨W, hW⟩ : ∃ W, W = w.alloc (.cells #[.int .i64 0, .int .i64 0, .int .i64 0] 25) := ⟨_, rfl⟩
  have BW : Hid (Below w.heap.size w W) := by rw [hW]; exact (Below.refl _ _).alloc (Nat.le_refl _) _
  have HC : Hid (Code W a len) := h.below BW.out
  have hsz : W.heap.size = w.heap.size + 1 := by rw [hW]; simp
  have q : ∀ (W' : World), Below W.heap.size W W' → W'.cell? ⟨w.heap.size, 0, none⟩ = some (.int .i64 0) ∧ W'.cell? ⟨w.heap.size, 1, none⟩ = some (.int .i64 0) ∧ W'.cell? ⟨w.heap.size, 2, none⟩ = some (.int .i64 0) ∧ ∀ o, W'.frozen? ⟨w.heap.size, o, none⟩ = false := fun W' hb => by
    refine ⟨?_, ?_, ?_, fun o => ?_⟩
    · rw [hb.cell (p := ⟨w.heap.size, 0, none⟩) (by rw [hsz]; exact Nat.lt_succ_self _), hW]; simp [go_sem]
    · rw [hb.cell (p := ⟨w.heap.size, 1, none⟩) (by rw [hsz]; exact Nat.lt_succ_self _), hW]; simp [go_sem]
    · rw [hb.cell (p := ⟨w.heap.size, 2, none⟩) (by rw [hsz]; exact Nat.lt_succ_self _), hW]; simp [go_sem]
    · rw [hb.frozen (p := ⟨w.heap.size, o, none⟩) (by rw [hsz]; exact Nat.lt_succ_self _), hW]; simp [go_sem]
  have Q : Hid (∀ (W' : World), Below W.heap.size W W' → W'.cell? ⟨w.heap.size, 0, none⟩ = some (.int .i64 0) ∧ W'.cell? ⟨w.heap.size, 1, none⟩ = some (.int .i64 0) ∧ W'.cell? ⟨w.heap.size, 2, none⟩ = some (.int .i64 0) ∧ ∀ o, W'.frozen? ⟨w.heap.size, o, none⟩ = false) := q
  clear q h hsz
  go_enter Tryd.func13, Tryd.ntmps13
  go_upto_region 1 with fail
  rw [← hW]
  clear hW
  go_wp2_with fail
  refine (rd_open a len cap _ HC.out.1 HC.out.2).mono ?_
  rintro e w1 ⟨rfl, R1, B1⟩
  have RX : Hid (Rd w1 W.heap.size a len cap) := R1
  have BX : Hid (Below W.heap.size W w1) := B1
  clear R1 B1
  go_wp2_with fail
  refine (rd_date W.heap.size a len cap _ RX.out).mono ?_
  rintro e w2 ⟨y, m, d, rfl, R2, S2⟩
  have BY : Hid (Below W.heap.size W w2) := BX.out.trans (S2.below (by have := RX.out.2.2.2.1; omega))
  clear R2 S2
  obtain ⟨q0, q1, q2, qf⟩ := Q.out w2 BY.out
  have BZ : Hid (Below w.heap.size w w2) := BW.out.trans (BY.out.mono BW.out.size)
  go_wp2
  refine bodyPost_ret (v := .agg #[.int .i64 y, .int .i64 m, .int .i64 d]) (by simp [results, Tryd.results13, go_sem, q0, q1, q2]) rfl ?_
  exact ⟨y, m, d, rfl, ((BZ.out.setCell (p := ⟨w.heap.size, 0, none⟩) (Nat.le_refl _) _).setCell (p := ⟨w.heap.size, 1, none⟩) (Nat.le_refl _) _).setCell (p := ⟨w.heap.size, 2, none⟩) (Nat.le_refl _) _⟩
def five : List ByteArray := [⟨#[50, 48, 50, 54, 45, 48, 50, 45, 50, 57]⟩, ⟨#[50, 48, 50, 54, 45, 49, 51, 45, 48, 49]⟩, ⟨#[48, 48, 48, 48, 45, 48, 49, 45, 48, 49]⟩, ⟨#[50, 48, 50, 54, 47, 48, 49, 47, 48, 49]⟩, ⟨#[50, 48, 50, 54, 48, 45, 49, 45, 48, 49]⟩]
theorem five_le : ∀ y ∈ five, y.size = 10 := by
  intro y hy
  simp only [five, List.mem_cons, List.not_mem_nil, or_false] at hy
  rcases hy with e | e | e | e | e <;> subst e <;> decide
set_option maxHeartbeats 2000000 in
theorem drawRead (a : Option Addr) (len cap : Nat) (w : World) (h : Code w a len) :
    Calls Tryd.prog 14 #[.slice a len cap] w fun e w' => ∃ y : ByteArray, e = .returned (.string y) ∧ y.size ≤ 1001 ∧ Below w.heap.size w w' := by
  have H : Hid (Code w a len) := h
  clear h
  go_enter Tryd.func14, Tryd.ntmps14
  go_wp2_with fail
  refine (rd_open a len cap _ H.out.1 H.out.2).mono ?_
  rintro e w1 ⟨rfl, R1, B1⟩
  have RX1 : Hid (Rd w1 w.heap.size a len cap) := R1
  have BX1 : Hid (Below w.heap.size w w1) := B1
  have hB1 : w.heap.size < w1.heap.size := R1.2.2.2.1
  clear R1 B1 H
  go_wp2_with fail
  refine (rd_date w.heap.size a len cap _ RX1.out).mono ?_
  rintro e w2 ⟨y, m, d, rfl, R2, S2⟩
  have RX2 : Hid (Rd w2 w.heap.size a len cap) := R2
  have BX2 : Hid (Below w.heap.size w w2) := BX1.out.trans (S2.below (by omega))
  have hB2 : w.heap.size < w2.heap.size := R2.2.2.2.1
  clear R2 S2 RX1 BX1
  obtain ⟨x, hx1, _, hx3⟩ := text_any y m d
  have HX : Hid (∀ w, Calls Tryd.prog 6 #[.agg #[.int .i64 y, .int .i64 m, .int .i64 d]] w fun e w' => e = .returned (.string x) ∧ Below w.heap.size w w') := hx1
  have hxs : (x = ⟨#[]⟩) ∨ x.size = 10 := by
    rcases hx3 with ⟨e, _⟩ | ⟨e, _⟩
    · exact Or.inl e
    · exact Or.inr e
  clear hx1 hx3
  go_wp2_with fail
  refine (HX.out _).mono ?_
  rintro e w3 ⟨rfl, B3⟩
  have RX3 : Hid (Rd w3 w.heap.size a len cap) := RX2.out.same (B3.mono (by omega))
  have BX3 : Hid (Below w.heap.size w w3) := BX2.out.trans (B3.mono (by omega))
  have hB3 : w.heap.size < w3.heap.size := Nat.lt_of_lt_of_le hB2 B3.size
  clear B3 RX2 BX2 HX
  rcases hxs with hx | hx
  · subst hx
    go_wp2_with fail
    refine (rd_below w.heap.size a len cap 5 _ (RX3.out.alloc _) (by omega) (by omega)).mono ?_
    rintro e w4 ⟨k, rfl, k1, k2, R4, S4⟩
    obtain ⟨n, rfl⟩ := Int.eq_ofNat_of_zero_le k1
    have hn : n < 5 := by omega
    have hn' : (n : Int) < 5 := by omega
    obtain ⟨z, hz⟩ : ∃ z, z = five[n]'(by simpa [five] using hn) := ⟨_, rfl⟩
    have hzs : z.size = 10 := by rw [hz]; exact five_le _ (List.getElem_mem _)
    have hc : w4.cell? ⟨w3.heap.size, n, none⟩ = some (.string z) := by
      rw [S4.cell (p := ⟨w3.heap.size, n, none⟩) (by simp) (by simp; omega), hz]
      exact strs_cell w3 five n (by simpa [five] using hn)
    have RX4 : Hid (Rd w4 w.heap.size a len cap) := R4
    have BX4 : Hid (Below w.heap.size w w4) := (BX3.out.alloc BX3.out.size _).trans (S4.below (by simp; omega))
    have hB4 : w.heap.size < w4.heap.size := R4.2.2.2.1
    clear R4 S4 hz
    go_wp2_with fail
    refine (rd_hurt w.heap.size a len cap z _ RX4.out (by omega)).mono ?_
    rintro e w5 ⟨o, rfl, ho, R5, S5⟩
    have BX5 : Hid (Below w.heap.size w w5) := BX4.out.trans (S5.below (by omega))
    have HO : Hid (o.size ≤ 1001) := ho
    clear R5 S5 ho
    go_wp2
    go_ret
    exact ⟨_, rfl, HO.out, BX5.out⟩
  · have hne : x.toList ≠ [] := fun e => by
      have : x.data.toList.length = 10 := by simp; exact hx
      rw [ByteArray.toList_eq] at e
      rw [e] at this
      cases this
    have e1 : (x.toList == []) = false := beq_eq_false_iff_ne.2 hne
    go_wp2_with fail
    refine (rd_hurt w.heap.size a len cap x _ RX3.out (by omega)).mono ?_
    rintro e w5 ⟨o, rfl, ho, R5, S5⟩
    have BX5 : Hid (Below w.heap.size w w5) := BX3.out.trans (S5.below (by omega))
    have HO : Hid (o.size ≤ 1001) := ho
    clear R5 S5 ho
    go_wp2
    go_ret
    exact ⟨_, rfl, HO.out, BX5.out⟩
end Go.Proofs.YtenlgmjlblggmaaDoor
