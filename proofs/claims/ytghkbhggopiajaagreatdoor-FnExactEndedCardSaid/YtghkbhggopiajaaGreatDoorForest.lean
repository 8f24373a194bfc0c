/- The draw of a forest: some accounts, at most twelve, in memory of the call's own. Conditions: the reader lies in memory as l1Open leaves it. -/
import Derived.Test.YtghkbhggopiajaaGreatDoorRds
namespace Go.Proofs.YtghkbhggopiajaaGreatDoor
open Go.RowKit
set_option maxRecDepth 8000

theorem finS_len12 {L : List Acc} {R : Int × List Acc} (hL : L.length ≤ 12) : (finS L R).2.length ≤ 12 := by
  unfold finS
  split
  · split
    · rename_i h
      exact h.1
    · exact hL
  · exact hL
theorem doneAny_len12 (L : List Acc) (k i t m r : Int) : (doneAny L k i t m r).2.length ≤ 12 := by
  unfold doneAny
  split
  · rename_i h
    unfold doneS
    split
    · exact finS_len12 h.1
    · exact h.1
  · simp
theorem AL.stp {B Bs : Nat} {w w' : World} {v : Value} {L : List Acc} (h : AL w Bs v L) (hs : Stp B w w') (hB : B < Bs) : AL w' Bs v L := by
  refine World.ownsRow.kept (row := some B) h ⟨hs.os, hs.tape, hs.output, hs.size, fun k hk hn => hs.block k hk (fun e => hn (by rw [e]))⟩ (Or.inr ?_)
  intro e
  have := (World.ownsRow.lt h B e).1
  omega

/-- Done of a forest that a call has made, while a reader is at hand. -/
theorem done_rd (B Bs : Nat) (a : Option Addr) (len cap : Nat) (v : Value) (L : List Acc) (k i t m r : Int) (w0 w : World) (_hB : B < Bs) (hBs : Bs ≤ w.heap.size) (hR : Rd w B a len cap) (hS : Stp B w0 w) (hA : AL w Bs v L) (hl : L.length ≤ 12) :
    Calls Tryz.prog 101 #[v, .agg #[.int .i64 k, .int .i64 i, .int .i64 t, .int .i64 m, .int .i64 r]] w fun e w' => ∃ v' L' cd, e = .returned (.tuple #[v', .int .i64 cd]) ∧ L'.length ≤ 12 ∧ AL w' Bs v' L' ∧ Rd w' B a len cap ∧ Stp B w0 w' := by
  obtain ⟨va, vc, rfl⟩ := hA.len
  have hF := (hA.fo (by omega)).2
  refine (specDone va vc L k i t m r w hF).mono fun e w' ⟨v', he, hA', hb⟩ => ?_
  exact ⟨v', _, _, he, doneAny_len12 L k i t m r, hA'.mono hBs, hR.same (hb.mono hR.2.2.2.1), hS.trans (Stp.ofBelow hb)⟩

set_option maxRecDepth 8000 in
set_option maxHeartbeats 4000000 in
theorem rd_forest (B : Nat) (a : Option Addr) (len cap : Nat) (most : Int) (w : World) (h : Rd w B a len cap) (m1 : 0 ≤ most) (m2 : most ≤ 100) :
    Calls Tryz.prog 55 #[.pointer (some ⟨B, 0, none⟩), .int .i64 most] w fun e w' => ∃ v L, e = .returned v ∧ L.length ≤ 12 ∧ AL w' w.heap.size v L ∧ Rd w' B a len cap ∧ Stp B w w' := by
  have H : Hid (Rd w B a len cap) := h
  have hBQ : B < w.heap.size := h.2.2.2.1
  clear h
  have A0 : Hid (AL (w.alloc (.cells #[] 30)) w.heap.size (.slice (some ⟨w.heap.size, 0, none⟩) 0 0) []) := AL.empty w _ (Nat.le_refl _)
  go_enter Tryz.func55, Tryz.ntmps55
  go_wp2_with fail
  refine (rd_below B a len cap 90 _ (H.out.alloc _) (by omega) (by omega)).mono ?_
  rintro e w1 ⟨v1, rfl, v11, v12, R1, S1⟩
  have RX1 : Hid (Rd w1 B a len cap) := R1
  have SX1 : Hid (Stp B w w1) := ((Stp.refl B w).alloc _).trans S1
  have AX1 : Hid (AL w1 w.heap.size (.slice (some ⟨w.heap.size, 0, none⟩) 0 0) []) := A0.out.stp S1 hBQ
  clear R1 S1 A0 H
  go_wp2_with fail
  refine (rd_below B a len cap 900 _ RX1.out (by omega) (by omega)).mono ?_
  rintro e w2 ⟨v2, rfl, v21, v22, R2, S2⟩
  have RX2 : Hid (Rd w2 B a len cap) := R2
  have SX2 : Hid (Stp B w w2) := SX1.out.trans S2
  have AX2 : Hid (AL w2 w.heap.size (.slice (some ⟨w.heap.size, 0, none⟩) 0 0) []) := AX1.out.stp S2 hBQ
  clear R2 S2 AX1 RX1 SX1
  go_wp2_with fail
  refine (done_rd B w.heap.size a len cap _ [] 1 1 0 v1 v2 w _ hBQ SX2.out.size RX2.out SX2.out AX2.out (by simp)).mono ?_
  rintro e w3 ⟨f3, L3, cd3, rfl, hl3, A3, R3, S3⟩
  have RX3 : Hid (Rd w3 B a len cap) := R3
  have SX3 : Hid (Stp B w w3) := S3
  have AX3 : Hid (AL w3 w.heap.size f3 L3) := A3
  clear R3 S3 A3 AX2 RX2 SX2
  obtain ⟨a3, c3, hf3⟩ := AX3.out.len
  subst hf3
  go_wp2_with fail
  refine (rd_money B a len cap _ RX3.out).mono ?_
  rintro e w4 ⟨v4, rfl, v41, v42, R4, S4⟩
  have RX4 : Hid (Rd w4 B a len cap) := R4
  have SX4 : Hid (Stp B w w4) := SX3.out.trans S4
  have AX4 : Hid (AL w4 w.heap.size (.slice a3 L3.length c3) L3) := AX3.out.stp S4 hBQ
  clear R4 S4 AX3 RX3 SX3
  go_wp2_with fail
  refine (done_rd B w.heap.size a len cap _ L3 5 1 0 (1 + v4 % 500) 0 w _ hBQ SX4.out.size RX4.out SX4.out AX4.out hl3).mono ?_
  rintro e w5 ⟨f5, L5, cd5, rfl, hl5, A5, R5, S5⟩
  have RX5 : Hid (Rd w5 B a len cap) := R5
  have SX5 : Hid (Stp B w w5) := S5
  have AX5 : Hid (AL w5 w.heap.size f5 L5) := A5
  clear R5 S5 A5 AX4 RX4 SX4
  obtain ⟨a5, c5, hf5⟩ := AX5.out.len
  subst hf5
  go_wp2_with fail
  refine (rd_below B a len cap (most + 1) _ RX5.out (by omega) (by omega)).mono ?_
  rintro e w6 ⟨v6, rfl, v61, v62, R6, S6⟩
  have RX6 : Hid (Rd w6 B a len cap) := R6
  have SX6 : Hid (Stp B w w6) := SX5.out.trans S6
  have AX6 : Hid (AL w6 w.heap.size (.slice a5 L5.length c5) L5) := AX5.out.stp S6 hBQ
  clear R6 S6 AX5 RX5 SX5
  obtain ⟨n6, rfl⟩ := Int.eq_ofNat_of_zero_le v61
  go_wp2
  go_loopw [5, 6] (fun f q wr => ∃ (k : Nat) (L : List Acc), k ≤ n6 ∧ q = .int .i64 k ∧ L.length ≤ 12 ∧ Hid (AL wr w.heap.size f L) ∧ Hid (Rd wr B a len cap) ∧ Hid (Stp B w wr)) (fun _ q _ => (intOf q).toNat)
  case atStart => exact ⟨n6, L5, Nat.le_refl _, rfl, hl5, AX6, RX6, SX6⟩
  case round =>
    obtain ⟨k, L, hk, rfl, hl, hA, hR, hS⟩ := hrel
    clear AX6 RX6 SX6
    obtain ⟨af, cf, hf⟩ := hA.out.len
    subst hf
    by_cases h0 : 0 < k
    · have h0' : (0 : Int) < (k : Int) := by omega
      go_wp2_with fail
      refine (rd_op B a len cap _ hR.out).mono ?_
      rintro e w7 ⟨ok, oi, ot, om, orr, rfl, R7, S7⟩
      have RX7 : Hid (Rd w7 B a len cap) := R7
      have SX7 : Hid (Stp B w w7) := hS.out.trans S7
      have AX7 : Hid (AL w7 w.heap.size (.slice af L.length cf) L) := hA.out.stp S7 hBQ
      clear R7 S7
      go_wp2_with fail
      refine (done_rd B w.heap.size a len cap _ L ok oi ot om orr w _ hBQ SX7.out.size RX7.out SX7.out AX7.out hl).mono ?_
      rintro e w8 ⟨f8, L8, cd8, rfl, hl8, A8, R8, S8⟩
      have RX8 : Hid (Rd w8 B a len cap) := R8
      have SX8 : Hid (Stp B w w8) := S8
      have AX8 : Hid (AL w8 w.heap.size f8 L8) := A8
      clear R8 S8 A8 AX7 RX7 SX7
      obtain ⟨a8, c8, hf8⟩ := AX8.out.len
      subst hf8
      go_wp2
      go_roundw
      case rel => exact ⟨k - 1, L8, by omega, by go_num, hl8, AX8, RX8, SX8⟩
      case measure => simp [intOf]; omega
    · have hk0 : k = 0 := by omega
      subst hk0
      by_cases hne : L.length = 0
      · have hb : ((L.length : Int) == 0) = true := by simp [hne]
        go_wp2
        go_ret
        exact ⟨_, L, rfl, hl, hA.out, hR.out, hS.out⟩
      · have hb : ((L.length : Int) == 0) = false := beq_eq_false_iff_ne.2 (by omega)
        obtain ⟨g, c, hg⟩ := hA.out.own (by intro e; have := congrArg lenOf e; simp [lenOf] at this; exact hne (by rw [this]; rfl))
        obtain ⟨rfl, rfl⟩ : af = some ⟨g, 0, none⟩ ∧ cf = c := by simpa using hg
        clear hg
        have hgw : w.heap.size ≤ g := hA.out.block.1
        have RXwr : Hid (Rd wr B a len cap) := hR
        have SXwr : Hid (Stp B w wr) := hS
        have AXwr : Hid (AL wr w.heap.size (.slice (some ⟨g, 0, none⟩) L.length cf) L) := hA
        clear hA hR hS
        go_wp2_with fail
        refine (rd_below B a len cap 40 _ RXwr.out (by omega) (by omega)).mono ?_
        rintro e w9 ⟨v9, rfl, v91, v92, RN, SN⟩
        have RXw9 : Hid (Rd w9 B a len cap) := RN
        have SXw9 : Hid (Stp B w w9) := SXwr.out.trans SN
        have AXw9 : Hid (AL w9 w.heap.size (.slice (some ⟨g, 0, none⟩) L.length cf) L) := AXwr.out.stp SN hBQ
        clear RN SN AXwr RXwr SXwr
        by_cases h37 : v9 = 37
        · subst h37
          go_wp2_with fail
          refine (rd_below B a len cap (L.length : Int) _ RXw9.out (by omega) (by omega)).mono ?_
          rintro e w10 ⟨v10, rfl, v101, v102, RN, SN⟩
          have RXw10 : Hid (Rd w10 B a len cap) := RN
          have SXw10 : Hid (Stp B w w10) := SXw9.out.trans SN
          have AXw10 : Hid (AL w10 w.heap.size (.slice (some ⟨g, 0, none⟩) L.length cf) L) := AXw9.out.stp SN hBQ
          clear RN SN AXw9 RXw9 SXw9
          obtain ⟨p, rfl⟩ := Int.eq_ofNat_of_zero_le v101
          go_wp2_with fail
          refine (rd_off B a len cap 0 4 _ RXw10.out (by omega) (by omega) (by omega)).mono ?_
          rintro e w11 ⟨vo, rfl, RN, SN⟩
          have RXw11 : Hid (Rd w11 B a len cap) := RN
          have SXw11 : Hid (Stp B w w11) := SXw10.out.trans SN
          have AXw11 : Hid (AL w11 w.heap.size (.slice (some ⟨g, 0, none⟩) L.length cf) L) := AXw10.out.stp SN hBQ
          clear RN SN AXw10 RXw10 SXw10
          have fz : ∀ j, w11.frozen? ⟨g, j, none⟩ = false := fun j => AXw11.out.frozen j
          obtain ⟨c0, c1, c2, c3, c4, c5, c6, c7⟩ := AXw11.out.acc (i := p) (by omega)

          have AF : Hid (AL (w11.setCell ⟨g, p * 8 + 1, none⟩ (.int .i64 vo)) w.heap.size (.slice (some ⟨g, 0, none⟩) L.length cf) (L.set p { FL L p with up := vo })) := by
            have s1 := AXw11.out.stored (p := p) (by omega) 1 (by omega) (.int .i64 vo) { FL L p with up := vo } rfl
            simp only [List.length_set] at s1
            exact s1
          have RF : Hid (Rd (w11.setCell ⟨g, p * 8 + 1, none⟩ (.int .i64 vo)) B a len cap) := RXw11.out.setFar (by omega) _
          have SF : Hid (Stp B w (w11.setCell ⟨g, p * 8 + 1, none⟩ (.int .i64 vo))) := SXw11.out.far hgw _ _
          clear AXw11 RXw11 SXw11
          go_wp2
          go_ret
          exact ⟨_, _, rfl, by simpa using hl, AF.out, RF.out, SF.out⟩
        have b37 : (v9 == 37) = false := by simp [h37]
        by_cases h38 : v9 = 38
        · subst h38
          go_wp2_with fail
          refine (rd_off B a len cap (-1000000000000) 1000000000000 _ RXw9.out (by omega) (by omega) (by omega)).mono ?_
          rintro e w10 ⟨vo, rfl, RN, SN⟩
          have RXw10 : Hid (Rd w10 B a len cap) := RN
          have SXw10 : Hid (Stp B w w10) := SXw9.out.trans SN
          have AXw10 : Hid (AL w10 w.heap.size (.slice (some ⟨g, 0, none⟩) L.length cf) L) := AXw9.out.stp SN hBQ
          clear RN SN AXw9 RXw9 SXw9
          have fz : ∀ j, w10.frozen? ⟨g, j, none⟩ = false := fun j => AXw10.out.frozen j
          obtain ⟨c0, c1, c2, c3, c4, c5, c6, c7⟩ := AXw10.out.acc (i := 0) (by omega)
          simp only [Nat.zero_mul, Nat.zero_add] at c0 c1 c2 c3 c4 c5 c6 c7
          have AF : Hid (AL (w10.setCell ⟨g, 6, none⟩ (.int .i64 vo)) w.heap.size (.slice (some ⟨g, 0, none⟩) L.length cf) (L.set 0 { FL L 0 with balance := vo })) := by
            have s1 := AXw10.out.stored (p := 0) (by omega) 6 (by omega) (.int .i64 vo) { FL L 0 with balance := vo } rfl
            simp only [List.length_set] at s1
            simp only [Nat.zero_mul, Nat.zero_add] at s1
            exact s1
          have RF : Hid (Rd (w10.setCell ⟨g, 6, none⟩ (.int .i64 vo)) B a len cap) := RXw10.out.setFar (by omega) _
          have SF : Hid (Stp B w (w10.setCell ⟨g, 6, none⟩ (.int .i64 vo))) := SXw10.out.far hgw _ _
          clear AXw10 RXw10 SXw10
          go_wp2
          go_ret
          exact ⟨_, _, rfl, by simpa using hl, AF.out, RF.out, SF.out⟩
        have b38 : (v9 == 38) = false := by simp [h38]
        by_cases h39 : v9 = 39
        · subst h39
          go_wp2_with fail
          refine (rd_off B a len cap (-1) 5 _ RXw9.out (by omega) (by omega) (by omega)).mono ?_
          rintro e w10 ⟨vo, rfl, RN, SN⟩
          have RXw10 : Hid (Rd w10 B a len cap) := RN
          have SXw10 : Hid (Stp B w w10) := SXw9.out.trans SN
          have AXw10 : Hid (AL w10 w.heap.size (.slice (some ⟨g, 0, none⟩) L.length cf) L) := AXw9.out.stp SN hBQ
          clear RN SN AXw9 RXw9 SXw9
          have fz : ∀ j, w10.frozen? ⟨g, j, none⟩ = false := fun j => AXw10.out.frozen j
          obtain ⟨c0, c1, c2, c3, c4, c5, c6, c7⟩ := AXw10.out.acc (i := 0) (by omega)
          simp only [Nat.zero_mul, Nat.zero_add] at c0 c1 c2 c3 c4 c5 c6 c7
          have AF : Hid (AL (w10.setCell ⟨g, 2, none⟩ (.int .i64 vo)) w.heap.size (.slice (some ⟨g, 0, none⟩) L.length cf) (L.set 0 { FL L 0 with limit := vo })) := by
            have s1 := AXw10.out.stored (p := 0) (by omega) 2 (by omega) (.int .i64 vo) { FL L 0 with limit := vo } rfl
            simp only [List.length_set] at s1
            simp only [Nat.zero_mul, Nat.zero_add] at s1
            exact s1
          have RF : Hid (Rd (w10.setCell ⟨g, 2, none⟩ (.int .i64 vo)) B a len cap) := RXw10.out.setFar (by omega) _
          have SF : Hid (Stp B w (w10.setCell ⟨g, 2, none⟩ (.int .i64 vo))) := SXw10.out.far hgw _ _
          clear AXw10 RXw10 SXw10
          go_wp2
          go_ret
          exact ⟨_, _, rfl, by simpa using hl, AF.out, RF.out, SF.out⟩
        have b39 : (v9 == 39) = false := by simp [h39]
        clear h37 h38 h39
        go_wp2
        go_ret
        exact ⟨_, L, rfl, hl, AXw9.out, RXw9.out, SXw9.out⟩
end Go.Proofs.YtghkbhggopiajaaGreatDoor
