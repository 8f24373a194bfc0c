/- The draws of the law FnFrames: short strings. Conditions: the bytes lie in memory. -/
import Derived.Test.YthmmlcmeaokdnaaRd
namespace Go.Proofs.Ythmmlcmeaokdnaa
open Go.RowKit

/-- Bytes of a call's own. -/
def BL (w : World) (B : Nat) (v : Value) (l : List Int) : Prop := w.ownsRow B 5 1 v l.length (l.map (Value.int .u8))
theorem BL.stp {B Bs : Nat} {w w' : World} {v : Value} {L : List Int} (h : BL w Bs v L) (hs : Stp B w w') (hB : B < Bs) : BL w' Bs v L := by
  refine World.ownsRow.kept (row := some B) h ⟨hs.os, hs.tape, hs.output, hs.size, fun k hk hn => hs.block k hk (fun e => hn (by rw [e]))⟩ (Or.inr ?_)
  intro e
  have := (World.ownsRow.lt h B e).1
  omega
theorem BL.empty (w : World) (B : Nat) (hB : B ≤ w.heap.size) : BL (w.alloc (.cells #[] 5)) B (.slice (some ⟨w.heap.size, 0, none⟩) 0 0) [] := World.ownsRow_lit w #[] 0 hB (Nat.zero_le _) (by simp)
theorem BL.own {w : World} {B : Nat} {v : Value} {L : List Int} (h : BL w B v L) (hv : v ≠ .slice none 0 0) : ∃ g c, v = .slice (some ⟨g, 0, none⟩) L.length c := by
  rcases h.2 with ⟨e, _⟩ | ⟨g, cap, cur, e, _⟩
  · exact absurd e hv
  · exact ⟨g, cap, e⟩
theorem BL.conv {w : World} {B g c : Nat} {L : List Int} (h : BL w B (.slice (some ⟨g, 0, none⟩) L.length c) L) (hz : ∀ z ∈ L, 0 ≤ z ∧ z < 256) :
    Sem.run Try.prog (convert 22 9 (.slice (some ⟨g, 0, none⟩) L.length c)) w = .ok (.string ⟨(L.map byteOf).toArray⟩) w := by
  have := run_convert_bytes_back (P := Try.prog) w 22 9 5 ⟨g, 0, none⟩ c (L.map byteOf) Try.underlying22 Try.underlying5 Try.underlying9 (by
    intro j hj
    simp at hj
    have ea : (⟨g, 0, none⟩ : Addr).add j = ⟨g, j, none⟩ := by by_cases e : j = 0 <;> simp [Addr.add, e]
    rw [ea, World.ownsRow.cellAt h j (by omega)]
    have hz := hz L[j] (List.getElem_mem _)
    simp [List.getElem?_eq_getElem hj, byteOf]
    omega)
  simpa using this
theorem info5 : (Try.prog.info? 5).map (fun i => (i.zero, i.size, i.bytes)) = some (some (.int .u8 0), 1, 1) := by kernel_rfl

set_option maxHeartbeats 2000000 in
theorem rd_bytes (B : Nat) (a : Option Addr) (len cap : Nat) (w : World) (h : Rd w B a len cap) :
    Calls Try.prog 24 #[.pointer (some ⟨B, 0, none⟩), .int .i64 5] w fun e w' => ∃ y : ByteArray, e = .returned (.string y) ∧ y.size ≤ 5 ∧ Rd w' B a len cap ∧ Stp B w w' := by
  obtain ⟨i0, hi, hz0, hz1, hz2⟩ := info_parts info5
  have H : Hid (Rd w B a len cap) := h
  have hBQ : B < w.heap.size := h.2.2.2.1
  clear h
  have A0 : Hid (BL (w.alloc (.cells #[] 5)) w.heap.size (.slice (some ⟨w.heap.size, 0, none⟩) 0 0) []) := BL.empty w _ (Nat.le_refl _)
  go_enter Try.func24, Try.ntmps24
  go_wp2_with fail
  refine (rd_below B a len cap 6 _ (H.out.alloc _) (by omega) (by omega)).mono ?_
  rintro e w1 ⟨v, rfl, v1, v2, R1, S1⟩
  obtain ⟨n6, rfl⟩ := Int.eq_ofNat_of_zero_le v1
  have RX1 : Hid (Rd w1 B a len cap) := R1
  have SX1 : Hid (Stp B w w1) := ((Stp.refl B w).alloc _).trans S1
  have AX1 : Hid (BL w1 w.heap.size (.slice (some ⟨w.heap.size, 0, none⟩) 0 0) []) := A0.out.stp S1 hBQ
  clear R1 S1 A0 H
  go_wp2
  go_loopw [5, 6] (fun u q wr => ∃ (k : Nat) (O : List Int), k ≤ n6 ∧ q = .int .i64 k ∧ Hid (O.length + k ≤ 5) ∧ Hid (∀ z ∈ O, 0 ≤ z ∧ z < 256) ∧ Hid (BL wr w.heap.size u O) ∧ Hid (Rd wr B a len cap) ∧ Hid (Stp B w wr) ∧ Hid (u ≠ .slice none 0 0)) (fun _ q _ => (intOf q).toNat)
  case atStart => exact ⟨n6, [], Nat.le_refl _, rfl, (by simp; omega : ([] : List Int).length + n6 ≤ 5), (by simp : ∀ z ∈ ([] : List Int), 0 ≤ z ∧ z < 256), AX1, RX1, SX1, (by simp : Value.slice (some ⟨w.heap.size, 0, none⟩) 0 0 ≠ .slice none 0 0)⟩
  case round =>
    obtain ⟨k, O, hk, rfl, hO, hZ, hP, hR, hS, hY⟩ := hrel
    clear AX1 RX1 SX1
    obtain ⟨g, cv, hv⟩ := hP.out.own hY.out
    subst hv
    have hlen := hO.out
    obtain ⟨on, hon⟩ : ∃ on, on = O.length := ⟨_, rfl⟩
    have HON : Hid (on = O.length) := hon
    rw [← hon] at hP hlen
    rw [← hon]
    clear hon hY
    by_cases h0 : 0 < k
    · have h0' : (0 : Int) < (k : Int) := by omega
      go_wp2_with fail
      refine (rd_below B a len cap 256 _ hR.out (by omega) (by omega)).mono ?_
      rintro e w7 ⟨z, rfl, z1, z2, R7, S7⟩
      have RX7 : Hid (Rd w7 B a len cap) := R7
      have SX7 : Hid (Stp B w w7) := hS.out.trans S7
      have OX7 : Hid (BL w7 w.heap.size (.slice (some ⟨g, 0, none⟩) on cv) O) := hP.out.stp S7 hBQ
      have hs7 : w.heap.size ≤ w7.heap.size := SX7.out.size
      have HQ : Hid (∀ q, (Value.slice (some ⟨g, 0, none⟩) on cv).ownBlock = some q → w.heap.size ≤ q) := fun q hq => (World.ownsRow.lt OX7.out q hq).1
      clear R7 S7 hP hR hS
      go_wp2_with (at_builtin; refine wpList_append_own _ rfl _ _ 22 rfl w.heap.size 5 i0 _ 1 1 Try.underlying22 hi hz0 hz1 hz2 rfl (by decide) _ _ _ rfl (World.ownsRow.alloc OX7.out _) ⟨_, 0, none⟩ 1 1 [.int .u8 z] rfl rfl ?_ ?_ ?_ ?_ ?_ ?_)
      · intro j u hj
        match j, hj with
        | 0, hj => simp at hj; subst hj; simp [Addr.add, go_sem]
      · intro u hu; simp at hu; subst hu; rfl
      · unfold maxLen; have := HON.out; omega
      · have := HON.out; omega
      · simp; omega
      · intro v' w8 hown hgrow hnn
        have Y8 : Hid (v' ≠ .slice none 0 0) := fun e => hnn e
        have O8 : Hid (BL w8 w.heap.size v' (O ++ [z])) := by
          show BL w8 w.heap.size v' (O ++ [z])
          unfold BL
          have e := HON.out
          subst e
          simpa using hown
        have HL8 : Hid ((O ++ [z]).length + (k - 1) ≤ 5) := (by have := HON.out; simp; omega : (O ++ [z]).length + (k - 1) ≤ 5)
        have HZ8 : Hid (∀ x ∈ O ++ [z], 0 ≤ x ∧ x < 256) := fun x hx => by
          rcases List.mem_append.1 hx with e | e
          · exact hZ.out x e
          · simp at e; subst e; exact ⟨z1, z2⟩
        have R8 : Hid (Rd w8 B a len cap) := (RX7.out.alloc _).same ((Below.refl _ _).grown hgrow (by simp; omega) (fun q hq => by have := HQ.out q hq; omega))
        have S8 : Hid (Stp B w w8) := by
          have s := SX7.out.alloc (.cells #[.int .u8 z] 5)
          refine ⟨hgrow.os.trans s.os, hgrow.tape.trans s.tape, hgrow.output.trans s.output, Nat.le_trans s.size hgrow.size, fun q hq hn => ?_⟩
          rw [hgrow.block q (Nat.lt_of_lt_of_le hq s.size) (fun e => by have := HQ.out q e.symm; omega)]
          exact s.block q hq hn
        clear hown hgrow RX7 OX7 SX7 hnn
        obtain ⟨g3, c3, hv3⟩ := O8.out.own Y8.out
        subst hv3
        go_wp2
        go_roundw
        case rel => exact ⟨k - 1, _, by omega, by go_num, HL8, HZ8, O8, R8, S8, Y8⟩
        case measure => simp [intOf]; omega
    · have hk0 : k = 0 := by omega
      subst hk0
      have hcv : ∀ (_ : Unit), Sem.run Try.prog (convert 22 9 (.slice (some ⟨g, 0, none⟩) on cv)) wr = .ok (.string ⟨(O.map byteOf).toArray⟩) wr := fun _ => by
        have e := HON.out
        subst e
        exact hP.out.conv hZ.out
      have hcv' := hcv ()
      have HSZ : Hid ((⟨(O.map byteOf).toArray⟩ : ByteArray).size ≤ 5) := by
        show (⟨(O.map byteOf).toArray⟩ : ByteArray).size ≤ 5
        have : (⟨(O.map byteOf).toArray⟩ : ByteArray).size = O.length := by simp [ByteArray.size]
        rw [this]; have := hO.out; omega
      clear hcv
      go_wp2
      go_ret
      exact ⟨_, rfl, HSZ.out, hR.out, hS.out⟩

theorem frameB_size (s : ByteArray) : (frameB s).size = 8 + s.size := by unfold frameB; rw [ByteArray.size_append, headA_len]
set_option maxHeartbeats 2000000 in
theorem drawTake (a : Option Addr) (len cap : Nat) (w : World) (h : Code w a len) :
    Calls Try.prog 7 #[.slice a len cap] w fun e w' => ∃ y : ByteArray, e = .returned (.string y) ∧ y.size ≤ 1001 ∧ Below w.heap.size w w' := by
  have H : Hid (Code w a len) := h
  clear h
  go_enter Try.func7, Try.ntmps7
  go_wp2_with fail
  refine (rd_open a len cap _ H.out.1 H.out.2).mono ?_
  rintro e w1 ⟨rfl, R1, B1⟩
  have RX1 : Hid (Rd w1 w.heap.size a len cap) := R1
  have BX1 : Hid (Below w.heap.size w w1) := B1
  have hB1 : w.heap.size < w1.heap.size := R1.2.2.2.1
  clear R1 B1 H
  go_wp2_with fail
  refine (rd_below w.heap.size a len cap 4 _ RX1.out (by omega) (by omega)).mono ?_
  rintro e w2 ⟨v, rfl, v1, v2, R2, S2⟩
  obtain ⟨n6, rfl⟩ := Int.eq_ofNat_of_zero_le v1
  have RX2 : Hid (Rd w2 w.heap.size a len cap) := R2
  have BX2 : Hid (Below w.heap.size w w2) := BX1.out.trans (S2.below (by omega))
  clear R2 S2 RX1 BX1
  go_wp2
  go_loopw [4, 5] (fun o q wr => ∃ (k : Nat) (x : ByteArray), k ≤ n6 ∧ q = .int .i64 k ∧ o = .string x ∧ Hid (x.size + 100 * k ≤ 1000) ∧ Hid (Rd wr w.heap.size a len cap) ∧ Hid (Below w.heap.size w wr)) (fun _ q _ => (intOf q).toNat)
  case atStart => exact ⟨n6, ⟨#[]⟩, Nat.le_refl _, rfl, rfl, (by rw [show (⟨#[]⟩ : ByteArray).size = 0 from rfl]; omega : (⟨#[]⟩ : ByteArray).size + 100 * n6 ≤ 1000), RX2, BX2⟩
  case round =>
    obtain ⟨k, x, hk, rfl, rfl, hX, hR, hB⟩ := hrel
    clear RX2 BX2
    have hxs := hX.out
    have hBr : w.heap.size < wr.heap.size := hR.out.2.2.2.1
    by_cases h0 : 0 < k
    · have h0' : (0 : Int) < (k : Int) := by omega
      go_wp2_with fail
      refine (rd_text w.heap.size a len cap _ hR.out).mono ?_
      rintro e w3 ⟨y, rfl, hy, R3, S3⟩
      have RX3 : Hid (Rd w3 w.heap.size a len cap) := R3
      have BX3 : Hid (Below w.heap.size w w3) := hB.out.trans (S3.below (by omega))
      have hB3 : w.heap.size < w3.heap.size := R3.2.2.2.1
      clear R3 S3 hR hB
      have HSP : Hid (∀ w, Calls Try.prog 13 #[.string y] w fun e w' => e = .returned (.string (frameB y)) ∧ Below w.heap.size w w') := fun w => spec_yes y w (by omega)
      have hfs := frameB_size y
      have ha := fun W => add_run W x (frameB y) (by omega) (by omega)
      have HX : Hid ((x ++ frameB y).size + 100 * (k - 1) ≤ 1000) := (by rw [ByteArray.size_append]; omega : (x ++ frameB y).size + 100 * (k - 1) ≤ 1000)
      clear hX hxs hfs
      go_wp2_with fail
      refine (HSP.out _).mono ?_
      rintro e w4 ⟨rfl, B4⟩
      have RX4 : Hid (Rd w4 w.heap.size a len cap) := RX3.out.same (B4.mono (by omega))
      have BX4 : Hid (Below w.heap.size w w4) := BX3.out.trans (B4.mono (by omega))
      clear B4 RX3 BX3
      go_wp2
      go_roundw
      case rel => exact ⟨k - 1, _, by omega, by go_num, rfl, HX, RX4, BX4⟩
      case measure => simp [intOf]; omega
    · have hk0 : k = 0 := by omega
      subst hk0
      have hx : x.size ≤ 1000 := by omega
      clear hxs hX
      go_wp2_with fail
      refine (rd_hurt w.heap.size a len cap x _ hR.out hx).mono ?_
      rintro e w3 ⟨y, rfl, hy, R3, S3⟩
      have BX3 : Hid (Below w.heap.size w w3) := hB.out.trans (S3.below (by omega))
      have HY : Hid (y.size ≤ 1001) := hy
      clear R3 S3 hy
      go_wp2
      go_ret
      exact ⟨_, rfl, HY.out, BX3.out⟩
set_option maxHeartbeats 2000000 in
theorem drawFrame (a : Option Addr) (len cap : Nat) (w : World) (h : Code w a len) :
    Calls Try.prog 12 #[.slice a len cap] w fun e w' => ∃ y : ByteArray, e = .returned (.string y) ∧ y.size ≤ 8 ∧ Below w.heap.size w w' := by
  have H : Hid (Code w a len) := h
  clear h
  go_enter Try.func12, Try.ntmps12
  go_wp2_with fail
  refine (rd_open a len cap _ H.out.1 H.out.2).mono ?_
  rintro e w1 ⟨rfl, R1, B1⟩
  have RX1 : Hid (Rd w1 w.heap.size a len cap) := R1
  have BX1 : Hid (Below w.heap.size w w1) := B1
  have hB1 : w.heap.size < w1.heap.size := R1.2.2.2.1
  clear R1 B1 H
  go_wp2_with fail
  refine (rd_text w.heap.size a len cap _ RX1.out).mono ?_
  rintro e w2 ⟨y, rfl, hy, R2, S2⟩
  have RX2 : Hid (Rd w2 w.heap.size a len cap) := R2
  have BX2 : Hid (Below w.heap.size w w2) := BX1.out.trans (S2.below (by omega))
  have hB2 : w.heap.size < w2.heap.size := R2.2.2.2.1
  clear R2 S2 RX1 BX1
  go_wp2_with fail
  refine (rd_bytes w.heap.size a len cap _ RX2.out).mono ?_
  rintro e w3 ⟨z, rfl, hz, R3, S3⟩
  have BX3 : Hid (Below w.heap.size w w3) := BX2.out.trans (S3.below (by omega))
  have ha := fun W => add_run W y z (by omega) (by omega)
  have HS : Hid ((y ++ z).size ≤ 8) := (by rw [ByteArray.size_append]; omega : (y ++ z).size ≤ 8)
  clear R3 S3
  go_wp2
  go_ret
  exact ⟨_, rfl, HS.out, BX3.out⟩
end Go.Proofs.Ythmmlcmeaokdnaa
