/- The draw of a forest with ops. Conditions: the bytes lie in memory. -/
import Derived.Test.YthkgppfgidlicaaGreatDoorDDraw
import Derived.Test.YthkgppfgidlicaaGreatDoorAll
namespace Go.Proofs.YthkgppfgidlicaaGreatDoor
open Go.RowKit
set_option maxRecDepth 8000

theorem OpRL.stp {B Bs : Nat} {w w' : World} {v : Value} {L : List OpR} (h : OpRL w Bs v L) (hs : Stp B w w') (hB : B < Bs) : OpRL w' Bs v L := by
  refine World.ownsRow.kept (row := some B) h ⟨hs.os, hs.tape, hs.output, hs.size, fun k hk hn => hs.block k hk (fun e => hn (by rw [e]))⟩ (Or.inr ?_)
  intro e
  have := (World.ownsRow.lt h B e).1
  omega

set_option maxHeartbeats 4000000 in
theorem drawDoneAll (a : Option Addr) (len cap : Nat) (w : World) (h : Code w a len) :
    Calls Tryz.prog 20 #[.slice a len cap] w fun e w' => ∃ v L u O, e = .returned (.tuple #[v, u]) ∧ L.length ≤ 12 ∧ O.length ≤ 12 ∧ AL w' w.heap.size v L ∧ OpRL w' w.heap.size u O ∧ u ≠ .slice none 0 0 ∧ Below w.heap.size w w' := by
  have H : Hid (Code w a len) := h
  clear h
  obtain ⟨i0, hi, hz0, hz1, hz2⟩ := info_parts infoOpR
  go_enter Tryz.func20, Tryz.ntmps20
  go_wp2_with fail
  refine (rd_open a len cap _ H.out.1 H.out.2).mono ?_
  rintro e w1 ⟨rfl, R1, B1⟩
  have RX1 : Hid (Rd w1 w.heap.size a len cap) := R1
  have hB1 : w.heap.size < w1.heap.size := R1.2.2.2.1
  have BX1 : Hid (Below w.heap.size w w1) := B1
  clear R1 B1 H
  go_wp2_with fail
  refine (rd_forest w.heap.size a len cap 6 _ RX1.out (by omega) (by omega)).mono ?_
  rintro e w2 ⟨v, L, rfl, hl, A2, R2, S2⟩
  obtain ⟨va, vc, hv⟩ := A2.len
  obtain ⟨n', hn'⟩ : ∃ n', n' = L.length := ⟨_, rfl⟩
  rw [← hn'] at hv
  subst hv
  have HL : Hid (L.length ≤ 12) := hl
  have hs2 : w1.heap.size ≤ w2.heap.size := S2.size
  obtain ⟨W2, hW2⟩ : ∃ W2, W2 = w2.alloc (.cells #[] 26) := ⟨_, rfl⟩
  have AX2 : Hid (AL W2 w1.heap.size (.slice va n' vc) L ∧ ∀ q, (Value.slice va n' vc).ownBlock = some q → q < w2.heap.size) := by rw [hW2]; exact ⟨World.ownsRow.alloc A2 _, fun q hq => (World.ownsRow.lt A2 q hq).2⟩
  have OX2 : Hid (OpRL W2 w2.heap.size (.slice (some ⟨w2.heap.size, 0, none⟩) 0 0) []) := by rw [hW2]; exact OpRL.empty w2 _ (Nat.le_refl _)
  have RX2 : Hid (Rd W2 w.heap.size a len cap) := by rw [hW2]; exact R2.alloc _
  have SX2 : Hid (Stp w.heap.size w1 W2) := by rw [hW2]; exact S2.alloc _
  have HZ2 : Hid (w2.heap.size ≤ W2.heap.size) := by rw [hW2]; exact (by simp : w2.heap.size ≤ (w2.alloc (.cells #[] 26)).heap.size)
  clear A2 R2 S2 RX1 hn' hl
  go_upto_region 4 with fail
  rw [← hW2]
  clear hW2
  go_wp2_with fail
  refine (rd_below w.heap.size a len cap 12 _ RX2.out (by omega) (by omega)).mono ?_
  rintro e w3 ⟨v3, rfl, v31, v32, R3, S3⟩
  have RX3 : Hid (Rd w3 w.heap.size a len cap) := R3
  have SX3 : Hid (Stp w.heap.size w1 w3) := SX2.out.trans S3
  have AX3 : Hid (AL w3 w1.heap.size (.slice va n' vc) L) := AX2.out.1.stp S3 hB1
  have OX3 : Hid (OpRL w3 w2.heap.size (.slice (some ⟨w2.heap.size, 0, none⟩) 0 0) []) := OX2.out.stp S3 (by omega)
  have HZ3 : Hid (w2.heap.size ≤ w3.heap.size) := Nat.le_trans HZ2.out S3.size
  have HQ : Hid (∀ q, (Value.slice va n' vc).ownBlock = some q → q < w2.heap.size) := AX2.out.2
  clear R3 S3 AX2 OX2 RX2 SX2
  obtain ⟨n6, rfl⟩ := Int.eq_ofNat_of_zero_le v31
  go_wp2
  go_loopw [6, 7] (fun u q wr => ∃ (k : Nat) (O : List OpR), k ≤ n6 ∧ q = .int .i64 k ∧ Hid (O.length + k ≤ 12) ∧ Hid (AL wr w1.heap.size (.slice va n' vc) L) ∧ Hid (OpRL wr w2.heap.size u O) ∧ Hid (Rd wr w.heap.size a len cap) ∧ Hid (Stp w.heap.size w1 wr) ∧ Hid (w2.heap.size ≤ wr.heap.size) ∧ Hid (u ≠ .slice none 0 0)) (fun _ q _ => (intOf q).toNat)
  case atStart => exact ⟨n6, [], Nat.le_refl _, rfl, (by simp; omega : ([] : List OpR).length + n6 ≤ 12), AX3, OX3, RX3, SX3, HZ3, (by simp : Value.slice (some ⟨w2.heap.size, 0, none⟩) 0 0 ≠ .slice none 0 0)⟩
  case round =>
    obtain ⟨k, O, hk, rfl, hO, hA, hP, hR, hS, hZ, hY⟩ := hrel
    clear AX3 OX3 RX3 SX3
    obtain ⟨av, cv, hv, hlt0, _⟩ := hP.out.shape
    have hlen := hO.out
    have HLT : Hid (∀ g, (Value.slice av O.length cv).ownBlock = some g → w2.heap.size ≤ g ∧ g < wr.heap.size) := by rw [← hv]; exact hlt0
    subst hv
    clear hlt0
    obtain ⟨on, hon⟩ : ∃ on, on = O.length := ⟨_, rfl⟩
    have HON : Hid (on = O.length) := hon
    rw [← hon] at hP HLT hlen
    rw [← hon]
    clear hon
    by_cases h0 : 0 < k
    · have h0' : (0 : Int) < (k : Int) := by omega
      go_wp2_with fail
      refine (rd_op w.heap.size a len cap _ hR.out).mono ?_
      rintro e w7 ⟨ok, oi, ot, om, orr, rfl, R7, S7⟩
      have RX7 : Hid (Rd w7 w.heap.size a len cap) := R7
      have SX7 : Hid (Stp w.heap.size w1 w7) := hS.out.trans S7
      have AX7 : Hid (AL w7 w1.heap.size (.slice va n' vc) L) := hA.out.stp S7 hB1
      have OX7 : Hid (OpRL w7 w2.heap.size (.slice av on cv) O) := hP.out.stp S7 (by omega)
      have HLT2 : Hid (∀ g, (Value.slice av on cv).ownBlock = some g → w2.heap.size ≤ g) := fun g hg => (HLT.out g hg).1
      have hs7 : w1.heap.size ≤ w7.heap.size := SX7.out.size
      have hs72 : w2.heap.size ≤ w7.heap.size := Nat.le_trans hZ.out S7.size
      clear R7 S7 HLT hA hP hR hS
      go_wp2_with (at_builtin; refine wpList_append_own _ rfl _ _ 43 rfl w2.heap.size 26 i0 _ 5 40 Tryz.underlying43 hi hz0 hz1 hz2 rfl (by decide) _ _ _ rfl (World.ownsRow.alloc OX7.out _) ⟨_, 0, none⟩ 1 1 (OpRC ⟨ok, oi, ot, om, orr⟩) rfl rfl ?_ ?_ ?_ ?_ ?_ ?_)
      · intro j u hj
        have hj8 : j < 5 := by
          by_cases e : j < 5
          · exact e
          · rw [List.getElem?_eq_none (by simp [OpRC]; omega)] at hj; cases hj
        have hcase : j = 0 ∨ j = 1 ∨ j = 2 ∨ j = 3 ∨ j = 4 := by omega
        rcases hcase with e | e | e | e | e <;> subst e <;> simp [OpRC] at hj <;> subst hj <;> simp [Addr.add, go_sem]
      · intro u hu
        simp only [OpRC, List.mem_cons, List.not_mem_nil, or_false] at hu
        rcases hu with e | e | e | e | e <;> subst e <;> rfl
      · unfold maxLen; have := HON.out; omega
      · have := HON.out; omega
      · simp; omega
      · intro v' w8 hown hgrow hnn
        have Y8 : Hid (v' ≠ .slice none 0 0) := fun e => hnn e
        clear hnn
        have O8 : Hid (OpRL w8 w2.heap.size v' (O ++ [⟨ok, oi, ot, om, orr⟩])) := by
          show OpRL w8 w2.heap.size v' (O ++ [⟨ok, oi, ot, om, orr⟩])
          unfold OpRL
          have e := HON.out
          subst e
          simpa using hown
        have HL8 : Hid ((O ++ [(⟨ok, oi, ot, om, orr⟩ : OpR)]).length + (k - 1) ≤ 12) := (by have := HON.out; simp; omega : (O ++ [(⟨ok, oi, ot, om, orr⟩ : OpR)]).length + (k - 1) ≤ 12)
        have R8 : Hid (Rd w8 w.heap.size a len cap) := (RX7.out.alloc _).same ((Below.refl _ _).grown hgrow (by simp; omega) (fun q hq => by have := HLT2.out q hq; omega))
        have A8 : Hid (AL w8 w1.heap.size (.slice va n' vc) L) := World.ownsRow.kept (World.ownsRow.alloc AX7.out _) hgrow (by
          cases hb : (Value.slice va n' vc).ownBlock with
          | none => exact Or.inl rfl
          | some q =>
            right
            intro e
            have h1 := HQ.out q hb
            have h2 := HLT2.out q e.symm
            omega)
        have S8 : Hid (Stp w.heap.size w1 w8) := by
          have s := SX7.out.alloc (.cells #[.int .i64 ok, .int .i64 oi, .int .i64 ot, .int .i64 om, .int .i64 orr] 26)
          refine ⟨hgrow.os.trans s.os, hgrow.tape.trans s.tape, hgrow.output.trans s.output, Nat.le_trans s.size hgrow.size, fun q hq hn => ?_⟩
          rw [hgrow.block q (Nat.lt_of_lt_of_le hq s.size) (fun e => by have := HLT2.out q e.symm; omega)]
          exact s.block q hq hn
        have Z8 : Hid (w2.heap.size ≤ w8.heap.size) := Nat.le_trans hs72 (Nat.le_trans (by simp) hgrow.size)
        clear hown hgrow RX7 AX7 OX7 SX7
        obtain ⟨a3, m3, hv3, _, _⟩ := O8.out.shape
        subst hv3
        go_wp2
        go_roundw
        case rel => exact ⟨k - 1, _, by omega, by go_num, HL8, A8, O8, R8, S8, Z8, Y8⟩
        case measure => simp [intOf]; omega
    · have hk0 : k = 0 := by omega
      subst hk0
      go_wp2
      go_ret2
      exact ⟨_, L, _, O, rfl, HL.out, (by have := hO.out; omega), hA.out.mono (by omega), hP.out.mono (by omega), (by have := hY.out; first | exact this | (rw [HON.out]; exact this) | (rw [← HON.out]; exact this)), BX1.out.trans ((hS.out.below (by omega)).mono (Nat.le_refl _))⟩
theorem OpRL.own {w : World} {B : Nat} {v : Value} {L : List OpR} (h : OpRL w B v L) (hv : v ≠ .slice none 0 0) : ∃ g c, v = .slice (some ⟨g, 0, none⟩) L.length c ∧ L.length ≤ c ∧ c ≤ maxLen := by
  rcases h.2 with ⟨e, _⟩ | ⟨g, cap, cur, e, _, _, h1, h2, _⟩
  · exact absurd e hv
  · exact ⟨g, cap, e, h1, h2⟩
theorem OpRs.take {w : World} {g k : Nat} {O : List OpR} (h : OpRs w (some ⟨g, 0, none⟩) O.length (OpRF O)) (hk : k ≤ O.length) : OpRs w (some ⟨g, 0, none⟩) k (OpRF (O.take k)) := by
  refine ⟨by have := h.1; omega, ?_⟩
  rcases h.2 with h0 | ⟨b, o, ha, hlt, hall⟩
  · left; omega
  · refine Or.inr ⟨b, o, ha, hlt, fun i hi => ?_⟩
    have := hall i (by omega)
    rw [OpRF_lt (by omega)] at this
    rw [OpRF_lt (by simp; omega), List.getElem_take]
    exact this
theorem OpRs.drop {w : World} {g k : Nat} {O : List OpR} (h : OpRs w (some ⟨g, 0, none⟩) O.length (OpRF O)) (hk : k ≤ O.length) : OpRs w (some ⟨g, k * 5, none⟩) (O.length - k) (OpRF (O.drop k)) := by
  refine ⟨by have := h.1; omega, ?_⟩
  rcases h.2 with h0 | ⟨b, o, ha, hlt, hall⟩
  · left; omega
  · obtain ⟨rfl, rfl⟩ : g = b ∧ 0 = o := by simpa using ha
    refine Or.inr ⟨g, k * 5, rfl, hlt, fun i hi => ?_⟩
    have := hall (k + i) (by omega)
    rw [OpRF_lt (by omega)] at this
    rw [OpRF_lt (by simp; omega), List.getElem_drop]
    rw [show k * 5 + i * 5 = 0 + (k + i) * 5 by omega]
    exact this
theorem runAll_pieces (L : List Acc) (O : List OpR) (k : Nat) : runAll ([], L) O = ((runAll ([], L) (O.take k)).1 ++ (runAll ([], (runAll ([], L) (O.take k)).2) (O.drop k)).1, (runAll ([], (runAll ([], L) (O.take k)).2) (O.drop k)).2) := by
  conv => lhs; rw [← List.take_append_drop k O]
  rw [← runAll_codes]
  unfold runAll
  rw [List.foldl_append]
end Go.Proofs.YthkgppfgidlicaaGreatDoor
