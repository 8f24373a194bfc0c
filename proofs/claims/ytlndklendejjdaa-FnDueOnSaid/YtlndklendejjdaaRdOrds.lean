/- The draw of orders. Conditions: the reader, the bytes lie in memory. -/
import Derived.Test.YtlndklendejjdaaRdOrd
import Derived.Test.YtlndklendejjdaaOwn
namespace Go.Proofs.Ytlndklendejjdaa
open Go.RowKit

theorem OrdL.stp {B Bs : Nat} {w w' : World} {v : Value} {L : List Ord} (h : OrdL w Bs v L) (hs : Stp B w w') (hB : B < Bs) : OrdL w' Bs v L := by
  refine World.ownsRow.kept (row := some B) h ⟨hs.os, hs.tape, hs.output, hs.size, fun k hk hn => hs.block k hk (fun e => hn (by rw [e]))⟩ (Or.inr ?_)
  intro e
  have := (World.ownsRow.lt h B e).1
  omega

set_option maxRecDepth 8000 in
set_option maxHeartbeats 2000000 in
theorem rd_orders (B : Nat) (a : Option Addr) (len cap : Nat) (n : Nat) (w : World) (h : Rd w B a len cap) (hn : n ≤ 8) :
    Calls Try.prog 66 #[.pointer (some ⟨B, 0, none⟩), .int .i64 n] w fun e w' => ∃ (v : Value) (L : List Ord), e = .returned v ∧ L.length ≤ n ∧ OrdL w' w.heap.size v L ∧ Rd w' B a len cap ∧ Stp B w w' := by
  obtain ⟨i0, hi, hz0, hz1, hz2⟩ := info_parts infoOrd
  have hBw : B < w.heap.size := h.2.2.2.1
  have A0 : Hid (OrdL (w.alloc (.cells #[] 25)) w.heap.size (.slice (some ⟨w.heap.size, 0, none⟩) 0 0) []) := OrdL.empty w _ (Nat.le_refl _)
  have R0 : Hid (Rd (w.alloc (.cells #[] 25)) B a len cap) := h.alloc _
  have S0 : Hid (Stp B w (w.alloc (.cells #[] 25))) := (Stp.refl B w).alloc _
  clear h
  go_enter Try.func66, Try.ntmps66
  go_wp2
  go_loopw [5, 6] (fun v i wr => ∃ (k : Nat) (L : List Ord), k ≤ n ∧ i = .int .i64 ((k : Int) + 1) ∧ Hid (L.length ≤ k) ∧ Hid (OrdL wr w.heap.size v L) ∧ Hid (Rd wr B a len cap) ∧ Hid (Stp B w wr)) (fun _ i _ => n + 1 - (intOf i).toNat)
  case atStart => exact ⟨0, [], Nat.zero_le _, rfl, Nat.le_refl _, A0, R0, S0⟩
  case round =>
    obtain ⟨k, L, hk, rfl, hL, hA, hR, hS⟩ := hrel
    clear A0 R0 S0
    obtain ⟨av, cv, hv, hlt0, _⟩ := hA.out.shape
    have hlen := hL.out
    have HLT : Hid (∀ g, (Value.slice av L.length cv).ownBlock = some g → w.heap.size ≤ g ∧ g < wr.heap.size) := by rw [← hv]; exact hlt0
    subst hv
    clear hlt0
    by_cases hlt : k < n
    · go_wp2_with fail
      refine (rd_once B a len cap 2 _ hR.out (by omega) (by omega)).mono ?_
      rintro e w1 ⟨bo, rfl, R1, S1⟩
      have R1' : Hid (Rd w1 B a len cap) := R1
      have A1 : Hid (OrdL w1 w.heap.size (.slice av L.length cv) L) := hA.out.stp S1 hBw
      have S1' : Hid (Stp B w w1) := hS.out.trans S1
      clear R1 S1 hA hR hS
      cases bo with
      | false =>
        have HL1 : Hid (L.length ≤ k + 1) := (by omega : L.length ≤ k + 1)
        go_wp2
        go_roundw
        case rel => exact ⟨k + 1, L, by omega, by go_num, HL1, A1, R1', S1'⟩
        case measure => simp [intOf]; omega
      | true =>
        go_wp2_with fail
        refine (rd_order B a len cap _ R1'.out).mono ?_
        rintro e w2 ⟨o, rfl, R2, S2⟩
        have R2' : Hid (Rd (w2.alloc (.cells #[.int .i64 ((k : Int) + 1), .int .i64 o.src, .int .i64 o.dst, .int .i64 o.amount, .int .i64 o.first, .int .i64 o.every, .int .i64 o.times] 25)) B a len cap) := R2.alloc _
        have A2 : Hid (OrdL (w2.alloc (.cells #[.int .i64 ((k : Int) + 1), .int .i64 o.src, .int .i64 o.dst, .int .i64 o.amount, .int .i64 o.first, .int .i64 o.every, .int .i64 o.times] 25)) w.heap.size (.slice av L.length cv) L) := World.ownsRow.alloc (A1.out.stp S2 hBw) _
        have S2' : Hid (Stp B w (w2.alloc (.cells #[.int .i64 ((k : Int) + 1), .int .i64 o.src, .int .i64 o.dst, .int .i64 o.amount, .int .i64 o.first, .int .i64 o.every, .int .i64 o.times] 25))) := (S1'.out.trans S2).alloc _
        have HLT2 : Hid (∀ g, (Value.slice av L.length cv).ownBlock = some g → w.heap.size ≤ g) := fun g hg => (HLT.out g hg).1
        have hs2 : w.heap.size ≤ w2.heap.size := (S1'.out.trans S2).size
        clear R2 S2 A1 R1' S1' HLT
        go_wp2_with (at_builtin; refine wpList_append_own _ rfl _ _ 31 rfl w.heap.size 25 i0 _ 7 56 Try.underlying31 hi hz0 hz1 hz2 rfl (by decide) _ _ _ rfl (World.ownsRow.alloc A2.out _) ⟨_, 0, none⟩ 1 1 (OrdC ⟨(k : Int) + 1, o.src, o.dst, o.amount, o.first, o.every, o.times⟩) rfl rfl ?_ ?_ ?_ ?_ ?_ ?_)
        · intro j u hj
          have hj8 : j < 7 := by
            by_cases e : j < 7
            · exact e
            · rw [List.getElem?_eq_none (by simp [OrdC]; omega)] at hj; cases hj
          have hcase : j = 0 ∨ j = 1 ∨ j = 2 ∨ j = 3 ∨ j = 4 ∨ j = 5 ∨ j = 6 := by omega
          rcases hcase with e | e | e | e | e | e | e <;> subst e <;> simp [OrdC] at hj <;> subst hj <;> simp [Addr.add, go_sem]
        · intro u hu
          simp only [OrdC, List.mem_cons, List.not_mem_nil, or_false] at hu
          rcases hu with e | e | e | e | e | e | e <;> subst e <;> rfl
        · unfold maxLen; omega
        · omega
        · simp; omega
        · intro v' w3 hown hgrow _
          have A3 : Hid (OrdL w3 w.heap.size v' (L ++ [⟨(k : Int) + 1, o.src, o.dst, o.amount, o.first, o.every, o.times⟩])) := by
            show OrdL w3 w.heap.size v' (L ++ [⟨(k : Int) + 1, o.src, o.dst, o.amount, o.first, o.every, o.times⟩])
            unfold OrdL
            simpa using hown
          have HL3 : Hid ((L ++ [(⟨(k : Int) + 1, o.src, o.dst, o.amount, o.first, o.every, o.times⟩ : Ord)]).length ≤ k + 1) := (by simp; omega : (L ++ [(⟨(k : Int) + 1, o.src, o.dst, o.amount, o.first, o.every, o.times⟩ : Ord)]).length ≤ k + 1)
          have R3 : Hid (Rd w3 B a len cap) := (R2'.out.alloc _).same ((Below.refl _ _).grown hgrow (by simp; omega) (fun q hq => by have := HLT2.out q hq; omega))
          have S3 : Hid (Stp B w w3) := by
            have s := S2'.out.alloc (.cells #[.int .i64 ((k : Int) + 1), .int .i64 o.src, .int .i64 o.dst, .int .i64 o.amount, .int .i64 o.first, .int .i64 o.every, .int .i64 o.times] 25)
            refine ⟨hgrow.os.trans s.os, hgrow.tape.trans s.tape, hgrow.output.trans s.output, Nat.le_trans s.size hgrow.size, fun q hq hn => ?_⟩
            rw [hgrow.block q (Nat.lt_of_lt_of_le hq s.size) (fun e => by have := HLT2.out q e.symm; omega)]
            exact s.block q hq hn
          clear hown hgrow R2' A2 S2'
          obtain ⟨a3, m3, hv3, _, _⟩ := A3.out.shape
          subst hv3
          go_wp2
          go_roundw
          case rel => exact ⟨k + 1, _, by omega, by go_num, HL3, A3, R3, S3⟩
          case measure => simp [intOf]; omega
    · have hkn : k = n := by omega
      subst hkn
      go_wp2
      go_ret
      exact ⟨_, L, rfl, hL.out, hA.out, hR.out, hS.out⟩

set_option maxRecDepth 8000 in
set_option maxHeartbeats 1000000 in
theorem drawDueOn (a : Option Addr) (len cap : Nat) (w : World) (h : Code w a len) :
    Calls Try.prog 40 #[.slice a len cap] w fun e w' => ∃ (av : Option Addr) (cv : Nat) (L : List Ord) (z : Int), e = .returned (.tuple #[.slice av L.length cv, .int .i64 z]) ∧ L.length ≤ 5 ∧ OrdL w' w.heap.size (.slice av L.length cv) L ∧ Below w.heap.size w w' := by
  have H : Hid (Code w a len) := h
  clear h
  go_enter Try.func40, Try.ntmps40
  go_wp2_with fail
  refine (rd_open a len cap _ H.out.1 H.out.2).mono ?_
  rintro e w1 ⟨rfl, R1, B1⟩
  have R1' : Hid (Rd w1 w.heap.size a len cap) := R1
  have B1' : Hid (Below w.heap.size w w1) := B1
  have hw1 : w.heap.size < w1.heap.size := R1.2.2.2.1
  clear R1 B1
  go_wp2_with fail
  refine (rd_orders w.heap.size a len cap 5 _ R1'.out (by omega)).mono ?_
  rintro e w2 ⟨v, L, rfl, hL, A2, R2, S2⟩
  obtain ⟨av, cv, hv, _, _⟩ := A2.shape
  subst hv
  have R2' : Hid (Rd w2 w.heap.size a len cap) := R2
  have A2' : Hid (OrdL w2 w1.heap.size (.slice av L.length cv) L) := A2
  have B2' : Hid (Below w.heap.size w w2) := B1'.out.trans (S2.below B1'.out.size)
  clear R2 A2 S2 R1'
  go_wp2_with fail
  refine (rd_below w.heap.size a len cap 20 _ R2'.out (by omega) (by omega)).mono ?_
  rintro e w3 ⟨z, rfl, z1, z2, R3, S3⟩
  have A3 : Hid (OrdL w3 w.heap.size (.slice av L.length cv) L) := (A2'.out.stp S3 hw1).mono (by omega)
  have B3 : Hid (Below w.heap.size w w3) := B2'.out.trans (S3.below B2'.out.size)
  clear R3 S3 A2' B2' R2'
  go_wp2
  go_ret2
  exact ⟨av, cv, L, z, rfl, hL, A3.out, B3.out⟩
end Go.Proofs.Ytlndklendejjdaa
