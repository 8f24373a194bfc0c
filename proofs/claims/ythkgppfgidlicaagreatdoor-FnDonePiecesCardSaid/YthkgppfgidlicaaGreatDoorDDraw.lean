/- The draw of a forest with an op. Conditions: the bytes lie in memory. -/
import Derived.Test.YthkgppfgidlicaaGreatDoorDraws
namespace Go.Proofs.YthkgppfgidlicaaGreatDoor
open Go.RowKit
set_option maxRecDepth 8000

theorem AL.far {w : World} {B : Nat} {v : Value} {L : List Acc} (h : AL w B v L) {k : Nat} (hk : ∀ q, v.ownBlock = some q → q ≠ k) (o : Nat) (u : Value) : AL (w.setCell ⟨k, o, none⟩ u) B v L := by
  refine World.ownsRow.kept (row := some k) h (grown_set w k o u) ?_
  cases hb : v.ownBlock with
  | none => exact Or.inl rfl
  | some q => right; intro e; exact hk q hb (by simpa using e)
theorem AL.far5 {w : World} {B : Nat} {v : Value} {L : List Acc} (h : AL w B v L) {k : Nat} (hk : ∀ q, v.ownBlock = some q → q ≠ k) (u0 u1 u2 u3 u4 : Value) : AL (((((w.setCell ⟨k, 0, none⟩ u0).setCell ⟨k, 1, none⟩ u1).setCell ⟨k, 2, none⟩ u2).setCell ⟨k, 3, none⟩ u3).setCell ⟨k, 4, none⟩ u4) B v L :=
  ((((h.far hk 0 u0).far hk 1 u1).far hk 2 u2).far hk 3 u3).far hk 4 u4
theorem AL.drewd {w : World} {B : Nat} {v : Value} {L : List Acc} (h : AL w B v L) : AL w.drew B v L := h
theorem below_drewd {B : Nat} {w w' : World} (h : Below B w w') : Below B w w'.drew := ⟨h.os, h.tape, h.output, h.size, h.block⟩
theorem below_far5 {B : Nat} {w w' : World} (h : Below B w w') {g : Nat} (hg : B ≤ g) (u0 u1 u2 u3 u4 : Value) : Below B w (((((w'.setCell ⟨g, 0, none⟩ u0).setCell ⟨g, 1, none⟩ u1).setCell ⟨g, 2, none⟩ u2).setCell ⟨g, 3, none⟩ u3).setCell ⟨g, 4, none⟩ u4) :=
  below_set (below_set (below_set (below_set (below_set h hg 0 u0) hg 1 u1) hg 2 u2) hg 3 u3) hg 4 u4

set_option maxHeartbeats 4000000 in
theorem drawDone (a : Option Addr) (len cap : Nat) (w : World) (h : Code w a len) :
    Calls Tryz.prog 10 #[.slice a len cap] w fun e w' => ∃ v L, ∃ k i t m r : Int, e = .returned (.tuple #[v, .agg #[.int .i64 k, .int .i64 i, .int .i64 t, .int .i64 m, .int .i64 r]]) ∧ L.length ≤ 12 ∧ AL w' w.heap.size v L ∧ Below w.heap.size w w' := by
  have H : Hid (Code w a len) := h
  clear h
  have QX0 : Hid (OB (w.alloc (.cells #[.int .i64 0, .int .i64 0, .int .i64 0, .int .i64 0, .int .i64 0] 26)) w.heap.size 0 0 0 0 0) := OB.new w 0 0 0 0 0 26
  have BX0 : Hid (Below w.heap.size w (w.alloc (.cells #[.int .i64 0, .int .i64 0, .int .i64 0, .int .i64 0, .int .i64 0] 26))) := (Below.refl _ _).alloc (Nat.le_refl _) _
  have HC : Hid (Code (w.alloc (.cells #[.int .i64 0, .int .i64 0, .int .i64 0, .int .i64 0, .int .i64 0] 26)) a len) := ⟨H.out.1, fun i hi => by
    obtain ⟨b, off, z, ha, hb, hc, hz⟩ := H.out.2 i hi
    exact ⟨b, off, z, ha, by simp; omega, by rw [World.cell?_alloc_lt _ _ _ (by exact hb)]; exact hc, hz⟩⟩
  go_enter Tryz.func10, Tryz.ntmps10
  go_wp2_with fail
  refine (rd_open a len cap _ HC.out.1 HC.out.2).mono ?_
  rw [World.size_alloc]
  rintro e w1 ⟨rfl, R1, B1⟩
  have RX1 : Hid (Rd w1 (w.heap.size + 1) a len cap) := R1
  have hQB : w.heap.size ≠ w.heap.size + 1 := by omega
  have hB1 : w.heap.size + 1 < w1.heap.size := R1.2.2.2.1
  have QX1 : Hid (OB w1 w.heap.size 0 0 0 0 0) := QX0.out.stp (B := w.heap.size + 1) (Stp.ofBelow (by rw [World.size_alloc]; exact B1)) hQB
  have BX1 : Hid (Below w.heap.size w w1) := BX0.out.trans (B1.mono (by simp))
  clear R1 B1 HC QX0 BX0 H
  go_wp2_with fail
  refine (rd_forest (w.heap.size + 1) a len cap 14 _ RX1.out (by omega) (by omega)).mono ?_
  rintro e w2 ⟨v, L, rfl, hl, A2, R2, S2⟩
  obtain ⟨va, vc, hv⟩ := A2.len
  obtain ⟨n', hn'⟩ : ∃ n', n' = L.length := ⟨_, rfl⟩
  rw [← hn'] at hv
  subst hv
  have HL : Hid (L.length ≤ 12) := hl
  have AX2 : Hid (AL w2 w1.heap.size (.slice va n' vc) L) := A2
  have RX2 : Hid (Rd w2 (w.heap.size + 1) a len cap) := R2
  have QX2 : Hid (OB w2 w.heap.size 0 0 0 0 0) := QX1.out.stp S2 hQB
  have BX2 : Hid (Below w.heap.size w w2) := BX1.out.trans ((S2.below (by omega)).mono (by omega))
  have hs2 : w1.heap.size ≤ w2.heap.size := S2.size
  clear A2 R2 S2 RX1 QX1 BX1 hn' hl
  go_wp2_with fail
  refine (rd_op (w.heap.size + 1) a len cap _ RX2.out).mono ?_
  rintro e w3 ⟨k, i, t, m, r, rfl, R3, S3⟩
  have hB3 : w1.heap.size ≤ w3.heap.size := Nat.le_trans hs2 S3.size
  have A3 : AL w3 w1.heap.size (.slice va n' vc) L := AX2.out.stp S3 hB1
  have HQ : Hid (∀ q, (Value.slice va n' vc).ownBlock = some q → w1.heap.size ≤ q ∧ q < w3.heap.size) := fun q hq => World.ownsRow.lt A3 q hq
  have hRB : w3.heap.size ≠ w.heap.size + 1 := by have := R3.2.2.2.1; omega
  have hw3 : w.heap.size ≤ w3.heap.size := by have := R3.2.2.2.1; omega
  have hRQ : w3.heap.size ≠ w.heap.size := by have := R3.2.2.2.1; omega
  obtain ⟨x3, hx3⟩ : ∃ x3, x3 = w3.alloc (.cells #[.int .i64 k, .int .i64 i, .int .i64 t, .int .i64 m, .int .i64 r] 26) := ⟨_, rfl⟩
  have AX3 : Hid (AL x3 w1.heap.size (.slice va n' vc) L) := by rw [hx3]; exact World.ownsRow.alloc A3 _
  have RX3 : Hid (Rd x3 (w.heap.size + 1) a len cap) := by rw [hx3]; exact R3.alloc _
  have OX3 : Hid (OB x3 w3.heap.size k i t m r) := by rw [hx3]; exact OB.new w3 k i t m r 26
  have QX3 : Hid (OB x3 w.heap.size 0 0 0 0 0) := by rw [hx3]; exact (QX2.out.stp S3 hQB).alloc _
  have BX3 : Hid (Below w.heap.size w x3) := by rw [hx3]; exact (BX2.out.trans ((S3.below (by have := RX2.out.2.2.2.1; omega)).mono (by omega))).alloc hw3 _
  clear A3 R3 S3 AX2 RX2 QX2 BX2
  go_upto_region 4 with fail
  rw [← hx3]
  clear hx3
  go_wp2_with fail
  refine (rd_once (w.heap.size + 1) a len cap 24 _ RX3.out (by omega) (by omega)).mono ?_
  rintro e w5 ⟨bo, rfl, R5, S5⟩
  have AX5 : Hid (AL w5 w1.heap.size (.slice va n' vc) L) := AX3.out.stp S5 hB1
  have RX5 : Hid (Rd w5 (w.heap.size + 1) a len cap) := R5
  have OX5 : Hid (OB w5 w3.heap.size k i t m r) := OX3.out.stp S5 hRB
  have QX5 : Hid (OB w5 w.heap.size 0 0 0 0 0) := QX3.out.stp S5 hQB
  have BX5 : Hid (Below w.heap.size w w5) := BX3.out.trans ((S5.below (by have := RX3.out.2.2.2.1; omega)).mono (by omega))
  clear R5 S5 AX3 RX3 OX3 QX3 BX3
  have HW : Hid (∀ q, (Value.slice va n' vc).ownBlock = some q → q ≠ w.heap.size) := fun q hq => by have := HQ.out q hq; omega
  have HM : Hid (w.heap.size ≤ w1.heap.size) := (by omega : w.heap.size ≤ w1.heap.size)
  cases bo with
  | false =>
    obtain ⟨⟨y0, y1, y2, y3, y4, yz⟩, yf⟩ := OX5.out
    obtain ⟨⟨q0, q1, q2, q3, q4, qz⟩, qf⟩ := QX5.out
    go_wp2
    go_region
    all_goals go_wp2
    all_goals refine bodyPost_ret (v := .tuple #[.slice va n' vc, .agg #[.int .i64 k, .int .i64 i, .int .i64 t, .int .i64 m, .int .i64 r]]) (by simp [results, Tryz.results10, go_sem, q0, q1, q2, q3, q4]) rfl ⟨_, L, k, i, t, m, r, rfl, HL.out, ?_, ?_⟩
    all_goals first
      | exact ((AX5.out.far5 (k := w.heap.size) HW.out _ _ _ _ _).mono HM.out).drewd
      | exact below_drewd (below_far5 BX5.out (Nat.le_refl _) _ _ _ _ _)
  | true =>
    obtain ⟨⟨y0, y1, y2, y3, y4, yz⟩, yf⟩ := OX5.out
    go_wp2_with fail
    refine (rd_off (w.heap.size + 1) a len cap 1 10 _ RX5.out (by omega) (by omega) (by omega)).mono ?_
    rintro e w6 ⟨vo, rfl, R6, S6⟩
    have AX6 : Hid (AL (w6.setCell ⟨w3.heap.size, 0, none⟩ (.int .i64 vo)) w1.heap.size (.slice va n' vc) L) := (AX5.out.stp S6 hB1).far (fun q hq => by have := HQ.out q hq; omega) 0 _
    have OX6 : Hid (OB w6 w3.heap.size k i t m r) := OX5.out.stp S6 hRB
    have QX6 : Hid (OB w6 w.heap.size 0 0 0 0 0) := QX5.out.stp S6 hQB
    have BX6 : Hid (Below w.heap.size w (w6.setCell ⟨w3.heap.size, 0, none⟩ (.int .i64 vo))) := below_set (BX5.out.trans ((S6.below (by have := RX5.out.2.2.2.1; omega)).mono (by omega))) hw3 0 _
    clear R6 S6 AX5 RX5 OX5 QX5 BX5 y0 y1 y2 y3 y4 yz yf
    obtain ⟨⟨y0, y1, y2, y3, y4, yz⟩, yf⟩ := OX6.out
    obtain ⟨⟨q0, q1, q2, q3, q4, qz⟩, qf⟩ := QX6.out
    go_wp2
    go_region
    all_goals go_wp2
    all_goals refine bodyPost_ret (v := .tuple #[.slice va n' vc, .agg #[.int .i64 vo, .int .i64 i, .int .i64 t, .int .i64 m, .int .i64 r]]) (by simp [results, Tryz.results10, go_sem, q0, q1, q2, q3, q4]) rfl ⟨_, L, vo, i, t, m, r, rfl, HL.out, ?_, ?_⟩
    all_goals first
      | exact ((AX6.out.far5 (k := w.heap.size) HW.out _ _ _ _ _).mono HM.out).drewd
      | exact below_drewd (below_far5 BX6.out (Nat.le_refl _) _ _ _ _ _)
end Go.Proofs.YthkgppfgidlicaaGreatDoor
