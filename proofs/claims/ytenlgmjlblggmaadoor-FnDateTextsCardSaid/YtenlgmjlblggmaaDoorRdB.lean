/- The reader by which inputs are drawn: dates, texts that are hurt. Conditions: the reader lies in memory as l1Open lays it. -/
import Derived.Test.YtenlgmjlblggmaaDoorRdE
import Derived.WalkLawsBesides
import Derived.Below
import Derived.Deep.QuietTactic
import Derived.BigQuiet
import Derived.OpenShut
import Derived.Laws.IdiomStrings
namespace Go.Proofs.YtenlgmjlblggmaaDoor
open Go.RowKit

/-- What a step of the reader in block B leaves: all other blocks as they were. -/
structure Stp (B : Nat) (w w' : World) : Prop where
  os : w'.os = w.os
  tape : w'.tape = w.tape
  output : w'.output = w.output
  size : w.heap.size ≤ w'.heap.size
  block : ∀ k, k < w.heap.size → k ≠ B → w'.heap[k]? = w.heap[k]?

theorem Stp.refl (B : Nat) (w : World) : Stp B w w := ⟨rfl, rfl, rfl, Nat.le_refl _, fun _ _ _ => rfl⟩
theorem Stp.trans {B : Nat} {a b c : World} (h : Stp B a b) (k : Stp B b c) : Stp B a c :=
  ⟨k.os.trans h.os, k.tape.trans h.tape, k.output.trans h.output, Nat.le_trans h.size k.size, fun i hi hn => (k.block i (Nat.lt_of_lt_of_le hi h.size) hn).trans (h.block i hi hn)⟩
theorem Stp.drewN {B : Nat} {a w : World} (h : Stp B a w) (n : Nat) : Stp B a (w.drewN n) := h.trans ⟨rfl, rfl, rfl, Nat.le_refl _, fun _ _ _ => rfl⟩
theorem Stp.alloc {B : Nat} {a w : World} (h : Stp B a w) (o : Obj) : Stp B a (w.alloc o) :=
  h.trans ⟨rfl, rfl, rfl, by simp, fun k hk _ => Below.heap_alloc _ _ _ hk⟩
theorem Stp.setCell {B : Nat} {a w : World} (h : Stp B a w) (off : Nat) (u : Value) : Stp B a (w.setCell ⟨B, off, none⟩ u) :=
  h.trans ⟨rfl, rfl, rfl, by simp [World.setCell], fun k _ hn => Below.heap_setCell _ _ _ _ hn⟩
theorem Stp.below {B : Nat} {w w' : World} (h : Stp B w w') (hB : B ≤ w.heap.size) : Below B w w' :=
  ⟨h.os, h.tape, h.output, h.size, fun k hk => h.block k (Nat.lt_of_lt_of_le hk hB) (by omega)⟩
theorem Stp.ofBelow {B : Nat} {w w' : World} (h : Below w.heap.size w w') : Stp B w w' := ⟨h.os, h.tape, h.output, h.size, fun k hk _ => h.block k hk⟩
theorem Stp.cell {B : Nat} {w w' : World} (h : Stp B w w') {p : Addr} (hp : p.block < w.heap.size) (hn : p.block ≠ B) : w'.cell? p = w.cell? p := World.cell?_of_block (w := w) (h.block p.block hp hn)

theorem Stp.frozen {B : Nat} {w w' : World} (h : Stp B w w') {p : Addr} (hp : p.block < w.heap.size) (hn : p.block ≠ B) : w'.frozen? p = w.frozen? p := World.frozen?_of_block (w := w) (h.block p.block hp hn)
theorem Stp.setNew {B : Nat} {a w : World} (h : Stp B a w) {p : Addr} (hp : a.heap.size ≤ p.block) (u : Value) : Stp B a (w.setCell p u) :=
  ⟨h.os, h.tape, h.output, by simpa [World.setCell] using h.size, fun k hk hn => (Below.heap_setCell _ _ _ _ (by omega)).trans (h.block k hk hn)⟩

/-- A reader in block B: its bytes, its place. -/
def Rd (w : World) (B : Nat) (a : Option Addr) (len cap : Nat) : Prop :=
  w.cell? ⟨B, 0, none⟩ = some (.slice a len cap) ∧ (∃ p : Nat, p ≤ len ∧ w.cell? ⟨B, 1, none⟩ = some (.int .i64 p)) ∧ w.frozen? ⟨B, 1, none⟩ = false ∧ B < w.heap.size ∧ len ≤ 9223372036854775807 ∧
  (∀ i : Nat, i < len → ∃ (b off : Nat) (z : Int), a = some ⟨b, off, none⟩ ∧ b < B ∧ w.cell? ⟨b, off + i, none⟩ = some (.int .u8 z) ∧ 0 ≤ z ∧ z ≤ 255)

theorem Rd.same {w w' : World} {B : Nat} {a : Option Addr} {len cap : Nat} (h : Rd w B a len cap) (hb : Below (B + 1) w w') : Rd w' B a len cap := by
  obtain ⟨h1, ⟨p, hp, h2⟩, h3, h4, h5, h6⟩ := h
  refine ⟨by rw [hb.cell (p := ⟨B, 0, none⟩) (Nat.lt_succ_self _)]; exact h1, ⟨p, hp, by rw [hb.cell (p := ⟨B, 1, none⟩) (Nat.lt_succ_self _)]; exact h2⟩, by rw [hb.frozen (p := ⟨B, 1, none⟩) (Nat.lt_succ_self _)]; exact h3, Nat.lt_of_lt_of_le h4 hb.size, h5, fun i hi => ?_⟩
  obtain ⟨b, off, z, ha, hbB, hc, hz⟩ := h6 i hi
  exact ⟨b, off, z, ha, hbB, by rw [hb.cell (p := ⟨b, off + i, none⟩) (by show b < B + 1; omega)]; exact hc, hz⟩
theorem Rd.drewN {w : World} {B : Nat} {a : Option Addr} {len cap : Nat} (h : Rd w B a len cap) (n : Nat) : Rd (w.drewN n) B a len cap := h
theorem Rd.alloc {w : World} {B : Nat} {a : Option Addr} {len cap : Nat} (h : Rd w B a len cap) (o : Obj) : Rd (w.alloc o) B a len cap :=
  h.same ((Below.refl _ _).alloc h.2.2.2.1 o)

theorem Rd.setFar {w : World} {B : Nat} {a : Option Addr} {len cap R o : Nat} (h : Rd w B a len cap) (hR : B < R) (u : Value) : Rd (w.setCell ⟨R, o, none⟩ u) B a len cap :=
  h.same ((Below.refl _ _).setCell (p := ⟨R, o, none⟩) (by show B + 1 ≤ R; omega) u)

theorem Rd.moved {w : World} {B : Nat} {a : Option Addr} {len cap p : Nat} (h : Rd w B a len cap) (hp : p ≤ len) (v : Value) (hv : w.cell? ⟨B, 1, none⟩ = some v) : Rd (w.setCell ⟨B, 1, none⟩ (.int .i64 p)) B a len cap := by
  obtain ⟨h1, _, h3, h4, h5, h6⟩ := h
  have hne : (⟨B, 0, none⟩ : Addr) ≠ ⟨B, 1, none⟩ := by intro e; cases e
  refine ⟨by rw [World.cell?_setCell_other _ _ _ _ hne.symm]; exact h1, ⟨p, hp, ?_⟩, ?_, by simpa [World.setCell] using h4, h5, fun i hi => ?_⟩
  · exact World.cell?_setCell_same _ _ _ hv
  · rw [World.frozen?_setCell]; exact h3
  · obtain ⟨b, off, z, ha, hbB, hc, hz⟩ := h6 i hi
    exact ⟨b, off, z, ha, hbB, by rw [World.cell?_setCell_other _ _ _ _ (by intro e; have := congrArg Addr.block e; simp at this; omega)]; exact hc, hz⟩

set_option maxHeartbeats 400000 in
theorem rd_next (B : Nat) (a : Option Addr) (len cap : Nat) (w : World) (h : Rd w B a len cap) :
    Calls Tryd.prog 32 #[.pointer (some ⟨B, 0, none⟩)] w fun e w' => ∃ v : Int, e = .returned (.int .i64 v) ∧ 0 ≤ v ∧ v ≤ 255 ∧ Rd w' B a len cap ∧ Stp B w w' := by
  have H : Hid (Rd w B a len cap) := h
  obtain ⟨h1, ⟨p, hp, h2⟩, h3, h4, h5, h6⟩ := h
  by_cases hlt : p < len
  · obtain ⟨b, off, z, rfl, hbB, hc, hz1, hz2⟩ := h6 p hlt
    clear h6
    have hne : b ≠ B := by omega
    go_enter Tryd.func32, Tryd.ntmps32
    go_wp2
    go_quiet (fail)
    go_wp2
    go_quiet (fail)
    go_wp2
    go_ret
    have e1 : ((p : Int) + 1) = ((p + 1 : Nat) : Int) := by omega
    rw [e1]
    exact ⟨z, rfl, hz1, hz2, (Rd.moved (H.out.drewN _) (by omega) _ h2).drewN _, (((Stp.refl _ _).drewN _).setCell 1 _).drewN _⟩
  · clear h6
    have hge : (len : Int) ≤ (p : Int) := by omega
    go_enter Tryd.func32, Tryd.ntmps32
    go_wp2
    go_quiet (fail)
    go_wp2
    go_ret
    exact ⟨0, rfl, by omega, by omega, H.out.drewN _, (Stp.refl _ _).drewN _⟩


set_option maxHeartbeats 400000 in
theorem rd_below (B : Nat) (a : Option Addr) (len cap : Nat) (n : Int) (w : World) (h : Rd w B a len cap) (n1 : 1 ≤ n) (n2 : n ≤ 1000000000) :
    Calls Tryd.prog 23 #[.pointer (some ⟨B, 0, none⟩), .int .i64 n] w fun e w' => ∃ v : Int, e = .returned (.int .i64 v) ∧ 0 ≤ v ∧ v < n ∧ Rd w' B a len cap ∧ Stp B w w' := by
  have H : Hid (Rd w B a len cap) := h
  clear h
  by_cases h1 : n ≤ 1
  · go_enter Tryd.func23, Tryd.ntmps23
    go_wp2
    go_ret
    exact ⟨0, rfl, by omega, by omega, H.out, Stp.refl _ _⟩
  by_cases h2 : n ≤ 256
  · go_enter Tryd.func23, Tryd.ntmps23
    go_wp2_with fail
    refine (rd_next B a len cap _ H.out).mono ?_
    rintro e w1 ⟨v, rfl, v1, v2, R1, S1⟩
    have RR : Hid (Rd w1 B a len cap) := R1
    clear R1
    go_wp2
    go_ret
    exact ⟨v % n, rfl, Int.emod_nonneg _ (by omega), Int.emod_lt_of_pos _ (by omega), RR.out, S1⟩
  · go_enter Tryd.func23, Tryd.ntmps23
    go_wp2_with fail
    refine (rd_next B a len cap _ H.out).mono ?_
    rintro e w1 ⟨v, rfl, v1, v2, R1, S1⟩
    have RR : Hid (Rd w1 B a len cap) := R1
    clear R1
    go_wp2_with fail
    refine (rd_next B a len cap _ RR.out).mono ?_
    rintro e w2 ⟨u, rfl, u1, u2, R2, S2⟩
    have R2' : Hid (Rd w2 B a len cap) := R2
    clear R2
    go_wp2
    go_ret
    exact ⟨(v * 256 + u) % n, rfl, Int.emod_nonneg _ (by omega), Int.emod_lt_of_pos _ (by omega), R2'.out, S1.trans S2⟩

theorem rd_once (B : Nat) (a : Option Addr) (len cap : Nat) (n : Int) (w : World) (h : Rd w B a len cap) (n1 : 1 ≤ n) (n2 : n ≤ 1000000000) :
    Calls Tryd.prog 30 #[.pointer (some ⟨B, 0, none⟩), .int .i64 n] w fun e w' => ∃ b : Bool, e = .returned (.bool b) ∧ Rd w' B a len cap ∧ Stp B w w' := by
  have H : Hid (Rd w B a len cap) := h
  clear h
  go_enter Tryd.func30, Tryd.ntmps30
  go_wp2_with fail
  refine (rd_below B a len cap n _ H.out n1 n2).mono ?_
  rintro e w1 ⟨v, rfl, v1, v2, R1, S1⟩
  have RR : Hid (Rd w1 B a len cap) := R1
  clear R1
  go_wp2
  go_ret
  exact ⟨_, rfl, RR.out, S1⟩

set_option maxHeartbeats 400000 in
theorem rd_word (B : Nat) (a : Option Addr) (len cap : Nat) (w : World) (h : Rd w B a len cap) :
    Calls Tryd.prog 41 #[.pointer (some ⟨B, 0, none⟩)] w fun e w' => ∃ v : Int, e = .returned (.int .u64 v) ∧ (Lit.int .u64 v).wf = true ∧ Rd w' B a len cap ∧ Stp B w w' := by
  have H : Hid (Rd w B a len cap) := h
  clear h
  go_enter Tryd.func41, Tryd.ntmps41
  go_wp2
  go_loopw [3, 4] (fun x i wr => ∃ (v : Int) (k : Nat), k ≤ 8 ∧ i = .int .i64 k ∧ x = .int .u64 v ∧ Hid ((Lit.int .u64 v).wf = true) ∧ Hid (Rd wr B a len cap) ∧ Hid (Stp B w wr)) (fun _ i _ => 8 - (intOf i).toNat)
  case atStart => exact ⟨0, 0, by omega, rfl, rfl, (by decide : (Lit.int .u64 0).wf = true), H.out, Stp.refl _ _⟩
  case round =>
    obtain ⟨v, k, hk, rfl, rfl, hv, hR, hS⟩ := hrel
    by_cases hlt : k < 8
    · go_wp2_with fail
      refine (rd_next B a len cap _ hR.out).mono ?_
      rintro e w1 ⟨u, rfl, u1, u2, R1, S1⟩
      have RR : Hid (Rd w1 B a len cap) := R1
      clear R1
      go_wp2
      go_roundw
      case rel => exact ⟨_, k + 1, by omega, by go_num, rfl, wf_bits _ _ _ _, RR, hS.out.trans S1⟩
      case measure => simp [intOf]; omega
    · go_wp2
      go_ret
      exact ⟨v, rfl, hv.out, hR.out, hS.out⟩

theorem row_cell (w : World) (zs : List Int) (t : TypeId) (i : Nat) (hi : i < zs.length) : ∃ z : Int, (w.alloc (.cells (zs.map (Value.int .i64)).toArray t)).cell? ⟨w.heap.size, i, none⟩ = some (.int .i64 z) := by
  refine ⟨zs[i], ?_⟩
  have e : (w.alloc (.cells (zs.map (Value.int .i64)).toArray t)).heap[w.heap.size]? = some (.cells (zs.map (Value.int .i64)).toArray t) := by
    show (w.heap.push _)[w.heap.size]? = _
    simp
  simp only [World.cell?]
  rw [e]
  simp [hi]

set_option maxHeartbeats 400000 in
theorem rd_near (B : Nat) (a : Option Addr) (len cap : Nat) (lo hi : Int) (w : World) (h : Rd w B a len cap) (l1 : -1000000000000000 ≤ lo) (l2 : lo ≤ hi) (l3 : hi ≤ 1000000000000000) :
    Calls Tryd.prog 36 #[.pointer (some ⟨B, 0, none⟩), .int .i64 lo, .int .i64 hi] w fun e w' => ∃ v : Int, e = .returned (.int .i64 v) ∧ Rd w' B a len cap ∧ Stp B w w' := by
  have H : Hid (Rd w B a len cap) := h
  clear h
  go_enter Tryd.func36, Tryd.ntmps36
  go_wp2_with fail
  refine (rd_below B a len cap 8 _ H.out (by omega) (by omega)).mono ?_
  rintro e w1 ⟨v, rfl, v1, v2, R1, S1⟩
  have RR : Hid (Rd w1 B a len cap) := R1
  clear R1
  by_cases h0 : v = 0
  · subst h0
    go_wp2
    go_ret
    exact ⟨_, rfl, RR.out, S1⟩
  by_cases h1 : v = 1
  · subst h1
    go_wp2
    go_ret
    exact ⟨_, rfl, RR.out, S1⟩
  have b0 : (v == 0) = false := by simp [h0]
  have b1 : (v == 1) = false := by simp [h1]
  clear h0 h1
  go_wp2_with fail
  refine (rd_word B a len cap _ RR.out).mono ?_
  rintro e w2 ⟨u, rfl, hu, R2, S2⟩
  have R2' : Hid (Rd w2 B a len cap) := R2
  have HU : Hid ((Lit.int .u64 u).wf = true) := hu
  clear R2 hu
  go_wp2
  go_ret
  exact ⟨_, rfl, R2'.out, S1.trans S2⟩

set_option maxHeartbeats 400000 in
theorem rd_off (B : Nat) (a : Option Addr) (len cap : Nat) (lo hi : Int) (w : World) (h : Rd w B a len cap) (l1 : -1000000000000000 ≤ lo) (l2 : lo ≤ hi) (l3 : hi ≤ 1000000000000000) :
    Calls Tryd.prog 31 #[.pointer (some ⟨B, 0, none⟩), .int .i64 lo, .int .i64 hi] w fun e w' => ∃ v : Int, e = .returned (.int .i64 v) ∧ Rd w' B a len cap ∧ Stp B w w' := by
  have H : Hid (Rd w B a len cap) := h
  clear h
  go_enter Tryd.func31, Tryd.ntmps31
  go_wp2_with fail
  refine (rd_once B a len cap 24 _ H.out (by omega) (by omega)).mono ?_
  rintro e w1 ⟨b, rfl, R1, S1⟩
  have RR : Hid (Rd w1 B a len cap) := R1
  clear R1
  cases b with
  | false =>
    go_wp2_with fail
    refine (rd_near B a len cap lo hi _ RR.out l1 l2 l3).mono ?_
    rintro e w2 ⟨v, rfl, R2, S2⟩
    have R2' : Hid (Rd w2 B a len cap) := R2
    clear R2
    go_wp2
    go_ret
    exact ⟨_, rfl, R2'.out, S1.trans S2⟩
  | true =>
    go_wp2_with fail
    refine (rd_below B a len cap 4 _ (RR.out.alloc _) (by omega) (by omega)).mono ?_
    rintro e w2 ⟨v, rfl, v1, v2, R2, S2⟩
    obtain ⟨k, rfl⟩ := Int.eq_ofNat_of_zero_le v1
    obtain ⟨z, hz⟩ := row_cell w1 [lo - 1, hi + 1, -9223372036854775808, 9223372036854775807] 2 k (by simp; omega)
    have hB : w1.heap.size ≠ B := by have := RR.out.2.2.2.1; omega
    have hc : w2.cell? ⟨w1.heap.size, k, none⟩ = some (.int .i64 z) := by
      rw [S2.cell (p := ⟨w1.heap.size, k, none⟩) (by simp) hB]
      exact hz
    have SS : Hid (Stp B w w2) := S1.trans (((Stp.refl B w1).alloc _).trans S2)
    have R2' : Hid (Rd w2 B a len cap) := R2
    clear R2 hz S2 S1 hB
    go_wp2
    go_ret
    exact ⟨_, rfl, R2'.out, SS.out⟩

/-- A reader is opened over bytes that lie in memory. -/
theorem rd_open (a : Option Addr) (len cap : Nat) (w : World) (hm : len ≤ 9223372036854775807)
    (hz : ∀ i : Nat, i < len → ∃ (b off : Nat) (z : Int), a = some ⟨b, off, none⟩ ∧ b < w.heap.size ∧ w.cell? ⟨b, off + i, none⟩ = some (.int .u8 z) ∧ 0 ≤ z ∧ z ≤ 255) :
    Calls Tryd.prog 21 #[.slice a len cap] w fun e w' => e = .returned (.pointer (some ⟨w.heap.size, 0, none⟩)) ∧ Rd w' w.heap.size a len cap ∧ Below w.heap.size w w' := by
  have HZ : Hid (∀ i : Nat, i < len → ∃ (b off : Nat) (z : Int), a = some ⟨b, off, none⟩ ∧ b < w.heap.size ∧ w.cell? ⟨b, off + i, none⟩ = some (.int .u8 z) ∧ 0 ≤ z ∧ z ≤ 255) := hz
  clear hz
  go_enter Tryd.func21, Tryd.ntmps21
  go_wp2
  go_ret
  refine ⟨rfl, ⟨by simp [go_sem], ⟨0, Nat.zero_le _, by simp [go_sem]⟩, by simp [go_sem], by simp, hm, fun i hi => ?_⟩, (Below.refl _ _).alloc (Nat.le_refl _) _⟩
  obtain ⟨b, off, z, ha, hb, hc, h⟩ := HZ.out i hi
  exact ⟨b, off, z, ha, hb, by rw [World.cell?_alloc_lt _ _ _ (by exact hb)]; exact hc, h⟩

set_option maxHeartbeats 1000000 in
theorem rd_date (B : Nat) (a : Option Addr) (len cap : Nat) (w : World) (h : Rd w B a len cap) :
    Calls Tryd.prog 22 #[.pointer (some ⟨B, 0, none⟩)] w fun e w' => ∃ y m d : Int, e = .returned (.agg #[.int .i64 y, .int .i64 m, .int .i64 d]) ∧ Rd w' B a len cap ∧ Stp B w w' := by
  have H : Hid (Rd w B a len cap) := h
  have hBw : B < w.heap.size := h.2.2.2.1
  clear h
  go_enter Tryd.func22, Tryd.ntmps22
  go_wp2_with fail
  refine (rd_below B a len cap 10 _ ((H.out.alloc _).alloc _) (by omega) (by omega)).mono ?_
  rintro e w1 ⟨v, rfl, v1, v2, R1, S1⟩
  obtain ⟨k, rfl⟩ := Int.eq_ofNat_of_zero_le v1
  obtain ⟨y, hy⟩ := row_cell (w.alloc (.cells #[.int .i64 0, .int .i64 0, .int .i64 0] 25)) [1, 4, 100, 400, 1900, 2000, 2023, 2024, 2026, 8213] 2 k (by simp; omega)
  have hc1 : w1.cell? ⟨w.heap.size + 1, k, none⟩ = some (.int .i64 y) := by
    rw [S1.cell (p := ⟨w.heap.size + 1, k, none⟩) (by simp) (by show w.heap.size + 1 ≠ B; omega)]
    have e : (w.alloc (.cells #[.int .i64 0, .int .i64 0, .int .i64 0] 25)).heap.size = w.heap.size + 1 := by simp
    rw [← e]
    exact hy
  have R1' : Hid (Rd w1 B a len cap) := R1
  have SS1 : Hid (Stp B (w.alloc (.cells #[.int .i64 0, .int .i64 0, .int .i64 0] 25)) w1) := ((Stp.refl B _).alloc _).trans S1
  clear R1 S1 hy
  go_wp2_with fail
  clear hc1
  refine (rd_below B a len cap 12 _ R1'.out (by omega) (by omega)).mono ?_
  rintro e w2 ⟨m, rfl, m1, m2, R2, S2⟩
  have R2' : Hid (Rd w2 B a len cap) := R2
  have SS2 : Hid (Stp B (w.alloc (.cells #[.int .i64 0, .int .i64 0, .int .i64 0] 25)) w2) := SS1.out.trans S2
  clear R2 S2 R1' SS1
  go_wp2_with fail
  refine (rd_below B a len cap 7 _ (R2'.out.alloc _) (by omega) (by omega)).mono ?_
  rintro e w3 ⟨u, rfl, u1, u2, R3, S3⟩
  obtain ⟨j, rfl⟩ := Int.eq_ofNat_of_zero_le u1
  obtain ⟨d, hd⟩ := row_cell w2 [1, 2, 15, 28, 29, 30, 31] 2 j (by simp; omega)
  have hB2 : w2.heap.size ≠ B := by have := R2'.out.2.2.2.1; omega
  have hc3 : w3.cell? ⟨w2.heap.size, j, none⟩ = some (.int .i64 d) := by
    rw [S3.cell (p := ⟨w2.heap.size, j, none⟩) (by simp) hB2]
    exact hd
  have R3' : Hid (Rd w3 B a len cap) := R3
  have SS3 : Hid (Stp B (w.alloc (.cells #[.int .i64 0, .int .i64 0, .int .i64 0] 25)) w3) := SS2.out.trans (((Stp.refl B _).alloc _).trans S3)
  clear R3 S3 hd hB2 R2' SS2
  go_wp2_with fail
  clear hc3
  refine (rd_once B a len cap 12 _ R3'.out (by omega) (by omega)).mono ?_
  rintro e w4 ⟨b, rfl, R4, S4⟩
  have R4' : Hid (Rd w4 B a len cap) := R4
  have SS4 : Hid (Stp B (w.alloc (.cells #[.int .i64 0, .int .i64 0, .int .i64 0] 25)) w4) := SS3.out.trans S4
  clear R4 S4 R3' SS3
  have hnB : w.heap.size ≠ B := by omega
  cases b with
  | false =>
    have hc : ∀ o, w4.cell? ⟨w.heap.size, o, none⟩ = (w.alloc (.cells #[.int .i64 0, .int .i64 0, .int .i64 0] 25)).cell? ⟨w.heap.size, o, none⟩ := fun o => SS4.out.cell (p := ⟨w.heap.size, o, none⟩) (by simp) hnB
    have hf : ∀ o, w4.frozen? ⟨w.heap.size, o, none⟩ = (w.alloc (.cells #[.int .i64 0, .int .i64 0, .int .i64 0] 25)).frozen? ⟨w.heap.size, o, none⟩ := fun o => SS4.out.frozen (p := ⟨w.heap.size, o, none⟩) (by simp) hnB
    have hz : w.heap.size < w4.heap.size := by have := SS4.out.size; simp at this; omega
    go_wp2
    refine bodyPost_ret (v := .agg #[.int .i64 y, .int .i64 (1 + m), .int .i64 d]) (by simp [results, Tryd.results22, go_sem, hc]) rfl ⟨_, _, _, rfl, ?_, ?_⟩
    · exact ((R4'.out.setFar hBw _).setFar hBw _).setFar hBw _
    · exact ((((((Stp.refl B w).alloc _).trans SS4.out).setNew (p := ⟨w.heap.size, 0, none⟩) (Nat.le_refl _) _).setNew (p := ⟨w.heap.size, 1, none⟩) (Nat.le_refl _) _).setNew (p := ⟨w.heap.size, 2, none⟩) (Nat.le_refl _) _)
  | true =>
    go_wp2_with fail
    refine (rd_off B a len cap 1 9999 _ R4'.out (by omega) (by omega) (by omega)).mono ?_
    rintro e w5 ⟨y', rfl, R5, S5⟩
    have R5' : Hid (Rd w5 B a len cap) := R5
    have SS5 : Hid (Stp B (w.alloc (.cells #[.int .i64 0, .int .i64 0, .int .i64 0] 25)) w5) := SS4.out.trans S5
    clear R5 S5 R4' SS4
    go_wp2_with fail
    refine (rd_off B a len cap 1 12 _ R5'.out (by omega) (by omega) (by omega)).mono ?_
    rintro e w6 ⟨m', rfl, R6, S6⟩
    have R6' : Hid (Rd w6 B a len cap) := R6
    have SS6 : Hid (Stp B (w.alloc (.cells #[.int .i64 0, .int .i64 0, .int .i64 0] 25)) w6) := SS5.out.trans S6
    clear R6 S6 R5' SS5
    go_wp2_with fail
    refine (rd_off B a len cap 1 31 _ R6'.out (by omega) (by omega) (by omega)).mono ?_
    rintro e w7 ⟨d', rfl, R7, S7⟩
    have R7' : Hid (Rd w7 B a len cap) := R7
    have SS7 : Hid (Stp B (w.alloc (.cells #[.int .i64 0, .int .i64 0, .int .i64 0] 25)) w7) := SS6.out.trans S7
    clear R7 S7 R6' SS6
    have hc : ∀ o, w7.cell? ⟨w.heap.size, o, none⟩ = (w.alloc (.cells #[.int .i64 0, .int .i64 0, .int .i64 0] 25)).cell? ⟨w.heap.size, o, none⟩ := fun o => SS7.out.cell (p := ⟨w.heap.size, o, none⟩) (by simp) hnB
    have hf : ∀ o, w7.frozen? ⟨w.heap.size, o, none⟩ = (w.alloc (.cells #[.int .i64 0, .int .i64 0, .int .i64 0] 25)).frozen? ⟨w.heap.size, o, none⟩ := fun o => SS7.out.frozen (p := ⟨w.heap.size, o, none⟩) (by simp) hnB
    have hz : w.heap.size < w7.heap.size := by have := SS7.out.size; simp at this; omega
    go_wp2
    refine bodyPost_ret (v := .agg #[.int .i64 y', .int .i64 m', .int .i64 d']) (by simp [results, Tryd.results22, go_sem, hc]) rfl ⟨_, _, _, rfl, ?_, ?_⟩
    · exact ((R7'.out.setFar hBw _).setFar hBw _).setFar hBw _
    · exact ((((((Stp.refl B w).alloc _).trans SS7.out).setNew (p := ⟨w.heap.size, 0, none⟩) (Nat.le_refl _) _).setNew (p := ⟨w.heap.size, 1, none⟩) (Nat.le_refl _) _).setNew (p := ⟨w.heap.size, 2, none⟩) (Nat.le_refl _) _)

/-- The bytes of a code, as they lie in memory. -/
def Code (w : World) (a : Option Addr) (len : Nat) : Prop := len ≤ 9223372036854775807 ∧
  ∀ i : Nat, i < len → ∃ (b off : Nat) (z : Int), a = some ⟨b, off, none⟩ ∧ b < w.heap.size ∧ w.cell? ⟨b, off + i, none⟩ = some (.int .u8 z) ∧ 0 ≤ z ∧ z ≤ 255
theorem Code.below {w w' : World} {a : Option Addr} {len : Nat} (h : Code w a len) (hb : Below w.heap.size w w') : Code w' a len := by
  refine ⟨h.1, fun i hi => ?_⟩
  obtain ⟨b, off, z, ha, hb1, hc, hz⟩ := h.2 i hi
  exact ⟨b, off, z, ha, Nat.lt_of_lt_of_le hb1 hb.size, by rw [hb.cell (p := ⟨b, off + i, none⟩) hb1]; exact hc, hz⟩


/-- Strings in a new row. -/
theorem strs_cell (w : World) (ys : List ByteArray) (i : Nat) (hi : i < ys.length) : (w.alloc (.cells (ys.map Value.string).toArray 9)).cell? ⟨w.heap.size, i, none⟩ = some (.string ys[i]) := by
  rw [World.cell?_alloc_mark]
  simp [List.getElem?_eq_getElem hi]
def hurts : List ByteArray := [⟨#[48]⟩, ⟨#[49]⟩, ⟨#[32]⟩, ⟨#[45]⟩, ⟨#[57]⟩, ⟨#[120]⟩]
theorem hurts_le : ∀ y ∈ hurts, y.size = 1 := by
  intro y hy
  simp only [hurts, List.mem_cons, List.not_mem_nil, or_false] at hy
  rcases hy with e | e | e | e | e | e <;> subst e <;> decide
def tails : List ByteArray := [⟨#[32]⟩, ⟨#[48]⟩, ⟨#[10]⟩]
theorem tails_le : ∀ y ∈ tails, y.size = 1 := by
  intro y hy
  simp only [tails, List.mem_cons, List.not_mem_nil, or_false] at hy
  rcases hy with e | e | e <;> subst e <;> decide
theorem add_run (W : World) (x y : ByteArray) (hx : x.size ≤ 100000) (hy : y.size ≤ 100000) : (Op.stringOp .add x y).run Tryd.prog W = .ok (.string (x ++ y)) W := run_string_add_sum W x y (by omega)

theorem Rd.drewd {w : World} {B : Nat} {a : Option Addr} {len cap : Nat} (h : Rd w B a len cap) : Rd w.drew B a len cap := h
theorem Stp.drewd {B : Nat} {a w : World} (h : Stp B a w) : Stp B a w.drew := ⟨h.os, h.tape, h.output, h.size, h.block⟩
set_option maxHeartbeats 4000000 in
theorem rd_hurt (B : Nat) (a : Option Addr) (len cap : Nat) (s : ByteArray) (w : World) (h : Rd w B a len cap) (hs : s.size ≤ 1000) :
    Calls Tryd.prog 24 #[.pointer (some ⟨B, 0, none⟩), .string s] w fun e w' => ∃ y : ByteArray, e = .returned (.string y) ∧ y.size ≤ 1001 ∧ Rd w' B a len cap ∧ Stp B w w' := by
  have H : Hid (Rd w B a len cap) := h
  have hBQ : B < w.heap.size := h.2.2.2.1
  clear h
  go_enter Tryd.func24, Tryd.ntmps24
  go_wp2_with fail
  refine (rd_below B a len cap 6 _ H.out (by omega) (by omega)).mono ?_
  rintro e w1 ⟨v, rfl, v1, v2, R1, S1⟩
  obtain ⟨n, rfl⟩ := Int.eq_ofNat_of_zero_le v1
  have hn : n < 6 := by omega
  have RX1 : Hid (Rd w1 B a len cap) := R1
  have SX1 : Hid (Stp B w w1) := S1
  have hB1 : B < w1.heap.size := R1.2.2.2.1
  clear R1 S1 H
  by_cases n1 : n = 1
  · subst n1
    have q1 : (((1 : Nat) : Int) == 1) = true := rfl
    go_wp2_with fail
    refine (rd_below B a len cap ((s.size : Int) + 1) _ RX1.out (by omega) (by omega)).mono ?_
    rintro e w2 ⟨k, rfl, k1, k2, R2, S2⟩
    obtain ⟨m, rfl⟩ := Int.eq_ofNat_of_zero_le k1
    have hm : (m : Int) ≤ (s.size : Int) := by omega
    have RX2 : Hid (Rd w2 B a len cap) := R2
    have SX2 : Hid (Stp B w w2) := SX1.out.trans S2
    clear R2 S2
    go_wp2
    go_ret
    exact ⟨_, rfl, by rw [ByteArray.size_extract]; omega, RX2.out, SX2.out⟩
  have q1 : (((n : Nat) : Int) == 1) = false := beq_eq_false_iff_ne.2 (by omega)
  by_cases n3 : n = 3
  · subst n3
    go_wp2_with fail
    refine (rd_below B a len cap 3 _ (RX1.out.alloc _) (by omega) (by omega)).mono ?_
    rintro e w2 ⟨k, rfl, k1, k2, R2, S2⟩
    obtain ⟨m, rfl⟩ := Int.eq_ofNat_of_zero_le k1
    have hm : m < 3 := by omega
    have hm' : (m : Int) < 3 := by omega
    obtain ⟨y, hy⟩ : ∃ y, y = tails[m]'(by simpa [tails] using hm) := ⟨_, rfl⟩
    have hys : y.size = 1 := by rw [hy]; exact tails_le _ (List.getElem_mem _)
    have hc : w2.cell? ⟨w1.heap.size, m, none⟩ = some (.string y) := by
      rw [S2.cell (p := ⟨w1.heap.size, m, none⟩) (by simp) (by simp; omega), hy]
      exact strs_cell w1 tails m (by simpa [tails] using hm)
    have ha := fun W => add_run W s y (by omega) (by omega)
    have RX2 : Hid (Rd w2 B a len cap) := R2
    have SX2 : Hid (Stp B w w2) := (SX1.out.alloc _).trans S2
    have HZ : Hid ((s ++ y).size ≤ 1001) := (by rw [ByteArray.size_append]; omega : (s ++ y).size ≤ 1001)
    clear R2 S2 hy
    go_wp2
    go_ret
    exact ⟨_, rfl, HZ.out, RX2.out, SX2.out⟩
  have q3 : (((n : Nat) : Int) == 3) = false := beq_eq_false_iff_ne.2 (by omega)
  by_cases n2 : n = 2 ∧ 0 < s.size
  · obtain ⟨rfl, hs0⟩ := n2
    have hs0' : (0 : Int) < (s.size : Int) := by omega
    go_wp2_with fail
    refine (rd_below B a len cap (s.size : Int) _ RX1.out (by omega) (by omega)).mono ?_
    rintro e w2 ⟨k, rfl, k1, k2, R2, S2⟩
    obtain ⟨i, rfl⟩ := Int.eq_ofNat_of_zero_le k1
    have hi : (i : Int) < (s.size : Int) := by omega
    have hi2 : (i : Int) ≤ (s.size : Int) := by omega
    have hi3 : (i : Int) + 1 ≤ (s.size : Int) := by omega
    have hi4 : (0 : Int) ≤ (i : Int) + 1 := by omega
    have hi5 : IntKind.i64.wrap ((i : Int) + 1) = (i : Int) + 1 := by rw [IntKind.wrap_i64]; omega
    have hi6 : ((i : Int) + 1).toNat = i + 1 := by omega
    have RX2 : Hid (Rd w2 B a len cap) := R2
    have SX2 : Hid (Stp B w w2) := SX1.out.trans S2
    have hB2 : B < w2.heap.size := R2.2.2.2.1
    clear R2 S2 RX1 SX1
    go_wp2
    go_region_with (first
      | (go_at_call 23
         refine (rd_below B a len cap 6 _ (by first | exact RX2.out | exact RX2.out.drewd | exact (RX2.out.alloc _).drewd) (by omega) (by omega)).mono ?_
         rintro e w3 ⟨k, rfl, k1, k2, R3, S3⟩
         obtain ⟨m, rfl⟩ := Int.eq_ofNat_of_zero_le k1
         have hm : m < 6 := by omega
         have hm' : (m : Int) < 6 := by omega
         obtain ⟨y, hy⟩ : ∃ y, y = hurts[m]'(by simpa [hurts] using hm) := ⟨_, rfl⟩
         have hys : y.size = 1 := by rw [hy]; exact hurts_le _ (List.getElem_mem _)
         have hcA : ∀ W : World, (W.alloc (.cells #[.string ⟨#[48]⟩, .string ⟨#[49]⟩, .string ⟨#[32]⟩, .string ⟨#[45]⟩, .string ⟨#[57]⟩, .string ⟨#[120]⟩] 9)).cell? ⟨W.heap.size, m, none⟩ = some (.string y) := fun W => by rw [hy]; exact strs_cell W hurts m (by simpa [hurts] using hm)
         first
           | (have hcB : w3.cell? ⟨w2.heap.size, m, none⟩ = some (.string y) := by
                rw [S3.cell (p := ⟨w2.heap.size, m, none⟩) (by show w2.heap.size < (World.alloc w2 _).heap.size; simp) (by show w2.heap.size ≠ B; omega)]
                exact hcA w2)
           | skip
         have hx1 : (s.extract 0 i).size ≤ 1000 := by rw [ByteArray.size_extract]; omega
         have hx2 : (s.extract (i + 1) s.size).size ≤ 1000 := by rw [ByteArray.size_extract]; omega
         have hx3 : (s.extract 0 i ++ y).size ≤ 1001 := by rw [ByteArray.size_append]; omega
         have ha1 := fun W => add_run W (s.extract 0 i) y (by omega) (by omega)
         have ha2 := fun W => add_run W (s.extract 0 i ++ y) (s.extract (i + 1) s.size) (by omega) (by omega)
         have HZ : Hid ((s.extract 0 i ++ y ++ s.extract (i + 1) s.size).size ≤ 1001) := (by rw [ByteArray.size_append, ByteArray.size_append, ByteArray.size_extract, ByteArray.size_extract]; omega : (s.extract 0 i ++ y ++ s.extract (i + 1) s.size).size ≤ 1001)
         have RX3 : Hid (Rd w3 B a len cap) := R3
         have SX3 : Hid (Stp B w w3) := by first | exact SX2.out.trans S3 | exact SX2.out.drewd.trans S3 | exact (SX2.out.alloc _).drewd.trans S3
         clear R3 S3 hy))
    all_goals go_wp2
    all_goals go_ret
    all_goals first
      | exact ⟨_, rfl, HZ.out, RX3.out, SX3.out⟩
      | exact ⟨_, rfl, HZ.out, RX3.out.alloc _, SX3.out.alloc _⟩
  · by_cases n2' : n = 2
    · subst n2'
      have hs0 : ¬ (0 : Int) < (s.size : Int) := by omega
      go_wp2
      go_ret
      exact ⟨_, rfl, by omega, RX1.out, SX1.out⟩
    · have q2 : (((n : Nat) : Int) == 2) = false := beq_eq_false_iff_ne.2 (by omega)
      go_wp2
      go_ret
      exact ⟨_, rfl, by omega, RX1.out, SX1.out⟩
end Go.Proofs.YtenlgmjlblggmaaDoor
