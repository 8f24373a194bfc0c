/- Contracts of the reader by which inputs are drawn: each call answers a number within its range, leaves the reader a reader, and writes nothing else. Conditions: the reader lies in memory as l1Open lays it. -/
import Derived.Test.YtleblllofibfkaaDones
import Derived.WalkKit
import Derived.WalkLawsBesides
import Derived.Below
import Derived.Deep.QuietTactic
import Derived.BigQuiet
import Derived.OpenShut
namespace Go.Proofs.Ytleblllofibfkaa
open Go.RowKit
set_option maxRecDepth 8000

/-- What a step of the reader in block B leaves: all other blocks as they were. -/
structure Stp (B : Nat) (w w' : World) : Prop where
  os : w'.os = w.os
  tape : w'.tape = w.tape
  output : w'.output = w.output
  size : w.heap.size ≤ w'.heap.size
  block : ∀ k, k < w.heap.size → k ≠ B → w'.heap[k]? = w.heap[k]?

theorem Stp.refl (B : Nat) (w : World) : Stp B w w := ⟨rfl, rfl, rfl, Nat.le_refl _, fun _ _ _ => rfl⟩
theorem Stp.trans {B : Nat} {a b c : World} (h : Stp B a b) (k : Stp B b c) : Stp B a c :=
  ⟨k.os.trans h.os, k.tape.trans h.tape, k.output.trans h.output, Nat.le_trans h.size k.size, fun i hi hn => (k.block i (Nat.lt_of_lt_of_le hi h.size) hn).trans (h.block i hi hn)⟩
theorem Stp.drewN {B : Nat} {a w : World} (h : Stp B a w) (n : Nat) : Stp B a (w.drewN n) := h.trans ⟨rfl, rfl, rfl, Nat.le_refl _, fun _ _ _ => rfl⟩
theorem Stp.alloc {B : Nat} {a w : World} (h : Stp B a w) (o : Obj) : Stp B a (w.alloc o) :=
  h.trans ⟨rfl, rfl, rfl, by simp, fun k hk _ => Below.heap_alloc _ _ _ hk⟩
theorem Stp.setCell {B : Nat} {a w : World} (h : Stp B a w) (off : Nat) (u : Value) : Stp B a (w.setCell ⟨B, off, none⟩ u) :=
  h.trans ⟨rfl, rfl, rfl, by simp [World.setCell], fun k _ hn => Below.heap_setCell _ _ _ _ hn⟩
theorem Stp.below {B : Nat} {w w' : World} (h : Stp B w w') (hB : B ≤ w.heap.size) : Below B w w' :=
  ⟨h.os, h.tape, h.output, h.size, fun k hk => h.block k (Nat.lt_of_lt_of_le hk hB) (by omega)⟩
theorem Stp.ofBelow {B : Nat} {w w' : World} (h : Below w.heap.size w w') : Stp B w w' := ⟨h.os, h.tape, h.output, h.size, fun k hk _ => h.block k hk⟩
theorem Stp.cell {B : Nat} {w w' : World} (h : Stp B w w') {p : Addr} (hp : p.block < w.heap.size) (hn : p.block ≠ B) : w'.cell? p = w.cell? p := World.cell?_of_block (w := w) (h.block p.block hp hn)

theorem Stp.frozen {B : Nat} {w w' : World} (h : Stp B w w') {p : Addr} (hp : p.block < w.heap.size) (hn : p.block ≠ B) : w'.frozen? p = w.frozen? p := World.frozen?_of_block (w := w) (h.block p.block hp hn)
theorem Stp.setNew {B : Nat} {a w : World} (h : Stp B a w) {p : Addr} (hp : a.heap.size ≤ p.block) (u : Value) : Stp B a (w.setCell p u) :=
  ⟨h.os, h.tape, h.output, by simpa [World.setCell] using h.size, fun k hk hn => (Below.heap_setCell _ _ _ _ (by omega)).trans (h.block k hk hn)⟩

/-- A reader in block B: its bytes, its place. -/
def Rd (w : World) (B : Nat) (a : Option Addr) (len cap : Nat) : Prop :=
  w.cell? ⟨B, 0, none⟩ = some (.slice a len cap) ∧ (∃ p : Nat, p ≤ len ∧ w.cell? ⟨B, 1, none⟩ = some (.int .i64 p)) ∧ w.frozen? ⟨B, 1, none⟩ = false ∧ B < w.heap.size ∧ len ≤ 9223372036854775807 ∧
  (∀ i : Nat, i < len → ∃ (b off : Nat) (z : Int), a = some ⟨b, off, none⟩ ∧ b < B ∧ w.cell? ⟨b, off + i, none⟩ = some (.int .u8 z) ∧ 0 ≤ z ∧ z ≤ 255)

theorem Rd.same {w w' : World} {B : Nat} {a : Option Addr} {len cap : Nat} (h : Rd w B a len cap) (hb : Below (B + 1) w w') : Rd w' B a len cap := by
  obtain ⟨h1, ⟨p, hp, h2⟩, h3, h4, h5, h6⟩ := h
  refine ⟨by rw [hb.cell (p := ⟨B, 0, none⟩) (Nat.lt_succ_self _)]; exact h1, ⟨p, hp, by rw [hb.cell (p := ⟨B, 1, none⟩) (Nat.lt_succ_self _)]; exact h2⟩, by rw [hb.frozen (p := ⟨B, 1, none⟩) (Nat.lt_succ_self _)]; exact h3, Nat.lt_of_lt_of_le h4 hb.size, h5, fun i hi => ?_⟩
  obtain ⟨b, off, z, ha, hbB, hc, hz⟩ := h6 i hi
  exact ⟨b, off, z, ha, hbB, by rw [hb.cell (p := ⟨b, off + i, none⟩) (by show b < B + 1; omega)]; exact hc, hz⟩
theorem Rd.drewN {w : World} {B : Nat} {a : Option Addr} {len cap : Nat} (h : Rd w B a len cap) (n : Nat) : Rd (w.drewN n) B a len cap := h
theorem Rd.alloc {w : World} {B : Nat} {a : Option Addr} {len cap : Nat} (h : Rd w B a len cap) (o : Obj) : Rd (w.alloc o) B a len cap :=
  h.same ((Below.refl _ _).alloc h.2.2.2.1 o)

theorem Rd.setFar {w : World} {B : Nat} {a : Option Addr} {len cap R o : Nat} (h : Rd w B a len cap) (hR : B < R) (u : Value) : Rd (w.setCell ⟨R, o, none⟩ u) B a len cap :=
  h.same ((Below.refl _ _).setCell (p := ⟨R, o, none⟩) (by show B + 1 ≤ R; omega) u)

theorem Rd.moved {w : World} {B : Nat} {a : Option Addr} {len cap p : Nat} (h : Rd w B a len cap) (hp : p ≤ len) (v : Value) (hv : w.cell? ⟨B, 1, none⟩ = some v) : Rd (w.setCell ⟨B, 1, none⟩ (.int .i64 p)) B a len cap := by
  obtain ⟨h1, _, h3, h4, h5, h6⟩ := h
  have hne : (⟨B, 0, none⟩ : Addr) ≠ ⟨B, 1, none⟩ := by intro e; cases e
  refine ⟨by rw [World.cell?_setCell_other _ _ _ _ hne.symm]; exact h1, ⟨p, hp, ?_⟩, ?_, by simpa [World.setCell] using h4, h5, fun i hi => ?_⟩
  · exact World.cell?_setCell_same _ _ _ hv
  · rw [World.frozen?_setCell]; exact h3
  · obtain ⟨b, off, z, ha, hbB, hc, hz⟩ := h6 i hi
    exact ⟨b, off, z, ha, hbB, by rw [World.cell?_setCell_other _ _ _ _ (by intro e; have := congrArg Addr.block e; simp at this; omega)]; exact hc, hz⟩

set_option maxHeartbeats 400000 in
theorem rd_next (B : Nat) (a : Option Addr) (len cap : Nat) (w : World) (h : Rd w B a len cap) :
    Calls Try.prog 52 #[.pointer (some ⟨B, 0, none⟩)] w fun e w' => ∃ v : Int, e = .returned (.int .i64 v) ∧ 0 ≤ v ∧ v ≤ 255 ∧ Rd w' B a len cap ∧ Stp B w w' := by
  have H : Hid (Rd w B a len cap) := h
  obtain ⟨h1, ⟨p, hp, h2⟩, h3, h4, h5, h6⟩ := h
  by_cases hlt : p < len
  · obtain ⟨b, off, z, rfl, hbB, hc, hz1, hz2⟩ := h6 p hlt
    clear h6
    have hne : b ≠ B := by omega
    go_enter Try.func52, Try.ntmps52
    go_wp2
    go_quiet (fail)
    go_wp2
    go_quiet (fail)
    go_wp2
    go_ret
    have e1 : ((p : Int) + 1) = ((p + 1 : Nat) : Int) := by omega
    rw [e1]
    exact ⟨z, rfl, hz1, hz2, (Rd.moved (H.out.drewN _) (by omega) _ h2).drewN _, (((Stp.refl _ _).drewN _).setCell 1 _).drewN _⟩
  · clear h6
    have hge : (len : Int) ≤ (p : Int) := by omega
    go_enter Try.func52, Try.ntmps52
    go_wp2
    go_quiet (fail)
    go_wp2
    go_ret
    exact ⟨0, rfl, by omega, by omega, H.out.drewN _, (Stp.refl _ _).drewN _⟩

theorem ret_int {k : IntKind} {a b : Int} (h : a = b) : Ending.returned (.int k a) = .returned (.int k b) := by rw [h]

set_option maxHeartbeats 400000 in
theorem rd_below (B : Nat) (a : Option Addr) (len cap : Nat) (n : Int) (w : World) (h : Rd w B a len cap) (n1 : 1 ≤ n) (n2 : n ≤ 1000000000) :
    Calls Try.prog 36 #[.pointer (some ⟨B, 0, none⟩), .int .i64 n] w fun e w' => ∃ v : Int, e = .returned (.int .i64 v) ∧ 0 ≤ v ∧ v < n ∧ Rd w' B a len cap ∧ Stp B w w' := by
  have H : Hid (Rd w B a len cap) := h
  clear h
  by_cases h1 : n ≤ 1
  · go_enter Try.func36, Try.ntmps36
    go_wp2
    go_ret
    exact ⟨0, rfl, by omega, by omega, H.out, Stp.refl _ _⟩
  by_cases h2 : n ≤ 256
  · go_enter Try.func36, Try.ntmps36
    go_wp2_with fail
    refine (rd_next B a len cap _ H.out).mono ?_
    rintro e w1 ⟨v, rfl, v1, v2, R1, S1⟩
    have RR : Hid (Rd w1 B a len cap) := R1
    clear R1
    go_wp2
    go_ret
    exact ⟨v % n, rfl, Int.emod_nonneg _ (by omega), Int.emod_lt_of_pos _ (by omega), RR.out, S1⟩
  · go_enter Try.func36, Try.ntmps36
    go_wp2_with fail
    refine (rd_next B a len cap _ H.out).mono ?_
    rintro e w1 ⟨v, rfl, v1, v2, R1, S1⟩
    have RR : Hid (Rd w1 B a len cap) := R1
    clear R1
    go_wp2_with fail
    refine (rd_next B a len cap _ RR.out).mono ?_
    rintro e w2 ⟨u, rfl, u1, u2, R2, S2⟩
    have R2' : Hid (Rd w2 B a len cap) := R2
    clear R2
    go_wp2
    go_ret
    exact ⟨(v * 256 + u) % n, rfl, Int.emod_nonneg _ (by omega), Int.emod_lt_of_pos _ (by omega), R2'.out, S1.trans S2⟩

theorem rd_once (B : Nat) (a : Option Addr) (len cap : Nat) (n : Int) (w : World) (h : Rd w B a len cap) (n1 : 1 ≤ n) (n2 : n ≤ 1000000000) :
    Calls Try.prog 55 #[.pointer (some ⟨B, 0, none⟩), .int .i64 n] w fun e w' => ∃ b : Bool, e = .returned (.bool b) ∧ Rd w' B a len cap ∧ Stp B w w' := by
  have H : Hid (Rd w B a len cap) := h
  clear h
  go_enter Try.func55, Try.ntmps55
  go_wp2_with fail
  refine (rd_below B a len cap n _ H.out n1 n2).mono ?_
  rintro e w1 ⟨v, rfl, v1, v2, R1, S1⟩
  have RR : Hid (Rd w1 B a len cap) := R1
  clear R1
  go_wp2
  go_ret
  exact ⟨_, rfl, RR.out, S1⟩

set_option maxHeartbeats 400000 in
theorem rd_word (B : Nat) (a : Option Addr) (len cap : Nat) (w : World) (h : Rd w B a len cap) :
    Calls Try.prog 53 #[.pointer (some ⟨B, 0, none⟩)] w fun e w' => ∃ v : Int, e = .returned (.int .u64 v) ∧ (Lit.int .u64 v).wf = true ∧ Rd w' B a len cap ∧ Stp B w w' := by
  have H : Hid (Rd w B a len cap) := h
  clear h
  go_enter Try.func53, Try.ntmps53
  go_wp2
  go_loopw [3, 4] (fun x i wr => ∃ (v : Int) (k : Nat), k ≤ 8 ∧ i = .int .i64 k ∧ x = .int .u64 v ∧ Hid ((Lit.int .u64 v).wf = true) ∧ Hid (Rd wr B a len cap) ∧ Hid (Stp B w wr)) (fun _ i _ => 8 - (intOf i).toNat)
  case atStart => exact ⟨0, 0, by omega, rfl, rfl, (by decide : (Lit.int .u64 0).wf = true), H.out, Stp.refl _ _⟩
  case round =>
    obtain ⟨v, k, hk, rfl, rfl, hv, hR, hS⟩ := hrel
    by_cases hlt : k < 8
    · go_wp2_with fail
      refine (rd_next B a len cap _ hR.out).mono ?_
      rintro e w1 ⟨u, rfl, u1, u2, R1, S1⟩
      have RR : Hid (Rd w1 B a len cap) := R1
      clear R1
      go_wp2
      go_roundw
      case rel => exact ⟨_, k + 1, by omega, by go_num, rfl, wf_bits _ _ _ _, RR, hS.out.trans S1⟩
      case measure => simp [intOf]; omega
    · go_wp2
      go_ret
      exact ⟨v, rfl, hv.out, hR.out, hS.out⟩

theorem row_cell (w : World) (zs : List Int) (t : TypeId) (i : Nat) (hi : i < zs.length) : ∃ z : Int, (w.alloc (.cells (zs.map (Value.int .i64)).toArray t)).cell? ⟨w.heap.size, i, none⟩ = some (.int .i64 z) := by
  refine ⟨zs[i], ?_⟩
  have e : (w.alloc (.cells (zs.map (Value.int .i64)).toArray t)).heap[w.heap.size]? = some (.cells (zs.map (Value.int .i64)).toArray t) := by
    show (w.heap.push _)[w.heap.size]? = _
    simp
  simp only [World.cell?]
  rw [e]
  simp [hi]

set_option maxHeartbeats 400000 in
theorem rd_near (B : Nat) (a : Option Addr) (len cap : Nat) (lo hi : Int) (w : World) (h : Rd w B a len cap) (l1 : -1000000000000000 ≤ lo) (l2 : lo ≤ hi) (l3 : hi ≤ 1000000000000000) :
    Calls Try.prog 56 #[.pointer (some ⟨B, 0, none⟩), .int .i64 lo, .int .i64 hi] w fun e w' => ∃ v : Int, e = .returned (.int .i64 v) ∧ Rd w' B a len cap ∧ Stp B w w' := by
  have H : Hid (Rd w B a len cap) := h
  clear h
  go_enter Try.func56, Try.ntmps56
  go_wp2_with fail
  refine (rd_below B a len cap 8 _ H.out (by omega) (by omega)).mono ?_
  rintro e w1 ⟨v, rfl, v1, v2, R1, S1⟩
  have RR : Hid (Rd w1 B a len cap) := R1
  clear R1
  by_cases h0 : v = 0
  · subst h0
    go_wp2
    go_ret
    exact ⟨_, rfl, RR.out, S1⟩
  by_cases h1 : v = 1
  · subst h1
    go_wp2
    go_ret
    exact ⟨_, rfl, RR.out, S1⟩
  have b0 : (v == 0) = false := by simp [h0]
  have b1 : (v == 1) = false := by simp [h1]
  clear h0 h1
  go_wp2_with fail
  refine (rd_word B a len cap _ RR.out).mono ?_
  rintro e w2 ⟨u, rfl, hu, R2, S2⟩
  have R2' : Hid (Rd w2 B a len cap) := R2
  have HU : Hid ((Lit.int .u64 u).wf = true) := hu
  clear R2 hu
  go_wp2
  go_ret
  exact ⟨_, rfl, R2'.out, S1.trans S2⟩

set_option maxHeartbeats 400000 in
theorem rd_off (B : Nat) (a : Option Addr) (len cap : Nat) (lo hi : Int) (w : World) (h : Rd w B a len cap) (l1 : -1000000000000000 ≤ lo) (l2 : lo ≤ hi) (l3 : hi ≤ 1000000000000000) :
    Calls Try.prog 39 #[.pointer (some ⟨B, 0, none⟩), .int .i64 lo, .int .i64 hi] w fun e w' => ∃ v : Int, e = .returned (.int .i64 v) ∧ Rd w' B a len cap ∧ Stp B w w' := by
  have H : Hid (Rd w B a len cap) := h
  clear h
  go_enter Try.func39, Try.ntmps39
  go_wp2_with fail
  refine (rd_once B a len cap 24 _ H.out (by omega) (by omega)).mono ?_
  rintro e w1 ⟨b, rfl, R1, S1⟩
  have RR : Hid (Rd w1 B a len cap) := R1
  clear R1
  cases b with
  | false =>
    go_wp2_with fail
    refine (rd_near B a len cap lo hi _ RR.out l1 l2 l3).mono ?_
    rintro e w2 ⟨v, rfl, R2, S2⟩
    have R2' : Hid (Rd w2 B a len cap) := R2
    clear R2
    go_wp2
    go_ret
    exact ⟨_, rfl, R2'.out, S1.trans S2⟩
  | true =>
    go_wp2_with fail
    refine (rd_below B a len cap 4 _ (RR.out.alloc _) (by omega) (by omega)).mono ?_
    rintro e w2 ⟨v, rfl, v1, v2, R2, S2⟩
    obtain ⟨k, rfl⟩ := Int.eq_ofNat_of_zero_le v1
    obtain ⟨z, hz⟩ := row_cell w1 [lo - 1, hi + 1, -9223372036854775808, 9223372036854775807] 2 k (by simp; omega)
    have hB : w1.heap.size ≠ B := by have := RR.out.2.2.2.1; omega
    have hc : w2.cell? ⟨w1.heap.size, k, none⟩ = some (.int .i64 z) := by
      rw [S2.cell (p := ⟨w1.heap.size, k, none⟩) (by simp) hB]
      exact hz
    have SS : Hid (Stp B w w2) := S1.trans (((Stp.refl B w1).alloc _).trans S2)
    have R2' : Hid (Rd w2 B a len cap) := R2
    clear R2 hz S2 S1 hB
    go_wp2
    go_ret
    exact ⟨_, rfl, R2'.out, SS.out⟩

/-- A reader is opened over bytes that lie in memory. -/
theorem rd_open (a : Option Addr) (len cap : Nat) (w : World) (hm : len ≤ 9223372036854775807)
    (hz : ∀ i : Nat, i < len → ∃ (b off : Nat) (z : Int), a = some ⟨b, off, none⟩ ∧ b < w.heap.size ∧ w.cell? ⟨b, off + i, none⟩ = some (.int .u8 z) ∧ 0 ≤ z ∧ z ≤ 255) :
    Calls Try.prog 20 #[.slice a len cap] w fun e w' => e = .returned (.pointer (some ⟨w.heap.size, 0, none⟩)) ∧ Rd w' w.heap.size a len cap ∧ Below w.heap.size w w' := by
  have HZ : Hid (∀ i : Nat, i < len → ∃ (b off : Nat) (z : Int), a = some ⟨b, off, none⟩ ∧ b < w.heap.size ∧ w.cell? ⟨b, off + i, none⟩ = some (.int .u8 z) ∧ 0 ≤ z ∧ z ≤ 255) := hz
  clear hz
  go_enter Try.func20, Try.ntmps20
  go_wp2
  go_ret
  refine ⟨rfl, ⟨by simp [go_sem], ⟨0, Nat.zero_le _, by simp [go_sem]⟩, by simp [go_sem], by simp, hm, fun i hi => ?_⟩, (Below.refl _ _).alloc (Nat.le_refl _) _⟩
  obtain ⟨b, off, z, ha, hb, hc, h⟩ := HZ.out i hi
  exact ⟨b, off, z, ha, hb, by rw [World.cell?_alloc_lt _ _ _ (by exact hb)]; exact hc, h⟩
end Go.Proofs.Ytleblllofibfkaa
