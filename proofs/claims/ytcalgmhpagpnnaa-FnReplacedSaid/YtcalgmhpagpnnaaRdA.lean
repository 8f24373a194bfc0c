/- Contracts of the reader by which inputs are drawn: each call answers something within its range, leaves the reader a reader, and writes nothing else. Conditions: the reader lies in memory as l1Open lays it. -/
import Derived.Test.YtcalgmhpagpnnaaDr
import Derived.WalkKit
import Derived.WalkLawsBesides
import Derived.Below
import Derived.Deep.QuietTactic
import Derived.BigQuiet
import Derived.OpenShut
import Derived.Test.YtcalgmhpagpnnaaSyN
import Derived.Test.YtcalgmhpagpnnaaRp
namespace Go.Proofs.Ytcalgmhpagpnnaa
open Go.RowKit
set_option maxRecDepth 8000

/-- What a step of the reader in block B leaves: all other blocks as they were. -/
structure Stp (B : Nat) (w w' : World) : Prop where
  os : w'.os = w.os
  tape : w'.tape = w.tape
  output : w'.output = w.output
  size : w.heap.size ≤ w'.heap.size
  block : ∀ k, k < w.heap.size → k ≠ B → w'.heap[k]? = w.heap[k]?

theorem Stp.refl (B : Nat) (w : World) : Stp B w w := ⟨rfl, rfl, rfl, Nat.le_refl _, fun _ _ _ => rfl⟩
theorem Stp.trans {B : Nat} {a b c : World} (h : Stp B a b) (k : Stp B b c) : Stp B a c :=
  ⟨k.os.trans h.os, k.tape.trans h.tape, k.output.trans h.output, Nat.le_trans h.size k.size, fun i hi hn => (k.block i (Nat.lt_of_lt_of_le hi h.size) hn).trans (h.block i hi hn)⟩
theorem Stp.drewN {B : Nat} {a w : World} (h : Stp B a w) (n : Nat) : Stp B a (w.drewN n) := h.trans ⟨rfl, rfl, rfl, Nat.le_refl _, fun _ _ _ => rfl⟩
theorem Stp.alloc {B : Nat} {a w : World} (h : Stp B a w) (o : Obj) : Stp B a (w.alloc o) :=
  h.trans ⟨rfl, rfl, rfl, by simp, fun k hk _ => Below.heap_alloc _ _ _ hk⟩
theorem Stp.setCell {B : Nat} {a w : World} (h : Stp B a w) (off : Nat) (u : Value) : Stp B a (w.setCell ⟨B, off, none⟩ u) :=
  h.trans ⟨rfl, rfl, rfl, by simp [World.setCell], fun k _ hn => Below.heap_setCell _ _ _ _ hn⟩
theorem Stp.below {B : Nat} {w w' : World} (h : Stp B w w') (hB : B ≤ w.heap.size) : Below B w w' :=
  ⟨h.os, h.tape, h.output, h.size, fun k hk => h.block k (Nat.lt_of_lt_of_le hk hB) (by omega)⟩
theorem Stp.ofBelow {B : Nat} {w w' : World} (h : Below w.heap.size w w') : Stp B w w' := ⟨h.os, h.tape, h.output, h.size, fun k hk _ => h.block k hk⟩
theorem Stp.cell {B : Nat} {w w' : World} (h : Stp B w w') {p : Addr} (hp : p.block < w.heap.size) (hn : p.block ≠ B) : w'.cell? p = w.cell? p := World.cell?_of_block (w := w) (h.block p.block hp hn)

theorem Stp.frozen {B : Nat} {w w' : World} (h : Stp B w w') {p : Addr} (hp : p.block < w.heap.size) (hn : p.block ≠ B) : w'.frozen? p = w.frozen? p := World.frozen?_of_block (w := w) (h.block p.block hp hn)
theorem Stp.setNew {B : Nat} {a w : World} (h : Stp B a w) {p : Addr} (hp : a.heap.size ≤ p.block) (u : Value) : Stp B a (w.setCell p u) :=
  ⟨h.os, h.tape, h.output, by simpa [World.setCell] using h.size, fun k hk hn => (Below.heap_setCell _ _ _ _ (by omega)).trans (h.block k hk hn)⟩

/-- A reader in block B: its bytes, its place. -/
def Rd (w : World) (B : Nat) (a : Option Addr) (len cap : Nat) : Prop :=
  w.cell? ⟨B, 0, none⟩ = some (.slice a len cap) ∧ (∃ p : Nat, p ≤ len ∧ w.cell? ⟨B, 1, none⟩ = some (.int .i64 p)) ∧ w.frozen? ⟨B, 1, none⟩ = false ∧ B < w.heap.size ∧ len ≤ 9223372036854775807 ∧
  (∀ i : Nat, i < len → ∃ (b off : Nat) (z : Int), a = some ⟨b, off, none⟩ ∧ b < B ∧ w.cell? ⟨b, off + i, none⟩ = some (.int .u8 z) ∧ 0 ≤ z ∧ z ≤ 255)

theorem Rd.same {w w' : World} {B : Nat} {a : Option Addr} {len cap : Nat} (h : Rd w B a len cap) (hb : Below (B + 1) w w') : Rd w' B a len cap := by
  obtain ⟨h1, ⟨p, hp, h2⟩, h3, h4, h5, h6⟩ := h
  refine ⟨by rw [hb.cell (p := ⟨B, 0, none⟩) (Nat.lt_succ_self _)]; exact h1, ⟨p, hp, by rw [hb.cell (p := ⟨B, 1, none⟩) (Nat.lt_succ_self _)]; exact h2⟩, by rw [hb.frozen (p := ⟨B, 1, none⟩) (Nat.lt_succ_self _)]; exact h3, Nat.lt_of_lt_of_le h4 hb.size, h5, fun i hi => ?_⟩
  obtain ⟨b, off, z, ha, hbB, hc, hz⟩ := h6 i hi
  exact ⟨b, off, z, ha, hbB, by rw [hb.cell (p := ⟨b, off + i, none⟩) (by show b < B + 1; omega)]; exact hc, hz⟩
theorem Rd.drewN {w : World} {B : Nat} {a : Option Addr} {len cap : Nat} (h : Rd w B a len cap) (n : Nat) : Rd (w.drewN n) B a len cap := h
theorem Rd.alloc {w : World} {B : Nat} {a : Option Addr} {len cap : Nat} (h : Rd w B a len cap) (o : Obj) : Rd (w.alloc o) B a len cap :=
  h.same ((Below.refl _ _).alloc h.2.2.2.1 o)

theorem Rd.setFar {w : World} {B : Nat} {a : Option Addr} {len cap R o : Nat} (h : Rd w B a len cap) (hR : B < R) (u : Value) : Rd (w.setCell ⟨R, o, none⟩ u) B a len cap :=
  h.same ((Below.refl _ _).setCell (p := ⟨R, o, none⟩) (by show B + 1 ≤ R; omega) u)

theorem Rd.moved {w : World} {B : Nat} {a : Option Addr} {len cap p : Nat} (h : Rd w B a len cap) (hp : p ≤ len) (v : Value) (hv : w.cell? ⟨B, 1, none⟩ = some v) : Rd (w.setCell ⟨B, 1, none⟩ (.int .i64 p)) B a len cap := by
  obtain ⟨h1, _, h3, h4, h5, h6⟩ := h
  have hne : (⟨B, 0, none⟩ : Addr) ≠ ⟨B, 1, none⟩ := by intro e; cases e
  refine ⟨by rw [World.cell?_setCell_other _ _ _ _ hne.symm]; exact h1, ⟨p, hp, ?_⟩, ?_, by simpa [World.setCell] using h4, h5, fun i hi => ?_⟩
  · exact World.cell?_setCell_same _ _ _ hv
  · rw [World.frozen?_setCell]; exact h3
  · obtain ⟨b, off, z, ha, hbB, hc, hz⟩ := h6 i hi
    exact ⟨b, off, z, ha, hbB, by rw [World.cell?_setCell_other _ _ _ _ (by intro e; have := congrArg Addr.block e; simp at this; omega)]; exact hc, hz⟩

set_option maxHeartbeats 400000 in
theorem rd_next (B : Nat) (a : Option Addr) (len cap : Nat) (w : World) (h : Rd w B a len cap) :
    Calls Try.prog 83 #[.pointer (some ⟨B, 0, none⟩)] w fun e w' => ∃ v : Int, e = .returned (.int .i64 v) ∧ 0 ≤ v ∧ v ≤ 255 ∧ Rd w' B a len cap ∧ Stp B w w' := by
  have H : Hid (Rd w B a len cap) := h
  obtain ⟨h1, ⟨p, hp, h2⟩, h3, h4, h5, h6⟩ := h
  by_cases hlt : p < len
  · obtain ⟨b, off, z, rfl, hbB, hc, hz1, hz2⟩ := h6 p hlt
    clear h6
    have hne : b ≠ B := by omega
    go_enter Try.func83, Try.ntmps83
    go_wp2
    go_quiet (fail)
    go_wp2
    go_quiet (fail)
    go_wp2
    go_ret
    have e1 : ((p : Int) + 1) = ((p + 1 : Nat) : Int) := by omega
    rw [e1]
    exact ⟨z, rfl, hz1, hz2, (Rd.moved (H.out.drewN _) (by omega) _ h2).drewN _, (((Stp.refl _ _).drewN _).setCell 1 _).drewN _⟩
  · clear h6
    have hge : (len : Int) ≤ (p : Int) := by omega
    go_enter Try.func83, Try.ntmps83
    go_wp2
    go_quiet (fail)
    go_wp2
    go_ret
    exact ⟨0, rfl, by omega, by omega, H.out.drewN _, (Stp.refl _ _).drewN _⟩

theorem ret_intk {k : IntKind} {a b : Int} (h : a = b) : Ending.returned (.int k a) = .returned (.int k b) := by rw [h]

set_option maxHeartbeats 400000 in
theorem rd_below (B : Nat) (a : Option Addr) (len cap : Nat) (n : Int) (w : World) (h : Rd w B a len cap) (n1 : 1 ≤ n) (n2 : n ≤ 1000000000) :
    Calls Try.prog 56 #[.pointer (some ⟨B, 0, none⟩), .int .i64 n] w fun e w' => ∃ v : Int, e = .returned (.int .i64 v) ∧ 0 ≤ v ∧ v < n ∧ Rd w' B a len cap ∧ Stp B w w' := by
  have H : Hid (Rd w B a len cap) := h
  clear h
  by_cases h1 : n ≤ 1
  · go_enter Try.func56, Try.ntmps56
    go_wp2
    go_ret
    exact ⟨0, rfl, by omega, by omega, H.out, Stp.refl _ _⟩
  by_cases h2 : n ≤ 256
  · go_enter Try.func56, Try.ntmps56
    go_wp2_with fail
    refine (rd_next B a len cap _ H.out).mono ?_
    rintro e w1 ⟨v, rfl, v1, v2, R1, S1⟩
    have RR : Hid (Rd w1 B a len cap) := R1
    clear R1
    go_wp2
    go_ret
    exact ⟨v % n, rfl, Int.emod_nonneg _ (by omega), Int.emod_lt_of_pos _ (by omega), RR.out, S1⟩
  · go_enter Try.func56, Try.ntmps56
    go_wp2_with fail
    refine (rd_next B a len cap _ H.out).mono ?_
    rintro e w1 ⟨v, rfl, v1, v2, R1, S1⟩
    have RR : Hid (Rd w1 B a len cap) := R1
    clear R1
    go_wp2_with fail
    refine (rd_next B a len cap _ RR.out).mono ?_
    rintro e w2 ⟨u, rfl, u1, u2, R2, S2⟩
    have R2' : Hid (Rd w2 B a len cap) := R2
    clear R2
    go_wp2
    go_ret
    exact ⟨(v * 256 + u) % n, rfl, Int.emod_nonneg _ (by omega), Int.emod_lt_of_pos _ (by omega), R2'.out, S1.trans S2⟩


theorem rd_open (a : Option Addr) (len cap : Nat) (w : World) (hm : len ≤ 9223372036854775807)
    (hz : ∀ i : Nat, i < len → ∃ (b off : Nat) (z : Int), a = some ⟨b, off, none⟩ ∧ b < w.heap.size ∧ w.cell? ⟨b, off + i, none⟩ = some (.int .u8 z) ∧ 0 ≤ z ∧ z ≤ 255) :
    Calls Try.prog 39 #[.slice a len cap] w fun e w' => e = .returned (.pointer (some ⟨w.heap.size, 0, none⟩)) ∧ Rd w' w.heap.size a len cap ∧ Below w.heap.size w w' := by
  have HZ : Hid (∀ i : Nat, i < len → ∃ (b off : Nat) (z : Int), a = some ⟨b, off, none⟩ ∧ b < w.heap.size ∧ w.cell? ⟨b, off + i, none⟩ = some (.int .u8 z) ∧ 0 ≤ z ∧ z ≤ 255) := hz
  clear hz
  go_enter Try.func39, Try.ntmps39
  go_wp2
  go_ret
  refine ⟨rfl, ⟨by simp [go_sem], ⟨0, Nat.zero_le _, by simp [go_sem]⟩, by simp [go_sem], by simp, hm, fun i hi => ?_⟩, (Below.refl _ _).alloc (Nat.le_refl _) _⟩
  obtain ⟨b, off, z, ha, hb, hc, h⟩ := HZ.out i hi
  exact ⟨b, off, z, ha, hb, by rw [World.cell?_alloc_lt _ _ _ (by exact hb)]; exact hc, h⟩

def Code (w : World) (a : Option Addr) (len : Nat) : Prop := len ≤ 9223372036854775807 ∧
  ∀ i : Nat, i < len → ∃ (b off : Nat) (z : Int), a = some ⟨b, off, none⟩ ∧ b < w.heap.size ∧ w.cell? ⟨b, off + i, none⟩ = some (.int .u8 z) ∧ 0 ≤ z ∧ z ≤ 255

theorem big_no (a : Option Addr) (len cap : Nat) (w : World) (h : len ≤ 1048576) :
    Calls Try.prog 12 #[.slice a len cap] w fun e w' => e = .returned (.bool false) ∧ w' = w := by
  have h' : ¬ (1048576 < len) := by omega
  go_enter Try.func12, Try.ntmps12
  go_wp2
  go_ret
  exact ⟨by simp; omega, rfl⟩
theorem big_yes (a : Option Addr) (len cap : Nat) (w : World) (h : 1048576 < len) :
    Calls Try.prog 12 #[.slice a len cap] w fun e w' => e = .returned (.bool true) ∧ w' = w := by
  go_enter Try.func12, Try.ntmps12
  go_wp2
  go_ret
  exact ⟨by simp; omega, rfl⟩

/-- Strings in a new row. -/
theorem strs_cell (w : World) (ys : List ByteArray) (i : Nat) (hi : i < ys.length) : (w.alloc (.cells (ys.map Value.string).toArray 9)).cell? ⟨w.heap.size, i, none⟩ = some (.string ys[i]) := by
  rw [World.cell?_alloc_mark]
  simp [List.getElem?_eq_getElem hi]
def six : List ByteArray := [⟨#[]⟩, ⟨#[97]⟩, ⟨#[98]⟩, ⟨#[97, 98]⟩, ⟨#[97, 98, 99]⟩, ⟨#[120, 32, 121]⟩]
theorem six_le : ∀ y ∈ six, y.size ≤ 3 := by
  intro y hy
  simp only [six, List.mem_cons, List.not_mem_nil, or_false] at hy
  rcases hy with e | e | e | e | e | e <;> subst e <;> decide
set_option maxHeartbeats 1000000 in
theorem rd_text (B : Nat) (a : Option Addr) (len cap : Nat) (w : World) (h : Rd w B a len cap) :
    Calls Try.prog 61 #[.pointer (some ⟨B, 0, none⟩)] w fun e w' => ∃ y : ByteArray, e = .returned (.string y) ∧ y.size ≤ 3 ∧ Rd w' B a len cap ∧ Stp B w w' := by
  have H : Hid (Rd w B a len cap) := h
  have hBQ : B < w.heap.size := h.2.2.2.1
  clear h
  go_enter Try.func61, Try.ntmps61
  go_wp2_with fail
  refine (rd_below B a len cap 6 _ (H.out.alloc _) (by omega) (by omega)).mono ?_
  rintro e w1 ⟨v, rfl, v1, v2, R1, S1⟩
  obtain ⟨n, rfl⟩ := Int.eq_ofNat_of_zero_le v1
  have hn : n < 6 := by omega
  have hn' : (n : Int) < 6 := by omega
  obtain ⟨y, hy⟩ : ∃ y, y = six[n]'(by simpa [six] using hn) := ⟨_, rfl⟩
  have HY : Hid (y.size ≤ 3) := by show y.size ≤ 3; rw [hy]; exact six_le _ (List.getElem_mem _)
  have hc : w1.cell? ⟨w.heap.size, n, none⟩ = some (.string y) := by
    rw [S1.cell (p := ⟨w.heap.size, n, none⟩) (by simp) (by simp; omega), hy]
    exact strs_cell w six n (by simpa [six] using hn)
  have RR : Hid (Rd w1 B a len cap) := R1
  have SS : Hid (Stp B w w1) := ((Stp.refl B w).alloc _).trans S1
  clear R1 S1 hy
  go_wp2
  go_ret
  exact ⟨y, rfl, HY.out, RR.out, SS.out⟩

theorem rd_once (B : Nat) (a : Option Addr) (len cap : Nat) (n : Int) (w : World) (h : Rd w B a len cap) (n1 : 1 ≤ n) (n2 : n ≤ 1000000000) :
    Calls Try.prog 60 #[.pointer (some ⟨B, 0, none⟩), .int .i64 n] w fun e w' => ∃ b : Bool, e = .returned (.bool b) ∧ Rd w' B a len cap ∧ Stp B w w' := by
  have H : Hid (Rd w B a len cap) := h
  clear h
  go_enter Try.func60, Try.ntmps60
  go_wp2_with fail
  refine (rd_below B a len cap n _ H.out n1 n2).mono ?_
  rintro e w1 ⟨v, rfl, v1, v2, R1, S1⟩
  have RR : Hid (Rd w1 B a len cap) := R1
  clear R1
  go_wp2
  go_ret
  exact ⟨_, rfl, RR.out, S1⟩

set_option maxHeartbeats 400000 in
theorem rd_word (B : Nat) (a : Option Addr) (len cap : Nat) (w : World) (h : Rd w B a len cap) :
    Calls Try.prog 94 #[.pointer (some ⟨B, 0, none⟩)] w fun e w' => ∃ v : Int, e = .returned (.int .u64 v) ∧ (Lit.int .u64 v).wf = true ∧ Rd w' B a len cap ∧ Stp B w w' := by
  have H : Hid (Rd w B a len cap) := h
  clear h
  go_enter Try.func94, Try.ntmps94
  go_wp2
  go_loopw [3, 4] (fun x i wr => ∃ (v : Int) (k : Nat), k ≤ 8 ∧ i = .int .i64 k ∧ x = .int .u64 v ∧ Hid ((Lit.int .u64 v).wf = true) ∧ Hid (Rd wr B a len cap) ∧ Hid (Stp B w wr)) (fun _ i _ => 8 - (intOf i).toNat)
  case atStart => exact ⟨0, 0, by omega, rfl, rfl, (by decide : (Lit.int .u64 0).wf = true), H.out, Stp.refl _ _⟩
  case round =>
    obtain ⟨v, k, hk, rfl, rfl, hv, hR, hS⟩ := hrel
    by_cases hlt : k < 8
    · go_wp2_with fail
      refine (rd_next B a len cap _ hR.out).mono ?_
      rintro e w1 ⟨u, rfl, u1, u2, R1, S1⟩
      have RR : Hid (Rd w1 B a len cap) := R1
      clear R1
      go_wp2
      go_roundw
      case rel => exact ⟨_, k + 1, by omega, by go_num, rfl, wf_bits _ _ _ _, RR, hS.out.trans S1⟩
      case measure => simp [intOf]; omega
    · go_wp2
      go_ret
      exact ⟨v, rfl, hv.out, hR.out, hS.out⟩

theorem row_cell (w : World) (zs : List Int) (t : TypeId) (i : Nat) (hi : i < zs.length) : ∃ z : Int, (w.alloc (.cells (zs.map (Value.int .i64)).toArray t)).cell? ⟨w.heap.size, i, none⟩ = some (.int .i64 z) := by
  refine ⟨zs[i], ?_⟩
  have e : (w.alloc (.cells (zs.map (Value.int .i64)).toArray t)).heap[w.heap.size]? = some (.cells (zs.map (Value.int .i64)).toArray t) := by
    show (w.heap.push _)[w.heap.size]? = _
    simp
  simp only [World.cell?]
  rw [e]
  simp [hi]

set_option maxHeartbeats 400000 in
theorem rd_near (B : Nat) (a : Option Addr) (len cap : Nat) (lo hi : Int) (w : World) (h : Rd w B a len cap) (l1 : -1000000000000000 ≤ lo) (l2 : lo ≤ hi) (l3 : hi ≤ 1000000000000000) :
    Calls Try.prog 84 #[.pointer (some ⟨B, 0, none⟩), .int .i64 lo, .int .i64 hi] w fun e w' => ∃ v : Int, e = .returned (.int .i64 v) ∧ Rd w' B a len cap ∧ Stp B w w' := by
  have H : Hid (Rd w B a len cap) := h
  clear h
  go_enter Try.func84, Try.ntmps84
  go_wp2_with fail
  refine (rd_below B a len cap 8 _ H.out (by omega) (by omega)).mono ?_
  rintro e w1 ⟨v, rfl, v1, v2, R1, S1⟩
  have RR : Hid (Rd w1 B a len cap) := R1
  clear R1
  by_cases h0 : v = 0
  · subst h0
    go_wp2
    go_ret
    exact ⟨_, rfl, RR.out, S1⟩
  by_cases h1 : v = 1
  · subst h1
    go_wp2
    go_ret
    exact ⟨_, rfl, RR.out, S1⟩
  have b0 : (v == 0) = false := by simp [h0]
  have b1 : (v == 1) = false := by simp [h1]
  clear h0 h1
  go_wp2_with fail
  refine (rd_word B a len cap _ RR.out).mono ?_
  rintro e w2 ⟨u, rfl, hu, R2, S2⟩
  have R2' : Hid (Rd w2 B a len cap) := R2
  have HU : Hid ((Lit.int .u64 u).wf = true) := hu
  clear R2 hu
  go_wp2
  go_ret
  exact ⟨_, rfl, R2'.out, S1.trans S2⟩

set_option maxHeartbeats 400000 in
theorem rd_off (B : Nat) (a : Option Addr) (len cap : Nat) (lo hi : Int) (w : World) (h : Rd w B a len cap) (l1 : -1000000000000000 ≤ lo) (l2 : lo ≤ hi) (l3 : hi ≤ 1000000000000000) :
    Calls Try.prog 57 #[.pointer (some ⟨B, 0, none⟩), .int .i64 lo, .int .i64 hi] w fun e w' => ∃ v : Int, e = .returned (.int .i64 v) ∧ Rd w' B a len cap ∧ Stp B w w' := by
  have H : Hid (Rd w B a len cap) := h
  clear h
  go_enter Try.func57, Try.ntmps57
  go_wp2_with fail
  refine (rd_once B a len cap 24 _ H.out (by omega) (by omega)).mono ?_
  rintro e w1 ⟨b, rfl, R1, S1⟩
  have RR : Hid (Rd w1 B a len cap) := R1
  clear R1
  cases b with
  | false =>
    go_wp2_with fail
    refine (rd_near B a len cap lo hi _ RR.out l1 l2 l3).mono ?_
    rintro e w2 ⟨v, rfl, R2, S2⟩
    have R2' : Hid (Rd w2 B a len cap) := R2
    clear R2
    go_wp2
    go_ret
    exact ⟨_, rfl, R2'.out, S1.trans S2⟩
  | true =>
    go_wp2_with fail
    refine (rd_below B a len cap 4 _ (RR.out.alloc _) (by omega) (by omega)).mono ?_
    rintro e w2 ⟨v, rfl, v1, v2, R2, S2⟩
    obtain ⟨k, rfl⟩ := Int.eq_ofNat_of_zero_le v1
    obtain ⟨z, hz⟩ := row_cell w1 [lo - 1, hi + 1, -9223372036854775808, 9223372036854775807] 2 k (by simp; omega)
    have hB : w1.heap.size ≠ B := by have := RR.out.2.2.2.1; omega
    have hc : w2.cell? ⟨w1.heap.size, k, none⟩ = some (.int .i64 z) := by
      rw [S2.cell (p := ⟨w1.heap.size, k, none⟩) (by simp) hB]
      exact hz
    have SS : Hid (Stp B w w2) := S1.trans (((Stp.refl B w1).alloc _).trans S2)
    have R2' : Hid (Rd w2 B a len cap) := R2
    clear R2 hz S2 S1 hB
    go_wp2
    go_ret
    exact ⟨_, rfl, R2'.out, SS.out⟩


set_option maxHeartbeats 1000000 in
theorem rd_size (B : Nat) (a : Option Addr) (len cap : Nat) (w : World) (h : Rd w B a len cap) :
    Calls Try.prog 75 #[.pointer (some ⟨B, 0, none⟩), .int .i64 3, .int .i64 10] w fun e w' => ∃ v : Int, e = .returned (.int .i64 v) ∧ 1 ≤ v ∧ v ≤ 10 ∧ Rd w' B a len cap ∧ Stp B w w' := by
  have H : Hid (Rd w B a len cap) := h
  obtain ⟨h1, ⟨p, hp, h2⟩, h3, h4, h5, h6⟩ := h
  clear h6 h2 h3 hp
  have hq0 : (0 : Int) ≤ (len : Int) / 3 := by omega
  have hq1 : (len : Int) / 3 ≤ 9223372036854775807 / 3 := by omega
  by_cases hb : (10 : Int) < 1 + (len : Int) / 3
  · go_enter Try.func75, Try.ntmps75
    go_wp2_with fail
    refine (rd_below B a len cap 10 _ H.out (by omega) (by omega)).mono ?_
    rintro e w1 ⟨v, rfl, v1, v2, R1, S1⟩
    have RR : Hid (Rd w1 B a len cap) := R1
    clear R1
    go_wp2
    go_ret
    exact ⟨1 + v, rfl, by omega, by omega, RR.out, S1⟩
  · have hb' : decide ((10 : Int) < 1 + (len : Int) / 3) = false := decide_eq_false hb
    go_enter Try.func75, Try.ntmps75
    go_wp2_with fail
    refine (rd_below B a len cap (1 + (len : Int) / 3) _ H.out (by omega) (by omega)).mono ?_
    rintro e w1 ⟨v, rfl, v1, v2, R1, S1⟩
    have RR : Hid (Rd w1 B a len cap) := R1
    clear R1
    go_wp2
    go_ret
    exact ⟨1 + v, rfl, by omega, by omega, RR.out, S1⟩

end Go.Proofs.Ytcalgmhpagpnnaa

/- The reader draws an op on files. Conditions: the reader lies in memory as l1Open lays it. -/
namespace Go.Proofs.Ytcalgmhpagpnnaa
open Go.RowKit
set_option maxRecDepth 8000

/-- Four cells of one's own. -/
def Cel4 (w : World) (R : Nat) (v0 v1 v2 v3 : Value) : Prop :=
  (w.cell? ⟨R, 0, none⟩ = some v0 ∧ w.cell? ⟨R, 1, none⟩ = some v1 ∧ w.cell? ⟨R, 2, none⟩ = some v2 ∧ w.cell? ⟨R, 3, none⟩ = some v3) ∧ (∀ o, w.frozen? ⟨R, o, none⟩ = false) ∧ R < w.heap.size
theorem Cel4.new (w : World) (v0 v1 v2 v3 : Value) (t : TypeId) : Cel4 (w.alloc (.cells #[v0, v1, v2, v3] t)) w.heap.size v0 v1 v2 v3 :=
  ⟨⟨by simp [go_sem], by simp [go_sem], by simp [go_sem], by simp [go_sem]⟩, fun o => by simp [go_sem], by simp⟩
theorem Cel4.stp {w w' : World} {R B : Nat} {v0 v1 v2 v3 : Value} (h : Cel4 w R v0 v1 v2 v3) (hb : Stp B w w') (hR : R ≠ B) : Cel4 w' R v0 v1 v2 v3 := by
  obtain ⟨⟨h0, h1, h2, h3⟩, hf, hz⟩ := h
  exact ⟨⟨(hb.cell (p := ⟨R, 0, none⟩) hz hR).trans h0, (hb.cell (p := ⟨R, 1, none⟩) hz hR).trans h1, (hb.cell (p := ⟨R, 2, none⟩) hz hR).trans h2, (hb.cell (p := ⟨R, 3, none⟩) hz hR).trans h3⟩, fun o => (hb.frozen (p := ⟨R, o, none⟩) hz hR).trans (hf o), Nat.lt_of_lt_of_le hz hb.size⟩
theorem strs_at {w w1 : World} {B : Nat} (ys : List ByteArray) (S1 : Stp B (w.alloc (.cells (ys.map Value.string).toArray 9)) w1) (hB : B < w.heap.size) (i : Nat) (hi : i < ys.length) : w1.cell? ⟨w.heap.size, i, none⟩ = some (.string ys[i]) := by
  rw [S1.cell (p := ⟨w.heap.size, i, none⟩) (by simp) (by simp; omega)]
  exact strs_cell w ys i hi
def names4 : List ByteArray := [⟨#[108, 111, 103]⟩, ⟨#[98, 97, 115, 101]⟩, ⟨#[98, 97, 115, 101, 46, 110, 101, 119]⟩, ⟨#[98]⟩]
def names3 : List ByteArray := [⟨#[108, 111, 103]⟩, ⟨#[98, 97, 115, 101]⟩, ⟨#[99]⟩]

set_option maxHeartbeats 4000000 in
theorem rd_dop (B : Nat) (a : Option Addr) (len cap : Nat) (w : World) (h : Rd w B a len cap) :
    Calls Try.prog 55 #[.pointer (some ⟨B, 0, none⟩)] w fun e w' => ∃ o : Dp, e = .returned (.agg #[.int .i64 o.kind, .string o.name, .string o.dst, .string o.data]) ∧ o.data.size ≤ 3 ∧ Rd w' B a len cap ∧ Stp B w w' := by
  have hBQ : B < w.heap.size := h.2.2.2.1
  obtain ⟨W0, hW0, R0, S0, P0, hs0⟩ : ∃ W0, W0 = w.alloc (.cells #[.int .i64 0, .string ⟨#[]⟩, .string ⟨#[]⟩, .string ⟨#[]⟩] 36) ∧ Hid (Rd W0 B a len cap) ∧ Hid (Stp B w W0) ∧ Hid (Cel4 W0 w.heap.size (.int .i64 0) (.string ⟨#[]⟩) (.string ⟨#[]⟩) (.string ⟨#[]⟩)) ∧ Hid (W0.heap.size = w.heap.size + 1) :=
    ⟨_, rfl, h.alloc _, (Stp.refl _ _).alloc _, Cel4.new _ _ _ _ _ _, (by simp : (w.alloc (.cells #[.int .i64 0, .string ⟨#[]⟩, .string ⟨#[]⟩, .string ⟨#[]⟩] 36)).heap.size = w.heap.size + 1)⟩
  have HW0 : Hid (W0 = _) := hW0
  clear h hW0
  go_enter Try.func55, Try.ntmps55
  go_wp2_with fail
  rw [← HW0.out]
  refine (rd_below B a len cap 4 _ (R0.out.alloc _) (by omega) (by omega)).mono ?_
  rintro e w1 ⟨v, rfl, v1, v2, R1, S1⟩
  obtain ⟨n, rfl⟩ := Int.eq_ofNat_of_zero_le v1
  have hn : n < 4 := by omega
  have hn' : (n : Int) < 4 := by omega
  obtain ⟨y, hy⟩ : ∃ y, y = names4[n]'(by simpa [names4] using hn) := ⟨_, rfl⟩
  have hc : w1.cell? ⟨w.heap.size + 1, n, none⟩ = some (.string y) := by
    rw [hy, ← hs0.out]
    exact strs_at names4 S1 (by rw [hs0.out]; omega) n (by simpa [names4] using hn)
  have SA : Stp B W0 w1 := ((Stp.refl B W0).alloc _).trans S1
  have X1 : Hid (Rd w1 B a len cap ∧ Stp B w w1 ∧ Cel4 w1 w.heap.size (.int .i64 0) (.string ⟨#[]⟩) (.string ⟨#[]⟩) (.string ⟨#[]⟩)) := ⟨R1, S0.out.trans SA, P0.out.stp SA (by omega)⟩
  clear R1 S1 hy SA R0 S0 P0 HW0 hs0
  go_wp2_with fail
  refine (rd_below B a len cap 5 _ X1.out.1 (by omega) (by omega)).mono ?_
  rintro e w2 ⟨k, rfl, k1, k2, R2, S2⟩
  have X2 : Hid (Rd w2 B a len cap ∧ Stp B w w2 ∧ Cel4 w2 w.heap.size (.int .i64 0) (.string ⟨#[]⟩) (.string ⟨#[]⟩) (.string ⟨#[]⟩)) := ⟨R2, X1.out.2.1.trans S2, X1.out.2.2.stp S2 (by omega)⟩
  clear hc R2 S2 X1
  by_cases h0 : k = 0
  · subst h0
    go_wp2_with fail
    refine (rd_below B a len cap 3 _ (X2.out.1.alloc _) (by omega) (by omega)).mono ?_
    rintro e w3 ⟨v, rfl, v3, v4, R3, S3⟩
    obtain ⟨m, rfl⟩ := Int.eq_ofNat_of_zero_le v3
    have hm : m < 3 := by omega
    have hm' : (m : Int) < 3 := by omega
    obtain ⟨z, hz⟩ : ∃ z, z = names3[m]'(by simpa [names3] using hm) := ⟨_, rfl⟩
    have hB2 := X2.out.1.2.2.2.1
    have hc : w3.cell? ⟨w2.heap.size, m, none⟩ = some (.string z) := by
      rw [hz]
      exact strs_at names3 S3 hB2 m (by simpa [names3] using hm)
    have SA : Stp B w2 w3 := ((Stp.refl B w2).alloc _).trans S3
    have X3 : Hid (Rd w3 B a len cap ∧ Stp B w w3) := ⟨R3, X2.out.2.1.trans SA⟩
    obtain ⟨⟨c0, c1, c2, c3⟩, cf, cz⟩ := X2.out.2.2.stp SA (by omega)
    clear R3 S3 hz SA X2
    go_wp2
    refine bodyPost_ret (v := .agg #[.int .i64 2, .string y, .string z, .string ⟨#[]⟩]) (by simp [results, Try.results55, go_sem, c0, c1, c2, c3]) rfl ?_
    exact ⟨⟨2, y, z, ⟨#[]⟩⟩, rfl, (by show (⟨#[]⟩ : ByteArray).size ≤ 3; decide), (((X3.out.1.setFar hBQ _).setFar hBQ _).setFar hBQ _).setFar hBQ _, (((X3.out.2.setNew (Nat.le_refl _) _).setNew (Nat.le_refl _) _).setNew (Nat.le_refl _) _).setNew (Nat.le_refl _) _⟩
  have b0 : (k == 0) = false := by simp [h0]
  by_cases h1 : k = 1
  · subst h1
    obtain ⟨⟨c0, c1, c2, c3⟩, cf, cz⟩ := X2.out.2.2
    go_wp2
    refine bodyPost_ret (v := .agg #[.int .i64 3, .string y, .string ⟨#[]⟩, .string ⟨#[]⟩]) (by simp [results, Try.results55, go_sem, c0, c1, c2, c3]) rfl ?_
    exact ⟨⟨3, y, ⟨#[]⟩, ⟨#[]⟩⟩, rfl, (by show (⟨#[]⟩ : ByteArray).size ≤ 3; decide), (((X2.out.1.setFar hBQ _).setFar hBQ _).setFar hBQ _).setFar hBQ _, (((X2.out.2.1.setNew (Nat.le_refl _) _).setNew (Nat.le_refl _) _).setNew (Nat.le_refl _) _).setNew (Nat.le_refl _) _⟩
  have b1 : (k == 1) = false := by simp [h1]
  clear h0 h1
  go_wp2_with fail
  refine (rd_text B a len cap _ X2.out.1).mono ?_
  rintro e w3 ⟨z, rfl, hz, R3, S3⟩
  have X3 : Hid (Rd w3 B a len cap ∧ Stp B w w3 ∧ z.size ≤ 3) := ⟨R3, X2.out.2.1.trans S3, hz⟩
  obtain ⟨⟨c0, c1, c2, c3⟩, cf, cz⟩ := X2.out.2.2.stp S3 (by omega)
  clear R3 S3 X2 hz
  go_wp2
  refine bodyPost_ret (v := .agg #[.int .i64 1, .string y, .string ⟨#[]⟩, .string z]) (by simp [results, Try.results55, go_sem, c0, c1, c2, c3]) rfl ?_
  exact ⟨⟨1, y, ⟨#[]⟩, z⟩, rfl, X3.out.2.2, (((X3.out.1.setFar hBQ _).setFar hBQ _).setFar hBQ _).setFar hBQ _, (((X3.out.2.1.setNew (Nat.le_refl _) _).setNew (Nat.le_refl _) _).setNew (Nat.le_refl _) _).setNew (Nat.le_refl _) _⟩
end Go.Proofs.Ytcalgmhpagpnnaa

/- What the reader of disks wants: a disk of its own beside the reader. No conditions. -/
namespace Go.Proofs.Ytcalgmhpagpnnaa
open Go.RowKit
set_option maxRecDepth 8000

theorem Box3.stp {w w' : World} {R B : Nat} {v0 v1 v2 : Value} (h : Box3 w R v0 v1 v2) (hb : Stp B w w') (hR : R ≠ B) : Box3 w' R v0 v1 v2 := by
  obtain ⟨⟨h0, h1, h2⟩, hf, hz⟩ := h
  exact ⟨⟨(hb.cell (p := ⟨R, 0, none⟩) hz hR).trans h0, (hb.cell (p := ⟨R, 1, none⟩) hz hR).trans h1, (hb.cell (p := ⟨R, 2, none⟩) hz hR).trans h2⟩, fun o => (hb.frozen (p := ⟨R, o, none⟩) hz hR).trans (hf o), Nat.lt_of_lt_of_le hz hb.size⟩
theorem SG.mono {V : World} {lo hi hi' P : Nat} {v1 v2 v3 : Value} {L1 L2 : List Fl} {L3 : List Dp} (h : SG V lo hi P v1 v2 v3 L1 L2 L3) (hh : hi ≤ hi') : SG V lo hi' P v1 v2 v3 L1 L2 L3 :=
  ⟨h.box, h.own, fun g hg => by have := h.rows g hg; omega, h.p1, by have := h.p2; omega⟩
theorem SG.stp {V V' : World} {lo hi P B : Nat} {v1 v2 v3 : Value} {L1 L2 : List Fl} {L3 : List Dp} (h : SG V lo hi P v1 v2 v3 L1 L2 L3) (hs : Stp B V V') (hB : B < lo) : SG V' lo hi P v1 v2 v3 L1 L2 L3 :=
  ⟨h.box.stp hs (by have := h.p1; omega), ⟨h.own.live.same fun g hg => hs.block g (World.ownsRow.lt h.own.live g hg).2 (by have := h.rows g (Or.inl hg); omega), h.own.safe.same fun g hg => hs.block g (World.ownsRow.lt h.own.safe g hg).2 (by have := h.rows g (Or.inr (Or.inl hg)); omega), h.own.ops.same fun g hg => hs.block g (World.ownsRow.lt h.own.ops g hg).2 (by have := h.rows g (Or.inr (Or.inr hg)); omega), h.own.ne⟩, h.rows, h.p1, h.p2⟩

/-- The reader, the answer's box and a disk in its box. -/
structure DS (w : World) (B : Nat) (a : Option Addr) (len cap hi : Nat) (v1 v2 v3 : Value) (L1 L2 : List Fl) (L3 : List Dp) (V : World) : Prop where
  rd : Rd V B a len cap
  st : Stp B w V
  r0 : Box3 V w.heap.size (.slice none 0 0) (.slice none 0 0) (.slice none 0 0)
  sg : SG V (w.heap.size + 1) hi (w.heap.size + 1) v1 v2 v3 L1 L2 L3
  hB : B < w.heap.size
theorem DS.low {w V V' : World} {B len cap hi C : Nat} {a : Option Addr} {v1 v2 v3 : Value} {L1 L2 : List Fl} {L3 : List Dp} (h : DS w B a len cap hi v1 v2 v3 L1 L2 L3 V) (hb : Below C V V') (hC : hi ≤ C) : DS w B a len cap hi v1 v2 v3 L1 L2 L3 V' := by
  have q1 := h.sg.p2
  have q2 := h.hB
  exact ⟨h.rd.same (hb.mono (by omega)), ⟨hb.os.trans h.st.os, hb.tape.trans h.st.tape, hb.output.trans h.st.output, Nat.le_trans h.st.size hb.size, fun k hk hn => (hb.block k (by omega)).trans (h.st.block k hk hn)⟩, h.r0.kept hb (by omega), h.sg.low hb hC, h.hB⟩
theorem DS.step {w V V' : World} {B len cap hi : Nat} {a : Option Addr} {v1 v2 v3 : Value} {L1 L2 : List Fl} {L3 : List Dp} (h : DS w B a len cap hi v1 v2 v3 L1 L2 L3 V) (r : Rd V' B a len cap) (s : Stp B V V') : DS w B a len cap hi v1 v2 v3 L1 L2 L3 V' := by
  have q2 := h.hB
  exact ⟨r, h.st.trans s, h.r0.stp s (by omega), h.sg.stp s (by omega), h.hB⟩
theorem DS.up {w V : World} {B len cap hi hi' : Nat} {a : Option Addr} {v1 v2 v3 : Value} {L1 L2 : List Fl} {L3 : List Dp} (h : DS w B a len cap hi v1 v2 v3 L1 L2 L3 V) (hh : hi ≤ hi') : DS w B a len cap hi' v1 v2 v3 L1 L2 L3 V :=
  ⟨h.rd, h.st, h.r0, h.sg.mono hh, h.hB⟩
/-- Three cells are written. -/
abbrev set3 (V : World) (P : Nat) (u1 u2 u3 : Value) : World := ((V.setCell ⟨P, 0, none⟩ u1).setCell ⟨P, 1, none⟩ u2).setCell ⟨P, 2, none⟩ u3
theorem set3_size (V : World) (P : Nat) (u1 u2 u3 : Value) : (set3 V P u1 u2 u3).heap.size = V.heap.size := by simp [set3, World.setCell]
theorem DS.put {w V V' : World} {B len cap hi C : Nat} {a : Option Addr} {v1 v2 v3 u1 u2 u3 : Value} {L1 L2 M1 M2 : List Fl} {L3 M3 : List Dp} (h : DS w B a len cap hi v1 v2 v3 L1 L2 L3 V) (hb : Below hi V V') (O : Own3 V' C u1 u2 u3 M1 M2 M3) (hC : hi ≤ C) :
    DS w B a len cap V'.heap.size u1 u2 u3 M1 M2 M3 (set3 V' (w.heap.size + 1) u1 u2 u3) := by
  have h' := h.low hb (Nat.le_refl _)
  have q1 := h.sg.p2
  have q2 := h.hB
  have S := (doneSet (Y := fun _ => True) (lo := w.heap.size + 1) trivial (fun _ _ _ _ => trivial) O h'.sg.box (Nat.le_refl _) (by omega)).2
  have e : (set3 V' (w.heap.size + 1) u1 u2 u3).heap.size = V'.heap.size := set3_size _ _ _ _ _
  refine ⟨((h'.rd.setFar (by omega) _).setFar (by omega) _).setFar (by omega) _, ((h'.st.setNew (by show _ ≤ w.heap.size + 1; omega) _).setNew (by show _ ≤ w.heap.size + 1; omega) _).setNew (by show _ ≤ w.heap.size + 1; omega) _, ((h'.r0.far (by omega) _ _).far (by omega) _ _).far (by omega) _ _, ?_, h.hB⟩
  have S' : SG (set3 V' (w.heap.size + 1) u1 u2 u3) (w.heap.size + 1) (set3 V' (w.heap.size + 1) u1 u2 u3).heap.size (w.heap.size + 1) u1 u2 u3 M1 M2 M3 := S
  rw [e] at S'
  exact S'
/-- Of a right disk the next calls may be asked. -/
def OkS (L1 L2 : List Fl) (L3 : List Dp) : Prop := diskB L1 L2 L3 = true ∧ ∀ o ∈ L3, o.data.size ≤ 3
theorem DS.dk {w V : World} {B len cap hi : Nat} {a : Option Addr} {q q' q'' : Option Addr} {n m r c c' c'' : Nat} {L1 L2 : List Fl} {L3 : List Dp} (h : DS w B a len cap hi (.slice q n c) (.slice q' m c') (.slice q'' r c'') L1 L2 L3 V) (ho : OkS L1 L2 L3) : DkL V q n q' m q'' r L1 L2 L3 :=
  own_dkL h.sg.own ho.1 (fun o hh => by have := ho.2 o hh; omega)
theorem OkS.nil : OkS [] [] [] := ⟨by decide, fun o h => by cases h⟩
theorem OkS.done {L1 L2 : List Fl} {L3 : List Dp} {o : Dp} (h : OkS L1 L2 L3) (hc : doC L1 L2 L3 o = 0) (ho : o.data.size ≤ 3) : OkS (doLv L1 L2 L3 o) (doSf L1 L2 L3 o) (doOs L1 L2 L3 o) := by
  refine ⟨next_ok hc, fun p hp => ?_⟩
  simp only [doOs, hc] at hp
  rcases List.mem_append.1 hp with k | k
  · exact h.2 p k
  · rw [List.mem_singleton.1 k]; exact ho
theorem OkS.synced {L1 L2 : List Fl} {L3 : List Dp} (h : OkS L1 L2 L3) : OkS L1 L1 [] := by
  refine ⟨?_, fun o h => by cases h⟩
  have := h.1
  simp only [diskB, Bool.and_eq_true, decide_eq_true_eq] at this
  simp [diskB, runF, this.1.1.1]

theorem specDoL {V : World} {q q' q'' : Option Addr} {n m r : Nat} (c c' c'' : Nat) {L1 L2 : List Fl} {L3 : List Dp} (h : DkL V q n q' m q'' r L1 L2 L3) (o : Dp) (ho : o.data.size ≤ 1048576) :
    Calls Try.prog 21 #[.agg #[.slice q n c, .slice q' m c', .slice q'' r c''], .agg #[.int .i64 o.kind, .string o.name, .string o.dst, .string o.data]] V fun e w' => ActOut V (doC L1 L2 L3 o) (doLv L1 L2 L3 o) (doSf L1 L2 L3 o) (doOs L1 L2 L3 o) e w' := by
  obtain ⟨F, G, O, hd, rfl, rfl, rfl⟩ := h
  exact act_open (specDoDisk q q' q'' n m r c c' c'' F G O o V hd ho)
theorem specSyncL {V : World} {q q' q'' : Option Addr} {n m r : Nat} (c c' c'' : Nat) {L1 L2 : List Fl} {L3 : List Dp} (h : DkL V q n q' m q'' r L1 L2 L3) :
    Calls Try.prog 33 #[.agg #[.slice q n c, .slice q' m c', .slice q'' r c'']] V fun e w' => CopyOut V (sy1 (diskB L1 L2 L3) L1) (sy1 (diskB L1 L2 L3) L1) [] e w' := by
  obtain ⟨F, G, O, hd, rfl, rfl, rfl⟩ := h
  exact copy_o (specSyncO q q' q'' n m r c c' c'' F G O V hd)
theorem implSyncL {V : World} {q q' q'' : Option Addr} {n m r : Nat} (c c' c'' : Nat) {L1 L2 : List Fl} {L3 : List Dp} (h : DkL V q n q' m q'' r L1 L2 L3) :
    Calls Try.prog 17 #[.agg #[.slice q n c, .slice q' m c', .slice q'' r c'']] V fun e w' => CopyOut V (sy1 (diskB L1 L2 L3) L1) (sy1 (diskB L1 L2 L3) L1) [] e w' := by
  obtain ⟨F, G, O, hd, rfl, rfl, rfl⟩ := h
  exact copy_o (implSyncO q q' q'' n m r c c' c'' F G O V hd)

theorem FlL.blk {w : World} {B : Nat} {q : Option Addr} {n c : Nat} {L : List Fl} (h : FlL w B (.slice q n c) L) : ∀ x, q = some x → B ≤ x.block := by
  rintro x rfl
  rcases h.2 with ⟨h0, _⟩ | ⟨g, cap, cur, hv, hg, _⟩
  · cases h0
  · cases hv; exact hg
theorem DpL.blk {w : World} {B : Nat} {q : Option Addr} {n c : Nat} {L : List Dp} (h : DpL w B (.slice q n c) L) : ∀ x, q = some x → B ≤ x.block := by
  rintro x rfl
  rcases h.2 with ⟨h0, _⟩ | ⟨g, cap, cur, hv, hg, _⟩
  · cases h0
  · cases hv; exact hg
/-- The lists lie behind a mark. -/
def Beh (lo : Nat) (a1 a2 a3 : Option Addr) : Prop := ∀ x, (a1 = some x ∨ a2 = some x ∨ a3 = some x) → lo < x.block
theorem Own3.beh {w : World} {B lo : Nat} {q q' q'' : Option Addr} {n m r c c' c'' : Nat} {L1 L2 : List Fl} {L3 : List Dp} (h1 : FlL w B (.slice q n c) L1) (h2 : FlL w B (.slice q' m c') L2) (h3 : DpL w B (.slice q'' r c'') L3) (hl : lo < B) : Beh lo q q' q'' := by
  intro x hx
  rcases hx with k | k | k
  · have := h1.blk x k; omega
  · have := h2.blk x k; omega
  · have := h3.blk x k; omega
theorem Beh.mono {lo lo' : Nat} {a1 a2 a3 : Option Addr} (h : Beh lo a1 a2 a3) (hl : lo' ≤ lo) : Beh lo' a1 a2 a3 := fun x hx => by have := h x hx; omega
theorem Fls.blocks {w w' : World} {a : Option Addr} {n : Nat} {F : Nat → Fl} (h : Fls w a n F) (hs : w.heap.size ≤ w'.heap.size) (hc : ∀ x, a = some x → ∀ o, w'.cell? ⟨x.block, o, none⟩ = w.cell? ⟨x.block, o, none⟩) : Fls w' a n F := by
  refine ⟨h.1, ?_⟩
  rcases h.2 with h0 | ⟨b, o, ha, hb, hA⟩
  · exact Or.inl h0
  · exact Or.inr ⟨b, o, ha, Nat.lt_of_lt_of_le hb hs, fun i hi => (hA i hi).of_cells (fun q => hc _ ha q)⟩
theorem Dps.blocks {w w' : World} {a : Option Addr} {n : Nat} {F : Nat → Dp} (h : Dps w a n F) (hs : w.heap.size ≤ w'.heap.size) (hc : ∀ x, a = some x → ∀ o, w'.cell? ⟨x.block, o, none⟩ = w.cell? ⟨x.block, o, none⟩) : Dps w' a n F := by
  refine ⟨h.1, ?_⟩
  rcases h.2 with h0 | ⟨b, o, ha, hb, hA⟩
  · exact Or.inl h0
  · exact Or.inr ⟨b, o, ha, Nat.lt_of_lt_of_le hb hs, fun i hi => (hA i hi).of_cells (fun q => hc _ ha q)⟩
/-- What is written at or ahead of the mark does not touch the lists. -/
theorem DkL.set {V : World} {q q' q'' : Option Addr} {n m r lo : Nat} {L1 L2 : List Fl} {L3 : List Dp} (h : DkL V q n q' m q'' r L1 L2 L3) (hb : Beh lo q q' q'') {P : Nat} (hP : P ≤ lo) (i : Nat) (u : Value) : DkL (V.setCell ⟨P, i, none⟩ u) q n q' m q'' r L1 L2 L3 := by
  obtain ⟨F, G, O, hd, e⟩ := h
  have hs : V.heap.size ≤ (V.setCell ⟨P, i, none⟩ u).heap.size := by simp [World.setCell]
  have o : ∀ x, (q = some x ∨ q' = some x ∨ q'' = some x) → ∀ j, (V.setCell ⟨P, i, none⟩ u).cell? ⟨x.block, j, none⟩ = V.cell? ⟨x.block, j, none⟩ := fun x hx j => World.cell?_setCell_other _ _ _ _ (by intro e; have h1 : P = x.block := congrArg Addr.block e; have := hb x hx; omega)
  exact ⟨F, G, O, ⟨hd.live.blocks hs (fun x hx => o x (Or.inl hx)), hd.safe.blocks hs (fun x hx => o x (Or.inr (Or.inl hx))), hd.ops.blocks hs (fun x hx => o x (Or.inr (Or.inr hx))), hd.sl, hd.ss, hd.so⟩, e⟩

/-- A disk that is drawn: its lists lie in memory. -/
def DrAns (w : World) (B : Nat) (a : Option Addr) (len cap : Nat) (e : Ending) (w' : World) : Prop :=
  ∃ a1 n1 c1 a2 n2 c2 a3 n3 c3 L1 L2 L3, e = .returned (.agg #[.slice a1 n1 c1, .slice a2 n2 c2, .slice a3 n3 c3]) ∧ DkL w' a1 n1 a2 n2 a3 n3 L1 L2 L3 ∧ Beh w.heap.size a1 a2 a3 ∧ Rd w' B a len cap ∧ Stp B w w'
end Go.Proofs.Ytcalgmhpagpnnaa

/- What the reader of disks wants, more: the beginning and the ends. No conditions. -/
namespace Go.Proofs.Ytcalgmhpagpnnaa
open Go.RowKit Go.Lib
set_option maxRecDepth 8000

theorem SG.fit {V : World} {lo hi P : Nat} {v1 v2 v3 : Value} {L1 L2 : List Fl} {L3 : List Dp} (h : SG V lo hi P v1 v2 v3 L1 L2 L3) : SG V lo V.heap.size P v1 v2 v3 L1 L2 L3 :=
  ⟨h.box, h.own, fun g hg => by
    have r := h.rows g hg
    rcases hg with k | k | k
    · have := World.ownsRow.lt h.own.live g k; omega
    · have := World.ownsRow.lt h.own.safe g k; omega
    · have := World.ownsRow.lt h.own.ops g k; omega, h.p1, h.box.2.2⟩
theorem DS.fit {w V : World} {B len cap hi : Nat} {a : Option Addr} {v1 v2 v3 : Value} {L1 L2 : List Fl} {L3 : List Dp} (h : DS w B a len cap hi v1 v2 v3 L1 L2 L3 V) : DS w B a len cap V.heap.size v1 v2 v3 L1 L2 L3 V :=
  ⟨h.rd, h.st, h.r0, h.sg.fit, h.hB⟩
theorem DS.new {w : World} {B len cap : Nat} {a : Option Addr} (h : Rd w B a len cap) : DS w B a len cap (w.heap.size + 1 + 1) (.slice none 0 0) (.slice none 0 0) (.slice none 0 0) [] [] [] ((w.alloc (.cells #[.slice none 0 0, .slice none 0 0, .slice none 0 0] 27)).alloc (.cells #[.slice none 0 0, .slice none 0 0, .slice none 0 0] 27)) := by
  have hB := h.2.2.2.1
  have b2 := Box3.new (w.alloc (.cells #[.slice none 0 0, .slice none 0 0, .slice none 0 0] 27)) (.slice none 0 0) (.slice none 0 0) (.slice none 0 0) 27
  rw [World.size_alloc] at b2
  refine ⟨(h.alloc _).alloc _, ((Stp.refl _ _).alloc _).alloc _, (Box3.new w _ _ _ 27).kept ((Below.refl _ _).alloc (Nat.le_refl _) _) (by simp), ⟨b2, ⟨FlL.nil _ _, FlL.nil _ _, DpL.nil _ _, fun g hg => by cases hg⟩, (fun g hg => by rcases hg with k | k | k <;> cases k), Nat.le_refl _, by omega⟩, hB⟩
theorem FlL.up {w : World} {B B' : Nat} {v : Value} {L : List Fl} (h : FlL w B v L) (hh : ∀ g, v.ownBlock = some g → B' ≤ g) : FlL w B' v L := by
  refine ⟨h.1, ?_⟩
  rcases h.2 with h0 | ⟨g, cap, cur, hv, hg, r⟩
  · exact Or.inl h0
  · exact Or.inr ⟨g, cap, cur, hv, hh g (by rw [hv]; rfl), r⟩
theorem DpL.up {w : World} {B B' : Nat} {v : Value} {L : List Dp} (h : DpL w B v L) (hh : ∀ g, v.ownBlock = some g → B' ≤ g) : DpL w B' v L := by
  refine ⟨h.1, ?_⟩
  rcases h.2 with h0 | ⟨g, cap, cur, hv, hg, r⟩
  · exact Or.inl h0
  · exact Or.inr ⟨g, cap, cur, hv, hh g (by rw [hv]; rfl), r⟩
/-- The rows of a disk lie behind its box. -/
theorem DS.own2 {w V : World} {B len cap hi : Nat} {a : Option Addr} {v1 v2 v3 : Value} {L1 L2 : List Fl} {L3 : List Dp} (h : DS w B a len cap hi v1 v2 v3 L1 L2 L3 V) : Own3 V (w.heap.size + 1 + 1) v1 v2 v3 L1 L2 L3 :=
  ⟨h.sg.own.live.up fun g hg => by have := h.sg.rows g (Or.inl hg); omega, h.sg.own.safe.up fun g hg => by have := h.sg.rows g (Or.inr (Or.inl hg)); omega, h.sg.own.ops.up fun g hg => by have := h.sg.rows g (Or.inr (Or.inr hg)); omega, h.sg.own.ne⟩
theorem FlL.sets {w : World} {B : Nat} {v : Value} {L : List Fl} (h : FlL w B v L) {P : Nat} (hP : P < B) (i : Nat) (u : Value) : FlL (w.setCell ⟨P, i, none⟩ u) B v L := h.far (fun e => by have := h.lt _ e; omega) _ _
theorem DpL.sets {w : World} {B : Nat} {v : Value} {L : List Dp} (h : DpL w B v L) {P : Nat} (hP : P < B) (i : Nat) (u : Value) : DpL (w.setCell ⟨P, i, none⟩ u) B v L := h.far (fun e => by have := (World.ownsRow.lt h _ e).1; omega) _ _
/-- Lists of one's own, of whatever content, as a disk. -/
theorem lists_dk {V : World} {B B' B'' : Nat} {q q' q'' : Option Addr} {n m r c c' c'' : Nat} {L1 L2 : List Fl} {L3 : List Dp} (h1 : FlL V B (.slice q n c) L1) (h2 : FlL V B' (.slice q' m c') L2) (h3 : DpL V B'' (.slice q'' r c'') L3)
    (l1 : L1.length ≤ 1048576) (l2 : L2.length ≤ 1048576) (l3 : L3.length ≤ 1048576) (b1 : byt L1 ≤ 1048576) (b2 : byt L2 ≤ 1048576) (hs : ∀ o ∈ L3, o.data.size ≤ 1048576) : DkL V q n q' m q'' r L1 L2 L3 := by
  obtain ⟨e1, f1⟩ := h1.list l1
  obtain ⟨e2, f2⟩ := h2.list l2
  obtain ⟨e3, f3⟩ := h3.list l3
  subst e1 e2 e3
  refine ⟨_, _, _, ⟨f1, f2, f3, by rw [lst_FlF]; omega, by rw [lst_FlF]; omega, fun i hi => ?_⟩, lst_FlF _, lst_FlF _, lst_DpF _⟩
  rw [DpF_lt hi]
  exact hs _ (List.getElem_mem _)
theorem OkS.bounds {L1 L2 : List Fl} {L3 : List Dp} (h : OkS L1 L2 L3) : L1.length ≤ 60 ∧ L2.length ≤ 60 ∧ L3.length ≤ 200 ∧ byt L1 ≤ 200000 ∧ byt L2 ≤ 200000 := by
  have := h.1
  simp only [diskB, Bool.and_eq_true, decide_eq_true_eq] at this
  obtain ⟨⟨⟨h1, h2⟩, h3⟩, h4⟩ := this
  obtain ⟨⟨b1, b2⟩, _⟩ := filesB_iff.1 h1
  obtain ⟨⟨b3, b4⟩, _⟩ := filesB_iff.1 h2
  exact ⟨b1, b3, h3, b2, b4⟩
theorem DS.fin {w V : World} {B len cap hi : Nat} {a : Option Addr} {q q' q'' : Option Addr} {n m r c c' c'' : Nat} {L1 L2 : List Fl} {L3 : List Dp} (h : DS w B a len cap hi (.slice q n c) (.slice q' m c') (.slice q'' r c'') L1 L2 L3 V) (ho : OkS L1 L2 L3) :
    DrAns w B a len cap (.returned (.agg #[.slice q n c, .slice q' m c', .slice q'' r c''])) (set3 V w.heap.size (.slice q n c) (.slice q' m c') (.slice q'' r c'')) := by
  have O := h.own2
  have hB := h.hB
  obtain ⟨b1, b2, b3, b4, b5⟩ := ho.bounds
  have z : w.heap.size < w.heap.size + 1 + 1 := by omega
  refine ⟨q, n, c, q', m, c', q'', r, c'', L1, L2, L3, rfl, lists_dk (((O.live.sets z _ _).sets z _ _).sets z _ _) (((O.safe.sets z _ _).sets z _ _).sets z _ _) (((O.ops.sets z _ _).sets z _ _).sets z _ _) (by omega) (by omega) (by omega) (by omega) (by omega) (fun o hh => by have := ho.2 o hh; omega), Own3.beh O.live O.safe O.ops (by omega), ((h.rd.setFar hB _).setFar hB _).setFar hB _, ((h.st.setNew (Nat.le_refl _) _).setNew (Nat.le_refl _) _).setNew (Nat.le_refl _) _⟩
theorem grown_below {W w3 : World} {row : Option Nat} {C : Nat} (g : W.grownBy w3 row) (hr : ∀ x, row = some x → C ≤ x) (hC : C ≤ W.heap.size) : Below C W w3 :=
  ⟨g.os, g.tape, g.output, g.size, fun k hk => g.block k (by omega) (fun e => by have := hr k e.symm; omega)⟩
theorem Dps.tail {w : World} {b o n : Nat} {F : Nat → Dp} (h : Dps w (some ⟨b, o, none⟩) n F) (hn : 0 < n) : Dps w (some ⟨b, o + 4, none⟩) (n - 1) (fun i => F (i + 1)) := by
  refine ⟨by have := h.1; omega, ?_⟩
  rcases h.2 with h0 | ⟨b', o', ha, hb, hA⟩
  · omega
  · cases ha
    refine Or.inr ⟨b, o + 4, rfl, hb, fun i hi => ?_⟩
    have := hA (i + 1) (by omega)
    rwa [show o + (i + 1) * 4 = o + 4 + i * 4 by omega] at this
/-- The first op is left out. -/
theorem DS.tail {w V : World} {B len cap hi : Nat} {a : Option Addr} {q q' q'' : Option Addr} {n m r c c' c'' : Nat} {L1 L2 : List Fl} {L3 : List Dp} (h : DS w B a len cap hi (.slice q n c) (.slice q' m c') (.slice q'' r c'') L1 L2 L3 V) (ho : OkS L1 L2 L3) (hr : 0 < r) :
    ∃ g, q'' = some ⟨g, 0, none⟩ ∧ r ≤ c'' ∧ c'' ≤ 9223372036854775807 ∧ Hid (∀ (x : Option Addr) (k : Nat), (x = some ⟨g, 4, none⟩ ∨ r = 1 ∧ x = some ⟨g, 0, none⟩) → DrAns w B a len cap (.returned (.agg #[.slice q n c, .slice q' m c', .slice x (r - 1) k])) (set3 (V.setCell ⟨w.heap.size + 1, 2, none⟩ (.slice x (r - 1) k)) w.heap.size (.slice q n c) (.slice q' m c') (.slice x (r - 1) k))) := by
  have O := h.own2
  have hB := h.hB
  obtain ⟨b1, b2, b3, b4, b5⟩ := ho.bounds
  have z : w.heap.size < w.heap.size + 1 + 1 := by omega
  have z1 : w.heap.size + 1 < w.heap.size + 1 + 1 := by omega
  rcases O.ops.2 with ⟨h0, h1⟩ | ⟨g, cap', cur, hv, hg, hh, k1, k2, k3, k4⟩
  · cases h0; omega
  cases hv
  refine ⟨g, rfl, by simpa using k1, by first | (unfold maxLen at k2; exact k2) | (unfold maxLen at k3; exact k3), fun x k hx => ?_⟩
  have D : DkL V q n q' m (some ⟨g, 0, none⟩) L3.length L1 L2 L3 := h.dk ho
  obtain ⟨F, G, Q, hd, e1, e2, e3⟩ := D
  have D1 : DkL V q n q' m x (L3.length - 1) L1 L2 (lst (fun i => Q (i + 1)) (L3.length - 1)) := by
    refine ⟨F, G, fun i => Q (i + 1), ⟨hd.live, hd.safe, ?_, hd.sl, hd.ss, fun i hi => hd.so _ (by omega)⟩, e1, e2, rfl⟩
    rcases hx with rfl | ⟨e, rfl⟩
    · exact hd.ops.tail hr
    · rw [e]
      exact ⟨by omega, Or.inl rfl⟩
  have Bh : Beh (w.heap.size + 1) q q' x := by
    intro y hy
    rcases hy with e | e | e
    · have := O.live.blk y e; omega
    · have := O.safe.blk y e; omega
    · rcases hx with rfl | ⟨_, rfl⟩ <;> (cases e; show _ < g; omega)
  exact ⟨q, n, c, q', m, c', x, _, k, L1, L2, _, rfl, (((D1.set Bh (Nat.le_refl _) _ _).set Bh (by omega) _ _).set Bh (by omega) _ _).set Bh (by omega) _ _, Bh.mono (by omega), (((h.rd.setFar (by omega) _).setFar hB _).setFar hB _).setFar hB _, (((h.st.setNew (by show _ ≤ w.heap.size + 1; omega) _).setNew (Nat.le_refl _) _).setNew (Nat.le_refl _) _).setNew (Nat.le_refl _) _⟩
/-- Bytes of nothing. -/
def zeroB (n : Nat) : ByteArray := ⟨Array.replicate n 0⟩
theorem zeroB_size (n : Nat) : (zeroB n).size = n := by simp [zeroB, ByteArray.size]
theorem makeBy (n : Nat) (hn : n ≤ 200000) (w : World) : (Instr.makeSlice 22 (.int .i64 (n : Int)) (.int .i64 (n : Int))).run Try.prog w = .ok (.slice (some ⟨w.heap.size, 0, none⟩) n n) (w.alloc (.cells (madeCells #[.int .u8 0] n) 5)) := by
  obtain ⟨i, hi, hz0, hz1, hz2⟩ := info_parts info5
  have := run_make (P := Try.prog) w 22 5 i _ Try.underlying22 hi hz0 .i64 .i64 (n : Int) (n : Int) (by omega) (Int.le_refl _) (by rw [hz2]; omega) (by omega)
  rw [hz1] at this
  simpa [Value.cells] using this
theorem convBy (w : World) (n : Nat) (hn : n ≤ 200000) : (convert 22 9 (.slice (some ⟨w.heap.size, 0, none⟩) n n)).run Try.prog (w.alloc (.cells (madeCells #[.int .u8 0] n) 5)) = .ok (.string (zeroB n)) (w.alloc (.cells (madeCells #[.int .u8 0] n) 5)) := by
  have h : (w.alloc (.cells (madeCells #[.int .u8 0] n) 5)).ownsRow 0 5 1 (.slice (some ⟨w.heap.size, 0, none⟩) n n) (zeroB n).size (strCells (zeroB n)) := by
    have e : (madeCells #[.int .u8 0] n).toList = strCells (zeroB n) := by
      apply List.ext_getElem?
      intro i
      by_cases hi : i < n
      · simp [madeCells, strCells, zeroB, hi, Nat.mod_one]
      · rw [List.getElem?_eq_none (by simp [size_madeCells]; omega), List.getElem?_eq_none (by rw [strCells_length, zeroB_size]; omega)]
    rw [zeroB_size, ← e]
    exact World.ownsRow_lit w _ n (Nat.zero_le _) (by unfold maxLen; omega) (by simp [size_madeCells])
  exact run_stringB (ByR.of_owns h)
/-- The world in which one file is all that there is. -/
def bigW (V : World) (Q n : Nat) (nm dz : ByteArray) : World :=
  (((((V.setCell ⟨Q, 0, none⟩ (.slice (some ⟨V.heap.size + 1, 0, none⟩) 1 1)).setCell ⟨Q, 1, none⟩ (.slice none 0 0)).setCell ⟨Q, 2, none⟩ (.slice none 0 0)).setCell ⟨Q, 1, none⟩ (.slice (some ⟨V.heap.size + 1, 0, none⟩) 1 1)).alloc (.cells (madeCells #[.int .u8 0] n) 5)).alloc (.cells #[.string nm, .string dz] 75)
theorem DS.big {w V : World} {B len cap hi : Nat} {a : Option Addr} {v1 v2 v3 : Value} {L1 L2 : List Fl} {L3 : List Dp} (h : DS w B a len cap hi v1 v2 v3 L1 L2 L3 V) (n : Nat) (nm dz : ByteArray) (hz : dz.size ≤ 200000) :
    (Box3 (bigW V (w.heap.size + 1) n nm dz) w.heap.size (.slice none 0 0) (.slice none 0 0) (.slice none 0 0) ∧ Box3 (bigW V (w.heap.size + 1) n nm dz) (w.heap.size + 1) (.slice (some ⟨V.heap.size + 1, 0, none⟩) 1 1) (.slice (some ⟨V.heap.size + 1, 0, none⟩) 1 1) (.slice none 0 0)) ∧
    DrAns w B a len cap (.returned (.agg #[.slice (some ⟨V.heap.size + 1, 0, none⟩) 1 1, .slice (some ⟨V.heap.size + 1, 0, none⟩) 1 1, .slice none 0 0])) (set3 (bigW V (w.heap.size + 1) n nm dz) w.heap.size (.slice (some ⟨V.heap.size + 1, 0, none⟩) 1 1) (.slice (some ⟨V.heap.size + 1, 0, none⟩) 1 1) (.slice none 0 0)) := by
  have hB := h.hB
  have hs : w.heap.size + 1 < V.heap.size := h.sg.box.2.2
  obtain ⟨s, es⟩ : ∃ s : Value, s = .slice (some ⟨V.heap.size + 1, 0, none⟩) 1 1 := ⟨_, rfl⟩
  unfold bigW
  obtain ⟨V4, hV4⟩ : ∃ V4, V4 = ((((V.setCell ⟨w.heap.size + 1, 0, none⟩ (.slice (some ⟨V.heap.size + 1, 0, none⟩) 1 1)).setCell ⟨w.heap.size + 1, 1, none⟩ (.slice none 0 0)).setCell ⟨w.heap.size + 1, 2, none⟩ (.slice none 0 0)).setCell ⟨w.heap.size + 1, 1, none⟩ (.slice (some ⟨V.heap.size + 1, 0, none⟩) 1 1)) := ⟨_, rfl⟩
  have z4 : V4.heap.size = V.heap.size := by rw [hV4]; simp [World.setCell]
  have x4 : Box3 V4 (w.heap.size + 1) (.slice (some ⟨V.heap.size + 1, 0, none⟩) 1 1) (.slice (some ⟨V.heap.size + 1, 0, none⟩) 1 1) (.slice none 0 0) := by
    rw [hV4]
    exact (((h.sg.box.set0 _).set1 _).set2 _).set1 _
  have y4 : Box3 V4 w.heap.size (.slice none 0 0) (.slice none 0 0) (.slice none 0 0) := by
    rw [hV4]
    exact (((h.r0.far (by omega) _ _).far (by omega) _ _).far (by omega) _ _).far (by omega) _ _
  have r4 : Rd V4 B a len cap := by
    rw [hV4]
    exact (((h.rd.setFar (by omega) _).setFar (by omega) _).setFar (by omega) _).setFar (by omega) _
  have t4 : Stp B w V4 := by
    rw [hV4]
    exact (((h.st.setNew (by show _ ≤ w.heap.size + 1; omega) _).setNew (by show _ ≤ w.heap.size + 1; omega) _).setNew (by show _ ≤ w.heap.size + 1; omega) _).setNew (by show _ ≤ w.heap.size + 1; omega) _
  rw [← hV4]
  clear hV4
  obtain ⟨V5, hV5⟩ : ∃ V5, V5 = V4.alloc (.cells (madeCells #[.int .u8 0] n) 5) := ⟨_, rfl⟩
  have z5 : V5.heap.size = V.heap.size + 1 := by rw [hV5, World.size_alloc, z4]
  have b5 : Below V4.heap.size V4 V5 := by rw [hV5]; exact (Below.refl _ _).alloc (Nat.le_refl _) _
  have r5 : Rd V5 B a len cap := by rw [hV5]; exact r4.alloc _
  have t5 : Stp B w V5 := by rw [hV5]; exact t4.alloc _
  rw [← hV5]
  clear hV5
  have b6 : Below V5.heap.size V5 (V5.alloc (.cells #[.string nm, .string dz] 75)) := (Below.refl _ _).alloc (Nat.le_refl _) _
  have x5 := x4.kept b5 x4.2.2
  have y5 := y4.kept b5 y4.2.2
  refine ⟨⟨y5.kept b6 y5.2.2, x5.kept b6 x5.2.2⟩, ?_⟩
  have F : Fls (V5.alloc (.cells #[.string nm, .string dz] 75)) (some ⟨V.heap.size + 1, 0, none⟩) 1 (fun _ => ⟨nm, dz⟩) := by
    refine ⟨by omega, Or.inr ⟨V.heap.size + 1, 0, rfl, by rw [World.size_alloc, z5]; omega, fun i hi => ?_⟩⟩
    obtain rfl : i = 0 := by omega
    rw [← z5]
    exact ⟨by simp [go_sem], by simp [go_sem]⟩
  have D : DkL (V5.alloc (.cells #[.string nm, .string dz] 75)) (some ⟨V.heap.size + 1, 0, none⟩) 1 (some ⟨V.heap.size + 1, 0, none⟩) 1 none 0 [⟨nm, dz⟩] [⟨nm, dz⟩] [] := by
    refine ⟨_, _, fun _ => ⟨0, nm, nm, nm⟩, ⟨F, F, ⟨by omega, Or.inl rfl⟩, ?_, ?_, fun i hi => absurd hi (Nat.not_lt_zero _)⟩, rfl, rfl, rfl⟩ <;> (simp [lst, byt]; omega)
  have Bh : Beh w.heap.size (some ⟨V.heap.size + 1, 0, none⟩) (some ⟨V.heap.size + 1, 0, none⟩) none := by
    intro y hy
    rcases hy with e | e | e <;> cases e <;> (show w.heap.size < V.heap.size + 1; omega)
  exact ⟨_, _, _, _, _, _, _, _, _, _, _, _, rfl, ((D.set Bh (Nat.le_refl _) _ _).set Bh (Nat.le_refl _) _ _).set Bh (Nat.le_refl _) _ _, Bh, (((r5.alloc _).setFar hB _).setFar hB _).setFar hB _, (((t5.alloc _).setNew (Nat.le_refl _) _).setNew (Nat.le_refl _) _).setNew (Nat.le_refl _) _⟩
/-- One more file behind those that are seen. -/
theorem DS.app {w V w3 : World} {B len cap hi : Nat} {a : Option Addr} {q q' q'' : Option Addr} {n m r c c' c'' : Nat} {L1 L2 : List Fl} {L3 : List Dp} {ob : Obj} {f : Fl} {v : Value} (h : DS w B a len cap hi (.slice q n c) (.slice q' m c') (.slice q'' r c'') L1 L2 L3 V) (ho : OkS L1 L2 L3)
    (A : FlL w3 (w.heap.size + 1 + 1) v (L1 ++ [f])) (hf : f.data.size ≤ 1000) (g : (V.alloc ob).grownBy w3 (Value.slice q n c).ownBlock) :
    (Box3 w3 w.heap.size (.slice none 0 0) (.slice none 0 0) (.slice none 0 0) ∧ Box3 w3 (w.heap.size + 1) (.slice q n c) (.slice q' m c') (.slice q'' r c'')) ∧
    DrAns w B a len cap (.returned (.agg #[v, .slice q' m c', .slice q'' r c''])) (set3 (w3.setCell ⟨w.heap.size + 1, 0, none⟩ v) w.heap.size v (.slice q' m c') (.slice q'' r c'')) := by
  have O := h.own2
  have hB := h.hB
  obtain ⟨b1, b2, b3, b4, b5⟩ := ho.bounds
  have hz : w.heap.size + 1 < V.heap.size := h.sg.box.2.2
  have bA : Below (w.heap.size + 1 + 1) (V.alloc ob) w3 := grown_below g (fun x hx => O.live.lt x hx) (by simp; omega)
  have bV : Below (w.heap.size + 1 + 1) V w3 := ((Below.refl _ _).alloc (by omega) ob).trans bA
  have S2 : FlL w3 (w.heap.size + 1 + 1) (.slice q' m c') L2 := (O.safe.kept ((Below.refl _ _).alloc (Nat.le_refl _) ob)).grown g (ne_row O.ne)
  have S3 : DpL w3 (w.heap.size + 1 + 1) (.slice q'' r c'') L3 := (O.ops.kept ((Below.refl _ _).alloc (Nat.le_refl _) ob)).grown g (ne_row (fl_dp O.live O.ops))
  refine ⟨⟨h.r0.kept bV (by omega), h.sg.box.kept bV (by omega)⟩, ?_⟩
  obtain ⟨va, vc, hv, _, _⟩ := A.shape
  obtain ⟨vn, hvn⟩ : ∃ vn, vn = (L1 ++ [f]).length := ⟨_, rfl⟩
  rw [← hvn] at hv
  subst hv
  have z : w.heap.size < w.heap.size + 1 + 1 := by omega
  have z1 : w.heap.size + 1 < w.heap.size + 1 + 1 := by omega
  have hR : Rd w3 B a len cap := h.rd.same (bV.mono (by omega))
  have hS : Stp B w w3 := ⟨bV.os.trans h.st.os, bV.tape.trans h.st.tape, bV.output.trans h.st.output, Nat.le_trans h.st.size bV.size, fun k hk hn => (bV.block k (by omega)).trans (h.st.block k hk hn)⟩
  have hlen : (L1 ++ [f]).length ≤ 1048576 := by simp; omega
  have hbyt : byt (L1 ++ [f]) ≤ 1048576 := by
    unfold byt at b4 ⊢
    simp
    omega
  exact ⟨va, vn, vc, q', m, c', q'', r, c'', L1 ++ [f], L2, L3, rfl, lists_dk ((((A.sets z1 _ _).sets z _ _).sets z _ _).sets z _ _) ((((S2.sets z1 _ _).sets z _ _).sets z _ _).sets z _ _) ((((S3.sets z1 _ _).sets z _ _).sets z _ _).sets z _ _) hlen (by omega) (by omega) hbyt (by omega) (fun o hh => by have := ho.2 o hh; omega), Own3.beh A S2 S3 (by omega), (((hR.setFar (by omega) _).setFar hB _).setFar hB _).setFar hB _, (((hS.setNew (by show _ ≤ w.heap.size + 1; omega) _).setNew (Nat.le_refl _) _).setNew (Nat.le_refl _) _).setNew (Nat.le_refl _) _⟩
end Go.Proofs.Ytcalgmhpagpnnaa

/- sameFiles of the laws. Conditions: the lists lie in memory, at most 1048576 of each. -/
namespace Go.Proofs.Ytcalgmhpagpnnaa
open Go.RowKit
set_option maxRecDepth 8000

set_option maxHeartbeats 1000000 in
theorem lawSame (a1 a2 : Option Addr) (n m c1 c2 : Nat) (F G : Nat → Fl) (w : World) (h1 : Fls w a1 n F) (h2 : Fls w a2 m G) :
    Calls Try.prog 18 #[.slice a1 n c1, .slice a2 m c2] w fun e w' => e = .returned (.bool (sameL F G n m)) ∧ Below w.heap.size w w' := by
  have H1 : Hid (Fls w a1 n F) := h1
  have H2 : Hid (Fls w a2 m G) := h2
  have hn := h1.1
  have hm := h2.1
  clear h1 h2
  by_cases hnm : n = m
  rotate_left
  · have E : Hid (sameL F G n m = false) := decide_eq_false (fun h => hnm h.1)
    have hnm' : ((n : Int) == (m : Int)) = false := by simp; omega
    have hnm2 : ¬ ((n : Int) = (m : Int)) := by omega
    go_enter Try.func18, Try.ntmps18
    go_wp2
    go_ret
    exact ⟨retS E.out, Below.refl _ _⟩
  subst hnm
  go_enter Try.func18, Try.ntmps18
  go_wp2
  go_loopw [5] (fun i wr => ∃ k : Nat, k ≤ n ∧ i = .int .i64 k ∧ Hid (∀ j, j < k → (F j).name = (G j).name ∧ (F j).data = (G j).data) ∧ Hid (Below w.heap.size w wr)) (fun i _ => n - (intOf i).toNat)
  case atStart => exact ⟨0, Nat.zero_le _, rfl, fun j hj => absurd hj (Nat.not_lt_zero _), Below.refl _ _⟩
  case round =>
    obtain ⟨k, hk, rfl, hs, hB⟩ := hrel
    by_cases hlt : k < n
    · obtain ⟨b, o, rfl, hb0, hA0⟩ := H1.out.acc hlt
      obtain ⟨b', o', rfl, hb0', hA0'⟩ := H2.out.acc hlt
      have hA := hA0.of_cells (w' := wr) (fun q => hB.out.cell (p := ⟨b, q, none⟩) hb0)
      have hA' := hA0'.of_cells (w' := wr) (fun q => hB.out.cell (p := ⟨b', q, none⟩) hb0')
      obtain ⟨c0, c1⟩ := hA
      obtain ⟨d0, d1⟩ := hA'
      clear hA0 hA0'
      by_cases e1 : (F k).name = (G k).name
      · by_cases e2 : (F k).data = (G k).data
        · have HS : Hid (∀ j, j < k + 1 → (F j).name = (G j).name ∧ (F j).data = (G j).data) := fun j hj => by
            by_cases e : j = k
            · subst e; exact ⟨e1, e2⟩
            · exact hs.out j (by omega)
          rw [e1] at c0
          rw [e2] at c1
          clear e1 e2
          go_wp2
          go_quiet (fail)
          go_wp2
          go_roundw
          case rel => exact ⟨k + 1, by omega, by go_num, HS, below_drewQ hB.out _⟩
          case measure => simp [intOf]; omega
        · have E : Hid (sameL F G n n = false) := decide_eq_false (fun h => e2 (h.2 k hlt).2)
          have e3 : ((F k).data.toList == (G k).data.toList) = false := by rw [beq_name]; exact decide_eq_false e2
          rw [e1] at c0
          clear e1 e2
          go_wp2
          go_quiet (fail)
          go_wp2
          go_ret
          exact ⟨retS E.out, below_drewQ hB.out _⟩
      · have E : Hid (sameL F G n n = false) := decide_eq_false (fun h => e1 (h.2 k hlt).1)
        have e3 : ((F k).name.toList == (G k).name.toList) = false := by rw [beq_name]; exact decide_eq_false e1
        clear e1
        go_wp2
        go_quiet (fail)
        go_wp2
        go_ret
        exact ⟨retS E.out, below_drewQ hB.out _⟩
    · obtain rfl : k = n := by omega
      have E : Hid (sameL F G k k = true) := decide_eq_true ⟨rfl, hs.out⟩
      go_wp2
      go_ret
      exact ⟨retS E.out, hB.out⟩

set_option maxHeartbeats 1000000 in

/-- Of the same files it says so. -/
theorem lawSameL {V : World} {q q' : Option Addr} {n m c c' : Nat} {F G : Nat → Fl} (h1 : Fls V q n F) (h2 : Fls V q' m G) (he : lst F n = lst G m) :
    Calls Try.prog 18 #[.slice q n c, .slice q' m c'] V fun e w' => e = .returned (.bool true) ∧ Below V.heap.size V w' := by
  have := lawSame q q' n m c c' F G V h1 h2
  rwa [sameL_iff.2 he] at this
end Go.Proofs.Ytcalgmhpagpnnaa
