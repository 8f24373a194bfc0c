/- The reader by which inputs are drawn, and its short texts. Conditions: the reader lies in memory as l1Open lays it. -/
import Derived.Test.YthmmlcmeaokdnaaTakL
import Derived.OpenShut
namespace Go.Proofs.Ythmmlcmeaokdnaa
open Go.RowKit

/-- What a step of the reader in block B leaves: all other blocks as they were. -/
structure Stp (B : Nat) (w w' : World) : Prop where
  os : w'.os = w.os
  tape : w'.tape = w.tape
  output : w'.output = w.output
  size : w.heap.size ≤ w'.heap.size
  block : ∀ k, k < w.heap.size → k ≠ B → w'.heap[k]? = w.heap[k]?

theorem Stp.refl (B : Nat) (w : World) : Stp B w w := ⟨rfl, rfl, rfl, Nat.le_refl _, fun _ _ _ => rfl⟩
theorem Stp.trans {B : Nat} {a b c : World} (h : Stp B a b) (k : Stp B b c) : Stp B a c :=
  ⟨k.os.trans h.os, k.tape.trans h.tape, k.output.trans h.output, Nat.le_trans h.size k.size, fun i hi hn => (k.block i (Nat.lt_of_lt_of_le hi h.size) hn).trans (h.block i hi hn)⟩
theorem Stp.drewN {B : Nat} {a w : World} (h : Stp B a w) (n : Nat) : Stp B a (w.drewN n) := h.trans ⟨rfl, rfl, rfl, Nat.le_refl _, fun _ _ _ => rfl⟩
theorem Stp.alloc {B : Nat} {a w : World} (h : Stp B a w) (o : Obj) : Stp B a (w.alloc o) :=
  h.trans ⟨rfl, rfl, rfl, by simp, fun k hk _ => Below.heap_alloc _ _ _ hk⟩
theorem Stp.setCell {B : Nat} {a w : World} (h : Stp B a w) (off : Nat) (u : Value) : Stp B a (w.setCell ⟨B, off, none⟩ u) :=
  h.trans ⟨rfl, rfl, rfl, by simp [World.setCell], fun k _ hn => Below.heap_setCell _ _ _ _ hn⟩
theorem Stp.below {B : Nat} {w w' : World} (h : Stp B w w') (hB : B ≤ w.heap.size) : Below B w w' :=
  ⟨h.os, h.tape, h.output, h.size, fun k hk => h.block k (Nat.lt_of_lt_of_le hk hB) (by omega)⟩
theorem Stp.ofBelow {B : Nat} {w w' : World} (h : Below w.heap.size w w') : Stp B w w' := ⟨h.os, h.tape, h.output, h.size, fun k hk _ => h.block k hk⟩
theorem Stp.cell {B : Nat} {w w' : World} (h : Stp B w w') {p : Addr} (hp : p.block < w.heap.size) (hn : p.block ≠ B) : w'.cell? p = w.cell? p := World.cell?_of_block (w := w) (h.block p.block hp hn)

theorem Stp.frozen {B : Nat} {w w' : World} (h : Stp B w w') {p : Addr} (hp : p.block < w.heap.size) (hn : p.block ≠ B) : w'.frozen? p = w.frozen? p := World.frozen?_of_block (w := w) (h.block p.block hp hn)
theorem Stp.setNew {B : Nat} {a w : World} (h : Stp B a w) {p : Addr} (hp : a.heap.size ≤ p.block) (u : Value) : Stp B a (w.setCell p u) :=
  ⟨h.os, h.tape, h.output, by simpa [World.setCell] using h.size, fun k hk hn => (Below.heap_setCell _ _ _ _ (by omega)).trans (h.block k hk hn)⟩

/-- A reader in block B: its bytes, its place. -/
def Rd (w : World) (B : Nat) (a : Option Addr) (len cap : Nat) : Prop :=
  w.cell? ⟨B, 0, none⟩ = some (.slice a len cap) ∧ (∃ p : Nat, p ≤ len ∧ w.cell? ⟨B, 1, none⟩ = some (.int .i64 p)) ∧ w.frozen? ⟨B, 1, none⟩ = false ∧ B < w.heap.size ∧ len ≤ 9223372036854775807 ∧
  (∀ i : Nat, i < len → ∃ (b off : Nat) (z : Int), a = some ⟨b, off, none⟩ ∧ b < B ∧ w.cell? ⟨b, off + i, none⟩ = some (.int .u8 z) ∧ 0 ≤ z ∧ z ≤ 255)

theorem Rd.same {w w' : World} {B : Nat} {a : Option Addr} {len cap : Nat} (h : Rd w B a len cap) (hb : Below (B + 1) w w') : Rd w' B a len cap := by
  obtain ⟨h1, ⟨p, hp, h2⟩, h3, h4, h5, h6⟩ := h
  refine ⟨by rw [hb.cell (p := ⟨B, 0, none⟩) (Nat.lt_succ_self _)]; exact h1, ⟨p, hp, by rw [hb.cell (p := ⟨B, 1, none⟩) (Nat.lt_succ_self _)]; exact h2⟩, by rw [hb.frozen (p := ⟨B, 1, none⟩) (Nat.lt_succ_self _)]; exact h3, Nat.lt_of_lt_of_le h4 hb.size, h5, fun i hi => ?_⟩
  obtain ⟨b, off, z, ha, hbB, hc, hz⟩ := h6 i hi
  exact ⟨b, off, z, ha, hbB, by rw [hb.cell (p := ⟨b, off + i, none⟩) (by show b < B + 1; omega)]; exact hc, hz⟩
theorem Rd.drewN {w : World} {B : Nat} {a : Option Addr} {len cap : Nat} (h : Rd w B a len cap) (n : Nat) : Rd (w.drewN n) B a len cap := h
theorem Rd.alloc {w : World} {B : Nat} {a : Option Addr} {len cap : Nat} (h : Rd w B a len cap) (o : Obj) : Rd (w.alloc o) B a len cap :=
  h.same ((Below.refl _ _).alloc h.2.2.2.1 o)

theorem Rd.setFar {w : World} {B : Nat} {a : Option Addr} {len cap R o : Nat} (h : Rd w B a len cap) (hR : B < R) (u : Value) : Rd (w.setCell ⟨R, o, none⟩ u) B a len cap :=
  h.same ((Below.refl _ _).setCell (p := ⟨R, o, none⟩) (by show B + 1 ≤ R; omega) u)

theorem Rd.moved {w : World} {B : Nat} {a : Option Addr} {len cap p : Nat} (h : Rd w B a len cap) (hp : p ≤ len) (v : Value) (hv : w.cell? ⟨B, 1, none⟩ = some v) : Rd (w.setCell ⟨B, 1, none⟩ (.int .i64 p)) B a len cap := by
  obtain ⟨h1, _, h3, h4, h5, h6⟩ := h
  have hne : (⟨B, 0, none⟩ : Addr) ≠ ⟨B, 1, none⟩ := by intro e; cases e
  refine ⟨by rw [World.cell?_setCell_other _ _ _ _ hne.symm]; exact h1, ⟨p, hp, ?_⟩, ?_, by simpa [World.setCell] using h4, h5, fun i hi => ?_⟩
  · exact World.cell?_setCell_same _ _ _ hv
  · rw [World.frozen?_setCell]; exact h3
  · obtain ⟨b, off, z, ha, hbB, hc, hz⟩ := h6 i hi
    exact ⟨b, off, z, ha, hbB, by rw [World.cell?_setCell_other _ _ _ _ (by intro e; have := congrArg Addr.block e; simp at this; omega)]; exact hc, hz⟩

set_option maxHeartbeats 400000 in
theorem rd_next (B : Nat) (a : Option Addr) (len cap : Nat) (w : World) (h : Rd w B a len cap) :
    Calls Try.prog 26 #[.pointer (some ⟨B, 0, none⟩)] w fun e w' => ∃ v : Int, e = .returned (.int .i64 v) ∧ 0 ≤ v ∧ v ≤ 255 ∧ Rd w' B a len cap ∧ Stp B w w' := by
  have H : Hid (Rd w B a len cap) := h
  obtain ⟨h1, ⟨p, hp, h2⟩, h3, h4, h5, h6⟩ := h
  by_cases hlt : p < len
  · obtain ⟨b, off, z, rfl, hbB, hc, hz1, hz2⟩ := h6 p hlt
    clear h6
    have hne : b ≠ B := by omega
    go_enter Try.func26, Try.ntmps26
    go_wp2
    go_quiet (fail)
    go_wp2
    go_quiet (fail)
    go_wp2
    go_ret
    have e1 : ((p : Int) + 1) = ((p + 1 : Nat) : Int) := by omega
    rw [e1]
    exact ⟨z, rfl, hz1, hz2, (Rd.moved (H.out.drewN _) (by omega) _ h2).drewN _, (((Stp.refl _ _).drewN _).setCell 1 _).drewN _⟩
  · clear h6
    have hge : (len : Int) ≤ (p : Int) := by omega
    go_enter Try.func26, Try.ntmps26
    go_wp2
    go_quiet (fail)
    go_wp2
    go_ret
    exact ⟨0, rfl, by omega, by omega, H.out.drewN _, (Stp.refl _ _).drewN _⟩

theorem ret_intk {k : IntKind} {a b : Int} (h : a = b) : Ending.returned (.int k a) = .returned (.int k b) := by rw [h]

set_option maxHeartbeats 400000 in
theorem rd_below (B : Nat) (a : Option Addr) (len cap : Nat) (n : Int) (w : World) (h : Rd w B a len cap) (n1 : 1 ≤ n) (n2 : n ≤ 1000000000) :
    Calls Try.prog 18 #[.pointer (some ⟨B, 0, none⟩), .int .i64 n] w fun e w' => ∃ v : Int, e = .returned (.int .i64 v) ∧ 0 ≤ v ∧ v < n ∧ Rd w' B a len cap ∧ Stp B w w' := by
  have H : Hid (Rd w B a len cap) := h
  clear h
  by_cases h1 : n ≤ 1
  · go_enter Try.func18, Try.ntmps18
    go_wp2
    go_ret
    exact ⟨0, rfl, by omega, by omega, H.out, Stp.refl _ _⟩
  by_cases h2 : n ≤ 256
  · go_enter Try.func18, Try.ntmps18
    go_wp2_with fail
    refine (rd_next B a len cap _ H.out).mono ?_
    rintro e w1 ⟨v, rfl, v1, v2, R1, S1⟩
    have RR : Hid (Rd w1 B a len cap) := R1
    clear R1
    go_wp2
    go_ret
    exact ⟨v % n, rfl, Int.emod_nonneg _ (by omega), Int.emod_lt_of_pos _ (by omega), RR.out, S1⟩
  · go_enter Try.func18, Try.ntmps18
    go_wp2_with fail
    refine (rd_next B a len cap _ H.out).mono ?_
    rintro e w1 ⟨v, rfl, v1, v2, R1, S1⟩
    have RR : Hid (Rd w1 B a len cap) := R1
    clear R1
    go_wp2_with fail
    refine (rd_next B a len cap _ RR.out).mono ?_
    rintro e w2 ⟨u, rfl, u1, u2, R2, S2⟩
    have R2' : Hid (Rd w2 B a len cap) := R2
    clear R2
    go_wp2
    go_ret
    exact ⟨(v * 256 + u) % n, rfl, Int.emod_nonneg _ (by omega), Int.emod_lt_of_pos _ (by omega), R2'.out, S1.trans S2⟩


theorem rd_open (a : Option Addr) (len cap : Nat) (w : World) (hm : len ≤ 9223372036854775807)
    (hz : ∀ i : Nat, i < len → ∃ (b off : Nat) (z : Int), a = some ⟨b, off, none⟩ ∧ b < w.heap.size ∧ w.cell? ⟨b, off + i, none⟩ = some (.int .u8 z) ∧ 0 ≤ z ∧ z ≤ 255) :
    Calls Try.prog 17 #[.slice a len cap] w fun e w' => e = .returned (.pointer (some ⟨w.heap.size, 0, none⟩)) ∧ Rd w' w.heap.size a len cap ∧ Below w.heap.size w w' := by
  have HZ : Hid (∀ i : Nat, i < len → ∃ (b off : Nat) (z : Int), a = some ⟨b, off, none⟩ ∧ b < w.heap.size ∧ w.cell? ⟨b, off + i, none⟩ = some (.int .u8 z) ∧ 0 ≤ z ∧ z ≤ 255) := hz
  clear hz
  go_enter Try.func17, Try.ntmps17
  go_wp2
  go_ret
  refine ⟨rfl, ⟨by simp [go_sem], ⟨0, Nat.zero_le _, by simp [go_sem]⟩, by simp [go_sem], by simp, hm, fun i hi => ?_⟩, (Below.refl _ _).alloc (Nat.le_refl _) _⟩
  obtain ⟨b, off, z, ha, hb, hc, h⟩ := HZ.out i hi
  exact ⟨b, off, z, ha, hb, by rw [World.cell?_alloc_lt _ _ _ (by exact hb)]; exact hc, h⟩

def Code (w : World) (a : Option Addr) (len : Nat) : Prop := len ≤ 9223372036854775807 ∧
  ∀ i : Nat, i < len → ∃ (b off : Nat) (z : Int), a = some ⟨b, off, none⟩ ∧ b < w.heap.size ∧ w.cell? ⟨b, off + i, none⟩ = some (.int .u8 z) ∧ 0 ≤ z ∧ z ≤ 255

theorem big_no (a : Option Addr) (len cap : Nat) (w : World) (h : len ≤ 1048576) :
    Calls Try.prog 6 #[.slice a len cap] w fun e w' => e = .returned (.bool false) ∧ w' = w := by
  have h' : ¬ (1048576 < len) := by omega
  go_enter Try.func6, Try.ntmps6
  go_wp2
  go_ret
  exact ⟨by simp; omega, rfl⟩
theorem big_yes (a : Option Addr) (len cap : Nat) (w : World) (h : 1048576 < len) :
    Calls Try.prog 6 #[.slice a len cap] w fun e w' => e = .returned (.bool true) ∧ w' = w := by
  go_enter Try.func6, Try.ntmps6
  go_wp2
  go_ret
  exact ⟨by simp; omega, rfl⟩

/-- Strings in a new row. -/
theorem strs_cell (w : World) (ys : List ByteArray) (i : Nat) (hi : i < ys.length) : (w.alloc (.cells (ys.map Value.string).toArray 9)).cell? ⟨w.heap.size, i, none⟩ = some (.string ys[i]) := by
  rw [World.cell?_alloc_mark]
  simp [List.getElem?_eq_getElem hi]
def six : List ByteArray := [⟨#[]⟩, ⟨#[97]⟩, ⟨#[98]⟩, ⟨#[97, 98]⟩, ⟨#[97, 98, 99]⟩, ⟨#[120, 32, 121]⟩]
theorem six_le : ∀ y ∈ six, y.size ≤ 3 := by
  intro y hy
  simp only [six, List.mem_cons, List.not_mem_nil, or_false] at hy
  rcases hy with e | e | e | e | e | e <;> subst e <;> decide
set_option maxHeartbeats 1000000 in
theorem rd_text (B : Nat) (a : Option Addr) (len cap : Nat) (w : World) (h : Rd w B a len cap) :
    Calls Try.prog 19 #[.pointer (some ⟨B, 0, none⟩)] w fun e w' => ∃ y : ByteArray, e = .returned (.string y) ∧ y.size ≤ 3 ∧ Rd w' B a len cap ∧ Stp B w w' := by
  have H : Hid (Rd w B a len cap) := h
  have hBQ : B < w.heap.size := h.2.2.2.1
  clear h
  go_enter Try.func19, Try.ntmps19
  go_wp2_with fail
  refine (rd_below B a len cap 6 _ (H.out.alloc _) (by omega) (by omega)).mono ?_
  rintro e w1 ⟨v, rfl, v1, v2, R1, S1⟩
  obtain ⟨n, rfl⟩ := Int.eq_ofNat_of_zero_le v1
  have hn : n < 6 := by omega
  have hn' : (n : Int) < 6 := by omega
  obtain ⟨y, hy⟩ : ∃ y, y = six[n]'(by simpa [six] using hn) := ⟨_, rfl⟩
  have HY : Hid (y.size ≤ 3) := by show y.size ≤ 3; rw [hy]; exact six_le _ (List.getElem_mem _)
  have hc : w1.cell? ⟨w.heap.size, n, none⟩ = some (.string y) := by
    rw [S1.cell (p := ⟨w.heap.size, n, none⟩) (by simp) (by simp; omega), hy]
    exact strs_cell w six n (by simpa [six] using hn)
  have RR : Hid (Rd w1 B a len cap) := R1
  have SS : Hid (Stp B w w1) := ((Stp.refl B w).alloc _).trans S1
  clear R1 S1 hy
  go_wp2
  go_ret
  exact ⟨y, rfl, HY.out, RR.out, SS.out⟩

def hurts : List ByteArray := [⟨#[48]⟩, ⟨#[49]⟩, ⟨#[32]⟩, ⟨#[45]⟩, ⟨#[57]⟩, ⟨#[120]⟩]
theorem hurts_le : ∀ y ∈ hurts, y.size = 1 := by
  intro y hy
  simp only [hurts, List.mem_cons, List.not_mem_nil, or_false] at hy
  rcases hy with e | e | e | e | e | e <;> subst e <;> decide
def tails : List ByteArray := [⟨#[32]⟩, ⟨#[48]⟩, ⟨#[10]⟩]
theorem tails_le : ∀ y ∈ tails, y.size = 1 := by
  intro y hy
  simp only [tails, List.mem_cons, List.not_mem_nil, or_false] at hy
  rcases hy with e | e | e <;> subst e <;> decide
theorem add_run (W : World) (x y : ByteArray) (hx : x.size ≤ 100000) (hy : y.size ≤ 100000) : (Op.stringOp .add x y).run Try.prog W = .ok (.string (x ++ y)) W := run_string_add_sum W x y (by omega)

theorem Rd.drewd {w : World} {B : Nat} {a : Option Addr} {len cap : Nat} (h : Rd w B a len cap) : Rd w.drew B a len cap := h
theorem Stp.drewd {B : Nat} {a w : World} (h : Stp B a w) : Stp B a w.drew := ⟨h.os, h.tape, h.output, h.size, h.block⟩
set_option maxHeartbeats 4000000 in
theorem rd_hurt (B : Nat) (a : Option Addr) (len cap : Nat) (s : ByteArray) (w : World) (h : Rd w B a len cap) (hs : s.size ≤ 1000) :
    Calls Try.prog 20 #[.pointer (some ⟨B, 0, none⟩), .string s] w fun e w' => ∃ y : ByteArray, e = .returned (.string y) ∧ y.size ≤ 1001 ∧ Rd w' B a len cap ∧ Stp B w w' := by
  have H : Hid (Rd w B a len cap) := h
  have hBQ : B < w.heap.size := h.2.2.2.1
  clear h
  go_enter Try.func20, Try.ntmps20
  go_wp2_with fail
  refine (rd_below B a len cap 6 _ H.out (by omega) (by omega)).mono ?_
  rintro e w1 ⟨v, rfl, v1, v2, R1, S1⟩
  obtain ⟨n, rfl⟩ := Int.eq_ofNat_of_zero_le v1
  have hn : n < 6 := by omega
  have RX1 : Hid (Rd w1 B a len cap) := R1
  have SX1 : Hid (Stp B w w1) := S1
  have hB1 : B < w1.heap.size := R1.2.2.2.1
  clear R1 S1 H
  by_cases n1 : n = 1
  · subst n1
    have q1 : (((1 : Nat) : Int) == 1) = true := rfl
    go_wp2_with fail
    refine (rd_below B a len cap ((s.size : Int) + 1) _ RX1.out (by omega) (by omega)).mono ?_
    rintro e w2 ⟨k, rfl, k1, k2, R2, S2⟩
    obtain ⟨m, rfl⟩ := Int.eq_ofNat_of_zero_le k1
    have hm : (m : Int) ≤ (s.size : Int) := by omega
    have RX2 : Hid (Rd w2 B a len cap) := R2
    have SX2 : Hid (Stp B w w2) := SX1.out.trans S2
    clear R2 S2
    go_wp2
    go_ret
    exact ⟨_, rfl, by rw [ByteArray.size_extract]; omega, RX2.out, SX2.out⟩
  have q1 : (((n : Nat) : Int) == 1) = false := beq_eq_false_iff_ne.2 (by omega)
  by_cases n3 : n = 3
  · subst n3
    go_wp2_with fail
    refine (rd_below B a len cap 3 _ (RX1.out.alloc _) (by omega) (by omega)).mono ?_
    rintro e w2 ⟨k, rfl, k1, k2, R2, S2⟩
    obtain ⟨m, rfl⟩ := Int.eq_ofNat_of_zero_le k1
    have hm : m < 3 := by omega
    have hm' : (m : Int) < 3 := by omega
    obtain ⟨y, hy⟩ : ∃ y, y = tails[m]'(by simpa [tails] using hm) := ⟨_, rfl⟩
    have hys : y.size = 1 := by rw [hy]; exact tails_le _ (List.getElem_mem _)
    have hc : w2.cell? ⟨w1.heap.size, m, none⟩ = some (.string y) := by
      rw [S2.cell (p := ⟨w1.heap.size, m, none⟩) (by simp) (by simp; omega), hy]
      exact strs_cell w1 tails m (by simpa [tails] using hm)
    have ha := fun W => add_run W s y (by omega) (by omega)
    have RX2 : Hid (Rd w2 B a len cap) := R2
    have SX2 : Hid (Stp B w w2) := (SX1.out.alloc _).trans S2
    have HZ : Hid ((s ++ y).size ≤ 1001) := (by rw [ByteArray.size_append]; omega : (s ++ y).size ≤ 1001)
    clear R2 S2 hy
    go_wp2
    go_ret
    exact ⟨_, rfl, HZ.out, RX2.out, SX2.out⟩
  have q3 : (((n : Nat) : Int) == 3) = false := beq_eq_false_iff_ne.2 (by omega)
  by_cases n2 : n = 2 ∧ 0 < s.size
  · obtain ⟨rfl, hs0⟩ := n2
    have hs0' : (0 : Int) < (s.size : Int) := by omega
    go_wp2_with fail
    refine (rd_below B a len cap (s.size : Int) _ RX1.out (by omega) (by omega)).mono ?_
    rintro e w2 ⟨k, rfl, k1, k2, R2, S2⟩
    obtain ⟨i, rfl⟩ := Int.eq_ofNat_of_zero_le k1
    have hi : (i : Int) < (s.size : Int) := by omega
    have hi2 : (i : Int) ≤ (s.size : Int) := by omega
    have hi3 : (i : Int) + 1 ≤ (s.size : Int) := by omega
    have hi4 : (0 : Int) ≤ (i : Int) + 1 := by omega
    have hi5 : IntKind.i64.wrap ((i : Int) + 1) = (i : Int) + 1 := by rw [IntKind.wrap_i64]; omega
    have hi6 : ((i : Int) + 1).toNat = i + 1 := by omega
    have RX2 : Hid (Rd w2 B a len cap) := R2
    have SX2 : Hid (Stp B w w2) := SX1.out.trans S2
    have hB2 : B < w2.heap.size := R2.2.2.2.1
    clear R2 S2 RX1 SX1
    go_wp2
    go_region_with (first
      | (go_at_call 18
         refine (rd_below B a len cap 6 _ (by first | exact RX2.out | exact RX2.out.drewd | exact (RX2.out.alloc _).drewd) (by omega) (by omega)).mono ?_
         rintro e w3 ⟨k, rfl, k1, k2, R3, S3⟩
         obtain ⟨m, rfl⟩ := Int.eq_ofNat_of_zero_le k1
         have hm : m < 6 := by omega
         have hm' : (m : Int) < 6 := by omega
         obtain ⟨y, hy⟩ : ∃ y, y = hurts[m]'(by simpa [hurts] using hm) := ⟨_, rfl⟩
         have hys : y.size = 1 := by rw [hy]; exact hurts_le _ (List.getElem_mem _)
         have hcA : ∀ W : World, (W.alloc (.cells #[.string ⟨#[48]⟩, .string ⟨#[49]⟩, .string ⟨#[32]⟩, .string ⟨#[45]⟩, .string ⟨#[57]⟩, .string ⟨#[120]⟩] 9)).cell? ⟨W.heap.size, m, none⟩ = some (.string y) := fun W => by rw [hy]; exact strs_cell W hurts m (by simpa [hurts] using hm)
         first
           | (have hcB : w3.cell? ⟨w2.heap.size, m, none⟩ = some (.string y) := by
                rw [S3.cell (p := ⟨w2.heap.size, m, none⟩) (by show w2.heap.size < (World.alloc w2 _).heap.size; simp) (by show w2.heap.size ≠ B; omega)]
                exact hcA w2)
           | skip
         have hx1 : (s.extract 0 i).size ≤ 1000 := by rw [ByteArray.size_extract]; omega
         have hx2 : (s.extract (i + 1) s.size).size ≤ 1000 := by rw [ByteArray.size_extract]; omega
         have hx3 : (s.extract 0 i ++ y).size ≤ 1001 := by rw [ByteArray.size_append]; omega
         have ha1 := fun W => add_run W (s.extract 0 i) y (by omega) (by omega)
         have ha2 := fun W => add_run W (s.extract 0 i ++ y) (s.extract (i + 1) s.size) (by omega) (by omega)
         have HZ : Hid ((s.extract 0 i ++ y ++ s.extract (i + 1) s.size).size ≤ 1001) := (by rw [ByteArray.size_append, ByteArray.size_append, ByteArray.size_extract, ByteArray.size_extract]; omega : (s.extract 0 i ++ y ++ s.extract (i + 1) s.size).size ≤ 1001)
         have RX3 : Hid (Rd w3 B a len cap) := R3
         have SX3 : Hid (Stp B w w3) := by first | exact SX2.out.trans S3 | exact SX2.out.drewd.trans S3 | exact (SX2.out.alloc _).drewd.trans S3
         clear R3 S3 hy))
    all_goals go_wp2
    all_goals go_ret
    all_goals first
      | exact ⟨_, rfl, HZ.out, RX3.out, SX3.out⟩
      | exact ⟨_, rfl, HZ.out, RX3.out.alloc _, SX3.out.alloc _⟩
  · by_cases n2' : n = 2
    · subst n2'
      have hs0 : ¬ (0 : Int) < (s.size : Int) := by omega
      go_wp2
      go_ret
      exact ⟨_, rfl, by omega, RX1.out, SX1.out⟩
    · have q2 : (((n : Nat) : Int) == 2) = false := beq_eq_false_iff_ne.2 (by omega)
      go_wp2
      go_ret
      exact ⟨_, rfl, by omega, RX1.out, SX1.out⟩
end Go.Proofs.Ythmmlcmeaokdnaa
