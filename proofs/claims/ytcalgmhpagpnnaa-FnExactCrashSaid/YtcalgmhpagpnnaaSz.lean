/- How great a disk is, as the laws count. Conditions: strings of at most 2^63 - 1 bytes. -/
import Derived.Test.YtcalgmhpagpnnaaDmK
namespace Go.Proofs.Ytcalgmhpagpnnaa
open Go.RowKit
set_option maxRecDepth 8000

/-- What is left of m when k is asked. -/
def SzOut (m : Int) (k : Nat) (r : Int) : Prop := (r = m - (k : Int) ∧ (k : Int) ≤ m) ∨ (r = -1 ∧ m < (k : Int))
/-- How much a record asks of what is left. -/
def costFl (a : Fl) : Nat := a.name.size + a.data.size
def SmallFl (a : Fl) : Prop := a.name.size ≤ 9223372036854775807 ∧ a.data.size ≤ 9223372036854775807
set_option maxHeartbeats 1000000 in
theorem szFl (a : Fl) (m : Int) (w : World) (hs : SmallFl a) (h0 : 0 ≤ m) (hm : m ≤ 1048576) :
    Calls Try.prog 86 #[.agg #[.string a.name, .string a.data], .int .i64 m] w fun e w' => (∃ r : Int, e = .returned (.int .i64 r) ∧ SzOut m (costFl a) r) ∧ Below w.heap.size w w' := by
  have B0 : Hid (Below w.heap.size w (w.alloc (.cells #[.string a.name, .string a.data] 125))) := (Below.refl _ _).alloc (Nat.le_refl _) _
  obtain ⟨s0, s1⟩ := hs
  by_cases q0 : (a.name.size : Int) ≤ m
  rotate_left
  · have E : Hid (SzOut m (costFl a) (-1)) := Or.inr ⟨rfl, by unfold costFl; omega⟩
    go_enter Try.func86, Try.ntmps86
    go_wp2
    go_ret
    exact ⟨⟨_, rfl, E.out⟩, B0.out⟩
  by_cases q1 : (a.data.size : Int) ≤ m - (a.name.size : Int)
  rotate_left
  · have E : Hid (SzOut m (costFl a) (-1)) := Or.inr ⟨rfl, by unfold costFl; omega⟩
    go_enter Try.func86, Try.ntmps86
    go_wp2
    go_ret
    exact ⟨⟨_, rfl, E.out⟩, B0.out⟩
  have E : Hid (SzOut m (costFl a) (m - (a.name.size : Int) - (a.data.size : Int))) := Or.inl ⟨by unfold costFl; omega, by unfold costFl; omega⟩
  go_enter Try.func86, Try.ntmps86
  go_wp2
  go_ret
  exact ⟨⟨_, rfl, E.out⟩, B0.out⟩
def totFl (F : Nat → Fl) : Nat → Nat
  | 0 => 0
  | k + 1 => totFl F k + costFl (F k)
theorem totFl_le {F : Nat → Fl} {k n : Nat} (h : k ≤ n) : totFl F k ≤ totFl F n := by
  induction n with
  | zero => obtain rfl : k = 0 := by omega
            exact Nat.le_refl _
  | succ n ih =>
    by_cases e : k = n + 1
    · subst e; exact Nat.le_refl _
    · exact Nat.le_trans (ih (by omega)) (Nat.le_add_right _ _)
theorem totFl_at {F : Nat → Fl} {k n : Nat} (h : k < n) : costFl (F k) ≤ totFl F n :=
  Nat.le_trans (Nat.le_add_left _ _) (totFl_le (F := F) (show k + 1 ≤ n from h))
set_option maxHeartbeats 1000000 in
theorem szSFl (a : Option Addr) (n c : Nat) (F : Nat → Fl) (m : Int) (w : World) (hn : n ≤ 9223372036854775807) (h : n ≤ 1048576 → Fls w a n F ∧ ∀ i, i < n → SmallFl (F i)) (h0 : 0 ≤ m) (hm : m ≤ 1048576) :
    Calls Try.prog 64 #[.slice a n c, .int .i64 m] w fun e w' => (∃ r : Int, e = .returned (.int .i64 r) ∧ SzOut m (n + totFl F n) r) ∧ Below w.heap.size w w' := by
  by_cases hnm : (n : Int) ≤ m
  rotate_left
  · have E : Hid (SzOut m (n + totFl F n) (-1)) := Or.inr ⟨rfl, by omega⟩
    clear h
    go_enter Try.func64, Try.ntmps64
    go_wp2
    go_ret
    exact ⟨⟨_, rfl, E.out⟩, Below.refl _ _⟩
  have H : Hid (Fls w a n F) := (h (by omega)).1
  have HS : Hid (∀ i, i < n → SmallFl (F i)) := (h (by omega)).2
  have hn2 : n ≤ 1048576 := by omega
  clear h
  go_enter Try.func64, Try.ntmps64
  go_wp2
  go_loopw [1, 5] (fun t i wr => ∃ (k : Nat) (l : Int), k ≤ n ∧ i = .int .i64 k ∧ t = .int .i64 l ∧ 0 ≤ l ∧ l ≤ 1048576 ∧ Hid (l = m - (n : Int) - (totFl F k : Int)) ∧ Hid (Below w.heap.size w wr)) (fun _ i _ => n - (intOf i).toNat)
  case atStart => exact ⟨0, m - (n : Int), Nat.zero_le _, rfl, rfl, by omega, by omega, (by show m - (n : Int) = m - (n : Int) - ((0 : Nat) : Int); omega), Below.refl _ _⟩
  case round =>
    obtain ⟨k, l, hk, rfl, rfl, hl0, hl1, hl, hB⟩ := hrel
    by_cases hlt : k < n
    · obtain ⟨b, o, rfl, hb0, hA0⟩ := H.out.acc hlt
      obtain ⟨c0, c1⟩ := hA0.of_cells (w' := wr) (fun q => hB.out.cell (p := ⟨b, q, none⟩) hb0)
      clear hA0
      go_wp2_with fail
      refine (szFl (F k) l _ (HS.out k hlt) hl0 hl1).mono ?_
      rintro e w1 ⟨⟨r, rfl, hr⟩, B1⟩
      have B1' : Hid (Below w.heap.size w w1) := hB.out.trans (B1.mono hB.out.size)
      clear B1 c0 c1
      rcases hr with ⟨hr, hc⟩ | ⟨rfl, hc⟩
      · have hr0 : 0 ≤ r := by omega
        have hr1 : r ≤ 1048576 := by omega
        have HR : Hid (r = m - (n : Int) - (totFl F (k + 1) : Int)) := (by have := hl.out; show r = m - (n : Int) - ((totFl F k + costFl (F k) : Nat) : Int); omega : r = m - (n : Int) - (totFl F (k + 1) : Int))
        clear hr hc
        go_wp2
        go_roundw
        case rel => exact ⟨k + 1, r, by omega, by go_num, rfl, hr0, hr1, HR, B1'⟩
        case measure => simp [intOf]; omega
      · have E : Hid (SzOut m (n + totFl F n) (-1)) := Or.inr ⟨rfl, by
          have h1 := hl.out
          have h2 : totFl F k + costFl (F k) ≤ totFl F n := totFl_le (F := F) (show k + 1 ≤ n from hlt)
          omega⟩
        clear hc
        go_wp2
        go_ret
        exact ⟨⟨_, rfl, E.out⟩, B1'.out⟩
    · obtain rfl : k = n := by omega
      have E : Hid (SzOut m (k + totFl F k) l) := Or.inl ⟨by have := hl.out; omega, by have := hl.out; omega⟩
      go_wp2
      go_ret
      exact ⟨⟨_, rfl, E.out⟩, hB.out⟩
/-- How much a record asks of what is left. -/
def costDp (a : Dp) : Nat := a.name.size + a.dst.size + a.data.size
def SmallDp (a : Dp) : Prop := a.name.size ≤ 9223372036854775807 ∧ a.dst.size ≤ 9223372036854775807 ∧ a.data.size ≤ 9223372036854775807
set_option maxHeartbeats 1000000 in
theorem szDp (a : Dp) (m : Int) (w : World) (hs : SmallDp a) (h0 : 0 ≤ m) (hm : m ≤ 1048576) :
    Calls Try.prog 29 #[.agg #[.int .i64 a.kind, .string a.name, .string a.dst, .string a.data], .int .i64 m] w fun e w' => (∃ r : Int, e = .returned (.int .i64 r) ∧ SzOut m (costDp a) r) ∧ Below w.heap.size w w' := by
  have B0 : Hid (Below w.heap.size w (w.alloc (.cells #[.int .i64 a.kind, .string a.name, .string a.dst, .string a.data] 55))) := (Below.refl _ _).alloc (Nat.le_refl _) _
  obtain ⟨s0, s1, s2⟩ := hs
  by_cases q0 : (a.name.size : Int) ≤ m
  rotate_left
  · have E : Hid (SzOut m (costDp a) (-1)) := Or.inr ⟨rfl, by unfold costDp; omega⟩
    go_enter Try.func29, Try.ntmps29
    go_wp2
    go_ret
    exact ⟨⟨_, rfl, E.out⟩, B0.out⟩
  by_cases q1 : (a.dst.size : Int) ≤ m - (a.name.size : Int)
  rotate_left
  · have E : Hid (SzOut m (costDp a) (-1)) := Or.inr ⟨rfl, by unfold costDp; omega⟩
    go_enter Try.func29, Try.ntmps29
    go_wp2
    go_ret
    exact ⟨⟨_, rfl, E.out⟩, B0.out⟩
  by_cases q2 : (a.data.size : Int) ≤ m - (a.name.size : Int) - (a.dst.size : Int)
  rotate_left
  · have E : Hid (SzOut m (costDp a) (-1)) := Or.inr ⟨rfl, by unfold costDp; omega⟩
    go_enter Try.func29, Try.ntmps29
    go_wp2
    go_ret
    exact ⟨⟨_, rfl, E.out⟩, B0.out⟩
  have E : Hid (SzOut m (costDp a) (m - (a.name.size : Int) - (a.dst.size : Int) - (a.data.size : Int))) := Or.inl ⟨by unfold costDp; omega, by unfold costDp; omega⟩
  go_enter Try.func29, Try.ntmps29
  go_wp2
  go_ret
  exact ⟨⟨_, rfl, E.out⟩, B0.out⟩
def totDp (F : Nat → Dp) : Nat → Nat
  | 0 => 0
  | k + 1 => totDp F k + costDp (F k)
theorem totDp_le {F : Nat → Dp} {k n : Nat} (h : k ≤ n) : totDp F k ≤ totDp F n := by
  induction n with
  | zero => obtain rfl : k = 0 := by omega
            exact Nat.le_refl _
  | succ n ih =>
    by_cases e : k = n + 1
    · subst e; exact Nat.le_refl _
    · exact Nat.le_trans (ih (by omega)) (Nat.le_add_right _ _)
theorem totDp_at {F : Nat → Dp} {k n : Nat} (h : k < n) : costDp (F k) ≤ totDp F n :=
  Nat.le_trans (Nat.le_add_left _ _) (totDp_le (F := F) (show k + 1 ≤ n from h))
set_option maxHeartbeats 1000000 in
theorem szSDp (a : Option Addr) (n c : Nat) (F : Nat → Dp) (m : Int) (w : World) (hn : n ≤ 9223372036854775807) (h : n ≤ 1048576 → Dps w a n F ∧ ∀ i, i < n → SmallDp (F i)) (h0 : 0 ≤ m) (hm : m ≤ 1048576) :
    Calls Try.prog 65 #[.slice a n c, .int .i64 m] w fun e w' => (∃ r : Int, e = .returned (.int .i64 r) ∧ SzOut m (n + totDp F n) r) ∧ Below w.heap.size w w' := by
  by_cases hnm : (n : Int) ≤ m
  rotate_left
  · have E : Hid (SzOut m (n + totDp F n) (-1)) := Or.inr ⟨rfl, by omega⟩
    clear h
    go_enter Try.func65, Try.ntmps65
    go_wp2
    go_ret
    exact ⟨⟨_, rfl, E.out⟩, Below.refl _ _⟩
  have H : Hid (Dps w a n F) := (h (by omega)).1
  have HS : Hid (∀ i, i < n → SmallDp (F i)) := (h (by omega)).2
  have hn2 : n ≤ 1048576 := by omega
  clear h
  go_enter Try.func65, Try.ntmps65
  go_wp2
  go_loopw [1, 5] (fun t i wr => ∃ (k : Nat) (l : Int), k ≤ n ∧ i = .int .i64 k ∧ t = .int .i64 l ∧ 0 ≤ l ∧ l ≤ 1048576 ∧ Hid (l = m - (n : Int) - (totDp F k : Int)) ∧ Hid (Below w.heap.size w wr)) (fun _ i _ => n - (intOf i).toNat)
  case atStart => exact ⟨0, m - (n : Int), Nat.zero_le _, rfl, rfl, by omega, by omega, (by show m - (n : Int) = m - (n : Int) - ((0 : Nat) : Int); omega), Below.refl _ _⟩
  case round =>
    obtain ⟨k, l, hk, rfl, rfl, hl0, hl1, hl, hB⟩ := hrel
    by_cases hlt : k < n
    · obtain ⟨b, o, rfl, hb0, hA0⟩ := H.out.acc hlt
      obtain ⟨c0, c1, c2, c3⟩ := hA0.of_cells (w' := wr) (fun q => hB.out.cell (p := ⟨b, q, none⟩) hb0)
      clear hA0
      go_wp2_with fail
      refine (szDp (F k) l _ (HS.out k hlt) hl0 hl1).mono ?_
      rintro e w1 ⟨⟨r, rfl, hr⟩, B1⟩
      have B1' : Hid (Below w.heap.size w w1) := hB.out.trans (B1.mono hB.out.size)
      clear B1 c0 c1 c2 c3
      rcases hr with ⟨hr, hc⟩ | ⟨rfl, hc⟩
      · have hr0 : 0 ≤ r := by omega
        have hr1 : r ≤ 1048576 := by omega
        have HR : Hid (r = m - (n : Int) - (totDp F (k + 1) : Int)) := (by have := hl.out; show r = m - (n : Int) - ((totDp F k + costDp (F k) : Nat) : Int); omega : r = m - (n : Int) - (totDp F (k + 1) : Int))
        clear hr hc
        go_wp2
        go_roundw
        case rel => exact ⟨k + 1, r, by omega, by go_num, rfl, hr0, hr1, HR, B1'⟩
        case measure => simp [intOf]; omega
      · have E : Hid (SzOut m (n + totDp F n) (-1)) := Or.inr ⟨rfl, by
          have h1 := hl.out
          have h2 : totDp F k + costDp (F k) ≤ totDp F n := totDp_le (F := F) (show k + 1 ≤ n from hlt)
          omega⟩
        clear hc
        go_wp2
        go_ret
        exact ⟨⟨_, rfl, E.out⟩, B1'.out⟩
    · obtain rfl : k = n := by omega
      have E : Hid (SzOut m (k + totDp F k) l) := Or.inl ⟨by have := hl.out; omega, by have := hl.out; omega⟩
      go_wp2
      go_ret
      exact ⟨⟨_, rfl, E.out⟩, hB.out⟩

/-- A disk that is handed in, as it is in memory, if it is not too great. -/
structure DkIn (w : World) (a : Option Addr) (n : Nat) (F : Nat → Fl) (b : Option Addr) (m : Nat) (G : Nat → Fl) (d : Option Addr) (q : Nat) (O : Nat → Dp) : Prop where
  n1 : n ≤ 9223372036854775807
  n2 : m ≤ 9223372036854775807
  n3 : q ≤ 9223372036854775807
  live : n ≤ 1048576 → Fls w a n F ∧ ∀ i, i < n → SmallFl (F i)
  safe : m ≤ 1048576 → Fls w b m G ∧ ∀ i, i < m → SmallFl (G i)
  ops : q ≤ 1048576 → Dps w d q O ∧ ∀ i, i < q → SmallDp (O i)
theorem DkIn.below {w w' : World} {a b d : Option Addr} {n m q : Nat} {F G : Nat → Fl} {O : Nat → Dp} (h : DkIn w a n F b m G d q O) (hb : Below w.heap.size w w') : DkIn w' a n F b m G d q O :=
  ⟨h.n1, h.n2, h.n3, fun k => ⟨(h.live k).1.below hb, (h.live k).2⟩, fun k => ⟨(h.safe k).1.below hb, (h.safe k).2⟩, fun k => ⟨(h.ops k).1.below hb, (h.ops k).2⟩⟩
def dkCost (F G : Nat → Fl) (O : Nat → Dp) (n m q : Nat) : Nat := (n + totFl F n) + (m + totFl G m) + (q + totDp O q)
theorem tot_byt (F : Nat → Fl) : ∀ n, byt (lst F n) ≤ totFl F n
  | 0 => Nat.le_refl _
  | n + 1 => by
    have := tot_byt F n
    rw [lst_succ, byt_snoc]
    show _ ≤ totFl F n + ((F n).name.size + (F n).data.size)
    omega
theorem DkIn.dk {w : World} {a b d : Option Addr} {n m q : Nat} {F G : Nat → Fl} {O : Nat → Dp} (h : DkIn w a n F b m G d q O) (hc : dkCost F G O n m q ≤ 1048576) : Dk w a n F b m G d q O := by
  unfold dkCost at hc
  have h1 := tot_byt F n
  have h2 := tot_byt G m
  refine ⟨(h.live (by omega)).1, (h.safe (by omega)).1, (h.ops (by omega)).1, by omega, by omega, fun i hi => ?_⟩
  have := totDp_at (F := O) hi
  unfold costDp at this
  omega

set_option maxHeartbeats 1000000 in
theorem szDisk (a b d : Option Addr) (n m q c c' c'' : Nat) (F G : Nat → Fl) (O : Nat → Dp) (w : World) (h : DkIn w a n F b m G d q O) :
    Calls Try.prog 26 #[.agg #[.slice a n c, .slice b m c', .slice d q c''], .int .i64 1048576] w fun e w' => (∃ r : Int, e = .returned (.int .i64 r) ∧ SzOut 1048576 (dkCost F G O n m q) r) ∧ Below w.heap.size w w' := by
  have H : Hid (DkIn w a n F b m G d q O) := h
  clear h
  have B0 : Hid (Below w.heap.size w (w.alloc (dkBox a n c b m c' d q c'' 50))) := (Below.refl _ _).alloc (Nat.le_refl _) _
  go_enter Try.func26, Try.ntmps26
  go_wp2_with fail
  refine (szSFl a n c F 1048576 _ H.out.n1 (H.out.below B0.out).live (by omega) (by omega)).mono ?_
  rintro e w1 ⟨⟨r, rfl, hr⟩, B1⟩
  have x1 : w1.cell? ⟨w.heap.size, 1, none⟩ = some (.slice b m c') := by rw [B1.cell (p := ⟨w.heap.size, 1, none⟩) (by simp)]; simp [go_sem]
  have x2 : w1.cell? ⟨w.heap.size, 2, none⟩ = some (.slice d q c'') := by rw [B1.cell (p := ⟨w.heap.size, 2, none⟩) (by simp)]; simp [go_sem]
  have hs1 : w.heap.size < w1.heap.size := Nat.lt_of_lt_of_le (by simp) B1.size
  have B1' : Hid (Below w.heap.size w w1) := B0.out.trans (B1.mono B0.out.size)
  clear B1
  rcases hr with ⟨hr, hc⟩ | ⟨rfl, hc⟩
  rotate_left
  · have E : Hid (SzOut 1048576 (dkCost F G O n m q) (-1)) := Or.inr ⟨rfl, by unfold dkCost; omega⟩
    clear hc
    go_wp2
    go_ret
    exact ⟨⟨_, rfl, E.out⟩, B1'.out⟩
  have r0 : 0 ≤ r := by omega
  have r1 : r ≤ 1048576 := by omega
  have HR : Hid (r = 1048576 - ((n + totFl F n : Nat) : Int)) := hr
  clear hr hc
  go_wp2_with fail
  refine (szSFl b m c' G r _ H.out.n2 (H.out.below B1'.out).safe r0 r1).mono ?_
  rintro e w2 ⟨⟨r', rfl, hr⟩, B2⟩
  have y2 := (B2.cell (p := ⟨w.heap.size, 2, none⟩) hs1).trans x2
  have B2' : Hid (Below w.heap.size w w2) := B1'.out.trans (B2.mono B1'.out.size)
  clear B2 x1 x2
  rcases hr with ⟨hr, hc⟩ | ⟨rfl, hc⟩
  rotate_left
  · have E : Hid (SzOut 1048576 (dkCost F G O n m q) (-1)) := Or.inr ⟨rfl, by have := HR.out; unfold dkCost; omega⟩
    clear hc
    go_wp2
    go_ret
    exact ⟨⟨_, rfl, E.out⟩, B2'.out⟩
  have s0 : 0 ≤ r' := by omega
  have s1 : r' ≤ 1048576 := by omega
  have HR2 : Hid (r' = 1048576 - ((n + totFl F n : Nat) : Int) - ((m + totFl G m : Nat) : Int)) := (by have := HR.out; omega : r' = 1048576 - ((n + totFl F n : Nat) : Int) - ((m + totFl G m : Nat) : Int))
  clear hr hc
  go_wp2_with fail
  refine (szSDp d q c'' O r' _ H.out.n3 (H.out.below B2'.out).ops s0 s1).mono ?_
  rintro e w3 ⟨⟨u, rfl, hr⟩, B3⟩
  have B3' : Hid (Below w.heap.size w w3) := B2'.out.trans (B3.mono B2'.out.size)
  clear B3
  rcases hr with ⟨hr, hc⟩ | ⟨rfl, hc⟩
  · have u0 : 0 ≤ u := by omega
    have E : Hid (SzOut 1048576 (dkCost F G O n m q) u) := Or.inl ⟨by have := HR2.out; unfold dkCost; omega, by have := HR2.out; unfold dkCost; omega⟩
    clear hr hc
    go_wp2
    go_ret
    exact ⟨⟨_, rfl, E.out⟩, B3'.out⟩
  · have E : Hid (SzOut 1048576 (dkCost F G O n m q) (-1)) := Or.inr ⟨rfl, by have := HR2.out; unfold dkCost; omega⟩
    clear hc
    go_wp2
    go_ret
    exact ⟨⟨_, rfl, E.out⟩, B3'.out⟩
end Go.Proofs.Ytcalgmhpagpnnaa
