/- Lists of whole numbers as the exact laws copy, compare and mark them. Conditions: at most 1048576 of them. -/
import Derived.Test.YtcalgmhpagpnnaaCrA
import Derived.Test.YtcalgmhpagpnnaaDsk
namespace Go.Proofs.Ytcalgmhpagpnnaa
open Go.RowKit
set_option maxRecDepth 8000

theorem infoIt : (Try.prog.info? 2).map (fun i => (i.zero, i.size, i.bytes)) = some (some (.int .i64 0), 1, 8) := by kernel_rfl
/-- The zero cells of a row of n numbers. -/
def zerosIt (n : Nat) : Array Value := madeCells #[.int .i64 0] n
theorem makeIt (n : Nat) (hn : n ≤ 1048576) (w : World) : (Instr.makeSlice 30 (.int .i64 (n : Int)) (.int .i64 (n : Int))).run Try.prog w = .ok (.slice (some ⟨w.heap.size, 0, none⟩) n n) (w.alloc (.cells (zerosIt n) 2)) := by
  obtain ⟨i, hi, hz0, hz1, hz2⟩ := info_parts infoIt
  have := run_make (P := Try.prog) w 30 2 i _ Try.underlying30 hi hz0 .i64 .i64 (n : Int) (n : Int) (by omega) (Int.le_refl _) (by rw [hz2]; omega) (by omega)
  rw [hz1] at this
  simpa [zerosIt, Value.cells] using this

/-- A row of n numbers of a call's own, of which the first k are told. -/
def RowIt (w : World) (R n k : Nat) (K : Nat → Int) : Prop :=
  (∀ o, o < n → (w.cell? ⟨R, o, none⟩).isSome = true) ∧ (∀ o, w.frozen? ⟨R, o, none⟩ = false) ∧ R < w.heap.size ∧ ∀ i, i < k → w.cell? ⟨R, i, none⟩ = some (.int .i64 (K i))
theorem RowIt.new (w : World) (n : Nat) (K : Nat → Int) : RowIt (w.alloc (.cells (zerosIt n) 2)) w.heap.size n 0 K := by
  have e : (w.alloc (.cells (zerosIt n) 2)).heap[w.heap.size]? = some (.cells (zerosIt n) 2 (0, 0)) := by
    show (w.heap.push _)[w.heap.size]? = _
    simp
  refine ⟨fun o ho => ?_, fun o => ?_, by simp, fun i hi => absurd hi (Nat.not_lt_zero _)⟩
  · simp only [World.cell?]
    rw [e]
    simp [zerosIt, size_madeCells, ho]
  · simp [go_sem]
theorem RowIt.below {w w' : World} {R n k : Nat} {K : Nat → Int} (h : RowIt w R n k K) (hb : Below w.heap.size w w') : RowIt w' R n k K := by
  obtain ⟨h1, h2, h3, h4⟩ := h
  exact ⟨fun o ho => by rw [hb.cell (p := ⟨R, o, none⟩) h3]; exact h1 o ho, fun o => by rw [hb.frozen (p := ⟨R, o, none⟩) h3]; exact h2 o, Nat.lt_of_lt_of_le h3 hb.size, fun i hi => by rw [hb.cell (p := ⟨R, i, none⟩) h3]; exact h4 i hi⟩
theorem RowIt.keep3 {w w' : World} {R n k : Nat} {K : Nat → Int} {u1 u2 u3 : Value} (h : RowIt w R n k K) (c : Keep3 w w' u1 u2 u3) (hR : ∀ g, (u1.ownBlock = some g ∨ u2.ownBlock = some g ∨ u3.ownBlock = some g) → g ≠ R) : RowIt w' R n k K := by
  obtain ⟨h1, h2, h3, h4⟩ := h
  have hb := c.block R h3 (fun e => hR R (Or.inl e) rfl) (fun e => hR R (Or.inr (Or.inl e)) rfl) (fun e => hR R (Or.inr (Or.inr e)) rfl)
  exact ⟨fun o ho => by rw [World.cell?_of_block (w := w) (a := ⟨R, o, none⟩) hb]; exact h1 o ho, fun o => by rw [World.frozen?_of_block (w := w) (a := ⟨R, o, none⟩) hb]; exact h2 o, Nat.lt_of_lt_of_le h3 c.size, fun i hi => by rw [World.cell?_of_block (w := w) (a := ⟨R, i, none⟩) hb]; exact h4 i hi⟩
theorem RowIt.put {w : World} {R n k : Nat} {K : Nat → Int} (h : RowIt w R n k K) (hk : k < n) (x : Int) (hx : x = K k) : RowIt (w.setCell ⟨R, k, none⟩ (.int .i64 x)) R n (k + 1) K := by
  obtain ⟨h1, h2, h3, h4⟩ := h
  subst hx
  have o : ∀ j, j ≠ k → (w.setCell ⟨R, k, none⟩ (.int .i64 (K k))).cell? ⟨R, j, none⟩ = w.cell? ⟨R, j, none⟩ := fun j hj => World.cell?_setCell_other _ _ _ _ (by intro e; exact hj (congrArg Addr.off e).symm)
  have s : (w.setCell ⟨R, k, none⟩ (.int .i64 (K k))).cell? ⟨R, k, none⟩ = some (.int .i64 (K k)) := World.cell?_setCell_same' _ _ _ (h1 k hk)
  refine ⟨fun j hj => ?_, fun o => by rw [World.frozen?_setCell]; exact h2 o, by simpa [World.setCell] using h3, fun i hi => ?_⟩
  · by_cases e : j = k
    · subst e; rw [s]; rfl
    · rw [o j e]; exact h1 j hj
  · by_cases e : i = k
    · subst e; exact s
    · rw [o i e]; exact h4 i (by omega)
theorem RowIt.ints {w : World} {R n : Nat} {K : Nat → Int} (h : RowIt w R n n K) (hn : n ≤ 1048576) : Ints w (some ⟨R, 0, none⟩) n K :=
  ⟨hn, Or.inr ⟨R, 0, rfl, h.2.2.1, fun i hi => by simpa using h.2.2.2 i hi⟩⟩

set_option maxHeartbeats 1000000 in
theorem toInts (a : Option Addr) (n c : Nat) (K : Nat → Int) (w : World) (h : Ints w a n K) :
    Calls Try.prog 35 #[.slice a n c] w fun e w' => ∃ R, e = .returned (.slice (some ⟨R, 0, none⟩) n n) ∧ R = w.heap.size ∧ RowIt w' R n n K ∧ Below w.heap.size w w' := by
  have H : Hid (Ints w a n K) := h
  have hn := h.1
  clear h
  have hmk := makeIt n hn
  have R0 : Hid (RowIt (w.alloc (.cells (zerosIt n) 2)) w.heap.size n 0 K) := RowIt.new w n K
  go_enter Try.func35, Try.ntmps35
  go_wp2
  go_loopw [4] (fun i wr => ∃ k : Nat, k ≤ n ∧ i = .int .i64 k ∧ Hid (RowIt wr w.heap.size n k K) ∧ Hid (Below w.heap.size w wr)) (fun i _ => n - (intOf i).toNat)
  case atStart => exact ⟨0, Nat.zero_le _, rfl, R0, (Below.refl _ _).alloc (Nat.le_refl _) _⟩
  case round =>
    obtain ⟨k, hk, rfl, hR, hB⟩ := hrel
    clear R0 hmk
    by_cases hlt : k < n
    · obtain ⟨b, o, rfl, hb0, hA0⟩ := H.out.acc hlt
      have c0 : wr.cell? ⟨b, o + k, none⟩ = some (.int .i64 (K k)) := (hB.out.cell (p := ⟨b, o + k, none⟩) hb0).trans hA0
      clear hA0
      have ST : Hid (RowIt (wr.setCell ⟨w.heap.size, k, none⟩ (.int .i64 (K k))) w.heap.size n (k + 1) K) := hR.out.put hlt _ rfl
      have BB : Hid (Below w.heap.size w (wr.setCell ⟨w.heap.size, k, none⟩ (.int .i64 (K k)))) := below_far hB.out (Nat.le_refl _) _ _
      obtain ⟨s1, s2, s3, s4⟩ := hR.out
      obtain ⟨v0, e0⟩ := Option.isSome_iff_exists.1 (s1 k hlt)
      generalize K k = z at *
      clear s1 s4
      go_wp2
      go_roundw
      case rel => exact ⟨k + 1, by omega, by go_num, ST, BB⟩
      case measure => simp [intOf]; omega
    · have hkn : k = n := by omega
      subst hkn
      go_wp2
      go_ret
      exact ⟨_, rfl, rfl, hR.out, hB.out⟩

set_option maxHeartbeats 1000000 in
theorem eqInts (a b : Option Addr) (n c c' : Nat) (K : Nat → Int) (w : World) (h : Ints w a n K) (h' : Ints w b n K) :
    Calls Try.prog 36 #[.slice a n c, .slice b n c'] w fun e w' => e = .returned (.bool true) ∧ Below w.heap.size w w' := by
  have H : Hid (Ints w a n K) := h
  have H' : Hid (Ints w b n K) := h'
  have hn := h.1
  clear h h'
  go_enter Try.func36, Try.ntmps36
  go_wp2
  go_loopw [5] (fun i wr => ∃ (k q : Nat), k ≤ n ∧ i = .int .i64 k ∧ wr = w.drewN q) (fun i _ => n - (intOf i).toNat)
  case atStart => exact ⟨0, 0, Nat.zero_le _, rfl, rfl⟩
  case round =>
    obtain ⟨k, q, hk, rfl, rfl⟩ := hrel
    by_cases hlt : k < n
    · obtain ⟨g, o, rfl, _, c1⟩ := H.out.acc hlt
      obtain ⟨g', o', rfl, _, c2⟩ := H'.out.acc hlt
      generalize K k = z at c1 c2
      have hk0 : (k : Int) < (n : Int) := by omega
      go_wp2
      go_quiet (fail)
      go_wp2
      go_roundw
      case rel => exact ⟨k + 1, _, by omega, by go_num, rfl⟩
      case measure => simp [intOf]; omega
    · go_wp2
      go_ret
      exact ⟨rfl, below_drewN (Below.refl _ _) _⟩

theorem keep_set {w W : World} {R n c : Nat} (h : Keep3 w W (.slice (some ⟨R, 0, none⟩) n c) (.slice (some ⟨R, 0, none⟩) n c) (.slice (some ⟨R, 0, none⟩) n c)) (o : Nat) (u : Value) : Keep3 w (W.setCell ⟨R, o, none⟩ u) (.slice (some ⟨R, 0, none⟩) n c) (.slice (some ⟨R, 0, none⟩) n c) (.slice (some ⟨R, 0, none⟩) n c) :=
  ⟨h.os, h.tape, h.output, by simpa [World.setCell] using h.size, fun g hg h1 h2 h3 => (Below.heap_setCell _ _ _ _ (fun e => h1 (by rw [e]; rfl))).trans (h.block g hg h1 h2 h3)⟩

set_option maxHeartbeats 1000000 in
theorem markInts (R n c : Nat) (K : Nat → Int) (s : Int) (w : World) (h : RowIt w R n n K) (hn : n ≤ 1048576) (hs : 0 ≤ s) (hs' : s ≤ 100000000) :
    Calls Try.prog 37 #[.slice (some ⟨R, 0, none⟩) n c, .int .i64 s] w fun e w' => e = .returned (.int .i64 (s + (n : Int))) ∧ Keep3 w w' (.slice (some ⟨R, 0, none⟩) n c) (.slice (some ⟨R, 0, none⟩) n c) (.slice (some ⟨R, 0, none⟩) n c) := by
  have H : Hid (RowIt w R n 0 (fun i => s + (i : Int))) := ⟨h.1, h.2.1, h.2.2.1, fun i hi => absurd hi (Nat.not_lt_zero _)⟩
  clear h
  have KR : Hid (Keep3 w w (.slice (some ⟨R, 0, none⟩) n c) (.slice (some ⟨R, 0, none⟩) n c) (.slice (some ⟨R, 0, none⟩) n c)) := ⟨rfl, rfl, rfl, Nat.le_refl _, fun _ _ _ _ _ => rfl⟩
  go_enter Try.func37, Try.ntmps37
  go_wp2
  go_loopw [1, 5] (fun t i wr => ∃ (k : Nat), k ≤ n ∧ i = .int .i64 k ∧ t = .int .i64 (s + (k : Int)) ∧ Hid (RowIt wr R n k (fun i => s + (i : Int))) ∧ Hid (Keep3 w wr (.slice (some ⟨R, 0, none⟩) n c) (.slice (some ⟨R, 0, none⟩) n c) (.slice (some ⟨R, 0, none⟩) n c))) (fun _ i _ => n - (intOf i).toNat)
  case atStart => exact ⟨0, Nat.zero_le _, rfl, by simp, H, KR⟩
  case round =>
    obtain ⟨k, hk, rfl, rfl, hR, hK⟩ := hrel
    by_cases hlt : k < n
    · have ST : Hid (RowIt (wr.setCell ⟨R, k, none⟩ (.int .i64 (s + (k : Int)))) R n (k + 1) (fun i => s + (i : Int))) := hR.out.put hlt _ rfl
      have KK : Hid (Keep3 w (wr.setCell ⟨R, k, none⟩ (.int .i64 (s + (k : Int)))) (.slice (some ⟨R, 0, none⟩) n c) (.slice (some ⟨R, 0, none⟩) n c) (.slice (some ⟨R, 0, none⟩) n c)) := keep_set hK.out _ _
      obtain ⟨s1, s2, s3, s4⟩ := hR.out
      obtain ⟨v0, e0⟩ := Option.isSome_iff_exists.1 (s1 k hlt)
      clear s1 s4
      go_wp2
      go_roundw
      case rel => exact ⟨k + 1, by omega, by go_num, by go_num, ST, KK⟩
      case measure => simp [intOf]; omega
    · have hkn : k = n := by omega
      subst hkn
      go_wp2
      go_ret
      exact ⟨rfl, hK.out⟩
end Go.Proofs.Ytcalgmhpagpnnaa
