/- Files that are the same: l7Same of the specification, slices.Equal of the program. Conditions: they lie in memory, at most 1048576 of each. -/
import Derived.Test.YtcalgmhpagpnnaaFr
import Derived.Test.YtcalgmhpagpnnaaLs
namespace Go.Proofs.Ytcalgmhpagpnnaa
open Go.RowKit
set_option maxRecDepth 8000

/-- The same files at the first k places. -/
def SameTo (F G : Nat → Fl) (k : Nat) : Prop := ∀ j, j < k → F j = G j
def sameL (F G : Nat → Fl) (n m : Nat) : Bool := decide (n = m ∧ ∀ j, j < n → (F j).name = (G j).name ∧ (F j).data = (G j).data)
theorem sameL_iff {F G : Nat → Fl} {n m : Nat} : sameL F G n m = true ↔ lst F n = lst G m := by
  unfold sameL
  rw [decide_eq_true_iff]
  constructor
  · rintro ⟨rfl, h⟩
    refine lst_congr fun i hi => ?_
    have := h i hi
    cases hF : F i; cases hG : G i
    simp [hF, hG] at this
    simp [this]
  · intro h
    have hl := congrArg List.length h
    rw [lst_len, lst_len] at hl
    subst hl
    refine ⟨rfl, fun j hj => ?_⟩
    have h1 := lst_get F hj
    rw [h, lst_get G hj] at h1
    have : G j = F j := by simpa using h1
    rw [this]
    exact ⟨rfl, rfl⟩
theorem below_drewQ {B : Nat} {w W : World} (h : Below B w W) (q : Nat) : Below B w (W.drewN q) := ⟨h.os, h.tape, h.output, h.size, h.block⟩
theorem retS {F G : Nat → Fl} {n m : Nat} {b : Bool} (h : sameL F G n m = b) : Ending.returned (.bool b) = Ending.returned (.bool (sameL F G n m)) := by rw [h]

set_option maxHeartbeats 1000000 in
theorem specSame (a1 a2 : Option Addr) (n m c1 c2 : Nat) (F G : Nat → Fl) (w : World) (h1 : Fls w a1 n F) (h2 : Fls w a2 m G) :
    Calls Try.prog 49 #[.slice a1 n c1, .slice a2 m c2] w fun e w' => e = .returned (.bool (sameL F G n m)) ∧ Below w.heap.size w w' := by
  have H1 : Hid (Fls w a1 n F) := h1
  have H2 : Hid (Fls w a2 m G) := h2
  have hn := h1.1
  have hm := h2.1
  clear h1 h2
  by_cases hnm : n = m
  rotate_left
  · have E : Hid (sameL F G n m = false) := decide_eq_false (fun h => hnm h.1)
    have hnm' : ((n : Int) == (m : Int)) = false := by simp; omega
    have hnm2 : ¬ ((n : Int) = (m : Int)) := by omega
    go_enter Try.func49, Try.ntmps49
    go_wp2
    go_ret
    exact ⟨retS E.out, Below.refl _ _⟩
  subst hnm
  go_enter Try.func49, Try.ntmps49
  go_wp2
  go_loopw [5] (fun i wr => ∃ k : Nat, k ≤ n ∧ i = .int .i64 k ∧ Hid (∀ j, j < k → (F j).name = (G j).name ∧ (F j).data = (G j).data) ∧ Hid (Below w.heap.size w wr)) (fun i _ => n - (intOf i).toNat)
  case atStart => exact ⟨0, Nat.zero_le _, rfl, fun j hj => absurd hj (Nat.not_lt_zero _), Below.refl _ _⟩
  case round =>
    obtain ⟨k, hk, rfl, hs, hB⟩ := hrel
    by_cases hlt : k < n
    · obtain ⟨b, o, rfl, hb0, hA0⟩ := H1.out.acc hlt
      obtain ⟨b', o', rfl, hb0', hA0'⟩ := H2.out.acc hlt
      have hA := hA0.of_cells (w' := wr) (fun q => hB.out.cell (p := ⟨b, q, none⟩) hb0)
      have hA' := hA0'.of_cells (w' := wr) (fun q => hB.out.cell (p := ⟨b', q, none⟩) hb0')
      obtain ⟨c0, c1⟩ := hA
      obtain ⟨d0, d1⟩ := hA'
      clear hA0 hA0'
      by_cases e1 : (F k).name = (G k).name
      · by_cases e2 : (F k).data = (G k).data
        · have HS : Hid (∀ j, j < k + 1 → (F j).name = (G j).name ∧ (F j).data = (G j).data) := fun j hj => by
            by_cases e : j = k
            · subst e; exact ⟨e1, e2⟩
            · exact hs.out j (by omega)
          rw [e1] at c0
          rw [e2] at c1
          clear e1 e2
          go_wp2
          go_quiet (fail)
          go_wp2
          go_roundw
          case rel => exact ⟨k + 1, by omega, by go_num, HS, below_drewQ hB.out _⟩
          case measure => simp [intOf]; omega
        · have E : Hid (sameL F G n n = false) := decide_eq_false (fun h => e2 (h.2 k hlt).2)
          have e3 : ((F k).data.toList == (G k).data.toList) = false := by rw [beq_name]; exact decide_eq_false e2
          rw [e1] at c0
          clear e1 e2
          go_wp2
          go_quiet (fail)
          go_wp2
          go_ret
          exact ⟨retS E.out, below_drewQ hB.out _⟩
      · have E : Hid (sameL F G n n = false) := decide_eq_false (fun h => e1 (h.2 k hlt).1)
        have e3 : ((F k).name.toList == (G k).name.toList) = false := by rw [beq_name]; exact decide_eq_false e1
        clear e1
        go_wp2
        go_quiet (fail)
        go_wp2
        go_ret
        exact ⟨retS E.out, below_drewQ hB.out _⟩
    · obtain rfl : k = n := by omega
      have E : Hid (sameL F G k k = true) := decide_eq_true ⟨rfl, hs.out⟩
      go_wp2
      go_ret
      exact ⟨retS E.out, hB.out⟩

set_option maxHeartbeats 1000000 in
theorem implEqual (a1 a2 : Option Addr) (n m c1 c2 : Nat) (F G : Nat → Fl) (w : World) (h1 : Fls w a1 n F) (h2 : Fls w a2 m G) :
    Calls Try.prog 44 #[.slice a1 n c1, .slice a2 m c2] w fun e w' => e = .returned (.bool (sameL F G n m)) ∧ Below w.heap.size w w' := by
  have H1 : Hid (Fls w a1 n F) := h1
  have H2 : Hid (Fls w a2 m G) := h2
  have hn := h1.1
  have hm := h2.1
  clear h1 h2
  by_cases hnm : n = m
  rotate_left
  · have E : Hid (sameL F G n m = false) := decide_eq_false (fun h => hnm h.1)
    have hnm' : ((n : Int) == (m : Int)) = false := by simp; omega
    have hnm2 : ¬ ((n : Int) = (m : Int)) := by omega
    go_enter Try.func44, Try.ntmps44
    go_wp2
    go_ret
    exact ⟨retS E.out, Below.refl _ _⟩
  subst hnm
  go_enter Try.func44, Try.ntmps44
  go_wp2
  go_loopw [13] (fun i wr => ∃ k : Nat, k ≤ n ∧ i = .int .i64 k ∧ Hid (∀ j, j < k → (F j).name = (G j).name ∧ (F j).data = (G j).data) ∧ Hid (Below w.heap.size w wr)) (fun i _ => n - (intOf i).toNat)
  case atStart => exact ⟨0, Nat.zero_le _, rfl, fun j hj => absurd hj (Nat.not_lt_zero _), Below.refl _ _⟩
  case round =>
    obtain ⟨k, hk, rfl, hs, hB⟩ := hrel
    by_cases hlt : k < n
    · obtain ⟨b, o, rfl, hb0, hA0⟩ := H1.out.acc hlt
      obtain ⟨b', o', rfl, hb0', hA0'⟩ := H2.out.acc hlt
      have hA := hA0.of_cells (w' := wr) (fun q => hB.out.cell (p := ⟨b, q, none⟩) hb0)
      have hA' := hA0'.of_cells (w' := wr) (fun q => hB.out.cell (p := ⟨b', q, none⟩) hb0')
      obtain ⟨c0, c1⟩ := hA
      obtain ⟨d0, d1⟩ := hA'
      clear hA0 hA0'
      by_cases e1 : (F k).name = (G k).name
      · by_cases e2 : (F k).data = (G k).data
        · have HS : Hid (∀ j, j < k + 1 → (F j).name = (G j).name ∧ (F j).data = (G j).data) := fun j hj => by
            by_cases e : j = k
            · subst e; exact ⟨e1, e2⟩
            · exact hs.out j (by omega)
          rw [e1] at c0
          rw [e2] at c1
          clear e1 e2
          go_wp2
          go_quiet (fail)
          go_wp2
          go_roundw
          case rel => exact ⟨k + 1, by omega, by go_num, HS, below_drewQ hB.out _⟩
          case measure => simp [intOf]; omega
        · have E : Hid (sameL F G n n = false) := decide_eq_false (fun h => e2 (h.2 k hlt).2)
          have e3 : ((F k).data.toList == (G k).data.toList) = false := by rw [beq_name]; exact decide_eq_false e2
          rw [e1] at c0
          clear e1 e2
          go_wp2
          go_quiet (fail)
          go_wp2
          go_ret
          exact ⟨retS E.out, below_drewQ hB.out _⟩
      · have E : Hid (sameL F G n n = false) := decide_eq_false (fun h => e1 (h.2 k hlt).1)
        have e3 : ((F k).name.toList == (G k).name.toList) = false := by rw [beq_name]; exact decide_eq_false e1
        clear e1
        go_wp2
        go_quiet (fail)
        go_wp2
        go_ret
        exact ⟨retS E.out, below_drewQ hB.out _⟩
    · obtain rfl : k = n := by omega
      have E : Hid (sameL F G k k = true) := decide_eq_true ⟨rfl, hs.out⟩
      go_wp2
      go_ret
      exact ⟨retS E.out, hB.out⟩
end Go.Proofs.Ytcalgmhpagpnnaa
