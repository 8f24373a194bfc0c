/- Copies of lists, of the program: copied; empty lists of one's own. Conditions: at most 1048576 of each. -/
import Derived.Test.YtcalgmhpagpnnaaDsk
import Derived.Test.YtcalgmhpagpnnaaNws
namespace Go.Proofs.Ytcalgmhpagpnnaa
open Go.RowKit
set_option maxRecDepth 8000

set_option maxHeartbeats 1000000 in
theorem implCopyFl (a : Option Addr) (n c : Nat) (F : Nat → Fl) (w : World) (h : Fls w a n F) :
    Calls Try.prog 54 #[.slice a n c] w fun e w' => (∃ va vc, e = .returned (.slice va n vc) ∧ FlL w' w.heap.size (.slice va n vc) (lst F n)) ∧ Below w.heap.size w w' := by
  have H : Hid (Fls w a n F) := h
  have hn := h.1
  clear h
  obtain ⟨i0, hi, hz0, hz1, hz2⟩ := info_parts infoFl
  cases a with
  | none =>
    have h0 : n = 0 := by
      rcases H.out.2 with h0 | ⟨b, o, ha, _⟩
      · exact h0
      · cases ha
    subst h0
    go_enter Try.func54, Try.ntmps54
    go_wp2
    go_ret
    exact ⟨⟨none, 0, rfl, FlL.nil _ _⟩, Below.refl _ _⟩
  | some q =>
    have hlen : Hid ((lst F n).length = n) := lst_len F n
    have A0 : Hid (FlL w w.heap.size (.slice none 0 0) []) := FlL.nil _ _
    go_enter Try.func54, Try.ntmps54
    go_wp2_with (at_builtin; refine wpList_append_own _ rfl _ _ 24 rfl w.heap.size 75 i0 _ 2 32 Try.underlying24 hi hz0 hz1 hz2 rfl (by decide) _ _ _ rfl A0.out q n c ((lst F n).flatMap FlC) rfl (by rw [flatFl_len, hlen.out]) H.out.news (Fls.ones _) (by unfold maxLen; simp; omega) (by simp; omega) (Nat.le_refl _) ?_; intro v1 w1 hown hgrow _)
    have A2 : FlL w1 w.heap.size v1 (lst F n) := by
      unfold FlL
      rw [hlen.out]
      simpa using hown
    obtain ⟨va, vc, hv, _, _⟩ := A2.shape
    rw [hlen.out] at hv
    subst hv
    have A3 : Hid (FlL w1 w.heap.size (.slice va n vc) (lst F n)) := A2
    have B2 : Hid (Below w.heap.size w w1) := (Below.refl _ _).grown hgrow (Nat.le_refl _) (fun k hk => by cases hk)
    clear A2 hown hgrow
    go_ret
    exact ⟨⟨va, vc, rfl, A3.out⟩, B2.out⟩

set_option maxHeartbeats 1000000 in
theorem implCopyDp (a : Option Addr) (n c : Nat) (F : Nat → Dp) (w : World) (h : Dps w a n F) :
    Calls Try.prog 85 #[.slice a n c] w fun e w' => (∃ va vc, e = .returned (.slice va n vc) ∧ DpL w' w.heap.size (.slice va n vc) (lst F n)) ∧ Below w.heap.size w w' := by
  have H : Hid (Dps w a n F) := h
  have hn := h.1
  clear h
  obtain ⟨i0, hi, hz0, hz1, hz2⟩ := info_parts infoDp
  cases a with
  | none =>
    have h0 : n = 0 := by
      rcases H.out.2 with h0 | ⟨b, o, ha, _⟩
      · exact h0
      · cases ha
    subst h0
    go_enter Try.func85, Try.ntmps85
    go_wp2
    go_ret
    exact ⟨⟨none, 0, rfl, DpL.nil _ _⟩, Below.refl _ _⟩
  | some q =>
    have hlen : Hid ((lst F n).length = n) := lst_len F n
    have A0 : Hid (DpL w w.heap.size (.slice none 0 0) []) := DpL.nil _ _
    go_enter Try.func85, Try.ntmps85
    go_wp2_with (at_builtin; refine wpList_append_own _ rfl _ _ 25 rfl w.heap.size 36 i0 _ 4 56 Try.underlying25 hi hz0 hz1 hz2 rfl (by decide) _ _ _ rfl A0.out q n c ((lst F n).flatMap DpC) rfl (by rw [flatDp_len, hlen.out]) H.out.news (Dps.ones _) (by unfold maxLen; simp; omega) (by simp; omega) (Nat.le_refl _) ?_; intro v1 w1 hown hgrow _)
    have A2 : DpL w1 w.heap.size v1 (lst F n) := by
      unfold DpL
      rw [hlen.out]
      simpa using hown
    obtain ⟨va, vc, hv, _, _⟩ := A2.shape
    rw [hlen.out] at hv
    subst hv
    have A3 : Hid (DpL w1 w.heap.size (.slice va n vc) (lst F n)) := A2
    have B2 : Hid (Below w.heap.size w w1) := (Below.refl _ _).grown hgrow (Nat.le_refl _) (fun k hk => by cases hk)
    clear A2 hown hgrow
    go_ret
    exact ⟨⟨va, vc, rfl, A3.out⟩, B2.out⟩
end Go.Proofs.Ytcalgmhpagpnnaa
