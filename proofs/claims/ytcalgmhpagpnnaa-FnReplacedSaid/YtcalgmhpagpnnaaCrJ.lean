/- Crash of both sides: one answer. Conditions: the disk and the places lie in memory. -/
import Derived.Test.YtcalgmhpagpnnaaCrI
import Derived.Test.YtcalgmhpagpnnaaCrS
import Derived.Test.YtcalgmhpagpnnaaCrT
namespace Go.Proofs.Ytcalgmhpagpnnaa
open Go.RowKit
set_option maxRecDepth 8000

/-- Crash is done. -/
def crB (Lv Sf : List Fl) (O : Nat → Dp) (r : Nat) (K : Nat → Int) (n : Nat) (t : Int) : Bool :=
  diskB Lv Sf (lst O r) && kpB r K n && decide (0 ≤ t) && filesB (crF O K n t Sf n)
/-- The files behind it. -/
def crL (Lv Sf : List Fl) (O : Nat → Dp) (r : Nat) (K : Nat → Int) (n : Nat) (t : Int) : List Fl := sy1 (crB Lv Sf O r K n t) (crF O K n t Sf n)
theorem crL_len (Lv Sf : List Fl) (O : Nat → Dp) (r : Nat) (K : Nat → Int) (n : Nat) (t : Int) : (crL Lv Sf O r K n t).length ≤ 1048576 := by
  unfold crL
  cases hb : crB Lv Sf O r K n t
  · simp [sy1]
  · simp only [sy1, if_true]
    simp only [crB, Bool.and_eq_true] at hb
    obtain ⟨⟨h1, h2⟩, h3, h4⟩ := filesB_iff.1 hb.2
    omega
theorem cr_no {Lv Sf : List Fl} {O : Nat → Dp} {r : Nat} {K : Nat → Int} {n : Nat} {t : Int} (h : diskB Lv Sf (lst O r) = false ∨ kpB r K n = false ∨ t < 0) : crB Lv Sf O r K n t = false ∧ crL Lv Sf O r K n t = [] := by
  have : crB Lv Sf O r K n t = false := by
    unfold crB
    rcases h with h | h | h
    · rw [h]; rfl
    · rw [h]; simp
    · rw [decide_eq_false (by omega)]; simp
  exact ⟨this, by unfold crL; rw [this]; rfl⟩
theorem cr_yes {Lv Sf : List Fl} {O : Nat → Dp} {r : Nat} {K : Nat → Int} {n : Nat} {t : Int} (h1 : diskB Lv Sf (lst O r) = true) (h2 : kpB r K n = true) (h3 : 0 ≤ t) : crB Lv Sf O r K n t = filesB (crF O K n t Sf n) ∧ crL Lv Sf O r K n t = sy1 (filesB (crF O K n t Sf n)) (crF O K n t Sf n) := by
  have : crB Lv Sf O r K n t = filesB (crF O K n t Sf n) := by
    unfold crB
    rw [h1, h2, decide_eq_true h3]
    rfl
  exact ⟨this, by unfold crL; rw [this]⟩

theorem implCr (q q' q'' : Option Addr) (l m r c c' c'' : Nat) (F G : Nat → Fl) (O : Nat → Dp) (a : Option Addr) (n ck : Nat) (K : Nat → Int) (t : Int) (w : World) (h : Dk w q l F q' m G q'' r O) (hk : Ints w a n K) :
    Calls Try.prog 16 #[.agg #[.slice q l c, .slice q' m c', .slice q'' r c''], .slice a n ck, .int .i64 t] w fun e w' => ∃ v, e = .returned (.tuple #[v, .bool (crB (lst F l) (lst G m) O r K n t)]) ∧ DkAns w (crL (lst F l) (lst G m) O r K n t) (crL (lst F l) (lst G m) O r K n t) [] v w' := by
  by_cases hx : diskB (lst F l) (lst G m) (lst O r) = true
  · by_cases hy : kpB r K n = true
    · by_cases ht : 0 ≤ t
      · rw [(cr_yes hx hy ht).1, (cr_yes hx hy ht).2]
        exact implCr_yes q q' q'' l m r c c' c'' F G O a n ck K t w h hk hx hy ht
      · have ht' : t < 0 := by omega
        rw [(cr_no (Or.inr (Or.inr ht'))).1, (cr_no (Or.inr (Or.inr ht'))).2]
        exact implCr_neg q q' q'' l m r c c' c'' F G O a n ck K t w h hk hx hy ht'
    · have hy' : kpB r K n = false := by simpa using hy
      rw [(cr_no (Or.inr (Or.inl hy'))).1, (cr_no (Or.inr (Or.inl hy'))).2]
      exact implCr_keep q q' q'' l m r c c' c'' F G O a n ck K t w h hk hx hy'
  · have hx' : diskB (lst F l) (lst G m) (lst O r) = false := by simpa using hx
    rw [(cr_no (Or.inl hx')).1, (cr_no (Or.inl hx')).2]
    exact implCr_disk q q' q'' l m r c c' c'' F G O a n ck K t w h hk hx'

theorem specCr (q q'' : Option Addr) (p' : Addr) (l m r c c' c'' : Nat) (F G : Nat → Fl) (O : Nat → Dp) (a : Option Addr) (n ck : Nat) (K : Nat → Int) (t : Int) (w : World) (h : Dk w q l F (some p') m G q'' r O) (hk : Ints w a n K) :
    Calls Try.prog 34 #[.agg #[.slice q l c, .slice (some p') m c', .slice q'' r c''], .slice a n ck, .int .i64 t] w fun e w' => ∃ v, e = .returned (.tuple #[v, .bool (crB (lst F l) (lst G m) O r K n t)]) ∧ DkAns w (crL (lst F l) (lst G m) O r K n t) (crL (lst F l) (lst G m) O r K n t) [] v w' := by
  by_cases hx : diskB (lst F l) (lst G m) (lst O r) = true
  · by_cases ht : 0 ≤ t
    · by_cases hy : kpB r K n = true
      · rw [(cr_yes hx hy ht).1, (cr_yes hx hy ht).2]
        exact specCr_yes q q'' p' l m r c c' c'' F G O a n ck K t w h hk hx hy ht
      · have hy' : kpB r K n = false := by simpa using hy
        rw [(cr_no (Or.inr (Or.inl hy'))).1, (cr_no (Or.inr (Or.inl hy'))).2]
        exact specCr_keep q (some p') q'' l m r c c' c'' F G O a n ck K t w h hk hx ht hy'
    · have ht' : t < 0 := by omega
      rw [(cr_no (Or.inr (Or.inr ht'))).1, (cr_no (Or.inr (Or.inr ht'))).2]
      exact specCr_neg q (some p') q'' l m r c c' c'' F G O a n ck K t w h hk hx ht'
  · have hx' : diskB (lst F l) (lst G m) (lst O r) = false := by simpa using hx
    rw [(cr_no (Or.inl hx')).1, (cr_no (Or.inl hx')).2]
    exact specCr_disk q (some p') q'' l m r c c' c'' F G O a n ck K t w h hk hx'
end Go.Proofs.Ytcalgmhpagpnnaa
