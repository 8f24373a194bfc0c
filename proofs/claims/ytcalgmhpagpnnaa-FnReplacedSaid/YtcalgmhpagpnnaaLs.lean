/- Files at places as a list; what right files are, place by place. No conditions. -/
import Derived.Test.YtcalgmhpagpnnaaFma
namespace Go.Proofs.Ytcalgmhpagpnnaa
set_option maxRecDepth 8000

/-- The first n, as a list. -/
def lst {α : Type} (F : Nat → α) (n : Nat) : List α := (List.range n).map F
theorem lst_len {α : Type} (F : Nat → α) (n : Nat) : (lst F n).length = n := by simp [lst]
theorem lst_succ {α : Type} (F : Nat → α) (n : Nat) : lst F (n + 1) = lst F n ++ [F n] := by simp [lst, List.range_succ]
theorem lst_get {α : Type} (F : Nat → α) {n i : Nat} (h : i < n) : (lst F n)[i]? = some (F i) := by simp [lst, h]
theorem lst_mem {α : Type} {F : Nat → α} {n : Nat} {x : α} : x ∈ lst F n ↔ ∃ i, i < n ∧ F i = x := by simp [lst]
theorem lst_congr {α : Type} {F G : Nat → α} {n : Nat} (h : ∀ i, i < n → F i = G i) : lst F n = lst G n := by
  unfold lst
  exact List.map_congr_left fun i hi => h i (by simpa using hi)
theorem lst_getD {α : Type} (L : List α) (z : α) : lst (fun j => L.getD j z) L.length = L := by
  apply List.ext_getElem?
  intro i
  by_cases h : i < L.length
  · rw [lst_get _ h]; simp [List.getD, h]
  · rw [List.getElem?_eq_none (by rw [lst_len]; omega), List.getElem?_eq_none (by omega)]

theorem byt_snoc (L : List Fl) (f : Fl) : byt (L ++ [f]) = byt L + f.data.size := by simp [byt]
theorem byt_le {F : Nat → Fl} {k n : Nat} (h : k ≤ n) : byt (lst F k) ≤ byt (lst F n) := by
  induction n with
  | zero => obtain rfl : k = 0 := by omega
            exact Nat.le_refl _
  | succ n ih =>
    by_cases e : k = n + 1
    · subst e; exact Nat.le_refl _
    · have := ih (by omega)
      rw [lst_succ, byt_snoc]
      omega
theorem byt_at {F : Nat → Fl} {k n : Nat} (h : k < n) : byt (lst F k) + (F k).data.size ≤ byt (lst F n) := by
  have := byt_le (F := F) (show k + 1 ≤ n by omega)
  rwa [lst_succ, byt_snoc] at this

theorem ris_succ {F : Nat → Fl} {n : Nat} : Ris Fl.name (lst F (n + 1)) ↔ Ris Fl.name (lst F n) ∧ ∀ j, j < n → lt (F j).name (F n).name = true := by
  unfold Ris
  rw [lst_succ, List.pairwise_append]
  constructor
  · rintro ⟨h1, _, h3⟩
    exact ⟨h1, fun j hj => h3 _ (lst_mem.2 ⟨j, hj, rfl⟩) _ (by simp)⟩
  · rintro ⟨h1, h2⟩
    refine ⟨h1, List.pairwise_singleton _ _, fun x hx y hy => ?_⟩
    obtain ⟨j, hj, rfl⟩ := lst_mem.1 hx
    obtain rfl := List.mem_singleton.1 hy
    exact h2 j hj
theorem ris_lst {F : Nat → Fl} : ∀ {n : Nat}, Ris Fl.name (lst F n) ↔ ∀ j, 0 < j → j < n → lt (F (j - 1)).name (F j).name = true
  | 0 => ⟨fun _ j _ h => by omega, fun _ => List.Pairwise.nil⟩
  | n + 1 => by
    rw [ris_succ, ris_lst (n := n)]
    constructor
    · rintro ⟨h1, h2⟩ j hj hlt
      by_cases e : j = n
      · subst e; exact h2 _ (by omega)
      · exact h1 j hj (by omega)
    · intro h
      refine ⟨fun j hj hlt => h j hj (by omega), ?_⟩
      have chain : ∀ m, m < n → lt (F (n - 1 - m)).name (F n).name = true := by
        intro m
        induction m with
        | zero => intro hm; exact h n (by omega) (by omega)
        | succ m ih =>
          intro hm
          have h1 := ih (by omega)
          have h2 := h (n - 1 - m) (by omega) (by omega)
          have e : n - 1 - m - 1 = n - 1 - (m + 1) := by omega
          rw [e] at h2
          exact lt_trans h2 h1
      intro j hj
      have := chain (n - 1 - j) (by omega)
      have e : n - 1 - (n - 1 - j) = j := by omega
      rwa [e] at this

theorem filesB_iff {L : List Fl} : filesB L = true ↔ (L.length ≤ 60 ∧ byt L ≤ 200000) ∧ (∀ f ∈ L, nmOk f.name = true) ∧ Ris Fl.name L := by
  unfold filesB
  simp [List.all_eq_true, and_assoc]
theorem filesB_no_name {F : Nat → Fl} {n k : Nat} (h : k < n) (hn : nmOk (F k).name = false) : filesB (lst F n) = false := by
  rw [Bool.eq_false_iff]
  intro hh
  have := (filesB_iff.1 hh).2.1 _ (lst_mem.2 ⟨k, h, rfl⟩)
  rw [hn] at this
  cases this
theorem filesB_no_rise {F : Nat → Fl} {n k : Nat} (h : k < n) (h0 : 0 < k) (hn : lt (F (k - 1)).name (F k).name = false) : filesB (lst F n) = false := by
  rw [Bool.eq_false_iff]
  intro hh
  have := ris_lst.1 (filesB_iff.1 hh).2.2 k h0 h
  rw [hn] at this
  cases this
theorem filesB_long {F : Nat → Fl} {n : Nat} (h : 60 < n) : filesB (lst F n) = false := by
  rw [Bool.eq_false_iff]
  intro hh
  have := (filesB_iff.1 hh).1.1
  rw [lst_len] at this
  omega
theorem filesB_end {F : Nat → Fl} {n : Nat} (h1 : ∀ j, j < n → nmOk (F j).name = true) (h2 : ∀ j, 0 < j → j < n → lt (F (j - 1)).name (F j).name = true) : filesB (lst F n) = decide (n ≤ 60 ∧ byt (lst F n) ≤ 200000) := by
  by_cases h : n ≤ 60 ∧ byt (lst F n) ≤ 200000
  · rw [decide_eq_true h, filesB_iff]
    refine ⟨by rw [lst_len]; exact h, fun f hf => ?_, ris_lst.2 h2⟩
    obtain ⟨j, hj, rfl⟩ := lst_mem.1 hf
    exact h1 j hj
  · rw [decide_eq_false h, Bool.eq_false_iff]
    intro hh
    have := (filesB_iff.1 hh).1
    rw [lst_len] at this
    exact h this
end Go.Proofs.Ytcalgmhpagpnnaa
