/- Lists in memory, as what is appended. No conditions. -/
import Derived.Test.YtcalgmhpagpnnaaSpAN
import Derived.Test.YtcalgmhpagpnnaaDr
namespace Go.Proofs.Ytcalgmhpagpnnaa
open Go.RowKit
set_option maxRecDepth 8000

theorem Fls.news {w : World} {p : Addr} {n : Nat} {F : Nat → Fl} (h : Fls w (some p) n F) : ∀ j u, ((lst F n).flatMap FlC)[j]? = some u → w.cell? (p.add j) = some u := by
  intro j u hj
  have hjl : j < n * 2 := by
    by_cases e : j < n * 2
    · exact e
    · rw [List.getElem?_eq_none (by rw [flatFl_len, lst_len]; omega)] at hj; cases hj
  have hd : j = (j / 2) * 2 + j % 2 := by omega
  have hq : j / 2 < n := by omega
  obtain ⟨b, o, ea, hbz, hA⟩ := h.acc hq
  have ep : p = ⟨b, o, none⟩ := by simpa using ea
  subst ep
  have hq' : j / 2 < (lst F n).length := by rw [lst_len]; exact hq
  rw [hd, flatFl_get _ _ _ hq' (Nat.mod_lt _ (by omega))] at hj
  have eF : (lst F n)[j / 2] = F (j / 2) := by
    have := lst_get F hq
    rw [List.getElem?_eq_getElem hq'] at this
    simpa using this
  rw [eF] at hj
  have e1 : (⟨b, o, none⟩ : Addr).add j = ⟨b, o + (j / 2) * 2 + j % 2, none⟩ := by
    by_cases h0 : j = 0
    · subst h0; simp [Addr.add]
    · simp only [Addr.add, h0]; simp; omega
  rw [e1]
  obtain ⟨c0, c1⟩ := hA
  have hm : j % 2 < 2 := Nat.mod_lt _ (by omega)
  clear hd e1
  generalize F (j / 2) = x at *
  generalize j % 2 = m at *
  match m, hm with
  | 0, _ => simpa [FlC] using c0.trans hj
  | 1, _ => simpa [FlC] using c1.trans hj
theorem Fls.ones (L : List Fl) : ∀ u ∈ L.flatMap FlC, u.oneCell' = true := by
  intro u hu
  obtain ⟨x, _, hx⟩ := List.mem_flatMap.1 hu
  simp only [FlC, List.mem_cons, List.not_mem_nil, or_false] at hx
  rcases hx with e | e <;> subst e <;> rfl

theorem Dps.news {w : World} {p : Addr} {n : Nat} {F : Nat → Dp} (h : Dps w (some p) n F) : ∀ j u, ((lst F n).flatMap DpC)[j]? = some u → w.cell? (p.add j) = some u := by
  intro j u hj
  have hjl : j < n * 4 := by
    by_cases e : j < n * 4
    · exact e
    · rw [List.getElem?_eq_none (by rw [flatDp_len, lst_len]; omega)] at hj; cases hj
  have hd : j = (j / 4) * 4 + j % 4 := by omega
  have hq : j / 4 < n := by omega
  obtain ⟨b, o, ea, hbz, hA⟩ := h.acc hq
  have ep : p = ⟨b, o, none⟩ := by simpa using ea
  subst ep
  have hq' : j / 4 < (lst F n).length := by rw [lst_len]; exact hq
  rw [hd, flatDp_get _ _ _ hq' (Nat.mod_lt _ (by omega))] at hj
  have eF : (lst F n)[j / 4] = F (j / 4) := by
    have := lst_get F hq
    rw [List.getElem?_eq_getElem hq'] at this
    simpa using this
  rw [eF] at hj
  have e1 : (⟨b, o, none⟩ : Addr).add j = ⟨b, o + (j / 4) * 4 + j % 4, none⟩ := by
    by_cases h0 : j = 0
    · subst h0; simp [Addr.add]
    · simp only [Addr.add, h0]; simp; omega
  rw [e1]
  obtain ⟨c0, c1, c2, c3⟩ := hA
  have hm : j % 4 < 4 := Nat.mod_lt _ (by omega)
  clear hd e1
  generalize F (j / 4) = x at *
  generalize j % 4 = m at *
  match m, hm with
  | 0, _ => simpa [DpC] using c0.trans hj
  | 1, _ => simpa [DpC] using c1.trans hj
  | 2, _ => simpa [DpC] using c2.trans hj
  | 3, _ => simpa [DpC] using c3.trans hj
theorem Dps.ones (L : List Dp) : ∀ u ∈ L.flatMap DpC, u.oneCell' = true := by
  intro u hu
  obtain ⟨x, _, hx⟩ := List.mem_flatMap.1 hu
  simp only [DpC, List.mem_cons, List.not_mem_nil, or_false] at hx
  rcases hx with e | e | e | e <;> subst e <;> rfl
end Go.Proofs.Ytcalgmhpagpnnaa
