/- The law FnDays returns true, whatever the bytes of the code: a date comes back from its day, a day from its date, the next day is the next date. Conditions: the bytes lie in memory, and the program's table of months as its text lays it. -/
import Derived.Test.YtjdpaednagingaaDoorDraw
import Derived.Test.YtjdpaednagingaaDoorOver
namespace Go.Proofs.YtjdpaednagingaaDoor
open Go.RowKit

/-- The next date: the next day of the month, or the first one of the next month. -/
theorem next_date {day y m d y' m' d' : Int} (a : IsDate day y m d) (b : IsDate (day + 1) y' m' d') :
    (d < Cal.dim y m ∧ y' = y ∧ m' = m ∧ d' = d + 1) ∨ (d = Cal.dim y m ∧ m ≠ 12 ∧ y' = y ∧ m' = m + 1 ∧ d' = 1) ∨ (d = Cal.dim y m ∧ m = 12 ∧ y' = y + 1 ∧ m' = 1 ∧ d' = 1) := by
  obtain ⟨y1, y2, m1, m2, d1, d2, e⟩ := a
  have hb' := b
  obtain ⟨y1', y2', _, _, _, _, e'⟩ := b
  by_cases hd : d < Cal.dim y m
  · left
    have k : IsDate (day + 1) y m (d + 1) := ⟨y1, y2, m1, m2, by omega, by omega, by omega⟩
    obtain ⟨p, q, r⟩ := hb'.uniq k
    exact ⟨hd, p, q, r⟩
  · have hde : d = Cal.dim y m := by omega
    right
    by_cases hm : m = 12
    · right
      subst hm
      have c13 := Cal.cum_13 y
      have cs := Cal.cum_succ y 12 (by omega) (by omega)
      have ds := Cal.dby_succ y (by omega)
      have c1 := Cal.cum_one (y + 1)
      have e13 : Cal.cum y (12 + 1) = Cal.cum y 13 := rfl
      have hy : y + 1 ≤ 9998 := by
        by_cases hle : y + 1 ≤ 9998
        · exact hle
        · have hm2 := Cal.dby_mono (y' + 1) 9999 (by omega) (by omega)
          have e9 := Cal.dby_mono (y' + 1) (y + 1) (by omega) (by omega)
          have bs := Cal.dby_succ y' (by omega)
          obtain ⟨_, _, b3, b4, b5, b6, _⟩ := hb'
          have cm := Cal.cum_mono y' (m' + 1) 13 (by omega) (by omega) (by omega)
          have cs' := Cal.cum_succ y' m' (by omega) (by omega)
          have c13' := Cal.cum_13 y'
          omega
      have k : IsDate (day + 1) (y + 1) 1 1 := ⟨by omega, hy, by omega, by omega, by omega, by have := Cal.dim_bd (y + 1) 1; omega, by omega⟩
      obtain ⟨p, q, r⟩ := hb'.uniq k
      exact ⟨hde, rfl, p, q, r⟩
    · left
      have cs := Cal.cum_succ y m (by omega) (by omega)
      have k : IsDate (day + 1) y (m + 1) 1 := ⟨y1, y2, by omega, by omega, by omega, by have := Cal.dim_bd y (m + 1); omega, by omega⟩
      obtain ⟨p, q, r⟩ := hb'.uniq k
      exact ⟨hde, hm, p, q, r⟩
/-- A day that a date has gives the date again. -/
theorem day_back {y m d : Int} (h : 0 ≤ dayN y m d) : IsDate (dayN y m d) y m d ∧ dayN y m d ≤ 3000000 ∧ dateB y m d = true := by
  unfold dayN at h ⊢
  by_cases hb : dateB y m d = true
  · rw [if_pos hb] at h ⊢
    by_cases hl : Cal.dby y + Cal.cum y m + d - 1 ≤ 3000000
    · rw [if_pos hl] at h ⊢
      obtain ⟨h1, h2, h3, h4, h5, h6⟩ := dateB_iff.1 hb
      have hy : y ≤ 9998 := by
        by_cases hle : y ≤ 9998
        · exact hle
        · have e : y = 9999 := by omega
          subst e
          have := dby_9999
          have := Cal.cum_bd 9999 m (by omega) (by omega)
          omega
      exact ⟨⟨h1, hy, h3, h4, h5, h6, rfl⟩, hl, hb⟩
    · rw [if_neg hl] at h; omega
  · rw [if_neg hb] at h; omega
theorem dayN_of {day y m d : Int} (h : IsDate day y m d) (h2 : day ≤ 3000000) : dayN y m d = day ∧ dateB y m d = true := by
  obtain ⟨a, b, c, e, f, g, k⟩ := h
  have hb : dateB y m d = true := dateB_yes ⟨a, by omega, c, e, f, g⟩
  unfold dayN
  rw [if_pos hb, k, if_pos h2]
  exact ⟨rfl, hb⟩
end Go.Proofs.YtjdpaednagingaaDoor
