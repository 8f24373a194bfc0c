/- Plain facts on the calendar: leap years, days ahead of a year and of a month, the year of a day. Nothing of the program. -/
namespace Go.Proofs.YtenlgmjlblggmaaDoor.Cal
def lp (y : Int) : Int := if y % 4 = 0 ∧ (y % 100 ≠ 0 ∨ y % 400 = 0) then 1 else 0
def dby (y : Int) : Int := 365 * (y - 1) + (y - 1) / 4 - (y - 1) / 100 + (y - 1) / 400
def dim (y m : Int) : Int := if m = 4 ∨ m = 6 ∨ m = 9 ∨ m = 11 then 30 else if m = 2 then 28 + lp y else 31
def cum (y m : Int) : Int :=
  if m ≤ 1 then 0 else if m = 2 then 31 else
  (if m = 3 then 59 else if m = 4 then 90 else if m = 5 then 120 else if m = 6 then 151 else if m = 7 then 181 else if m = 8 then 212 else if m = 9 then 243 else if m = 10 then 273 else if m = 11 then 304 else if m = 12 then 334 else 365) + lp y

theorem lp_01 (y : Int) : 0 ≤ lp y ∧ lp y ≤ 1 := by unfold lp; split <;> omega
theorem dim_bd (y m : Int) : 28 ≤ dim y m ∧ dim y m ≤ 31 := by
  have := lp_01 y
  unfold dim; repeat' split
  all_goals omega
theorem cum_one (y : Int) : cum y 1 = 0 := by simp [cum]
theorem cum_succ (y m : Int) (h1 : 1 ≤ m) (h2 : m ≤ 12) : cum y (m + 1) = cum y m + dim y m := by
  have : m = 1 ∨ m = 2 ∨ m = 3 ∨ m = 4 ∨ m = 5 ∨ m = 6 ∨ m = 7 ∨ m = 8 ∨ m = 9 ∨ m = 10 ∨ m = 11 ∨ m = 12 := by omega
  rcases this with h | h | h | h | h | h | h | h | h | h | h | h <;> subst h <;> simp [cum, dim] <;> omega
theorem cum_13 (y : Int) : cum y 13 = 365 + lp y := by simp [cum]
theorem cum_mono (y a b : Int) (h1 : 1 ≤ a) (h : a ≤ b) (h2 : b ≤ 13) : cum y a ≤ cum y b := by
  have hn : ∀ n : Nat, a + n ≤ 13 → cum y a ≤ cum y (a + n) := by
    intro n
    induction n with
    | zero => intro _; simp
    | succ k ih =>
      intro hk
      have i := ih (by omega)
      have s := cum_succ y (a + k) (by omega) (by omega)
      have d := dim_bd y (a + k)
      have e : a + ((k + 1 : Nat) : Int) = a + k + 1 := by omega
      rw [e, s]; omega
  have := hn (b - a).toNat (by omega)
  have e : a + ((b - a).toNat : Int) = b := by omega
  rwa [e] at this
theorem cum_bd (y m : Int) (h1 : 1 ≤ m) (h2 : m ≤ 13) : 0 ≤ cum y m ∧ cum y m ≤ 366 := by
  have a := cum_mono y 1 m (by omega) (by omega) (by omega)
  have b := cum_mono y m 13 (by omega) (by omega) (by omega)
  rw [cum_one] at a
  rw [cum_13] at b
  have := lp_01 y
  omega
theorem dby_mono (a b : Int) (_h0 : 1 ≤ a) (h : a ≤ b) : dby a ≤ dby b := by unfold dby; omega
theorem dby_succ (y : Int) (_h : 1 ≤ y) : dby (y + 1) = dby y + 365 + lp y := by
  unfold dby lp
  split <;> omega
theorem dby_bd (y : Int) (h0 : 1 ≤ y) (h : y ≤ 10000) : 0 ≤ dby y ∧ dby y ≤ 3652059 := by unfold dby; omega
theorem dby_guess (day : Int) (h0 : 0 ≤ day) : dby (day / 366 + 1) ≤ day := by unfold dby; omega
theorem dby_uniq (a b day : Int) (ha : 1 ≤ a) (hb : 1 ≤ b) (h1 : dby a ≤ day) (h2 : day < dby (a + 1)) (h3 : dby b ≤ day) (h4 : day < dby (b + 1)) : a = b := by
  by_cases h : a < b
  · have := dby_mono (a + 1) b (by omega) (by omega); omega
  · by_cases h' : b < a
    · have := dby_mono (b + 1) a (by omega) (by omega); omega
    · omega
theorem cum_uniq (y a b left : Int) (ha : 1 ≤ a) (hb : 1 ≤ b) (ha' : a ≤ 12) (hb' : b ≤ 12) (h1 : cum y a ≤ left) (h2 : left < cum y (a + 1)) (h3 : cum y b ≤ left) (h4 : left < cum y (b + 1)) : a = b := by
  by_cases h : a < b
  · have := cum_mono y (a + 1) b (by omega) (by omega) (by omega); omega
  · by_cases h' : b < a
    · have := cum_mono y (b + 1) a (by omega) (by omega) (by omega); omega
    · omega
-- the year of a day
theorem yearAt (day : Int) (h0 : 0 ≤ day) (q d1 c d2 f d3 y left : Int)
    (hq : q = day / 146097) (hd1 : d1 = day % 146097) (hc : c = min (d1 / 36524) 3) (hd2 : d2 = d1 - c * 36524)
    (hf : f = d2 / 1461) (hd3 : d3 = d2 % 1461) (hy : y = min (d3 / 365) 3) (hl : left = d3 - y * 365) :
    dby (q * 400 + c * 100 + f * 4 + y + 1) + left = day ∧ 0 ≤ left ∧ left < 365 + lp (q * 400 + c * 100 + f * 4 + y + 1) ∧ 0 ≤ q ∧ 0 ≤ c ∧ c ≤ 3 ∧ 0 ≤ f ∧ f ≤ 24 ∧ 0 ≤ y ∧ y ≤ 3 := by
  have b1 : 0 ≤ d1 ∧ d1 < 146097 := by omega
  have b2 : 0 ≤ c ∧ c ≤ 3 := by omega
  have b3 : 0 ≤ d2 ∧ d2 ≤ 36524 ∧ (c ≤ 2 → d2 < 36524) := by omega
  have b4 : 0 ≤ f ∧ f ≤ 24 := by omega
  have b5 : 0 ≤ d3 ∧ d3 ≤ 1460 ∧ (f = 24 → c ≤ 2 → d3 < 1460) := by omega
  have b6 : 0 ≤ y ∧ y ≤ 3 := by omega
  have b7 : 0 ≤ left ∧ left ≤ 365 ∧ (y ≤ 2 → left < 365) ∧ (y = 3 → f = 24 → c ≤ 2 → left < 365) := by omega
  have q0 : 0 ≤ q := by omega
  have e4 : (q * 400 + c * 100 + f * 4 + y + 1 - 1) / 4 = q * 100 + c * 25 + f := by omega
  have e100 : (q * 400 + c * 100 + f * 4 + y + 1 - 1) / 100 = q * 4 + c := by omega
  have e400 : (q * 400 + c * 100 + f * 4 + y + 1 - 1) / 400 = q := by omega
  refine ⟨?_, by omega, ?_, by omega, by omega, by omega, by omega, by omega, by omega, by omega⟩
  · unfold dby; rw [e4, e100, e400]; omega
  · unfold lp
    split
    · omega
    · rename_i hn
      by_cases h : y = 3
      · have : ¬ (f = 24 ∧ c = 3) := by rintro ⟨rfl, rfl⟩; subst h; apply hn; omega
        by_cases hf24 : f = 24
        · omega
        · exfalso; apply hn; omega
      · omega
theorem yearAt_of {day : Int} (h0 : 0 ≤ day) {Y L : Int} (c d2 y : Int) (hc : c = min (day % 146097 / 36524) 3) (hd2 : d2 = day % 146097 - c * 36524)
    (hy : y = min (d2 % 1461 / 365) 3) (hY : Y = day / 146097 * 400 + c * 100 + d2 / 1461 * 4 + y + 1) (hl : L = d2 % 1461 - y * 365) :
    dby Y + L = day ∧ 0 ≤ L ∧ L < 365 + lp Y ∧ 1 ≤ Y := by
  have := yearAt day h0 (day / 146097) (day % 146097) c d2 (d2 / 1461) (d2 % 1461) y L rfl rfl hc hd2 rfl rfl hy hl
  rw [← hY] at this
  exact ⟨this.1, this.2.1, this.2.2.1, by omega⟩
end Go.Proofs.YtenlgmjlblggmaaDoor.Cal
