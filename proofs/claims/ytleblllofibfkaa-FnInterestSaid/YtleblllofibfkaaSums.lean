/- Sums over a forest, as plain numbers: all balances of those on whose path an account is, and the account's own with those of its kids. Nothing of the program. -/
import Derived.Test.YtleblllofibfkaaMath
namespace Go.Proofs.Ytleblllofibfkaa

theorem chain_mono (F : Nat → Acc) (n : Nat) : ∀ (m m' : Nat) (x : Int) (l : List Int), m ≤ m' → chain F n m x = some l → chain F n m' x = some l
  | 0, m', x, l, _, h => by
    by_cases h0 : x = 0
    · subst h0
      cases m' <;> simpa [chain] using h
    · simp [chain, h0] at h
  | m + 1, 0, x, l, hm, _ => by omega
  | m + 1, m' + 1, x, l, hm, h => by
    by_cases h0 : x = 0
    · subst h0; simpa [chain] using h
    · simp only [chain, if_neg h0] at h ⊢
      cases hp : place F n x with
      | none => rw [hp] at h; cases h
      | some i =>
        rw [hp] at h
        simp only [Option.map_eq_some_iff] at h ⊢
        obtain ⟨l', h1, h2⟩ := h
        exact ⟨l', chain_mono F n m m' _ l' (by omega) h1, h2⟩
theorem chain_suffix (F : Nat → Acc) (n : Nat) : ∀ (m : Nat) (x y : Int) (l : List Int), m ≤ n → chain F n m x = some l → y ∈ l → ∃ l', chain F n n y = some l' ∧ l'.length ≤ l.length
  | 0, x, y, l, _, h, hy => by
    by_cases h0 : x = 0
    · simp [chain, h0] at h; subst h; cases hy
    · simp [chain, h0] at h
  | m + 1, x, y, l, hm, h, hy => by
    by_cases h0 : x = 0
    · simp [chain, h0] at h; subst h; cases hy
    · by_cases e : y = x
      · subst e
        exact ⟨l, chain_mono F n (m + 1) n y l hm h, Nat.le_refl _⟩
      · simp only [chain, if_neg h0] at h
        cases hp : place F n x with
        | none => rw [hp] at h; cases h
        | some i =>
          rw [hp] at h
          simp only [Option.map_eq_some_iff] at h
          obtain ⟨l1, h1, rfl⟩ := h
          have hy1 : y ∈ l1 := by
            rcases List.mem_cons.1 hy with e' | e'
            · exact absurd e' e
            · exact e'
          obtain ⟨l', a, b⟩ := chain_suffix F n m _ y l1 (by omega) h1 hy1
          exact ⟨l', a, by simp; omega⟩

/-- The path of the account at a place. -/
def pathL (F : Nat → Acc) (n j : Nat) : List Int := (chain F n n (F j).id).getD []
section
variable {F : Nat → Acc} {n : Nat}
theorem Right.id1 (h : Right F n) {j : Nat} (hj : j < n) : 1 ≤ (F j).id := (h.2.1 j hj).1.1
theorem Right.path (h : Right F n) {j : Nat} (hj : j < n) : chain F n n (F j).id = some (pathL F n j) := by
  obtain ⟨l, hl⟩ := Option.isSome_iff_exists.1 (h.2.2.2 j hj)
  simp [pathL, hl]
theorem Right.inj (h : Right F n) {i j : Nat} (hi : i < n) (hj : j < n) (e : (F i).id = (F j).id) : i = j := by
  have a := place_self h.2.2.1 hi
  have b := place_self h.2.2.1 hj
  rw [e, b] at a
  exact (Option.some.inj a).symm
theorem Right.path_root (h : Right F n) {j : Nat} (hj : j < n) (hu : (F j).up = 0) : pathL F n j = [(F j).id] := by
  have hp := h.path hj
  have h1 := h.id1 hj
  cases n with
  | zero => omega
  | succ m =>
    simp only [chain, if_neg (show (F j).id ≠ 0 by omega), place_self h.2.2.1 hj, hu] at hp
    have e : chain F (m + 1) m 0 = some [] := by cases m <;> simp [chain]
    rw [e] at hp
    simpa using hp.symm
theorem Right.path_up (h : Right F n) {j : Nat} (hj : j < n) (hu : (F j).up ≠ 0) : ∃ p, p < n ∧ (F p).id = (F j).up ∧ pathL F n j = (F j).id :: pathL F n p := by
  have hp := h.path hj
  have h1 := h.id1 hj
  cases n with
  | zero => omega
  | succ m =>
    simp only [chain, if_neg (show (F j).id ≠ 0 by omega), place_self h.2.2.1 hj, Option.map_eq_some_iff] at hp
    obtain ⟨l1, h2, h3⟩ := hp
    have hpl : ∃ p, place F (m + 1) (F j).up = some p := by
      cases hq : place F (m + 1) (F j).up with
      | some p => exact ⟨p, rfl⟩
      | none =>
        cases m <;> simp [chain, hu, hq] at h2
    obtain ⟨p, hq⟩ := hpl
    obtain ⟨hpn, hid⟩ := place_some hq
    have h4 := chain_mono F (m + 1) m (m + 1) _ l1 (by omega) h2
    rw [← hid, h.path hpn] at h4
    exact ⟨p, hpn, hid, by rw [← h3, ← Option.some.inj h4]⟩
theorem Right.not_mem (h : Right F n) {j p : Nat} (hj : j < n) (hp : p < n) (e : pathL F n j = (F j).id :: pathL F n p) : (F j).id ∉ pathL F n p := by
  intro hm
  obtain ⟨l', a, b⟩ := chain_suffix F n n _ _ _ (Nat.le_refl _) (h.path hp) hm
  rw [h.path hj] at a
  rw [← Option.some.inj a, e] at b
  simp at b
  omega

/-- Whether account i is on the path of account j, as a number. -/
def on (F : Nat → Acc) (n i j : Nat) : Int := if (F i).id ∈ pathL F n j then 1 else 0
theorem on_root (h : Right F n) {i j : Nat} (hi : i < n) (hj : j < n) (hu : (F j).up = 0) : on F n i j = if i = j then 1 else 0 := by
  unfold on
  rw [h.path_root hj hu]
  by_cases e : i = j
  · subst e; simp
  · rw [if_neg e, if_neg]
    simp only [List.mem_singleton]
    exact fun e' => e (h.inj hi hj e')
theorem on_up (h : Right F n) {i j p : Nat} (hi : i < n) (hj : j < n) (hp : p < n) (e : pathL F n j = (F j).id :: pathL F n p) : on F n i j = (if i = j then 1 else 0) + on F n i p := by
  unfold on
  rw [e]
  by_cases eij : i = j
  · subst eij
    have := h.not_mem hj hp e
    simp [this]
  · have : (F i).id ≠ (F j).id := fun e' => eij (h.inj hi hj e')
    simp [eij, this]
end

/-- A sum over the first n places. -/
def sumTo (f : Nat → Int) : Nat → Int
  | 0 => 0
  | k + 1 => sumTo f k + f k
theorem sumTo_congr {f g : Nat → Int} : ∀ {n : Nat}, (∀ k, k < n → f k = g k) → sumTo f n = sumTo g n
  | 0, _ => rfl
  | n + 1, h => by simp only [sumTo]; rw [sumTo_congr (fun k hk => h k (by omega)), h n (by omega)]
theorem sumTo_add (f g : Nat → Int) : ∀ n, sumTo (fun k => f k + g k) n = sumTo f n + sumTo g n
  | 0 => rfl
  | n + 1 => by simp only [sumTo]; rw [sumTo_add f g n]; omega
theorem sumTo_zero : ∀ n, sumTo (fun _ => 0) n = 0
  | 0 => rfl
  | n + 1 => by simp only [sumTo]; rw [sumTo_zero n]; rfl
theorem sumTo_mul (f : Nat → Int) (x : Int) : ∀ n, sumTo (fun k => f k * x) n = sumTo f n * x
  | 0 => by simp [sumTo]
  | n + 1 => by simp only [sumTo]; rw [sumTo_mul f x n, Int.add_mul]
theorem sumTo_single (x : Int) (j : Nat) : ∀ n, sumTo (fun k => if k = j then x else 0) n = if j < n then x else 0
  | 0 => by simp [sumTo]
  | n + 1 => by
    simp only [sumTo]
    rw [sumTo_single x j n]
    by_cases h1 : j < n
    · rw [if_pos h1, if_neg (by omega), if_pos (by omega)]; omega
    · by_cases h2 : n = j
      · rw [if_neg h1, if_pos h2, if_pos (by omega)]; omega
      · rw [if_neg h1, if_neg h2, if_neg (by omega)]; omega
theorem sumTo_swap (f : Nat → Nat → Int) (m : Nat) : ∀ n, sumTo (fun i => sumTo (fun j => f i j) m) n = sumTo (fun j => sumTo (fun i => f i j) n) m
  | 0 => by simp only [sumTo]; rw [sumTo_zero]
  | n + 1 => by
    simp only [sumTo]
    rw [sumTo_swap f m n, ← sumTo_add]

section
variable {F : Nat → Acc} {n : Nat}
/-- On a path: the account itself, or one of its kids. -/
theorem on_kids (h : Right F n) {i : Nat} (hi : i < n) : ∀ (d j : Nat), j < n → (pathL F n j).length ≤ d → on F n i j = (if j = i then 1 else 0) + sumTo (fun k => if (F k).up = (F i).id then on F n k j else 0) n
  | 0, j, hj, hd => by
    by_cases hu : (F j).up = 0
    · rw [h.path_root hj hu] at hd; simp at hd
    · obtain ⟨p, _, _, e⟩ := h.path_up hj hu
      rw [e] at hd; simp at hd
  | d + 1, j, hj, hd => by
    have hi1 := h.id1 hi
    by_cases hu : (F j).up = 0
    · rw [on_root h hi hj hu]
      have e1 : sumTo (fun k => if (F k).up = (F i).id then on F n k j else 0) n = 0 := by
        refine (sumTo_congr (g := fun _ => 0) (fun k hk => ?_)).trans (sumTo_zero n)
        by_cases e : (F k).up = (F i).id
        · rw [if_pos e, on_root h hk hj hu, if_neg]
          intro e'
          subst e'
          omega
        · rw [if_neg e]
      rw [e1]
      by_cases e : i = j
      · rw [if_pos e, if_pos e.symm]; rfl
      · rw [if_neg e, if_neg (fun e' => e e'.symm)]; rfl
    · obtain ⟨p, hp, hid, e⟩ := h.path_up hj hu
      have ih := on_kids h hi d p hp (by rw [e] at hd; simp at hd; omega)
      rw [on_up h hi hj hp e]
      have e1 : sumTo (fun k => if (F k).up = (F i).id then on F n k j else 0) n = (if p = i then 1 else 0) + sumTo (fun k => if (F k).up = (F i).id then on F n k p else 0) n := by
        have e2 : sumTo (fun k => if (F k).up = (F i).id then on F n k j else 0) n = sumTo (fun k => (if k = j then (if p = i then 1 else 0) else 0) + (if (F k).up = (F i).id then on F n k p else 0)) n := by
          refine sumTo_congr (fun k hk => ?_)
          by_cases ek : (F k).up = (F i).id
          · rw [if_pos ek, if_pos ek, on_up h hk hj hp e]
            by_cases ekj : k = j
            · subst ekj
              have hpi : p = i := h.inj hp hi (by rw [hid, ek])
              simp [hpi]
            · simp [ekj]
          · rw [if_neg ek, if_neg ek]
            by_cases ekj : k = j
            · subst ekj
              have hpi : p ≠ i := fun e' => ek (by rw [← hid, e'])
              simp [hpi]
            · simp [ekj]
        rw [e2, sumTo_add, sumTo_single, if_pos hj]
      rw [e1, ← ih]
      by_cases eij : i = j
      · rw [if_pos eij, if_pos eij.symm]
      · rw [if_neg eij, if_neg (fun e' => eij e'.symm)]
/-- All balances of those on whose path account i is. -/
def sumAll (F : Nat → Acc) (n i : Nat) : Int := sumTo (fun j => on F n i j * (F j).balance) n
theorem sumAll_kids (h : Right F n) {i : Nat} (hi : i < n) : sumAll F n i = (F i).balance + sumTo (fun k => if (F k).up = (F i).id then sumAll F n k else 0) n := by
  have e1 : sumAll F n i = sumTo (fun j => (if j = i then (F i).balance else 0) + sumTo (fun k => if (F k).up = (F i).id then on F n k j * (F j).balance else 0) n) n := by
    refine sumTo_congr (fun j hj => ?_)
    rw [on_kids h hi _ j hj (Nat.le_refl _), Int.add_mul, ← sumTo_mul]
    congr 1
    · by_cases e : j = i
      · subst e; simp
      · simp [e]
    · refine sumTo_congr (fun k _ => ?_)
      by_cases e : (F k).up = (F i).id
      · simp [e]
      · simp [e]
  rw [e1, sumTo_add, sumTo_single, if_pos hi, sumTo_swap]
  congr 1
  refine sumTo_congr (fun k _ => ?_)
  by_cases e : (F k).up = (F i).id
  · simp only [if_pos e]; rfl
  · simp only [if_neg e]; exact sumTo_zero n
theorem on_01 (F : Nat → Acc) (n i j : Nat) : on F n i j = 0 ∨ on F n i j = 1 := by
  unfold on; split
  · exact Or.inr rfl
  · exact Or.inl rfl
theorem sum_bd (h : Right F n) (i : Nat) : ∀ m, m ≤ n → -(1000000000000 * (m : Int)) ≤ sumTo (fun j => on F n i j * (F j).balance) m ∧ sumTo (fun j => on F n i j * (F j).balance) m ≤ 1000000000000 * (m : Int)
  | 0, _ => by simp [sumTo]
  | m + 1, hm => by
    have ih := sum_bd h i m (by omega)
    have b := (h.2.1 m (by omega)).2.2.2.2.2.1
    simp only [sumTo]
    rcases on_01 F n i m with e | e
    · rw [e]; simp; omega
    · rw [e]; simp; omega
theorem sumAll_bd (h : Right F n) (i : Nat) : -12000000000000 ≤ sumAll F n i ∧ sumAll F n i ≤ 12000000000000 := by
  have := sum_bd h i n (Nat.le_refl _)
  have := h.1
  unfold sumAll
  omega
theorem kidsum_bd (h : Right F n) (x : Int) : ∀ m, m ≤ n → -(12000000000000 * (m : Int)) ≤ sumTo (fun k => if (F k).up = x then sumAll F n k else 0) m ∧ sumTo (fun k => if (F k).up = x then sumAll F n k else 0) m ≤ 12000000000000 * (m : Int)
  | 0, _ => by simp [sumTo]
  | m + 1, hm => by
    have ih := kidsum_bd h x m (by omega)
    have b := sumAll_bd h m
    simp only [sumTo]
    split <;> omega
/-- A kid's path is longer by one. -/
theorem kid_len (h : Right F n) {i k : Nat} (hi : i < n) (hk : k < n) (e : (F k).up = (F i).id) : (pathL F n k).length = (pathL F n i).length + 1 := by
  have hi1 := h.id1 hi
  obtain ⟨p, hp, hid, hpath⟩ := h.path_up hk (by omega)
  have : p = i := h.inj hp hi (by rw [hid, e])
  subst this
  rw [hpath]; simp
end
end Go.Proofs.Ytleblllofibfkaa
