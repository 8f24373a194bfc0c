/- Accounts and forests as plain data: where an account is, the path to its root, when a forest is right. Nothing of the program. -/
namespace Go.Proofs.YtedhlmipcfdldaaGreatDoor

structure Acc where
  id : Int
  up : Int
  limit : Int
  rate : Int
  target : Int
  frozen : Bool
  balance : Int
  carry : Int

/-- The first place, from k on, of an account with that id. -/
def findAt (F : Nat → Acc) (id : Int) : Nat → Nat → Option Nat
  | 0, _ => none
  | m + 1, k => if (F k).id = id then some k else findAt F id m (k + 1)
/-- The place of the account with that id. -/
def place (F : Nat → Acc) (n : Nat) (id : Int) : Option Nat := findAt F id n 0

theorem findAt_some {F : Nat → Acc} {id : Int} : ∀ {m k i : Nat}, findAt F id m k = some i → k ≤ i ∧ i < k + m ∧ (F i).id = id ∧ ∀ j, k ≤ j → j < i → (F j).id ≠ id
  | 0, k, i, h => by simp [findAt] at h
  | m + 1, k, i, h => by
    unfold findAt at h
    split at h
    · rename_i hk
      obtain rfl := Option.some.inj h
      exact ⟨Nat.le_refl _, by omega, hk, fun j h1 h2 => by omega⟩
    · rename_i hk
      obtain ⟨a, b, c, d⟩ := findAt_some h
      refine ⟨by omega, by omega, c, fun j h1 h2 => ?_⟩
      by_cases e : j = k
      · subst e; exact hk
      · exact d j (by omega) h2
theorem findAt_hit {F : Nat → Acc} {id : Int} : ∀ {m k i : Nat}, k ≤ i → i < k + m → (F i).id = id → (∀ j, k ≤ j → j < i → (F j).id ≠ id) → findAt F id m k = some i
  | 0, k, i, h1, h2, _, _ => by omega
  | m + 1, k, i, h1, h2, h3, h4 => by
    unfold findAt
    by_cases e : k = i
    · subst e; simp [h3]
    · rw [if_neg (h4 k (Nat.le_refl _) (by omega))]
      exact findAt_hit (by omega) (by omega) h3 (fun j a b => h4 j (by omega) b)
theorem findAt_miss {F : Nat → Acc} {id : Int} : ∀ {m k : Nat}, (∀ j, k ≤ j → j < k + m → (F j).id ≠ id) → findAt F id m k = none
  | 0, k, _ => rfl
  | m + 1, k, h => by
    unfold findAt
    rw [if_neg (h k (Nat.le_refl _) (by omega))]
    exact findAt_miss (fun j a b => h j (by omega) (by omega))

theorem place_some {F : Nat → Acc} {n : Nat} {id : Int} {i : Nat} (h : place F n id = some i) : i < n ∧ (F i).id = id := by
  obtain ⟨_, b, c, _⟩ := findAt_some h
  exact ⟨by omega, c⟩
theorem place_hit {F : Nat → Acc} {n : Nat} {id : Int} {i : Nat} (h1 : i < n) (h2 : (F i).id = id) (h3 : ∀ j, j < i → (F j).id ≠ id) : place F n id = some i :=
  findAt_hit (Nat.zero_le _) (by omega) h2 (fun j _ b => h3 j b)
theorem place_miss {F : Nat → Acc} {n : Nat} {id : Int} (h : ∀ j, j < n → (F j).id ≠ id) : place F n id = none :=
  findAt_miss (fun j _ b => h j (by omega))
/-- The place as a number, -1 where there is none. -/
def placeI (F : Nat → Acc) (n : Nat) (id : Int) : Int := match place F n id with | some i => i | none => -1
theorem placeI_some {F : Nat → Acc} {n : Nat} {id : Int} {i : Nat} (h : place F n id = some i) : placeI F n id = i := by simp [placeI, h]
theorem placeI_none {F : Nat → Acc} {n : Nat} {id : Int} (h : place F n id = none) : placeI F n id = -1 := by simp [placeI, h]

/-- From an id up to the root, in at most so many steps. -/
def chain (F : Nat → Acc) (n : Nat) : Nat → Int → Option (List Int)
  | 0, id => if id = 0 then some [] else none
  | m + 1, id => if id = 0 then some [] else match place F n id with | none => none | some i => (chain F n m (F i).up).map (id :: ·)
/-- Whether Up leads from an account to a root, in at most so many steps. -/
def leads (F : Nat → Acc) (n : Nat) : Nat → Acc → Bool
  | 0, _ => false
  | m + 1, a => if a.up = 0 then true else match place F n a.up with | none => false | some i => leads F n m (F i)

theorem chain_leads (F : Nat → Acc) (n : Nat) : ∀ (m : Nat) (id : Int) (i : Nat), id ≠ 0 → place F n id = some i → (chain F n m id).isSome = leads F n m (F i)
  | 0, id, i, h0, _ => by simp [chain, leads, h0]
  | m + 1, id, i, h0, hp => by
    simp only [chain, leads, if_neg h0, hp, Option.isSome_map]
    by_cases hu : (F i).up = 0
    · cases m <;> simp [chain, hu]
    · rw [if_neg hu]
      cases hq : place F n (F i).up with
      | none => cases m <;> simp [chain, hu, hq]
      | some j => exact chain_leads F n m _ j hu hq

/-- An account as the specification wants it by itself. -/
def okS (a : Acc) : Prop := (1 ≤ a.id ∧ a.id ≤ 1000000) ∧ (0 ≤ a.up ∧ a.up ≤ 1000000) ∧ (-1 ≤ a.limit ∧ a.limit ≤ 1000000000000) ∧ (0 ≤ a.rate ∧ a.rate ≤ 10000) ∧ (-1 ≤ a.target ∧ a.target ≤ 1000000000000) ∧ (-1000000000000 ≤ a.balance ∧ a.balance ≤ 1000000000000) ∧ (0 ≤ a.carry ∧ a.carry ≤ 3649999) ∧
  (a.up = 0 → 0 ≤ a.limit ∧ a.target < 0) ∧ (a.up ≠ 0 → a.rate = 0 ∧ a.carry = 0)
/-- An account as the program wants it by itself. -/
def okI (a : Acc) : Prop := (1 ≤ a.id ∧ a.id ≤ 1000000) ∧ (-1 ≤ a.limit ∧ a.limit ≤ 1000000000000) ∧ (-1 ≤ a.target ∧ a.target ≤ 1000000000000) ∧ (-1000000000000 ≤ a.balance ∧ a.balance ≤ 1000000000000) ∧
  (a.up ≠ 0 → a.rate = 0 ∧ a.carry = 0) ∧ (a.up = 0 → a.limit ≠ -1 ∧ a.target = -1 ∧ (0 ≤ a.rate ∧ a.rate ≤ 10000) ∧ (0 ≤ a.carry ∧ a.carry < 3650000))
theorem okS_iff (a : Acc) : okS a ↔ okI a ∧ 0 ≤ a.up ∧ a.up ≤ 1000000 := by
  constructor
  · rintro ⟨h1, h2, h3, h4, h5, h6, h7, h8, h9⟩
    refine ⟨⟨h1, h3, h5, h6, h9, fun hu => ?_⟩, h2⟩
    have := h8 hu
    exact ⟨by omega, by omega, h4, by omega⟩
  · rintro ⟨⟨h1, h3, h5, h6, h9, h8⟩, h2⟩
    by_cases hu : a.up = 0
    · have := h8 hu
      exact ⟨h1, h2, h3, this.2.2.1, h5, h6, by omega, fun _ => by omega, h9⟩
    · have := h9 hu
      exact ⟨h1, h2, h3, by omega, h5, h6, by omega, fun e => absurd e hu, h9⟩

/-- What both programs look at first. -/
def rising (F : Nat → Acc) (n : Nat) : Prop := ∀ i, 0 < i → i < n → (F (i - 1)).id < (F i).id
/-- A right forest. -/
def Right (F : Nat → Acc) (n : Nat) : Prop := n ≤ 12 ∧ (∀ i, i < n → okS (F i)) ∧ rising F n ∧ ∀ i, i < n → (chain F n n (F i).id).isSome = true

theorem rising_lt {F : Nat → Acc} {n : Nat} (h : rising F n) : ∀ {i j : Nat}, i < j → j < n → (F i).id < (F j).id := by
  intro i j hij hj
  induction j with
  | zero => omega
  | succ j ih =>
    have s := h (j + 1) (by omega) hj
    simp only [Nat.add_sub_cancel] at s
    by_cases e : i = j
    · subst e; exact s
    · exact Int.lt_trans (ih (by omega) (by omega)) s
theorem place_self {F : Nat → Acc} {n : Nat} (h : rising F n) {i : Nat} (hi : i < n) : place F n (F i).id = some i :=
  place_hit hi rfl (fun j hj e => by have := rising_lt h hj hi; omega)

/-- The program's own look comes to the same. -/
theorem right_iff (F : Nat → Acc) (n : Nat) : Right F n ↔ n ≤ 12 ∧ (∀ i, i < n → okI (F i)) ∧ rising F n ∧ ∀ i, i < n → leads F n n (F i) = true := by
  constructor
  · rintro ⟨h1, h2, h3, h4⟩
    refine ⟨h1, fun i hi => ((okS_iff _).1 (h2 i hi)).1, h3, fun i hi => ?_⟩
    rw [← chain_leads F n n (F i).id i (by have := (h2 i hi).1; omega) (place_self h3 hi)]
    exact h4 i hi
  · rintro ⟨h1, h2, h3, h4⟩
    refine ⟨h1, fun i hi => (okS_iff _).2 ⟨h2 i hi, ?_⟩, h3, fun i hi => ?_⟩
    · have hl := h4 i hi
      cases n with
      | zero => omega
      | succ m =>
        unfold leads at hl
        by_cases hu : (F i).up = 0
        · omega
        · rw [if_neg hu] at hl
          cases hp : place F (m + 1) (F i).up with
          | none => rw [hp] at hl; simp at hl
          | some j =>
            obtain ⟨hj, hid⟩ := place_some hp
            have := (h2 j hj).1
            omega
    · rw [chain_leads F n n (F i).id i (by have := (h2 i hi).1; omega) (place_self h3 hi)]
      exact h4 i hi
end Go.Proofs.YtedhlmipcfdldaaGreatDoor
