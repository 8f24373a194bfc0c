/- What may be taken, held against each limit on the path. Nothing of the program. -/
import Derived.Test.YthkgppfgidlicaaGreatDoorShortOn
import Derived.Test.YthkgppfgidlicaaGreatDoorHang
namespace Go.Proofs.YthkgppfgidlicaaGreatDoor

theorem step_lt {F : Nat → Acc} {n : Nat} {but : List Int} {m : Int} {r0 : Option Int} {x : Int} {j : Nat} (hp : place F n x = some j) :
    (∃ r, step F n but r0 x = some r ∧ r < m) ↔ (∃ r, r0 = some r ∧ r < m) ∨ (¬ ((F j).limit < 0 ∨ x ∈ but) ∧ sumAll F n j + (F j).limit < m) := by
  by_cases hs : (F j).limit < 0 ∨ x ∈ but
  · rw [step_skip hp hs]
    constructor
    · intro h; exact Or.inl h
    · rintro (h | h)
      · exact h
      · exact absurd hs h.1
  · cases r0 with
    | none =>
      rw [step_first hp hs]
      constructor
      · rintro ⟨r, e, h⟩; obtain rfl := Option.some.inj e; exact Or.inr ⟨hs, h⟩
      · rintro (⟨r, e, _⟩ | ⟨_, h⟩)
        · cases e
        · exact ⟨_, rfl, h⟩
    | some q =>
      by_cases hq : sumAll F n j + (F j).limit < q
      · rw [step_less hp hs hq]
        constructor
        · rintro ⟨r, e, h⟩; obtain rfl := Option.some.inj e; exact Or.inr ⟨hs, h⟩
        · rintro (⟨r, e, h⟩ | ⟨_, h⟩)
          · obtain rfl := Option.some.inj e; exact ⟨_, rfl, by omega⟩
          · exact ⟨_, rfl, h⟩
      · rw [step_more hp hs hq]
        constructor
        · rintro ⟨r, e, h⟩; obtain rfl := Option.some.inj e; exact Or.inl ⟨_, rfl, h⟩
        · rintro (⟨r, e, h⟩ | ⟨_, h⟩)
          · exact ⟨r, e, h⟩
          · exact ⟨q, rfl, by omega⟩
theorem fold_lt {F : Nat → Acc} {n : Nat} {but : List Int} {m : Int} : ∀ (l : List Int) (r0 : Option Int), (∀ x, x ∈ l → ∃ j, place F n x = some j) →
    ((∃ r, l.foldl (step F n but) r0 = some r ∧ r < m) ↔ (∃ r, r0 = some r ∧ r < m) ∨ ∃ x j, x ∈ l ∧ place F n x = some j ∧ ¬ ((F j).limit < 0 ∨ x ∈ but) ∧ sumAll F n j + (F j).limit < m)
  | [], r0, _ => by simp
  | x :: l, r0, h => by
    obtain ⟨j, hj⟩ := h x (by simp)
    rw [List.foldl_cons, fold_lt l _ (fun y hy => h y (by simp [hy])), step_lt hj]
    constructor
    · rintro ((h1 | h1) | ⟨y, i, hy, hi, h1⟩)
      · exact Or.inl h1
      · exact Or.inr ⟨x, j, by simp, hj, h1⟩
      · exact Or.inr ⟨y, i, by simp [hy], hi, h1⟩
    · rintro (h1 | ⟨y, i, hy, hi, h1⟩)
      · exact Or.inl (Or.inl h1)
      · rcases List.mem_cons.1 hy with e | e
        · subst e
          rw [hj] at hi
          obtain rfl := Option.some.inj hi
          exact Or.inl (Or.inr h1)
        · exact Or.inr ⟨y, i, e, hi, h1⟩
/-- Too little may be taken just where one on the path has too little. -/
theorem room_lt {F : Nat → Acc} {n : Nat} {but : List Int} {m : Int} (h : Right F n) {i : Nat} (hi : i < n) :
    (∃ r, room F n but i = some r ∧ r < m) ↔ shortP F n (pathL F n i) but m := by
  unfold room
  rw [fold_lt _ _ (fun x hx => by obtain ⟨j, _, _, hj⟩ := h.on_path hi hx; exact ⟨j, hj⟩)]
  constructor
  · rintro (⟨r, e, _⟩ | ⟨x, j, hx, hj, hs, hl⟩)
    · cases e
    · obtain ⟨hjn, hid⟩ := place_some hj
      refine ⟨j, hjn, by rw [hid]; exact hx, fun e => hs (Or.inl (by omega)), by rw [hid]; exact fun e => hs (Or.inr e), hl⟩
  · rintro ⟨j, hj, hx, hl, hn, hs⟩
    refine Or.inr ⟨(F j).id, j, hx, place_self h.2.2.1 hj, ?_, hs⟩
    rintro (e | e)
    · have := (h.2.1 j hj).2.2.1; omega
    · exact hn e
theorem path_of {F : Nat → Acc} {n : Nat} (h : Right F n) {j : Nat} (hj : j < n) : chain F n n (F j).id = some (pathL F n j) := by
  have := h.2.2.2 j hj
  unfold pathL
  cases hc : chain F n n (F j).id with
  | none => rw [hc] at this; cases this
  | some l => rfl
theorem take_short {L : List Acc} {p : Nat} {m : Int} (h : Right (FL L) L.length) (hp : p < L.length) : (room (FL L) L.length [] p).getD 0 < m ↔ shortP (FL L) L.length (pathL (FL L) L.length p) [] m := by
  rw [← room_lt h hp]
  have := room_some h hp
  cases hr : room (FL L) L.length [] p with
  | none => rw [hr] at this; cases this
  | some r => simp
theorem pay_short {L : List Acc} {p q : Nat} {m : Int} (h : Right (FL L) L.length) (hp : p < L.length) : payShort L p q m ↔ shortP (FL L) L.length (pathL (FL L) L.length p) (pathL (FL L) L.length q) m := by
  rw [← room_lt h hp]
  rfl
theorem inWay_iff {F : Nat → Acc} {n : Nat} (h : Right F n) {s : Int} {out into : List Int} : (∃ j, j < n ∧ inWay F n s out into j) ↔ shortP F n out into s := by
  constructor
  · rintro ⟨j, hj, h1, h2, h3, h4⟩
    exact ⟨j, hj, h2, by omega, h3, h4⟩
  · rintro ⟨j, hj, h2, h1, h3, h4⟩
    have := (h.2.1 j hj).2.2.1
    exact ⟨j, hj, by omega, h2, h3, h4⟩
theorem hang_short {L : List Acc} {p q u : Nat} (h : Right (FL L) L.length) : hangShort L p q u ↔
    (0 < sumAll (FL L) L.length p ∧ shortP (FL L) L.length (pathL (FL L) L.length u) (pathL (FL L) L.length q) (sumAll (FL L) L.length p)) ∨
    (sumAll (FL L) L.length p < 0 ∧ shortP (FL L) L.length (pathL (FL L) L.length q) (pathL (FL L) L.length u) (-sumAll (FL L) L.length p)) := by
  unfold hangShort bad
  rw [← inWay_iff h, ← inWay_iff h]
  constructor
  · rintro ⟨j, hj, h1 | h1⟩
    · exact Or.inl ⟨h1.1, j, hj, h1.2⟩
    · exact Or.inr ⟨h1.1, j, hj, h1.2⟩
  · rintro (⟨h0, j, hj, h1⟩ | ⟨h0, j, hj, h1⟩)
    · exact ⟨j, hj, Or.inl ⟨h0, h1⟩⟩
    · exact ⟨j, hj, Or.inr ⟨h0, h1⟩⟩
end Go.Proofs.YthkgppfgidlicaaGreatDoor
