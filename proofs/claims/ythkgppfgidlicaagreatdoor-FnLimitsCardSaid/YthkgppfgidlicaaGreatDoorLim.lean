/- What an op that is done brings the sums of the accounts to: no limit is passed, or passed farther. Nothing of the program. -/
import Derived.Test.YthkgppfgidlicaaGreatDoorKeep
namespace Go.Proofs.YthkgppfgidlicaaGreatDoor

/-- A chain in one forest is a chain in another one, where those of the one are with the same Up in the other one. -/
theorem chain_ext {F G : Nat → Acc} {n n' : Nat} (h : ∀ y j, place F n y = some j → ∃ j', place G n' y = some j' ∧ (G j').up = (F j).up) : ∀ (m : Nat) (x : Int) (l : List Int), chain F n m x = some l → chain G n' m x = some l
  | 0, x, l, hc => by simpa [chain] using hc
  | m + 1, x, l, hc => by
    by_cases h0 : x = 0
    · subst h0; simpa [chain] using hc
    · simp only [chain, if_neg h0] at hc ⊢
      cases hp : place F n x with
      | none => rw [hp] at hc; cases hc
      | some i =>
        obtain ⟨j', e1, e2⟩ := h x i hp
        rw [hp] at hc
        rw [e1]
        simp only [Option.map_eq_some_iff] at hc ⊢
        obtain ⟨l', h1, h2⟩ := hc
        exact ⟨l', by rw [e2]; exact chain_ext h m _ l' h1, h2⟩

/-- One more account at a place. -/
def insF (F : Nat → Acc) (k : Nat) (x : Acc) (j : Nat) : Acc := if j < k then F j else if j = k then x else F (j - 1)
theorem sum_ins (h : Acc → Int) (F : Nat → Acc) (x : Acc) : ∀ (n k : Nat), k ≤ n → sumTo (fun j => h (insF F k x j)) (n + 1) = sumTo (fun j => h (F j)) n + h x
  | 0, k, hk => by
    have : k = 0 := by omega
    subst this
    simp [sumTo, insF]
  | n + 1, k, hk => by
    by_cases e : k = n + 1
    · subst e
      have e1 : sumTo (fun j => h (insF F (n + 1) x j)) (n + 1) = sumTo (fun j => h (F j)) (n + 1) := sumTo_congr (fun j hj => by simp [insF, hj])
      have e2 : insF F (n + 1) x (n + 1) = x := by simp [insF]
      show sumTo (fun j => h (insF F (n + 1) x j)) (n + 1) + h (insF F (n + 1) x (n + 1)) = _
      rw [e1, e2]
    · have ih := sum_ins h F x n k (by omega)
      have e2 : insF F k x (n + 1) = F n := by
        unfold insF
        rw [if_neg (by omega), if_neg (by omega)]
        rfl
      show sumTo (fun j => h (insF F k x j)) (n + 1) + h (insF F k x (n + 1)) = sumTo (fun j => h (F j)) n + h (F n) + h x
      rw [ih, e2]; omega
/-- Where an account stands when one more is there. -/
def shift (k j : Nat) : Nat := if j < k then j else j + 1
theorem insF_shift (F : Nat → Acc) (k : Nat) (x : Acc) (j : Nat) : insF F k x (shift k j) = F j := by
  unfold insF shift
  by_cases e : j < k
  · simp [e]
  · rw [if_neg e, if_neg (by omega), if_neg (by omega)]
    rfl
/-- An account that has nothing changes no sum. -/
theorem sum_new {F G : Nat → Acc} {n k : Nat} {x : Acc} (hF : Right F n) (hG : Right G (n + 1)) (hk : k ≤ n) (hx : x.balance = 0) (e : ∀ j, j < n + 1 → G j = insF F k x j) {i : Nat} (hi : i < n) : sumAll G (n + 1) (shift k i) = sumAll F n i := by
  have hs : ∀ j, j < n → shift k j < n + 1 := fun j hj => by unfold shift; split <;> omega
  have eS : ∀ j, j < n → G (shift k j) = F j := fun j hj => by rw [e _ (hs j hj), insF_shift]
  have hc : ∀ j, j < n → chain G (n + 1) (n + 1) (F j).id = chain F n n (F j).id := fun j hj => by
    rw [hF.path hj]
    refine chain_mono G (n + 1) n (n + 1) _ _ (by omega) (chain_ext (F := F) (n := n) (fun y q hq => ?_) n _ _ (hF.path hj))
    obtain ⟨hqn, hid⟩ := place_some hq
    refine ⟨shift k q, ?_, by rw [eS q hqn]⟩
    rw [← hid, ← eS q hqn]
    exact place_self hG.2.2.1 (hs q hqn)
  have e0 : sumAll G (n + 1) (shift k i) = sumTo (fun j => (fun a : Acc => (if (F i).id ∈ (chain G (n + 1) (n + 1) a.id).getD [] then 1 else 0) * a.balance) (insF F k x j)) (n + 1) := by
    refine sumTo_congr (fun j hj => ?_)
    simp only [on, pathL, eS i hi, e j hj]
  rw [e0]
  refine (sum_ins (fun a : Acc => (if (F i).id ∈ (chain G (n + 1) (n + 1) a.id).getD [] then 1 else 0) * a.balance) F x n k hk).trans ?_
  simp only [hx, Int.mul_zero, Int.add_zero]
  refine sumTo_congr (fun j hj => ?_)
  unfold on pathL
  rw [hc j hj]

theorem place_congr {F G : Nat → Acc} {n : Nat} (h : ∀ j, j < n → (G j).id = (F j).id) (x : Int) : place G n x = place F n x := by
  cases hp : place F n x with
  | none =>
    refine place_miss (fun j hj e => ?_)
    rw [h j hj] at e
    unfold place at hp
    have : ∀ (m k : Nat), k ≤ j → j < k + m → findAt F x m k ≠ none := by
      intro m
      induction m with
      | zero => intro k h1 h2; omega
      | succ m ih =>
        intro k h1 h2
        unfold findAt
        split
        · simp
        · rename_i hne
          have : k ≠ j := fun e' => hne (by rw [e']; exact e)
          exact ih (k + 1) (by omega) (by omega)
    exact this n 0 (by omega) (by omega) hp
  | some i =>
    obtain ⟨_, b, c, d⟩ := findAt_some hp
    exact place_hit (by omega) (by rw [h i (by omega)]; exact c) (fun j hj => by rw [h j (by omega)]; exact d j (by omega) hj)
theorem chain_congr {F G : Nat → Acc} {n : Nat} (h : ∀ j, j < n → (G j).id = (F j).id ∧ (G j).up = (F j).up) : ∀ (m : Nat) (x : Int), chain G n m x = chain F n m x
  | 0, x => rfl
  | m + 1, x => by
    simp only [chain]
    rw [place_congr (fun j hj => (h j hj).1)]
    cases hp : place F n x with
    | none => rfl
    | some i => simp only [(h i (place_some hp).1).2, chain_congr h m]
theorem on_congr {F G : Nat → Acc} {n : Nat} (h : ∀ j, j < n → (G j).id = (F j).id ∧ (G j).up = (F j).up) {i j : Nat} (hi : i < n) (hj : j < n) : on G n i j = on F n i j := by
  unfold on pathL
  rw [chain_congr h, (h i hi).1, (h j hj).1]
/-- Balances that change by d. -/
theorem sum_change {F G : Nat → Acc} {n : Nat} (h : ∀ j, j < n → (G j).id = (F j).id ∧ (G j).up = (F j).up) (d : Nat → Int) (hd : ∀ j, j < n → (G j).balance = (F j).balance + d j) {i : Nat} (hi : i < n) : sumAll G n i = sumAll F n i + sumTo (fun j => on F n i j * d j) n := by
  unfold sumAll
  rw [← sumTo_add]
  refine sumTo_congr (fun j hj => ?_)
  rw [on_congr h hi hj, hd j hj, Int.mul_add]
theorem sum_one (f : Nat → Int) (p : Nat) (m : Int) {n : Nat} (hp : p < n) : sumTo (fun j => f j * (if j = p then m else 0)) n = f p * m := by
  have e : sumTo (fun j => f j * (if j = p then m else 0)) n = sumTo (fun j => if j = p then f p * m else 0) n := sumTo_congr (fun j _ => by
    by_cases e : j = p
    · subst e; simp
    · simp [e])
  rw [e, sumTo_single, if_pos hp]

/-- An account with all below it hung elsewhere: who is on whose path. -/
theorem on_hung {F G : Nat → Acc} {n p q u : Nat} (hF : Right F n) (hG : Right G n) (hp : p < n) (hq : q < n) (hu : u < n) (hid : ∀ j, j < n → (G j).id = (F j).id) (hup : ∀ j, j < n → j ≠ p → (G j).up = (F j).up) (hpu : (F p).up = (F u).id) (hpq : (G p).up = (F q).id) (hn : (F p).id ∉ pathL F n q) :
    ∀ (d j : Nat), j < n → (pathL F n j).length ≤ d → ∀ i, i < n → on G n i j = on F n i j + on F n p j * (on F n i q - on F n i u) := by
  have hq0 : on F n p q = 0 := by simp [on, hn]
  have low : ∀ (d j : Nat), j < n → (pathL F n j).length ≤ d → on F n p j = 0 → ∀ i, i < n → on G n i j = on F n i j := by
    intro d
    induction d with
    | zero =>
      intro j hj hd
      by_cases hu : (F j).up = 0
      · rw [hF.path_root hj hu] at hd; simp at hd
      · obtain ⟨p, _, _, e⟩ := hF.path_up hj hu
        rw [e] at hd; simp at hd
    | succ d ih =>
      intro j hj hd h0 i hi
      have hjp : j ≠ p := fun e => by
        subst e
        by_cases hu : (F j).up = 0
        · rw [on_root hF hj hj hu] at h0; simp at h0
        · obtain ⟨p', hp', _, e⟩ := hF.path_up hj hu
          rw [on_up hF hj hj hp' e] at h0
          have := on_01 F n j p'
          simp at h0; omega
      by_cases hu : (F j).up = 0
      · rw [on_root hF hi hj hu, on_root hG hi hj (by rw [hup j hj hjp]; exact hu)]
      · obtain ⟨p1, hp1, hid1, e1⟩ := hF.path_up hj hu
        obtain ⟨p2, hp2, hid2, e2⟩ := hG.path_up hj (by rw [hup j hj hjp]; exact hu)
        have e12 : p2 = p1 := hF.inj hp2 hp1 (by rw [← hid p2 hp2, hid2, hup j hj hjp, hid1])
        subst e12
        rw [on_up hF hi hj hp2 e1, on_up hG hi hj hp2 e2]
        rw [on_up hF hp hj hp2 e1, if_neg (fun e => hjp e.symm)] at h0
        rw [ih p2 hp2 (by rw [e1] at hd; simp at hd; omega) (by omega) i hi]
  intro d
  induction d with
  | zero =>
    intro j hj hd
    by_cases hu : (F j).up = 0
    · rw [hF.path_root hj hu] at hd; simp at hd
    · obtain ⟨p, _, _, e⟩ := hF.path_up hj hu
      rw [e] at hd; simp at hd
  | succ d ih =>
    intro j hj hd i hi
    by_cases hjp : j = p
    · subst hjp
      have h1 := hF.id1 hu
      obtain ⟨p1, hp1, hid1, e1⟩ := hF.path_up hj (by omega)
      have e1u : p1 = u := hF.inj hp1 hu (by rw [hid1, hpu])
      subst e1u
      have h2 := hF.id1 hq
      obtain ⟨p2, hp2, hid2, e2⟩ := hG.path_up hj (by omega)
      have e2q : p2 = q := hF.inj hp2 hq (by rw [← hid p2 hp2, hid2, hpq])
      subst e2q
      have hpp : on F n j j = 1 := by
        rw [on_up hF hj hj hp1 e1]
        have : on F n j p1 = 0 := by simp [on, hF.not_mem hj hp1 e1]
        rw [this]; simp
      rw [on_up hG hi hj hp2 e2, low _ p2 hp2 (Nat.le_refl _) hq0 i hi, on_up hF hi hj hp1 e1, hpp]
      omega
    · by_cases hu0 : (F j).up = 0
      · have hup0 : on F n p j = 0 := by rw [on_root hF hp hj hu0, if_neg (fun e => hjp e.symm)]
        rw [low _ j hj (Nat.le_refl _) hup0 i hi, hup0]
        simp
      · obtain ⟨p1, hp1, hid1, e1⟩ := hF.path_up hj hu0
        obtain ⟨p2, hp2, hid2, e2⟩ := hG.path_up hj (by rw [hup j hj hjp]; exact hu0)
        have e12 : p2 = p1 := hF.inj hp2 hp1 (by rw [← hid p2 hp2, hid2, hup j hj hjp, hid1])
        subst e12
        have h3 : on F n p j = on F n p p2 := by rw [on_up hF hp hj hp2 e1, if_neg (fun e => hjp e.symm)]; simp
        rw [on_up hF hi hj hp2 e1, on_up hG hi hj hp2 e2, ih p2 hp2 (by rw [e1] at hd; simp at hd; omega) i hi, h3]
        generalize on F n p p2 * (on F n i q - on F n i u) = z
        omega
theorem sum_hung {F G : Nat → Acc} {n p q u : Nat} (hF : Right F n) (hG : Right G n) (hp : p < n) (hq : q < n) (hu : u < n) (hid : ∀ j, j < n → (G j).id = (F j).id) (hup : ∀ j, j < n → j ≠ p → (G j).up = (F j).up) (hb : ∀ j, j < n → (G j).balance = (F j).balance) (hpu : (F p).up = (F u).id) (hpq : (G p).up = (F q).id) (hn : (F p).id ∉ pathL F n q) {i : Nat} (hi : i < n) :
    sumAll G n i = sumAll F n i + sumAll F n p * (on F n i q - on F n i u) := by
  unfold sumAll
  rw [← sumTo_mul, ← sumTo_add]
  refine sumTo_congr (fun j hj => ?_)
  rw [on_hung hF hG hp hq hu hid hup hpu hpq hn _ j hj (Nat.le_refl _) i hi, hb j hj, Int.add_mul, Int.mul_assoc, Int.mul_assoc, Int.mul_comm (on F n i q - on F n i u)]

/-- What is left to be taken is within each limit on the path that is not among others. -/
theorem fold_low {F : Nat → Acc} {n : Nat} {but : List Int} : ∀ (l : List Int) (r0 : Option Int), (∀ x, x ∈ l → ∃ j, place F n x = some j) →
    (∀ x, x ∈ l → x ∉ but → ∀ j, place F n x = some j → 0 ≤ (F j).limit → ∃ r, l.foldl (step F n but) r0 = some r ∧ r ≤ sumAll F n j + (F j).limit) ∧ (∀ q, r0 = some q → ∃ r, l.foldl (step F n but) r0 = some r ∧ r ≤ q)
  | [], r0, _ => ⟨fun x hx => (by cases hx), fun q hq => ⟨q, hq, by omega⟩⟩
  | y :: l, r0, hpl => by
    simp only [List.foldl_cons]
    obtain ⟨j, hj⟩ := hpl y (by simp)
    have hpl' : ∀ x, x ∈ l → ∃ j, place F n x = some j := fun x hx => hpl x (by simp [hx])
    by_cases hsk : (F j).limit < 0 ∨ y ∈ but
    · rw [step_skip hj hsk]
      obtain ⟨i1, i2⟩ := fold_low l r0 hpl'
      refine ⟨fun x hx hb j' hj' hl' => ?_, i2⟩
      rcases List.mem_cons.1 hx with e | e
      · subst e
        rw [hj] at hj'
        obtain rfl := Option.some.inj hj'
        rcases hsk with h | h
        · omega
        · exact absurd h hb
      · exact i1 x e hb j' hj' hl'
    · have key : ∃ z, step F n but r0 y = some z ∧ z ≤ sumAll F n j + (F j).limit ∧ (∀ q, r0 = some q → z ≤ q) := by
        cases r0 with
        | none => exact ⟨_, step_first hj hsk, by omega, fun q hq => (by cases hq)⟩
        | some q =>
          by_cases hq : sumAll F n j + (F j).limit < q
          · exact ⟨_, step_less hj hsk hq, by omega, fun q' hq' => (by obtain rfl := Option.some.inj hq'; omega)⟩
          · exact ⟨_, step_more hj hsk hq, by omega, fun q' hq' => (by obtain rfl := Option.some.inj hq'; omega)⟩
      obtain ⟨z, hz, z1, z2⟩ := key
      rw [hz]
      obtain ⟨i1, i2⟩ := fold_low l (some z) hpl'
      obtain ⟨r, hr, hrz⟩ := i2 z rfl
      refine ⟨fun x hx hb j' hj' hl' => ?_, fun q hq => ⟨r, hr, by have := z2 q hq; omega⟩⟩
      rcases List.mem_cons.1 hx with e | e
      · subst e
        rw [hj] at hj'
        obtain rfl := Option.some.inj hj'
        exact ⟨r, hr, by omega⟩
      · exact i1 x e hb j' hj' hl'
theorem room_low {F : Nat → Acc} {n : Nat} {but : List Int} (h : Right F n) {p i : Nat} (hp : p < n) (hi : i < n) (h1 : on F n i p = 1) (hb : (F i).id ∉ but) (hl : 0 ≤ (F i).limit) : ∃ r, room F n but p = some r ∧ r ≤ sumAll F n i + (F i).limit := by
  have hm : (F i).id ∈ pathL F n p := by
    unfold on at h1
    split at h1
    · assumption
    · cases h1
  exact (fold_low (pathL F n p) none (fun x hx => by obtain ⟨j, _, _, e⟩ := h.on_path hp hx; exact ⟨j, e⟩)).1 _ hm hb i (place_self h.2.2.1 hi) hl

/-- What the law of the limits asks of one account. -/
def Held (was now limit : Int) : Prop := 0 ≤ limit → now < -limit → was ≤ now

theorem made_held {L l : List Acc} {k i t m r : Int} (hR : Right (FL L) L.length) (hl : Right (FL l) l.length) (ho : opOk k i t m r) (k8 : k ≠ 8) (h : Made L k i t m r l) {x j : Nat} (hx : x < l.length) (hj : place (FL L) L.length (FL l x).id = some j) : Held (sumAll (FL L) L.length j) (sumAll (FL l) l.length x) (FL l x).limit := by
  have pl : ∀ {x : Int} {p : Nat}, place (FL L) L.length x = some p → p < L.length := fun h => (place_some h).1
  -- one account is set, its id as it was
  have same : ∀ (p : Nat) (A : Acc), p < L.length → l = L.set p A → A.id = (FL L p).id → l.length = L.length ∧ x = j ∧ (∀ q, q < L.length → (FL l q).id = (FL L q).id) := by
    intro p A hp e hA
    subst e
    have hid : ∀ q, q < L.length → (FL (L.set p A) q).id = (FL L q).id := fun q hq => by
      by_cases e : q = p
      · subst e; rw [FL_set_at _ hq, hA]
      · rw [FL_set_ne _ e]
    have hxL : x < L.length := by simpa using hx
    rw [hid x hxL, place_self hR.2.2.1 hxL] at hj
    exact ⟨by simp, Option.some.inj hj, hid⟩
  have keep : ∀ (p : Nat) (A : Acc) (d : Int), p < L.length → l = L.set p A → A.id = (FL L p).id → A.up = (FL L p).up → A.balance = (FL L p).balance + d → l.length = L.length ∧ x = j ∧ sumAll (FL l) l.length x = sumAll (FL L) L.length x + on (FL L) L.length x p * d := by
    intro p A d hp e hA hu hb
    obtain ⟨e1, e2, hid⟩ := same p A hp e hA
    refine ⟨e1, e2, ?_⟩
    have hup : ∀ q, q < L.length → (FL l q).up = (FL L q).up := fun q hq => by
      subst e
      by_cases e : q = p
      · subst e; rw [FL_set_at _ hq, hu]
      · rw [FL_set_ne _ e]
    have hd : ∀ q, q < L.length → (FL l q).balance = (FL L q).balance + (if q = p then d else 0) := fun q hq => by
      subst e
      by_cases e : q = p
      · subst e; rw [FL_set_at _ hq, hb]; simp
      · rw [FL_set_ne _ e]; simp [e]
    rw [e1]
    have hxL : x < L.length := by omega
    rw [sum_change (fun q hq => ⟨hid q hq, hup q hq⟩) _ hd hxL, sum_one (fun q => on (FL L) L.length x q) p d hp]
  have still : ∀ (p : Nat) (A : Acc), p < L.length → l = L.set p A → A.id = (FL L p).id → A.up = (FL L p).up → A.balance = (FL L p).balance → Held (sumAll (FL L) L.length j) (sumAll (FL l) l.length x) (FL l x).limit := by
    intro p A hp e hA hu hb _ _
    obtain ⟨_, e2, e3⟩ := keep p A 0 hp e hA hu (by rw [hb]; omega)
    rw [e3, ← e2]
    simp
  cases h with
  | opened h1 hno hll =>
    intro _ _
    have hk := rank_le L i
    have hlen : l.length = L.length + 1 := by rw [hll]; simp; omega
    have hins : ∀ q, q < L.length + 1 → FL l q = insF (FL L) (rankL L i) ⟨i, t, m, r, -1, false, 0, 0⟩ q := fun q hq => by
      rw [hll]
      unfold insF
      by_cases e : q < rankL L i
      · rw [if_pos e, FL_ins_lt hk e]
      · rw [if_neg e]
        by_cases e2 : q = rankL L i
        · rw [if_pos e2, e2, FL_ins_at hk]
        · rw [if_neg e2]
          have : q = q - 1 + 1 := by omega
          rw [this, FL_ins_gt hk (by omega)]
          simp
    have hjL := pl hj
    have hsj : shift (rankL L i) j < l.length := by unfold shift; split <;> omega
    have ex : x = shift (rankL L i) j := by
      refine hl.inj hx hsj ?_
      rw [hins (shift (rankL L i) j) (by omega), insF_shift, (place_some hj).2]
    have := sum_new hR (hlen ▸ hl) hk rfl hins hjL
    rw [ex, hlen, this]
    omega
  | frozen p h1 hp hf hll => exact still p _ (pl hp) hll rfl rfl rfl
  | thawed p h1 hp hf hll => exact still p _ (pl hp) hll rfl rfl rfl
  | closed p h1 hp hf hb hk hll =>
    intro _ _
    have hpl := pl hp
    have hlen : L.length = l.length + 1 := by rw [hll]; simp; omega
    have hins : ∀ q, q < l.length + 1 → FL L q = insF (FL l) p (FL L p) q := fun q hq => by
      rw [hll]
      unfold insF
      by_cases e : q < p
      · rw [if_pos e, FL_del_lt hpl e]
      · rw [if_neg e]
        by_cases e2 : q = p
        · rw [if_pos e2, e2]
        · rw [if_neg e2, FL_del_ge hpl (by omega)]
          have : q - 1 + 1 = q := by omega
          rw [this]
    have ej : j = shift p x := by
      have hs : shift p x < L.length := by unfold shift; split <;> omega
      refine hR.inj (pl hj) hs ?_
      rw [hins (shift p x) (by omega), insF_shift, (place_some hj).2]
    have := sum_new hl (hlen ▸ hR) (by omega) hb hins hx
    rw [ej, hlen, this]
    omega
  | put p h1 hp hf hll =>
    intro _ _
    obtain ⟨_, e2, e3⟩ := keep p _ m (pl hp) hll rfl rfl rfl
    rw [e3, ← e2]
    have hm : 1 ≤ m := by unfold opOk at ho; omega
    rcases on_01 (FL L) L.length x p with e | e <;> rw [e] <;> omega
  | taken p h1 hp hf hs hll =>
    intro h0 hlow
    obtain ⟨e1, e2, e3⟩ := keep p _ (-m) (pl hp) hll rfl rfl (by simp; omega)
    have hxL : x < L.length := by omega
    have hlim : (FL l x).limit = (FL L x).limit := by
      rw [hll]
      by_cases e : x = p
      · subst e; rw [FL_set_at _ hxL]
      · rw [FL_set_ne _ e]
    rw [e3] at hlow ⊢
    rw [hlim] at h0 hlow
    rw [← e2]
    rcases on_01 (FL L) L.length x p with e | e
    · rw [e]; omega
    · exfalso
      rw [e] at hlow
      obtain ⟨rr, hr, hle⟩ := room_low (but := []) hR (pl hp) hxL e (by simp) h0
      rw [hr] at hs
      simp at hs
      omega
  | paid p q h1 hp hq hf hg hs hll =>
    intro h0 hlow
    have hpq : q ≠ p := fun e => by
      subst e
      have : i = t := (place_some hp).2.symm.trans (place_some hq).2
      unfold opOk at ho; omega
    have hpL := pl hp
    have hqL := pl hq
    have hlen : l.length = L.length := by rw [hll]; simp
    have hxL : x < L.length := by omega
    have hall : ∀ z, z < L.length → (FL l z).id = (FL L z).id ∧ (FL l z).up = (FL L z).up ∧ (FL l z).limit = (FL L z).limit ∧ (FL l z).balance = (FL L z).balance + ((if z = p then -m else 0) + (if z = q then m else 0)) := fun z hz => by
      rw [hll]
      by_cases e : z = q
      · subst e
        rw [FL_set_at _ (by simpa using hz)]
        simp [hpq]
      · rw [FL_set_ne _ e]
        by_cases e' : z = p
        · subst e'
          rw [FL_set_at _ hz]
          simp [e]; omega
        · rw [FL_set_ne _ e']
          simp [e, e']
    have ex : x = j := by
      have := hj
      rw [(hall x hxL).1, place_self hR.2.2.1 hxL] at this
      exact Option.some.inj this
    have e3 : sumAll (FL l) l.length x = sumAll (FL L) L.length x + (on (FL L) L.length x p * -m + on (FL L) L.length x q * m) := by
      rw [hlen, sum_change (fun z hz => ⟨(hall z hz).1, (hall z hz).2.1⟩) _ (fun z hz => (hall z hz).2.2.2) hxL]
      congr 1
      rw [← sum_one (fun z => on (FL L) L.length x z) p (-m) hpL, ← sum_one (fun z => on (FL L) L.length x z) q m hqL, ← sumTo_add]
      refine sumTo_congr (fun z _ => ?_)
      rw [Int.mul_add]
    have hm : 1 ≤ m := by unfold opOk at ho; omega
    rw [e3] at hlow ⊢
    rw [(hall x hxL).2.2.1] at h0 hlow
    rw [← ex]
    rcases on_01 (FL L) L.length x p with e | e
    · rw [e]
      rcases on_01 (FL L) L.length x q with e' | e' <;> rw [e'] <;> omega
    · rcases on_01 (FL L) L.length x q with e' | e'
      · exfalso
        rw [e, e'] at hlow
        have hnot : (FL L x).id ∉ pathL (FL L) L.length q := fun hm => by simp [on, hm] at e'
        obtain ⟨rr, hr, hle⟩ := room_low hR hpL hxL e hnot h0
        refine hs ⟨rr, hr, ?_⟩
        omega
      · rw [e, e']; omega
  | limited p h1 hp hll => exact absurd h1 k8
  | hung p q h1 hp hq hu hn hs hll =>
    intro h0 hlow
    have hpL := pl hp
    have hqL := pl hq
    obtain ⟨e1, e2, hid⟩ := same p _ hpL hll rfl
    have hxL : x < L.length := by omega
    obtain ⟨u, huL, hidu, epath⟩ := hR.path_up hpL hu
    have hpu : place (FL L) L.length (FL L p).up = some u := by rw [← hidu]; exact place_self hR.2.2.1 huL
    rw [hpu] at hs
    simp only [Option.getD_some] at hs
    have hup : ∀ z, z < L.length → z ≠ p → (FL l z).up = (FL L z).up := fun z _ e => by rw [hll, FL_set_ne _ e]
    have hb : ∀ z, z < L.length → (FL l z).balance = (FL L z).balance := fun z hz => by
      rw [hll]
      by_cases e : z = p
      · subst e; rw [FL_set_at _ hz]
      · rw [FL_set_ne _ e]
    have hlim : (FL l x).limit = (FL L x).limit := by
      rw [hll]
      by_cases e : x = p
      · subst e; rw [FL_set_at _ hxL]
      · rw [FL_set_ne _ e]
    have hpq : (FL l p).up = (FL L q).id := by rw [hll, FL_set_at _ hpL]
    have e3 := sum_hung hR (e1 ▸ hl) hpL hqL huL hid hup hb hidu.symm hpq hn hxL
    rw [e1, e3] at hlow ⊢
    rw [hlim] at h0 hlow
    rw [← e2]
    have mem : ∀ z, z < L.length → on (FL L) L.length x z = 1 → (FL L x).id ∈ pathL (FL L) L.length z := fun z _ h => by
      unfold on at h
      split at h
      · assumption
      · cases h
    have nmem : ∀ z, z < L.length → on (FL L) L.length x z = 0 → (FL L x).id ∉ pathL (FL L) L.length z := fun z _ h hm => by simp [on, hm] at h
    have hbad : ¬ bad L p q u x := fun h => hs ⟨x, hxL, h⟩
    rcases on_01 (FL L) L.length x q with e | e <;> rcases on_01 (FL L) L.length x u with e' | e'
    · rw [e, e']; simp
    · rw [e, e'] at hlow ⊢
      by_cases hpos : 0 < sumAll (FL L) L.length p
      · exfalso
        refine hbad (Or.inl ⟨hpos, h0, mem u huL e', nmem q hqL e, ?_⟩)
        omega
      · omega
    · rw [e, e'] at hlow ⊢
      by_cases hneg : sumAll (FL L) L.length p < 0
      · exfalso
        refine hbad (Or.inr ⟨hneg, h0, mem q hqL e, nmem u huL e', ?_⟩)
        omega
      · omega
    · rw [e, e']; simp
  | aimed p h1 hp hll => exact still p _ (pl hp) hll rfl rfl rfl
end Go.Proofs.YthkgppfgidlicaaGreatDoor
