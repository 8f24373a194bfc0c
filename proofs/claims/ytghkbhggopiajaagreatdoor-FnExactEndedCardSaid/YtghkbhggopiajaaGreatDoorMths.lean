/- What an op that is done leaves: all there is, those that are frozen. Nothing of the program. -/
import Derived.Test.YtghkbhggopiajaaGreatDoorDoneI
namespace Go.Proofs.YtghkbhggopiajaaGreatDoor

/-- All balances of a list. -/
def tot : List Acc → Int
  | [] => 0
  | x :: L => x.balance + tot L
theorem tot_append : ∀ (A B : List Acc), tot (A ++ B) = tot A + tot B
  | [], B => by simp [tot]
  | x :: A, B => by simp only [List.cons_append, tot, tot_append A B]; omega
theorem tot_snoc (L : List Acc) (x : Acc) : tot (L ++ [x]) = tot L + x.balance := by rw [tot_append]; simp [tot]
theorem total_take (L : List Acc) : ∀ k, k ≤ L.length → total (FL L) k = tot (L.take k)
  | 0, _ => by simp [total, tot]
  | k + 1, hk => by
    simp only [total]
    rw [total_take L k (by omega), List.take_succ_eq_append_getElem (by omega : k < L.length), tot_snoc, FL_lt (by omega : k < L.length)]
theorem total_tot (L : List Acc) : total (FL L) L.length = tot L := by rw [total_take L _ (Nat.le_refl _), List.take_length]
theorem tot_set : ∀ (L : List Acc) (p : Nat) (A : Acc), p < L.length → tot (L.set p A) = tot L + (A.balance - (FL L p).balance)
  | [], p, A, h => by simp at h
  | x :: L, 0, A, _ => by
    have e : FL (x :: L) 0 = x := rfl
    rw [e]
    simp only [List.set_cons_zero, tot]; omega
  | x :: L, p + 1, A, h => by
    have e : FL (x :: L) (p + 1) = FL L p := by simp [FL, List.getD]
    simp only [List.set_cons_succ, tot]
    rw [tot_set L p A (by simpa using h), e]; omega
theorem tot_del (L : List Acc) (p : Nat) (hp : p < L.length) : tot (L.take p ++ L.drop (p + 1)) = tot L - (FL L p).balance := by
  have e : L = L.take p ++ FL L p :: L.drop (p + 1) := by
    rw [FL_lt hp]; simp
  have h : tot L = tot (L.take p) + ((FL L p).balance + tot (L.drop (p + 1))) := by
    conv => lhs; rw [e]
    rw [tot_append]; rfl
  rw [tot_append, h]; omega
theorem tot_ins (L : List Acc) (k : Nat) (x : Acc) : tot (L.take k ++ x :: L.drop k) = tot L + x.balance := by
  have h : tot L = tot (L.take k) + tot (L.drop k) := by rw [← tot_append, List.take_append_drop]
  rw [tot_append, h]
  simp only [tot]; omega

/-- What all there is changes by. -/
def comes (k m : Int) : Int := if k = 5 then m else if k = 6 then -m else 0

theorem doneS_zero {L l : List Acc} {k i t m r : Int} (h : doneS L k i t m r = (0, l)) : opOk k i t m r ∧ partS L k i t m r = (0, l) ∧ Right (FL l) l.length := by
  unfold doneS at h
  split at h
  · rename_i ho
    unfold finS at h
    split at h
    · split at h
      · rename_i h0 hr
        rw [h] at hr
        exact ⟨ho, h, hr⟩
      · simp at h
    · rename_i h0
      simp only [Prod.mk.injEq] at h
      exact absurd h.1 h0
  · simp at h

/-- One account is other than it was, or two, or one is new, or one is gone. -/
inductive Made (L : List Acc) (k i t m r : Int) (l : List Acc) : Prop
  | opened (h1 : k = 1) (hno : place (FL L) L.length i = none) (hl : l = L.take (rankL L i) ++ (⟨i, t, m, r, -1, false, 0, 0⟩ : Acc) :: L.drop (rankL L i))
  | frozen (p : Nat) (h1 : k = 2) (hp : place (FL L) L.length i = some p) (hf : (FL L p).frozen = false) (hl : l = L.set p { FL L p with frozen := true })
  | thawed (p : Nat) (h1 : k = 3) (hp : place (FL L) L.length i = some p) (hf : (FL L p).frozen = true) (hl : l = L.set p { FL L p with frozen := false })
  | closed (p : Nat) (h1 : k = 4) (hp : place (FL L) L.length i = some p) (hf : (FL L p).frozen = false) (hb : (FL L p).balance = 0) (hk : kids (FL L) (FL L p).id L.length = []) (hl : l = L.take p ++ L.drop (p + 1))
  | put (p : Nat) (h1 : k = 5) (hp : place (FL L) L.length i = some p) (hf : (FL L p).frozen = false) (hl : l = L.set p { FL L p with balance := (FL L p).balance + m })
  | taken (p : Nat) (h1 : k = 6) (hp : place (FL L) L.length i = some p) (hf : (FL L p).frozen = false) (hs : ¬ (room (FL L) L.length [] p).getD 0 < m) (hl : l = L.set p { FL L p with balance := (FL L p).balance - m })
  | paid (p q : Nat) (h1 : k = 7) (hp : place (FL L) L.length i = some p) (hq : place (FL L) L.length t = some q) (hf : (FL L p).frozen = false) (hg : (FL L q).frozen = false) (hs : ¬ payShort L p q m) (hl : l = (L.set p { FL L p with balance := (FL L p).balance - m }).set q { FL L q with balance := (FL L q).balance + m })
  | limited (p : Nat) (h1 : k = 8) (hp : place (FL L) L.length i = some p) (hl : l = L.set p { FL L p with limit := m })
  | hung (p q : Nat) (h1 : k = 9) (hp : place (FL L) L.length i = some p) (hq : place (FL L) L.length t = some q) (hu : (FL L p).up ≠ 0) (hn : (FL L p).id ∉ pathL (FL L) L.length q) (hs : ¬ hangShort L p q ((place (FL L) L.length (FL L p).up).getD 0)) (hl : l = L.set p { FL L p with up := (FL L q).id })
  | aimed (p : Nat) (h1 : k = 10) (hp : place (FL L) L.length i = some p) (hl : l = L.set p { FL L p with target := m })

theorem made {L l : List Acc} {k i t m r : Int} (ho : opOk k i t m r) (h : partS L k i t m r = (0, l)) : Made L k i t m r l := by
  unfold partS at h
  split at h
  · rename_i h1
    unfold openS at h
    split at h
    · simp at h
    · rename_i hno
      split at h
      · simp at h
      · simp only [Prod.mk.injEq, true_and] at h
        exact .opened h1 (by simpa using hno) h.symm
  · rename_i h1
    cases hp : place (FL L) L.length i with
    | none => rw [hp] at h; simp at h
    | some p =>
      rw [hp] at h
      simp only at h
      split at h
      · rename_i h7
        cases hq : place (FL L) L.length t with
        | none => rw [hq] at h; simp at h
        | some q =>
          rw [hq] at h
          simp only at h
          unfold payS at h
          split at h
          · simp at h
          · rename_i hf
            split at h
            · simp at h
            · rename_i hs
              simp only [Prod.mk.injEq, true_and] at h
              exact .paid p q h7 hp hq (by simp at hf; exact hf.1) (by simp at hf; exact hf.2) hs h.symm
      · rename_i h7
        split at h
        · rename_i h9
          cases hq : place (FL L) L.length t with
          | none => rw [hq] at h; simp at h
          | some q =>
            rw [hq] at h
            simp only at h
            unfold hangS at h
            split at h
            · simp at h
            · rename_i hu
              split at h
              · simp at h
              · rename_i hs
                simp only [Prod.mk.injEq, true_and] at h
                exact .hung p q h9 hp hq (fun e => hu (Or.inl e)) (fun e => hu (Or.inr e)) hs h.symm
        · rename_i h9
          have hk : k = 2 ∨ k = 3 ∨ k = 4 ∨ k = 5 ∨ k = 6 ∨ k = 8 ∨ k = 10 := by unfold opOk at ho; omega
          rcases hk with rfl | rfl | rfl | rfl | rfl | rfl | rfl
          · by_cases hf : (FL L p).frozen = true
            · simp [actS, hf] at h
            · simp [actS, hf] at h
              exact .frozen p rfl hp (by simpa using hf) h.symm
          · by_cases hf : (FL L p).frozen = true
            · simp [actS, hf] at h
              exact .thawed p rfl hp hf h.symm
            · simp [actS, hf] at h
          · by_cases hf : (FL L p).frozen = true
            · simp [actS, hf] at h
            · have e : actS L p 4 m = closeS L p := by simp [actS, hf]
              rw [e] at h
              unfold closeS at h
              split at h
              · simp at h
              · rename_i hb
                simp only [Prod.mk.injEq, true_and] at h
                refine .closed p rfl hp (by simpa using hf) ?_ ?_ h.symm
                · exact Classical.byContradiction fun e => hb (Or.inl e)
                · exact Classical.byContradiction fun e => hb (Or.inr e)
          · by_cases hf : (FL L p).frozen = true
            · simp [actS, hf] at h
            · have e : actS L p 5 m = (0, L.set p { FL L p with balance := (FL L p).balance + m }) := by simp [actS, hf]
              rw [e] at h
              simp only [Prod.mk.injEq, true_and] at h
              exact .put p rfl hp (by simpa using hf) h.symm
          · by_cases hf : (FL L p).frozen = true
            · simp [actS, hf] at h
            · have e : actS L p 6 m = takeS L p m := by simp [actS, hf]
              rw [e] at h
              unfold takeS at h
              split at h
              · simp at h
              · rename_i hs
                simp only [Prod.mk.injEq, true_and] at h
                exact .taken p rfl hp (by simpa using hf) hs h.symm
          · by_cases hf : (FL L p).up = 0 ∧ m < 0
            · simp [actS, hf] at h
            · simp [actS, hf] at h
              exact .limited p rfl hp h.symm
          · by_cases hf : (FL L p).up = 0
            · simp [actS, hf] at h
            · simp [actS, hf] at h
              exact .aimed p rfl hp h.symm

theorem made_tot {L l : List Acc} {k i t m r : Int} (hit : k = 7 → i ≠ t) (h : Made L k i t m r l) : tot l = tot L + comes k m := by
  have pl : ∀ {x : Int} {p : Nat}, place (FL L) L.length x = some p → p < L.length := fun h => (place_some h).1
  cases h with
  | opened h1 hno hl => subst hl; subst h1; rw [tot_ins]; simp [comes]
  | frozen p h1 hp hf hl => subst hl; subst h1; rw [tot_set _ _ _ (pl hp)]; simp [comes]
  | thawed p h1 hp hf hl => subst hl; subst h1; rw [tot_set _ _ _ (pl hp)]; simp [comes]
  | closed p h1 hp hf hb hk hl => subst hl; subst h1; rw [tot_del _ _ (pl hp), hb]; simp [comes]
  | put p h1 hp hf hl => subst hl; subst h1; rw [tot_set _ _ _ (pl hp)]; simp [comes]; omega
  | taken p h1 hp hf hs hl => subst hl; subst h1; rw [tot_set _ _ _ (pl hp)]; simp [comes]; omega
  | paid p q h1 hp hq hf hg hs hl =>
    subst hl
    have hpq : q ≠ p := fun e => by
      subst e
      exact hit h1 ((place_some hp).2.symm.trans (place_some hq).2)
    rw [tot_set _ _ _ (by simpa using pl hq), tot_set _ _ _ (pl hp), FL_set_ne _ hpq]
    subst h1
    simp [comes]
    omega
  | limited p h1 hp hl => subst hl; subst h1; rw [tot_set _ _ _ (pl hp)]; simp [comes]
  | hung p q h1 hp hq hu hn hs hl => subst hl; subst h1; rw [tot_set _ _ _ (pl hp)]; simp [comes]
  | aimed p h1 hp hl => subst hl; subst h1; rw [tot_set _ _ _ (pl hp)]; simp [comes]

/-- What the law of those that are frozen asks of one account. -/
def Stays (k i cd : Int) (x y : Acc) : Prop := y.id = x.id ∧ y.balance = x.balance ∧ (y.frozen = true ↔ ¬ (k = 3 ∧ i = x.id ∧ cd = 0))

theorem stays_set {L : List Acc} {k i : Int} {p j : Nat} (hp : p < L.length) (hj : j < L.length) (hf : (FL L j).frozen = true) (A : Acc) (hA : (FL L p).frozen = true → A.id = (FL L p).id ∧ A.balance = (FL L p).balance ∧ A.frozen = true) (k3 : k ≠ 3) : ∃ q, q < (L.set p A).length ∧ Stays k i 0 (FL L j) (FL (L.set p A) q) := by
  refine ⟨j, by simpa using hj, ?_⟩
  by_cases e : j = p
  · subst e
    rw [FL_set_at _ hj]
    obtain ⟨a, b, c⟩ := hA hf
    exact ⟨a, b, by simp [c, k3]⟩
  · rw [FL_set_ne _ e]
    exact ⟨rfl, rfl, by simp [hf, k3]⟩
theorem FL_app_left {A B : List Acc} {j : Nat} (h : j < A.length) : FL (A ++ B) j = FL A j := by
  simp only [FL, List.getD]; rw [List.getElem?_append_left h]
theorem FL_app_right {A B : List Acc} {j : Nat} (h : A.length ≤ j) : FL (A ++ B) j = FL B (j - A.length) := by
  simp only [FL, List.getD]; rw [List.getElem?_append_right h]
theorem FL_take {L : List Acc} {k j : Nat} (h : j < k) : FL (L.take k) j = FL L j := by
  simp only [FL, List.getD]; rw [List.getElem?_take_of_lt h]
theorem FL_drop {L : List Acc} {k j : Nat} : FL (L.drop k) j = FL L (k + j) := by
  simp only [FL, List.getD]; rw [List.getElem?_drop]
theorem FL_cons {x : Acc} {L : List Acc} {j : Nat} : FL (x :: L) (j + 1) = FL L j := by simp [FL, List.getD]
theorem FL_del_lt {L : List Acc} {p j : Nat} (hp : p < L.length) (h : j < p) : FL (L.take p ++ L.drop (p + 1)) j = FL L j := by
  rw [FL_app_left (by simp; omega), FL_take h]
theorem FL_del_ge {L : List Acc} {p j : Nat} (hp : p < L.length) (h : p ≤ j) : FL (L.take p ++ L.drop (p + 1)) j = FL L (j + 1) := by
  rw [FL_app_right (by simp; omega), FL_drop]
  congr 1
  simp; omega
theorem FL_ins_lt {L : List Acc} {k j : Nat} {x : Acc} (hk : k ≤ L.length) (h : j < k) : FL (L.take k ++ x :: L.drop k) j = FL L j := by
  rw [FL_app_left (by simp; omega), FL_take h]
theorem FL_ins_at {L : List Acc} {k : Nat} {x : Acc} (hk : k ≤ L.length) : FL (L.take k ++ x :: L.drop k) k = x := by
  rw [FL_app_right (by simp; omega)]
  have : k - (L.take k).length = 0 := by simp; omega
  rw [this]; rfl
theorem FL_ins_gt {L : List Acc} {k j : Nat} {x : Acc} (hk : k ≤ L.length) (h : k ≤ j) : FL (L.take k ++ x :: L.drop k) (j + 1) = FL L j := by
  rw [FL_app_right (by simp; omega)]
  have : j + 1 - (L.take k).length = (j - k) + 1 := by simp; omega
  rw [this, FL_cons, FL_drop]
  congr 1; omega
theorem rank_le (L : List Acc) (i : Int) : rankL L i ≤ L.length := by
  unfold rankL
  exact (List.takeWhile_prefix _).length_le

theorem made_stays {L l : List Acc} {k i t m r : Int} (hR : Right (FL L) L.length) (h : Made L k i t m r l) {j : Nat} (hj : j < L.length) (hf : (FL L j).frozen = true) : ∃ q, q < l.length ∧ Stays k i 0 (FL L j) (FL l q) := by
  have pl : ∀ {x : Int} {p : Nat}, place (FL L) L.length x = some p → p < L.length := fun h => (place_some h).1
  cases h with
  | opened h1 hno hl =>
    subst hl; subst h1
    have hk := rank_le L i
    by_cases e : j < rankL L i
    · exact ⟨j, by simp; omega, by rw [FL_ins_lt hk e]; exact ⟨rfl, rfl, by simp [hf]⟩⟩
    · exact ⟨j + 1, by simp; omega, by rw [FL_ins_gt hk (by omega)]; exact ⟨rfl, rfl, by simp [hf]⟩⟩
  | frozen p h1 hp hg hl => subst hl; subst h1; exact stays_set (pl hp) hj hf _ (fun e => by rw [hg] at e; cases e) (by decide)
  | thawed p h1 hp hg hl =>
    subst hl; subst h1
    refine ⟨j, by simpa using hj, ?_⟩
    by_cases e : j = p
    · subst e
      rw [FL_set_at _ hj]
      exact ⟨rfl, rfl, by simp [(place_some hp).2]⟩
    · rw [FL_set_ne _ e]
      refine ⟨rfl, rfl, ?_⟩
      simp only [hf, true_iff]
      rintro ⟨_, e', _⟩
      exact e (hR.inj hj (pl hp) (by rw [← e', (place_some hp).2]))
  | closed p h1 hp hg hb hk hl =>
    subst hl; subst h1
    have hpl := pl hp
    have hjp : j ≠ p := fun e => by subst e; rw [hg] at hf; cases hf
    by_cases e : j < p
    · exact ⟨j, by simp; omega, by rw [FL_del_lt hpl e]; exact ⟨rfl, rfl, by simp [hf]⟩⟩
    · refine ⟨j - 1, by simp; omega, ?_⟩
      rw [FL_del_ge hpl (by omega)]
      have : j - 1 + 1 = j := by omega
      rw [this]
      exact ⟨rfl, rfl, by simp [hf]⟩
  | put p h1 hp hg hl => subst hl; subst h1; exact stays_set (pl hp) hj hf _ (fun e => by rw [hg] at e; cases e) (by decide)
  | taken p h1 hp hg hs hl => subst hl; subst h1; exact stays_set (pl hp) hj hf _ (fun e => by rw [hg] at e; cases e) (by decide)
  | paid p q h1 hp hq hg hg2 hs hl =>
    subst hl; subst h1
    have e1 : j ≠ p := fun e => by subst e; rw [hg] at hf; cases hf
    have e2 : j ≠ q := fun e => by subst e; rw [hg2] at hf; cases hf
    exact ⟨j, by simpa using hj, by rw [FL_set_ne _ e2, FL_set_ne _ e1]; exact ⟨rfl, rfl, by simp [hf]⟩⟩
  | limited p h1 hp hl => subst hl; subst h1; exact stays_set (pl hp) hj hf _ (fun e => ⟨rfl, rfl, e⟩) (by decide)
  | hung p q h1 hp hq hu hn hs hl => subst hl; subst h1; exact stays_set (pl hp) hj hf _ (fun e => ⟨rfl, rfl, e⟩) (by decide)
  | aimed p h1 hp hl => subst hl; subst h1; exact stays_set (pl hp) hj hf _ (fun e => ⟨rfl, rfl, e⟩) (by decide)

/-- Whatever an op comes to on a right forest: those that are frozen stay. -/
theorem done_stays {L : List Acc} {k i t m r : Int} (hR : Right (FL L) L.length) {j : Nat} (hj : j < L.length) (hf : (FL L j).frozen = true) :
    ∃ q, place (FL (doneS L k i t m r).2) (doneS L k i t m r).2.length (FL L j).id = some q ∧ Stays k i (doneS L k i t m r).1 (FL L j) (FL (doneS L k i t m r).2 q) := by
  by_cases h0 : (doneS L k i t m r).1 = 0
  · have h : doneS L k i t m r = (0, (doneS L k i t m r).2) := by rw [← h0]
    generalize (doneS L k i t m r).2 = l at *
    obtain ⟨ho, hp, hr⟩ := doneS_zero h
    obtain ⟨q, hq, hs⟩ := made_stays hR (made ho hp) hj hf
    refine ⟨q, ?_, by rw [h0]; exact hs⟩
    rw [← hs.1]
    exact place_self hr.2.2.1 hq
  · have e := fin_same h0
    rw [e]
    refine ⟨j, place_self hR.2.2.1 hj, rfl, rfl, ?_⟩
    simp [hf, h0]
end Go.Proofs.YtghkbhggopiajaaGreatDoor

/- What an op that is done brings the sums of the accounts to: no limit is passed, or passed farther. Nothing of the program. -/
namespace Go.Proofs.YtghkbhggopiajaaGreatDoor

/-- A chain in one forest is a chain in another one, where those of the one are with the same Up in the other one. -/
theorem chain_ext {F G : Nat → Acc} {n n' : Nat} (h : ∀ y j, place F n y = some j → ∃ j', place G n' y = some j' ∧ (G j').up = (F j).up) : ∀ (m : Nat) (x : Int) (l : List Int), chain F n m x = some l → chain G n' m x = some l
  | 0, x, l, hc => by simpa [chain] using hc
  | m + 1, x, l, hc => by
    by_cases h0 : x = 0
    · subst h0; simpa [chain] using hc
    · simp only [chain, if_neg h0] at hc ⊢
      cases hp : place F n x with
      | none => rw [hp] at hc; cases hc
      | some i =>
        obtain ⟨j', e1, e2⟩ := h x i hp
        rw [hp] at hc
        rw [e1]
        simp only [Option.map_eq_some_iff] at hc ⊢
        obtain ⟨l', h1, h2⟩ := hc
        exact ⟨l', by rw [e2]; exact chain_ext h m _ l' h1, h2⟩

/-- One more account at a place. -/
def insF (F : Nat → Acc) (k : Nat) (x : Acc) (j : Nat) : Acc := if j < k then F j else if j = k then x else F (j - 1)
theorem sum_ins (h : Acc → Int) (F : Nat → Acc) (x : Acc) : ∀ (n k : Nat), k ≤ n → sumTo (fun j => h (insF F k x j)) (n + 1) = sumTo (fun j => h (F j)) n + h x
  | 0, k, hk => by
    have : k = 0 := by omega
    subst this
    simp [sumTo, insF]
  | n + 1, k, hk => by
    by_cases e : k = n + 1
    · subst e
      have e1 : sumTo (fun j => h (insF F (n + 1) x j)) (n + 1) = sumTo (fun j => h (F j)) (n + 1) := sumTo_congr (fun j hj => by simp [insF, hj])
      have e2 : insF F (n + 1) x (n + 1) = x := by simp [insF]
      show sumTo (fun j => h (insF F (n + 1) x j)) (n + 1) + h (insF F (n + 1) x (n + 1)) = _
      rw [e1, e2]
    · have ih := sum_ins h F x n k (by omega)
      have e2 : insF F k x (n + 1) = F n := by
        unfold insF
        rw [if_neg (by omega), if_neg (by omega)]
        rfl
      show sumTo (fun j => h (insF F k x j)) (n + 1) + h (insF F k x (n + 1)) = sumTo (fun j => h (F j)) n + h (F n) + h x
      rw [ih, e2]; omega
/-- Where an account stands when one more is there. -/
def shift (k j : Nat) : Nat := if j < k then j else j + 1
theorem insF_shift (F : Nat → Acc) (k : Nat) (x : Acc) (j : Nat) : insF F k x (shift k j) = F j := by
  unfold insF shift
  by_cases e : j < k
  · simp [e]
  · rw [if_neg e, if_neg (by omega), if_neg (by omega)]
    rfl
/-- An account that has nothing changes no sum. -/
theorem sum_new {F G : Nat → Acc} {n k : Nat} {x : Acc} (hF : Right F n) (hG : Right G (n + 1)) (hk : k ≤ n) (hx : x.balance = 0) (e : ∀ j, j < n + 1 → G j = insF F k x j) {i : Nat} (hi : i < n) : sumAll G (n + 1) (shift k i) = sumAll F n i := by
  have hs : ∀ j, j < n → shift k j < n + 1 := fun j hj => by unfold shift; split <;> omega
  have eS : ∀ j, j < n → G (shift k j) = F j := fun j hj => by rw [e _ (hs j hj), insF_shift]
  have hc : ∀ j, j < n → chain G (n + 1) (n + 1) (F j).id = chain F n n (F j).id := fun j hj => by
    rw [hF.path hj]
    refine chain_mono G (n + 1) n (n + 1) _ _ (by omega) (chain_ext (F := F) (n := n) (fun y q hq => ?_) n _ _ (hF.path hj))
    obtain ⟨hqn, hid⟩ := place_some hq
    refine ⟨shift k q, ?_, by rw [eS q hqn]⟩
    rw [← hid, ← eS q hqn]
    exact place_self hG.2.2.1 (hs q hqn)
  have e0 : sumAll G (n + 1) (shift k i) = sumTo (fun j => (fun a : Acc => (if (F i).id ∈ (chain G (n + 1) (n + 1) a.id).getD [] then 1 else 0) * a.balance) (insF F k x j)) (n + 1) := by
    refine sumTo_congr (fun j hj => ?_)
    simp only [on, pathL, eS i hi, e j hj]
  rw [e0]
  refine (sum_ins (fun a : Acc => (if (F i).id ∈ (chain G (n + 1) (n + 1) a.id).getD [] then 1 else 0) * a.balance) F x n k hk).trans ?_
  simp only [hx, Int.mul_zero, Int.add_zero]
  refine sumTo_congr (fun j hj => ?_)
  unfold on pathL
  rw [hc j hj]

theorem place_congr {F G : Nat → Acc} {n : Nat} (h : ∀ j, j < n → (G j).id = (F j).id) (x : Int) : place G n x = place F n x := by
  cases hp : place F n x with
  | none =>
    refine place_miss (fun j hj e => ?_)
    rw [h j hj] at e
    unfold place at hp
    have : ∀ (m k : Nat), k ≤ j → j < k + m → findAt F x m k ≠ none := by
      intro m
      induction m with
      | zero => intro k h1 h2; omega
      | succ m ih =>
        intro k h1 h2
        unfold findAt
        split
        · simp
        · rename_i hne
          have : k ≠ j := fun e' => hne (by rw [e']; exact e)
          exact ih (k + 1) (by omega) (by omega)
    exact this n 0 (by omega) (by omega) hp
  | some i =>
    obtain ⟨_, b, c, d⟩ := findAt_some hp
    exact place_hit (by omega) (by rw [h i (by omega)]; exact c) (fun j hj => by rw [h j (by omega)]; exact d j (by omega) hj)
theorem chain_congr {F G : Nat → Acc} {n : Nat} (h : ∀ j, j < n → (G j).id = (F j).id ∧ (G j).up = (F j).up) : ∀ (m : Nat) (x : Int), chain G n m x = chain F n m x
  | 0, x => rfl
  | m + 1, x => by
    simp only [chain]
    rw [place_congr (fun j hj => (h j hj).1)]
    cases hp : place F n x with
    | none => rfl
    | some i => simp only [(h i (place_some hp).1).2, chain_congr h m]
theorem on_congr {F G : Nat → Acc} {n : Nat} (h : ∀ j, j < n → (G j).id = (F j).id ∧ (G j).up = (F j).up) {i j : Nat} (hi : i < n) (hj : j < n) : on G n i j = on F n i j := by
  unfold on pathL
  rw [chain_congr h, (h i hi).1, (h j hj).1]
/-- Balances that change by d. -/
theorem sum_change {F G : Nat → Acc} {n : Nat} (h : ∀ j, j < n → (G j).id = (F j).id ∧ (G j).up = (F j).up) (d : Nat → Int) (hd : ∀ j, j < n → (G j).balance = (F j).balance + d j) {i : Nat} (hi : i < n) : sumAll G n i = sumAll F n i + sumTo (fun j => on F n i j * d j) n := by
  unfold sumAll
  rw [← sumTo_add]
  refine sumTo_congr (fun j hj => ?_)
  rw [on_congr h hi hj, hd j hj, Int.mul_add]
theorem sum_one (f : Nat → Int) (p : Nat) (m : Int) {n : Nat} (hp : p < n) : sumTo (fun j => f j * (if j = p then m else 0)) n = f p * m := by
  have e : sumTo (fun j => f j * (if j = p then m else 0)) n = sumTo (fun j => if j = p then f p * m else 0) n := sumTo_congr (fun j _ => by
    by_cases e : j = p
    · subst e; simp
    · simp [e])
  rw [e, sumTo_single, if_pos hp]

/-- An account with all below it hung elsewhere: who is on whose path. -/
theorem on_hung {F G : Nat → Acc} {n p q u : Nat} (hF : Right F n) (hG : Right G n) (hp : p < n) (hq : q < n) (hu : u < n) (hid : ∀ j, j < n → (G j).id = (F j).id) (hup : ∀ j, j < n → j ≠ p → (G j).up = (F j).up) (hpu : (F p).up = (F u).id) (hpq : (G p).up = (F q).id) (hn : (F p).id ∉ pathL F n q) :
    ∀ (d j : Nat), j < n → (pathL F n j).length ≤ d → ∀ i, i < n → on G n i j = on F n i j + on F n p j * (on F n i q - on F n i u) := by
  have hq0 : on F n p q = 0 := by simp [on, hn]
  have low : ∀ (d j : Nat), j < n → (pathL F n j).length ≤ d → on F n p j = 0 → ∀ i, i < n → on G n i j = on F n i j := by
    intro d
    induction d with
    | zero =>
      intro j hj hd
      by_cases hu : (F j).up = 0
      · rw [hF.path_root hj hu] at hd; simp at hd
      · obtain ⟨p, _, _, e⟩ := hF.path_up hj hu
        rw [e] at hd; simp at hd
    | succ d ih =>
      intro j hj hd h0 i hi
      have hjp : j ≠ p := fun e => by
        subst e
        by_cases hu : (F j).up = 0
        · rw [on_root hF hj hj hu] at h0; simp at h0
        · obtain ⟨p', hp', _, e⟩ := hF.path_up hj hu
          rw [on_up hF hj hj hp' e] at h0
          have := on_01 F n j p'
          simp at h0; omega
      by_cases hu : (F j).up = 0
      · rw [on_root hF hi hj hu, on_root hG hi hj (by rw [hup j hj hjp]; exact hu)]
      · obtain ⟨p1, hp1, hid1, e1⟩ := hF.path_up hj hu
        obtain ⟨p2, hp2, hid2, e2⟩ := hG.path_up hj (by rw [hup j hj hjp]; exact hu)
        have e12 : p2 = p1 := hF.inj hp2 hp1 (by rw [← hid p2 hp2, hid2, hup j hj hjp, hid1])
        subst e12
        rw [on_up hF hi hj hp2 e1, on_up hG hi hj hp2 e2]
        rw [on_up hF hp hj hp2 e1, if_neg (fun e => hjp e.symm)] at h0
        rw [ih p2 hp2 (by rw [e1] at hd; simp at hd; omega) (by omega) i hi]
  intro d
  induction d with
  | zero =>
    intro j hj hd
    by_cases hu : (F j).up = 0
    · rw [hF.path_root hj hu] at hd; simp at hd
    · obtain ⟨p, _, _, e⟩ := hF.path_up hj hu
      rw [e] at hd; simp at hd
  | succ d ih =>
    intro j hj hd i hi
    by_cases hjp : j = p
    · subst hjp
      have h1 := hF.id1 hu
      obtain ⟨p1, hp1, hid1, e1⟩ := hF.path_up hj (by omega)
      have e1u : p1 = u := hF.inj hp1 hu (by rw [hid1, hpu])
      subst e1u
      have h2 := hF.id1 hq
      obtain ⟨p2, hp2, hid2, e2⟩ := hG.path_up hj (by omega)
      have e2q : p2 = q := hF.inj hp2 hq (by rw [← hid p2 hp2, hid2, hpq])
      subst e2q
      have hpp : on F n j j = 1 := by
        rw [on_up hF hj hj hp1 e1]
        have : on F n j p1 = 0 := by simp [on, hF.not_mem hj hp1 e1]
        rw [this]; simp
      rw [on_up hG hi hj hp2 e2, low _ p2 hp2 (Nat.le_refl _) hq0 i hi, on_up hF hi hj hp1 e1, hpp]
      omega
    · by_cases hu0 : (F j).up = 0
      · have hup0 : on F n p j = 0 := by rw [on_root hF hp hj hu0, if_neg (fun e => hjp e.symm)]
        rw [low _ j hj (Nat.le_refl _) hup0 i hi, hup0]
        simp
      · obtain ⟨p1, hp1, hid1, e1⟩ := hF.path_up hj hu0
        obtain ⟨p2, hp2, hid2, e2⟩ := hG.path_up hj (by rw [hup j hj hjp]; exact hu0)
        have e12 : p2 = p1 := hF.inj hp2 hp1 (by rw [← hid p2 hp2, hid2, hup j hj hjp, hid1])
        subst e12
        have h3 : on F n p j = on F n p p2 := by rw [on_up hF hp hj hp2 e1, if_neg (fun e => hjp e.symm)]; simp
        rw [on_up hF hi hj hp2 e1, on_up hG hi hj hp2 e2, ih p2 hp2 (by rw [e1] at hd; simp at hd; omega) i hi, h3]
        generalize on F n p p2 * (on F n i q - on F n i u) = z
        omega
theorem sum_hung {F G : Nat → Acc} {n p q u : Nat} (hF : Right F n) (hG : Right G n) (hp : p < n) (hq : q < n) (hu : u < n) (hid : ∀ j, j < n → (G j).id = (F j).id) (hup : ∀ j, j < n → j ≠ p → (G j).up = (F j).up) (hb : ∀ j, j < n → (G j).balance = (F j).balance) (hpu : (F p).up = (F u).id) (hpq : (G p).up = (F q).id) (hn : (F p).id ∉ pathL F n q) {i : Nat} (hi : i < n) :
    sumAll G n i = sumAll F n i + sumAll F n p * (on F n i q - on F n i u) := by
  unfold sumAll
  rw [← sumTo_mul, ← sumTo_add]
  refine sumTo_congr (fun j hj => ?_)
  rw [on_hung hF hG hp hq hu hid hup hpu hpq hn _ j hj (Nat.le_refl _) i hi, hb j hj, Int.add_mul, Int.mul_assoc, Int.mul_assoc, Int.mul_comm (on F n i q - on F n i u)]

/-- What is left to be taken is within each limit on the path that is not among others. -/
theorem fold_low {F : Nat → Acc} {n : Nat} {but : List Int} : ∀ (l : List Int) (r0 : Option Int), (∀ x, x ∈ l → ∃ j, place F n x = some j) →
    (∀ x, x ∈ l → x ∉ but → ∀ j, place F n x = some j → 0 ≤ (F j).limit → ∃ r, l.foldl (step F n but) r0 = some r ∧ r ≤ sumAll F n j + (F j).limit) ∧ (∀ q, r0 = some q → ∃ r, l.foldl (step F n but) r0 = some r ∧ r ≤ q)
  | [], r0, _ => ⟨fun x hx => (by cases hx), fun q hq => ⟨q, hq, by omega⟩⟩
  | y :: l, r0, hpl => by
    simp only [List.foldl_cons]
    obtain ⟨j, hj⟩ := hpl y (by simp)
    have hpl' : ∀ x, x ∈ l → ∃ j, place F n x = some j := fun x hx => hpl x (by simp [hx])
    by_cases hsk : (F j).limit < 0 ∨ y ∈ but
    · rw [step_skip hj hsk]
      obtain ⟨i1, i2⟩ := fold_low l r0 hpl'
      refine ⟨fun x hx hb j' hj' hl' => ?_, i2⟩
      rcases List.mem_cons.1 hx with e | e
      · subst e
        rw [hj] at hj'
        obtain rfl := Option.some.inj hj'
        rcases hsk with h | h
        · omega
        · exact absurd h hb
      · exact i1 x e hb j' hj' hl'
    · have key : ∃ z, step F n but r0 y = some z ∧ z ≤ sumAll F n j + (F j).limit ∧ (∀ q, r0 = some q → z ≤ q) := by
        cases r0 with
        | none => exact ⟨_, step_first hj hsk, by omega, fun q hq => (by cases hq)⟩
        | some q =>
          by_cases hq : sumAll F n j + (F j).limit < q
          · exact ⟨_, step_less hj hsk hq, by omega, fun q' hq' => (by obtain rfl := Option.some.inj hq'; omega)⟩
          · exact ⟨_, step_more hj hsk hq, by omega, fun q' hq' => (by obtain rfl := Option.some.inj hq'; omega)⟩
      obtain ⟨z, hz, z1, z2⟩ := key
      rw [hz]
      obtain ⟨i1, i2⟩ := fold_low l (some z) hpl'
      obtain ⟨r, hr, hrz⟩ := i2 z rfl
      refine ⟨fun x hx hb j' hj' hl' => ?_, fun q hq => ⟨r, hr, by have := z2 q hq; omega⟩⟩
      rcases List.mem_cons.1 hx with e | e
      · subst e
        rw [hj] at hj'
        obtain rfl := Option.some.inj hj'
        exact ⟨r, hr, by omega⟩
      · exact i1 x e hb j' hj' hl'
theorem room_low {F : Nat → Acc} {n : Nat} {but : List Int} (h : Right F n) {p i : Nat} (hp : p < n) (hi : i < n) (h1 : on F n i p = 1) (hb : (F i).id ∉ but) (hl : 0 ≤ (F i).limit) : ∃ r, room F n but p = some r ∧ r ≤ sumAll F n i + (F i).limit := by
  have hm : (F i).id ∈ pathL F n p := by
    unfold on at h1
    split at h1
    · assumption
    · cases h1
  exact (fold_low (pathL F n p) none (fun x hx => by obtain ⟨j, _, _, e⟩ := h.on_path hp hx; exact ⟨j, e⟩)).1 _ hm hb i (place_self h.2.2.1 hi) hl

/-- What the law of the limits asks of one account. -/
def Held (was now limit : Int) : Prop := 0 ≤ limit → now < -limit → was ≤ now

theorem made_held {L l : List Acc} {k i t m r : Int} (hR : Right (FL L) L.length) (hl : Right (FL l) l.length) (ho : opOk k i t m r) (k8 : k ≠ 8) (h : Made L k i t m r l) {x j : Nat} (hx : x < l.length) (hj : place (FL L) L.length (FL l x).id = some j) : Held (sumAll (FL L) L.length j) (sumAll (FL l) l.length x) (FL l x).limit := by
  have pl : ∀ {x : Int} {p : Nat}, place (FL L) L.length x = some p → p < L.length := fun h => (place_some h).1
  -- one account is set, its id as it was
  have same : ∀ (p : Nat) (A : Acc), p < L.length → l = L.set p A → A.id = (FL L p).id → l.length = L.length ∧ x = j ∧ (∀ q, q < L.length → (FL l q).id = (FL L q).id) := by
    intro p A hp e hA
    subst e
    have hid : ∀ q, q < L.length → (FL (L.set p A) q).id = (FL L q).id := fun q hq => by
      by_cases e : q = p
      · subst e; rw [FL_set_at _ hq, hA]
      · rw [FL_set_ne _ e]
    have hxL : x < L.length := by simpa using hx
    rw [hid x hxL, place_self hR.2.2.1 hxL] at hj
    exact ⟨by simp, Option.some.inj hj, hid⟩
  have keep : ∀ (p : Nat) (A : Acc) (d : Int), p < L.length → l = L.set p A → A.id = (FL L p).id → A.up = (FL L p).up → A.balance = (FL L p).balance + d → l.length = L.length ∧ x = j ∧ sumAll (FL l) l.length x = sumAll (FL L) L.length x + on (FL L) L.length x p * d := by
    intro p A d hp e hA hu hb
    obtain ⟨e1, e2, hid⟩ := same p A hp e hA
    refine ⟨e1, e2, ?_⟩
    have hup : ∀ q, q < L.length → (FL l q).up = (FL L q).up := fun q hq => by
      subst e
      by_cases e : q = p
      · subst e; rw [FL_set_at _ hq, hu]
      · rw [FL_set_ne _ e]
    have hd : ∀ q, q < L.length → (FL l q).balance = (FL L q).balance + (if q = p then d else 0) := fun q hq => by
      subst e
      by_cases e : q = p
      · subst e; rw [FL_set_at _ hq, hb]; simp
      · rw [FL_set_ne _ e]; simp [e]
    rw [e1]
    have hxL : x < L.length := by omega
    rw [sum_change (fun q hq => ⟨hid q hq, hup q hq⟩) _ hd hxL, sum_one (fun q => on (FL L) L.length x q) p d hp]
  have still : ∀ (p : Nat) (A : Acc), p < L.length → l = L.set p A → A.id = (FL L p).id → A.up = (FL L p).up → A.balance = (FL L p).balance → Held (sumAll (FL L) L.length j) (sumAll (FL l) l.length x) (FL l x).limit := by
    intro p A hp e hA hu hb _ _
    obtain ⟨_, e2, e3⟩ := keep p A 0 hp e hA hu (by rw [hb]; omega)
    rw [e3, ← e2]
    simp
  cases h with
  | opened h1 hno hll =>
    intro _ _
    have hk := rank_le L i
    have hlen : l.length = L.length + 1 := by rw [hll]; simp; omega
    have hins : ∀ q, q < L.length + 1 → FL l q = insF (FL L) (rankL L i) ⟨i, t, m, r, -1, false, 0, 0⟩ q := fun q hq => by
      rw [hll]
      unfold insF
      by_cases e : q < rankL L i
      · rw [if_pos e, FL_ins_lt hk e]
      · rw [if_neg e]
        by_cases e2 : q = rankL L i
        · rw [if_pos e2, e2, FL_ins_at hk]
        · rw [if_neg e2]
          have : q = q - 1 + 1 := by omega
          rw [this, FL_ins_gt hk (by omega)]
          simp
    have hjL := pl hj
    have hsj : shift (rankL L i) j < l.length := by unfold shift; split <;> omega
    have ex : x = shift (rankL L i) j := by
      refine hl.inj hx hsj ?_
      rw [hins (shift (rankL L i) j) (by omega), insF_shift, (place_some hj).2]
    have := sum_new hR (hlen ▸ hl) hk rfl hins hjL
    rw [ex, hlen, this]
    omega
  | frozen p h1 hp hf hll => exact still p _ (pl hp) hll rfl rfl rfl
  | thawed p h1 hp hf hll => exact still p _ (pl hp) hll rfl rfl rfl
  | closed p h1 hp hf hb hk hll =>
    intro _ _
    have hpl := pl hp
    have hlen : L.length = l.length + 1 := by rw [hll]; simp; omega
    have hins : ∀ q, q < l.length + 1 → FL L q = insF (FL l) p (FL L p) q := fun q hq => by
      rw [hll]
      unfold insF
      by_cases e : q < p
      · rw [if_pos e, FL_del_lt hpl e]
      · rw [if_neg e]
        by_cases e2 : q = p
        · rw [if_pos e2, e2]
        · rw [if_neg e2, FL_del_ge hpl (by omega)]
          have : q - 1 + 1 = q := by omega
          rw [this]
    have ej : j = shift p x := by
      have hs : shift p x < L.length := by unfold shift; split <;> omega
      refine hR.inj (pl hj) hs ?_
      rw [hins (shift p x) (by omega), insF_shift, (place_some hj).2]
    have := sum_new hl (hlen ▸ hR) (by omega) hb hins hx
    rw [ej, hlen, this]
    omega
  | put p h1 hp hf hll =>
    intro _ _
    obtain ⟨_, e2, e3⟩ := keep p _ m (pl hp) hll rfl rfl rfl
    rw [e3, ← e2]
    have hm : 1 ≤ m := by unfold opOk at ho; omega
    rcases on_01 (FL L) L.length x p with e | e <;> rw [e] <;> omega
  | taken p h1 hp hf hs hll =>
    intro h0 hlow
    obtain ⟨e1, e2, e3⟩ := keep p _ (-m) (pl hp) hll rfl rfl (by simp; omega)
    have hxL : x < L.length := by omega
    have hlim : (FL l x).limit = (FL L x).limit := by
      rw [hll]
      by_cases e : x = p
      · subst e; rw [FL_set_at _ hxL]
      · rw [FL_set_ne _ e]
    rw [e3] at hlow ⊢
    rw [hlim] at h0 hlow
    rw [← e2]
    rcases on_01 (FL L) L.length x p with e | e
    · rw [e]; omega
    · exfalso
      rw [e] at hlow
      obtain ⟨rr, hr, hle⟩ := room_low (but := []) hR (pl hp) hxL e (by simp) h0
      rw [hr] at hs
      simp at hs
      omega
  | paid p q h1 hp hq hf hg hs hll =>
    intro h0 hlow
    have hpq : q ≠ p := fun e => by
      subst e
      have : i = t := (place_some hp).2.symm.trans (place_some hq).2
      unfold opOk at ho; omega
    have hpL := pl hp
    have hqL := pl hq
    have hlen : l.length = L.length := by rw [hll]; simp
    have hxL : x < L.length := by omega
    have hall : ∀ z, z < L.length → (FL l z).id = (FL L z).id ∧ (FL l z).up = (FL L z).up ∧ (FL l z).limit = (FL L z).limit ∧ (FL l z).balance = (FL L z).balance + ((if z = p then -m else 0) + (if z = q then m else 0)) := fun z hz => by
      rw [hll]
      by_cases e : z = q
      · subst e
        rw [FL_set_at _ (by simpa using hz)]
        simp [hpq]
      · rw [FL_set_ne _ e]
        by_cases e' : z = p
        · subst e'
          rw [FL_set_at _ hz]
          simp [e]; omega
        · rw [FL_set_ne _ e']
          simp [e, e']
    have ex : x = j := by
      have := hj
      rw [(hall x hxL).1, place_self hR.2.2.1 hxL] at this
      exact Option.some.inj this
    have e3 : sumAll (FL l) l.length x = sumAll (FL L) L.length x + (on (FL L) L.length x p * -m + on (FL L) L.length x q * m) := by
      rw [hlen, sum_change (fun z hz => ⟨(hall z hz).1, (hall z hz).2.1⟩) _ (fun z hz => (hall z hz).2.2.2) hxL]
      congr 1
      rw [← sum_one (fun z => on (FL L) L.length x z) p (-m) hpL, ← sum_one (fun z => on (FL L) L.length x z) q m hqL, ← sumTo_add]
      refine sumTo_congr (fun z _ => ?_)
      rw [Int.mul_add]
    have hm : 1 ≤ m := by unfold opOk at ho; omega
    rw [e3] at hlow ⊢
    rw [(hall x hxL).2.2.1] at h0 hlow
    rw [← ex]
    rcases on_01 (FL L) L.length x p with e | e
    · rw [e]
      rcases on_01 (FL L) L.length x q with e' | e' <;> rw [e'] <;> omega
    · rcases on_01 (FL L) L.length x q with e' | e'
      · exfalso
        rw [e, e'] at hlow
        have hnot : (FL L x).id ∉ pathL (FL L) L.length q := fun hm => by simp [on, hm] at e'
        obtain ⟨rr, hr, hle⟩ := room_low hR hpL hxL e hnot h0
        refine hs ⟨rr, hr, ?_⟩
        omega
      · rw [e, e']; omega
  | limited p h1 hp hll => exact absurd h1 k8
  | hung p q h1 hp hq hu hn hs hll =>
    intro h0 hlow
    have hpL := pl hp
    have hqL := pl hq
    obtain ⟨e1, e2, hid⟩ := same p _ hpL hll rfl
    have hxL : x < L.length := by omega
    obtain ⟨u, huL, hidu, epath⟩ := hR.path_up hpL hu
    have hpu : place (FL L) L.length (FL L p).up = some u := by rw [← hidu]; exact place_self hR.2.2.1 huL
    rw [hpu] at hs
    simp only [Option.getD_some] at hs
    have hup : ∀ z, z < L.length → z ≠ p → (FL l z).up = (FL L z).up := fun z _ e => by rw [hll, FL_set_ne _ e]
    have hb : ∀ z, z < L.length → (FL l z).balance = (FL L z).balance := fun z hz => by
      rw [hll]
      by_cases e : z = p
      · subst e; rw [FL_set_at _ hz]
      · rw [FL_set_ne _ e]
    have hlim : (FL l x).limit = (FL L x).limit := by
      rw [hll]
      by_cases e : x = p
      · subst e; rw [FL_set_at _ hxL]
      · rw [FL_set_ne _ e]
    have hpq : (FL l p).up = (FL L q).id := by rw [hll, FL_set_at _ hpL]
    have e3 := sum_hung hR (e1 ▸ hl) hpL hqL huL hid hup hb hidu.symm hpq hn hxL
    rw [e1, e3] at hlow ⊢
    rw [hlim] at h0 hlow
    rw [← e2]
    have mem : ∀ z, z < L.length → on (FL L) L.length x z = 1 → (FL L x).id ∈ pathL (FL L) L.length z := fun z _ h => by
      unfold on at h
      split at h
      · assumption
      · cases h
    have nmem : ∀ z, z < L.length → on (FL L) L.length x z = 0 → (FL L x).id ∉ pathL (FL L) L.length z := fun z _ h hm => by simp [on, hm] at h
    have hbad : ¬ bad L p q u x := fun h => hs ⟨x, hxL, h⟩
    rcases on_01 (FL L) L.length x q with e | e <;> rcases on_01 (FL L) L.length x u with e' | e'
    · rw [e, e']; simp
    · rw [e, e'] at hlow ⊢
      by_cases hpos : 0 < sumAll (FL L) L.length p
      · exfalso
        refine hbad (Or.inl ⟨hpos, h0, mem u huL e', nmem q hqL e, ?_⟩)
        omega
      · omega
    · rw [e, e'] at hlow ⊢
      by_cases hneg : sumAll (FL L) L.length p < 0
      · exfalso
        refine hbad (Or.inr ⟨hneg, h0, mem q hqL e, nmem u huL e', ?_⟩)
        omega
      · omega
    · rw [e, e']; simp
  | aimed p h1 hp hll => exact still p _ (pl hp) hll rfl rfl rfl
end Go.Proofs.YtghkbhggopiajaaGreatDoor

/- What is paid is less at the one and more at the other one; what is hung elsewhere has what it had. Nothing of the program. -/
namespace Go.Proofs.YtghkbhggopiajaaGreatDoor

theorem made_paid {L l : List Acc} {i t m r : Int} (hR : Right (FL L) L.length) (ho : opOk 7 i t m r) (h : Made L 7 i t m r l) : l.length = L.length ∧ ∀ z, z < L.length → (FL l z).id = (FL L z).id ∧ (FL l z).balance = (FL L z).balance + ((if (FL L z).id = i then -m else 0) + (if (FL L z).id = t then m else 0)) := by
  cases h with
  | opened h1 => cases h1
  | frozen p h1 => cases h1
  | thawed p h1 => cases h1
  | closed p h1 => cases h1
  | put p h1 => cases h1
  | taken p h1 => cases h1
  | limited p h1 => cases h1
  | hung p q h1 => cases h1
  | aimed p h1 => cases h1
  | paid p q h1 hp hq hf hg hs hll =>
    obtain ⟨hpL, hip⟩ := place_some hp
    obtain ⟨hqL, hiq⟩ := place_some hq
    have hit : i ≠ t := by unfold opOk at ho; omega
    have hpq : q ≠ p := fun e => by subst e; exact hit (hip.symm.trans hiq)
    refine ⟨by rw [hll]; simp, fun z hz => ?_⟩
    have ez : ((FL L z).id = i) ↔ z = p := ⟨fun e => hR.inj hz hpL (by rw [e, hip]), fun e => by rw [e, hip]⟩
    have ez' : ((FL L z).id = t) ↔ z = q := ⟨fun e => hR.inj hz hqL (by rw [e, hiq]), fun e => by rw [e, hiq]⟩
    simp only [ez, ez']
    rw [hll]
    by_cases e : z = q
    · subst e
      rw [FL_set_at _ (by simpa using hz)]
      simp [hpq]
    · rw [FL_set_ne _ e]
      by_cases e' : z = p
      · subst e'
        rw [FL_set_at _ hz]
        simp [e]; omega
      · rw [FL_set_ne _ e']
        simp [e, e']
theorem Right.path_head {F : Nat → Acc} {n : Nat} (h : Right F n) {j : Nat} (hj : j < n) : ∃ l, pathL F n j = (F j).id :: l := by
  by_cases hu : (F j).up = 0
  · exact ⟨[], h.path_root hj hu⟩
  · obtain ⟨p, _, _, e⟩ := h.path_up hj hu
    exact ⟨_, e⟩
theorem made_hung {L l : List Acc} {i t m r : Int} (hR : Right (FL L) L.length) (hl : Right (FL l) l.length) (h : Made L 9 i t m r l) : l.length = L.length ∧ ∃ p, place (FL L) L.length i = some p ∧ place (FL l) l.length i = some p ∧ sumAll (FL l) l.length p = sumAll (FL L) L.length p ∧ ∃ rest, pathL (FL l) l.length p = i :: t :: rest := by
  cases h with
  | opened h1 => cases h1
  | frozen p h1 => cases h1
  | thawed p h1 => cases h1
  | closed p h1 => cases h1
  | put p h1 => cases h1
  | taken p h1 => cases h1
  | limited p h1 => cases h1
  | paid p q h1 => cases h1
  | aimed p h1 => cases h1
  | hung p q h1 hp hq hu hn hs hll =>
    obtain ⟨hpL, hip⟩ := place_some hp
    obtain ⟨hqL, hiq⟩ := place_some hq
    have hid : ∀ z, z < L.length → (FL l z).id = (FL L z).id := fun z hz => by
      rw [hll]
      by_cases e : z = p
      · subst e; rw [FL_set_at _ hz]
      · rw [FL_set_ne _ e]
    have hup : ∀ z, z < L.length → z ≠ p → (FL l z).up = (FL L z).up := fun z _ e => by rw [hll, FL_set_ne _ e]
    have hb : ∀ z, z < L.length → (FL l z).balance = (FL L z).balance := fun z hz => by
      rw [hll]
      by_cases e : z = p
      · subst e; rw [FL_set_at _ hz]
      · rw [FL_set_ne _ e]
    have hlen : l.length = L.length := by rw [hll]; simp
    have hpq : (FL l p).up = (FL L q).id := by rw [hll, FL_set_at _ hpL]
    obtain ⟨u, huL, hidu, epath⟩ := hR.path_up hpL hu
    have hl' : Right (FL l) L.length := hlen ▸ hl
    refine ⟨hlen, p, hp, ?_, ?_, ?_⟩
    · rw [hlen, ← hip, ← hid p hpL]
      exact place_self hl'.2.2.1 hpL
    · rw [hlen, sum_hung hR hl' hpL hqL huL hid hup hb hidu.symm hpq hn hpL]
      have e1 : on (FL L) L.length p q = 0 := by simp [on, hn]
      have e2 : on (FL L) L.length p u = 0 := by simp [on, hR.not_mem hpL huL epath]
      rw [e1, e2]; simp
    · rw [hlen]
      have h2 := hR.id1 hqL
      obtain ⟨p2, hp2, hid2, e2⟩ := hl'.path_up hpL (by rw [hpq]; omega)
      obtain ⟨rest, e3⟩ := hl'.path_head hp2
      rw [e2, e3, hid2, hpq, hiq, hid p hpL, hip]
      exact ⟨rest, rfl⟩
end Go.Proofs.YtghkbhggopiajaaGreatDoor
