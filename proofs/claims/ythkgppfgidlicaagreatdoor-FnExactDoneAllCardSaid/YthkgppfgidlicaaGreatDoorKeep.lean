/- What an op that is done leaves: all there is, those that are frozen. Nothing of the program. -/
import Derived.Test.YthkgppfgidlicaaGreatDoorDoneI
namespace Go.Proofs.YthkgppfgidlicaaGreatDoor

/-- All balances of a list. -/
def tot : List Acc → Int
  | [] => 0
  | x :: L => x.balance + tot L
theorem tot_append : ∀ (A B : List Acc), tot (A ++ B) = tot A + tot B
  | [], B => by simp [tot]
  | x :: A, B => by simp only [List.cons_append, tot, tot_append A B]; omega
theorem tot_snoc (L : List Acc) (x : Acc) : tot (L ++ [x]) = tot L + x.balance := by rw [tot_append]; simp [tot]
theorem total_take (L : List Acc) : ∀ k, k ≤ L.length → total (FL L) k = tot (L.take k)
  | 0, _ => by simp [total, tot]
  | k + 1, hk => by
    simp only [total]
    rw [total_take L k (by omega), List.take_succ_eq_append_getElem (by omega : k < L.length), tot_snoc, FL_lt (by omega : k < L.length)]
theorem total_tot (L : List Acc) : total (FL L) L.length = tot L := by rw [total_take L _ (Nat.le_refl _), List.take_length]
theorem tot_set : ∀ (L : List Acc) (p : Nat) (A : Acc), p < L.length → tot (L.set p A) = tot L + (A.balance - (FL L p).balance)
  | [], p, A, h => by simp at h
  | x :: L, 0, A, _ => by
    have e : FL (x :: L) 0 = x := rfl
    rw [e]
    simp only [List.set_cons_zero, tot]; omega
  | x :: L, p + 1, A, h => by
    have e : FL (x :: L) (p + 1) = FL L p := by simp [FL, List.getD]
    simp only [List.set_cons_succ, tot]
    rw [tot_set L p A (by simpa using h), e]; omega
theorem tot_del (L : List Acc) (p : Nat) (hp : p < L.length) : tot (L.take p ++ L.drop (p + 1)) = tot L - (FL L p).balance := by
  have e : L = L.take p ++ FL L p :: L.drop (p + 1) := by
    rw [FL_lt hp]; simp
  have h : tot L = tot (L.take p) + ((FL L p).balance + tot (L.drop (p + 1))) := by
    conv => lhs; rw [e]
    rw [tot_append]; rfl
  rw [tot_append, h]; omega
theorem tot_ins (L : List Acc) (k : Nat) (x : Acc) : tot (L.take k ++ x :: L.drop k) = tot L + x.balance := by
  have h : tot L = tot (L.take k) + tot (L.drop k) := by rw [← tot_append, List.take_append_drop]
  rw [tot_append, h]
  simp only [tot]; omega

/-- What all there is changes by. -/
def comes (k m : Int) : Int := if k = 5 then m else if k = 6 then -m else 0

theorem doneS_zero {L l : List Acc} {k i t m r : Int} (h : doneS L k i t m r = (0, l)) : opOk k i t m r ∧ partS L k i t m r = (0, l) ∧ Right (FL l) l.length := by
  unfold doneS at h
  split at h
  · rename_i ho
    unfold finS at h
    split at h
    · split at h
      · rename_i h0 hr
        rw [h] at hr
        exact ⟨ho, h, hr⟩
      · simp at h
    · rename_i h0
      simp only [Prod.mk.injEq] at h
      exact absurd h.1 h0
  · simp at h

/-- One account is other than it was, or two, or one is new, or one is gone. -/
inductive Made (L : List Acc) (k i t m r : Int) (l : List Acc) : Prop
  | opened (h1 : k = 1) (hno : place (FL L) L.length i = none) (hl : l = L.take (rankL L i) ++ (⟨i, t, m, r, -1, false, 0, 0⟩ : Acc) :: L.drop (rankL L i))
  | frozen (p : Nat) (h1 : k = 2) (hp : place (FL L) L.length i = some p) (hf : (FL L p).frozen = false) (hl : l = L.set p { FL L p with frozen := true })
  | thawed (p : Nat) (h1 : k = 3) (hp : place (FL L) L.length i = some p) (hf : (FL L p).frozen = true) (hl : l = L.set p { FL L p with frozen := false })
  | closed (p : Nat) (h1 : k = 4) (hp : place (FL L) L.length i = some p) (hf : (FL L p).frozen = false) (hb : (FL L p).balance = 0) (hk : kids (FL L) (FL L p).id L.length = []) (hl : l = L.take p ++ L.drop (p + 1))
  | put (p : Nat) (h1 : k = 5) (hp : place (FL L) L.length i = some p) (hf : (FL L p).frozen = false) (hl : l = L.set p { FL L p with balance := (FL L p).balance + m })
  | taken (p : Nat) (h1 : k = 6) (hp : place (FL L) L.length i = some p) (hf : (FL L p).frozen = false) (hs : ¬ (room (FL L) L.length [] p).getD 0 < m) (hl : l = L.set p { FL L p with balance := (FL L p).balance - m })
  | paid (p q : Nat) (h1 : k = 7) (hp : place (FL L) L.length i = some p) (hq : place (FL L) L.length t = some q) (hf : (FL L p).frozen = false) (hg : (FL L q).frozen = false) (hs : ¬ payShort L p q m) (hl : l = (L.set p { FL L p with balance := (FL L p).balance - m }).set q { FL L q with balance := (FL L q).balance + m })
  | limited (p : Nat) (h1 : k = 8) (hp : place (FL L) L.length i = some p) (hl : l = L.set p { FL L p with limit := m })
  | hung (p q : Nat) (h1 : k = 9) (hp : place (FL L) L.length i = some p) (hq : place (FL L) L.length t = some q) (hu : (FL L p).up ≠ 0) (hn : (FL L p).id ∉ pathL (FL L) L.length q) (hs : ¬ hangShort L p q ((place (FL L) L.length (FL L p).up).getD 0)) (hl : l = L.set p { FL L p with up := (FL L q).id })
  | aimed (p : Nat) (h1 : k = 10) (hp : place (FL L) L.length i = some p) (hl : l = L.set p { FL L p with target := m })

theorem made {L l : List Acc} {k i t m r : Int} (ho : opOk k i t m r) (h : partS L k i t m r = (0, l)) : Made L k i t m r l := by
  unfold partS at h
  split at h
  · rename_i h1
    unfold openS at h
    split at h
    · simp at h
    · rename_i hno
      split at h
      · simp at h
      · simp only [Prod.mk.injEq, true_and] at h
        exact .opened h1 (by simpa using hno) h.symm
  · rename_i h1
    cases hp : place (FL L) L.length i with
    | none => rw [hp] at h; simp at h
    | some p =>
      rw [hp] at h
      simp only at h
      split at h
      · rename_i h7
        cases hq : place (FL L) L.length t with
        | none => rw [hq] at h; simp at h
        | some q =>
          rw [hq] at h
          simp only at h
          unfold payS at h
          split at h
          · simp at h
          · rename_i hf
            split at h
            · simp at h
            · rename_i hs
              simp only [Prod.mk.injEq, true_and] at h
              exact .paid p q h7 hp hq (by simp at hf; exact hf.1) (by simp at hf; exact hf.2) hs h.symm
      · rename_i h7
        split at h
        · rename_i h9
          cases hq : place (FL L) L.length t with
          | none => rw [hq] at h; simp at h
          | some q =>
            rw [hq] at h
            simp only at h
            unfold hangS at h
            split at h
            · simp at h
            · rename_i hu
              split at h
              · simp at h
              · rename_i hs
                simp only [Prod.mk.injEq, true_and] at h
                exact .hung p q h9 hp hq (fun e => hu (Or.inl e)) (fun e => hu (Or.inr e)) hs h.symm
        · rename_i h9
          have hk : k = 2 ∨ k = 3 ∨ k = 4 ∨ k = 5 ∨ k = 6 ∨ k = 8 ∨ k = 10 := by unfold opOk at ho; omega
          rcases hk with rfl | rfl | rfl | rfl | rfl | rfl | rfl
          · by_cases hf : (FL L p).frozen = true
            · simp [actS, hf] at h
            · simp [actS, hf] at h
              exact .frozen p rfl hp (by simpa using hf) h.symm
          · by_cases hf : (FL L p).frozen = true
            · simp [actS, hf] at h
              exact .thawed p rfl hp hf h.symm
            · simp [actS, hf] at h
          · by_cases hf : (FL L p).frozen = true
            · simp [actS, hf] at h
            · have e : actS L p 4 m = closeS L p := by simp [actS, hf]
              rw [e] at h
              unfold closeS at h
              split at h
              · simp at h
              · rename_i hb
                simp only [Prod.mk.injEq, true_and] at h
                refine .closed p rfl hp (by simpa using hf) ?_ ?_ h.symm
                · exact Classical.byContradiction fun e => hb (Or.inl e)
                · exact Classical.byContradiction fun e => hb (Or.inr e)
          · by_cases hf : (FL L p).frozen = true
            · simp [actS, hf] at h
            · have e : actS L p 5 m = (0, L.set p { FL L p with balance := (FL L p).balance + m }) := by simp [actS, hf]
              rw [e] at h
              simp only [Prod.mk.injEq, true_and] at h
              exact .put p rfl hp (by simpa using hf) h.symm
          · by_cases hf : (FL L p).frozen = true
            · simp [actS, hf] at h
            · have e : actS L p 6 m = takeS L p m := by simp [actS, hf]
              rw [e] at h
              unfold takeS at h
              split at h
              · simp at h
              · rename_i hs
                simp only [Prod.mk.injEq, true_and] at h
                exact .taken p rfl hp (by simpa using hf) hs h.symm
          · by_cases hf : (FL L p).up = 0 ∧ m < 0
            · simp [actS, hf] at h
            · simp [actS, hf] at h
              exact .limited p rfl hp h.symm
          · by_cases hf : (FL L p).up = 0
            · simp [actS, hf] at h
            · simp [actS, hf] at h
              exact .aimed p rfl hp h.symm

theorem made_tot {L l : List Acc} {k i t m r : Int} (hit : k = 7 → i ≠ t) (h : Made L k i t m r l) : tot l = tot L + comes k m := by
  have pl : ∀ {x : Int} {p : Nat}, place (FL L) L.length x = some p → p < L.length := fun h => (place_some h).1
  cases h with
  | opened h1 hno hl => subst hl; subst h1; rw [tot_ins]; simp [comes]
  | frozen p h1 hp hf hl => subst hl; subst h1; rw [tot_set _ _ _ (pl hp)]; simp [comes]
  | thawed p h1 hp hf hl => subst hl; subst h1; rw [tot_set _ _ _ (pl hp)]; simp [comes]
  | closed p h1 hp hf hb hk hl => subst hl; subst h1; rw [tot_del _ _ (pl hp), hb]; simp [comes]
  | put p h1 hp hf hl => subst hl; subst h1; rw [tot_set _ _ _ (pl hp)]; simp [comes]; omega
  | taken p h1 hp hf hs hl => subst hl; subst h1; rw [tot_set _ _ _ (pl hp)]; simp [comes]; omega
  | paid p q h1 hp hq hf hg hs hl =>
    subst hl
    have hpq : q ≠ p := fun e => by
      subst e
      exact hit h1 ((place_some hp).2.symm.trans (place_some hq).2)
    rw [tot_set _ _ _ (by simpa using pl hq), tot_set _ _ _ (pl hp), FL_set_ne _ hpq]
    subst h1
    simp [comes]
    omega
  | limited p h1 hp hl => subst hl; subst h1; rw [tot_set _ _ _ (pl hp)]; simp [comes]
  | hung p q h1 hp hq hu hn hs hl => subst hl; subst h1; rw [tot_set _ _ _ (pl hp)]; simp [comes]
  | aimed p h1 hp hl => subst hl; subst h1; rw [tot_set _ _ _ (pl hp)]; simp [comes]

/-- What the law of those that are frozen asks of one account. -/
def Stays (k i cd : Int) (x y : Acc) : Prop := y.id = x.id ∧ y.balance = x.balance ∧ (y.frozen = true ↔ ¬ (k = 3 ∧ i = x.id ∧ cd = 0))

theorem stays_set {L : List Acc} {k i : Int} {p j : Nat} (hp : p < L.length) (hj : j < L.length) (hf : (FL L j).frozen = true) (A : Acc) (hA : (FL L p).frozen = true → A.id = (FL L p).id ∧ A.balance = (FL L p).balance ∧ A.frozen = true) (k3 : k ≠ 3) : ∃ q, q < (L.set p A).length ∧ Stays k i 0 (FL L j) (FL (L.set p A) q) := by
  refine ⟨j, by simpa using hj, ?_⟩
  by_cases e : j = p
  · subst e
    rw [FL_set_at _ hj]
    obtain ⟨a, b, c⟩ := hA hf
    exact ⟨a, b, by simp [c, k3]⟩
  · rw [FL_set_ne _ e]
    exact ⟨rfl, rfl, by simp [hf, k3]⟩
theorem FL_app_left {A B : List Acc} {j : Nat} (h : j < A.length) : FL (A ++ B) j = FL A j := by
  simp only [FL, List.getD]; rw [List.getElem?_append_left h]
theorem FL_app_right {A B : List Acc} {j : Nat} (h : A.length ≤ j) : FL (A ++ B) j = FL B (j - A.length) := by
  simp only [FL, List.getD]; rw [List.getElem?_append_right h]
theorem FL_take {L : List Acc} {k j : Nat} (h : j < k) : FL (L.take k) j = FL L j := by
  simp only [FL, List.getD]; rw [List.getElem?_take_of_lt h]
theorem FL_drop {L : List Acc} {k j : Nat} : FL (L.drop k) j = FL L (k + j) := by
  simp only [FL, List.getD]; rw [List.getElem?_drop]
theorem FL_cons {x : Acc} {L : List Acc} {j : Nat} : FL (x :: L) (j + 1) = FL L j := by simp [FL, List.getD]
theorem FL_del_lt {L : List Acc} {p j : Nat} (hp : p < L.length) (h : j < p) : FL (L.take p ++ L.drop (p + 1)) j = FL L j := by
  rw [FL_app_left (by simp; omega), FL_take h]
theorem FL_del_ge {L : List Acc} {p j : Nat} (hp : p < L.length) (h : p ≤ j) : FL (L.take p ++ L.drop (p + 1)) j = FL L (j + 1) := by
  rw [FL_app_right (by simp; omega), FL_drop]
  congr 1
  simp; omega
theorem FL_ins_lt {L : List Acc} {k j : Nat} {x : Acc} (hk : k ≤ L.length) (h : j < k) : FL (L.take k ++ x :: L.drop k) j = FL L j := by
  rw [FL_app_left (by simp; omega), FL_take h]
theorem FL_ins_at {L : List Acc} {k : Nat} {x : Acc} (hk : k ≤ L.length) : FL (L.take k ++ x :: L.drop k) k = x := by
  rw [FL_app_right (by simp; omega)]
  have : k - (L.take k).length = 0 := by simp; omega
  rw [this]; rfl
theorem FL_ins_gt {L : List Acc} {k j : Nat} {x : Acc} (hk : k ≤ L.length) (h : k ≤ j) : FL (L.take k ++ x :: L.drop k) (j + 1) = FL L j := by
  rw [FL_app_right (by simp; omega)]
  have : j + 1 - (L.take k).length = (j - k) + 1 := by simp; omega
  rw [this, FL_cons, FL_drop]
  congr 1; omega
theorem rank_le (L : List Acc) (i : Int) : rankL L i ≤ L.length := by
  unfold rankL
  exact (List.takeWhile_prefix _).length_le

theorem made_stays {L l : List Acc} {k i t m r : Int} (hR : Right (FL L) L.length) (h : Made L k i t m r l) {j : Nat} (hj : j < L.length) (hf : (FL L j).frozen = true) : ∃ q, q < l.length ∧ Stays k i 0 (FL L j) (FL l q) := by
  have pl : ∀ {x : Int} {p : Nat}, place (FL L) L.length x = some p → p < L.length := fun h => (place_some h).1
  cases h with
  | opened h1 hno hl =>
    subst hl; subst h1
    have hk := rank_le L i
    by_cases e : j < rankL L i
    · exact ⟨j, by simp; omega, by rw [FL_ins_lt hk e]; exact ⟨rfl, rfl, by simp [hf]⟩⟩
    · exact ⟨j + 1, by simp; omega, by rw [FL_ins_gt hk (by omega)]; exact ⟨rfl, rfl, by simp [hf]⟩⟩
  | frozen p h1 hp hg hl => subst hl; subst h1; exact stays_set (pl hp) hj hf _ (fun e => by rw [hg] at e; cases e) (by decide)
  | thawed p h1 hp hg hl =>
    subst hl; subst h1
    refine ⟨j, by simpa using hj, ?_⟩
    by_cases e : j = p
    · subst e
      rw [FL_set_at _ hj]
      exact ⟨rfl, rfl, by simp [(place_some hp).2]⟩
    · rw [FL_set_ne _ e]
      refine ⟨rfl, rfl, ?_⟩
      simp only [hf, true_iff]
      rintro ⟨_, e', _⟩
      exact e (hR.inj hj (pl hp) (by rw [← e', (place_some hp).2]))
  | closed p h1 hp hg hb hk hl =>
    subst hl; subst h1
    have hpl := pl hp
    have hjp : j ≠ p := fun e => by subst e; rw [hg] at hf; cases hf
    by_cases e : j < p
    · exact ⟨j, by simp; omega, by rw [FL_del_lt hpl e]; exact ⟨rfl, rfl, by simp [hf]⟩⟩
    · refine ⟨j - 1, by simp; omega, ?_⟩
      rw [FL_del_ge hpl (by omega)]
      have : j - 1 + 1 = j := by omega
      rw [this]
      exact ⟨rfl, rfl, by simp [hf]⟩
  | put p h1 hp hg hl => subst hl; subst h1; exact stays_set (pl hp) hj hf _ (fun e => by rw [hg] at e; cases e) (by decide)
  | taken p h1 hp hg hs hl => subst hl; subst h1; exact stays_set (pl hp) hj hf _ (fun e => by rw [hg] at e; cases e) (by decide)
  | paid p q h1 hp hq hg hg2 hs hl =>
    subst hl; subst h1
    have e1 : j ≠ p := fun e => by subst e; rw [hg] at hf; cases hf
    have e2 : j ≠ q := fun e => by subst e; rw [hg2] at hf; cases hf
    exact ⟨j, by simpa using hj, by rw [FL_set_ne _ e2, FL_set_ne _ e1]; exact ⟨rfl, rfl, by simp [hf]⟩⟩
  | limited p h1 hp hl => subst hl; subst h1; exact stays_set (pl hp) hj hf _ (fun e => ⟨rfl, rfl, e⟩) (by decide)
  | hung p q h1 hp hq hu hn hs hl => subst hl; subst h1; exact stays_set (pl hp) hj hf _ (fun e => ⟨rfl, rfl, e⟩) (by decide)
  | aimed p h1 hp hl => subst hl; subst h1; exact stays_set (pl hp) hj hf _ (fun e => ⟨rfl, rfl, e⟩) (by decide)

/-- Whatever an op comes to on a right forest: those that are frozen stay. -/
theorem done_stays {L : List Acc} {k i t m r : Int} (hR : Right (FL L) L.length) {j : Nat} (hj : j < L.length) (hf : (FL L j).frozen = true) :
    ∃ q, place (FL (doneS L k i t m r).2) (doneS L k i t m r).2.length (FL L j).id = some q ∧ Stays k i (doneS L k i t m r).1 (FL L j) (FL (doneS L k i t m r).2 q) := by
  by_cases h0 : (doneS L k i t m r).1 = 0
  · have h : doneS L k i t m r = (0, (doneS L k i t m r).2) := by rw [← h0]
    generalize (doneS L k i t m r).2 = l at *
    obtain ⟨ho, hp, hr⟩ := doneS_zero h
    obtain ⟨q, hq, hs⟩ := made_stays hR (made ho hp) hj hf
    refine ⟨q, ?_, by rw [h0]; exact hs⟩
    rw [← hs.1]
    exact place_self hr.2.2.1 hq
  · have e := fin_same h0
    rw [e]
    refine ⟨j, place_self hR.2.2.1 hj, rfl, rfl, ?_⟩
    simp [hf, h0]
end Go.Proofs.YthkgppfgidlicaaGreatDoor
