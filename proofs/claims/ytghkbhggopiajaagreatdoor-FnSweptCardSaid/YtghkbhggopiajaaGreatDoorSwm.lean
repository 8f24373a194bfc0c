/- What sweeping leaves: pure mathematics. -/
import Derived.Test.YtghkbhggopiajaaGreatDoorSwps
namespace Go.Proofs.YtghkbhggopiajaaGreatDoor
open Go.RowKit
set_option maxRecDepth 8000

/-- The same account but for its balance. -/
def SameBut (A A' : Acc) : Prop := A'.id = A.id ∧ A'.up = A.up ∧ A'.limit = A.limit ∧ A'.rate = A.rate ∧ A'.target = A.target ∧ A'.frozen = A.frozen ∧ A'.carry = A.carry
theorem SameBut.refl (A : Acc) : SameBut A A := ⟨rfl, rfl, rfl, rfl, rfl, rfl, rfl⟩
theorem SameBut.trans {A B C : Acc} (h : SameBut A B) (k : SameBut B C) : SameBut A C := by
  unfold SameBut at *
  obtain ⟨a1, a2, a3, a4, a5, a6, a7⟩ := h
  obtain ⟨b1, b2, b3, b4, b5, b6, b7⟩ := k
  exact ⟨b1.trans a1, b2.trans a2, b3.trans a3, b4.trans a4, b5.trans a5, b6.trans a6, b7.trans a7⟩

/-- How a payment leaves the accounts. -/
theorem paid_shape {L : List Acc} (i t m : Int) : paidL L i t m = L ∨ (i ≠ t ∧ ∃ p q, p < L.length ∧ q < L.length ∧ p ≠ q ∧ (FL L p).id = i ∧ (FL L q).id = t ∧ (FL L p).frozen = false ∧ (FL L q).frozen = false ∧ paidL L i t m = (L.set p { FL L p with balance := (FL L p).balance - m }).set q { FL L q with balance := (FL L q).balance + m }) := by
  unfold paidL
  by_cases h0 : (doneS L 7 i t m 0).1 = 0
  · have h : doneS L 7 i t m 0 = (0, (doneS L 7 i t m 0).2) := Prod.ext h0 rfl
    obtain ⟨ho, hp, hr⟩ := doneS_zero h
    have hit : i ≠ t := by unfold opOk at ho; omega
    have hm := made ho hp
    generalize (doneS L 7 i t m 0).2 = l at *
    right
    refine ⟨hit, ?_⟩
    cases hm with
    | opened h1 => cases h1
    | frozen p h1 => cases h1
    | thawed p h1 => cases h1
    | closed p h1 => cases h1
    | put p h1 => cases h1
    | taken p h1 => cases h1
    | limited p h1 => cases h1
    | hung p q h1 => cases h1
    | aimed p h1 => cases h1
    | paid p q h1 hp hq hf hg hs hll =>
      obtain ⟨p1, p2⟩ := place_some hp
      obtain ⟨q1, q2⟩ := place_some hq
      exact ⟨p, q, p1, q1, fun e => hit (by rw [← p2, ← q2, e]), p2, q2, hf, hg, hll⟩
  · left; exact fin_same h0

/-- One account behind a payment. -/
theorem paid_at {L : List Acc} (i t m : Int) (z : Nat) :
    SameBut (FL L z) (FL (paidL L i t m) z) ∧ ((FL L z).frozen = true → (FL (paidL L i t m) z).balance = (FL L z).balance) ∧
    ((FL L z).id ≠ i → (FL L z).id ≠ t → (FL (paidL L i t m) z).balance = (FL L z).balance) ∧
    ((FL (paidL L i t m) z).balance = (FL L z).balance ∨ (FL (paidL L i t m) z).balance = (FL L z).balance - m ∨ (FL (paidL L i t m) z).balance = (FL L z).balance + m) := by
  rcases paid_shape (L := L) i t m with e | ⟨hit, p, q, hp, hq, hpq, ip, iq, fp, fq, e⟩
  · rw [e]; exact ⟨SameBut.refl _, fun _ => rfl, fun _ _ => rfl, Or.inl rfl⟩
  · rw [e]
    by_cases hzq : z = q
    · subst hzq
      rw [FL_set_at _ (by simpa using hq)]
      exact ⟨⟨rfl, rfl, rfl, rfl, rfl, rfl, rfl⟩, (fun h => by rw [fq] at h; cases h), fun _ h => absurd iq h, Or.inr (Or.inr rfl)⟩
    · rw [FL_set_ne _ hzq]
      by_cases hzp : z = p
      · subst hzp
        rw [FL_set_at _ hp]
        exact ⟨⟨rfl, rfl, rfl, rfl, rfl, rfl, rfl⟩, (fun h => by rw [fp] at h; cases h), fun h _ => absurd ip h, Or.inr (Or.inl rfl)⟩
      · rw [FL_set_ne _ hzp]
        exact ⟨SameBut.refl _, fun _ => rfl, fun _ _ => rfl, Or.inl rfl⟩
theorem paid_tot {L : List Acc} (i t m : Int) : tot (paidL L i t m) = tot L := by
  unfold paidL
  by_cases h0 : (doneS L 7 i t m 0).1 = 0
  · have h : doneS L 7 i t m 0 = (0, (doneS L 7 i t m 0).2) := Prod.ext h0 rfl
    obtain ⟨ho, hp, hr⟩ := doneS_zero h
    have := made_tot (fun _ => by unfold opOk at ho; omega) (made ho hp)
    simpa [comes] using this
  · rw [fin_same h0]
theorem swS_tot (L : List Acc) (k : Nat) : tot (swS L k) = tot L := by
  unfold swS
  split
  · rfl
  · split <;> exact paid_tot _ _ _
theorem swAll_tot (L : List Acc) : ∀ k, tot (swAll L k) = tot L
  | 0 => rfl
  | k + 1 => (swS_tot _ k).trans (swAll_tot L k)
theorem sw_total {L : List Acc} (hR : Right (FL L) L.length) : total (FL (swAll L L.length)) L.length = total (FL L) L.length := by
  have e := (swAll_facts hR L.length).1
  have h := total_tot (swAll L L.length)
  rw [e] at h
  rw [h, swAll_tot, total_tot]

/-- One account behind one sweep. -/
theorem swS_at {L : List Acc} (k z : Nat) :
    SameBut (FL L z) (FL (swS L k) z) ∧ ((FL L z).frozen = true → (FL (swS L k) z).balance = (FL L z).balance) ∧
    ((FL L z).id ≠ (FL L k).id → (FL L z).id ≠ (FL L k).up → (FL (swS L k) z).balance = (FL L z).balance) := by
  unfold swS
  split
  · exact ⟨SameBut.refl _, fun _ => rfl, fun _ _ => rfl⟩
  · split
    · obtain ⟨h1, h2, h3, _⟩ := paid_at (FL L k).id (FL L k).up ((FL L k).balance - (FL L k).target) z
      exact ⟨h1, h2, h3⟩
    · obtain ⟨h1, h2, h3, _⟩ := paid_at (FL L k).up (FL L k).id ((FL L k).target - (FL L k).balance) z
      exact ⟨h1, h2, fun a b => h3 b a⟩
theorem swAll_at {L : List Acc} (hR : Right (FL L) L.length) : ∀ (k : Nat) {z : Nat}, z < L.length → SameBut (FL L z) (FL (swAll L k) z) ∧ ((FL L z).frozen = true → (FL (swAll L k) z).balance = (FL L z).balance)
  | 0, z, _ => ⟨SameBut.refl _, fun _ => rfl⟩
  | k + 1, z, hz => by
    obtain ⟨h1, h2⟩ := swAll_at hR k hz
    obtain ⟨f1, f2, f3⟩ := swAll_facts hR k
    obtain ⟨g1, g2, _⟩ := swS_at (L := swAll L k) k z
    exact ⟨h1.trans g1, fun hf => (g2 (by rw [h1.2.2.2.2.2.1]; exact hf)).trans (h2 hf)⟩

/-- All balances and targets are small. -/
def Small (L : List Acc) : Prop := ∀ z, z < L.length → (FL L z).balance < 1000000 ∧ -1000000 < (FL L z).balance ∧ (FL L z).target < 1000000
/-- Balances within so much. -/
def Within (L : List Acc) (n : Nat) (b : Int) : Prop := ∀ z, z < n → -b ≤ (FL L z).balance ∧ (FL L z).balance ≤ b
def bnd : Nat → Int
  | 0 => 1000000
  | k + 1 => 2 * bnd k + 1000000
theorem bnd_pos : ∀ k, 1000000 ≤ bnd k
  | 0 => by simp [bnd]
  | k + 1 => by have := bnd_pos k; simp only [bnd]; omega
theorem bnd_mono {j k : Nat} (h : j ≤ k) : bnd j ≤ bnd k := by
  induction k with
  | zero =>
    obtain rfl : j = 0 := by omega
    exact Int.le_refl _
  | succ k ih =>
    by_cases e : j = k + 1
    · subst e; exact Int.le_refl _
    · have := ih (by omega)
      have := bnd_pos k
      simp only [bnd]; omega
theorem bnd_13 : bnd 13 ≤ 20000000000 := by decide
theorem within_all {L : List Acc} (hR : Right (FL L) L.length) (hs : Small L) : ∀ k, k ≤ L.length → Within (swAll L k) L.length (bnd k)
  | 0, _ => fun z hz => by
    have := hs z hz
    show -bnd 0 ≤ (FL L z).balance ∧ (FL L z).balance ≤ bnd 0
    simp only [bnd]; omega
  | k + 1, hk => fun z hz => by
    have ih := within_all hR hs k (by omega)
    obtain ⟨f1, f2, f3⟩ := swAll_facts hR k
    have hzb := ih z hz
    have hkb := ih k (by omega)
    have hkt := (swAll_at hR k (z := k) (by omega)).1.2.2.2.2.1
    have hks := (hs k (by omega)).2.2
    have hp := bnd_pos k
    show -bnd (k + 1) ≤ (FL (swS (swAll L k) k) z).balance ∧ (FL (swS (swAll L k) k) z).balance ≤ bnd (k + 1)
    simp only [bnd]
    unfold swS
    split
    · omega
    · rename_i hc
      split
      · obtain ⟨_, _, _, h⟩ := paid_at (FL (swAll L k) k).id (FL (swAll L k) k).up ((FL (swAll L k) k).balance - (FL (swAll L k) k).target) z
        rcases h with h | h | h <;> rw [h] <;> omega
      · obtain ⟨_, _, _, h⟩ := paid_at (FL (swAll L k) k).up (FL (swAll L k) k).id ((FL (swAll L k) k).target - (FL (swAll L k) k).balance) z
        rcases h with h | h | h <;> rw [h] <;> omega

theorem fold_none {F : Nat → Acc} {n : Nat} {but : List Int} : ∀ (l : List Int), (∀ x ∈ l, x ∈ but ∨ ∃ j, place F n x = some j ∧ (F j).limit < 0) → l.foldl (step F n but) none = none
  | [], _ => rfl
  | x :: l, h => by
    have hx : step F n but none x = none := by
      rcases h x (by simp) with hb | ⟨j, hp, hl⟩
      · simp only [step]; rw [if_pos (Or.inr hb)]
      · simp only [step, hp, Option.getD_some]; rw [if_pos (Or.inl hl)]
    rw [List.foldl_cons, hx]
    exact fold_none l (fun y hy => h y (by simp [hy]))

/-- A payment that nothing hinders is made. -/
theorem pay_made {L : List Acc} (hR : Right (FL L) L.length) {p q : Nat} (hp : p < L.length) (hq : q < L.length) (hpq : p ≠ q) (fp : (FL L p).frozen = false) (fq : (FL L q).frozen = false) {m : Int} (hm : 1 ≤ m ∧ m ≤ 1000000000000)
    (hr : room (FL L) L.length (pathL (FL L) L.length q) p = none) (b1 : -1000000000000 ≤ (FL L p).balance - m) (b2 : (FL L q).balance + m ≤ 1000000000000) :
    paidL L (FL L p).id (FL L q).id m = (L.set p { FL L p with balance := (FL L p).balance - m }).set q { FL L q with balance := (FL L q).balance + m } := by
  have op := hR.2.1 p hp
  have oq := hR.2.1 q hq
  have hne : (FL L p).id ≠ (FL L q).id := fun e => hpq (hR.inj hp hq e)
  have ho : opOk 7 (FL L p).id (FL L q).id m 0 := by
    have := op.1; have := oq.1
    unfold opOk
    refine ⟨by omega, ?_⟩
    right; right; right; right; left
    exact ⟨rfl, by omega, hne, hm, rfl⟩
  have hpl := place_self hR.2.2.1 hp
  have hql := place_self hR.2.2.1 hq
  have hS : ¬ payShort L p q m := fun ⟨r, h, _⟩ => by rw [hr] at h; cases h
  have hpart : partS L 7 (FL L p).id (FL L q).id m 0 = (0, (L.set p { FL L p with balance := (FL L p).balance - m }).set q { FL L q with balance := (FL L q).balance + m }) := by
    unfold partS
    rw [if_neg (by omega)]
    simp only [hpl]
    rw [if_pos trivial]
    simp only [hql]
    unfold payS
    rw [if_neg (by simp [fp, fq]), if_neg hS]
  have hfl : ∀ z, FL ((L.set p { FL L p with balance := (FL L p).balance - m }).set q { FL L q with balance := (FL L q).balance + m }) z = if z = q then { FL L q with balance := (FL L q).balance + m } else if z = p then { FL L p with balance := (FL L p).balance - m } else FL L z := fun z => by
    by_cases e : z = q
    · subst e; rw [if_pos rfl, FL_set_at _ (by simpa using hq)]
    · rw [if_neg e, FL_set_ne _ e]
      by_cases e' : z = p
      · subst e'; rw [if_pos rfl, FL_set_at _ hp]
      · rw [if_neg e', FL_set_ne _ e']
  have hidup : ∀ z, (FL ((L.set p { FL L p with balance := (FL L p).balance - m }).set q { FL L q with balance := (FL L q).balance + m }) z).id = (FL L z).id ∧ (FL ((L.set p { FL L p with balance := (FL L p).balance - m }).set q { FL L q with balance := (FL L q).balance + m }) z).up = (FL L z).up := fun z => by
    rw [hfl]
    by_cases e : z = q
    · subst e; rw [if_pos rfl]; exact ⟨rfl, rfl⟩
    · rw [if_neg e]
      by_cases e' : z = p
      · subst e'; rw [if_pos rfl]; exact ⟨rfl, rfl⟩
      · rw [if_neg e']; exact ⟨rfl, rfl⟩
  have hRt : Right (FL ((L.set p { FL L p with balance := (FL L p).balance - m }).set q { FL L q with balance := (FL L q).balance + m })) ((L.set p { FL L p with balance := (FL L p).balance - m }).set q { FL L q with balance := (FL L q).balance + m }).length := by
    simp only [List.length_set]
    obtain ⟨r1, r2, r3, r4⟩ := hR
    refine ⟨r1, fun z hz => ?_, fun z h0 hz => by rw [(hidup _).1, (hidup _).1]; exact r3 z h0 hz, fun z hz => by rw [(hidup z).1, chain_congr (fun j _ => hidup j)]; exact r4 z hz⟩
    rw [hfl]
    by_cases e : z = q
    · subst e; rw [if_pos rfl]
      unfold okS at oq ⊢
      simp only
      omega
    · rw [if_neg e]
      by_cases e' : z = p
      · subst e'; rw [if_pos rfl]
        unfold okS at op ⊢
        simp only
        omega
      · rw [if_neg e']; exact r2 z hz
  unfold paidL doneS
  rw [if_pos ho, hpart]
  unfold finS
  rw [if_pos rfl, if_pos hRt]

/-- An account that nothing hinders is swept whole. -/
theorem swept_whole {M : List Acc} (hR : Right (FL M) M.length) {i : Nat} (hi : i < M.length) (hw : Within M M.length 100000000000) (ht : 0 ≤ (FL M i).target) (ht2 : (FL M i).target < 1000000) (hf : (FL M i).frozen = false) (hl : (FL M i).limit < 0)
    (hu : ∀ u, u < M.length → (FL M u).id = (FL M i).up → (FL M u).frozen = false) : (FL (swS M i) i).balance = (FL M i).target := by
  have oi := hR.2.1 i hi
  have hup : (FL M i).up ≠ 0 := fun e => by have := oi.2.2.2.2.2.2.2.1 e; omega
  obtain ⟨u, hul, hui, hpath⟩ := hR.path_up hi hup
  have hnm := hR.not_mem hi hul hpath
  have hiu : i ≠ u := fun e => by
    subst e
    have : pathL (FL M) M.length i ≠ (FL M i).id :: pathL (FL M) M.length i := fun h => by have := congrArg List.length h; simp at this
    exact this hpath
  have hfu := hu u hul hui
  have bi := hw i hi
  have bu := hw u hul
  unfold swS
  by_cases hb : (FL M i).balance = (FL M i).target
  · rw [if_pos (Or.inr hb)]; exact hb
  · rw [if_neg (by omega)]
    by_cases hgt : (FL M i).target < (FL M i).balance
    · rw [if_pos hgt, ← hui, pay_made hR hi hul hiu hf hfu (by omega) ?_ (by omega) (by omega), FL_set_ne _ hiu, FL_set_at _ hi]
      · simp; omega
      · unfold room
        rw [hpath]
        refine fold_none _ (fun x hx => ?_)
        rcases List.mem_cons.1 hx with e | hx
        · right; exact ⟨i, by rw [e]; exact place_self hR.2.2.1 hi, hl⟩
        · left; exact hx
    · rw [if_neg hgt, ← hui, pay_made hR hul hi (fun e => hiu e.symm) hfu hf (by omega) ?_ (by omega) (by omega), FL_set_at _ (by simpa using hi)]
      · simp; omega
      · unfold room
        refine fold_none _ (fun x hx => ?_)
        left
        rw [hpath]
        exact List.mem_cons_of_mem _ hx

theorem swept_end {L : List Acc} (hR : Right (FL L) L.length) (hs : Small L) {i : Nat} (hi : i < L.length) (ht : 0 ≤ (FL L i).target) (hf : (FL L i).frozen = false) (hl : (FL L i).limit < 0)
    (hu : ∀ u, u < L.length → (FL L u).id = (FL L i).up → (FL L u).frozen = false) (ha : ∀ z, z < L.length → (FL L z).up ≠ (FL L i).id) : (FL (swAll L L.length) i).balance = (FL L i).target := by
  have key : ∀ k, i < k → k ≤ L.length → (FL (swAll L k) i).balance = (FL L i).target := by
    intro k
    induction k with
    | zero => intro h; omega
    | succ k ih =>
      intro h1 h2
      obtain ⟨f1, f2, f3⟩ := swAll_facts hR k
      by_cases e : i = k
      · subst e
        have si := (swAll_at hR i hi).1
        have hw := within_all hR hs i (by omega)
        have hb : bnd i ≤ 100000000000 := by have := bnd_mono (show i ≤ 13 by have := hR.1; omega); have := bnd_13; omega
        have := swept_whole f3 (by rw [f1]; exact hi) (fun z hz => by have := hw z (by rw [f1] at hz; exact hz); omega) (by rw [si.2.2.2.2.1]; exact ht) (by rw [si.2.2.2.2.1]; exact (hs i hi).2.2) (by rw [si.2.2.2.2.2.1]; exact hf) (by rw [si.2.2.1]; exact hl)
          (fun u hul hui => by
            rw [f1] at hul
            have su := (swAll_at hR i hul).1
            rw [su.2.2.2.2.2.1]
            exact hu u hul (by rw [← su.1, hui, si.2.1]))
        exact this.trans si.2.2.2.2.1
      · have ih' := ih (by omega) (by omega)
        have si := (swAll_at hR k hi).1
        have sk := (swAll_at hR k (z := k) (by omega)).1
        have := (swS_at (L := swAll L k) k i).2.2 (by rw [si.1, sk.1]; exact fun e' => e (hR.inj hi (by omega) e')) (by rw [si.1, sk.2.1]; exact fun e' => ha k (by omega) e'.symm)
        exact this.trans ih'
  exact key L.length hi (Nat.le_refl _)
end Go.Proofs.YtghkbhggopiajaaGreatDoor
