/- What is paid is less at the one and more at the other one; what is hung elsewhere has what it had. Nothing of the program. -/
import Derived.Test.YthkgppfgidlicaaGreatDoorLim
namespace Go.Proofs.YthkgppfgidlicaaGreatDoor

theorem made_paid {L l : List Acc} {i t m r : Int} (hR : Right (FL L) L.length) (ho : opOk 7 i t m r) (h : Made L 7 i t m r l) : l.length = L.length ∧ ∀ z, z < L.length → (FL l z).id = (FL L z).id ∧ (FL l z).balance = (FL L z).balance + ((if (FL L z).id = i then -m else 0) + (if (FL L z).id = t then m else 0)) := by
  cases h with
  | opened h1 => cases h1
  | frozen p h1 => cases h1
  | thawed p h1 => cases h1
  | closed p h1 => cases h1
  | put p h1 => cases h1
  | taken p h1 => cases h1
  | limited p h1 => cases h1
  | hung p q h1 => cases h1
  | aimed p h1 => cases h1
  | paid p q h1 hp hq hf hg hs hll =>
    obtain ⟨hpL, hip⟩ := place_some hp
    obtain ⟨hqL, hiq⟩ := place_some hq
    have hit : i ≠ t := by unfold opOk at ho; omega
    have hpq : q ≠ p := fun e => by subst e; exact hit (hip.symm.trans hiq)
    refine ⟨by rw [hll]; simp, fun z hz => ?_⟩
    have ez : ((FL L z).id = i) ↔ z = p := ⟨fun e => hR.inj hz hpL (by rw [e, hip]), fun e => by rw [e, hip]⟩
    have ez' : ((FL L z).id = t) ↔ z = q := ⟨fun e => hR.inj hz hqL (by rw [e, hiq]), fun e => by rw [e, hiq]⟩
    simp only [ez, ez']
    rw [hll]
    by_cases e : z = q
    · subst e
      rw [FL_set_at _ (by simpa using hz)]
      simp [hpq]
    · rw [FL_set_ne _ e]
      by_cases e' : z = p
      · subst e'
        rw [FL_set_at _ hz]
        simp [e]; omega
      · rw [FL_set_ne _ e']
        simp [e, e']
theorem Right.path_head {F : Nat → Acc} {n : Nat} (h : Right F n) {j : Nat} (hj : j < n) : ∃ l, pathL F n j = (F j).id :: l := by
  by_cases hu : (F j).up = 0
  · exact ⟨[], h.path_root hj hu⟩
  · obtain ⟨p, _, _, e⟩ := h.path_up hj hu
    exact ⟨_, e⟩
theorem made_hung {L l : List Acc} {i t m r : Int} (hR : Right (FL L) L.length) (hl : Right (FL l) l.length) (h : Made L 9 i t m r l) : l.length = L.length ∧ ∃ p, place (FL L) L.length i = some p ∧ place (FL l) l.length i = some p ∧ sumAll (FL l) l.length p = sumAll (FL L) L.length p ∧ ∃ rest, pathL (FL l) l.length p = i :: t :: rest := by
  cases h with
  | opened h1 => cases h1
  | frozen p h1 => cases h1
  | thawed p h1 => cases h1
  | closed p h1 => cases h1
  | put p h1 => cases h1
  | taken p h1 => cases h1
  | limited p h1 => cases h1
  | paid p q h1 => cases h1
  | aimed p h1 => cases h1
  | hung p q h1 hp hq hu hn hs hll =>
    obtain ⟨hpL, hip⟩ := place_some hp
    obtain ⟨hqL, hiq⟩ := place_some hq
    have hid : ∀ z, z < L.length → (FL l z).id = (FL L z).id := fun z hz => by
      rw [hll]
      by_cases e : z = p
      · subst e; rw [FL_set_at _ hz]
      · rw [FL_set_ne _ e]
    have hup : ∀ z, z < L.length → z ≠ p → (FL l z).up = (FL L z).up := fun z _ e => by rw [hll, FL_set_ne _ e]
    have hb : ∀ z, z < L.length → (FL l z).balance = (FL L z).balance := fun z hz => by
      rw [hll]
      by_cases e : z = p
      · subst e; rw [FL_set_at _ hz]
      · rw [FL_set_ne _ e]
    have hlen : l.length = L.length := by rw [hll]; simp
    have hpq : (FL l p).up = (FL L q).id := by rw [hll, FL_set_at _ hpL]
    obtain ⟨u, huL, hidu, epath⟩ := hR.path_up hpL hu
    have hl' : Right (FL l) L.length := hlen ▸ hl
    refine ⟨hlen, p, hp, ?_, ?_, ?_⟩
    · rw [hlen, ← hip, ← hid p hpL]
      exact place_self hl'.2.2.1 hpL
    · rw [hlen, sum_hung hR hl' hpL hqL huL hid hup hb hidu.symm hpq hn hpL]
      have e1 : on (FL L) L.length p q = 0 := by simp [on, hn]
      have e2 : on (FL L) L.length p u = 0 := by simp [on, hR.not_mem hpL huL epath]
      rw [e1, e2]; simp
    · rw [hlen]
      have h2 := hR.id1 hqL
      obtain ⟨p2, hp2, hid2, e2⟩ := hl'.path_up hpL (by rw [hpq]; omega)
      obtain ⟨rest, e3⟩ := hl'.path_head hp2
      rw [e2, e3, hid2, hpq, hiq, hid p hpL, hip]
      exact ⟨rest, rfl⟩
end Go.Proofs.YthkgppfgidlicaaGreatDoor
