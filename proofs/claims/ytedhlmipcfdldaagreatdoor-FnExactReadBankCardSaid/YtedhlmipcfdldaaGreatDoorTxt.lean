/- Texts of numbers, rows and lines as lists of bytes: what is written comes back, and what is read was written so. Pure mathematics, no condition. -/
import Derived.Lib.IndexAny
import Derived.Lib.ItoaNum
import Derived.Lib.ParseIntBCases
import Derived.Test.YtedhlmipcfdldaaGreatDoorDec
namespace Go.Proofs.YtedhlmipcfdldaaGreatDoor
open Go.RowKit
open Go

def Dig (b : UInt8) : Prop := 48 ≤ b.toNat ∧ b.toNat ≤ 57
def valD (acc : Nat) : List UInt8 → Nat
  | [] => acc
  | b :: l => valD (acc * 10 + (b.toNat - 48)) l
theorem valD_app : ∀ (l m : List UInt8) (a : Nat), valD a (l ++ m) = valD (valD a l) m
  | [], _, _ => rfl
  | _ :: l, m, _ => valD_app l m _
theorem valD_ge : ∀ (l : List UInt8) (a : Nat), a ≤ valD a l
  | [], a => Nat.le_refl a
  | b :: l, a => by
    have := valD_ge l (a * 10 + (b.toNat - 48))
    show a ≤ valD (a * 10 + (b.toNat - 48)) l
    omega
def p10 : Nat → Nat
  | 0 => 1
  | k + 1 => 10 * p10 k
theorem p10_mono {i j : Nat} (h : i ≤ j) : p10 i ≤ p10 j := by
  induction h with
  | refl => exact Nat.le_refl _
  | step _ ih => exact Nat.le_trans ih (by show p10 _ ≤ 10 * p10 _; omega)
theorem valD_lt (l : List UInt8) : ∀ (a : Nat), (∀ b ∈ l, Dig b) → valD a l < (a + 1) * p10 l.length := by
  induction l with
  | nil => intro a _; show a < (a + 1) * 1; omega
  | cons b l ih =>
    intro a h
    have h1 := ih (a * 10 + (b.toNat - 48)) (fun c hc => h c (by simp [hc]))
    have h2 := h b (by simp)
    unfold Dig at h2
    have h3 : (a * 10 + (b.toNat - 48) + 1) * p10 l.length ≤ ((a + 1) * 10) * p10 l.length := Nat.mul_le_mul_right _ (by omega)
    have h4 : ((a + 1) * 10) * p10 l.length = (a + 1) * p10 (b :: l).length := Nat.mul_assoc _ _ _
    rw [← h4]
    exact Nat.lt_of_lt_of_le h1 h3
theorem ofNat_dig {d : Nat} (h : d < 10) : (UInt8.ofNat (48 + d)).toNat = 48 + d := by
  rw [UInt8.toNat_ofNat']; omega
theorem dec_dig (u : Nat) : ∀ c ∈ Lib.decDigits u, Dig c := by
  induction u using Nat.strongRecOn with
  | ind u ih =>
    intro c hc
    by_cases h : u < 10
    · rw [dec_small h] at hc
      simp only [List.mem_singleton] at hc
      subst hc
      have := ofNat_dig h
      unfold Dig; omega
    · rw [dec_big (by omega)] at hc
      rcases List.mem_append.1 hc with hc | hc
      · exact ih (u / 10) (by omega) c hc
      · simp only [List.mem_singleton] at hc
        subst hc
        have := ofNat_dig (d := u % 10) (by omega)
        unfold Dig; omega
theorem dec_val (u : Nat) : valD 0 (Lib.decDigits u) = u := by
  induction u using Nat.strongRecOn with
  | ind u ih =>
    by_cases h : u < 10
    · rw [dec_small h]
      show 0 * 10 + ((UInt8.ofNat (48 + u)).toNat - 48) = u
      rw [ofNat_dig h]; omega
    · rw [dec_big (by omega), valD_app, ih (u / 10) (by omega)]
      show u / 10 * 10 + ((UInt8.ofNat (48 + u % 10)).toNat - 48) = u
      rw [ofNat_dig (by omega)]; omega
theorem dec_ne (u : Nat) : Lib.decDigits u ≠ [] := by
  by_cases h : u < 10
  · rw [dec_small h]; simp
  · rw [dec_big (by omega)]; simp
theorem dec_head {u : Nat} (h : 1 ≤ u) : (Lib.decDigits u).head? ≠ some 48 := by
  induction u using Nat.strongRecOn with
  | ind u ih =>
    by_cases h10 : u < 10
    · rw [dec_small h10]
      intro e
      have e' : UInt8.ofNat (48 + u) = 48 := by simpa using e
      have := congrArg UInt8.toNat e'
      rw [ofNat_dig h10] at this
      have h48 : (48 : UInt8).toNat = 48 := rfl
      omega
    · rw [dec_big (by omega), List.head?_append]
      have := ih (u / 10) (by omega) (by omega)
      cases hd : (Lib.decDigits (u / 10)).head? with
      | none => exact absurd (List.head?_eq_none_iff.1 hd) (dec_ne _)
      | some x => rw [hd] at this; simpa using this
/-- Digits, one at least, no nought ahead of others. -/
def Lead (l : List UInt8) : Prop := l ≠ [] ∧ (∀ b ∈ l, Dig b) ∧ (l.length = 1 ∨ l.head? ≠ some 48)
theorem dec_lead (u : Nat) : Lead (Lib.decDigits u) := by
  refine ⟨dec_ne u, dec_dig u, ?_⟩
  by_cases h : 1 ≤ u
  · exact Or.inr (dec_head h)
  · exact Or.inl (by rw [dec_small (by omega)]; rfl)
theorem val_pos {l : List UInt8} (h0 : l ≠ []) (hd : ∀ b ∈ l, Dig b) (hh : l.head? ≠ some 48) : 1 ≤ valD 0 l := by
  cases l with
  | nil => exact absurd rfl h0
  | cons c r =>
    have h1 := hd c (by simp)
    unfold Dig at h1
    have h2 : c.toNat ≠ 48 := fun e => hh (by
      have : c = 48 := UInt8.toNat_inj.1 (by rw [e]; rfl)
      simp [this])
    have := valD_ge r (0 * 10 + (c.toNat - 48))
    show 1 ≤ valD (0 * 10 + (c.toNat - 48)) r
    omega
theorem dec_of_rev : ∀ (r : List UInt8), Lead r.reverse → Lib.decDigits (valD 0 r.reverse) = r.reverse
  | [], h => absurd rfl h.1
  | b :: r, h => by
    obtain ⟨_, hd, hl⟩ := h
    have hb := hd b (by simp)
    unfold Dig at hb
    have eb : UInt8.ofNat (48 + (b.toNat - 48)) = b := by
      rw [show 48 + (b.toNat - 48) = b.toNat by omega]; simp
    rw [List.reverse_cons, valD_app]
    show Lib.decDigits (valD 0 r.reverse * 10 + (b.toNat - 48)) = r.reverse ++ [b]
    by_cases hr : r = []
    · subst hr
      show Lib.decDigits (0 * 10 + (b.toNat - 48)) = [b]
      rw [dec_small (by omega), Nat.zero_mul, Nat.zero_add, eb]
    · have hr' : r.reverse ≠ [] := by simpa using hr
      have hh : r.reverse.head? ≠ some 48 := by
        rcases hl with hl | hl
        · exfalso; simp at hl; exact hr hl
        · rw [List.reverse_cons, List.head?_append] at hl
          cases hd2 : r.reverse.head? with
          | none => exact absurd (List.head?_eq_none_iff.1 hd2) hr'
          | some x => rw [hd2] at hl; simpa using hl
      have hdr : ∀ c ∈ r.reverse, Dig c := fun c hc => hd c (by rw [List.reverse_cons]; exact List.mem_append_left _ hc)
      have ih := dec_of_rev r ⟨hr', hdr, Or.inr hh⟩
      have hp := val_pos hr' hdr hh
      rw [dec_big (by omega), show (valD 0 r.reverse * 10 + (b.toNat - 48)) / 10 = valD 0 r.reverse by omega,
        show (valD 0 r.reverse * 10 + (b.toNat - 48)) % 10 = b.toNat - 48 by omega, ih, eb]
theorem dec_of_lead {l : List UInt8} (h : Lead l) : Lib.decDigits (valD 0 l) = l := by
  have := dec_of_rev l.reverse (by simpa using h)
  simpa using this

/-- The text of a number of at most sixteen digits. -/
def IsNum (l : List UInt8) (n : Int) : Prop := Lib.itoa n = l ∧ -9999999999999999 ≤ n ∧ n ≤ 9999999999999999
/-- What the specification reads of a number. -/
def negL (l : List UInt8) : Bool := decide (1 < l.length) && (l.head? == some 45)
def magL (l : List UInt8) : List UInt8 := if negL l then l.tail else l
def badL (l : List UInt8) : Prop := (magL l).length < 1 ∨ 16 < (magL l).length ∨ ((magL l).head? = some 48 ∧ (1 < (magL l).length ∨ negL l = true))
open Classical in
noncomputable def intL (l : List UInt8) : Option Int :=
  if badL l ∨ ¬ (∀ b ∈ magL l, Dig b) then none
  else some (if negL l then -(valD 0 (magL l) : Int) else (valD 0 (magL l) : Int))
theorem dig_ne {b : UInt8} (h : Dig b) : b ≠ 45 ∧ b ≠ 32 ∧ b ≠ 10 := by
  unfold Dig at h
  refine ⟨?_, ?_, ?_⟩ <;> rintro rfl <;> revert h <;> decide
theorem intL_num {l : List UInt8} {n : Int} (h : intL l = some n) : IsNum l n := by
  unfold intL at h
  split at h
  · cases h
  · rename_i hc
    have hb : ¬ badL l := fun e => hc (Or.inl e)
    have hd : ∀ b ∈ magL l, Dig b := Classical.not_not.1 fun e => hc (Or.inr e)
    unfold badL at hb
    have h1 : 1 ≤ (magL l).length := by omega
    have h16 : (magL l).length ≤ 16 := by omega
    have hne : magL l ≠ [] := fun e => by rw [e] at h1; simp at h1
    have hlt := valD_lt (magL l) 0 hd
    have hp : p10 (magL l).length ≤ p10 16 := p10_mono h16
    have hle : valD 0 (magL l) ≤ 9999999999999999 := by
      have : p10 16 = 10000000000000000 := by decide
      omega
    have hn := Option.some.inj h
    subst hn
    by_cases hg : negL l = true
    · have hh : (magL l).head? ≠ some 48 := fun e => hb (Or.inr (Or.inr ⟨e, Or.inr hg⟩))
      have hpos := val_pos hne hd hh
      have hdec := dec_of_lead (l := magL l) ⟨hne, hd, Or.inr hh⟩
      rw [if_pos hg]
      refine ⟨?_, by omega, by omega⟩
      rw [itoa_neg _ (by omega), hdec]
      have hm : magL l = l.tail := by unfold magL; rw [if_pos hg]
      rw [hm]
      unfold negL at hg
      simp at hg
      cases l with
      | nil => simp at hg
      | cons c r => simp at hg; simp [hg.2]
    · have hm : magL l = l := by unfold magL; rw [if_neg hg]
      rw [if_neg hg]
      refine ⟨?_, by omega, by omega⟩
      rw [itoa_nat]
      rw [dec_of_lead ⟨hne, hd, ?_⟩, hm]
      by_cases h11 : (magL l).length = 1
      · exact Or.inl h11
      · exact Or.inr fun e => hb (Or.inr (Or.inr ⟨e, Or.inl (by omega)⟩))
theorem intL_of_num {l : List UInt8} {n : Int} (h : IsNum l n) : intL l = some n := by
  obtain ⟨rfl, h0, h1⟩ := h
  by_cases hn : 0 ≤ n
  · obtain ⟨m, rfl⟩ := Int.eq_ofNat_of_zero_le hn
    rw [itoa_nat]
    obtain ⟨hne, hd, hl⟩ := dec_lead m
    have hg : negL (Lib.decDigits m) = false := by
      unfold negL
      cases hh : Lib.decDigits m with
      | nil => exact absurd hh hne
      | cons c r =>
        have := (dig_ne (hd c (by rw [hh]; simp))).1
        simp [this]
    have hm : magL (Lib.decDigits m) = Lib.decDigits m := by unfold magL; rw [hg]; rfl
    have hlen := dec_len 15 m (by have : (10 : Nat) ^ (15 + 1) = 10000000000000000 := by decide
                                  omega)
    have hpos : 0 < (Lib.decDigits m).length := List.length_pos_iff.2 hne
    have hbad : ¬ (badL (Lib.decDigits m) ∨ ¬ ∀ b ∈ magL (Lib.decDigits m), Dig b) := by
      rintro (hb | hb)
      · unfold badL at hb
        rw [hm, hg] at hb
        rcases hb with hb | hb | ⟨he, hb⟩
        · omega
        · omega
        · rcases hb with hb | hb
          · rcases hl with hl | hl
            · omega
            · exact hl he
          · cases hb
      · rw [hm] at hb
        exact hb hd
    unfold intL
    rw [if_neg hbad, hg, hm, dec_val]
    rfl
  · obtain ⟨m, hm0⟩ : ∃ m : Nat, n = -(m : Int) := ⟨n.natAbs, by omega⟩
    subst hm0
    have hm1 : 0 < m := by omega
    rw [itoa_neg m hm1]
    obtain ⟨hne, hd, _⟩ := dec_lead m
    have hpos : 0 < (Lib.decDigits m).length := List.length_pos_iff.2 hne
    have hg : negL (45 :: Lib.decDigits m) = true := by
      unfold negL
      simp; omega
    have hm : magL (45 :: Lib.decDigits m) = Lib.decDigits m := by unfold magL; rw [hg]; rfl
    have hlen := dec_len 15 m (by have : (10 : Nat) ^ (15 + 1) = 10000000000000000 := by decide
                                  omega)
    have hbad : ¬ (badL (45 :: Lib.decDigits m) ∨ ¬ ∀ b ∈ magL (45 :: Lib.decDigits m), Dig b) := by
      rintro (hb | hb)
      · unfold badL at hb
        rw [hm] at hb
        rcases hb with hb | hb | ⟨he, hb⟩
        · omega
        · omega
        · exact dec_head hm1 he
      · rw [hm] at hb
        exact hb hd
    unfold intL
    rw [if_neg hbad, hg, hm, dec_val]
    rfl
theorem intL_iff {l : List UInt8} {n : Int} : intL l = some n ↔ IsNum l n := ⟨intL_num, intL_of_num⟩

/-- What strconv reads of a number's text is the number. -/
theorem parseU : ∀ (l : List UInt8) (a : Nat), (∀ b ∈ l, Dig b) → valD a l ≤ 9999999999999999 → Lib.parseUint10 a l = .ok (valD a l)
  | [], a, _, _ => rfl
  | c :: r, a, hd, h => by
    have hc := hd c (by simp)
    have hge := valD_ge r (a * 10 + (c.toNat - 48))
    have h' : valD (a * 10 + (c.toNat - 48)) r ≤ 9999999999999999 := h
    unfold Lib.parseUint10
    rw [if_pos (show 48 ≤ c.toNat ∧ c.toNat ≤ 57 from hc), if_neg (by omega), if_neg (by omega)]
    exact parseU r _ (fun b hb => hd b (by simp [hb])) h'
theorem parse_num {l : List UInt8} {n : Int} (h : IsNum l n) : Lib.parseIntB 64 l = .ok n := by
  obtain ⟨rfl, h0, h1⟩ := h
  have key : ∀ m : Nat, m ≤ 9999999999999999 → Lib.parseUintB 64 (Lib.decDigits m) = .ok m := fun m hm => by
    rw [Lib.parseUintB_64, Lib.parseMag, if_neg (dec_ne m), parseU _ 0 (dec_dig m) (by rw [dec_val]; exact hm), dec_val]
  by_cases hn : 0 ≤ n
  · obtain ⟨m, rfl⟩ := Int.eq_ofNat_of_zero_le hn
    have hk := key m (by omega)
    rw [itoa_nat]
    obtain ⟨hne, hd, _⟩ := dec_lead m
    cases hh : Lib.decDigits m with
    | nil => exact absurd hh hne
    | cons c r =>
      have hc := hd c (by rw [hh]; simp)
      unfold Dig at hc
      rw [Lib.parseIntB_plain 64 c r (by omega) (by omega), ← hh, hk]
      simp [Lib.signlessC]; omega
  · obtain ⟨m, hm0⟩ : ∃ m : Nat, n = -(m : Int) := ⟨n.natAbs, by omega⟩
    subst hm0
    rw [itoa_neg m (by omega), Lib.parseIntB_minus, key m (by omega)]
    simp [Lib.signedC]; omega
theorem itoa_clean (n : Int) : ∀ b ∈ Lib.itoa n, b ≠ 32 ∧ b ≠ 10 := by
  intro b hb
  unfold Lib.itoa at hb
  split at hb
  · rcases List.mem_cons.1 hb with rfl | hb
    · decide
    · exact (dig_ne (dec_dig _ b hb)).2
  · exact (dig_ne (dec_dig _ b hb)).2
theorem itoa_inj {n m : Int} (hn : IsNum (Lib.itoa n) n) (hm : IsNum (Lib.itoa m) m) (h : Lib.itoa n = Lib.itoa m) : n = m := by
  have a := intL_of_num hn
  have b := intL_of_num hm
  rw [h, b] at a
  exact (Option.some.inj a).symm

/-- Cut at the first such byte. -/
def cutL (c : UInt8) : List UInt8 → List UInt8 × List UInt8 × Bool
  | [] => ([], [], false)
  | b :: l => if b = c then ([], l, true) else (b :: (cutL c l).1, (cutL c l).2.1, (cutL c l).2.2)
theorem cutL_hit (c : UInt8) : ∀ (x y : List UInt8), (∀ b ∈ x, b ≠ c) → cutL c (x ++ c :: y) = (x, y, true)
  | [], y, _ => by simp [cutL]
  | b :: x, y, h => by
    have ih := cutL_hit c x y (fun d hd => h d (by simp [hd]))
    have hb := h b (by simp)
    simp [cutL, hb, ih]
theorem cutL_miss (c : UInt8) : ∀ (x : List UInt8), (∀ b ∈ x, b ≠ c) → cutL c x = (x, [], false)
  | [], _ => rfl
  | b :: x, h => by
    have ih := cutL_miss c x (fun d hd => h d (by simp [hd]))
    have hb := h b (by simp)
    simp [cutL, hb, ih]
theorem cutL_len (c : UInt8) : ∀ (x : List UInt8), (cutL c x).2.2 = true → (cutL c x).2.1.length < x.length
  | [], h => by simp [cutL] at h
  | b :: x, h => by
    unfold cutL at h ⊢
    by_cases hb : b = c
    · simp [hb]
    · simp only [hb, if_false] at h ⊢
      have := cutL_len c x h
      simp; omega
/-- Numbers with blanks between. -/
def joinL : List Int → List UInt8
  | [] => []
  | [n] => Lib.itoa n
  | n :: m :: r => Lib.itoa n ++ 32 :: joinL (m :: r)
noncomputable def numsF : Nat → List UInt8 → Option (List Int)
  | 0, _ => none
  | k + 1, s =>
    match intL (cutL 32 s).1 with
    | none => none
    | some n => if (cutL 32 s).2.2 then (numsF k (cutL 32 s).2.1).map (n :: ·) else some [n]
theorem numsF_last {k : Nat} {s x y : List UInt8} {n : Int} (h : cutL 32 s = (x, y, false)) (hi : intL x = some n) : numsF (k + 1) s = some [n] := by
  simp [numsF, h, hi]
theorem numsF_more {k : Nat} {s x y : List UInt8} {n : Int} (h : cutL 32 s = (x, y, true)) (hi : intL x = some n) : numsF (k + 1) s = (numsF k y).map (n :: ·) := by
  simp [numsF, h, hi]
theorem numsF_join : ∀ (ns : List Int) (k : Nat), ns ≠ [] → (∀ n ∈ ns, IsNum (Lib.itoa n) n) → ns.length ≤ k → numsF k (joinL ns) = some ns
  | [], _, h, _, _ => absurd rfl h
  | [n], 0, _, _, hk => by simp at hk
  | [n], k + 1, _, hn, _ => by
    have h1 := intL_of_num (hn n (by simp))
    exact numsF_last (cutL_miss 32 _ (fun b hb => (itoa_clean n b hb).1)) h1
  | n :: m :: r, 0, _, _, hk => by simp at hk
  | n :: m :: r, k + 1, _, hn, hk => by
    have h1 := intL_of_num (hn n (by simp))
    have ih := numsF_join (m :: r) k (by simp) (fun z hz => hn z (by simp at hz ⊢; exact Or.inr hz)) (by simp at hk ⊢; omega)
    show numsF (k + 1) (Lib.itoa n ++ 32 :: joinL (m :: r)) = _
    rw [numsF_more (cutL_hit 32 _ _ (fun b hb => (itoa_clean n b hb).1)) h1, ih]
    rfl
/-- A row: a word and numbers with blanks between. -/
def rowL (S : List UInt8) (ns : List Int) : List UInt8 := ns.foldl (fun t n => t ++ 32 :: Lib.itoa n) S
theorem foldl_row : ∀ (ns : List Int) (S T : List UInt8), ns.foldl (fun t n => t ++ 32 :: Lib.itoa n) (S ++ T) = S ++ ns.foldl (fun t n => t ++ 32 :: Lib.itoa n) T
  | [], _, _ => rfl
  | n :: r, S, T => by
    simp only [List.foldl_cons]
    rw [List.append_assoc, foldl_row r S]
theorem rowL_join : ∀ (ns : List Int) (S : List UInt8), ns ≠ [] → rowL S ns = S ++ 32 :: joinL ns
  | [], _, h => absurd rfl h
  | [n], S, _ => rfl
  | n :: m :: r, S, _ => by
    have ih := rowL_join (m :: r) (S ++ 32 :: Lib.itoa n) (by simp)
    show rowL (S ++ 32 :: Lib.itoa n) (m :: r) = _
    rw [ih]
    simp [joinL]
/-- A row is cut into its word and its numbers. -/
theorem row_cut {S : List UInt8} (hS : ∀ b ∈ S, b ≠ 32) {ns : List Int} (h : ns ≠ []) : cutL 32 (rowL S ns) = (S, joinL ns, true) := by
  rw [rowL_join ns S h, cutL_hit 32 S _ hS]
theorem row_cut_nil {S : List UInt8} (hS : ∀ b ∈ S, b ≠ 32) : cutL 32 (rowL S []) = (S, [], false) := cutL_miss 32 S hS
open Go

def inWord (b : UInt8) : Bool := !(b == 32) && !(b == 10)
def wordOf (s : List UInt8) : List UInt8 := s.takeWhile inWord
def restOf (s : List UInt8) : List UInt8 := s.dropWhile inWord
theorem word_rest (s : List UInt8) : wordOf s ++ restOf s = s := List.takeWhile_append_dropWhile
/-- What ends a word: nothing, a blank, the end of a line. -/
def Ends : List UInt8 → Prop
  | [] => True
  | b :: _ => inWord b = false
theorem word_app : ∀ (x t : List UInt8), (∀ b ∈ x, b ≠ 32 ∧ b ≠ 10) → Ends t → wordOf (x ++ t) = x ∧ restOf (x ++ t) = t
  | [], [], _, _ => ⟨rfl, rfl⟩
  | [], b :: t, _, h => by
    have hb : inWord b = false := h
    simp [wordOf, restOf, hb]
  | b :: x, t, hx, h => by
    obtain ⟨h1, h2⟩ := word_app x t (fun c hc => hx c (by simp [hc])) h
    have hb : inWord b = true := by have := hx b (by simp); simp [inWord, this]
    unfold wordOf restOf at *
    simp [hb, h1, h2]
def flatL : List Int → List UInt8
  | [] => []
  | n :: r => 32 :: (Lib.itoa n ++ flatL r)
theorem rowL_flat : ∀ (ns : List Int) (S : List UInt8), rowL S ns = S ++ flatL ns
  | [], S => by simp [rowL, flatL]
  | n :: r, S => by
    have ih := rowL_flat r (S ++ 32 :: Lib.itoa n)
    show rowL (S ++ 32 :: Lib.itoa n) r = _
    rw [ih]; simp [flatL]
theorem flat_ends (ns : List Int) {t : List UInt8} (h : Ends t) : Ends (flatL ns ++ t) := by
  cases ns with
  | nil => exact h
  | cons n r => show inWord 32 = false; rfl
theorem flat_clean : ∀ (ns : List Int), ∀ b ∈ flatL ns, b ≠ 10
  | [], b, h => by simp [flatL] at h
  | n :: r, b, h => by
    simp only [flatL, List.mem_cons, List.mem_append] at h
    rcases h with rfl | h | h
    · decide
    · exact (itoa_clean n b h).2
    · exact flat_clean r b h
/-- Numbers taken, each with a blank ahead. -/
noncomputable def readNums : Nat → List UInt8 → Option (List Int × List UInt8)
  | 0, s => some ([], s)
  | _ + 1, [] => none
  | k + 1, b :: s =>
    if b = 32 then
      match intL (wordOf s) with
      | none => none
      | some n => match readNums k (restOf s) with
        | none => none
        | some (ns, t) => some (n :: ns, t)
    else none
theorem readNums_of : ∀ (ns : List Int) (t : List UInt8), (∀ n ∈ ns, IsNum (Lib.itoa n) n) → Ends t → readNums ns.length (flatL ns ++ t) = some (ns, t)
  | [], _, _, _ => rfl
  | n :: r, t, hn, ht => by
    have ih := readNums_of r t (fun z hz => hn z (by simp [hz])) ht
    obtain ⟨h1, h2⟩ := word_app (Lib.itoa n) (flatL r ++ t) (itoa_clean n) (flat_ends r ht)
    have hi := intL_of_num (hn n (by simp))
    show readNums (r.length + 1) (32 :: (Lib.itoa n ++ flatL r) ++ t) = _
    rw [List.cons_append, List.append_assoc]
    simp [readNums, h1, h2, hi, ih]
theorem readNums_is : ∀ (k : Nat) (s : List UInt8) (ns : List Int) (t : List UInt8), readNums k s = some (ns, t) → s = flatL ns ++ t ∧ ns.length = k ∧ ∀ n ∈ ns, IsNum (Lib.itoa n) n
  | 0, s, ns, t, h => by
    simp only [readNums, Option.some.injEq, Prod.mk.injEq] at h
    obtain ⟨rfl, rfl⟩ := h
    exact ⟨rfl, rfl, fun n hn => by cases hn⟩
  | k + 1, [], ns, t, h => by simp [readNums] at h
  | k + 1, b :: s, ns, t, h => by
    unfold readNums at h
    by_cases hb : b = 32
    · rw [if_pos hb] at h
      cases hi : intL (wordOf s) with
      | none => rw [hi] at h; simp at h
      | some n =>
        rw [hi] at h
        cases hr : readNums k (restOf s) with
        | none => rw [hr] at h; simp at h
        | some p =>
          obtain ⟨ms, u⟩ := p
          rw [hr] at h
          simp only [Option.some.injEq, Prod.mk.injEq] at h
          obtain ⟨rfl, rfl⟩ := h
          obtain ⟨e, hl, hm⟩ := readNums_is k _ _ _ hr
          obtain ⟨e1, b0, b1⟩ := intL_num hi
          refine ⟨?_, by simp [hl], fun z hz => ?_⟩
          · have := word_rest s
            rw [← e1, e] at this
            rw [hb, ← this]; simp [flatL]
          · rcases List.mem_cons.1 hz with rfl | hz
            · exact ⟨rfl, b0, b1⟩
            · exact hm z hz
    · rw [if_neg hb] at h; cases h
/-- A line of a word and k numbers. -/
noncomputable def readLine (S : List UInt8) (k : Nat) (s : List UInt8) : Option (List Int × List UInt8) :=
  if S <+: s then
    match readNums k (s.drop S.length) with
    | some (ns, b :: t) => if b = 10 then some (ns, t) else none
    | _ => none
  else none
def lineL (S : List UInt8) (ns : List Int) : List UInt8 := rowL S ns ++ [10]
theorem readLine_of (S : List UInt8) (ns : List Int) (t : List UInt8) (hn : ∀ n ∈ ns, IsNum (Lib.itoa n) n) : readLine S ns.length (lineL S ns ++ t) = some (ns, t) := by
  have e : lineL S ns ++ t = S ++ (flatL ns ++ 10 :: t) := by simp [lineL, rowL_flat]
  have h := readNums_of ns (10 :: t) hn rfl
  unfold readLine
  rw [e, if_pos (List.prefix_append _ _), List.drop_left, h]
  simp
theorem readLine_is {S : List UInt8} {k : Nat} {s : List UInt8} {ns : List Int} {t : List UInt8} (h : readLine S k s = some (ns, t)) : s = lineL S ns ++ t ∧ ns.length = k ∧ ∀ n ∈ ns, IsNum (Lib.itoa n) n := by
  unfold readLine at h
  by_cases hp : S <+: s
  · rw [if_pos hp] at h
    obtain ⟨u, rfl⟩ := hp
    rw [List.drop_left] at h
    split at h
    · rename_i ms c v hr
      by_cases hc : c = 10
      rotate_left
      · rw [if_neg hc] at h; cases h
      rw [if_pos hc] at h
      subst hc
      simp only [Option.some.injEq, Prod.mk.injEq] at h
      obtain ⟨rfl, rfl⟩ := h
      obtain ⟨rfl, hl, hm⟩ := readNums_is k _ _ _ hr
      exact ⟨by simp [lineL, rowL_flat], hl, hm⟩
    · cases h
  · rw [if_neg hp] at h; cases h
/-- Two rows of the same text are the same row. -/
theorem row_inj {S T : List UInt8} {ns ms : List Int} (hS : ∀ b ∈ S, b ≠ 32 ∧ b ≠ 10) (hT : ∀ b ∈ T, b ≠ 32 ∧ b ≠ 10) (hn : ∀ n ∈ ns, IsNum (Lib.itoa n) n) (hm : ∀ n ∈ ms, IsNum (Lib.itoa n) n) (h : rowL S ns = rowL T ms) : S = T ∧ ns = ms := by
  rw [rowL_flat, rowL_flat] at h
  have e1 := word_app S (flatL ns) hS (by simpa using flat_ends ns (t := []) trivial)
  have e2 := word_app T (flatL ms) hT (by simpa using flat_ends ms (t := []) trivial)
  have hST : S = T := by rw [← e1.1, h, e2.1]
  refine ⟨hST, ?_⟩
  have hf : flatL ns = flatL ms := by rw [← e1.2, h, e2.2]
  clear e1 e2 h hS hT hST
  induction ns generalizing ms with
  | nil => cases ms with
    | nil => rfl
    | cons m r => simp [flatL] at hf
  | cons n r ih => cases ms with
    | nil => simp [flatL] at hf
    | cons m q =>
      have hf' : Lib.itoa n ++ flatL r = Lib.itoa m ++ flatL q := by simpa [flatL] using hf
      have w1 := word_app (Lib.itoa n) (flatL r) (itoa_clean n) (by simpa using flat_ends r (t := []) trivial)
      have w2 := word_app (Lib.itoa m) (flatL q) (itoa_clean m) (by simpa using flat_ends q (t := []) trivial)
      have en : n = m := itoa_inj (hn n (by simp)) (hm m (by simp)) (by rw [← w1.1, hf', w2.1])
      have er : r = q := ih (fun z hz => hn z (by simp [hz])) (fun z hz => hm z (by simp [hz])) (by rw [← w1.2, hf', w2.2])
      rw [en, er]
open Go

def linesL (S : List UInt8) : List (List Int) → List UInt8
  | [] => []
  | l :: r => lineL S l ++ linesL S r
/-- Lines of the word S with k numbers, as long as S is ahead. -/
noncomputable def readLines (S : List UInt8) (k : Nat) : Nat → List UInt8 → Option (List (List Int) × List UInt8)
  | 0, _ => none
  | f + 1, s =>
    if S <+: s then
      match readLine S k s with
      | none => none
      | some (ns, t) => match readLines S k f t with
        | none => none
        | some (ls, u) => some (ns :: ls, u)
    else some ([], s)
theorem line_prefix (S : List UInt8) (ns : List Int) (t : List UInt8) : S <+: lineL S ns ++ t := by
  refine ⟨flatL ns ++ 10 :: t, ?_⟩
  simp [lineL, rowL_flat]
theorem readLines_of (S : List UInt8) (k : Nat) : ∀ (ls : List (List Int)) (f : Nat) (t : List UInt8), (∀ l ∈ ls, l.length = k ∧ ∀ n ∈ l, IsNum (Lib.itoa n) n) → ¬ S <+: t → ls.length < f → readLines S k f (linesL S ls ++ t) = some (ls, t)
  | [], 0, _, _, _, h => by simp at h
  | [], f + 1, t, _, ht, _ => by
    show readLines S k (f + 1) t = _
    unfold readLines
    rw [if_neg ht]
  | l :: r, 0, _, _, _, h => by simp at h
  | l :: r, f + 1, t, hl, ht, hf => by
    have ih := readLines_of S k r f t (fun z hz => hl z (by simp [hz])) ht (by simp at hf; omega)
    obtain ⟨h1, h2⟩ := hl l (by simp)
    have h3 := readLine_of S l (linesL S r ++ t) h2
    rw [h1] at h3
    have e : linesL S (l :: r) ++ t = lineL S l ++ (linesL S r ++ t) := by simp [linesL]
    unfold readLines
    rw [e, if_pos (line_prefix S l _), h3]
    simp [ih]
theorem readLines_is (S : List UInt8) (k : Nat) : ∀ (f : Nat) (s : List UInt8) (ls : List (List Int)) (t : List UInt8), readLines S k f s = some (ls, t) → s = linesL S ls ++ t ∧ (∀ l ∈ ls, l.length = k ∧ ∀ n ∈ l, IsNum (Lib.itoa n) n) ∧ ¬ S <+: t
  | 0, s, ls, t, h => by simp [readLines] at h
  | f + 1, s, ls, t, h => by
    unfold readLines at h
    by_cases hp : S <+: s
    · rw [if_pos hp] at h
      cases h1 : readLine S k s with
      | none => rw [h1] at h; simp at h
      | some p =>
        obtain ⟨ns, u⟩ := p
        rw [h1] at h
        cases h2 : readLines S k f u with
        | none => simp [h2] at h
        | some q =>
          obtain ⟨ms, v⟩ := q
          simp only [h2, Option.some.injEq, Prod.mk.injEq] at h
          obtain ⟨rfl, rfl⟩ := h
          obtain ⟨e1, hk, hn⟩ := readLine_is h1
          obtain ⟨e2, hl, ht⟩ := readLines_is S k f u ms v h2
          refine ⟨by rw [e1, e2]; simp [linesL], fun z hz => ?_, ht⟩
          rcases List.mem_cons.1 hz with rfl | hz
          · exact ⟨hk, hn⟩
          · exact hl z hz
    · rw [if_neg hp] at h
      simp only [Option.some.injEq, Prod.mk.injEq] at h
      obtain ⟨rfl, rfl⟩ := h
      exact ⟨rfl, (fun z hz => by cases hz), hp⟩
theorem row_clean {S : List UInt8} (hS : ∀ b ∈ S, b ≠ 10) (ns : List Int) : ∀ b ∈ rowL S ns, b ≠ 10 := by
  intro b hb
  rw [rowL_flat] at hb
  rcases List.mem_append.1 hb with hb | hb
  · exact hS b hb
  · exact flat_clean ns b hb
/-- A line is cut at its end, then its word off, then its numbers are read. -/
theorem line_cut {S : List UInt8} (hS : ∀ b ∈ S, b ≠ 10) (ns : List Int) (t : List UInt8) : cutL 10 (lineL S ns ++ t) = (rowL S ns, t, true) := by
  have e : lineL S ns ++ t = rowL S ns ++ 10 :: t := by simp [lineL]
  rw [e]
  exact cutL_hit 10 _ _ (row_clean hS ns)
theorem lines_size (S : List UInt8) : ∀ ls : List (List Int), ls.length ≤ (linesL S ls).length
  | [] => Nat.le_refl _
  | l :: r => by
    have := lines_size S r
    have h1 : 1 ≤ (lineL S l).length := by simp [lineL]
    simp only [linesL, List.length_cons, List.length_append]
    omega
open Go

theorem stops_iff (b : UInt8) : ([32, 10] : List UInt8).contains b = !inWord b := by
  unfold inWord
  by_cases h1 : b = 32
  · subst h1; rfl
  · by_cases h2 : b = 10
    · subst h2; rfl
    · simp [h1, h2]
theorem index_word : ∀ s : List UInt8, (Lib.indexAny s [32, 10] = -1 ∧ wordOf s = s ∧ restOf s = []) ∨ (∃ i : Nat, Lib.indexAny s [32, 10] = i ∧ i < s.length ∧ wordOf s = s.take i ∧ restOf s = s.drop i)
  | [] => Or.inl ⟨rfl, rfl, rfl⟩
  | b :: l => by
    have hc := stops_iff b
    cases hb : inWord b with
    | false =>
      rw [hb] at hc
      refine Or.inr ⟨0, ?_, by simp, ?_, ?_⟩
      · rw [Lib.indexAny, hc]; rfl
      · simp [wordOf, hb]
      · simp [restOf, hb]
    | true =>
      rw [hb] at hc
      rcases index_word l with ⟨h1, h2, h3⟩ | ⟨i, h1, h0, h2, h3⟩
      · refine Or.inl ⟨?_, ?_, ?_⟩
        · rw [Lib.indexAny, hc, h1]; rfl
        · unfold wordOf at h2 ⊢
          simp [hb, h2]
        · unfold restOf at h3 ⊢
          rw [List.dropWhile_cons, hb]; exact h3
      · refine Or.inr ⟨i + 1, ?_, by simp; omega, ?_, ?_⟩
        · rw [Lib.indexAny, hc, h1]
          have : ((i : Int) == -1) = false := by simp
          simp [this]
        · unfold wordOf at h2 ⊢
          simp [hb, h2]
        · unfold restOf at h3 ⊢
          rw [List.dropWhile_cons, hb]; simpa using h3
end Go.Proofs.YtedhlmipcfdldaaGreatDoor
