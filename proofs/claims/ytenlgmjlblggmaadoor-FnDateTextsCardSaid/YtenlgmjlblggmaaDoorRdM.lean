/- Digits and numbers: what a date's text says. Pure; no conditions. -/
import Derived.Test.YtenlgmjlblggmaaDoorText2
import Derived.Laws.Strings2
namespace Go.Proofs.YtenlgmjlblggmaaDoor
open Go.RowKit

/-- The number of bytes as digits, whatever they are. -/
def valI (l : List UInt8) : Int := l.foldl (fun n b => 10 * n + (b.toNat : Int) - 48) 0
theorem valI_snoc (l : List UInt8) (b : UInt8) : valI (l ++ [b]) = 10 * valI l + (b.toNat : Int) - 48 := by simp [valI]
def Digs (l : List UInt8) : Prop := ∀ b ∈ l, 48 ≤ b.toNat ∧ b.toNat ≤ 57
theorem Digs.snoc {l : List UInt8} {b : UInt8} (h : Digs (l ++ [b])) : Digs l ∧ 48 ≤ b.toNat ∧ b.toNat ≤ 57 := ⟨fun x hx => h x (by simp [hx]), h b (by simp)⟩
/-- The last k digits of a number. -/
def dk (n : Nat) : Nat → List UInt8
  | 0 => []
  | k + 1 => dk (n / 10) k ++ [UInt8.ofNat (48 + n % 10)]
theorem dk_zero : ∀ k, dk 0 k = List.replicate k 48
  | 0 => rfl
  | k + 1 => by
    rw [dk, Nat.zero_div, dk_zero k, List.replicate_succ']
    rfl
theorem pad_dk : ∀ (k n : Nat), n < 10 ^ (k + 1) → pad (Lib.decDigits n) (k + 1) = dk n (k + 1)
  | k, n, h => by
    by_cases h10 : 10 ≤ n
    · match k, h with
      | 0, h => simp at h; omega
      | k + 1, h =>
        have h' : n / 10 < 10 ^ (k + 1) := by
          rw [Nat.pow_succ] at h
          omega
        have ih := pad_dk k (n / 10) h'
        rw [dk, ← ih, dec_big h10]
        unfold pad
        rw [List.length_append]
        simp only [List.length_cons, List.length_nil]
        rw [show k + 1 + 1 - ((Lib.decDigits (n / 10)).length + (0 + 1)) = k + 1 - (Lib.decDigits (n / 10)).length by omega, List.append_assoc]
    · rw [dec_small (by omega), dk, show n / 10 = 0 by omega, dk_zero, show n % 10 = n by omega]
      simp [pad]
theorem dk_len (n : Nat) : ∀ k, (dk n k).length = k
  | 0 => rfl
  | k + 1 => by rw [dk, List.length_append, dk_len (n / 10) k]; rfl
theorem dk_digs (n : Nat) : ∀ k, Digs (dk n k)
  | 0 => by intro b hb; simp [dk] at hb
  | k + 1 => by
    intro b hb
    rw [dk] at hb
    rcases List.mem_append.1 hb with e | e
    · exact dk_digs (n / 10) k b e
    · have e' := List.mem_singleton.1 e
      subst e'
      have : (UInt8.ofNat (48 + n % 10)).toNat = 48 + n % 10 := by simp; omega
      omega
theorem valI_dk : ∀ (k n : Nat), n < 10 ^ k → valI (dk n k) = n
  | 0, n, h => by simp at h; subst h; rfl
  | k + 1, n, h => by
    have h' : n / 10 < 10 ^ k := by rw [Nat.pow_succ] at h; omega
    rw [dk, valI_snoc, valI_dk k (n / 10) h']
    have : (UInt8.ofNat (48 + n % 10)).toNat = 48 + n % 10 := by simp; omega
    omega
theorem snocL {α : Type} {l : List α} {n : Nat} (h : l.length = n + 1) : ∃ A b, l = A ++ [b] ∧ A.length = n := by
  have hne : l ≠ [] := by intro e; rw [e] at h; simp at h
  exact ⟨l.dropLast, l.getLast hne, (List.dropLast_concat_getLast hne).symm, by simp [h]⟩
theorem val_nat : ∀ (k : Nat) (l : List UInt8), l.length = k → Digs l → 0 ≤ valI l ∧ valI l < 10 ^ k ∧ dk (valI l).toNat k = l
  | 0, l, hl, _ => by
    obtain rfl := List.length_eq_zero_iff.1 hl
    exact ⟨by decide, by decide, rfl⟩
  | k + 1, l, hl, hd => by
    obtain ⟨A, b, rfl, hA⟩ := snocL hl
    obtain ⟨d1, d2, d3⟩ := hd.snoc
    obtain ⟨i1, i2, i3⟩ := val_nat k A hA d1
    rw [valI_snoc]
    refine ⟨by omega, by rw [Int.pow_succ]; omega, ?_⟩
    rw [dk, show (10 * valI A + (b.toNat : Int) - 48).toNat / 10 = (valI A).toNat by omega, i3, show (10 * valI A + (b.toNat : Int) - 48).toNat % 10 = b.toNat - 48 by omega, show 48 + (b.toNat - 48) = b.toNat by omega]
    simp
theorem extLD (s : ByteArray) (i j : Nat) : (s.extract i j).data.toList = (s.data.toList.drop i).take (j - i) := by
  have := ByteArray.extract_mk s.data.toList i j
  rw [show (⟨s.data.toList.toArray⟩ : ByteArray) = s from by cases s; simp] at this
  rw [this]
theorem ext_ofD {x y : ByteArray} (h : x.data.toList = y.data.toList) : x = y := by
  cases x; cases y
  simp at h
  rw [h]
theorem dateT_list (y m d : Nat) : (dateT y m d).data.toList = pad (Lib.decDigits y) 4 ++ ([45] ++ (pad (Lib.decDigits m) 2 ++ ([45] ++ pad (Lib.decDigits d) 2))) := by
  unfold dateT padB
  rw [show (⟨#[45]⟩ : ByteArray) = ⟨[45].toArray⟩ from rfl]
  simp only [str_app]
  simp
/-- What a text of ten bytes must be. -/
def Good (l : List UInt8) : Prop := l[4]? = some 45 ∧ l[7]? = some 45 ∧ Digs (l.take 4) ∧ Digs ((l.drop 5).take 2) ∧ Digs (l.drop 8) ∧
  dateB (valI (l.take 4)) (valI ((l.drop 5).take 2)) (valI (l.drop 8)) = true
theorem list10 {l : List UInt8} (h : l.length = 10) : ∃ a b c d e f g i j k, l = [a, b, c, d, e, f, g, i, j, k] := by
  match l, h with
  | [a, b, c, d, e, f, g, i, j, k], _ => exact ⟨a, b, c, d, e, f, g, i, j, k, rfl⟩
theorem good_text {s : ByteArray} (hs : s.data.toList.length = 10) {y m d : Nat} (hy : (y : Int) = valI (s.data.toList.take 4)) (hm : (m : Int) = valI ((s.data.toList.drop 5).take 2)) (hd : (d : Int) = valI (s.data.toList.drop 8))
    (hb : dateB y m d = true) : Good s.data.toList ↔ dateT y m d = s := by
  have hb' := dateB_iff.1 hb
  have hdm := dim_le y m
  have hy4 : y < 10 ^ 4 := by omega
  have hm2 : m < 10 ^ 2 := by omega
  have hd2 : d < 10 ^ 2 := by omega
  have hT : (dateT y m d).data.toList = dk y 4 ++ ([45] ++ (dk m 2 ++ ([45] ++ dk d 2))) := by
    rw [dateT_list, pad_dk 3 y hy4, pad_dk 1 m hm2, pad_dk 1 d hd2]
  constructor
  · intro hg
    obtain ⟨g4, g7, g1, g2, g3, _⟩ := hg
    apply ext_ofD
    rw [hT]
    obtain ⟨_, _, e1⟩ := val_nat 4 (s.data.toList.take 4) (by rw [List.length_take]; omega) g1
    obtain ⟨_, _, e2⟩ := val_nat 2 ((s.data.toList.drop 5).take 2) (by simp at hs ⊢; omega) g2
    obtain ⟨_, _, e3⟩ := val_nat 2 (s.data.toList.drop 8) (by simp at hs ⊢; omega) g3
    rw [← hy] at e1
    rw [← hm] at e2
    rw [← hd] at e3
    rw [show ((y : Int)).toNat = y by omega] at e1
    rw [show ((m : Int)).toNat = m by omega] at e2
    rw [show ((d : Int)).toNat = d by omega] at e3
    rw [e1, e2, e3]
    obtain ⟨a, b, c, d', e, f, g, i, j, k, hl⟩ := list10 hs
    rw [hl] at g4 g7 ⊢
    simp at g4 g7
    subst g4
    subst g7
    rfl
  · intro e
    have hl : s.data.toList = dk y 4 ++ ([45] ++ (dk m 2 ++ ([45] ++ dk d 2))) := by rw [← e, hT]
    have l1 := dk_len y 4
    have l2 := dk_len m 2
    have l3 := dk_len d 2
    have t1 : s.data.toList.take 4 = dk y 4 := by rw [hl, List.take_append_of_le_length (by omega), List.take_of_length_le (by omega)]
    have t5 : s.data.toList.drop 5 = dk m 2 ++ ([45] ++ dk d 2) := by
      rw [hl, show dk y 4 ++ ([45] ++ (dk m 2 ++ ([45] ++ dk d 2))) = (dk y 4 ++ [45]) ++ (dk m 2 ++ ([45] ++ dk d 2)) by simp]
      rw [List.drop_append_of_le_length (by simp; omega), List.drop_of_length_le (by simp; omega), List.nil_append]
    have t2 : (s.data.toList.drop 5).take 2 = dk m 2 := by rw [t5, List.take_append_of_le_length (by omega), List.take_of_length_le (by omega)]
    have t8 : s.data.toList.drop 8 = dk d 2 := by
      rw [show (8 : Nat) = 5 + 3 by omega, ← List.drop_drop, t5, show dk m 2 ++ ([45] ++ dk d 2) = (dk m 2 ++ [45]) ++ dk d 2 by simp]
      rw [List.drop_append_of_le_length (by simp; omega), List.drop_of_length_le (by simp; omega), List.nil_append]
    refine ⟨?_, ?_, by rw [t1]; exact dk_digs _ _, by rw [t2]; exact dk_digs _ _, by rw [t8]; exact dk_digs _ _, by rw [← hy, ← hm, ← hd]; exact hb⟩
    · rw [hl, List.getElem?_append_right (by omega), l1]
      rfl
    · have : s.data.toList[7]? = (s.data.toList.drop 5)[2]? := by rw [List.getElem?_drop]
      rw [this, t5, List.getElem?_append_right (by omega), l2]
      rfl
end Go.Proofs.YtenlgmjlblggmaaDoor
