/- The draws of the law FnDateTexts, and what a date's text gives back. Conditions: the bytes lie in memory. -/
import Derived.Test.YtenlgmjlblggmaaDoorRdB
namespace Go.Proofs.YtenlgmjlblggmaaDoor
open Go.RowKit

theorem text_parts {Y M D : Nat} (hb : dateB Y M D = true) : (dateT Y M D).size = 10 ∧ valI ((dateT Y M D).data.toList.take 4) = Y ∧ valI (((dateT Y M D).data.toList.drop 5).take 2) = M ∧ valI ((dateT Y M D).data.toList.drop 8) = D := by
  have hb' := dateB_iff.1 hb
  have hdm := dim_le Y M
  have hy4 : Y < 10 ^ 4 := by omega
  have hm2 : M < 10 ^ 2 := by omega
  have hd2 : D < 10 ^ 2 := by omega
  have hl : (dateT Y M D).data.toList = dk Y 4 ++ ([45] ++ (dk M 2 ++ ([45] ++ dk D 2))) := by
    rw [dateT_list, pad_dk 3 Y hy4, pad_dk 1 M hm2, pad_dk 1 D hd2]
  have l1 := dk_len Y 4
  have l2 := dk_len M 2
  have l3 := dk_len D 2
  have hsz : (dateT Y M D).size = (dateT Y M D).data.toList.length := by simp
  have t1 : (dateT Y M D).data.toList.take 4 = dk Y 4 := by rw [hl, List.take_append_of_le_length (by omega), List.take_of_length_le (by omega)]
  have t5 : (dateT Y M D).data.toList.drop 5 = dk M 2 ++ ([45] ++ dk D 2) := by
    rw [hl, show dk Y 4 ++ ([45] ++ (dk M 2 ++ ([45] ++ dk D 2))) = (dk Y 4 ++ [45]) ++ (dk M 2 ++ ([45] ++ dk D 2)) by simp]
    rw [List.drop_append_of_le_length (by simp; omega), List.drop_of_length_le (by simp; omega), List.nil_append]
  have t2 : ((dateT Y M D).data.toList.drop 5).take 2 = dk M 2 := by rw [t5, List.take_append_of_le_length (by omega), List.take_of_length_le (by omega)]
  have t8 : (dateT Y M D).data.toList.drop 8 = dk D 2 := by
    rw [show (8 : Nat) = 5 + 3 by omega, ← List.drop_drop, t5, show dk M 2 ++ ([45] ++ dk D 2) = (dk M 2 ++ [45]) ++ dk D 2 by simp]
    rw [List.drop_append_of_le_length (by simp; omega), List.drop_of_length_le (by simp; omega), List.nil_append]
  refine ⟨?_, by rw [t1]; exact valI_dk 4 Y hy4, by rw [t2]; exact valI_dk 2 M hm2, by rw [t8]; exact valI_dk 2 D hd2⟩
  rw [hsz, hl]
  simp [l1, l2, l3]
/-- What ReadDate says of a date's own text. -/
theorem text_good {Y M D : Nat} (hb : dateB Y M D = true) : G10 (dateT Y M D) := by
  obtain ⟨h10, v1, v2, v3⟩ := text_parts hb
  refine ⟨h10, ?_⟩
  exact (good_text (s := dateT Y M D) (by simpa using h10) v1.symm v2.symm v3.symm hb).2 rfl
/-- Whatever the date: one text of both, that reads back. -/
theorem text_any (y m d : Int) : ∃ x : ByteArray, (∀ w, Calls Tryd.prog 6 #[.agg #[.int .i64 y, .int .i64 m, .int .i64 d]] w fun e w' => e = .returned (.string x) ∧ Below w.heap.size w w') ∧
    (∀ w, Tab w → Pow w → Calls Tryd.prog 8 #[.agg #[.int .i64 y, .int .i64 m, .int .i64 d]] w fun e w' => e = .returned (.string x) ∧ Below w.heap.size w w') ∧
    ((x = ⟨#[]⟩ ∧ dateB y m d = false) ∨ (x.size = 10 ∧ dateB y m d = true ∧ ∀ (w : World) (e : Ending) (w' : World), ReadIs x w e w' → e = .returned (.tuple #[.agg #[.int .i64 y, .int .i64 m, .int .i64 d], .bool true]) ∧ Below w.heap.size w w')) := by
  by_cases h : dateB y m d = true
  · have hb := dateB_iff.1 h
    have hdm := dim_le y m
    obtain ⟨Y, rfl⟩ := Int.eq_ofNat_of_zero_le (show 0 ≤ y by omega)
    obtain ⟨M, rfl⟩ := Int.eq_ofNat_of_zero_le (show 0 ≤ m by omega)
    obtain ⟨D, rfl⟩ := Int.eq_ofNat_of_zero_le (show 0 ≤ d by omega)
    obtain ⟨h10, v1, v2, v3⟩ := text_parts h
    refine ⟨dateT Y M D, fun w => specText_yes Y M D w h (by omega) (by omega) (by omega), fun w h1 h2 => implText_yes Y M D w h1 h2 h (by omega) (by omega) (by omega), Or.inr ⟨h10, h, fun w e w' hr => ⟨?_, hr.1⟩⟩⟩
    rcases hr.2 with ⟨_, he⟩ | ⟨hn, _⟩
    · rw [v1, v2, v3] at he; exact he
    · exact absurd (text_good h) hn
  · have h' : dateB y m d = false := by simpa using h
    exact ⟨⟨#[]⟩, fun w => specText_no y m d w h', fun w h1 _ => implText_no y m d w h1 h', Or.inl ⟨rfl, h'⟩⟩
/-- What a text says that is one: its date's text. -/
theorem read_any (s : ByteArray) : ∃ r1 r2 r3 b, (∀ (w : World) (e : Ending) (w' : World), ReadIs s w e w' → e = .returned (.tuple #[.agg #[.int .i64 r1, .int .i64 r2, .int .i64 r3], .bool b]) ∧ Below w.heap.size w w') ∧
    (b = true → ∀ w, Tab w → Pow w → Calls Tryd.prog 8 #[.agg #[.int .i64 r1, .int .i64 r2, .int .i64 r3]] w fun e w' => e = .returned (.string s) ∧ Below w.heap.size w w') := by
  by_cases h : G10 s
  · obtain ⟨h10, hg⟩ := h
    have hb := hg.2.2.2.2.2
    have hl10 : s.data.toList.length = 10 := by simp; exact h10
    have hb' := dateB_iff.1 hb
    have hdm := dim_le (valI (s.data.toList.take 4)) (valI ((s.data.toList.drop 5).take 2))
    refine ⟨valI (s.data.toList.take 4), valI ((s.data.toList.drop 5).take 2), valI (s.data.toList.drop 8), true, fun w e w' hh => ⟨?_, hh.1⟩, fun _ w h1 h2 => ?_⟩
    · rcases hh.2 with ⟨_, he⟩ | ⟨hn, _⟩
      · exact he
      · exact absurd ⟨h10, hg⟩ hn
    · obtain ⟨Y, hY⟩ := Int.eq_ofNat_of_zero_le (show 0 ≤ valI (s.data.toList.take 4) by omega)
      obtain ⟨M, hM⟩ := Int.eq_ofNat_of_zero_le (show 0 ≤ valI ((s.data.toList.drop 5).take 2) by omega)
      obtain ⟨D, hD⟩ := Int.eq_ofNat_of_zero_le (show 0 ≤ valI (s.data.toList.drop 8) by omega)
      rw [hY, hM, hD] at hb ⊢
      have ht := (good_text hl10 hY.symm hM.symm hD.symm hb).1 hg
      have := implText_yes Y M D w h1 h2 hb (by omega) (by omega) (by omega)
      rw [ht] at this
      exact this
  · refine ⟨0, 0, 0, false, fun w e w' hh => ⟨?_, hh.1⟩, fun hb => by cases hb⟩
    rcases hh.2 with ⟨hy, _⟩ | ⟨_, he⟩
    · exact absurd hy h
    · exact he
end Go.Proofs.YtenlgmjlblggmaaDoor
