/- l1Cut and l1Int of the specification: a text cut at its first byte of a kind; a number read. Conditions: texts of at most 1048576 bytes. -/
import Derived.Test.YtedhlmipcfdldaaGreatDoorTxt
import Derived.Test.YtedhlmipcfdldaaGreatDoorRows
import Derived.Deep.RegionWith
namespace Go.Proofs.YtedhlmipcfdldaaGreatDoor
open Go.RowKit

theorem extLD (s : ByteArray) (i j : Nat) : (s.extract i j).data.toList = (s.data.toList.drop i).take (j - i) := by
  rw [ByteArray.data_extract]
  simp
theorem ext_ofD {x y : ByteArray} (h : x.data.toList = y.data.toList) : x = y := by
  apply ByteArray.ext
  exact Array.toList_inj.1 h
theorem lenD (s : ByteArray) : s.data.toList.length = s.size := by simp
theorem getD (s : ByteArray) (k : Nat) (h : k < s.size) : s.data.toList[k]'(by simpa using h) = s[k] := rfl
theorem take_snocD (s : ByteArray) (k : Nat) (h : k < s.size) : s.data.toList.take (k + 1) = s.data.toList.take k ++ [s[k]] := by
  rw [List.take_succ_eq_append_getElem (by simpa using h)]; rfl
/-- No byte c ahead of place k. -/
def NoC (c : UInt8) (s : ByteArray) (k : Nat) : Prop := ∀ b ∈ s.data.toList.take k, b ≠ c
theorem NoC.step {c : UInt8} {s : ByteArray} {k : Nat} (h : NoC c s k) (hk : k < s.size) (hc : s[k] ≠ c) : NoC c s (k + 1) := by
  intro b hb
  rw [take_snocD s k hk] at hb
  rcases List.mem_append.1 hb with h1 | h1
  · exact h b h1
  · simp at h1; rw [h1]; exact hc
theorem NoC.hit {c : UInt8} {s : ByteArray} {k : Nat} (h : NoC c s k) (hk : k < s.size) (hc : s[k] = c) : cutL c s.data.toList = ((s.extract 0 k).data.toList, (s.extract (k + 1) s.size).data.toList, true) := by
  have e : s.data.toList = s.data.toList.take k ++ c :: s.data.toList.drop (k + 1) := by
    conv => lhs; rw [← List.take_append_drop k s.data.toList]
    rw [List.drop_eq_getElem_cons (by simpa using hk)]
    rw [getD s k hk, hc]
  have := cutL_hit c (s.data.toList.take k) (s.data.toList.drop (k + 1)) h
  rw [← e] at this
  rw [this, extLD, extLD]
  simp
  rw [List.take_of_length_le (by simp)]
theorem NoC.miss {c : UInt8} {s : ByteArray} {k : Nat} (h : NoC c s k) (hk : s.size ≤ k) : cutL c s.data.toList = (s.data.toList, [], false) := by
  apply cutL_miss
  unfold NoC at h
  rwa [List.take_of_length_le (by simpa using hk)] at h
def CutOut (c : UInt8) (s : ByteArray) (w : World) (e : Ending) (w' : World) : Prop := ∃ x y b, e = .returned (.tuple #[.string x, .string y, .bool b]) ∧ cutL c s.data.toList = (x.data.toList, y.data.toList, b) ∧ x.size ≤ s.size ∧ y.size ≤ s.size ∧ (b = true → y.size < s.size) ∧ Below w.heap.size w w'
theorem cut_bytes (a b : UInt8) : (((a.toNat : Int) == (b.toNat : Int)) = true ↔ a = b) ∧ (((a.toNat : Int) == (b.toNat : Int)) = false ↔ a ≠ b) := by
  constructor
  · rw [beq_iff_eq]
    exact ⟨fun h => UInt8.toNat_inj.1 (by omega), fun h => by rw [h]⟩
  · rw [beq_eq_false_iff_ne]
    exact ⟨fun h e => h (by rw [e]), fun h e => h (UInt8.toNat_inj.1 (by omega))⟩

set_option maxHeartbeats 1000000 in
theorem specCut (c : UInt8) (s : ByteArray) (w : World) (hs : s.size ≤ 1048576) :
    Calls Tryz.prog 9 #[.string s, .int .u8 (c.toNat : Int)] w fun e w' => CutOut c s w e w' := by
  go_enter Tryz.func9, Tryz.ntmps9
  go_wp2
  go_loop [7] (fun i => ∃ k : Nat, k ≤ s.size ∧ i = .int .i64 k ∧ Hid (NoC c s k)) (fun i => s.size - (intOf i).toNat)
  case atStart => exact ⟨0, Nat.zero_le _, rfl, (fun b hb => by simp at hb : NoC c s 0)⟩
  case round =>
    obtain ⟨k, hk, rfl, hN⟩ := hrel
    by_cases hlt : k < s.size
    · by_cases hc : s[k] = c
      · have FI : Hid (CutOut c s w (.returned (.tuple #[.string (s.extract 0 k), .string (s.extract (k + 1) s.size), .bool true])) w.drew) := ⟨_, _, _, rfl, hN.out.hit hlt hc, by rw [ByteArray.size_extract]; omega, by rw [ByteArray.size_extract]; omega, fun _ => by rw [ByteArray.size_extract]; omega, (Below.refl _ _).drew⟩
        have hb := (cut_bytes s[k] c).1.2 hc
        clear hc hN
        go_wp2_with fail
        go_region
        all_goals go_wp2
        all_goals refine bodyPost_ret (v := .tuple #[.string (s.extract 0 k), .string (s.extract (k + 1) s.size), .bool true]) (by simp [results, Tryz.results9, go_sem]) rfl ?_
        all_goals exact FI.out
      · have hb := (cut_bytes s[k] c).2.2 hc
        have HN : Hid (NoC c s (k + 1)) := hN.out.step hlt hc
        clear hc hN
        go_wp2
        go_round
        case rel => exact ⟨k + 1, by omega, by go_num, HN⟩
        case measure => simp [intOf]; omega
    · have FI : Hid (CutOut c s w (.returned (.tuple #[.string s, .string ⟨#[]⟩, .bool false])) w) := ⟨_, _, _, rfl, hN.out.miss (by omega), Nat.le_refl _, Nat.zero_le _, (fun h => by cases h), Below.refl _ _⟩
      clear hN
      go_wp2
      refine bodyPost_ret (v := .tuple #[.string s, .string ⟨#[]⟩, .bool false]) (by simp [results, Tryz.results9, go_sem]) rfl ?_
      exact FI.out
/-- What l1Int tells. -/
def IntOut (s : ByteArray) (w : World) (e : Ending) (w' : World) : Prop := Below w.heap.size w w' ∧ ((∃ n, intL s.data.toList = some n ∧ e = .returned (.tuple #[.int .i64 n, .bool true])) ∨ (intL s.data.toList = none ∧ e = .returned (.tuple #[.int .i64 0, .bool false])))
theorem IntOut.no {s : ByteArray} {w w' : World} (hb : Below w.heap.size w w') (h : badL s.data.toList ∨ ¬ (∀ b ∈ magL s.data.toList, Dig b)) : IntOut s w (.returned (.tuple #[.int .i64 0, .bool false])) w' := ⟨hb, Or.inr ⟨if_pos h, rfl⟩⟩
theorem IntOut.yes {s : ByteArray} {w w' : World} (hb : Below w.heap.size w w') (h : ¬ badL s.data.toList) (hd : ∀ b ∈ magL s.data.toList, Dig b) {n : Int} (hn : n = if negL s.data.toList then -(valD 0 (magL s.data.toList) : Int) else (valD 0 (magL s.data.toList) : Int)) : IntOut s w (.returned (.tuple #[.int .i64 n, .bool true])) w' := by
  refine ⟨hb, Or.inl ⟨n, ?_, rfl⟩⟩
  rw [hn]
  exact if_neg (fun e => e.elim h (fun e => e hd))
theorem valD_snoc (l : List UInt8) (b : UInt8) : valD 0 (l ++ [b]) = valD 0 l * 10 + (b.toNat - 48) := by rw [valD_app]; rfl
/-- How far the digits are read. -/
def DigsTo (t : ByteArray) (k : Nat) (n : Int) : Prop := (∀ b ∈ t.data.toList.take k, Dig b) ∧ n = (valD 0 (t.data.toList.take k) : Int)
theorem p10_16 {k : Nat} (h : k ≤ 16) : p10 k ≤ 10000000000000000 := by
  have := p10_mono h
  have e : p10 16 = 10000000000000000 := by decide
  omega
theorem DigsTo.bd {t : ByteArray} {k : Nat} {n : Int} (h : DigsTo t k n) (hk : k ≤ 16) : 0 ≤ n ∧ n < 10000000000000000 := by
  obtain ⟨h1, rfl⟩ := h
  have := valD_lt (t.data.toList.take k) 0 h1
  have h2 : (t.data.toList.take k).length ≤ 16 := by rw [List.length_take]; omega
  have := p10_16 h2
  omega
theorem DigsTo.step {t : ByteArray} {k : Nat} {n : Int} (h : DigsTo t k n) (hk : k < t.size) (h1 : 48 ≤ (t[k].toNat : Int)) (h2 : (t[k].toNat : Int) ≤ 57) : DigsTo t (k + 1) (n * 10 + ((t[k].toNat : Int) - 48)) := by
  obtain ⟨g1, rfl⟩ := h
  refine ⟨?_, ?_⟩
  · intro b hb
    rw [take_snocD t k hk] at hb
    rcases List.mem_append.1 hb with h | h
    · exact g1 b h
    · simp at h; rw [h]; exact ⟨by omega, by omega⟩
  · rw [take_snocD t k hk, valD_snoc]
    omega
theorem not_digs {t : ByteArray} {k : Nat} (hk : k < t.size) (h : (t[k].toNat : Int) < 48 ∨ 57 < (t[k].toNat : Int)) : ¬ ∀ b ∈ t.data.toList, Dig b := by
  intro hd
  have := hd t[k] (by rw [← getD t k hk]; exact List.getElem_mem _)
  obtain ⟨h1, h2⟩ := this
  omega
theorem digs_all {t : ByteArray} {k : Nat} {n : Int} (h : DigsTo t k n) (hk : t.size ≤ k) : (∀ b ∈ t.data.toList, Dig b) ∧ n = (valD 0 t.data.toList : Int) := by
  unfold DigsTo at h
  rwa [List.take_of_length_le (by simpa using hk)] at h
theorem head_48 {t : ByteArray} (h : 0 < t.size) : (t.data.toList.head? = some 48 ↔ t[0] = 48) := by
  rw [List.head?_eq_getElem?, List.getElem?_eq_getElem (by simpa using h), getD t 0 h]
  simp
theorem head_45 {t : ByteArray} (h : 0 < t.size) : (t.data.toList.head? = some 45 ↔ t[0] = 45) := by
  rw [List.head?_eq_getElem?, List.getElem?_eq_getElem (by simpa using h), getD t 0 h]
  simp
theorem byte_is {b : UInt8} {k : Nat} (hk : k < 256) : (((b.toNat : Int) == (k : Int)) = true ↔ b = UInt8.ofNat k) ∧ (((b.toNat : Int) == (k : Int)) = false ↔ b ≠ UInt8.ofNat k) := by
  have e : (UInt8.ofNat k).toNat = k := by simp; omega
  have := cut_bytes b (UInt8.ofNat k)
  rw [e] at this
  exact this
end Go.Proofs.YtedhlmipcfdldaaGreatDoor
