/- ReadDate, of the program and of the specification. Conditions: the table of months as its text lays it. -/
import Derived.Test.YtenlgmjlblggmaaDoorRdM
import Derived.Deep.RegionWith
namespace Go.Proofs.YtenlgmjlblggmaaDoor
open Go.RowKit

theorem valI_bd : ∀ (k : Nat) (l : List UInt8), l.length = k → valI l ≤ 30 * 10 ^ k - 30 ∧ -(30 * 10 ^ k - 30) ≤ valI l
  | 0, l, h => by
    obtain rfl := List.length_eq_zero_iff.1 h
    decide
  | k + 1, l, h => by
    obtain ⟨A, b, rfl, hA⟩ := snocL h
    have ih := valI_bd k A hA
    have hb := b.toNat_lt
    rw [valI_snoc, Int.pow_succ]
    omega
theorem take_snocD (s : ByteArray) (k : Nat) (h : k < s.size) : s.data.toList.take (k + 1) = s.data.toList.take k ++ [s[k]] := by
  rw [List.take_succ_eq_append_getElem (by simpa using h)]; rfl
theorem pow_small {k : Nat} (h : k ≤ 4) : (10 : Int) ^ k ≤ 10000 := by
  have : k = 0 ∨ k = 1 ∨ k = 2 ∨ k = 3 ∨ k = 4 := by omega
  rcases this with e | e | e | e | e <;> subst e <;> decide

set_option maxHeartbeats 1000000 in
theorem specNum (s : ByteArray) (w : World) (hs : s.size ≤ 4) :
    Calls Tryd.prog 19 #[.string s] w fun e w' => e = .returned (.int .i64 (valI s.data.toList)) ∧ w' = w := by
  go_enter Tryd.func19, Tryd.ntmps19
  go_wp2
  go_loop [3, 4] (fun n i => ∃ k : Nat, k ≤ s.size ∧ i = .int .i64 k ∧ n = .int .i64 (valI (s.data.toList.take k))) (fun _ i => s.size - (intOf i).toNat)
  case atStart => exact ⟨0, Nat.zero_le _, rfl, rfl⟩
  case round =>
    obtain ⟨k, hk, rfl, rfl⟩ := hrel
    by_cases hlt : k < s.size
    · have hv := valI_bd k (s.data.toList.take k) (by rw [List.length_take]; simp; omega)
      have hp := pow_small (k := k) (by omega)
      have HV : Hid (valI (s.data.toList.take (k + 1)) = 10 * valI (s.data.toList.take k) + (s[k].toNat : Int) - 48) := by
        show _ = _
        rw [take_snocD s k hlt, valI_snoc]
      have hb := s[k].toNat_lt
      have b1 : valI (s.data.toList.take k) ≤ 300000 := by omega
      have b2 : -300000 ≤ valI (s.data.toList.take k) := by omega
      clear hv hp
      generalize valI (s.data.toList.take k) = x at *
      go_wp2
      go_round
      case rel => exact ⟨k + 1, by omega, by go_num, by rw [HV.out]⟩
      case measure => simp [intOf]; omega
    · have e : s.data.toList.take k = s.data.toList := List.take_of_length_le (by simp; omega)
      rw [e]
      go_wp2
      go_ret
      exact ⟨rfl, rfl⟩
open Classical in
/-- The number of digits; -1 where a byte is none. -/
noncomputable def dv (l : List UInt8) : Int := if Digs l then valI l else -1
set_option maxHeartbeats 1000000 in
theorem implNum (s : ByteArray) (w : World) (hs : s.size ≤ 4) :
    Calls Tryd.prog 20 #[.string s] w fun e w' => e = .returned (.int .i64 (dv s.data.toList)) ∧ w' = w := by
  go_enter Tryd.func20, Tryd.ntmps20
  go_wp2
  go_loop [3, 4] (fun n i => ∃ k : Nat, k ≤ s.size ∧ i = .int .i64 k ∧ n = .int .i64 (valI (s.data.toList.take k)) ∧ Hid (Digs (s.data.toList.take k))) (fun _ i => s.size - (intOf i).toNat)
  case atStart => exact ⟨0, Nat.zero_le _, rfl, rfl, (by intro b hb; simp at hb : Digs (s.data.toList.take 0))⟩
  case round =>
    obtain ⟨k, hk, rfl, rfl, hD⟩ := hrel
    by_cases hlt : k < s.size
    · have hv := valI_bd k (s.data.toList.take k) (by rw [List.length_take]; simp; omega)
      have hp := pow_small (k := k) (by omega)
      have hb := s[k].toNat_lt
      have b1 : valI (s.data.toList.take k) ≤ 300000 := by omega
      have b2 : -300000 ≤ valI (s.data.toList.take k) := by omega
      have HT : Hid (s.data.toList.take (k + 1) = s.data.toList.take k ++ [s[k]]) := take_snocD s k hlt
      have HV : Hid (valI (s.data.toList.take (k + 1)) = 10 * valI (s.data.toList.take k) + (s[k].toNat : Int) - 48) := by
        show _ = _
        rw [HT.out, valI_snoc]
      have hmem : s[k] ∈ s.data.toList := by
        have : s[k] = s.data.toList[k]'(by simpa using hlt) := by simp; rfl
        rw [this]; exact List.getElem_mem _
      clear hv hp
      by_cases hdg : 48 ≤ s[k].toNat ∧ s[k].toNat ≤ 57
      · have HD1 : Hid (Digs (s.data.toList.take (k + 1))) := by
          show Digs _
          rw [HT.out]
          intro b hb
          rcases List.mem_append.1 hb with e | e
          · exact hD.out b e
          · have e' := List.mem_singleton.1 e; subst e'; exact hdg
        obtain ⟨g1, g2⟩ := hdg
        have g1' : ¬ (s[k].toNat : Int) < 48 := by omega
        have g2' : ¬ (57 : Int) < (s[k].toNat : Int) := by omega
        have g3 : decide ((s[k].toNat : Int) < 48) = false := decide_eq_false g1'
        generalize valI (s.data.toList.take k) = x at *
        go_wp2
        go_round
        case rel => exact ⟨k + 1, by omega, by go_num, by rw [HV.out]; first | rfl | (congr 1; omega), HD1⟩
        case measure => simp [intOf]; omega
      · have HN : Hid (dv s.data.toList = -1) := by
          show dv s.data.toList = -1
          unfold dv
          exact if_neg (fun h => hdg (h _ hmem))
        by_cases g : s[k].toNat < 48
        · have g' : decide ((s[k].toNat : Int) < 48) = true := decide_eq_true (by omega)
          go_wp2
          go_ret
          exact ⟨by rw [HN.out]; rfl, rfl⟩
        · have g' : decide ((s[k].toNat : Int) < 48) = false := decide_eq_false (by omega)
          have g2 : (57 : Int) < (s[k].toNat : Int) := by omega
          go_wp2
          go_ret
          exact ⟨by rw [HN.out]; rfl, rfl⟩
    · have e : s.data.toList.take k = s.data.toList := List.take_of_length_le (by simp; omega)
      have HN : Hid (dv s.data.toList = valI s.data.toList) := by
        show dv _ = _
        unfold dv
        have := hD.out
        rw [e] at this
        exact if_pos this
      rw [e]
      go_wp2
      go_ret
      exact ⟨by rw [HN.out]; rfl, rfl⟩
end Go.Proofs.YtenlgmjlblggmaaDoor
