/- What is asked of a frame, in the specification's words. Pure; no conditions. -/
import Derived.Test.YthmmlcmeaokdnaaTakI
namespace Go.Proofs.Ythmmlcmeaokdnaa
open Go.RowKit

theorem extL (s : ByteArray) (i j : Nat) : (s.extract i j).data.toList = (s.data.toList.drop i).take (j - i) := by
  have := ByteArray.extract_mk s.data.toList i j
  rw [show (⟨s.data.toList.toArray⟩ : ByteArray) = s from by cases s; simp] at this
  rw [this]
theorem ext_of {x y : ByteArray} (h : x.data.toList = y.data.toList) : x = y := by
  cases x; cases y
  simp at h
  rw [h]
theorem dataL (s : ByteArray) (a : Nat) : dataB (tailB s a) = s.extract (a + 8) (a + 8 + sizeN (tailB s a)) := by
  apply ext_of
  unfold dataB
  rw [extL, extL]
  unfold tailB
  rw [extL, List.take_of_length_le (l := s.data.toList.drop a) (by simp), List.drop_drop]
  congr 1
  omega
theorem byteAt_tail (s : ByteArray) (a k : Nat) : byteAt (tailB s a) k = byteAt s (a + k) := by
  by_cases h : a + k < s.size
  · have h2 : k < (tailB s a).size := by rw [tailB_size]; omega
    rw [byteAt_eq h, byteAt_eq h2]
    congr 1
    have hl : (tailB s a).data.toList = s.data.toList.drop a := by
      unfold tailB
      rw [extL, List.take_of_length_le (l := s.data.toList.drop a) (by simp)]
    have h3 : k < (tailB s a).data.toList.length := by simpa using h2
    have e1 : (tailB s a)[k] = (tailB s a).data.toList[k]'h3 := by simp; rfl
    have e2 : s[a + k] = s.data.toList[a + k]'(by simpa using h) := by simp; rfl
    rw [e1, e2]
    simp only [hl]
    rw [List.getElem_drop]
  · unfold byteAt
    rw [dif_neg h, dif_neg (by rw [tailB_size]; omega)]
/-- The number of a frame's bytes, as it is read. -/
def pnum (s : ByteArray) (a : Nat) : Nat → Nat
  | 0 => 0
  | i + 1 => 256 * pnum s a i + byteAt s (a + i)
theorem pnum_4 (s : ByteArray) (a : Nat) : pnum s a 4 = sizeN (tailB s a) := by
  simp only [pnum, sizeN, byteAt_tail]
  omega
theorem pnum_lt (s : ByteArray) (a : Nat) : ∀ i, i ≤ 4 → pnum s a i < 256 ^ i
  | 0, _ => by simp [pnum]
  | i + 1, h => by
    have ih := pnum_lt s a i (by omega)
    have hb := byteAt_lt s (a + i)
    rw [pnum, Nat.pow_succ]
    omega
theorem byteOf_lt {t : ByteArray} {k : Nat} (h : k < t.size) {z : Int} (hz : z = (byteAt t k : Int)) : byteOf z = t[k] := by
  subst hz
  rw [byteAt_eq h]
  unfold byteOf
  simp
set_option maxHeartbeats 1000000 in
theorem fine_iff (s : ByteArray) (a : Nat) (h : a + 8 ≤ s.size) (hn : sizeN (tailB s a) ≤ 100000) (hl : a + 8 + sizeN (tailB s a) ≤ s.size) :
    Fine (tailB s a) ↔ lowB (crcS (s.extract (a + 8) (a + 8 + sizeN (tailB s a)))) = (s.extract (a + 4) (a + 8)).toList := by
  have hs := tailB_size s a
  rw [← dataL s a, ByteArray.toList_eq, extL, show a + 8 - (a + 4) = 4 by omega]
  have hds : (dataB (tailB s a)).size = sizeN (tailB s a) := dataB_size (by omega)
  have e0 : Fine (tailB s a) ↔ (⟨(headB (dataB (tailB s a))).toArray⟩ : ByteArray) = (tailB s a).extract 0 8 := by
    unfold Fine
    constructor
    · intro hf; exact hf.2.2.2
    · intro hf; exact ⟨by omega, hn, by omega, hf⟩
  rw [e0]
  have e1 : ((⟨(headB (dataB (tailB s a))).toArray⟩ : ByteArray) = (tailB s a).extract 0 8) ↔ headB (dataB (tailB s a)) = (s.data.toList.drop a).take 8 := by
    have hx : ((tailB s a).extract 0 8).data.toList = (s.data.toList.drop a).take 8 := by
      rw [extL]
      unfold tailB
      rw [extL, List.take_of_length_le (l := s.data.toList.drop a) (by simp)]
      simp
    constructor
    · intro e
      rw [← hx, ← e]
    · intro e
      apply ext_of
      rw [hx, ← e]
  rw [e1]
  have hT : (s.data.toList.drop a).take 8 = (s.data.toList.drop a).take 4 ++ (s.data.toList.drop (a + 4)).take 4 := by
    rw [show (8 : Nat) = 4 + 4 by omega, List.take_add, List.drop_drop]
  have h4 : ([((dataB (tailB s a)).size : Int) / 16777216, ((dataB (tailB s a)).size : Int) / 65536, ((dataB (tailB s a)).size : Int) / 256 % 256, ((dataB (tailB s a)).size : Int) % 256]).map byteOf = (s.data.toList.drop a).take 4 := by
    have hz : s.data.toList.length = s.size := by simp
    apply List.ext_getElem
    · simp; have : s.data.size = s.size := rfl; omega
    intro i h1 h2
    simp only [List.length_map, List.length_cons, List.length_nil] at h1
    have c0 := byteAt_lt (tailB s a) 0
    have c1 := byteAt_lt (tailB s a) 1
    have c2 := byteAt_lt (tailB s a) 2
    have c3 := byteAt_lt (tailB s a) 3
    have hsz : (dataB (tailB s a)).size = byteAt (tailB s a) 0 * 16777216 + byteAt (tailB s a) 1 * 65536 + byteAt (tailB s a) 2 * 256 + byteAt (tailB s a) 3 := hds
    have hn' : byteAt (tailB s a) 0 * 16777216 + byteAt (tailB s a) 1 * 65536 + byteAt (tailB s a) 2 * 256 + byteAt (tailB s a) 3 ≤ 100000 := hn
    have key : ∀ (k : Nat) (hk : k < 4) (z : Int), z = (byteAt (tailB s a) k : Int) → byteOf z = s.data.toList[a + k]'(by omega) := by
      intro k hk z hz'
      rw [byteOf_lt (t := s) (k := a + k) (by omega) (by rw [hz', byteAt_tail])]
      simp
      rfl
    have q0 : ((dataB (tailB s a)).size : Int) / 16777216 = (byteAt (tailB s a) 0 : Int) := by omega
    have q1 : ((dataB (tailB s a)).size : Int) / 65536 = (byteAt (tailB s a) 1 : Int) := by omega
    have q2 : ((dataB (tailB s a)).size : Int) / 256 % 256 = (byteAt (tailB s a) 2 : Int) := by omega
    have q3 : ((dataB (tailB s a)).size : Int) % 256 = (byteAt (tailB s a) 3 : Int) := by omega
    have r0 := key 0 (by omega) _ q0
    have r1 := key 1 (by omega) _ q1
    have r2 := key 2 (by omega) _ q2
    have r3 := key 3 (by omega) _ q3
    clear q0 q1 q2 q3 key hsz hn' c0 c1 c2 c3
    rw [List.getElem_take, List.getElem_drop]
    simp only [List.map_cons, List.map_nil]
    rw [List.getElem_of_eq (show [byteOf (((dataB (tailB s a)).size : Int) / 16777216), byteOf (((dataB (tailB s a)).size : Int) / 65536), byteOf (((dataB (tailB s a)).size : Int) / 256 % 256), byteOf (((dataB (tailB s a)).size : Int) % 256)] = [s.data.toList[a + 0]'(by omega), s.data.toList[a + 1]'(by omega), s.data.toList[a + 2]'(by omega), s.data.toList[a + 3]'(by omega)] by rw [r0, r1, r2, r3])]
    have hcase : i = 0 ∨ i = 1 ∨ i = 2 ∨ i = 3 := by omega
    rcases hcase with e | e | e | e <;> subst e <;> rfl
  rw [hT]
  unfold headB
  rw [h4]
  constructor
  · intro e; exact List.append_cancel_left e
  · intro e; rw [e]
end Go.Proofs.Ythmmlcmeaokdnaa
