/- l6Nums of the specification, walked. Conditions: texts of at most 1048576 bytes. -/
import Derived.Test.YtedhlmipcfdldaaGreatDoorNum
namespace Go.Proofs.YtedhlmipcfdldaaGreatDoor
open Go.RowKit

def boolOf : Value → Bool | .bool b => b | _ => false
def strOf : Value → Nat | .string s => s.size | _ => 0
set_option maxRecDepth 8000 in
set_option maxHeartbeats 2000000 in
theorem specNums (S : ByteArray) (w : World) (hS : S.size ≤ 1048576) : Calls Tryz.prog 10 #[.string S] w fun e w' => NumsOut S w e w' := by
  obtain ⟨i0, hi, hz0, hz1, hz2⟩ := info_parts info2
  have I0 : Hid (Ints (w.alloc (.cells #[] 2)) w.heap.size (.slice (some ⟨w.heap.size, 0, none⟩) 0 0) []) := ⟨World.ownsRow_lit w #[] 0 (Nat.le_refl _) (Nat.zero_le _) (by simp), by intro e; cases e⟩
  obtain ⟨m0, hm0, M0⟩ : ∃ m0 : Bool, (!S.toList.isEmpty) = m0 ∧ Hid (NumsTo S S [] m0) := by
    refine ⟨_, rfl, ?_⟩
    rw [Lib.toList_data]
    cases h : S.data.toList with
    | nil => exact NumsTo.none0 h
    | cons b l => exact NumsTo.start (by rw [h]; simp)
  go_enter Tryz.func10, Tryz.ntmps10
  go_wp2
  go_loopw [0, 4, 5] (fun sv v m wr => ∃ (t : ByteArray) (pre : List Int) (b : Bool), sv = .string t ∧ m = .bool b ∧ t.size ≤ 1048576 ∧ pre.length ≤ 1048577 ∧ Hid ((b = true → pre.length + t.size ≤ S.size) ∧ pre.length ≤ S.size + 1) ∧ Hid (NumsTo S t pre b) ∧ Hid (Ints wr w.heap.size v pre) ∧ Hid (Below w.heap.size w wr)) (fun sv _ m _ => if boolOf m then strOf sv + 1 else 0)
  case atStart => exact ⟨S, [], m0, rfl, rfl, hS, by simp, (⟨fun _ => by simp, by simp⟩ : (m0 = true → [].length + S.size ≤ S.size) ∧ [].length ≤ S.size + 1), M0, I0, (Below.refl _ _).alloc (Nat.le_refl _) _⟩
  case round =>
    obtain ⟨t, pre, b, rfl, rfl, ht, hpre, hL, hN, hI, hB⟩ := hrel
    obtain ⟨g, cap, hv, hg1, hg2⟩ := hI.out.shape
    subst hv
    cases b with
    | false =>
      have FI : Hid (NumsOut S w (.returned (.tuple #[.slice (some ⟨g, 0, none⟩) pre.length cap, .bool true])) wr) := ⟨hB.out, Or.inl ⟨pre, _, (by have := hN.out; unfold NumsTo at this; simpa using this), hL.out.2, rfl, hI.out⟩⟩
      clear hN hI hB hL M0 I0
      generalize pre.length = q at *
      go_wp2
      refine bodyPost_ret (v := .tuple #[.slice (some ⟨g, 0, none⟩) q cap, .bool true]) (by simp [results, Tryz.results10, go_sem]) rfl ?_
      exact FI.out
    | true =>
      go_wp2_with fail
      refine (specCut 32 t wr ht).mono ?_
      rintro e w1 ⟨x, y, b, rfl, hcut, hx, hy, hyb, B1⟩
      have HC : Hid (cutL 32 t.data.toList = (x.data.toList, y.data.toList, b) ∧ (b = true → y.size < t.size)) := ⟨hcut, hyb⟩
      have HB1 : Hid (Below w.heap.size w w1) := hB.out.trans (B1.mono hB.out.size)
      have HI1 : Hid (Ints w1 w.heap.size (.slice (some ⟨g, 0, none⟩) pre.length cap) pre) := hI.out.kept B1
      have hx' : x.size ≤ 1048576 := Nat.le_trans hx ht
      have hy' : y.size ≤ 1048576 := Nat.le_trans hy ht
      clear hcut hyb hB hI B1 hx
      go_wp2_with fail
      refine (specInt x w1 hx').mono ?_
      rintro e w2 ⟨B2, hor⟩
      have HB2 : Hid (Below w.heap.size w w2) := HB1.out.trans (B2.mono HB1.out.size)
      have HI2 : Hid (Ints w2 w.heap.size (.slice (some ⟨g, 0, none⟩) pre.length cap) pre) := HI1.out.kept B2
      have hg3 : g < w2.heap.size := Nat.lt_of_lt_of_le (HI1.out.shape.elim fun g' h => h.elim fun c' h => by obtain ⟨e, _, h⟩ := h; cases e; exact h) B2.size
      clear HB1 HI1 B2
      rcases hor with ⟨n, hn, rfl⟩ | ⟨hn, rfl⟩
      · have HN2 : Hid (NumsTo S y (pre ++ [n]) b) := hN.out.step HC.out.1 hn
        have HL2 : Hid ((b = true → (pre ++ [n]).length + y.size ≤ S.size) ∧ (pre ++ [n]).length ≤ S.size + 1) := by
          show _ ∧ _
          have h1 := hL.out.1 trivial
          refine ⟨fun hb => ?_, by simp; omega⟩
          have := HC.out.2 hb
          simp
          omega
        have hpl : pre.length ≤ 1048576 := by have := hL.out.1 trivial; omega
        have HM : Hid ((if b = true then y.size + 1 else 0) < t.size + 1) := by
          show _ < _
          by_cases hb : b = true
          · rw [if_pos hb]; have := HC.out.2 hb; omega
          · rw [if_neg hb]; omega
        clear hN hn hL HC M0 I0
        go_wp2_with (at_builtin; refine wpList_append_own _ rfl _ _ 33 rfl w.heap.size 2 i0 (.int .i64 0) 1 8 Tryz.underlying33 hi hz0 hz1 hz2 rfl (by decide) _ _ _ rfl (HI2.out.1.alloc _) ⟨_, 0, none⟩ 1 1 [.int .i64 n] rfl rfl ?_ ?_ ?_ ?_ ?_ ?_)
        · intro j u hj
          match j, hj with
          | 0, hj => simp at hj; subst hj; simp [Addr.add, go_sem]
        · intro u hu; simp at hu; subst hu; rfl
        · unfold maxLen; omega
        · omega
        · have := HB2.out.size; simp; omega
        · intro v' w3 hown hgrow hnn
          have I3 : Hid (Ints w3 w.heap.size v' (pre ++ [n])) := ⟨by simpa using hown, hnn⟩
          obtain ⟨g', cap', hv', hg1', hg2'⟩ := I3.out.shape
          subst hv'
          have B3 : Hid (Below w.heap.size w w3) := (HB2.out.alloc HB2.out.size _).grown hgrow (by have := HB2.out.size; simp; omega) (fun k hk => by simp [Value.ownBlock] at hk; omega)
          clear hown hgrow hnn
          go_wp2
          go_roundw
          case rel => exact ⟨y, pre ++ [n], b, rfl, rfl, hy', by simp; omega, HL2, HN2, I3, B3⟩
          case measure => have h := HM.out; revert h; clear HM HN2 HL2 I3 B3; cases b <;> simp [boolOf, strOf]
      · have FI : Hid (NumsOut S w (.returned (.tuple #[.slice none 0 0, .bool false])) w2) := ⟨HB2.out, Or.inr ⟨hN.out.bad HC.out.1 hn, rfl⟩⟩
        clear hN hn hL HC M0 I0 HI2
        go_wp2
        refine bodyPost_ret (v := .tuple #[.slice none 0 0, .bool false]) (by simp [results, Tryz.results10, go_sem]) rfl ?_
        exact FI.out
end Go.Proofs.YtedhlmipcfdldaaGreatDoor
