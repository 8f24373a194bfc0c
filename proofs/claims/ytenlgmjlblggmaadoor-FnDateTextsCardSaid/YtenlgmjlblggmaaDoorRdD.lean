/- ReadDate of the program and of the specification: the same date, or none. Conditions: the table of months as its text lays it. -/
import Derived.Test.YtenlgmjlblggmaaDoorRdW
namespace Go.Proofs.YtenlgmjlblggmaaDoor
open Go.RowKit

def G10 (s : ByteArray) : Prop := s.size = 10 ∧ Good s.data.toList
/-- What ReadDate answers. -/
def ReadIs (s : ByteArray) (w : World) (e : Ending) (w' : World) : Prop := Below w.heap.size w w' ∧
  ((G10 s ∧ e = .returned (.tuple #[.agg #[.int .i64 (valI (s.data.toList.take 4)), .int .i64 (valI ((s.data.toList.drop 5).take 2)), .int .i64 (valI (s.data.toList.drop 8))], .bool true])) ∨
   (¬ G10 s ∧ e = .returned (.tuple #[.agg #[.int .i64 0, .int .i64 0, .int .i64 0], .bool false])))
theorem read_no {s : ByteArray} {w w' : World} (h : ¬ G10 s) (hb : Below w.heap.size w w') : ReadIs s w (.returned (.tuple #[.agg #[.int .i64 0, .int .i64 0, .int .i64 0], .bool false])) w' := ⟨hb, Or.inr ⟨h, rfl⟩⟩

theorem twoBoxes {w w1 : World} {r1 r2 r3 : Int} (B1 : Below (((w.alloc (.cells #[.int .i64 0, .int .i64 0, .int .i64 0] 25)).alloc (.cells #[.int .i64 r1, .int .i64 r2, .int .i64 r3] 25)).drew).heap.size ((w.alloc (.cells #[.int .i64 0, .int .i64 0, .int .i64 0] 25)).alloc (.cells #[.int .i64 r1, .int .i64 r2, .int .i64 r3] 25)).drew w1) :
    Below w.heap.size w w1 ∧ w1.cell? ⟨w.heap.size, 0, none⟩ = some (.int .i64 0) ∧ w1.cell? ⟨w.heap.size, 1, none⟩ = some (.int .i64 0) ∧ w1.cell? ⟨w.heap.size, 2, none⟩ = some (.int .i64 0) ∧ (∀ o, w1.frozen? ⟨w.heap.size, o, none⟩ = false) ∧
    w1.cell? ⟨w.heap.size + 1, 0, none⟩ = some (.int .i64 r1) ∧ w1.cell? ⟨w.heap.size + 1, 1, none⟩ = some (.int .i64 r2) ∧ w1.cell? ⟨w.heap.size + 1, 2, none⟩ = some (.int .i64 r3) := by
  obtain ⟨W, hW⟩ : ∃ W, W = (w.alloc (.cells #[.int .i64 0, .int .i64 0, .int .i64 0] 25)).alloc (.cells #[.int .i64 r1, .int .i64 r2, .int .i64 r3] 25) := ⟨_, rfl⟩
  rw [← hW] at B1
  have hsz : W.heap.size = w.heap.size + 2 := by rw [hW]; simp
  have BW : Below w.heap.size w W := by rw [hW]; exact ((Below.refl _ w).alloc (Nat.le_refl _) _).alloc (by simp) _
  have B2 : Below W.heap.size W w1 := ⟨B1.os, B1.tape, B1.output, B1.size, B1.block⟩
  have c : ∀ b o, b < w.heap.size + 2 → w1.cell? ⟨b, o, none⟩ = W.cell? ⟨b, o, none⟩ := fun b o hb => B2.cell (p := ⟨b, o, none⟩) (by rw [hsz]; exact hb)
  have f : ∀ o, w1.frozen? ⟨w.heap.size, o, none⟩ = W.frozen? ⟨w.heap.size, o, none⟩ := fun o => B2.frozen (p := ⟨w.heap.size, o, none⟩) (by rw [hsz]; show w.heap.size < w.heap.size + 2; omega)
  refine ⟨BW.trans (B2.mono (by omega)), ?_, ?_, ?_, fun o => ?_, ?_, ?_, ?_⟩
  · rw [c _ _ (by omega), hW]; simp [go_sem]
  · rw [c _ _ (by omega), hW]; simp [go_sem]
  · rw [c _ _ (by omega), hW]; simp [go_sem]
  · rw [f, hW]; simp [go_sem]
  · rw [c _ _ (by omega), hW]; simp [go_sem]
  · rw [c _ _ (by omega), hW]; simp [go_sem]
  · rw [c _ _ (by omega), hW]; simp [go_sem]
set_option maxHeartbeats 4000000 in
theorem implRead (s : ByteArray) (w : World) (_hs : s.size ≤ 1048576) (ht : Tab w) : Calls Tryd.prog 10 #[.string s] w fun e w' => ReadIs s w e w' := by
  have HT : Hid (Tab w) := ht
  clear ht
  by_cases h10 : s.size = 10
  · have hl10 : s.data.toList.length = 10 := by simp; exact h10
    have i4 : (4 : Int) < (s.size : Int) := by omega
    have i7 : (7 : Int) < (s.size : Int) := by omega
    have j4 : 4 < s.size := by omega
    have j7 : 7 < s.size := by omega
    have q10 : (((s.size : Nat) : Int) != 10) = false := by rw [h10]; rfl
    by_cases c4 : s[4].toNat = 45
    · have q4 : ((s[4].toNat : Int) != 45) = false := by rw [c4]; rfl
      by_cases c7 : s[7].toNat = 45
      · have q7 : ((s[7].toNat : Int) != 45) = false := by rw [c7]; rfl
        have x1 : (s.extract 0 4).data.toList = s.data.toList.take 4 := by rw [extLD]; rfl
        have x2 : (s.extract 5 7).data.toList = (s.data.toList.drop 5).take 2 := extLD s 5 7
        have x3 : (s.extract 8 10).data.toList = s.data.toList.drop 8 := by rw [extLD]; exact List.take_of_length_le (by rw [List.length_drop]; omega)
        obtain ⟨A1, hA1⟩ : ∃ A, s.extract 0 4 = A := ⟨_, rfl⟩
        obtain ⟨A2, hA2⟩ : ∃ A, s.extract 5 7 = A := ⟨_, rfl⟩
        obtain ⟨A3, hA3⟩ : ∃ A, s.extract 8 10 = A := ⟨_, rfl⟩
        have z1 : A1.size ≤ 4 := by rw [← hA1, ByteArray.size_extract]; omega
        have z2 : A2.size ≤ 4 := by rw [← hA2, ByteArray.size_extract]; omega
        have z3 : A3.size ≤ 4 := by rw [← hA3, ByteArray.size_extract]; omega
        rw [hA1] at x1
        rw [hA2] at x2
        rw [hA3] at x3
        have NN : Hid (∀ x : ByteArray, x.size ≤ 4 → ∀ w, Calls Tryd.prog 20 #[.string x] w fun e w' => e = .returned (.int .i64 (dv x.data.toList)) ∧ w' = w) := fun x hx w => implNum x w hx
        have y1 : dv A1.data.toList = dv (s.data.toList.take 4) := by rw [x1]
        have y2 : dv A2.data.toList = dv ((s.data.toList.drop 5).take 2) := by rw [x2]
        have y3 : dv A3.data.toList = dv (s.data.toList.drop 8) := by rw [x3]
        have Z : Hid (A1.size ≤ 4 ∧ A2.size ≤ 4 ∧ A3.size ≤ 4) := ⟨z1, z2, z3⟩
        have hg4 : s.data.toList[4]? = some 45 := by
          rw [List.getElem?_eq_getElem (by omega)]
          have e : s.data.toList[4]'(by omega) = s[4] := by simp; rfl
          rw [e]
          exact congrArg some (UInt8.toNat_inj.1 c4)
        have hg7 : s.data.toList[7]? = some 45 := by
          rw [List.getElem?_eq_getElem (by omega)]
          have e : s.data.toList[7]'(by omega) = s[7] := by simp; rfl
          rw [e]
          exact congrArg some (UInt8.toNat_inj.1 c7)
        have HG : Hid ((dateB (dv (s.data.toList.take 4)) (dv ((s.data.toList.drop 5).take 2)) (dv (s.data.toList.drop 8)) = true → G10 s ∧ dv (s.data.toList.take 4) = valI (s.data.toList.take 4) ∧ dv ((s.data.toList.drop 5).take 2) = valI ((s.data.toList.drop 5).take 2) ∧ dv (s.data.toList.drop 8) = valI (s.data.toList.drop 8)) ∧ (dateB (dv (s.data.toList.take 4)) (dv ((s.data.toList.drop 5).take 2)) (dv (s.data.toList.drop 8)) = false → ¬ G10 s)) := by
          constructor
          · intro hb
            have hb' := dateB_iff.1 hb
            have e1 : Digs (s.data.toList.take 4) := by
              by_cases hh : Digs (s.data.toList.take 4)
              · exact hh
              · have : dv (s.data.toList.take 4) = -1 := if_neg hh
                omega
            have e2 : Digs ((s.data.toList.drop 5).take 2) := by
              by_cases hh : Digs ((s.data.toList.drop 5).take 2)
              · exact hh
              · have : dv ((s.data.toList.drop 5).take 2) = -1 := if_neg hh
                omega
            have e3 : Digs (s.data.toList.drop 8) := by
              by_cases hh : Digs (s.data.toList.drop 8)
              · exact hh
              · have : dv (s.data.toList.drop 8) = -1 := if_neg hh
                omega
            have d1 : dv (s.data.toList.take 4) = valI (s.data.toList.take 4) := if_pos e1
            have d2 : dv ((s.data.toList.drop 5).take 2) = valI ((s.data.toList.drop 5).take 2) := if_pos e2
            have d3 : dv (s.data.toList.drop 8) = valI (s.data.toList.drop 8) := if_pos e3
            rw [d1, d2, d3] at hb
            exact ⟨⟨h10, hg4, hg7, e1, e2, e3, hb⟩, d1, d2, d3⟩
          · intro hb hg
            obtain ⟨_, _, _, e1, e2, e3, hh⟩ := hg
            have d1 : dv (s.data.toList.take 4) = valI (s.data.toList.take 4) := if_pos e1
            have d2 : dv ((s.data.toList.drop 5).take 2) = valI ((s.data.toList.drop 5).take 2) := if_pos e2
            have d3 : dv (s.data.toList.drop 8) = valI (s.data.toList.drop 8) := if_pos e3
            rw [d1, d2, d3, hh] at hb
            cases hb
        clear x1 x2 x3 hg4 hg7 z1 z2 z3
        generalize dv (s.data.toList.take 4) = r1 at *
        generalize dv ((s.data.toList.drop 5).take 2) = r2 at *
        generalize dv (s.data.toList.drop 8) = r3 at *
        go_enter Tryd.func10, Tryd.ntmps10
        go_wp2
        go_region_with (first | (go_at_call 20; refine (NN.out _ (by first | exact Z.out.1 | exact Z.out.2.1 | exact Z.out.2.2) _).mono ?_; rintro e w' ⟨rfl, rfl⟩))
        all_goals go_wp2_with fail
        all_goals refine (implDateOk r1 r2 r3 _ (((HT.out.alloc _).alloc _).drew)).mono ?_
        all_goals rintro e w1 ⟨rfl, B1⟩
        all_goals obtain ⟨BB, k0, k1, k2, kf, l0, l1, l2⟩ := twoBoxes B1
        all_goals have BX : Hid (Below w.heap.size w w1) := BB
        all_goals clear B1 BB
        all_goals cases hbb : dateB r1 r2 r3
        all_goals go_wp2
        all_goals first
          | (refine bodyPost_ret (v := .tuple #[.agg #[.int .i64 0, .int .i64 0, .int .i64 0], .bool false]) (by simp [results, Tryd.results10, go_sem, k0, k1, k2]) rfl ?_
             exact read_no (HG.out.2 hbb) (((BX.out.setCell (p := ⟨w.heap.size, 0, none⟩) (Nat.le_refl _) _).setCell (p := ⟨w.heap.size, 1, none⟩) (Nat.le_refl _) _).setCell (p := ⟨w.heap.size, 2, none⟩) (Nat.le_refl _) _))
          | (refine bodyPost_ret (v := .tuple #[.agg #[.int .i64 r1, .int .i64 r2, .int .i64 r3], .bool true]) (by simp [results, Tryd.results10, go_sem, k0, k1, k2]) rfl ?_
             obtain ⟨hgg, e1, e2, e3⟩ := HG.out.1 hbb
             refine ⟨((BX.out.setCell (p := ⟨w.heap.size, 0, none⟩) (Nat.le_refl _) _).setCell (p := ⟨w.heap.size, 1, none⟩) (Nat.le_refl _) _).setCell (p := ⟨w.heap.size, 2, none⟩) (Nat.le_refl _) _, Or.inl ⟨hgg, ?_⟩⟩
             rw [e1, e2, e3])
          | trace_state
      · have q7 : ((s[7].toNat : Int) != 45) = true := by simp; omega
        have HN : Hid (¬ G10 s) := fun hg => by
          have := hg.2.2.1
          rw [List.getElem?_eq_getElem (by omega)] at this
          have e : s.data.toList[7]'(by omega) = s[7] := by simp; rfl
          rw [e] at this
          simp at this
          exact c7 (by rw [this]; rfl)
        go_enter Tryd.func10, Tryd.ntmps10
        go_wp2
        refine bodyPost_ret (v := .tuple #[.agg #[.int .i64 0, .int .i64 0, .int .i64 0], .bool false]) (by simp [results, Tryd.results10, go_sem]) rfl ?_
        exact read_no HN.out ((Below.refl _ _).alloc (Nat.le_refl _) _)
    · have q4 : ((s[4].toNat : Int) != 45) = true := by simp; omega
      have HN : Hid (¬ G10 s) := fun hg => by
        have := hg.2.1
        rw [List.getElem?_eq_getElem (by omega)] at this
        have e : s.data.toList[4]'(by omega) = s[4] := by simp; rfl
        rw [e] at this
        simp at this
        exact c4 (by rw [this]; rfl)
      go_enter Tryd.func10, Tryd.ntmps10
      go_wp2
      refine bodyPost_ret (v := .tuple #[.agg #[.int .i64 0, .int .i64 0, .int .i64 0], .bool false]) (by simp [results, Tryd.results10, go_sem]) rfl ?_
      exact read_no HN.out ((Below.refl _ _).alloc (Nat.le_refl _) _)
  · have q10 : (((s.size : Nat) : Int) != 10) = true := by simp; omega
    have HN : Hid (¬ G10 s) := fun hg => h10 hg.1
    go_enter Tryd.func10, Tryd.ntmps10
    go_wp2
    refine bodyPost_ret (v := .tuple #[.agg #[.int .i64 0, .int .i64 0, .int .i64 0], .bool false]) (by simp [results, Tryd.results10, go_sem]) rfl ?_
    exact read_no HN.out ((Below.refl _ _).alloc (Nat.le_refl _) _)
end Go.Proofs.YtenlgmjlblggmaaDoor
