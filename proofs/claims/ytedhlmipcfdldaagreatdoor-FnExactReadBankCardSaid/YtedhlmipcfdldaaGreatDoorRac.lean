/- The reader of an account. Conditions: as of the reader. -/
import Derived.Test.YtedhlmipcfdldaaGreatDoorRao
import Derived.Deep.RegionHeld3
namespace Go.Proofs.YtedhlmipcfdldaaGreatDoor
open Go.RowKit Go.Shelf
set_option maxRecDepth 8000

def AccO (w : World) (p : Nat) (s : ByteArray) (e : Ending) (w' : World) : Prop := Stp p w w' ∧ ((∃ (a : Acc) (t : ByteArray), readLine wAcc.data.toList 8 s.data.toList = some (acN a, t.data.toList) ∧ e = .returned (.agg (accCells a).toArray) ∧ Rst w' p t ∧ Glo w') ∨ ((∀ a t, readLine wAcc.data.toList 8 s.data.toList ≠ some (acN a, t)) ∧ Pan e))
theorem ints8 {ns : List Int} (h : ns.length = 8) : ∃ a b c d e f g i, ns = [a, b, c, d, e, f, g, i] := by
  match ns, h with
  | [a, b, c, d, e, f, g, i], _ => exact ⟨a, b, c, d, e, f, g, i, rfl⟩
def z8 : List Value := [.int .i64 0, .int .i64 0, .int .i64 0, .int .i64 0, .int .i64 0, .bool false, .int .i64 0, .int .i64 0]
/-- The places of an account's numbers. -/
def TA (A Q : Nat) (i : Nat) : Nat × Nat := ([(A, 0), (A, 1), (A, 2), (A, 3), (A, 4), (Q, 0), (A, 6), (A, 7)] : List (Nat × Nat)).getD i (0, 0)
theorem case8 {i : Nat} (h : i < 8) : i = 0 ∨ i = 1 ∨ i = 2 ∨ i = 3 ∨ i = 4 ∨ i = 5 ∨ i = 6 ∨ i = 7 := by omega
theorem TA_inj {A Q : Nat} (h : A ≠ Q) : ∀ i j, i < 8 → j < 8 → TA A Q i = TA A Q j → i = j := by
  intro i j hi hj e
  rcases case8 hi with rfl | rfl | rfl | rfl | rfl | rfl | rfl | rfl <;> rcases case8 hj with rfl | rfl | rfl | rfl | rfl | rfl | rfl | rfl <;> first | rfl | (exfalso; simp [TA] at e; omega) | (exfalso; simp [TA] at e)
theorem TA_blk (A Q : Nat) (i : Nat) (hi : i < 8) : (TA A Q i).1 = A ∨ (TA A Q i).1 = Q := by
  rcases case8 hi with rfl | rfl | rfl | rfl | rfl | rfl | rfl | rfl <;> simp [TA]
theorem Stp.drewd {B : Nat} {a w : World} (h : Stp B a w) : Stp B a w.drew := ⟨h.os, h.tape, h.output, h.size, h.block⟩
theorem Rst.drewd {w : World} {p : Nat} {s : ByteArray} (h : Rst w p s) : Rst w.drew p s := h
theorem Glo.drewd {w : World} (h : Glo w) : Glo w.drew := h.below ((Below.refl _ _).drew)
/-- What lies beside the places. -/
def XA (H : Nat) (w : World) : Prop := Vals w H z8 ∧ w.cell? ⟨H + 1, 5, none⟩ = some (.bool false) ∧ w.frozen? ⟨H + 1, 5, none⟩ = false ∧ H + 1 < w.heap.size
set_option maxHeartbeats 4000000 in
theorem accountL (p : Nat) (s : ByteArray) (w : World) (h : Rst w p s) (g : Glo w) : Calls Tryz.prog 28 #[.pointer (some ⟨p, 0, none⟩)] w fun e w' => AccO w p s e w' := by
  obtain ⟨H, hh⟩ : ∃ H, w.heap.size = H := ⟨_, rfl⟩
  have HH : Hid (w.heap.size = H) := hh
  have hpH : p < H := by rw [← hh]; exact h.2.2.2.1
  have h7 : 7 ≤ p := h.2.2.1
  obtain ⟨W0, hW0, X0⟩ : ∃ W0, W0 = ((w.alloc (.cells #[.int .i64 0, .int .i64 0, .int .i64 0, .int .i64 0, .int .i64 0, .bool false, .int .i64 0, .int .i64 0] 37)).alloc (.cells #[.int .i64 0, .int .i64 0, .int .i64 0, .int .i64 0, .int .i64 0, .bool false, .int .i64 0, .int .i64 0] 37)).alloc (.cells #[.int .i64 0] 2) ∧ Hid (Vals W0 H z8 ∧ Vals W0 (H + 1) z8 ∧ Vals W0 (H + 1 + 1) [.int .i64 0] ∧ Stp p w W0 ∧ Rst W0 p s ∧ Glo W0) := by
    have b1 : ∀ (V : World) (o : Obj), Below V.heap.size V (V.alloc o) := fun V o => (Below.refl _ _).alloc (Nat.le_refl _) _
    have v0 := ((Vals.new w z8 37).kept (b1 _ (.cells #[.int .i64 0, .int .i64 0, .int .i64 0, .int .i64 0, .int .i64 0, .bool false, .int .i64 0, .int .i64 0] 37)) (by simp)).kept (b1 _ (.cells #[.int .i64 0] 2)) (by simp; omega)
    have v1 := (Vals.new (w.alloc (.cells #[.int .i64 0, .int .i64 0, .int .i64 0, .int .i64 0, .int .i64 0, .bool false, .int .i64 0, .int .i64 0] 37)) z8 37).kept (b1 _ (.cells #[.int .i64 0] 2)) (by simp)
    have v2 := Vals.new ((w.alloc (.cells #[.int .i64 0, .int .i64 0, .int .i64 0, .int .i64 0, .int .i64 0, .bool false, .int .i64 0, .int .i64 0] 37)).alloc (.cells #[.int .i64 0, .int .i64 0, .int .i64 0, .int .i64 0, .int .i64 0, .bool false, .int .i64 0, .int .i64 0] 37)) [.int .i64 0] 2
    simp only [World.size_alloc] at v0 v1 v2
    rw [hh] at v0 v1 v2
    have bb : Below w.heap.size w (((w.alloc (.cells #[.int .i64 0, .int .i64 0, .int .i64 0, .int .i64 0, .int .i64 0, .bool false, .int .i64 0, .int .i64 0] 37)).alloc (.cells #[.int .i64 0, .int .i64 0, .int .i64 0, .int .i64 0, .int .i64 0, .bool false, .int .i64 0, .int .i64 0] 37)).alloc (.cells #[.int .i64 0] 2)) := (((Below.refl _ _).alloc (Nat.le_refl _) _).alloc (by simp) _).alloc (by simp; omega) _
    exact ⟨_, rfl, v0, v1, v2, Stp.ofBelow bb, h.below bb, g.below bb⟩
  have HW0 : Hid (W0 = _) := hW0
  clear hW0 h g
  go_enter Tryz.func28, Tryz.ntmps28
  go_wp2_with fail
  rw [← HW0.out]
  clear HW0 hh
  refine (accPts (H + 1) (H + 1 + 1) W0).mono ?_
  rintro e w1 ⟨b, c, rfl, hb1, hb2, hbc, B1⟩
  have hHW : H + 1 + 1 < W0.heap.size := X0.out.2.2.1.2.2
  have X1 : Hid (Vals w1 H z8 ∧ Vals w1 (H + 1) z8 ∧ Vals w1 (H + 1 + 1) [.int .i64 0] ∧ Stp p w w1 ∧ Rst w1 p s ∧ Glo w1) := ⟨X0.out.1.kept B1 X0.out.1.2.2, X0.out.2.1.kept B1 X0.out.2.1.2.2, X0.out.2.2.1.kept B1 hHW, X0.out.2.2.2.1.trans (Stp.ofBelow B1), X0.out.2.2.2.2.1.below B1, X0.out.2.2.2.2.2.below B1⟩
  have PL : Hid (Plc p H (some ⟨b, 0, none⟩) 8 (TA (H + 1) (H + 1 + 1)) (QT (TA (H + 1) (H + 1 + 1)) 8 b (XA H))) := plcQT (TA_inj (by omega)) (fun i hi => by rcases TA_blk (H + 1) (H + 1 + 1) i hi with e | e <;> rw [e] <;> omega) hpH (by omega)
    (fun w w' hx hs => ⟨hx.1.stp hs (by omega), (hs.cell (p := ⟨H + 1, 5, none⟩) hx.2.2.2 (by show H + 1 ≠ p; omega)).trans hx.2.1, (hs.frozen (p := ⟨H + 1, 5, none⟩) hx.2.2.2 (by show H + 1 ≠ p; omega)).trans hx.2.2.1, Nat.lt_of_lt_of_le hx.2.2.2 hs.size⟩)
    (fun w i m hi hx => ⟨hx.1.far (by rcases TA_blk (H + 1) (H + 1 + 1) i hi with e | e <;> rw [e] <;> omega) _ _, (World.cell?_setCell_other _ _ _ _ (by
      intro e
      have e1 := congrArg Addr.block e
      have e2 := congrArg Addr.off e
      rcases case8 hi with rfl | rfl | rfl | rfl | rfl | rfl | rfl | rfl <;> simp [TA] at e1 e2)).trans hx.2.1, by rw [World.frozen?_setCell]; exact hx.2.2.1, by simpa [World.setCell] using hx.2.2.2⟩)
  have Q1 : Hid (QT (TA (H + 1) (H + 1 + 1)) 8 b (XA H) [] w1) := by
    refine ⟨hb2, fun i hi => ?_, fun i hi => ?_, X1.out.1, X1.out.2.1.1 5 _ rfl, X1.out.2.1.2.1 5, X1.out.2.1.2.2⟩
    · exact hbc i hi
    · rcases case8 hi with rfl | rfl | rfl | rfl | rfl | rfl | rfl | rfl
      · exact ⟨X1.out.2.1.1 0 _ rfl, X1.out.2.1.2.1 0, X1.out.2.1.2.2⟩
      · exact ⟨X1.out.2.1.1 1 _ rfl, X1.out.2.1.2.1 1, X1.out.2.1.2.2⟩
      · exact ⟨X1.out.2.1.1 2 _ rfl, X1.out.2.1.2.1 2, X1.out.2.1.2.2⟩
      · exact ⟨X1.out.2.1.1 3 _ rfl, X1.out.2.1.2.1 3, X1.out.2.1.2.2⟩
      · exact ⟨X1.out.2.1.1 4 _ rfl, X1.out.2.1.2.1 4, X1.out.2.1.2.2⟩
      · exact ⟨X1.out.2.2.1.1 0 _ rfl, X1.out.2.2.1.2.1 0, X1.out.2.2.1.2.2⟩
      · exact ⟨X1.out.2.1.1 6 _ rfl, X1.out.2.1.2.1 6, X1.out.2.1.2.2⟩
      · exact ⟨X1.out.2.1.1 7 _ rfl, X1.out.2.1.2.1 7, X1.out.2.1.2.2⟩
  clear hbc B1 X0 hb1 hb2
  go_wp2_with fail
  refine (lineG p H (some ⟨b, 0, none⟩) 8 c s ⟨#[97, 99, 99, 111, 117, 110, 116]⟩ _ _ w1 X1.out.2.2.2.2.1 X1.out.2.2.2.2.2 PL.out Q1.out hpH (by omega)).mono ?_
  rintro e w2 ⟨S2, hor⟩
  rcases hor with ⟨ns, t, hns, rfl, R2, G2, Q2⟩ | ⟨hns, t9, p9, rfl⟩
  rotate_left
  · exact ⟨rfl, Stn.stp X1.out.2.2.2.1 S2 (by rw [HH.out]; exact Nat.le_refl _), Or.inr ⟨fun a t e => (by
      have e' : readLine (⟨#[97, 99, 99, 111, 117, 110, 116]⟩ : ByteArray).data.toList 8 s.data.toList = some (acN a, t) := e
      rw [hns] at e'; cases e'), t9, p9, rfl⟩⟩
  obtain ⟨n0, n1, n2, n3, n4, n5, n6, n7, rfl⟩ := ints8 (readLine_is hns).2.1
  have hns' : readLine wAcc.data.toList 8 s.data.toList = some ([n0, n1, n2, n3, n4, n5, n6, n7], t.data.toList) := hns
  have X2 : Hid (Stp p w w2 ∧ Rst w2 p t ∧ Glo w2 ∧ readLine wAcc.data.toList 8 s.data.toList = some ([n0, n1, n2, n3, n4, n5, n6, n7], t.data.toList) ∧ Vals w2 H z8) := ⟨Stn.stp X1.out.2.2.2.1 S2 (by rw [HH.out]; exact Nat.le_refl _), R2, G2, hns', Q2.2.2.2.1⟩
  have c0 : w2.cell? ⟨H + 1, 0, none⟩ = some (.int .i64 n0) := (Q2.2.2.1 0 (by omega)).1
  have c1 : w2.cell? ⟨H + 1, 1, none⟩ = some (.int .i64 n1) := (Q2.2.2.1 1 (by omega)).1
  have c2 : w2.cell? ⟨H + 1, 2, none⟩ = some (.int .i64 n2) := (Q2.2.2.1 2 (by omega)).1
  have c3 : w2.cell? ⟨H + 1, 3, none⟩ = some (.int .i64 n3) := (Q2.2.2.1 3 (by omega)).1
  have c4 : w2.cell? ⟨H + 1, 4, none⟩ = some (.int .i64 n4) := (Q2.2.2.1 4 (by omega)).1
  have d5 : w2.cell? ⟨H + 1 + 1, 0, none⟩ = some (.int .i64 n5) := (Q2.2.2.1 5 (by omega)).1
  have c5 := Q2.2.2.2.2.1
  have f5 := Q2.2.2.2.2.2.1
  have c6 : w2.cell? ⟨H + 1, 6, none⟩ = some (.int .i64 n6) := (Q2.2.2.1 6 (by omega)).1
  have c7 : w2.cell? ⟨H + 1, 7, none⟩ = some (.int .i64 n7) := (Q2.2.2.1 7 (by omega)).1
  have r0 := X2.out.2.2.2.2.1 0 _ rfl
  have r1 := X2.out.2.2.2.2.1 1 _ rfl
  have r2 := X2.out.2.2.2.2.1 2 _ rfl
  have r3 := X2.out.2.2.2.2.1 3 _ rfl
  have r4 := X2.out.2.2.2.2.1 4 _ rfl
  have r5 := X2.out.2.2.2.2.1 5 _ rfl
  have r6 := X2.out.2.2.2.2.1 6 _ rfl
  have r7 := X2.out.2.2.2.2.1 7 _ rfl
  obtain ⟨bb, hbb⟩ : ∃ bb, (n5 == 1) = bb := ⟨_, rfl⟩
  have FY : Hid (flagZ bb = n5 → AccO w p s (.returned (.agg (accCells ⟨n0, n1, n2, n3, n4, bb, n6, n7⟩).toArray)) ((((((((((w2.setCell ⟨H + 1, 5, none⟩ (.bool bb)).setCell ⟨H, 0, none⟩ (.int .i64 n0)).setCell ⟨H, 1, none⟩ (.int .i64 n1)).setCell ⟨H, 2, none⟩ (.int .i64 n2)).setCell ⟨H, 3, none⟩ (.int .i64 n3)).setCell ⟨H, 4, none⟩ (.int .i64 n4)).setCell ⟨H, 5, none⟩ (.bool bb)).setCell ⟨H, 6, none⟩ (.int .i64 n6)).setCell ⟨H, 7, none⟩ (.int .i64 n7)).drew)) := fun hf => ⟨(((((((((X2.out.1.setNew (p := ⟨H + 1, 5, none⟩) (by show w.heap.size ≤ H + 1; rw [HH.out]; omega) (.bool bb)).setNew (p := ⟨H, 0, none⟩) (by show w.heap.size ≤ H; rw [HH.out]; exact Nat.le_refl _) (.int .i64 n0)).setNew (p := ⟨H, 1, none⟩) (by show w.heap.size ≤ H; rw [HH.out]; exact Nat.le_refl _) (.int .i64 n1)).setNew (p := ⟨H, 2, none⟩) (by show w.heap.size ≤ H; rw [HH.out]; exact Nat.le_refl _) (.int .i64 n2)).setNew (p := ⟨H, 3, none⟩) (by show w.heap.size ≤ H; rw [HH.out]; exact Nat.le_refl _) (.int .i64 n3)).setNew (p := ⟨H, 4, none⟩) (by show w.heap.size ≤ H; rw [HH.out]; exact Nat.le_refl _) (.int .i64 n4)).setNew (p := ⟨H, 5, none⟩) (by show w.heap.size ≤ H; rw [HH.out]; exact Nat.le_refl _) (.bool bb)).setNew (p := ⟨H, 6, none⟩) (by show w.heap.size ≤ H; rw [HH.out]; exact Nat.le_refl _) (.int .i64 n6)).setNew (p := ⟨H, 7, none⟩) (by show w.heap.size ≤ H; rw [HH.out]; exact Nat.le_refl _) (.int .i64 n7)).drewd, Or.inl ⟨⟨n0, n1, n2, n3, n4, bb, n6, n7⟩, t, by rw [X2.out.2.2.2.1]; simp [acN, hf], rfl, Rst.drewd (((((((((X2.out.2.1.far (by omega) 5 (.bool bb)).far (by omega) 0 (.int .i64 n0)).far (by omega) 1 (.int .i64 n1)).far (by omega) 2 (.int .i64 n2)).far (by omega) 3 (.int .i64 n3)).far (by omega) 4 (.int .i64 n4)).far (by omega) 5 (.bool bb)).far (by omega) 6 (.int .i64 n6)).far (by omega) 7 (.int .i64 n7)), Glo.drewd (((((((((X2.out.2.2.1.far (by omega) 5 (.bool bb)).far (by omega) 0 (.int .i64 n0)).far (by omega) 1 (.int .i64 n1)).far (by omega) 2 (.int .i64 n2)).far (by omega) 3 (.int .i64 n3)).far (by omega) 4 (.int .i64 n4)).far (by omega) 5 (.bool bb)).far (by omega) 6 (.int .i64 n6)).far (by omega) 7 (.int .i64 n7))⟩⟩
  have FN : Hid (flagZ bb ≠ n5 → ∀ e W, Stp p (w2.setCell ⟨H + 1, 5, none⟩ (.bool bb)) W → Pan e → AccO w p s e W) := fun hf e W hs hp => ⟨(X2.out.1.setNew (p := ⟨H + 1, 5, none⟩) (by show w.heap.size ≤ H + 1; rw [HH.out]; omega) (.bool bb)).trans hs, Or.inr ⟨fun a t' ee => by
    rw [X2.out.2.2.2.1] at ee
    have e1 := congrArg Prod.fst (Option.some.inj ee)
    simp only [acN, List.cons.injEq] at e1
    have e5 : n5 = flagZ a.frozen := e1.2.2.2.2.2.1
    refine hf ?_
    rw [← hbb, e5]
    cases a.frozen <;> rfl, hp⟩⟩
  have G3 : Hid (Glo ((w2.setCell ⟨H + 1, 5, none⟩ (.bool bb)).drew)) := Glo.drewd (X2.out.2.2.1.far (by omega) 5 (.bool bb))
  have fz := X2.out.2.2.2.2.2.1
  have nh : ¬ H = H + 1 := by omega
  have nh2 : ¬ H + 1 + 1 = H + 1 := by omega
  clear S2 R2 G2 Q2 hns hns' PL Q1 X1
  obtain ⟨V3, hV3, x5, xd⟩ : ∃ V3, V3 = w2.setCell ⟨H + 1, 5, none⟩ (.bool bb) ∧ V3.drew.cell? ⟨H + 1, 5, none⟩ = some (.bool bb) ∧ V3.drew.cell? ⟨H + 1 + 1, 0, none⟩ = some (.int .i64 n5) := ⟨_, rfl, World.cell?_setCell_same _ _ _ (by rw [c5]), (World.cell?_setCell_other _ _ _ _ (by intro e; have := congrArg Addr.block e; simp at this)).trans d5⟩
  have HV3 : Hid (V3 = w2.setCell ⟨H + 1, 5, none⟩ (.bool bb)) := hV3
  clear hV3
  go_upto_region 5 with fail
  rw [← HV3.out]
  clear hbb d5 f5
  by_cases hf : flagZ bb = n5
  · have hfe : ((flagZ bb : Int) == n5) = true := beq_iff_eq.2 hf
    have FI : Hid (AccO w p s (.returned (.agg (accCells ⟨n0, n1, n2, n3, n4, bb, n6, n7⟩).toArray)) ((((((((((w2.setCell ⟨H + 1, 5, none⟩ (.bool bb)).setCell ⟨H, 0, none⟩ (.int .i64 n0)).setCell ⟨H, 1, none⟩ (.int .i64 n1)).setCell ⟨H, 2, none⟩ (.int .i64 n2)).setCell ⟨H, 3, none⟩ (.int .i64 n3)).setCell ⟨H, 4, none⟩ (.int .i64 n4)).setCell ⟨H, 5, none⟩ (.bool bb)).setCell ⟨H, 6, none⟩ (.int .i64 n6)).setCell ⟨H, 7, none⟩ (.int .i64 n7)).drew)) := FY.out hf
    clear FY FN X2 hf
    go_cut [2] (fun s2 wx => s2 = .pointer (some ⟨H, 0, none⟩) ∧ wx = V3.drew)
    case first =>
      go_region_with (first | (go_at_call 44; refine (implFlag bb _).mono ?_; rintro e u1 ⟨rfl, hu1⟩; subst u1) | (go_at_call 24; refine (want_yes _ _).mono ?_; rintro e u2 ⟨rfl, hu2⟩; subst u2))
      all_goals (go_wp2_with fail; go_meet; exact ⟨rfl, rfl⟩)
    obtain ⟨rfl, hwc⟩ := hcut
    rw [HV3.out] at hwc
    subst hwc
    clear HV3 x5 xd V3 hfe
    go_wp2
    refine bodyPost_ret (v := .agg #[.int .i64 n0, .int .i64 n1, .int .i64 n2, .int .i64 n3, .int .i64 n4, .bool bb, .int .i64 n6, .int .i64 n7]) (by simp [results, Tryz.results28, go_sem, r0, r1, r2, r3, r4, r5, r6, r7]) rfl ?_
    exact FI.out
  · have hfe : ((flagZ bb : Int) == n5) = false := beq_eq_false_iff_ne.2 hf
    have FI : Hid (∀ e, Pan e → AccO w p s e V3.drew) := fun e hp => FN.out hf e _ (by rw [HV3.out]; exact (Stp.refl _ _).drewd) hp
    rw [← HV3.out] at G3
    clear FY FN X2 hf
    have SS : V3.drew.cell? ⟨H + 1, 5, none⟩ = some (.bool bb) ∧ V3.drew.cell? ⟨H + 1 + 1, 0, none⟩ = some (.int .i64 n5) := ⟨x5, xd⟩
    refine wp_region_held_drew (S := fun V => V.cell? ⟨H + 1, 5, none⟩ = some (.bool bb) ∧ V.cell? ⟨H + 1 + 1, 0, none⟩ = some (.int .i64 n5)) (by kernel_rfl) SS (fun hHeld => ?_)
    refine wpAnyH_take (i := 0) (oi := { dst := some 11, op := Op.move (Operand.tmp 0), type := 44, pos := "l06_texts.go:167", after := #[], guard := none }) (v := ?_) rfl (by kernel_rfl) (by kernel_rfl) (by kernel_rfl) (fun _ _ _ h => h) (Or.inl ⟨by rfl, ?_⟩) (by assumption) ?_
    rotate_left
    · intro wq hSw
      (try dsimp only at hSw)
      go_simp
      all_goals (with_reducible rfl)
    (try simp only [Act.put, List.setIfInBounds_toArray, List.set_cons_zero, List.set_cons_succ])
    refine wpAnyH_take (i := 1) (oi := { dst := some 12, op := Op.fieldAddr 37 (Operand.tmp 3) 5, type := 0, pos := "l06_texts.go:167", after := #[], guard := none }) (v := ?_) rfl (by kernel_rfl) (by kernel_rfl) (by kernel_rfl) (fun _ _ _ h => h) (Or.inl ⟨by rfl, ?_⟩) (by assumption) ?_
    rotate_left
    · intro wq hSw
      (try dsimp only at hSw)
      go_simp
      all_goals (with_reducible rfl)
    (try simp only [Act.put, List.setIfInBounds_toArray, List.set_cons_zero, List.set_cons_succ])
    refine wpAnyH_take (i := 2) (oi := { dst := some 13, op := Op.load 4 (Operand.tmp 12), type := 4, pos := "l06_texts.go:167", after := #[{ on := 1, ground := Ground.data }], guard := none }) (v := ?_) rfl (by kernel_rfl) (by kernel_rfl) (by kernel_rfl) (fun _ _ _ h => h) (Or.inl ⟨by rfl, ?_⟩) (by assumption) ?_
    rotate_left
    · intro wq hSw
      (try dsimp only at hSw)
      go_simp
      all_goals (with_reducible rfl)
    (try simp only [Act.put, List.setIfInBounds_toArray, List.set_cons_zero, List.set_cons_succ])
    refine wpAnyH_take (i := 4) (oi := { dst := some 15, op := Op.load 2 (Operand.tmp 4), type := 2, pos := "l06_texts.go:167", after := #[], guard := none }) (v := ?_) rfl (by kernel_rfl) (by kernel_rfl) (by kernel_rfl) (fun _ _ _ h => h) (Or.inl ⟨by rfl, ?_⟩) (by assumption) ?_
    rotate_left
    · intro wq hSw
      (try dsimp only at hSw)
      go_simp
      all_goals (with_reducible rfl)
    (try simp only [Act.put, List.setIfInBounds_toArray, List.set_cons_zero, List.set_cons_succ])
    refine wpAnyH_ready (rs := [3]) (by kernel_rfl) (by simp) ?_
    refine AllReadyH.cons (o := { dst := some 14, op := Op.call { callee := Callee.value (Operand.func 44), args := #[Operand.tmp 13], argTypes := #[4] }, type := 2, pos := "l06_texts.go:167", after := #[{ on := 2, ground := Ground.data }], guard := none }) rfl (fun K hK => ?_) AllReadyH.nil
    go_simp
    refine (implFlag bb _).mono ?_
    rintro e u1 ⟨rfl, hu1⟩
    subst u1
    refine hK.out _ _ SS (fun hHeld => ?_)
    clear hK
    (try simp only [Act.put, List.setIfInBounds_toArray, List.set_cons_zero, List.set_cons_succ])
    refine wpAnyH_take (i := 5) (oi := { dst := some 16, op := Op.binOp BinOp.eql 2 (Operand.tmp 14) (Operand.tmp 15) 2, type := 4, pos := "l06_texts.go:167", after := #[{ on := 3, ground := Ground.data }, { on := 4, ground := Ground.data }], guard := none }) (v := ?_) rfl (by kernel_rfl) (by kernel_rfl) (by kernel_rfl) (fun _ _ _ h => h) (Or.inl ⟨by rfl, ?_⟩) (by assumption) ?_
    rotate_left
    · intro wq hSw
      (try dsimp only at hSw)
      go_simp
      all_goals (with_reducible rfl)
    (try simp only [Act.put, List.setIfInBounds_toArray, List.set_cons_zero, List.set_cons_succ])
    refine wpAnyH_ready (rs := [6]) (by kernel_rfl) (by simp) ?_
    refine AllReadyH.cons (o := { dst := some 17, op := Op.call { callee := Callee.value (Operand.func 24), args := #[Operand.tmp 11, Operand.tmp 16], argTypes := #[44, 4] }, type := 0, pos := "l06_texts.go:167", after := #[{ on := 0, ground := Ground.data }, { on := 5, ground := Ground.data }, { on := 3, ground := Ground.chain }], guard := none }) rfl (fun K hK => ?_) AllReadyH.nil
    go_simp
    refine (want_no _ _ G3.out).mono ?_
    rintro e u2 ⟨⟨t9, p9, rfl⟩, hu2⟩
    subst u2
    exact ⟨rfl, FI.out _ ⟨_, _, rfl⟩⟩
end Go.Proofs.YtedhlmipcfdldaaGreatDoor
