/- The reader of an account and of an order. Conditions: as of the reader. -/
import Derived.Test.YtedhlmipcfdldaaGreatDoorRpl
import Derived.Test.YtedhlmipcfdldaaGreatDoorOw
namespace Go.Proofs.YtedhlmipcfdldaaGreatDoor
open Go.RowKit Go.Shelf
set_option maxRecDepth 8000

theorem Vals.stp {w w' : World} {p R : Nat} {vs : List Value} (h : Vals w R vs) (hs : Stp p w w') (hne : R ≠ p) : Vals w' R vs :=
  ⟨fun j v hj => (hs.cell (p := ⟨R, j, none⟩) h.2.2 hne).trans (h.1 j v hj), fun o => (hs.frozen (p := ⟨R, o, none⟩) h.2.2 hne).trans (h.2.1 o), Nat.lt_of_lt_of_le h.2.2 hs.size⟩
def OrdO (w : World) (p : Nat) (s : ByteArray) (e : Ending) (w' : World) : Prop := Stp p w w' ∧ ((∃ (o : Ord) (t : ByteArray), readLine wOrd.data.toList 7 s.data.toList = some (orN o, t.data.toList) ∧ e = .returned (.agg (OrdC o).toArray) ∧ Rst w' p t ∧ Glo w') ∨ (readLine wOrd.data.toList 7 s.data.toList = none ∧ Pan e))
theorem ord_of7 {ns : List Int} (h : ns.length = 7) : ∃ o : Ord, ns = orN o := by
  match ns, h with
  | [a, b, c, d, e, f, g], _ => exact ⟨⟨a, b, c, d, e, f, g⟩, rfl⟩
def z7 : List Value := [.int .i64 0, .int .i64 0, .int .i64 0, .int .i64 0, .int .i64 0, .int .i64 0, .int .i64 0]
set_option maxHeartbeats 4000000 in
theorem orderL (p : Nat) (s : ByteArray) (w : World) (h : Rst w p s) (g : Glo w) : Calls Tryz.prog 29 #[.pointer (some ⟨p, 0, none⟩)] w fun e w' => OrdO w p s e w' := by
  obtain ⟨H, hh⟩ : ∃ H, w.heap.size = H := ⟨_, rfl⟩
  have HH : Hid (w.heap.size = H) := hh
  have hpH : p < H := by rw [← hh]; exact h.2.2.2.1
  have h7 : 7 ≤ p := h.2.2.1
  obtain ⟨W0, hW0, X0⟩ : ∃ W0, W0 = (w.alloc (.cells #[.int .i64 0, .int .i64 0, .int .i64 0, .int .i64 0, .int .i64 0, .int .i64 0, .int .i64 0] 39)).alloc (.cells #[.int .i64 0, .int .i64 0, .int .i64 0, .int .i64 0, .int .i64 0, .int .i64 0, .int .i64 0] 39) ∧ Hid (Vals W0 H z7 ∧ Vals W0 (H + 1) z7 ∧ Stp p w W0 ∧ Rst W0 p s ∧ Glo W0) := by
    have b1 : ∀ (V : World) (o : Obj), Below V.heap.size V (V.alloc o) := fun V o => (Below.refl _ _).alloc (Nat.le_refl _) _
    have v0 := (Vals.new w z7 39).kept (b1 _ (.cells #[.int .i64 0, .int .i64 0, .int .i64 0, .int .i64 0, .int .i64 0, .int .i64 0, .int .i64 0] 39)) (by simp)
    have v1 := Vals.new (w.alloc (.cells #[.int .i64 0, .int .i64 0, .int .i64 0, .int .i64 0, .int .i64 0, .int .i64 0, .int .i64 0] 39)) z7 39
    simp only [World.size_alloc] at v1
    rw [hh] at v0 v1
    have bb : Below w.heap.size w ((w.alloc (.cells #[.int .i64 0, .int .i64 0, .int .i64 0, .int .i64 0, .int .i64 0, .int .i64 0, .int .i64 0] 39)).alloc (.cells #[.int .i64 0, .int .i64 0, .int .i64 0, .int .i64 0, .int .i64 0, .int .i64 0, .int .i64 0] 39)) := ((Below.refl _ _).alloc (Nat.le_refl _) _).alloc (by simp) _
    exact ⟨_, rfl, v0, v1, Stp.ofBelow bb, h.below bb, g.below bb⟩
  have HW0 : Hid (W0 = _) := hW0
  clear hW0 h g
  go_enter Tryz.func29, Tryz.ntmps29
  go_wp2_with fail
  rw [← HW0.out]
  clear HW0 hh
  refine (ordPts (H + 1) W0).mono ?_
  rintro e w1 ⟨b, c, rfl, hb1, hb2, hbc, B1⟩
  have hHW : H + 1 < W0.heap.size := X0.out.2.1.2.2
  have X1 : Hid (Vals w1 H z7 ∧ Vals w1 (H + 1) z7 ∧ Stp p w w1 ∧ Rst w1 p s ∧ Glo w1) := ⟨X0.out.1.kept B1 X0.out.1.2.2, X0.out.2.1.kept B1 hHW, X0.out.2.2.1.trans (Stp.ofBelow B1), X0.out.2.2.2.1.below B1, X0.out.2.2.2.2.below B1⟩
  have PL : Hid (Plc p H (some ⟨b, 0, none⟩) 7 (fun i => (H + 1, i)) (QT (fun i => (H + 1, i)) 7 b (fun w => Vals w H z7))) := plcQT (fun i j _ _ e => (Prod.ext_iff.1 e).2) (fun i _ => ⟨by show H ≤ H + 1; omega, by show H + 1 ≠ b; omega⟩) hpH (by omega) (fun w w' hx hs => hx.stp hs (by omega)) (fun w i m _ hx => hx.far (by show H + 1 ≠ H; omega) _ _)
  have Q1 : Hid (QT (fun i => (H + 1, i)) 7 b (fun w => Vals w H z7) [] w1) := by
    refine ⟨hb2, fun i hi => ?_, fun i hi => ?_, X1.out.1⟩
    · have := hbc i hi
      rw [this]
      have hc : i = 0 ∨ i = 1 ∨ i = 2 ∨ i = 3 ∨ i = 4 ∨ i = 5 ∨ i = 6 := by omega
      rcases hc with rfl | rfl | rfl | rfl | rfl | rfl | rfl <;> rfl
    · have hc : i = 0 ∨ i = 1 ∨ i = 2 ∨ i = 3 ∨ i = 4 ∨ i = 5 ∨ i = 6 := by omega
      refine ⟨?_, X1.out.2.1.2.1 i, X1.out.2.1.2.2⟩
      rcases hc with rfl | rfl | rfl | rfl | rfl | rfl | rfl
      · exact X1.out.2.1.1 0 _ rfl
      · exact X1.out.2.1.1 1 _ rfl
      · exact X1.out.2.1.1 2 _ rfl
      · exact X1.out.2.1.1 3 _ rfl
      · exact X1.out.2.1.1 4 _ rfl
      · exact X1.out.2.1.1 5 _ rfl
      · exact X1.out.2.1.1 6 _ rfl
  clear hbc B1 X0 hb1 hb2
  go_wp2_with fail
  refine (lineG p H (some ⟨b, 0, none⟩) 7 c s ⟨#[111, 114, 100, 101, 114]⟩ _ _ w1 X1.out.2.2.2.1 X1.out.2.2.2.2 PL.out Q1.out hpH (by omega)).mono ?_
  rintro e w2 ⟨S2, hor⟩
  rcases hor with ⟨ns, t, hns, rfl, R2, G2, Q2⟩ | ⟨hns, t9, p9, rfl⟩
  rotate_left
  · exact ⟨rfl, Stn.stp X1.out.2.2.1 S2 (by rw [HH.out]; exact Nat.le_refl _), Or.inr ⟨hns, t9, p9, rfl⟩⟩
  obtain ⟨x, rfl⟩ := ord_of7 (readLine_is hns).2.1
  have X2 : Hid (Stp p w w2 ∧ Rst w2 p t ∧ Glo w2 ∧ readLine wOrd.data.toList 7 s.data.toList = some (orN x, t.data.toList) ∧ Vals w2 H z7) := ⟨Stn.stp X1.out.2.2.1 S2 (by rw [HH.out]; exact Nat.le_refl _), R2, G2, hns, Q2.2.2.2⟩
  have c0 : w2.cell? ⟨H + 1, 0, none⟩ = some (.int .i64 x.id) := (Q2.2.2.1 0 (by omega)).1
  have c1 : w2.cell? ⟨H + 1, 1, none⟩ = some (.int .i64 x.src) := (Q2.2.2.1 1 (by omega)).1
  have c2 : w2.cell? ⟨H + 1, 2, none⟩ = some (.int .i64 x.dst) := (Q2.2.2.1 2 (by omega)).1
  have c3 : w2.cell? ⟨H + 1, 3, none⟩ = some (.int .i64 x.amount) := (Q2.2.2.1 3 (by omega)).1
  have c4 : w2.cell? ⟨H + 1, 4, none⟩ = some (.int .i64 x.first) := (Q2.2.2.1 4 (by omega)).1
  have c5 : w2.cell? ⟨H + 1, 5, none⟩ = some (.int .i64 x.every) := (Q2.2.2.1 5 (by omega)).1
  have c6 : w2.cell? ⟨H + 1, 6, none⟩ = some (.int .i64 x.times) := (Q2.2.2.1 6 (by omega)).1
  have r0 := X2.out.2.2.2.2.1 0 _ rfl
  have r1 := X2.out.2.2.2.2.1 1 _ rfl
  have r2 := X2.out.2.2.2.2.1 2 _ rfl
  have r3 := X2.out.2.2.2.2.1 3 _ rfl
  have r4 := X2.out.2.2.2.2.1 4 _ rfl
  have r5 := X2.out.2.2.2.2.1 5 _ rfl
  have r6 := X2.out.2.2.2.2.1 6 _ rfl
  have FI : Hid (OrdO w p s (.returned (.agg (OrdC x).toArray)) ((((((((w2).setCell ⟨H, 0, none⟩ (.int .i64 x.id)).setCell ⟨H, 1, none⟩ (.int .i64 x.src)).setCell ⟨H, 2, none⟩ (.int .i64 x.dst)).setCell ⟨H, 3, none⟩ (.int .i64 x.amount)).setCell ⟨H, 4, none⟩ (.int .i64 x.first)).setCell ⟨H, 5, none⟩ (.int .i64 x.every)).setCell ⟨H, 6, none⟩ (.int .i64 x.times))) := ⟨(((((((X2.out.1).setNew (p := ⟨H, 0, none⟩) (by show w.heap.size ≤ H; rw [HH.out]; exact Nat.le_refl _) (.int .i64 x.id)).setNew (p := ⟨H, 1, none⟩) (by show w.heap.size ≤ H; rw [HH.out]; exact Nat.le_refl _) (.int .i64 x.src)).setNew (p := ⟨H, 2, none⟩) (by show w.heap.size ≤ H; rw [HH.out]; exact Nat.le_refl _) (.int .i64 x.dst)).setNew (p := ⟨H, 3, none⟩) (by show w.heap.size ≤ H; rw [HH.out]; exact Nat.le_refl _) (.int .i64 x.amount)).setNew (p := ⟨H, 4, none⟩) (by show w.heap.size ≤ H; rw [HH.out]; exact Nat.le_refl _) (.int .i64 x.first)).setNew (p := ⟨H, 5, none⟩) (by show w.heap.size ≤ H; rw [HH.out]; exact Nat.le_refl _) (.int .i64 x.every)).setNew (p := ⟨H, 6, none⟩) (by show w.heap.size ≤ H; rw [HH.out]; exact Nat.le_refl _) (.int .i64 x.times), Or.inl ⟨x, t, X2.out.2.2.2.1, rfl, (((((((X2.out.2.1).far (by omega) 0 (.int .i64 x.id)).far (by omega) 1 (.int .i64 x.src)).far (by omega) 2 (.int .i64 x.dst)).far (by omega) 3 (.int .i64 x.amount)).far (by omega) 4 (.int .i64 x.first)).far (by omega) 5 (.int .i64 x.every)).far (by omega) 6 (.int .i64 x.times), (((((((X2.out.2.2.1).far (by omega) 0 (.int .i64 x.id)).far (by omega) 1 (.int .i64 x.src)).far (by omega) 2 (.int .i64 x.dst)).far (by omega) 3 (.int .i64 x.amount)).far (by omega) 4 (.int .i64 x.first)).far (by omega) 5 (.int .i64 x.every)).far (by omega) 6 (.int .i64 x.times)⟩⟩
  have fz := X2.out.2.2.2.2.2.1
  have nh : ¬ H = H + 1 := by omega
  clear S2 R2 G2 Q2 hns PL Q1 X1
  go_wp2
  refine bodyPost_ret (v := .agg #[.int .i64 x.id, .int .i64 x.src, .int .i64 x.dst, .int .i64 x.amount, .int .i64 x.first, .int .i64 x.every, .int .i64 x.times]) (by simp [results, Tryz.results29, go_sem, r0, r1, r2, r3, r4, r5, r6]) rfl ?_
  exact FI.out
end Go.Proofs.YtedhlmipcfdldaaGreatDoor
