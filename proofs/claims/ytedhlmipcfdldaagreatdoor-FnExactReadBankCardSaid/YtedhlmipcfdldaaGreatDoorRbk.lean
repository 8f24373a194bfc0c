/- The reader of a bank, walked. Conditions: as of the reader. -/
import Derived.Test.YtedhlmipcfdldaaGreatDoorRbt
import Derived.Deep.RegionHeld3
namespace Go.Proofs.YtedhlmipcfdldaaGreatDoor
open Go.RowKit Go.Shelf
set_option maxRecDepth 8000

theorem noA {s s1 t : List UInt8} {k : Bk} {L : List Acc} (h1 : readLine wBank.data.toList 5 s = some (bkN k, s1)) (hl : LTo wAcc.data.toList 8 1048577 s1 (L.map acN) t) (hp : Lib.hasPrefix t wAcc.data.toList = true) (hx : ∀ a u, readLine wAcc.data.toList 8 t ≠ some (acN a, u)) : ∀ k' L' O' t', ¬ RdB s k' L' O' t' := by
  rintro k' L' O' t' ⟨q1, q2, e1, e2, _⟩
  rw [h1] at e1
  have e3 : s1 = q1 := congrArg Prod.snd (Option.some.inj e1)
  rw [← e3] at e2
  exact hl.bad hp hx L' q2 e2
theorem noO {s s1 s2 t : List UInt8} {k : Bk} {L : List Acc} {O : List Ord} (h1 : readLine wBank.data.toList 5 s = some (bkN k, s1)) (h2 : readLines wAcc.data.toList 8 1048577 s1 = some (L.map acN, s2)) (hl : LTo wOrd.data.toList 7 1048577 s2 (O.map orN) t) (hp : Lib.hasPrefix t wOrd.data.toList = true) (hx : readLine wOrd.data.toList 7 t = none) : ∀ k' L' O' t', ¬ RdB s k' L' O' t' := by
  rintro k' L' O' t' ⟨q1, q2, e1, e2, e3, _⟩
  rw [h1] at e1
  have e4 : s1 = q1 := congrArg Prod.snd (Option.some.inj e1)
  rw [← e4, h2] at e2
  have e5 : s2 = q2 := congrArg Prod.snd (Option.some.inj e2)
  rw [← e5] at e3
  exact hl.bad hp (fun a u e => by rw [hx] at e; cases e) O' t' e3
theorem bkN_inj {a b : Bk} (h : bkN a = bkN b) : a = b := by
  obtain ⟨a1, a2, a3, a4, a5⟩ := a
  obtain ⟨b1, b2, b3, b4, b5⟩ := b
  simp [bkN] at h
  simp [h]
theorem acN_inj {a b : Acc} (h : acN a = acN b) : a = b := by
  obtain ⟨a1, a2, a3, a4, a5, a6, a7, a8⟩ := a
  obtain ⟨b1, b2, b3, b4, b5, b6, b7, b8⟩ := b
  simp [acN] at h
  have e : a6 = b6 := by
    have := h.2.2.2.2.2.1
    cases a6 <;> cases b6 <;> simp [flagZ] at this <;> rfl
  simp [h, e]
theorem orN_inj {a b : Ord} (h : orN a = orN b) : a = b := by
  obtain ⟨a1, a2, a3, a4, a5, a6, a7⟩ := a
  obtain ⟨b1, b2, b3, b4, b5, b6, b7⟩ := b
  simp [orN] at h
  simp [h]
theorem map_inj {α β : Type} {N : α → β} (hN : ∀ {a b : α}, N a = N b → a = b) : ∀ {l m : List α}, l.map N = m.map N → l = m
  | [], [], _ => rfl
  | [], _ :: _, h => by simp at h
  | _ :: _, [], h => by simp at h
  | a :: l, b :: m, h => by
    simp only [List.map_cons, List.cons.injEq] at h
    rw [hN h.1, map_inj hN h.2]
/-- The places of a bank's numbers. -/
def TB (R : Nat) (i : Nat) : Nat × Nat := ([(R, 0), (R, 3), (R, 4), (R, 5), (R, 6)] : List (Nat × Nat)).getD i (0, 0)
theorem case5 {i : Nat} (h : i < 5) : i = 0 ∨ i = 1 ∨ i = 2 ∨ i = 3 ∨ i = 4 := by omega
theorem TB_blk (R i : Nat) (hi : i < 5) : (TB R i).1 = R ∧ (TB R i).2 ≠ 1 ∧ (TB R i).2 ≠ 2 := by
  rcases case5 hi with rfl | rfl | rfl | rfl | rfl <;> simp [TB]
theorem TB_inj (R : Nat) : ∀ i j, i < 5 → j < 5 → TB R i = TB R j → i = j := by
  intro i j hi hj e
  rcases case5 hi with rfl | rfl | rfl | rfl | rfl <;> rcases case5 hj with rfl | rfl | rfl | rfl | rfl <;> first | rfl | (exfalso; simp [TB] at e)
/-- What lies beside the places. -/
def XB (H : Nat) (w : World) : Prop := Vals w H zBk ∧ w.cell? ⟨H + 1, 1, none⟩ = some (.slice none 0 0) ∧ w.cell? ⟨H + 1, 2, none⟩ = some (.slice none 0 0) ∧ (∀ o, w.frozen? ⟨H + 1, o, none⟩ = false) ∧ H + 1 < w.heap.size
theorem bk_of5 {ns : List Int} (h : ns.length = 5) : ∃ k : Bk, ns = bkN k := by
  match ns, h with
  | [a, b, c, d, e], _ => exact ⟨⟨a, b, c, d, e⟩, rfl⟩
set_option maxHeartbeats 8000000 in
theorem bankL (p : Nat) (s : ByteArray) (w : World) (h : Rst w p s) (g : Glo w) : Calls Tryz.prog 13 #[.pointer (some ⟨p, 0, none⟩)] w fun e w' => BkO w p s e w' := by
  obtain ⟨iA, hA, zA0, zA1, zA2⟩ := info_parts infoA
  obtain ⟨iB, hB, zB0, zB1, zB2⟩ := info_parts infoO
  obtain ⟨H, hh⟩ : ∃ H, w.heap.size = H := ⟨_, rfl⟩
  have HH : Hid (w.heap.size = H) := hh
  have hpH : p < H := by rw [← hh]; exact h.2.2.2.1
  have h7 : 7 ≤ p := h.2.2.1
  have G0 : Hid (Glo w) := g
  have HS0 : Hid (s.size ≤ 1048576) := h.2.2.2.2
  obtain ⟨W0, hW0, X0⟩ : ∃ W0, W0 = (w.alloc (.cells zBk.toArray 25)).alloc (.cells zBk.toArray 25) ∧ Hid (Vals W0 H zBk ∧ Vals W0 (H + 1) zBk ∧ Stp p w W0 ∧ Rst W0 p s ∧ Glo W0) := by
    have b1 : ∀ (V : World) (o : Obj), Below V.heap.size V (V.alloc o) := fun V o => (Below.refl _ _).alloc (Nat.le_refl _) _
    have v0 := (Vals.new w zBk 25).kept (b1 _ (.cells zBk.toArray 25)) (by simp)
    have v1 := Vals.new (w.alloc (.cells zBk.toArray 25)) zBk 25
    simp only [World.size_alloc] at v1
    rw [hh] at v0 v1
    have bb : Below w.heap.size w ((w.alloc (.cells zBk.toArray 25)).alloc (.cells zBk.toArray 25)) := ((Below.refl _ _).alloc (Nat.le_refl _) _).alloc (by simp) _
    exact ⟨_, rfl, v0, v1, Stp.ofBelow bb, h.below bb, g.below bb⟩
  have HW0 : Hid (W0 = (w.alloc (.cells #[.int .i64 0, .slice none 0 0, .slice none 0 0, .int .i64 0, .int .i64 0, .int .i64 0, .int .i64 0] 25)).alloc (.cells #[.int .i64 0, .slice none 0 0, .slice none 0 0, .int .i64 0, .int .i64 0, .int .i64 0, .int .i64 0] 25)) := hW0
  clear hW0 h g
  go_enter Tryz.func13, Tryz.ntmps13
  go_wp2_with fail
  rw [← HW0.out]
  clear HW0 hh
  refine (bankPts (H + 1) W0).mono ?_
  rintro e w1 ⟨b, c, rfl, hb1, hb2, hbc, B1⟩
  have hHW : H + 1 < W0.heap.size := X0.out.2.1.2.2
  have X1 : Hid (Vals w1 H zBk ∧ Vals w1 (H + 1) zBk ∧ Stp p w w1 ∧ Rst w1 p s ∧ Glo w1) := ⟨X0.out.1.kept B1 X0.out.1.2.2, X0.out.2.1.kept B1 hHW, X0.out.2.2.1.trans (Stp.ofBelow B1), X0.out.2.2.2.1.below B1, X0.out.2.2.2.2.below B1⟩
  have PL : Hid (Plc p H (some ⟨b, 0, none⟩) 5 (TB (H + 1)) (QT (TB (H + 1)) 5 b (XB H))) := plcQT (TB_inj (H + 1)) (fun i hi => by rw [(TB_blk (H + 1) i hi).1]; omega) hpH (by omega)
    (fun w w' hx hs => ⟨hx.1.stp hs (by omega), (hs.cell (p := ⟨H + 1, 1, none⟩) hx.2.2.2.2 (by show H + 1 ≠ p; omega)).trans hx.2.1, (hs.cell (p := ⟨H + 1, 2, none⟩) hx.2.2.2.2 (by show H + 1 ≠ p; omega)).trans hx.2.2.1, fun o => (hs.frozen (p := ⟨H + 1, o, none⟩) hx.2.2.2.2 (by show H + 1 ≠ p; omega)).trans (hx.2.2.2.1 o), Nat.lt_of_lt_of_le hx.2.2.2.2 hs.size⟩)
    (fun w i m hi hx => ⟨hx.1.far (by rw [(TB_blk (H + 1) i hi).1]; omega) _ _, (World.cell?_setCell_other _ _ _ _ (by intro e; exact (TB_blk (H + 1) i hi).2.1 (congrArg Addr.off e))).trans hx.2.1, (World.cell?_setCell_other _ _ _ _ (by intro e; exact (TB_blk (H + 1) i hi).2.2 (congrArg Addr.off e))).trans hx.2.2.1, fun o => by rw [World.frozen?_setCell]; exact hx.2.2.2.1 o, by simpa [World.setCell] using hx.2.2.2.2⟩)
  have Q1 : Hid (QT (TB (H + 1)) 5 b (XB H) [] w1) := by
    refine ⟨hb2, fun i hi => hbc i hi, fun i hi => ?_, X1.out.1, X1.out.2.1.1 1 _ rfl, X1.out.2.1.1 2 _ rfl, X1.out.2.1.2.1, X1.out.2.1.2.2⟩
    rcases case5 hi with rfl | rfl | rfl | rfl | rfl
    · exact ⟨X1.out.2.1.1 0 _ rfl, X1.out.2.1.2.1 0, X1.out.2.1.2.2⟩
    · exact ⟨X1.out.2.1.1 3 _ rfl, X1.out.2.1.2.1 3, X1.out.2.1.2.2⟩
    · exact ⟨X1.out.2.1.1 4 _ rfl, X1.out.2.1.2.1 4, X1.out.2.1.2.2⟩
    · exact ⟨X1.out.2.1.1 5 _ rfl, X1.out.2.1.2.1 5, X1.out.2.1.2.2⟩
    · exact ⟨X1.out.2.1.1 6 _ rfl, X1.out.2.1.2.1 6, X1.out.2.1.2.2⟩
  clear hbc B1 X0 hb1 hb2
  go_wp2_with fail
  refine (lineG p H (some ⟨b, 0, none⟩) 5 c s ⟨#[98, 97, 110, 107]⟩ _ _ w1 X1.out.2.2.2.1 X1.out.2.2.2.2 PL.out Q1.out hpH (by omega)).mono ?_
  rintro e w2 ⟨S2, hor⟩
  rcases hor with ⟨ns, s1, hns, rfl, R2, G2, Q2⟩ | ⟨hns, t9, p9, rfl⟩
  rotate_left
  · exact ⟨rfl, Stn.stp X1.out.2.2.1 S2 (by rw [HH.out]; exact Nat.le_refl _), Or.inr ⟨fun k L O t hh => (by
      obtain ⟨q1, q2, e1, _⟩ := hh
      have e' : readLine (⟨#[98, 97, 110, 107]⟩ : ByteArray).data.toList 5 s.data.toList = some (bkN k, q1) := e1
      rw [hns] at e'
      cases e'), t9, p9, rfl⟩⟩
  obtain ⟨k, rfl⟩ := bk_of5 (readLine_is hns).2.1
  have HB1 : Hid (readLine wBank.data.toList 5 s.data.toList = some (bkN k, s1.data.toList)) := hns
  have HS1 : Hid (s1.size ≤ 1048576) := R2.2.2.2.2
  have X2 : Hid (BkS H (.slice none 0 0) (.slice none 0 0) k [] [] w2 ∧ Rst w2 p s1 ∧ Glo w2 ∧ Stp p w w2) := ⟨⟨Q2.2.2.2.1, ⟨⟨(Q2.2.2.1 0 (by omega)).1, Q2.2.2.2.2.1, Q2.2.2.2.2.2.1, (Q2.2.2.1 1 (by omega)).1, (Q2.2.2.1 2 (by omega)).1, (Q2.2.2.1 3 (by omega)).1, (Q2.2.2.1 4 (by omega)).1⟩, Q2.2.2.2.2.2.2.1, Q2.2.2.2.2.2.2.2⟩, AL.nil' _ _, OrdL.nil _ _⟩, R2, G2, Stn.stp X1.out.2.2.1 S2 (by rw [HH.out]; exact Nat.le_refl _)⟩
  clear S2 R2 G2 Q2 hns PL Q1 X1
  go_wp2
  go_loopg [8] s1.size (fun g _ wx => ∃ (t : ByteArray) (L : List Acc) (v : Value), t.size = g ∧ Hid (LTo wAcc.data.toList 8 1048577 s1.data.toList (L.map acN) t.data.toList) ∧ Hid (BkS H v (.slice none 0 0) k L [] wx ∧ Rst wx p t ∧ Glo wx ∧ Stp p w wx))
  case atStart => exact ⟨s1, [], .slice none 0 0, rfl, LTo.start _ _ _ _ (by omega), X2⟩
  case round =>
    clear X2
    obtain ⟨t, L, v, hg, HL, X3⟩ := hrel
    have A := aheadL p t ⟨#[97, 99, 99, 111, 117, 110, 116]⟩ wr X3.out.2.1
    obtain ⟨bo, hbo⟩ : ∃ bo, Lib.hasPrefix t.data.toList wAcc.data.toList = bo := ⟨_, rfl⟩
    have HBO : Hid (Lib.hasPrefix t.data.toList wAcc.data.toList = bo) := hbo
    have A' : Calls Tryz.prog 27 #[.pointer (some ⟨p, 0, none⟩), .string ⟨#[97, 99, 99, 111, 117, 110, 116]⟩] wr fun e w' => e = .returned (.bool bo) ∧ w' = wr := by rw [← hbo]; exact A
    clear A hbo
    cases bo with
    | true =>
      obtain ⟨aa, cc, hv⟩ : ∃ aa cc, v = .slice aa L.length cc := X3.out.1.2.2.1.len
      subst hv
      have hll : L.length ≤ 1048576 := by have h1 := HL.out.2.1; have h2 := HS1.out; rw [lenD, lenD] at h1; simp only [List.length_map] at h1; omega
      have SS : wr.drew.cell? ⟨H + 1, 1, none⟩ = some (.slice aa L.length cc) := X3.out.1.2.1.1.2.1
      have XD : Hid (BkS H (.slice aa L.length cc) (.slice none 0 0) k L [] wr.drew ∧ Rst wr.drew p t ∧ Glo wr.drew ∧ Stp p w wr.drew) := ⟨X3.out.1.stp (p := p) (Stp.drewd (Stp.refl _ _)) hpH, X3.out.2.1, Glo.drewd X3.out.2.2.1, Stp.drewd X3.out.2.2.2⟩
      clear X3
      go_wp2_with (go_at_call 27; refine A'.mono ?_; rintro e w9 ⟨rfl, hw9⟩; subst w9)
      clear A'
      refine wp_region_held_drew (S := fun _ => True) (by kernel_rfl) trivial (fun hHeld => ?_)
      refine wpAnyH_take (i := 0) (oi := { dst := some 9, op := Op.fieldAddr 25 (Operand.tmp 3) 1, type := 0, pos := "l06_texts.go:181", after := #[], guard := none }) (v := ?_) rfl (by kernel_rfl) (by kernel_rfl) (by kernel_rfl) (fun _ _ _ h => h) (Or.inl ⟨by rfl, ?_⟩) trivial ?_
      rotate_left
      · intro wq hSw
        go_simp
        all_goals (with_reducible rfl)
      (try simp only [Act.put, List.setIfInBounds_toArray, List.set_cons_zero, List.set_cons_succ])
      refine wpAnyH_take (i := 2) (oi := { dst := some 11, op := Op.move (Operand.tmp 0), type := 44, pos := "l06_texts.go:181", after := #[], guard := none }) (v := ?_) rfl (by kernel_rfl) (by kernel_rfl) (by kernel_rfl) (fun _ _ _ h => h) (Or.inl ⟨by rfl, ?_⟩) trivial ?_
      rotate_left
      · intro wq hSw
        go_simp
        all_goals (with_reducible rfl)
      (try simp only [Act.put, List.setIfInBounds_toArray, List.set_cons_zero, List.set_cons_succ])
      refine wpAnyH_ready (rs := [1, 3]) (by kernel_rfl) (by simp) ?_
      refine AllReadyH.cons (o := { dst := some 10, op := Op.load 22 (Operand.tmp 9), type := 22, pos := "l06_texts.go:181", after := #[{ on := 0, ground := Ground.data }], guard := none }) rfl (fun K hK => ?_) ?_
      · skip
        go_simp
        refine hK.out _ _ trivial (fun hHeld => ?_)
        clear hK
        (try simp only [Act.put, List.setIfInBounds_toArray, List.set_cons_zero, List.set_cons_succ])
        refine wpAnyH_ready (rs := [3]) (by kernel_rfl) (by simp) ?_
        refine AllReadyH.cons (o := { dst := some 12, op := Op.call { callee := Callee.value (Operand.func 28), args := #[Operand.tmp 11], argTypes := #[44] }, type := 37, pos := "l06_texts.go:181", after := #[{ on := 2, ground := Ground.data }], guard := none }) rfl (fun K hK => ?_) AllReadyH.nil
        go_simp
        refine (accountL p t _ XD.out.2.1 XD.out.2.2.1).mono ?_
        rintro e w4 ⟨S4, hor⟩
        rcases hor with ⟨x, t', hx, rfl, R4, G4⟩ | ⟨hx, t9, p9, rfl⟩
        rotate_left
        · exact ⟨rfl, XD.out.2.2.2.trans S4, Or.inr ⟨noA HB1.out HL.out HBO.out hx, t9, p9, rfl⟩⟩
        have X4 : Hid (BkS H (.slice aa L.length cc) (.slice none 0 0) k L [] w4 ∧ Rst w4 p t' ∧ Glo w4 ∧ Stp p w w4) := ⟨XD.out.1.stp S4 hpH, R4, G4, XD.out.2.2.2.trans S4⟩
        have HL2 : Hid (LTo wAcc.data.toList 8 1048577 s1.data.toList ((L ++ [x]).map acN) t'.data.toList ∧ t'.size < t.size) := by
          have h1 := HL.out.step (by have := HS1.out; rw [lenD]; omega) HBO.out hx
          refine ⟨by simpa using h1, ?_⟩
          have h3 := congrArg List.length (readLine_is hx).1
          rw [lenD] at h3
          simp [lineL] at h3
          omega
        clear S4 R4 G4 hx
        have SS4 : w4.cell? ⟨H + 1, 1, none⟩ = some (.slice aa L.length cc) := X4.out.1.2.1.1.2.1
        refine hK.out _ _ trivial (fun hHeld => ?_)
        clear hK SS
        (try simp only [Act.put, List.setIfInBounds_toArray, List.set_cons_zero, List.set_cons_succ])
        simp only [accCells]
        refine wpAnyH_ready (rs := [4]) (by kernel_rfl) (by simp) ?_
        refine AllReadyH.cons (o := { dst := some 13, op := Op.buildSlice 22 1 #[(0, Operand.tmp 12)], type := 22, pos := "l06_texts.go:181", after := #[{ on := 3, ground := Ground.data }], guard := none }) rfl (fun K hK => ?_) AllReadyH.nil
        go_simp
        obtain ⟨V5, hV5, X5⟩ : ∃ V, V = w4.alloc (.cells (accCells x).toArray 37) ∧ Hid (BkS H (.slice aa L.length cc) (.slice none 0 0) k L [] V ∧ Rst V p t' ∧ Glo V ∧ Stp p w V ∧ Vals V w4.heap.size (accCells x) ∧ H + 1 + 1 ≤ V.heap.size) := by
          have hb : Below w4.heap.size w4 (w4.alloc (.cells (accCells x).toArray 37)) := (Below.refl _ _).alloc (Nat.le_refl _) _
          exact ⟨_, rfl, X4.out.1.alloc _, X4.out.2.1.below hb, X4.out.2.2.1.below hb, X4.out.2.2.2.trans (Stp.ofBelow hb), Vals.new _ _ _, by have := X4.out.1.2.1.2.2; simp; omega⟩
        have SS5 : V5.cell? ⟨H + 1, 1, none⟩ = some (.slice aa L.length cc) := X5.out.1.2.1.1.2.1
        have HV5 : Hid (V5 = w4.alloc (.cells #[.int .i64 x.id, .int .i64 x.up, .int .i64 x.limit, .int .i64 x.rate, .int .i64 x.target, .bool x.frozen, .int .i64 x.balance, .int .i64 x.carry] 37)) := hV5
        clear hV5 SS4
        refine hK.out _ _ trivial (fun hHeld => ?_)
        rw [← HV5.out]
        clear hK
        obtain ⟨r5, hr5⟩ : ∃ r, w4.heap.size = r := ⟨_, rfl⟩
        try rw [hr5]
        rw [hr5] at X5
        clear X4 HV5 hr5
        have hbv : Hid (∀ q, (Value.slice aa L.length cc).ownBlock = some q → H + 1 + 1 ≤ q) := fun q hq => (X5.out.1.blk.1 q hq).1
        have NW : Hid (∀ j y, (accCells x)[j]? = some y → V5.cell? ((⟨r5, 0, none⟩ : Addr).add j) = some y) := fun j y hj => by
          have e : (⟨r5, 0, none⟩ : Addr).add j = ⟨r5, j, none⟩ := by cases j <;> simp [Addr.add]
          rw [e]
          exact X5.out.2.2.2.2.1.1 j y hj
        have ONE : Hid (∀ y ∈ accCells x, y.oneCell' = true) := fun y hy => by
          simp only [accCells, List.mem_cons, List.not_mem_nil, or_false] at hy
          rcases hy with e | e | e | e | e | e | e | e <;> subst e <;> rfl
        (try simp only [Act.put, List.setIfInBounds_toArray, List.set_cons_zero, List.set_cons_succ])
        refine wpAnyH_ready (rs := [5]) (by kernel_rfl) (by simp) ?_
        refine AllReadyH.cons (o := { dst := some 14, op := Op.call { callee := Callee.builtin Builtin.append, args := #[Operand.tmp 10, Operand.tmp 13], argTypes := #[22, 22] }, type := 22, pos := "l06_texts.go:181", after := #[{ on := 1, ground := Ground.data }, { on := 4, ground := Ground.data }, { on := 3, ground := Ground.chain }], guard := none }) rfl (fun K hK => ?_) AllReadyH.nil
        refine step_append_own _ (by rfl) _ _ 22 (by rfl) (H + 1 + 1) 37 iA _ 8 64 Tryz.underlying22 hA zA0 zA1 zA2 rfl (by decide) _ _ _ (by rfl) X5.out.1.2.2.1 ⟨r5, 0, none⟩ 1 1 (accCells x) (by rfl) rfl NW.out ONE.out (by unfold maxLen; omega) (by omega) X5.out.2.2.2.2.2 ?_
        intro v6 w6 hown hgrow
        have X6 : Hid (BkS H v6 (.slice none 0 0) k (L ++ [x]) [] (w6.setCell ⟨H + 1, 1, none⟩ v6)) := X5.out.1.addA hown hgrow
        have S6 : Hid (Stp p w w6 ∧ Rst w6 p t' ∧ Glo w6) := by
          have hh : w.heap.size ≤ H + 1 + 1 := by rw [HH.out]; omega
          have hbk : ∀ q, q < V5.heap.size → q < H + 1 + 1 → w6.heap[q]? = V5.heap[q]? := fun q hq hq2 => hgrow.block q hq (fun e => by have := hbv.out q e.symm; omega)
          have s1 : Stp p w w6 := ⟨hgrow.os.trans X5.out.2.2.2.1.os, hgrow.tape.trans X5.out.2.2.2.1.tape, hgrow.output.trans X5.out.2.2.2.1.output, Nat.le_trans X5.out.2.2.2.1.size hgrow.size, fun q hq hqp => (hbk q (Nat.lt_of_lt_of_le hq X5.out.2.2.2.1.size) (by omega)).trans (X5.out.2.2.2.1.block q hq hqp)⟩
          have ep := hbk p (by have := X5.out.2.1.2.2.2.1; omega) (by omega)
          exact ⟨s1, ⟨(World.cell?_of_block (w := V5) ep).trans X5.out.2.1.1, (World.frozen?_of_block (w := V5) ep).trans X5.out.2.1.2.1, h7, Nat.lt_of_lt_of_le X5.out.2.1.2.2.2.1 hgrow.size, X5.out.2.1.2.2.2.2⟩, G0.out.stp s1 h7⟩
        have hz6 : w6.cell? ⟨H + 1, 1, none⟩ = some (.slice aa L.length cc) := (World.cell?_of_block (w := V5) (hgrow.block (H + 1) X5.out.1.2.1.2.2 (fun e => by have := hbv.out _ e.symm; omega))).trans SS5
        have hf6 : w6.frozen? ⟨H + 1, 1, none⟩ = false := (World.frozen?_of_block (w := V5) (hgrow.block (H + 1) X5.out.1.2.1.2.2 (fun e => by have := hbv.out _ e.symm; omega))).trans (X5.out.1.2.1.2.1 1)
        clear hown hgrow
        refine hK.out _ _ trivial (fun hHeld => ?_)
        clear hK X5 SS5 hbv NW ONE
        (try simp only [Act.put, List.setIfInBounds_toArray, List.set_cons_zero, List.set_cons_succ])
        refine wpAnyH_take (i := 6) (oi := { dst := some 15, op := Op.fieldAddr 25 (Operand.tmp 3) 1, type := 0, pos := "l06_texts.go:181", after := #[{ on := 0, ground := Ground.phase }, { on := 1, ground := Ground.phase }, { on := 2, ground := Ground.phase }, { on := 3, ground := Ground.phase }, { on := 4, ground := Ground.phase }, { on := 5, ground := Ground.phase }], guard := none }) (v := ?_) rfl (by kernel_rfl) (by kernel_rfl) (by kernel_rfl) (fun _ _ _ h => h) (Or.inl ⟨by rfl, ?_⟩) trivial ?_
        rotate_left
        · intro wq hSw
          go_simp
          all_goals (with_reducible rfl)
        (try simp only [Act.put, List.setIfInBounds_toArray, List.set_cons_zero, List.set_cons_succ])
        refine wpAnyH_ready (rs := [7]) (by kernel_rfl) (by simp) ?_
        refine AllReadyH.cons (o := { dst := none, op := Op.store 22 (Operand.tmp 15) (Operand.tmp 14), type := 0, pos := "l06_texts.go:181", after := #[{ on := 6, ground := Ground.data }, { on := 5, ground := Ground.data }, { on := 5, ground := Ground.chain }, { on := 0, ground := Ground.phase }, { on := 1, ground := Ground.phase }, { on := 2, ground := Ground.phase }, { on := 3, ground := Ground.phase }, { on := 4, ground := Ground.phase }, { on := 5, ground := Ground.phase }], guard := none }) rfl (fun K hK => ?_) AllReadyH.nil
        obtain ⟨a6, c6, hv6⟩ : ∃ a6 c6, v6 = .slice a6 (L ++ [x]).length c6 := X6.out.2.2.1.len
        subst hv6
        obtain ⟨m6, hm6⟩ : ∃ m, (L ++ [x]).length = m := ⟨_, rfl⟩
        rw [hm6] at X6
        simp only [hm6]
        clear hm6
        go_simp
        refine hK.out _ _ trivial (fun hHeld => ?_)
        clear hK
        (try simp only [Act.put, List.setIfInBounds_toArray, List.set_cons_zero, List.set_cons_succ])
        refine wpAnyH_done (by kernel_rfl) ?_ _
        have X7 : Hid (BkS H (.slice a6 m6 c6) (.slice none 0 0) k (L ++ [x]) [] (w6.setCell ⟨H + 1, 1, none⟩ (.slice a6 m6 c6)) ∧ Rst (w6.setCell ⟨H + 1, 1, none⟩ (.slice a6 m6 c6)) p t' ∧ Glo (w6.setCell ⟨H + 1, 1, none⟩ (.slice a6 m6 c6)) ∧ Stp p w (w6.setCell ⟨H + 1, 1, none⟩ (.slice a6 m6 c6))) := ⟨X6.out, S6.out.2.1.far (by omega) _ _, S6.out.2.2.far (by omega) _ _, S6.out.1.setNew (p := ⟨H + 1, 1, none⟩) (by show w.heap.size ≤ H + 1; rw [HH.out]; omega) _⟩
        clear X6 S6 hz6 hf6
        go_wp2
        go_roundg t'.size
        case measure => have := HL2.out.2; omega
        case rel => exact ⟨t', L ++ [x], _, rfl, HL2.out.1, X7⟩
      refine AllReadyH.cons (o := { dst := some 12, op := Op.call { callee := Callee.value (Operand.func 28), args := #[Operand.tmp 11], argTypes := #[44] }, type := 37, pos := "l06_texts.go:181", after := #[{ on := 2, ground := Ground.data }], guard := none }) rfl (fun K hK => ?_) AllReadyH.nil
      go_simp
      refine (accountL p t _ XD.out.2.1 XD.out.2.2.1).mono ?_
      rintro e w4 ⟨S4, hor⟩
      rcases hor with ⟨x, t', hx, rfl, R4, G4⟩ | ⟨hx, t9, p9, rfl⟩
      rotate_left
      · exact ⟨rfl, XD.out.2.2.2.trans S4, Or.inr ⟨noA HB1.out HL.out HBO.out hx, t9, p9, rfl⟩⟩
      have X4 : Hid (BkS H (.slice aa L.length cc) (.slice none 0 0) k L [] w4 ∧ Rst w4 p t' ∧ Glo w4 ∧ Stp p w w4) := ⟨XD.out.1.stp S4 hpH, R4, G4, XD.out.2.2.2.trans S4⟩
      have HL2 : Hid (LTo wAcc.data.toList 8 1048577 s1.data.toList ((L ++ [x]).map acN) t'.data.toList ∧ t'.size < t.size) := by
        have h1 := HL.out.step (by have := HS1.out; rw [lenD]; omega) HBO.out hx
        refine ⟨by simpa using h1, ?_⟩
        have h3 := congrArg List.length (readLine_is hx).1
        rw [lenD] at h3
        simp [lineL] at h3
        omega
      clear S4 R4 G4 hx
      have SS4 : w4.cell? ⟨H + 1, 1, none⟩ = some (.slice aa L.length cc) := X4.out.1.2.1.1.2.1
      refine hK.out _ _ trivial (fun hHeld => ?_)
      clear hK SS
      (try simp only [Act.put, List.setIfInBounds_toArray, List.set_cons_zero, List.set_cons_succ])
      simp only [accCells]
      refine wpAnyH_ready (rs := [1, 4]) (by kernel_rfl) (by simp) ?_
      refine AllReadyH.cons (o := { dst := some 10, op := Op.load 22 (Operand.tmp 9), type := 22, pos := "l06_texts.go:181", after := #[{ on := 0, ground := Ground.data }], guard := none }) rfl (fun K hK => ?_) ?_
      · skip
        go_simp
        refine hK.out _ _ trivial (fun hHeld => ?_)
        clear hK
        (try simp only [Act.put, List.setIfInBounds_toArray, List.set_cons_zero, List.set_cons_succ])
        refine wpAnyH_ready (rs := [4]) (by kernel_rfl) (by simp) ?_
        refine AllReadyH.cons (o := { dst := some 13, op := Op.buildSlice 22 1 #[(0, Operand.tmp 12)], type := 22, pos := "l06_texts.go:181", after := #[{ on := 3, ground := Ground.data }], guard := none }) rfl (fun K hK => ?_) AllReadyH.nil
        go_simp
        obtain ⟨V5, hV5, X5⟩ : ∃ V, V = w4.alloc (.cells (accCells x).toArray 37) ∧ Hid (BkS H (.slice aa L.length cc) (.slice none 0 0) k L [] V ∧ Rst V p t' ∧ Glo V ∧ Stp p w V ∧ Vals V w4.heap.size (accCells x) ∧ H + 1 + 1 ≤ V.heap.size) := by
          have hb : Below w4.heap.size w4 (w4.alloc (.cells (accCells x).toArray 37)) := (Below.refl _ _).alloc (Nat.le_refl _) _
          exact ⟨_, rfl, X4.out.1.alloc _, X4.out.2.1.below hb, X4.out.2.2.1.below hb, X4.out.2.2.2.trans (Stp.ofBelow hb), Vals.new _ _ _, by have := X4.out.1.2.1.2.2; simp; omega⟩
        have SS5 : V5.cell? ⟨H + 1, 1, none⟩ = some (.slice aa L.length cc) := X5.out.1.2.1.1.2.1
        have HV5 : Hid (V5 = w4.alloc (.cells #[.int .i64 x.id, .int .i64 x.up, .int .i64 x.limit, .int .i64 x.rate, .int .i64 x.target, .bool x.frozen, .int .i64 x.balance, .int .i64 x.carry] 37)) := hV5
        clear hV5 SS4
        refine hK.out _ _ trivial (fun hHeld => ?_)
        rw [← HV5.out]
        clear hK
        obtain ⟨r5, hr5⟩ : ∃ r, w4.heap.size = r := ⟨_, rfl⟩
        try rw [hr5]
        rw [hr5] at X5
        clear X4 HV5 hr5
        have hbv : Hid (∀ q, (Value.slice aa L.length cc).ownBlock = some q → H + 1 + 1 ≤ q) := fun q hq => (X5.out.1.blk.1 q hq).1
        have NW : Hid (∀ j y, (accCells x)[j]? = some y → V5.cell? ((⟨r5, 0, none⟩ : Addr).add j) = some y) := fun j y hj => by
          have e : (⟨r5, 0, none⟩ : Addr).add j = ⟨r5, j, none⟩ := by cases j <;> simp [Addr.add]
          rw [e]
          exact X5.out.2.2.2.2.1.1 j y hj
        have ONE : Hid (∀ y ∈ accCells x, y.oneCell' = true) := fun y hy => by
          simp only [accCells, List.mem_cons, List.not_mem_nil, or_false] at hy
          rcases hy with e | e | e | e | e | e | e | e <;> subst e <;> rfl
        (try simp only [Act.put, List.setIfInBounds_toArray, List.set_cons_zero, List.set_cons_succ])
        refine wpAnyH_ready (rs := [5]) (by kernel_rfl) (by simp) ?_
        refine AllReadyH.cons (o := { dst := some 14, op := Op.call { callee := Callee.builtin Builtin.append, args := #[Operand.tmp 10, Operand.tmp 13], argTypes := #[22, 22] }, type := 22, pos := "l06_texts.go:181", after := #[{ on := 1, ground := Ground.data }, { on := 4, ground := Ground.data }, { on := 3, ground := Ground.chain }], guard := none }) rfl (fun K hK => ?_) AllReadyH.nil
        refine step_append_own _ (by rfl) _ _ 22 (by rfl) (H + 1 + 1) 37 iA _ 8 64 Tryz.underlying22 hA zA0 zA1 zA2 rfl (by decide) _ _ _ (by rfl) X5.out.1.2.2.1 ⟨r5, 0, none⟩ 1 1 (accCells x) (by rfl) rfl NW.out ONE.out (by unfold maxLen; omega) (by omega) X5.out.2.2.2.2.2 ?_
        intro v6 w6 hown hgrow
        have X6 : Hid (BkS H v6 (.slice none 0 0) k (L ++ [x]) [] (w6.setCell ⟨H + 1, 1, none⟩ v6)) := X5.out.1.addA hown hgrow
        have S6 : Hid (Stp p w w6 ∧ Rst w6 p t' ∧ Glo w6) := by
          have hh : w.heap.size ≤ H + 1 + 1 := by rw [HH.out]; omega
          have hbk : ∀ q, q < V5.heap.size → q < H + 1 + 1 → w6.heap[q]? = V5.heap[q]? := fun q hq hq2 => hgrow.block q hq (fun e => by have := hbv.out q e.symm; omega)
          have s1 : Stp p w w6 := ⟨hgrow.os.trans X5.out.2.2.2.1.os, hgrow.tape.trans X5.out.2.2.2.1.tape, hgrow.output.trans X5.out.2.2.2.1.output, Nat.le_trans X5.out.2.2.2.1.size hgrow.size, fun q hq hqp => (hbk q (Nat.lt_of_lt_of_le hq X5.out.2.2.2.1.size) (by omega)).trans (X5.out.2.2.2.1.block q hq hqp)⟩
          have ep := hbk p (by have := X5.out.2.1.2.2.2.1; omega) (by omega)
          exact ⟨s1, ⟨(World.cell?_of_block (w := V5) ep).trans X5.out.2.1.1, (World.frozen?_of_block (w := V5) ep).trans X5.out.2.1.2.1, h7, Nat.lt_of_lt_of_le X5.out.2.1.2.2.2.1 hgrow.size, X5.out.2.1.2.2.2.2⟩, G0.out.stp s1 h7⟩
        have hz6 : w6.cell? ⟨H + 1, 1, none⟩ = some (.slice aa L.length cc) := (World.cell?_of_block (w := V5) (hgrow.block (H + 1) X5.out.1.2.1.2.2 (fun e => by have := hbv.out _ e.symm; omega))).trans SS5
        have hf6 : w6.frozen? ⟨H + 1, 1, none⟩ = false := (World.frozen?_of_block (w := V5) (hgrow.block (H + 1) X5.out.1.2.1.2.2 (fun e => by have := hbv.out _ e.symm; omega))).trans (X5.out.1.2.1.2.1 1)
        clear hown hgrow
        refine hK.out _ _ trivial (fun hHeld => ?_)
        clear hK X5 SS5 hbv NW ONE
        (try simp only [Act.put, List.setIfInBounds_toArray, List.set_cons_zero, List.set_cons_succ])
        refine wpAnyH_take (i := 6) (oi := { dst := some 15, op := Op.fieldAddr 25 (Operand.tmp 3) 1, type := 0, pos := "l06_texts.go:181", after := #[{ on := 0, ground := Ground.phase }, { on := 1, ground := Ground.phase }, { on := 2, ground := Ground.phase }, { on := 3, ground := Ground.phase }, { on := 4, ground := Ground.phase }, { on := 5, ground := Ground.phase }], guard := none }) (v := ?_) rfl (by kernel_rfl) (by kernel_rfl) (by kernel_rfl) (fun _ _ _ h => h) (Or.inl ⟨by rfl, ?_⟩) trivial ?_
        rotate_left
        · intro wq hSw
          go_simp
          all_goals (with_reducible rfl)
        (try simp only [Act.put, List.setIfInBounds_toArray, List.set_cons_zero, List.set_cons_succ])
        refine wpAnyH_ready (rs := [7]) (by kernel_rfl) (by simp) ?_
        refine AllReadyH.cons (o := { dst := none, op := Op.store 22 (Operand.tmp 15) (Operand.tmp 14), type := 0, pos := "l06_texts.go:181", after := #[{ on := 6, ground := Ground.data }, { on := 5, ground := Ground.data }, { on := 5, ground := Ground.chain }, { on := 0, ground := Ground.phase }, { on := 1, ground := Ground.phase }, { on := 2, ground := Ground.phase }, { on := 3, ground := Ground.phase }, { on := 4, ground := Ground.phase }, { on := 5, ground := Ground.phase }], guard := none }) rfl (fun K hK => ?_) AllReadyH.nil
        obtain ⟨a6, c6, hv6⟩ : ∃ a6 c6, v6 = .slice a6 (L ++ [x]).length c6 := X6.out.2.2.1.len
        subst hv6
        obtain ⟨m6, hm6⟩ : ∃ m, (L ++ [x]).length = m := ⟨_, rfl⟩
        rw [hm6] at X6
        simp only [hm6]
        clear hm6
        go_simp
        refine hK.out _ _ trivial (fun hHeld => ?_)
        clear hK
        (try simp only [Act.put, List.setIfInBounds_toArray, List.set_cons_zero, List.set_cons_succ])
        refine wpAnyH_done (by kernel_rfl) ?_ _
        have X7 : Hid (BkS H (.slice a6 m6 c6) (.slice none 0 0) k (L ++ [x]) [] (w6.setCell ⟨H + 1, 1, none⟩ (.slice a6 m6 c6)) ∧ Rst (w6.setCell ⟨H + 1, 1, none⟩ (.slice a6 m6 c6)) p t' ∧ Glo (w6.setCell ⟨H + 1, 1, none⟩ (.slice a6 m6 c6)) ∧ Stp p w (w6.setCell ⟨H + 1, 1, none⟩ (.slice a6 m6 c6))) := ⟨X6.out, S6.out.2.1.far (by omega) _ _, S6.out.2.2.far (by omega) _ _, S6.out.1.setNew (p := ⟨H + 1, 1, none⟩) (by show w.heap.size ≤ H + 1; rw [HH.out]; omega) _⟩
        clear X6 S6 hz6 hf6
        go_wp2
        go_roundg t'.size
        case measure => have := HL2.out.2; omega
        case rel => exact ⟨t', L ++ [x], _, rfl, HL2.out.1, X7⟩
      refine AllReadyH.cons (o := { dst := some 13, op := Op.buildSlice 22 1 #[(0, Operand.tmp 12)], type := 22, pos := "l06_texts.go:181", after := #[{ on := 3, ground := Ground.data }], guard := none }) rfl (fun K hK => ?_) AllReadyH.nil
      go_simp
      obtain ⟨V5, hV5, X5⟩ : ∃ V, V = w4.alloc (.cells (accCells x).toArray 37) ∧ Hid (BkS H (.slice aa L.length cc) (.slice none 0 0) k L [] V ∧ Rst V p t' ∧ Glo V ∧ Stp p w V ∧ Vals V w4.heap.size (accCells x) ∧ H + 1 + 1 ≤ V.heap.size) := by
        have hb : Below w4.heap.size w4 (w4.alloc (.cells (accCells x).toArray 37)) := (Below.refl _ _).alloc (Nat.le_refl _) _
        exact ⟨_, rfl, X4.out.1.alloc _, X4.out.2.1.below hb, X4.out.2.2.1.below hb, X4.out.2.2.2.trans (Stp.ofBelow hb), Vals.new _ _ _, by have := X4.out.1.2.1.2.2; simp; omega⟩
      have SS5 : V5.cell? ⟨H + 1, 1, none⟩ = some (.slice aa L.length cc) := X5.out.1.2.1.1.2.1
      have HV5 : Hid (V5 = w4.alloc (.cells #[.int .i64 x.id, .int .i64 x.up, .int .i64 x.limit, .int .i64 x.rate, .int .i64 x.target, .bool x.frozen, .int .i64 x.balance, .int .i64 x.carry] 37)) := hV5
      clear hV5 SS4
      refine hK.out _ _ trivial (fun hHeld => ?_)
      rw [← HV5.out]
      clear hK
      obtain ⟨r5, hr5⟩ : ∃ r, w4.heap.size = r := ⟨_, rfl⟩
      try rw [hr5]
      rw [hr5] at X5
      clear X4 HV5 hr5
      have hbv : Hid (∀ q, (Value.slice aa L.length cc).ownBlock = some q → H + 1 + 1 ≤ q) := fun q hq => (X5.out.1.blk.1 q hq).1
      have NW : Hid (∀ j y, (accCells x)[j]? = some y → V5.cell? ((⟨r5, 0, none⟩ : Addr).add j) = some y) := fun j y hj => by
        have e : (⟨r5, 0, none⟩ : Addr).add j = ⟨r5, j, none⟩ := by cases j <;> simp [Addr.add]
        rw [e]
        exact X5.out.2.2.2.2.1.1 j y hj
      have ONE : Hid (∀ y ∈ accCells x, y.oneCell' = true) := fun y hy => by
        simp only [accCells, List.mem_cons, List.not_mem_nil, or_false] at hy
        rcases hy with e | e | e | e | e | e | e | e <;> subst e <;> rfl
      (try simp only [Act.put, List.setIfInBounds_toArray, List.set_cons_zero, List.set_cons_succ])
      refine wpAnyH_ready (rs := [1]) (by kernel_rfl) (by simp) ?_
      refine AllReadyH.cons (o := { dst := some 10, op := Op.load 22 (Operand.tmp 9), type := 22, pos := "l06_texts.go:181", after := #[{ on := 0, ground := Ground.data }], guard := none }) rfl (fun K hK => ?_) AllReadyH.nil
      go_simp
      refine hK.out _ _ trivial (fun hHeld => ?_)
      clear hK
      (try simp only [Act.put, List.setIfInBounds_toArray, List.set_cons_zero, List.set_cons_succ])
      refine wpAnyH_ready (rs := [5]) (by kernel_rfl) (by simp) ?_
      refine AllReadyH.cons (o := { dst := some 14, op := Op.call { callee := Callee.builtin Builtin.append, args := #[Operand.tmp 10, Operand.tmp 13], argTypes := #[22, 22] }, type := 22, pos := "l06_texts.go:181", after := #[{ on := 1, ground := Ground.data }, { on := 4, ground := Ground.data }, { on := 3, ground := Ground.chain }], guard := none }) rfl (fun K hK => ?_) AllReadyH.nil
      refine step_append_own _ (by rfl) _ _ 22 (by rfl) (H + 1 + 1) 37 iA _ 8 64 Tryz.underlying22 hA zA0 zA1 zA2 rfl (by decide) _ _ _ (by rfl) X5.out.1.2.2.1 ⟨r5, 0, none⟩ 1 1 (accCells x) (by rfl) rfl NW.out ONE.out (by unfold maxLen; omega) (by omega) X5.out.2.2.2.2.2 ?_
      intro v6 w6 hown hgrow
      have X6 : Hid (BkS H v6 (.slice none 0 0) k (L ++ [x]) [] (w6.setCell ⟨H + 1, 1, none⟩ v6)) := X5.out.1.addA hown hgrow
      have S6 : Hid (Stp p w w6 ∧ Rst w6 p t' ∧ Glo w6) := by
        have hh : w.heap.size ≤ H + 1 + 1 := by rw [HH.out]; omega
        have hbk : ∀ q, q < V5.heap.size → q < H + 1 + 1 → w6.heap[q]? = V5.heap[q]? := fun q hq hq2 => hgrow.block q hq (fun e => by have := hbv.out q e.symm; omega)
        have s1 : Stp p w w6 := ⟨hgrow.os.trans X5.out.2.2.2.1.os, hgrow.tape.trans X5.out.2.2.2.1.tape, hgrow.output.trans X5.out.2.2.2.1.output, Nat.le_trans X5.out.2.2.2.1.size hgrow.size, fun q hq hqp => (hbk q (Nat.lt_of_lt_of_le hq X5.out.2.2.2.1.size) (by omega)).trans (X5.out.2.2.2.1.block q hq hqp)⟩
        have ep := hbk p (by have := X5.out.2.1.2.2.2.1; omega) (by omega)
        exact ⟨s1, ⟨(World.cell?_of_block (w := V5) ep).trans X5.out.2.1.1, (World.frozen?_of_block (w := V5) ep).trans X5.out.2.1.2.1, h7, Nat.lt_of_lt_of_le X5.out.2.1.2.2.2.1 hgrow.size, X5.out.2.1.2.2.2.2⟩, G0.out.stp s1 h7⟩
      have hz6 : w6.cell? ⟨H + 1, 1, none⟩ = some (.slice aa L.length cc) := (World.cell?_of_block (w := V5) (hgrow.block (H + 1) X5.out.1.2.1.2.2 (fun e => by have := hbv.out _ e.symm; omega))).trans SS5
      have hf6 : w6.frozen? ⟨H + 1, 1, none⟩ = false := (World.frozen?_of_block (w := V5) (hgrow.block (H + 1) X5.out.1.2.1.2.2 (fun e => by have := hbv.out _ e.symm; omega))).trans (X5.out.1.2.1.2.1 1)
      clear hown hgrow
      refine hK.out _ _ trivial (fun hHeld => ?_)
      clear hK X5 SS5 hbv NW ONE
      (try simp only [Act.put, List.setIfInBounds_toArray, List.set_cons_zero, List.set_cons_succ])
      refine wpAnyH_take (i := 6) (oi := { dst := some 15, op := Op.fieldAddr 25 (Operand.tmp 3) 1, type := 0, pos := "l06_texts.go:181", after := #[{ on := 0, ground := Ground.phase }, { on := 1, ground := Ground.phase }, { on := 2, ground := Ground.phase }, { on := 3, ground := Ground.phase }, { on := 4, ground := Ground.phase }, { on := 5, ground := Ground.phase }], guard := none }) (v := ?_) rfl (by kernel_rfl) (by kernel_rfl) (by kernel_rfl) (fun _ _ _ h => h) (Or.inl ⟨by rfl, ?_⟩) trivial ?_
      rotate_left
      · intro wq hSw
        go_simp
        all_goals (with_reducible rfl)
      (try simp only [Act.put, List.setIfInBounds_toArray, List.set_cons_zero, List.set_cons_succ])
      refine wpAnyH_ready (rs := [7]) (by kernel_rfl) (by simp) ?_
      refine AllReadyH.cons (o := { dst := none, op := Op.store 22 (Operand.tmp 15) (Operand.tmp 14), type := 0, pos := "l06_texts.go:181", after := #[{ on := 6, ground := Ground.data }, { on := 5, ground := Ground.data }, { on := 5, ground := Ground.chain }, { on := 0, ground := Ground.phase }, { on := 1, ground := Ground.phase }, { on := 2, ground := Ground.phase }, { on := 3, ground := Ground.phase }, { on := 4, ground := Ground.phase }, { on := 5, ground := Ground.phase }], guard := none }) rfl (fun K hK => ?_) AllReadyH.nil
      obtain ⟨a6, c6, hv6⟩ : ∃ a6 c6, v6 = .slice a6 (L ++ [x]).length c6 := X6.out.2.2.1.len
      subst hv6
      obtain ⟨m6, hm6⟩ : ∃ m, (L ++ [x]).length = m := ⟨_, rfl⟩
      rw [hm6] at X6
      simp only [hm6]
      clear hm6
      go_simp
      refine hK.out _ _ trivial (fun hHeld => ?_)
      clear hK
      (try simp only [Act.put, List.setIfInBounds_toArray, List.set_cons_zero, List.set_cons_succ])
      refine wpAnyH_done (by kernel_rfl) ?_ _
      have X7 : Hid (BkS H (.slice a6 m6 c6) (.slice none 0 0) k (L ++ [x]) [] (w6.setCell ⟨H + 1, 1, none⟩ (.slice a6 m6 c6)) ∧ Rst (w6.setCell ⟨H + 1, 1, none⟩ (.slice a6 m6 c6)) p t' ∧ Glo (w6.setCell ⟨H + 1, 1, none⟩ (.slice a6 m6 c6)) ∧ Stp p w (w6.setCell ⟨H + 1, 1, none⟩ (.slice a6 m6 c6))) := ⟨X6.out, S6.out.2.1.far (by omega) _ _, S6.out.2.2.far (by omega) _ _, S6.out.1.setNew (p := ⟨H + 1, 1, none⟩) (by show w.heap.size ≤ H + 1; rw [HH.out]; omega) _⟩
      clear X6 S6 hz6 hf6
      go_wp2
      go_roundg t'.size
      case measure => have := HL2.out.2; omega
      case rel => exact ⟨t', L ++ [x], _, rfl, HL2.out.1, X7⟩
    | false =>
      have HB2 : Hid (readLines wAcc.data.toList 8 1048577 s1.data.toList = some (L.map acN, t.data.toList)) := HL.out.over HBO.out
      have HLL : Hid (L.length ≤ 1048576) := by have h1 := HL.out.2.1; have h2 := HS1.out; rw [lenD, lenD] at h1; simp only [List.length_map] at h1; show _ ≤ _; omega
      obtain ⟨s2, rfl⟩ : ∃ s2, s2 = t := ⟨t, rfl⟩
      have HS2 : Hid (s2.size ≤ 1048576) := X3.out.2.1.2.2.2.2
      clear HS1 HL HBO
      have HS1 : Hid (s2.size ≤ 1048576) := HS2.out
      clear HS2
      have X2 : Hid (BkS H v (.slice none 0 0) k L [] wr ∧ Rst wr p s2 ∧ Glo wr ∧ Stp p w wr) := X3.out
      clear X3
      go_wp2_with (go_at_call 27; refine A'.mono ?_; rintro e w9 ⟨rfl, hw9⟩; subst w9)
      clear A'
      go_loopg [17] s2.size (fun g _ wx => ∃ (t : ByteArray) (O : List Ord) (u : Value), t.size = g ∧ Hid (LTo wOrd.data.toList 7 1048577 s2.data.toList (O.map orN) t.data.toList) ∧ Hid (BkS H v u k L O wx ∧ Rst wx p t ∧ Glo wx ∧ Stp p w wx))
      case atStart => exact ⟨s2, [], .slice none 0 0, rfl, LTo.start _ _ _ _ (by omega), X2⟩
      case round =>
        clear X2
        obtain ⟨t, O, u, hg, HL, X3⟩ := hrel
        have A := aheadL p t ⟨#[111, 114, 100, 101, 114]⟩ wr X3.out.2.1
        obtain ⟨bo, hbo⟩ : ∃ bo, Lib.hasPrefix t.data.toList wOrd.data.toList = bo := ⟨_, rfl⟩
        have HBO : Hid (Lib.hasPrefix t.data.toList wOrd.data.toList = bo) := hbo
        have A' : Calls Tryz.prog 27 #[.pointer (some ⟨p, 0, none⟩), .string ⟨#[111, 114, 100, 101, 114]⟩] wr fun e w' => e = .returned (.bool bo) ∧ w' = wr := by rw [← hbo]; exact A
        clear A hbo
        cases bo with
        | true =>
          obtain ⟨aa, cc, hv⟩ : ∃ aa cc, u = .slice aa O.length cc := (by obtain ⟨a', c', hv, _⟩ := X3.out.1.2.2.2.shape; exact ⟨a', c', hv⟩)
          subst hv
          have hll : O.length ≤ 1048576 := by have h1 := HL.out.2.1; have h2 := HS1.out; rw [lenD, lenD] at h1; simp only [List.length_map] at h1; omega
          have SS : wr.drew.cell? ⟨H + 1, 2, none⟩ = some (.slice aa O.length cc) := X3.out.1.2.1.1.2.2.1
          have XD : Hid (BkS H v (.slice aa O.length cc) k L O wr.drew ∧ Rst wr.drew p t ∧ Glo wr.drew ∧ Stp p w wr.drew) := ⟨X3.out.1.stp (p := p) (Stp.drewd (Stp.refl _ _)) hpH, X3.out.2.1, Glo.drewd X3.out.2.2.1, Stp.drewd X3.out.2.2.2⟩
          clear X3
          go_wp2_with (go_at_call 27; refine A'.mono ?_; rintro e w9 ⟨rfl, hw9⟩; subst w9)
          clear A'
          refine wp_region_held_drew (S := fun _ => True) (by kernel_rfl) trivial (fun hHeld => ?_)
          refine wpAnyH_take (i := 0) (oi := { dst := some 18, op := Op.fieldAddr 25 (Operand.tmp 3) 2, type := 0, pos := "l06_texts.go:184", after := #[], guard := none }) (v := ?_) rfl (by kernel_rfl) (by kernel_rfl) (by kernel_rfl) (fun _ _ _ h => h) (Or.inl ⟨by rfl, ?_⟩) trivial ?_
          rotate_left
          · intro wq hSw
            go_simp
            all_goals (with_reducible rfl)
          (try simp only [Act.put, List.setIfInBounds_toArray, List.set_cons_zero, List.set_cons_succ])
          refine wpAnyH_take (i := 2) (oi := { dst := some 20, op := Op.move (Operand.tmp 0), type := 44, pos := "l06_texts.go:184", after := #[], guard := none }) (v := ?_) rfl (by kernel_rfl) (by kernel_rfl) (by kernel_rfl) (fun _ _ _ h => h) (Or.inl ⟨by rfl, ?_⟩) trivial ?_
          rotate_left
          · intro wq hSw
            go_simp
            all_goals (with_reducible rfl)
          (try simp only [Act.put, List.setIfInBounds_toArray, List.set_cons_zero, List.set_cons_succ])
          refine wpAnyH_ready (rs := [1, 3]) (by kernel_rfl) (by simp) ?_
          refine AllReadyH.cons (o := { dst := some 19, op := Op.load 23 (Operand.tmp 18), type := 23, pos := "l06_texts.go:184", after := #[{ on := 0, ground := Ground.data }], guard := none }) rfl (fun K hK => ?_) ?_
          · skip
            go_simp
            refine hK.out _ _ trivial (fun hHeld => ?_)
            clear hK
            (try simp only [Act.put, List.setIfInBounds_toArray, List.set_cons_zero, List.set_cons_succ])
            refine wpAnyH_ready (rs := [3]) (by kernel_rfl) (by simp) ?_
            refine AllReadyH.cons (o := { dst := some 21, op := Op.call { callee := Callee.value (Operand.func 29), args := #[Operand.tmp 20], argTypes := #[44] }, type := 39, pos := "l06_texts.go:184", after := #[{ on := 2, ground := Ground.data }], guard := none }) rfl (fun K hK => ?_) AllReadyH.nil
            go_simp
            refine (orderL p t _ XD.out.2.1 XD.out.2.2.1).mono ?_
            rintro e w4 ⟨S4, hor⟩
            rcases hor with ⟨x, t', hx, rfl, R4, G4⟩ | ⟨hx, t9, p9, rfl⟩
            rotate_left
            · exact ⟨rfl, XD.out.2.2.2.trans S4, Or.inr ⟨noO HB1.out HB2.out HL.out HBO.out hx, t9, p9, rfl⟩⟩
            have X4 : Hid (BkS H v (.slice aa O.length cc) k L O w4 ∧ Rst w4 p t' ∧ Glo w4 ∧ Stp p w w4) := ⟨XD.out.1.stp S4 hpH, R4, G4, XD.out.2.2.2.trans S4⟩
            have HL2 : Hid (LTo wOrd.data.toList 7 1048577 s2.data.toList ((O ++ [x]).map orN) t'.data.toList ∧ t'.size < t.size) := by
              have h1 := HL.out.step (by have := HS1.out; rw [lenD]; omega) HBO.out hx
              refine ⟨by simpa using h1, ?_⟩
              have h3 := congrArg List.length (readLine_is hx).1
              rw [lenD] at h3
              simp [lineL] at h3
              omega
            clear S4 R4 G4 hx
            have SS4 : w4.cell? ⟨H + 1, 2, none⟩ = some (.slice aa O.length cc) := X4.out.1.2.1.1.2.2.1
            refine hK.out _ _ trivial (fun hHeld => ?_)
            clear hK SS
            (try simp only [Act.put, List.setIfInBounds_toArray, List.set_cons_zero, List.set_cons_succ])
            simp only [OrdC]
            refine wpAnyH_ready (rs := [4]) (by kernel_rfl) (by simp) ?_
            refine AllReadyH.cons (o := { dst := some 22, op := Op.buildSlice 23 1 #[(0, Operand.tmp 21)], type := 23, pos := "l06_texts.go:184", after := #[{ on := 3, ground := Ground.data }], guard := none }) rfl (fun K hK => ?_) AllReadyH.nil
            go_simp
            obtain ⟨V5, hV5, X5⟩ : ∃ V, V = w4.alloc (.cells (OrdC x).toArray 39) ∧ Hid (BkS H v (.slice aa O.length cc) k L O V ∧ Rst V p t' ∧ Glo V ∧ Stp p w V ∧ Vals V w4.heap.size (OrdC x) ∧ H + 1 + 1 ≤ V.heap.size) := by
              have hb : Below w4.heap.size w4 (w4.alloc (.cells (OrdC x).toArray 39)) := (Below.refl _ _).alloc (Nat.le_refl _) _
              exact ⟨_, rfl, X4.out.1.alloc _, X4.out.2.1.below hb, X4.out.2.2.1.below hb, X4.out.2.2.2.trans (Stp.ofBelow hb), Vals.new _ _ _, by have := X4.out.1.2.1.2.2; simp; omega⟩
            have SS5 : V5.cell? ⟨H + 1, 2, none⟩ = some (.slice aa O.length cc) := X5.out.1.2.1.1.2.2.1
            have HV5 : Hid (V5 = w4.alloc (.cells #[.int .i64 x.id, .int .i64 x.src, .int .i64 x.dst, .int .i64 x.amount, .int .i64 x.first, .int .i64 x.every, .int .i64 x.times] 39)) := hV5
            clear hV5 SS4
            refine hK.out _ _ trivial (fun hHeld => ?_)
            rw [← HV5.out]
            clear hK
            obtain ⟨r5, hr5⟩ : ∃ r, w4.heap.size = r := ⟨_, rfl⟩
            try rw [hr5]
            rw [hr5] at X5
            clear X4 HV5 hr5
            have hbv : Hid (∀ q, (Value.slice aa O.length cc).ownBlock = some q → H + 1 + 1 ≤ q) := fun q hq => (X5.out.1.blk.2 q hq).1
            have NW : Hid (∀ j y, (OrdC x)[j]? = some y → V5.cell? ((⟨r5, 0, none⟩ : Addr).add j) = some y) := fun j y hj => by
              have e : (⟨r5, 0, none⟩ : Addr).add j = ⟨r5, j, none⟩ := by cases j <;> simp [Addr.add]
              rw [e]
              exact X5.out.2.2.2.2.1.1 j y hj
            have ONE : Hid (∀ y ∈ OrdC x, y.oneCell' = true) := fun y hy => by
              simp only [OrdC, List.mem_cons, List.not_mem_nil, or_false] at hy
              rcases hy with e | e | e | e | e | e | e <;> subst e <;> rfl
            (try simp only [Act.put, List.setIfInBounds_toArray, List.set_cons_zero, List.set_cons_succ])
            refine wpAnyH_ready (rs := [5]) (by kernel_rfl) (by simp) ?_
            refine AllReadyH.cons (o := { dst := some 23, op := Op.call { callee := Callee.builtin Builtin.append, args := #[Operand.tmp 19, Operand.tmp 22], argTypes := #[23, 23] }, type := 23, pos := "l06_texts.go:184", after := #[{ on := 1, ground := Ground.data }, { on := 4, ground := Ground.data }, { on := 3, ground := Ground.chain }], guard := none }) rfl (fun K hK => ?_) AllReadyH.nil
            refine step_append_own _ (by rfl) _ _ 23 (by rfl) (H + 1 + 1) 39 iB _ 7 56 Tryz.underlying23 hB zB0 zB1 zB2 rfl (by decide) _ _ _ (by rfl) X5.out.1.2.2.2 ⟨r5, 0, none⟩ 1 1 (OrdC x) (by rfl) rfl NW.out ONE.out (by unfold maxLen; omega) (by omega) X5.out.2.2.2.2.2 ?_
            intro v6 w6 hown hgrow
            have X6 : Hid (BkS H v v6 k L (O ++ [x]) (w6.setCell ⟨H + 1, 2, none⟩ v6)) := X5.out.1.addO hown hgrow
            have S6 : Hid (Stp p w w6 ∧ Rst w6 p t' ∧ Glo w6) := by
              have hh : w.heap.size ≤ H + 1 + 1 := by rw [HH.out]; omega
              have hbk : ∀ q, q < V5.heap.size → q < H + 1 + 1 → w6.heap[q]? = V5.heap[q]? := fun q hq hq2 => hgrow.block q hq (fun e => by have := hbv.out q e.symm; omega)
              have s1 : Stp p w w6 := ⟨hgrow.os.trans X5.out.2.2.2.1.os, hgrow.tape.trans X5.out.2.2.2.1.tape, hgrow.output.trans X5.out.2.2.2.1.output, Nat.le_trans X5.out.2.2.2.1.size hgrow.size, fun q hq hqp => (hbk q (Nat.lt_of_lt_of_le hq X5.out.2.2.2.1.size) (by omega)).trans (X5.out.2.2.2.1.block q hq hqp)⟩
              have ep := hbk p (by have := X5.out.2.1.2.2.2.1; omega) (by omega)
              exact ⟨s1, ⟨(World.cell?_of_block (w := V5) ep).trans X5.out.2.1.1, (World.frozen?_of_block (w := V5) ep).trans X5.out.2.1.2.1, h7, Nat.lt_of_lt_of_le X5.out.2.1.2.2.2.1 hgrow.size, X5.out.2.1.2.2.2.2⟩, G0.out.stp s1 h7⟩
            have hz6 : w6.cell? ⟨H + 1, 2, none⟩ = some (.slice aa O.length cc) := (World.cell?_of_block (w := V5) (hgrow.block (H + 1) X5.out.1.2.1.2.2 (fun e => by have := hbv.out _ e.symm; omega))).trans SS5
            have hf6 : w6.frozen? ⟨H + 1, 2, none⟩ = false := (World.frozen?_of_block (w := V5) (hgrow.block (H + 1) X5.out.1.2.1.2.2 (fun e => by have := hbv.out _ e.symm; omega))).trans (X5.out.1.2.1.2.1 2)
            clear hown hgrow
            refine hK.out _ _ trivial (fun hHeld => ?_)
            clear hK X5 SS5 hbv NW ONE
            (try simp only [Act.put, List.setIfInBounds_toArray, List.set_cons_zero, List.set_cons_succ])
            refine wpAnyH_take (i := 6) (oi := { dst := some 24, op := Op.fieldAddr 25 (Operand.tmp 3) 2, type := 0, pos := "l06_texts.go:184", after := #[{ on := 0, ground := Ground.phase }, { on := 1, ground := Ground.phase }, { on := 2, ground := Ground.phase }, { on := 3, ground := Ground.phase }, { on := 4, ground := Ground.phase }, { on := 5, ground := Ground.phase }], guard := none }) (v := ?_) rfl (by kernel_rfl) (by kernel_rfl) (by kernel_rfl) (fun _ _ _ h => h) (Or.inl ⟨by rfl, ?_⟩) trivial ?_
            rotate_left
            · intro wq hSw
              go_simp
              all_goals (with_reducible rfl)
            (try simp only [Act.put, List.setIfInBounds_toArray, List.set_cons_zero, List.set_cons_succ])
            refine wpAnyH_ready (rs := [7]) (by kernel_rfl) (by simp) ?_
            refine AllReadyH.cons (o := { dst := none, op := Op.store 23 (Operand.tmp 24) (Operand.tmp 23), type := 0, pos := "l06_texts.go:184", after := #[{ on := 6, ground := Ground.data }, { on := 5, ground := Ground.data }, { on := 5, ground := Ground.chain }, { on := 0, ground := Ground.phase }, { on := 1, ground := Ground.phase }, { on := 2, ground := Ground.phase }, { on := 3, ground := Ground.phase }, { on := 4, ground := Ground.phase }, { on := 5, ground := Ground.phase }], guard := none }) rfl (fun K hK => ?_) AllReadyH.nil
            obtain ⟨a6, c6, hv6⟩ : ∃ a6 c6, v6 = .slice a6 (O ++ [x]).length c6 := (by obtain ⟨a', c', hv, _⟩ := X6.out.2.2.2.shape; exact ⟨a', c', hv⟩)
            subst hv6
            obtain ⟨m6, hm6⟩ : ∃ m, (O ++ [x]).length = m := ⟨_, rfl⟩
            rw [hm6] at X6
            simp only [hm6]
            clear hm6
            go_simp
            refine hK.out _ _ trivial (fun hHeld => ?_)
            clear hK
            (try simp only [Act.put, List.setIfInBounds_toArray, List.set_cons_zero, List.set_cons_succ])
            refine wpAnyH_done (by kernel_rfl) ?_ _
            have X7 : Hid (BkS H v (.slice a6 m6 c6) k L (O ++ [x]) (w6.setCell ⟨H + 1, 2, none⟩ (.slice a6 m6 c6)) ∧ Rst (w6.setCell ⟨H + 1, 2, none⟩ (.slice a6 m6 c6)) p t' ∧ Glo (w6.setCell ⟨H + 1, 2, none⟩ (.slice a6 m6 c6)) ∧ Stp p w (w6.setCell ⟨H + 1, 2, none⟩ (.slice a6 m6 c6))) := ⟨X6.out, S6.out.2.1.far (by omega) _ _, S6.out.2.2.far (by omega) _ _, S6.out.1.setNew (p := ⟨H + 1, 2, none⟩) (by show w.heap.size ≤ H + 1; rw [HH.out]; omega) _⟩
            clear X6 S6 hz6 hf6
            go_wp2
            go_roundg t'.size
            case measure => have := HL2.out.2; omega
            case rel => exact ⟨t', O ++ [x], _, rfl, HL2.out.1, X7⟩
          refine AllReadyH.cons (o := { dst := some 21, op := Op.call { callee := Callee.value (Operand.func 29), args := #[Operand.tmp 20], argTypes := #[44] }, type := 39, pos := "l06_texts.go:184", after := #[{ on := 2, ground := Ground.data }], guard := none }) rfl (fun K hK => ?_) AllReadyH.nil
          go_simp
          refine (orderL p t _ XD.out.2.1 XD.out.2.2.1).mono ?_
          rintro e w4 ⟨S4, hor⟩
          rcases hor with ⟨x, t', hx, rfl, R4, G4⟩ | ⟨hx, t9, p9, rfl⟩
          rotate_left
          · exact ⟨rfl, XD.out.2.2.2.trans S4, Or.inr ⟨noO HB1.out HB2.out HL.out HBO.out hx, t9, p9, rfl⟩⟩
          have X4 : Hid (BkS H v (.slice aa O.length cc) k L O w4 ∧ Rst w4 p t' ∧ Glo w4 ∧ Stp p w w4) := ⟨XD.out.1.stp S4 hpH, R4, G4, XD.out.2.2.2.trans S4⟩
          have HL2 : Hid (LTo wOrd.data.toList 7 1048577 s2.data.toList ((O ++ [x]).map orN) t'.data.toList ∧ t'.size < t.size) := by
            have h1 := HL.out.step (by have := HS1.out; rw [lenD]; omega) HBO.out hx
            refine ⟨by simpa using h1, ?_⟩
            have h3 := congrArg List.length (readLine_is hx).1
            rw [lenD] at h3
            simp [lineL] at h3
            omega
          clear S4 R4 G4 hx
          have SS4 : w4.cell? ⟨H + 1, 2, none⟩ = some (.slice aa O.length cc) := X4.out.1.2.1.1.2.2.1
          refine hK.out _ _ trivial (fun hHeld => ?_)
          clear hK SS
          (try simp only [Act.put, List.setIfInBounds_toArray, List.set_cons_zero, List.set_cons_succ])
          simp only [OrdC]
          refine wpAnyH_ready (rs := [1, 4]) (by kernel_rfl) (by simp) ?_
          refine AllReadyH.cons (o := { dst := some 19, op := Op.load 23 (Operand.tmp 18), type := 23, pos := "l06_texts.go:184", after := #[{ on := 0, ground := Ground.data }], guard := none }) rfl (fun K hK => ?_) ?_
          · skip
            go_simp
            refine hK.out _ _ trivial (fun hHeld => ?_)
            clear hK
            (try simp only [Act.put, List.setIfInBounds_toArray, List.set_cons_zero, List.set_cons_succ])
            refine wpAnyH_ready (rs := [4]) (by kernel_rfl) (by simp) ?_
            refine AllReadyH.cons (o := { dst := some 22, op := Op.buildSlice 23 1 #[(0, Operand.tmp 21)], type := 23, pos := "l06_texts.go:184", after := #[{ on := 3, ground := Ground.data }], guard := none }) rfl (fun K hK => ?_) AllReadyH.nil
            go_simp
            obtain ⟨V5, hV5, X5⟩ : ∃ V, V = w4.alloc (.cells (OrdC x).toArray 39) ∧ Hid (BkS H v (.slice aa O.length cc) k L O V ∧ Rst V p t' ∧ Glo V ∧ Stp p w V ∧ Vals V w4.heap.size (OrdC x) ∧ H + 1 + 1 ≤ V.heap.size) := by
              have hb : Below w4.heap.size w4 (w4.alloc (.cells (OrdC x).toArray 39)) := (Below.refl _ _).alloc (Nat.le_refl _) _
              exact ⟨_, rfl, X4.out.1.alloc _, X4.out.2.1.below hb, X4.out.2.2.1.below hb, X4.out.2.2.2.trans (Stp.ofBelow hb), Vals.new _ _ _, by have := X4.out.1.2.1.2.2; simp; omega⟩
            have SS5 : V5.cell? ⟨H + 1, 2, none⟩ = some (.slice aa O.length cc) := X5.out.1.2.1.1.2.2.1
            have HV5 : Hid (V5 = w4.alloc (.cells #[.int .i64 x.id, .int .i64 x.src, .int .i64 x.dst, .int .i64 x.amount, .int .i64 x.first, .int .i64 x.every, .int .i64 x.times] 39)) := hV5
            clear hV5 SS4
            refine hK.out _ _ trivial (fun hHeld => ?_)
            rw [← HV5.out]
            clear hK
            obtain ⟨r5, hr5⟩ : ∃ r, w4.heap.size = r := ⟨_, rfl⟩
            try rw [hr5]
            rw [hr5] at X5
            clear X4 HV5 hr5
            have hbv : Hid (∀ q, (Value.slice aa O.length cc).ownBlock = some q → H + 1 + 1 ≤ q) := fun q hq => (X5.out.1.blk.2 q hq).1
            have NW : Hid (∀ j y, (OrdC x)[j]? = some y → V5.cell? ((⟨r5, 0, none⟩ : Addr).add j) = some y) := fun j y hj => by
              have e : (⟨r5, 0, none⟩ : Addr).add j = ⟨r5, j, none⟩ := by cases j <;> simp [Addr.add]
              rw [e]
              exact X5.out.2.2.2.2.1.1 j y hj
            have ONE : Hid (∀ y ∈ OrdC x, y.oneCell' = true) := fun y hy => by
              simp only [OrdC, List.mem_cons, List.not_mem_nil, or_false] at hy
              rcases hy with e | e | e | e | e | e | e <;> subst e <;> rfl
            (try simp only [Act.put, List.setIfInBounds_toArray, List.set_cons_zero, List.set_cons_succ])
            refine wpAnyH_ready (rs := [5]) (by kernel_rfl) (by simp) ?_
            refine AllReadyH.cons (o := { dst := some 23, op := Op.call { callee := Callee.builtin Builtin.append, args := #[Operand.tmp 19, Operand.tmp 22], argTypes := #[23, 23] }, type := 23, pos := "l06_texts.go:184", after := #[{ on := 1, ground := Ground.data }, { on := 4, ground := Ground.data }, { on := 3, ground := Ground.chain }], guard := none }) rfl (fun K hK => ?_) AllReadyH.nil
            refine step_append_own _ (by rfl) _ _ 23 (by rfl) (H + 1 + 1) 39 iB _ 7 56 Tryz.underlying23 hB zB0 zB1 zB2 rfl (by decide) _ _ _ (by rfl) X5.out.1.2.2.2 ⟨r5, 0, none⟩ 1 1 (OrdC x) (by rfl) rfl NW.out ONE.out (by unfold maxLen; omega) (by omega) X5.out.2.2.2.2.2 ?_
            intro v6 w6 hown hgrow
            have X6 : Hid (BkS H v v6 k L (O ++ [x]) (w6.setCell ⟨H + 1, 2, none⟩ v6)) := X5.out.1.addO hown hgrow
            have S6 : Hid (Stp p w w6 ∧ Rst w6 p t' ∧ Glo w6) := by
              have hh : w.heap.size ≤ H + 1 + 1 := by rw [HH.out]; omega
              have hbk : ∀ q, q < V5.heap.size → q < H + 1 + 1 → w6.heap[q]? = V5.heap[q]? := fun q hq hq2 => hgrow.block q hq (fun e => by have := hbv.out q e.symm; omega)
              have s1 : Stp p w w6 := ⟨hgrow.os.trans X5.out.2.2.2.1.os, hgrow.tape.trans X5.out.2.2.2.1.tape, hgrow.output.trans X5.out.2.2.2.1.output, Nat.le_trans X5.out.2.2.2.1.size hgrow.size, fun q hq hqp => (hbk q (Nat.lt_of_lt_of_le hq X5.out.2.2.2.1.size) (by omega)).trans (X5.out.2.2.2.1.block q hq hqp)⟩
              have ep := hbk p (by have := X5.out.2.1.2.2.2.1; omega) (by omega)
              exact ⟨s1, ⟨(World.cell?_of_block (w := V5) ep).trans X5.out.2.1.1, (World.frozen?_of_block (w := V5) ep).trans X5.out.2.1.2.1, h7, Nat.lt_of_lt_of_le X5.out.2.1.2.2.2.1 hgrow.size, X5.out.2.1.2.2.2.2⟩, G0.out.stp s1 h7⟩
            have hz6 : w6.cell? ⟨H + 1, 2, none⟩ = some (.slice aa O.length cc) := (World.cell?_of_block (w := V5) (hgrow.block (H + 1) X5.out.1.2.1.2.2 (fun e => by have := hbv.out _ e.symm; omega))).trans SS5
            have hf6 : w6.frozen? ⟨H + 1, 2, none⟩ = false := (World.frozen?_of_block (w := V5) (hgrow.block (H + 1) X5.out.1.2.1.2.2 (fun e => by have := hbv.out _ e.symm; omega))).trans (X5.out.1.2.1.2.1 2)
            clear hown hgrow
            refine hK.out _ _ trivial (fun hHeld => ?_)
            clear hK X5 SS5 hbv NW ONE
            (try simp only [Act.put, List.setIfInBounds_toArray, List.set_cons_zero, List.set_cons_succ])
            refine wpAnyH_take (i := 6) (oi := { dst := some 24, op := Op.fieldAddr 25 (Operand.tmp 3) 2, type := 0, pos := "l06_texts.go:184", after := #[{ on := 0, ground := Ground.phase }, { on := 1, ground := Ground.phase }, { on := 2, ground := Ground.phase }, { on := 3, ground := Ground.phase }, { on := 4, ground := Ground.phase }, { on := 5, ground := Ground.phase }], guard := none }) (v := ?_) rfl (by kernel_rfl) (by kernel_rfl) (by kernel_rfl) (fun _ _ _ h => h) (Or.inl ⟨by rfl, ?_⟩) trivial ?_
            rotate_left
            · intro wq hSw
              go_simp
              all_goals (with_reducible rfl)
            (try simp only [Act.put, List.setIfInBounds_toArray, List.set_cons_zero, List.set_cons_succ])
            refine wpAnyH_ready (rs := [7]) (by kernel_rfl) (by simp) ?_
            refine AllReadyH.cons (o := { dst := none, op := Op.store 23 (Operand.tmp 24) (Operand.tmp 23), type := 0, pos := "l06_texts.go:184", after := #[{ on := 6, ground := Ground.data }, { on := 5, ground := Ground.data }, { on := 5, ground := Ground.chain }, { on := 0, ground := Ground.phase }, { on := 1, ground := Ground.phase }, { on := 2, ground := Ground.phase }, { on := 3, ground := Ground.phase }, { on := 4, ground := Ground.phase }, { on := 5, ground := Ground.phase }], guard := none }) rfl (fun K hK => ?_) AllReadyH.nil
            obtain ⟨a6, c6, hv6⟩ : ∃ a6 c6, v6 = .slice a6 (O ++ [x]).length c6 := (by obtain ⟨a', c', hv, _⟩ := X6.out.2.2.2.shape; exact ⟨a', c', hv⟩)
            subst hv6
            obtain ⟨m6, hm6⟩ : ∃ m, (O ++ [x]).length = m := ⟨_, rfl⟩
            rw [hm6] at X6
            simp only [hm6]
            clear hm6
            go_simp
            refine hK.out _ _ trivial (fun hHeld => ?_)
            clear hK
            (try simp only [Act.put, List.setIfInBounds_toArray, List.set_cons_zero, List.set_cons_succ])
            refine wpAnyH_done (by kernel_rfl) ?_ _
            have X7 : Hid (BkS H v (.slice a6 m6 c6) k L (O ++ [x]) (w6.setCell ⟨H + 1, 2, none⟩ (.slice a6 m6 c6)) ∧ Rst (w6.setCell ⟨H + 1, 2, none⟩ (.slice a6 m6 c6)) p t' ∧ Glo (w6.setCell ⟨H + 1, 2, none⟩ (.slice a6 m6 c6)) ∧ Stp p w (w6.setCell ⟨H + 1, 2, none⟩ (.slice a6 m6 c6))) := ⟨X6.out, S6.out.2.1.far (by omega) _ _, S6.out.2.2.far (by omega) _ _, S6.out.1.setNew (p := ⟨H + 1, 2, none⟩) (by show w.heap.size ≤ H + 1; rw [HH.out]; omega) _⟩
            clear X6 S6 hz6 hf6
            go_wp2
            go_roundg t'.size
            case measure => have := HL2.out.2; omega
            case rel => exact ⟨t', O ++ [x], _, rfl, HL2.out.1, X7⟩
          refine AllReadyH.cons (o := { dst := some 22, op := Op.buildSlice 23 1 #[(0, Operand.tmp 21)], type := 23, pos := "l06_texts.go:184", after := #[{ on := 3, ground := Ground.data }], guard := none }) rfl (fun K hK => ?_) AllReadyH.nil
          go_simp
          obtain ⟨V5, hV5, X5⟩ : ∃ V, V = w4.alloc (.cells (OrdC x).toArray 39) ∧ Hid (BkS H v (.slice aa O.length cc) k L O V ∧ Rst V p t' ∧ Glo V ∧ Stp p w V ∧ Vals V w4.heap.size (OrdC x) ∧ H + 1 + 1 ≤ V.heap.size) := by
            have hb : Below w4.heap.size w4 (w4.alloc (.cells (OrdC x).toArray 39)) := (Below.refl _ _).alloc (Nat.le_refl _) _
            exact ⟨_, rfl, X4.out.1.alloc _, X4.out.2.1.below hb, X4.out.2.2.1.below hb, X4.out.2.2.2.trans (Stp.ofBelow hb), Vals.new _ _ _, by have := X4.out.1.2.1.2.2; simp; omega⟩
          have SS5 : V5.cell? ⟨H + 1, 2, none⟩ = some (.slice aa O.length cc) := X5.out.1.2.1.1.2.2.1
          have HV5 : Hid (V5 = w4.alloc (.cells #[.int .i64 x.id, .int .i64 x.src, .int .i64 x.dst, .int .i64 x.amount, .int .i64 x.first, .int .i64 x.every, .int .i64 x.times] 39)) := hV5
          clear hV5 SS4
          refine hK.out _ _ trivial (fun hHeld => ?_)
          rw [← HV5.out]
          clear hK
          obtain ⟨r5, hr5⟩ : ∃ r, w4.heap.size = r := ⟨_, rfl⟩
          try rw [hr5]
          rw [hr5] at X5
          clear X4 HV5 hr5
          have hbv : Hid (∀ q, (Value.slice aa O.length cc).ownBlock = some q → H + 1 + 1 ≤ q) := fun q hq => (X5.out.1.blk.2 q hq).1
          have NW : Hid (∀ j y, (OrdC x)[j]? = some y → V5.cell? ((⟨r5, 0, none⟩ : Addr).add j) = some y) := fun j y hj => by
            have e : (⟨r5, 0, none⟩ : Addr).add j = ⟨r5, j, none⟩ := by cases j <;> simp [Addr.add]
            rw [e]
            exact X5.out.2.2.2.2.1.1 j y hj
          have ONE : Hid (∀ y ∈ OrdC x, y.oneCell' = true) := fun y hy => by
            simp only [OrdC, List.mem_cons, List.not_mem_nil, or_false] at hy
            rcases hy with e | e | e | e | e | e | e <;> subst e <;> rfl
          (try simp only [Act.put, List.setIfInBounds_toArray, List.set_cons_zero, List.set_cons_succ])
          refine wpAnyH_ready (rs := [1]) (by kernel_rfl) (by simp) ?_
          refine AllReadyH.cons (o := { dst := some 19, op := Op.load 23 (Operand.tmp 18), type := 23, pos := "l06_texts.go:184", after := #[{ on := 0, ground := Ground.data }], guard := none }) rfl (fun K hK => ?_) AllReadyH.nil
          go_simp
          refine hK.out _ _ trivial (fun hHeld => ?_)
          clear hK
          (try simp only [Act.put, List.setIfInBounds_toArray, List.set_cons_zero, List.set_cons_succ])
          refine wpAnyH_ready (rs := [5]) (by kernel_rfl) (by simp) ?_
          refine AllReadyH.cons (o := { dst := some 23, op := Op.call { callee := Callee.builtin Builtin.append, args := #[Operand.tmp 19, Operand.tmp 22], argTypes := #[23, 23] }, type := 23, pos := "l06_texts.go:184", after := #[{ on := 1, ground := Ground.data }, { on := 4, ground := Ground.data }, { on := 3, ground := Ground.chain }], guard := none }) rfl (fun K hK => ?_) AllReadyH.nil
          refine step_append_own _ (by rfl) _ _ 23 (by rfl) (H + 1 + 1) 39 iB _ 7 56 Tryz.underlying23 hB zB0 zB1 zB2 rfl (by decide) _ _ _ (by rfl) X5.out.1.2.2.2 ⟨r5, 0, none⟩ 1 1 (OrdC x) (by rfl) rfl NW.out ONE.out (by unfold maxLen; omega) (by omega) X5.out.2.2.2.2.2 ?_
          intro v6 w6 hown hgrow
          have X6 : Hid (BkS H v v6 k L (O ++ [x]) (w6.setCell ⟨H + 1, 2, none⟩ v6)) := X5.out.1.addO hown hgrow
          have S6 : Hid (Stp p w w6 ∧ Rst w6 p t' ∧ Glo w6) := by
            have hh : w.heap.size ≤ H + 1 + 1 := by rw [HH.out]; omega
            have hbk : ∀ q, q < V5.heap.size → q < H + 1 + 1 → w6.heap[q]? = V5.heap[q]? := fun q hq hq2 => hgrow.block q hq (fun e => by have := hbv.out q e.symm; omega)
            have s1 : Stp p w w6 := ⟨hgrow.os.trans X5.out.2.2.2.1.os, hgrow.tape.trans X5.out.2.2.2.1.tape, hgrow.output.trans X5.out.2.2.2.1.output, Nat.le_trans X5.out.2.2.2.1.size hgrow.size, fun q hq hqp => (hbk q (Nat.lt_of_lt_of_le hq X5.out.2.2.2.1.size) (by omega)).trans (X5.out.2.2.2.1.block q hq hqp)⟩
            have ep := hbk p (by have := X5.out.2.1.2.2.2.1; omega) (by omega)
            exact ⟨s1, ⟨(World.cell?_of_block (w := V5) ep).trans X5.out.2.1.1, (World.frozen?_of_block (w := V5) ep).trans X5.out.2.1.2.1, h7, Nat.lt_of_lt_of_le X5.out.2.1.2.2.2.1 hgrow.size, X5.out.2.1.2.2.2.2⟩, G0.out.stp s1 h7⟩
          have hz6 : w6.cell? ⟨H + 1, 2, none⟩ = some (.slice aa O.length cc) := (World.cell?_of_block (w := V5) (hgrow.block (H + 1) X5.out.1.2.1.2.2 (fun e => by have := hbv.out _ e.symm; omega))).trans SS5
          have hf6 : w6.frozen? ⟨H + 1, 2, none⟩ = false := (World.frozen?_of_block (w := V5) (hgrow.block (H + 1) X5.out.1.2.1.2.2 (fun e => by have := hbv.out _ e.symm; omega))).trans (X5.out.1.2.1.2.1 2)
          clear hown hgrow
          refine hK.out _ _ trivial (fun hHeld => ?_)
          clear hK X5 SS5 hbv NW ONE
          (try simp only [Act.put, List.setIfInBounds_toArray, List.set_cons_zero, List.set_cons_succ])
          refine wpAnyH_take (i := 6) (oi := { dst := some 24, op := Op.fieldAddr 25 (Operand.tmp 3) 2, type := 0, pos := "l06_texts.go:184", after := #[{ on := 0, ground := Ground.phase }, { on := 1, ground := Ground.phase }, { on := 2, ground := Ground.phase }, { on := 3, ground := Ground.phase }, { on := 4, ground := Ground.phase }, { on := 5, ground := Ground.phase }], guard := none }) (v := ?_) rfl (by kernel_rfl) (by kernel_rfl) (by kernel_rfl) (fun _ _ _ h => h) (Or.inl ⟨by rfl, ?_⟩) trivial ?_
          rotate_left
          · intro wq hSw
            go_simp
            all_goals (with_reducible rfl)
          (try simp only [Act.put, List.setIfInBounds_toArray, List.set_cons_zero, List.set_cons_succ])
          refine wpAnyH_ready (rs := [7]) (by kernel_rfl) (by simp) ?_
          refine AllReadyH.cons (o := { dst := none, op := Op.store 23 (Operand.tmp 24) (Operand.tmp 23), type := 0, pos := "l06_texts.go:184", after := #[{ on := 6, ground := Ground.data }, { on := 5, ground := Ground.data }, { on := 5, ground := Ground.chain }, { on := 0, ground := Ground.phase }, { on := 1, ground := Ground.phase }, { on := 2, ground := Ground.phase }, { on := 3, ground := Ground.phase }, { on := 4, ground := Ground.phase }, { on := 5, ground := Ground.phase }], guard := none }) rfl (fun K hK => ?_) AllReadyH.nil
          obtain ⟨a6, c6, hv6⟩ : ∃ a6 c6, v6 = .slice a6 (O ++ [x]).length c6 := (by obtain ⟨a', c', hv, _⟩ := X6.out.2.2.2.shape; exact ⟨a', c', hv⟩)
          subst hv6
          obtain ⟨m6, hm6⟩ : ∃ m, (O ++ [x]).length = m := ⟨_, rfl⟩
          rw [hm6] at X6
          simp only [hm6]
          clear hm6
          go_simp
          refine hK.out _ _ trivial (fun hHeld => ?_)
          clear hK
          (try simp only [Act.put, List.setIfInBounds_toArray, List.set_cons_zero, List.set_cons_succ])
          refine wpAnyH_done (by kernel_rfl) ?_ _
          have X7 : Hid (BkS H v (.slice a6 m6 c6) k L (O ++ [x]) (w6.setCell ⟨H + 1, 2, none⟩ (.slice a6 m6 c6)) ∧ Rst (w6.setCell ⟨H + 1, 2, none⟩ (.slice a6 m6 c6)) p t' ∧ Glo (w6.setCell ⟨H + 1, 2, none⟩ (.slice a6 m6 c6)) ∧ Stp p w (w6.setCell ⟨H + 1, 2, none⟩ (.slice a6 m6 c6))) := ⟨X6.out, S6.out.2.1.far (by omega) _ _, S6.out.2.2.far (by omega) _ _, S6.out.1.setNew (p := ⟨H + 1, 2, none⟩) (by show w.heap.size ≤ H + 1; rw [HH.out]; omega) _⟩
          clear X6 S6 hz6 hf6
          go_wp2
          go_roundg t'.size
          case measure => have := HL2.out.2; omega
          case rel => exact ⟨t', O ++ [x], _, rfl, HL2.out.1, X7⟩
        | false =>
          have HB3 : Hid (readLines wOrd.data.toList 7 1048577 s2.data.toList = some (O.map orN, t.data.toList)) := HL.out.over HBO.out
          have hL1 : L.length ≤ 1048576 := HLL.out
          have hO1 : O.length ≤ 1048576 := by have h1 := HL.out.2.1; have h2 := HS1.out; rw [lenD, lenD] at h1; simp only [List.length_map] at h1; omega
          obtain ⟨a1, c1, hv⟩ := X3.out.1.2.2.1.len
          obtain ⟨a2, c2, hu, _⟩ := X3.out.1.2.2.2.shape
          subst hv
          subst hu
          have HF : Hid (∀ W, BkS H (.slice a1 L.length c1) (.slice a2 O.length c2) k L O W → Fo W a1 L.length (FL L) ∧ Ords W a2 O.length (OrdF O)) := fun W hb => ⟨(hb.2.2.1.fo hL1).2, (hb.2.2.2.list hO1).2⟩
          have HR : Hid ((bankOk (FL L) L.length (OrdF O) O.length k → RdB s.data.toList k L O t.data.toList) ∧ (∀ k' L' O' t', RdB s.data.toList k' L' O' t' → bankOk (FL L) L.length (OrdF O) O.length k)) := by
            refine ⟨fun hb => ⟨_, _, HB1.out, HB2.out, HB3.out, hb⟩, ?_⟩
            rintro k' L' O' t' ⟨q1, q2, e1, e2, e3, e4⟩
            rw [HB1.out] at e1
            obtain ⟨f1, f2⟩ := Prod.ext_iff.1 (Option.some.inj e1)
            simp only at f1 f2
            subst f2
            rw [HB2.out] at e2
            obtain ⟨f3, f4⟩ := Prod.ext_iff.1 (Option.some.inj e2)
            simp only at f3 f4
            subst f4
            rw [HB3.out] at e3
            obtain ⟨f5, _⟩ := Prod.ext_iff.1 (Option.some.inj e3)
            simp only at f5
            obtain rfl := bkN_inj f1
            obtain rfl := map_inj acN_inj f3
            obtain rfl := map_inj orN_inj f5
            exact e4
          have XB0 : Hid (BkS H (.slice a1 L.length c1) (.slice a2 O.length c2) k L O wr ∧ Rst wr p t ∧ Glo wr ∧ Stp p w wr) := X3.out
          clear X3 HL HBO HB1 HB2 HB3 HS1 HLL
          obtain ⟨⟨s0, s1', s2', s3, s4, s5, s6⟩, sf, sz⟩ := XB0.out.1.2.1
          obtain ⟨mL, hmL⟩ : ∃ m, L.length = m := ⟨_, rfl⟩
          obtain ⟨mO, hmO⟩ : ∃ m, O.length = m := ⟨_, rfl⟩
          rw [hmL, hmO] at XB0 HF HR
          rw [hmL] at s1'
          rw [hmO] at s2'
          go_wp2_with (go_at_call 27; refine A'.mono ?_; rintro e w9 ⟨rfl, hw9⟩; subst w9)
          clear A'
          refine (implBank a1 a2 mL c1 mO c2 (FL L) (OrdF O) k wr (HF.out wr XB0.out.1).1 (HF.out wr XB0.out.1).2).mono ?_
          rintro e w5 ⟨⟨bb, rfl, hb1, hb2⟩, B5⟩
          have X5 : Hid (BkS H (.slice a1 mL c1) (.slice a2 mO c2) k L O w5 ∧ Rst w5 p t ∧ Glo w5 ∧ Stp p w w5) := ⟨XB0.out.1.stp (p := p) (Stp.ofBelow B5) hpH, XB0.out.2.1.below B5, XB0.out.2.2.1.below B5, XB0.out.2.2.2.trans (Stp.ofBelow B5)⟩
          clear B5 XB0 s0 s1' s2' s3 s4 s5 s6 sf sz
          cases bb with
          | true =>
            have HRT : Hid (RdB s.data.toList k L O t.data.toList) := HR.out.1 (hb1 rfl)
            clear hb1 hb2 HR HF
            obtain ⟨⟨s0, s1', s2', s3, s4, s5, s6⟩, sf, sz⟩ := X5.out.1.2.1
            have r0 := X5.out.1.1.1 0 _ rfl
            have r1 := X5.out.1.1.1 1 _ rfl
            have r2 := X5.out.1.1.1 2 _ rfl
            have r3 := X5.out.1.1.1 3 _ rfl
            have r4 := X5.out.1.1.1 4 _ rfl
            have r5 := X5.out.1.1.1 5 _ rfl
            have r6 := X5.out.1.1.1 6 _ rfl
            have fz := X5.out.1.1.2.1
            have nh : ¬ H = H + 1 := by omega
            have FI : Hid (BkO w p s (.returned (.agg #[.int .i64 k.day, .slice a1 mL c1, .slice a2 mO c2, .int .i64 k.inn, .int .i64 k.out, .int .i64 k.posted, .int .i64 k.missed])) ((((((((w5).setCell ⟨H, 0, none⟩ (.int .i64 k.day)).setCell ⟨H, 1, none⟩ (.slice a1 mL c1)).setCell ⟨H, 2, none⟩ (.slice a2 mO c2)).setCell ⟨H, 3, none⟩ (.int .i64 k.inn)).setCell ⟨H, 4, none⟩ (.int .i64 k.out)).setCell ⟨H, 5, none⟩ (.int .i64 k.posted)).setCell ⟨H, 6, none⟩ (.int .i64 k.missed))) := by
              have gs : ∀ {W : World} (o : Nat) (y : Value), (AL W (H + 1 + 1) (.slice a1 mL c1) L ∧ OrdL W (H + 1 + 1) (.slice a2 mO c2) O ∧ Rst W p t ∧ Glo W ∧ Stp p w W) → (AL (W.setCell ⟨H, o, none⟩ y) (H + 1 + 1) (.slice a1 mL c1) L ∧ OrdL (W.setCell ⟨H, o, none⟩ y) (H + 1 + 1) (.slice a2 mO c2) O ∧ Rst (W.setCell ⟨H, o, none⟩ y) p t ∧ Glo (W.setCell ⟨H, o, none⟩ y) ∧ Stp p w (W.setCell ⟨H, o, none⟩ y)) := fun o y hh =>
                ⟨World.ownsRow.kept hh.1 (grown_set1Acc _ H o y) (Or.inr (fun e => by have := (World.ownsRow.lt hh.1 _ e).1; omega)), World.ownsRow.kept hh.2.1 (grown_set1Acc _ H o y) (Or.inr (fun e => by have := (World.ownsRow.lt hh.2.1 _ e).1; omega)), hh.2.2.1.far (by omega) _ _, hh.2.2.2.1.far (by omega) _ _, hh.2.2.2.2.setNew (p := ⟨H, o, none⟩) (by show w.heap.size ≤ H; rw [HH.out]; exact Nat.le_refl _) _⟩
              have kk := gs 6 (.int .i64 k.missed) (gs 5 (.int .i64 k.posted) (gs 4 (.int .i64 k.out) (gs 3 (.int .i64 k.inn) (gs 2 (.slice a2 mO c2) (gs 1 (.slice a1 mL c1) (gs 0 (.int .i64 k.day) ((⟨X5.out.1.2.2.1, X5.out.1.2.2.2, X5.out.2.1, X5.out.2.2.1, X5.out.2.2.2⟩ : AL w5 (H + 1 + 1) (.slice a1 mL c1) L ∧ OrdL w5 (H + 1 + 1) (.slice a2 mO c2) O ∧ Rst w5 p t ∧ Glo w5 ∧ Stp p w w5))))))))
              have h2 : w.heap.size ≤ H + 1 + 1 := by rw [HH.out]; omega
              exact ⟨kk.2.2.2.2, Or.inl ⟨k, L, O, _, _, t, HRT.out, rfl, AL.mono kk.1 h2, OrdL.mono kk.2.1 h2, kk.2.2.1, kk.2.2.2.1⟩⟩
            go_wp2_with (go_at_call 24; refine (want_yes _ _).mono ?_; rintro e w3 ⟨rfl, hw3⟩; subst w3)
            refine bodyPost_ret (v := .agg #[.int .i64 k.day, .slice a1 mL c1, .slice a2 mO c2, .int .i64 k.inn, .int .i64 k.out, .int .i64 k.posted, .int .i64 k.missed]) (by simp [results, Tryz.results13, go_sem, r0, r1, r2, r3, r4, r5, r6]) rfl ?_
            exact FI.out
          | false =>
            have HNO : Hid (∀ k' L' O' t', ¬ RdB s.data.toList k' L' O' t') := fun k' L' O' t' hh => hb2 rfl (HR.out.2 k' L' O' t' hh)
            clear hb1 hb2 HR HF
            go_wp2_with (go_at_call 24; refine (want_no _ _ X5.out.2.2.1).mono ?_; rintro e w3 ⟨⟨t9, p9, rfl⟩, hw3⟩; subst w3)
            exact ⟨rfl, X5.out.2.2.2, Or.inr ⟨HNO.out, t9, p9, rfl⟩⟩
end Go.Proofs.YtedhlmipcfdldaaGreatDoor
