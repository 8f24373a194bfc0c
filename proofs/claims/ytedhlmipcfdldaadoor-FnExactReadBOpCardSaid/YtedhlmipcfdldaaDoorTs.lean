/- BOpText of the specification. Conditions: none. -/
import Derived.Test.YtedhlmipcfdldaaDoorTx
namespace Go.Proofs.YtedhlmipcfdldaaDoor
open Go.RowKit
set_option maxRecDepth 8000

theorem Tells.true {e : Ending} {P : Prop} (h : Tells e P) (hp : P) : e = .returned (.bool true) := by
  obtain ⟨b, rfl, h1, h2⟩ := h
  cases b
  · exact absurd hp (h2 rfl)
  · rfl
theorem Tells.false {e : Ending} {P : Prop} (h : Tells e P) (hp : ¬ P) : e = .returned (.bool false) := by
  obtain ⟨b, rfl, h1, h2⟩ := h
  cases b
  · rfl
  · exact absurd (h1 rfl) hp
def wordsL : List ByteArray := [⟨#[]⟩, ⟨#[111, 112, 101, 110]⟩, ⟨#[102, 114, 101, 101, 122, 101]⟩, ⟨#[116, 104, 97, 119]⟩, ⟨#[99, 108, 111, 115, 101]⟩, ⟨#[112, 117, 116]⟩, ⟨#[116, 97, 107, 101]⟩, ⟨#[112, 97, 121]⟩, ⟨#[108, 105, 109, 105, 116]⟩, ⟨#[104, 97, 110, 103]⟩, ⟨#[116, 97, 114, 103, 101, 116]⟩]
theorem specWords (w : World) : Calls Tryd.prog 20 #[] w fun e w' => e = .returned (.slice (some ⟨w.heap.size, 0, none⟩) 11 11) ∧ w' = w.alloc (.cells (wordsL.map Value.string).toArray 9) := by
  go_enter Tryd.func20, Tryd.ntmps20
  go_wp2
  go_ret
  exact ⟨rfl, rfl⟩
theorem words_cell (w : World) (i : Nat) (hi : i < wordsL.length) : (w.alloc (.cells (wordsL.map Value.string).toArray 9)).cell? ⟨w.heap.size, i, none⟩ = some (.string wordsL[i]) := by
  rw [World.cell?_alloc_mark]
  simp [List.getElem?_eq_getElem hi]
/-- The answer. -/
def RowOut (w : World) (b : ByteArray) (e : Ending) (w' : World) : Prop := e = .returned (.string b) ∧ Below w.heap.size w w'
theorem sml_le {z : Int} (h0 : -1000000000000000 ≤ z) (h1 : z ≤ 1000000000000000) : Sml z := ⟨by omega, by omega⟩

set_option maxHeartbeats 2000000 in
theorem specT_no (K n : Int) (x : OpF) (o : Ord) (w : World) (h : ¬ bopOk K x o n) : Calls Tryd.prog 10 #[.agg #[.int .i64 K, .int .i64 x.k, .int .i64 x.i, .int .i64 x.t, .int .i64 x.m, .int .i64 x.r, .int .i64 o.id, .int .i64 o.src, .int .i64 o.dst, .int .i64 o.amount, .int .i64 o.first, .int .i64 o.every, .int .i64 o.times, .int .i64 n]] w fun e w' => RowOut w ⟨#[]⟩ e w' := by
  have HB : Hid (Below w.heap.size w (w.alloc (.cells #[.int .i64 K, .int .i64 x.k, .int .i64 x.i, .int .i64 x.t, .int .i64 x.m, .int .i64 x.r, .int .i64 o.id, .int .i64 o.src, .int .i64 o.dst, .int .i64 o.amount, .int .i64 o.first, .int .i64 o.every, .int .i64 o.times, .int .i64 n] 27))) := (Below.refl _ _).alloc (Nat.le_refl _) _
  have HN : Hid (¬ bopOk K x o n) := h
  clear h
  obtain ⟨W0, hW0⟩ : ∃ W0, W0 = w.alloc (.cells #[.int .i64 K, .int .i64 x.k, .int .i64 x.i, .int .i64 x.t, .int .i64 x.m, .int .i64 x.r, .int .i64 o.id, .int .i64 o.src, .int .i64 o.dst, .int .i64 o.amount, .int .i64 o.first, .int .i64 o.every, .int .i64 o.times, .int .i64 n] 27) := ⟨_, rfl⟩
  rw [← hW0] at HB
  have HW0 : Hid (W0 = _) := hW0
  clear hW0
  go_enter Tryd.func10, Tryd.ntmps10
  go_wp2_with fail
  rw [← HW0.out]
  refine (specForm K n x o _).mono ?_
  rintro e w1 ⟨ht, B1⟩
  have he := ht.false HN.out
  subst he
  have H1 : Hid (Below w.heap.size w w1) := HB.out.trans (B1.mono HB.out.size)
  clear ht B1 HB HW0
  go_wp2
  go_ret
  exact ⟨rfl, H1.out⟩

set_option maxHeartbeats 2000000 in
theorem specOrdL (o : Ord) (w : World) : Calls Tryd.prog 19 #[.agg #[.int .i64 o.id, .int .i64 o.src, .int .i64 o.dst, .int .i64 o.amount, .int .i64 o.first, .int .i64 o.every, .int .i64 o.times]] w fun e w' => ∃ a c, e = .returned (.slice a 7 c) ∧ IntC w' a [o.id, o.src, o.dst, o.amount, o.first, o.every, o.times] ∧ Below w.heap.size w w' := by
  have FI : Hid (IntC ((w.alloc (.cells #[.int .i64 o.id, .int .i64 o.src, .int .i64 o.dst, .int .i64 o.amount, .int .i64 o.first, .int .i64 o.every, .int .i64 o.times] 25)).alloc (.cells #[.int .i64 o.id, .int .i64 o.src, .int .i64 o.dst, .int .i64 o.amount, .int .i64 o.first, .int .i64 o.every, .int .i64 o.times] 2)) (some ⟨w.heap.size + 1, 0, none⟩) [o.id, o.src, o.dst, o.amount, o.first, o.every, o.times] ∧ Below w.heap.size w ((w.alloc (.cells #[.int .i64 o.id, .int .i64 o.src, .int .i64 o.dst, .int .i64 o.amount, .int .i64 o.first, .int .i64 o.every, .int .i64 o.times] 25)).alloc (.cells #[.int .i64 o.id, .int .i64 o.src, .int .i64 o.dst, .int .i64 o.amount, .int .i64 o.first, .int .i64 o.every, .int .i64 o.times] 2))) := by
    have := IntC.lit (w.alloc (.cells #[.int .i64 o.id, .int .i64 o.src, .int .i64 o.dst, .int .i64 o.amount, .int .i64 o.first, .int .i64 o.every, .int .i64 o.times] 25)) [o.id, o.src, o.dst, o.amount, o.first, o.every, o.times]
    rw [World.size_alloc] at this
    exact ⟨this, ((Below.refl _ _).alloc (Nat.le_refl _) _).alloc (by simp) _⟩
  go_enter Tryd.func19, Tryd.ntmps19
  go_wp2
  go_ret
  exact ⟨_, _, rfl, FI.out.1, FI.out.2⟩

set_option maxHeartbeats 4000000 in
theorem specT_20 (x : OpF) (n : Int) (o : Ord) (w : World) (h : bopOk 20 x o n) (hs : ∀ z ∈ [o.id, o.src, o.dst, o.amount, o.first, o.every, o.times], Sml z) : Calls Tryd.prog 10 #[.agg #[.int .i64 20, .int .i64 x.k, .int .i64 x.i, .int .i64 x.t, .int .i64 x.m, .int .i64 x.r, .int .i64 o.id, .int .i64 o.src, .int .i64 o.dst, .int .i64 o.amount, .int .i64 o.first, .int .i64 o.every, .int .i64 o.times, .int .i64 n]] w fun e w' => RowOut w (rowB ⟨#[111, 114, 100, 101, 114]⟩ [o.id, o.src, o.dst, o.amount, o.first, o.every, o.times]) e w' := by
  obtain ⟨W0, hW0, X0, HB⟩ : ∃ W0, W0 = w.alloc (.cells #[.int .i64 20, .int .i64 x.k, .int .i64 x.i, .int .i64 x.t, .int .i64 x.m, .int .i64 x.r, .int .i64 o.id, .int .i64 o.src, .int .i64 o.dst, .int .i64 o.amount, .int .i64 o.first, .int .i64 o.every, .int .i64 o.times, .int .i64 n] 27) ∧ Hid (Bx14 W0 w.heap.size 20 x o n) ∧ Hid (Below w.heap.size w W0) := ⟨_, rfl, Bx14.new w 20 x o n 27, (Below.refl _ _).alloc (Nat.le_refl _) _⟩
  have HW0 : Hid (W0 = _) := hW0
  have HN : Hid (bopOk 20 x o n ∧ ∀ z ∈ [o.id, o.src, o.dst, o.amount, o.first, o.every, o.times], Sml z) := ⟨h, hs⟩
  clear h hs hW0
  go_enter Tryd.func10, Tryd.ntmps10
  go_wp2_with fail
  rw [← HW0.out]
  refine (specForm 20 n x o _).mono ?_
  rintro e w1 ⟨ht, B1⟩
  have he := ht.true HN.out.1
  subst he
  have H1 : Hid (Bx14 w1 w.heap.size 20 x o n ∧ Below w.heap.size w w1) := ⟨X0.out.kept B1 X0.out.2, HB.out.trans (B1.mono HB.out.size)⟩
  clear ht B1 HB HW0 X0
  obtain ⟨⟨c0, c1, c2, c3, c4, c5, c6, c7, c8, c9, c10, c11, c12, c13⟩, _⟩ := H1.out.1
  go_wp2_with fail
  refine (specOrdL o _).mono ?_
  rintro e w2 ⟨a, c, rfl, I2, B2⟩
  have U2 : Hid (IntC w2 a [o.id, o.src, o.dst, o.amount, o.first, o.every, o.times] ∧ Below w.heap.size w w2) := ⟨I2, H1.out.2.trans (B2.mono H1.out.2.size)⟩
  clear I2 B2 H1 c0 c1 c2 c3 c4 c5 c6 c7 c8 c9 c10 c11 c12 c13
  go_wp2_with fail
  refine (specRow ⟨#[111, 114, 100, 101, 114]⟩ (by decide) a 7 c [o.id, o.src, o.dst, o.amount, o.first, o.every, o.times] rfl (by omega) HN.out.2 _ U2.out.1).mono ?_
  rintro e w3 ⟨rfl, B3⟩
  have U3 : Hid (Below w.heap.size w w3) := U2.out.2.trans (B3.mono U2.out.2.size)
  clear B3
  go_wp2
  go_ret
  exact ⟨rfl, U3.out⟩

set_option maxHeartbeats 4000000 in
theorem specT_21 (x : OpF) (n : Int) (o : Ord) (w : World) (h : bopOk 21 x o n) (hs : ∀ z ∈ [n], Sml z) : Calls Tryd.prog 10 #[.agg #[.int .i64 21, .int .i64 x.k, .int .i64 x.i, .int .i64 x.t, .int .i64 x.m, .int .i64 x.r, .int .i64 o.id, .int .i64 o.src, .int .i64 o.dst, .int .i64 o.amount, .int .i64 o.first, .int .i64 o.every, .int .i64 o.times, .int .i64 n]] w fun e w' => RowOut w (rowB ⟨#[99, 97, 110, 99, 101, 108]⟩ [n]) e w' := by
  obtain ⟨W0, hW0, X0, HB⟩ : ∃ W0, W0 = w.alloc (.cells #[.int .i64 21, .int .i64 x.k, .int .i64 x.i, .int .i64 x.t, .int .i64 x.m, .int .i64 x.r, .int .i64 o.id, .int .i64 o.src, .int .i64 o.dst, .int .i64 o.amount, .int .i64 o.first, .int .i64 o.every, .int .i64 o.times, .int .i64 n] 27) ∧ Hid (Bx14 W0 w.heap.size 21 x o n) ∧ Hid (Below w.heap.size w W0) := ⟨_, rfl, Bx14.new w 21 x o n 27, (Below.refl _ _).alloc (Nat.le_refl _) _⟩
  have HW0 : Hid (W0 = _) := hW0
  have HN : Hid (bopOk 21 x o n ∧ ∀ z ∈ [n], Sml z) := ⟨h, hs⟩
  clear h hs hW0
  go_enter Tryd.func10, Tryd.ntmps10
  go_wp2_with fail
  rw [← HW0.out]
  refine (specForm 21 n x o _).mono ?_
  rintro e w1 ⟨ht, B1⟩
  have he := ht.true HN.out.1
  subst he
  have H1 : Hid (Bx14 w1 w.heap.size 21 x o n ∧ Below w.heap.size w w1) := ⟨X0.out.kept B1 X0.out.2, HB.out.trans (B1.mono HB.out.size)⟩
  clear ht B1 HB HW0 X0
  obtain ⟨⟨c0, c1, c2, c3, c4, c5, c6, c7, c8, c9, c10, c11, c12, c13⟩, _⟩ := H1.out.1
  have U2 : Hid (IntC (w1.alloc (.cells #[.int .i64 n] 2)) (some ⟨w1.heap.size, 0, none⟩) [n] ∧ Below w.heap.size w (w1.alloc (.cells #[.int .i64 n] 2))) := ⟨IntC.lit w1 [n], H1.out.2.alloc H1.out.2.size _⟩
  clear H1
  go_wp2_with fail
  refine (specRow ⟨#[99, 97, 110, 99, 101, 108]⟩ (by decide) _ 1 1 [n] rfl (by omega) HN.out.2 _ U2.out.1).mono ?_
  rintro e w3 ⟨rfl, B3⟩
  have U3 : Hid (Below w.heap.size w w3) := U2.out.2.trans (B3.mono U2.out.2.size)
  clear B3 U2
  go_wp2
  go_ret
  exact ⟨rfl, U3.out⟩

set_option maxHeartbeats 4000000 in
theorem specT_22 (x : OpF) (n : Int) (o : Ord) (w : World) (h : bopOk 22 x o n) (hs : ∀ z ∈ ([] : List Int), Sml z) : Calls Tryd.prog 10 #[.agg #[.int .i64 22, .int .i64 x.k, .int .i64 x.i, .int .i64 x.t, .int .i64 x.m, .int .i64 x.r, .int .i64 o.id, .int .i64 o.src, .int .i64 o.dst, .int .i64 o.amount, .int .i64 o.first, .int .i64 o.every, .int .i64 o.times, .int .i64 n]] w fun e w' => RowOut w (rowB ⟨#[100, 97, 121]⟩ ([] : List Int)) e w' := by
  obtain ⟨W0, hW0, X0, HB⟩ : ∃ W0, W0 = w.alloc (.cells #[.int .i64 22, .int .i64 x.k, .int .i64 x.i, .int .i64 x.t, .int .i64 x.m, .int .i64 x.r, .int .i64 o.id, .int .i64 o.src, .int .i64 o.dst, .int .i64 o.amount, .int .i64 o.first, .int .i64 o.every, .int .i64 o.times, .int .i64 n] 27) ∧ Hid (Bx14 W0 w.heap.size 22 x o n) ∧ Hid (Below w.heap.size w W0) := ⟨_, rfl, Bx14.new w 22 x o n 27, (Below.refl _ _).alloc (Nat.le_refl _) _⟩
  have HW0 : Hid (W0 = _) := hW0
  have HN : Hid (bopOk 22 x o n ∧ ∀ z ∈ ([] : List Int), Sml z) := ⟨h, hs⟩
  clear h hs hW0
  go_enter Tryd.func10, Tryd.ntmps10
  go_wp2_with fail
  rw [← HW0.out]
  refine (specForm 22 n x o _).mono ?_
  rintro e w1 ⟨ht, B1⟩
  have he := ht.true HN.out.1
  subst he
  have H1 : Hid (Bx14 w1 w.heap.size 22 x o n ∧ Below w.heap.size w w1) := ⟨X0.out.kept B1 X0.out.2, HB.out.trans (B1.mono HB.out.size)⟩
  clear ht B1 HB HW0 X0
  obtain ⟨⟨c0, c1, c2, c3, c4, c5, c6, c7, c8, c9, c10, c11, c12, c13⟩, _⟩ := H1.out.1
  have U3 : Hid (Below w.heap.size w w1) := H1.out.2
  clear H1
  go_wp2
  go_ret
  exact ⟨rfl, U3.out⟩

set_option maxHeartbeats 4000000 in
theorem specT_2 (i t m r n : Int) (o : Ord) (w : World) (h : bopOk 19 ⟨2, i, t, m, r⟩ o n) (hs : ∀ z ∈ [i], Sml z) : Calls Tryd.prog 10 #[.agg #[.int .i64 19, .int .i64 2, .int .i64 i, .int .i64 t, .int .i64 m, .int .i64 r, .int .i64 o.id, .int .i64 o.src, .int .i64 o.dst, .int .i64 o.amount, .int .i64 o.first, .int .i64 o.every, .int .i64 o.times, .int .i64 n]] w fun e w' => RowOut w (rowB ⟨#[102, 114, 101, 101, 122, 101]⟩ [i]) e w' := by
  obtain ⟨W0, hW0, X0, HB⟩ : ∃ W0, W0 = w.alloc (.cells #[.int .i64 19, .int .i64 2, .int .i64 i, .int .i64 t, .int .i64 m, .int .i64 r, .int .i64 o.id, .int .i64 o.src, .int .i64 o.dst, .int .i64 o.amount, .int .i64 o.first, .int .i64 o.every, .int .i64 o.times, .int .i64 n] 27) ∧ Hid (Bx14 W0 w.heap.size 19 ⟨2, i, t, m, r⟩ o n) ∧ Hid (Below w.heap.size w W0) := ⟨_, rfl, Bx14.new w 19 ⟨2, i, t, m, r⟩ o n 27, (Below.refl _ _).alloc (Nat.le_refl _) _⟩
  have HW0 : Hid (W0 = _) := hW0
  have HN : Hid (bopOk 19 ⟨2, i, t, m, r⟩ o n ∧ ∀ z ∈ [i], Sml z) := ⟨h, hs⟩
  clear h hs hW0
  go_enter Tryd.func10, Tryd.ntmps10
  go_wp2_with fail
  rw [← HW0.out]
  refine (specForm 19 n ⟨2, i, t, m, r⟩ o _).mono ?_
  rintro e w1 ⟨ht, B1⟩
  have he := ht.true HN.out.1
  subst he
  have H1 : Hid (Bx14 w1 w.heap.size 19 ⟨2, i, t, m, r⟩ o n ∧ Below w.heap.size w w1) := ⟨X0.out.kept B1 X0.out.2, HB.out.trans (B1.mono HB.out.size)⟩
  clear ht B1 HB HW0 X0
  obtain ⟨V, hV, kV, LV, BV⟩ : ∃ V, V = (w1.alloc (.cells #[.int .i64 2, .int .i64 i, .int .i64 t, .int .i64 m, .int .i64 r] 23)).alloc (.cells #[.int .i64 i] 2) ∧ Hid (V.cell? ⟨w1.heap.size, 0, none⟩ = some (.int .i64 2)) ∧ Hid (IntC V (some ⟨w1.heap.size + 1, 0, none⟩) [i] ∧ w1.heap.size < V.heap.size) ∧ Hid (Below w.heap.size w V) := by
    refine ⟨_, rfl, (World.cell?_alloc_lt _ _ _ (by simp)).trans (by simp [go_sem]), ⟨?_, by simp; omega⟩, ?_⟩
    · have := IntC.lit ((w1.alloc (.cells #[.int .i64 2, .int .i64 i, .int .i64 t, .int .i64 m, .int .i64 r] 23))) [i]
      simpa using this
    · have hz := H1.out.2.size
      exact (H1.out.2.alloc hz _).alloc (by simp; omega) _
  have HV : Hid (V = _) := hV
  obtain ⟨⟨c0, c1, c2, c3, c4, c5, _⟩, _⟩ := H1.out.1
  clear hV H1
  go_wp2_with fail
  rw [← HV.out]
  clear HV
  have kD : V.drew.cell? ⟨w1.heap.size, 0, none⟩ = some (.int .i64 2) := kV.out
  go_region_with (first | (go_at_call 20; refine (specWords _).mono ?_; rintro e u1 ⟨rfl, hu1⟩; have U1 : Hid (u1.cell? ⟨V.heap.size, 2, none⟩ = some (.string ⟨#[102, 114, 101, 101, 122, 101]⟩) ∧ u1.cell? ⟨w1.heap.size, 0, none⟩ = some (.int .i64 2) ∧ IntC u1 (some ⟨w1.heap.size + 1, 0, none⟩) [i] ∧ Below w.heap.size w u1) := (by rw [hu1]; exact ⟨words_cell V.drew 2 (by decide), (World.cell?_alloc_lt _ _ _ LV.out.2).trans kV.out, (LV.out.1.below ((Below.refl _ _).drew)).below ((Below.refl _ _).alloc (Nat.le_refl _) _), (BV.out.drew).alloc BV.out.size _⟩); obtain ⟨y0, y1, _, _⟩ := U1.out; clear hu1) | (go_at_call 18; refine (specRow ⟨#[102, 114, 101, 101, 122, 101]⟩ (by decide) _ 1 _ [i] rfl (by omega) HN.out.2 _ U1.out.2.2.1).mono ?_; rintro e u2 ⟨rfl, B2⟩; have U2 : Hid (Below w.heap.size w u2) := U1.out.2.2.2.trans (B2.mono U1.out.2.2.2.size); clear B2))
  all_goals go_wp2
  all_goals go_ret
  all_goals exact ⟨rfl, U2.out⟩
end Go.Proofs.YtedhlmipcfdldaaDoor
