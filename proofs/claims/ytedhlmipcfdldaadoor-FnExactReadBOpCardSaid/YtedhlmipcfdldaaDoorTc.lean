/- BOpText of the specification, more kinds. Conditions: none. -/
import Derived.Test.YtedhlmipcfdldaaDoorTs
namespace Go.Proofs.YtedhlmipcfdldaaDoor
open Go.RowKit
set_option maxRecDepth 8000

set_option maxHeartbeats 4000000 in
theorem specT_9 (i t m r n : Int) (o : Ord) (w : World) (h : bopOk 19 ⟨9, i, t, m, r⟩ o n) (hs : ∀ z ∈ [i, t], Sml z) : Calls Tryd.prog 10 #[.agg #[.int .i64 19, .int .i64 9, .int .i64 i, .int .i64 t, .int .i64 m, .int .i64 r, .int .i64 o.id, .int .i64 o.src, .int .i64 o.dst, .int .i64 o.amount, .int .i64 o.first, .int .i64 o.every, .int .i64 o.times, .int .i64 n]] w fun e w' => RowOut w (rowB ⟨#[104, 97, 110, 103]⟩ [i, t]) e w' := by
  obtain ⟨W0, hW0, X0, HB⟩ : ∃ W0, W0 = w.alloc (.cells #[.int .i64 19, .int .i64 9, .int .i64 i, .int .i64 t, .int .i64 m, .int .i64 r, .int .i64 o.id, .int .i64 o.src, .int .i64 o.dst, .int .i64 o.amount, .int .i64 o.first, .int .i64 o.every, .int .i64 o.times, .int .i64 n] 27) ∧ Hid (Bx14 W0 w.heap.size 19 ⟨9, i, t, m, r⟩ o n) ∧ Hid (Below w.heap.size w W0) := ⟨_, rfl, Bx14.new w 19 ⟨9, i, t, m, r⟩ o n 27, (Below.refl _ _).alloc (Nat.le_refl _) _⟩
  have HW0 : Hid (W0 = _) := hW0
  have HN : Hid (bopOk 19 ⟨9, i, t, m, r⟩ o n ∧ ∀ z ∈ [i, t], Sml z) := ⟨h, hs⟩
  clear h hs hW0
  go_enter Tryd.func10, Tryd.ntmps10
  go_wp2_with fail
  rw [← HW0.out]
  refine (specForm 19 n ⟨9, i, t, m, r⟩ o _).mono ?_
  rintro e w1 ⟨ht, B1⟩
  have he := ht.true HN.out.1
  subst he
  have H1 : Hid (Bx14 w1 w.heap.size 19 ⟨9, i, t, m, r⟩ o n ∧ Below w.heap.size w w1) := ⟨X0.out.kept B1 X0.out.2, HB.out.trans (B1.mono HB.out.size)⟩
  clear ht B1 HB HW0 X0
  obtain ⟨V, hV, kV, LV, BV⟩ : ∃ V, V = ((w1.alloc (.cells #[.int .i64 9, .int .i64 i, .int .i64 t, .int .i64 m, .int .i64 r] 23)).alloc (.cells #[.int .i64 i] 2)).alloc (.cells #[.int .i64 i, .int .i64 t] 2) ∧ Hid (V.cell? ⟨w1.heap.size, 0, none⟩ = some (.int .i64 9)) ∧ Hid (IntC V (some ⟨w1.heap.size + 1 + 1, 0, none⟩) [i, t] ∧ w1.heap.size < V.heap.size) ∧ Hid (Below w.heap.size w V) := by
    refine ⟨_, rfl, (World.cell?_alloc_lt _ _ _ (by simp; omega)).trans ((World.cell?_alloc_lt _ _ _ (by simp)).trans (by simp [go_sem])), ⟨?_, by simp; omega⟩, ?_⟩
    · have := IntC.lit ((w1.alloc (.cells #[.int .i64 9, .int .i64 i, .int .i64 t, .int .i64 m, .int .i64 r] 23)).alloc (.cells #[.int .i64 i] 2)) [i, t]
      simpa using this
    · have hz := H1.out.2.size
      exact ((H1.out.2.alloc hz _).alloc (by simp; omega) _).alloc (by simp; omega) _
  have HV : Hid (V = _) := hV
  obtain ⟨⟨c0, c1, c2, c3, c4, c5, _⟩, _⟩ := H1.out.1
  clear hV H1
  go_wp2_with fail
  rw [← HV.out]
  clear HV
  have kD : V.drew.cell? ⟨w1.heap.size, 0, none⟩ = some (.int .i64 9) := kV.out
  go_region_with (first | (go_at_call 20; refine (specWords _).mono ?_; rintro e u1 ⟨rfl, hu1⟩; have U1 : Hid (u1.cell? ⟨V.heap.size, 9, none⟩ = some (.string ⟨#[104, 97, 110, 103]⟩) ∧ u1.cell? ⟨w1.heap.size, 0, none⟩ = some (.int .i64 9) ∧ IntC u1 (some ⟨w1.heap.size + 1 + 1, 0, none⟩) [i, t] ∧ Below w.heap.size w u1) := (by rw [hu1]; exact ⟨words_cell V.drew 9 (by decide), (World.cell?_alloc_lt _ _ _ LV.out.2).trans kV.out, (LV.out.1.below ((Below.refl _ _).drew)).below ((Below.refl _ _).alloc (Nat.le_refl _) _), (BV.out.drew).alloc BV.out.size _⟩); obtain ⟨y0, y1, _, _⟩ := U1.out; clear hu1) | (go_at_call 18; refine (specRow ⟨#[104, 97, 110, 103]⟩ (by decide) _ 2 _ [i, t] rfl (by omega) HN.out.2 _ U1.out.2.2.1).mono ?_; rintro e u2 ⟨rfl, B2⟩; have U2 : Hid (Below w.heap.size w u2) := U1.out.2.2.2.trans (B2.mono U1.out.2.2.2.size); clear B2))
  all_goals go_wp2
  all_goals go_ret
  all_goals exact ⟨rfl, U2.out⟩

set_option maxHeartbeats 4000000 in
theorem specT_10 (i t m r n : Int) (o : Ord) (w : World) (h : bopOk 19 ⟨10, i, t, m, r⟩ o n) (hs : ∀ z ∈ [i, m], Sml z) : Calls Tryd.prog 10 #[.agg #[.int .i64 19, .int .i64 10, .int .i64 i, .int .i64 t, .int .i64 m, .int .i64 r, .int .i64 o.id, .int .i64 o.src, .int .i64 o.dst, .int .i64 o.amount, .int .i64 o.first, .int .i64 o.every, .int .i64 o.times, .int .i64 n]] w fun e w' => RowOut w (rowB ⟨#[116, 97, 114, 103, 101, 116]⟩ [i, m]) e w' := by
  obtain ⟨W0, hW0, X0, HB⟩ : ∃ W0, W0 = w.alloc (.cells #[.int .i64 19, .int .i64 10, .int .i64 i, .int .i64 t, .int .i64 m, .int .i64 r, .int .i64 o.id, .int .i64 o.src, .int .i64 o.dst, .int .i64 o.amount, .int .i64 o.first, .int .i64 o.every, .int .i64 o.times, .int .i64 n] 27) ∧ Hid (Bx14 W0 w.heap.size 19 ⟨10, i, t, m, r⟩ o n) ∧ Hid (Below w.heap.size w W0) := ⟨_, rfl, Bx14.new w 19 ⟨10, i, t, m, r⟩ o n 27, (Below.refl _ _).alloc (Nat.le_refl _) _⟩
  have HW0 : Hid (W0 = _) := hW0
  have HN : Hid (bopOk 19 ⟨10, i, t, m, r⟩ o n ∧ ∀ z ∈ [i, m], Sml z) := ⟨h, hs⟩
  clear h hs hW0
  go_enter Tryd.func10, Tryd.ntmps10
  go_wp2_with fail
  rw [← HW0.out]
  refine (specForm 19 n ⟨10, i, t, m, r⟩ o _).mono ?_
  rintro e w1 ⟨ht, B1⟩
  have he := ht.true HN.out.1
  subst he
  have H1 : Hid (Bx14 w1 w.heap.size 19 ⟨10, i, t, m, r⟩ o n ∧ Below w.heap.size w w1) := ⟨X0.out.kept B1 X0.out.2, HB.out.trans (B1.mono HB.out.size)⟩
  clear ht B1 HB HW0 X0
  obtain ⟨V, hV, kV, LV, BV⟩ : ∃ V, V = ((w1.alloc (.cells #[.int .i64 10, .int .i64 i, .int .i64 t, .int .i64 m, .int .i64 r] 23)).alloc (.cells #[.int .i64 i] 2)).alloc (.cells #[.int .i64 i, .int .i64 m] 2) ∧ Hid (V.cell? ⟨w1.heap.size, 0, none⟩ = some (.int .i64 10)) ∧ Hid (IntC V (some ⟨w1.heap.size + 1 + 1, 0, none⟩) [i, m] ∧ w1.heap.size < V.heap.size) ∧ Hid (Below w.heap.size w V) := by
    refine ⟨_, rfl, (World.cell?_alloc_lt _ _ _ (by simp; omega)).trans ((World.cell?_alloc_lt _ _ _ (by simp)).trans (by simp [go_sem])), ⟨?_, by simp; omega⟩, ?_⟩
    · have := IntC.lit ((w1.alloc (.cells #[.int .i64 10, .int .i64 i, .int .i64 t, .int .i64 m, .int .i64 r] 23)).alloc (.cells #[.int .i64 i] 2)) [i, m]
      simpa using this
    · have hz := H1.out.2.size
      exact ((H1.out.2.alloc hz _).alloc (by simp; omega) _).alloc (by simp; omega) _
  have HV : Hid (V = _) := hV
  obtain ⟨⟨c0, c1, c2, c3, c4, c5, _⟩, _⟩ := H1.out.1
  clear hV H1
  go_wp2_with fail
  rw [← HV.out]
  clear HV
  have kD : V.drew.cell? ⟨w1.heap.size, 0, none⟩ = some (.int .i64 10) := kV.out
  go_region_with (first | (go_at_call 20; refine (specWords _).mono ?_; rintro e u1 ⟨rfl, hu1⟩; have U1 : Hid (u1.cell? ⟨V.heap.size, 10, none⟩ = some (.string ⟨#[116, 97, 114, 103, 101, 116]⟩) ∧ u1.cell? ⟨w1.heap.size, 0, none⟩ = some (.int .i64 10) ∧ IntC u1 (some ⟨w1.heap.size + 1 + 1, 0, none⟩) [i, m] ∧ Below w.heap.size w u1) := (by rw [hu1]; exact ⟨words_cell V.drew 10 (by decide), (World.cell?_alloc_lt _ _ _ LV.out.2).trans kV.out, (LV.out.1.below ((Below.refl _ _).drew)).below ((Below.refl _ _).alloc (Nat.le_refl _) _), (BV.out.drew).alloc BV.out.size _⟩); obtain ⟨y0, y1, _, _⟩ := U1.out; clear hu1) | (go_at_call 18; refine (specRow ⟨#[116, 97, 114, 103, 101, 116]⟩ (by decide) _ 2 _ [i, m] rfl (by omega) HN.out.2 _ U1.out.2.2.1).mono ?_; rintro e u2 ⟨rfl, B2⟩; have U2 : Hid (Below w.heap.size w u2) := U1.out.2.2.2.trans (B2.mono U1.out.2.2.2.size); clear B2))
  all_goals go_wp2
  all_goals go_ret
  all_goals exact ⟨rfl, U2.out⟩
end Go.Proofs.YtedhlmipcfdldaaDoor
