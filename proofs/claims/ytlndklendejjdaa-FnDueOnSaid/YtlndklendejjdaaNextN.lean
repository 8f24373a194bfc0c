/- NextDue of the program answers the next day on which an order is due. No conditions. -/
import Derived.Test.YtlndklendejjdaaNextI
import Derived.Test.YtlndklendejjdaaNextS
namespace Go.Proofs.Ytlndklendejjdaa
open Go.RowKit Go.Shelf
attribute [local go_sem] Oper.semAt_some

set_option maxHeartbeats 1000000 in
theorem implNext_no (o : Ord) (d : Int) (w : World) (h : ¬ (ordOk o ∧ 0 ≤ d ∧ d ≤ 3000000)) :
    Calls Try.prog 28 #[.agg #[.int .i64 o.id, .int .i64 o.src, .int .i64 o.dst, .int .i64 o.amount, .int .i64 o.first, .int .i64 o.every, .int .i64 o.times], .int .i64 d] w fun e w' => e = .returned (.int .i64 (nextDue o d)) ∧ Below w.heap.size w w' := by
  have E : Hid (nextDue o d = -1) := nextDue_no h
  have X0 : Hid (OrdBox (((w.alloc (.cells #[.int .i64 o.id, .int .i64 o.src, .int .i64 o.dst, .int .i64 o.amount, .int .i64 o.first, .int .i64 o.every, .int .i64 o.times] 25)).alloc (.cells #[.int .i64 d] 2)).alloc (.cells #[.int .i64 0] 2)) w.heap.size o ∧ OneBox (((w.alloc (.cells #[.int .i64 o.id, .int .i64 o.src, .int .i64 o.dst, .int .i64 o.amount, .int .i64 o.first, .int .i64 o.every, .int .i64 o.times] 25)).alloc (.cells #[.int .i64 d] 2)).alloc (.cells #[.int .i64 0] 2)) (w.heap.size + 1) (.int .i64 d) ∧ OneBox (((w.alloc (.cells #[.int .i64 o.id, .int .i64 o.src, .int .i64 o.dst, .int .i64 o.amount, .int .i64 o.first, .int .i64 o.every, .int .i64 o.times] 25)).alloc (.cells #[.int .i64 d] 2)).alloc (.cells #[.int .i64 0] 2)) (w.heap.size + 1 + 1) (.int .i64 0) ∧ Below w.heap.size w (((w.alloc (.cells #[.int .i64 o.id, .int .i64 o.src, .int .i64 o.dst, .int .i64 o.amount, .int .i64 o.first, .int .i64 o.every, .int .i64 o.times] 25)).alloc (.cells #[.int .i64 d] 2)).alloc (.cells #[.int .i64 0] 2))) := by
    refine ⟨((OrdBox.new w o 25).below ((Below.refl _ _).alloc (Nat.le_refl _) _)).below ((Below.refl _ _).alloc (Nat.le_refl _) _), ?_, ?_, (((Below.refl _ _).alloc (Nat.le_refl _) _).alloc (by simp) _).alloc (by simp; omega) _⟩
    · have := OneBox.new (w.alloc (.cells #[.int .i64 o.id, .int .i64 o.src, .int .i64 o.dst, .int .i64 o.amount, .int .i64 o.first, .int .i64 o.every, .int .i64 o.times] 25)) (.int .i64 d) 2
      rw [World.size_alloc] at this
      exact this.kept ((Below.refl _ _).alloc (Nat.le_refl _) _) (by simp)
    · have := OneBox.new ((w.alloc (.cells #[.int .i64 o.id, .int .i64 o.src, .int .i64 o.dst, .int .i64 o.amount, .int .i64 o.first, .int .i64 o.every, .int .i64 o.times] 25)).alloc (.cells #[.int .i64 d] 2)) (.int .i64 0) 2
      simp only [World.size_alloc] at this
      exact this
  by_cases ho : ordOk o
  · have HO : Hid (ordOk o) := ho
    have HD : Hid (¬ (0 ≤ d ∧ d ≤ 3000000)) := fun k => h ⟨ho, k⟩
    clear ho h
    go_enter Try.func28, Try.ntmps28
    go_wp2_with fail
    refine (implOrd_yes o _ HO.out).mono ?_
    rintro e w1 ⟨rfl, B1⟩
    have X1 : Hid (OrdBox w1 w.heap.size o ∧ OneBox w1 (w.heap.size + 1) (.int .i64 d) ∧ OneBox w1 (w.heap.size + 1 + 1) (.int .i64 0) ∧ Below w.heap.size w w1) := by
      simp only [World.size_alloc] at B1
      obtain ⟨x1, x2, x3, x4⟩ := X0.out
      exact ⟨x1.kept B1 (by omega), x2.kept B1 (by omega), x3.kept B1 (by omega), x4.trans (B1.mono (by omega))⟩
    clear B1 X0
    obtain ⟨⟨c0, c1, c2, c3, c4, c5, c6, hz1⟩, ⟨cd, fd, hz2⟩, ⟨cr, fr, hz3⟩, hB⟩ := X1.out
    go_wp2_with fail
    refine (dayOk_no d _ HD.out).mono ?_
    rintro e w2 ⟨rfl, hw⟩
    subst hw
    go_wp2
    have hs := World.cell?_setCell_same' w2 ⟨w.heap.size + 1 + 1, 0, none⟩ (.int .i64 (-1)) (by rw [cr]; rfl)
    refine bodyPost_ret (v := .int .i64 (-1)) (by simp [results, Try.results28, go_sem, hs]) rfl ⟨?_, ?_⟩
    · rw [E.out]
    · exact hB.setCell (p := ⟨w.heap.size + 1 + 1, 0, none⟩) (by simp; omega) _
  · have HO : Hid (¬ ordOk o) := ho
    clear ho h
    go_enter Try.func28, Try.ntmps28
    go_wp2_with fail
    refine (implOrd_no o _ HO.out).mono ?_
    rintro e w1 ⟨rfl, B1⟩
    have X1 : Hid (OrdBox w1 w.heap.size o ∧ OneBox w1 (w.heap.size + 1) (.int .i64 d) ∧ OneBox w1 (w.heap.size + 1 + 1) (.int .i64 0) ∧ Below w.heap.size w w1) := by
      simp only [World.size_alloc] at B1
      obtain ⟨x1, x2, x3, x4⟩ := X0.out
      exact ⟨x1.kept B1 (by omega), x2.kept B1 (by omega), x3.kept B1 (by omega), x4.trans (B1.mono (by omega))⟩
    clear B1 X0
    obtain ⟨⟨c0, c1, c2, c3, c4, c5, c6, hz1⟩, ⟨cd, fd, hz2⟩, ⟨cr, fr, hz3⟩, hB⟩ := X1.out
    go_wp2
    have hs := World.cell?_setCell_same' w1 ⟨w.heap.size + 1 + 1, 0, none⟩ (.int .i64 (-1)) (by rw [cr]; rfl)
    refine bodyPost_ret (v := .int .i64 (-1)) (by simp [results, Try.results28, go_sem, hs]) rfl ⟨?_, ?_⟩
    · rw [E.out]
    · exact hB.setCell (p := ⟨w.heap.size + 1 + 1, 0, none⟩) (by simp; omega) _

set_option maxRecDepth 100000 in
set_option maxHeartbeats 2000000 in
theorem implNext_yes (o : Ord) (d : Int) (w : World) (ho : ordOk o) (d1 : 0 ≤ d) (d2 : d ≤ 3000000) :
    Calls Try.prog 28 #[.agg #[.int .i64 o.id, .int .i64 o.src, .int .i64 o.dst, .int .i64 o.amount, .int .i64 o.first, .int .i64 o.every, .int .i64 o.times], .int .i64 d] w fun e w' => e = .returned (.int .i64 (nextDue o d)) ∧ Below w.heap.size w w' := by
  have X0 : Hid (OrdBox (((w.alloc (.cells #[.int .i64 o.id, .int .i64 o.src, .int .i64 o.dst, .int .i64 o.amount, .int .i64 o.first, .int .i64 o.every, .int .i64 o.times] 25)).alloc (.cells #[.int .i64 d] 2)).alloc (.cells #[.int .i64 0] 2)) w.heap.size o ∧ OneBox (((w.alloc (.cells #[.int .i64 o.id, .int .i64 o.src, .int .i64 o.dst, .int .i64 o.amount, .int .i64 o.first, .int .i64 o.every, .int .i64 o.times] 25)).alloc (.cells #[.int .i64 d] 2)).alloc (.cells #[.int .i64 0] 2)) (w.heap.size + 1) (.int .i64 d) ∧ OneBox (((w.alloc (.cells #[.int .i64 o.id, .int .i64 o.src, .int .i64 o.dst, .int .i64 o.amount, .int .i64 o.first, .int .i64 o.every, .int .i64 o.times] 25)).alloc (.cells #[.int .i64 d] 2)).alloc (.cells #[.int .i64 0] 2)) (w.heap.size + 1 + 1) (.int .i64 0) ∧ Below w.heap.size w (((w.alloc (.cells #[.int .i64 o.id, .int .i64 o.src, .int .i64 o.dst, .int .i64 o.amount, .int .i64 o.first, .int .i64 o.every, .int .i64 o.times] 25)).alloc (.cells #[.int .i64 d] 2)).alloc (.cells #[.int .i64 0] 2))) := by
    refine ⟨((OrdBox.new w o 25).below ((Below.refl _ _).alloc (Nat.le_refl _) _)).below ((Below.refl _ _).alloc (Nat.le_refl _) _), ?_, ?_, (((Below.refl _ _).alloc (Nat.le_refl _) _).alloc (by simp) _).alloc (by simp; omega) _⟩
    · have := OneBox.new (w.alloc (.cells #[.int .i64 o.id, .int .i64 o.src, .int .i64 o.dst, .int .i64 o.amount, .int .i64 o.first, .int .i64 o.every, .int .i64 o.times] 25)) (.int .i64 d) 2
      rw [World.size_alloc] at this
      exact this.kept ((Below.refl _ _).alloc (Nat.le_refl _) _) (by simp)
    · have := OneBox.new ((w.alloc (.cells #[.int .i64 o.id, .int .i64 o.src, .int .i64 o.dst, .int .i64 o.amount, .int .i64 o.first, .int .i64 o.every, .int .i64 o.times] 25)).alloc (.cells #[.int .i64 d] 2)) (.int .i64 0) 2
      simp only [World.size_alloc] at this
      exact this
  have HO : Hid (ordOk o) := ho
  clear ho
  refine (callsIn_wide (n := 6)).1 ?_
  refine callsIn_of_wp_marks Try.func28 rfl trivial ?_ rfl
  simp only [Try.ntmps28, List.size_toArray, List.length_cons, List.length_nil, Nat.reduceAdd, Nat.reduceSub, Array.replicate_succ, Array.replicate_zero, List.push_toArray, List.append_toArray, List.nil_append, List.cons_append]
  gi_wp2_with (first
    | (refine ⟨trivial, ?_⟩; gi_at_call 15; refine (callsIn_wide.2 (implOrd_yes o _ HO.out)).mono ?_
       rintro e w1 ⟨rfl, B1⟩
       have X1 : Hid (OrdBox w1 w.heap.size o ∧ OneBox w1 (w.heap.size + 1) (.int .i64 d) ∧ OneBox w1 (w.heap.size + 1 + 1) (.int .i64 0) ∧ Below w.heap.size w w1) := by
         simp only [World.size_alloc] at B1
         obtain ⟨x1, x2, x3, x4⟩ := X0.out
         exact ⟨x1.kept B1 (by omega), x2.kept B1 (by omega), x3.kept B1 (by omega), x4.trans (B1.mono (by omega))⟩
       clear B1 X0
       obtain ⟨⟨c0, c1, c2, c3, c4, c5, c6, hz1⟩, ⟨cd, fd, hz2⟩, ⟨cr, fr, hz3⟩, hB⟩ := X1.out)
    | (refine ⟨trivial, ?_⟩; gi_at_call 48; refine (callsIn_wide.2 (dayOk_yes d _ ⟨d1, d2⟩)).mono ?_; rintro e w2 ⟨rfl, hw⟩; subst hw)
    | (refine ⟨trivial, ?_⟩; gi_at_call 50; refine (callsIn_wide.2 (dueDays o _)).mono ?_; rintro e w3 ⟨rfl, hw⟩; subst hw))
  have XB : OrdBox (w2.alloc (.cells #[.int .i64 o.id, .int .i64 o.src, .int .i64 o.dst, .int .i64 o.amount, .int .i64 o.first, .int .i64 o.every, .int .i64 o.times] 25)) w2.heap.size o := OrdBox.new w2 o 25
  have hB0 : Below w.heap.size w (w2.alloc (.cells #[.int .i64 o.id, .int .i64 o.src, .int .i64 o.dst, .int .i64 o.amount, .int .i64 o.first, .int .i64 o.every, .int .i64 o.times] 25)) := hB.alloc hB.size _
  refine wpIn_rangeFunc_ownF rfl (by omega) (gf := 68) (lb := #[.pointer (some ⟨w2.heap.size, 0, none⟩)]) rfl trivial (enters_of Try.func68 (by kernel_rfl) rfl)
    (days_stops Fence.wide 5 trivial rfl (by omega) w2.heap.size (w2.heap.size + 1) o HO.out _ (by omega) (by simp) XB) belowK_t (belowK_b (by simp)) (Below.refl _ _) (fun _ => rfl)
    (fun pre W => ((∀ y ∈ pre, y < d) ∧ W.cell? ⟨w.heap.size + 1, 0, none⟩ = some (.int .i64 d) ∧ W.cell? ⟨w.heap.size + 1 + 1, 0, none⟩ = some (.int .i64 0) ∧ W.frozen? ⟨w.heap.size + 1 + 1, 0, none⟩ = false) ∧ Below w.heap.size w W)
    (fun c pre W => (c = .ret ∧ ∃ p x, pre = p ++ [x] ∧ (∀ y ∈ p, y < d) ∧ d ≤ x ∧ W.cell? ⟨w.heap.size + 1 + 1, 0, none⟩ = some (.int .i64 x)) ∧ Below w.heap.size w W)
    (OwnFrom.and (Own.from (fun s A B row hs hg hr => ⟨hs.1, cell_kept hs.2.1 hg hr, cell_kept hs.2.2.1 hg hr, (frozen_kept hs.2.2.1 hg hr).trans hs.2.2.2⟩) _) (ownFrom_below (Nat.le_refl _) (by simp; omega)))
    (fun c => OwnFrom.and (Own.from (fun s A B row hs hg hr => ⟨hs.1, hs.2.choose, hs.2.choose_spec.choose, hs.2.choose_spec.choose_spec.1, hs.2.choose_spec.choose_spec.2.1, hs.2.choose_spec.choose_spec.2.2.1, cell_kept hs.2.choose_spec.choose_spec.2.2.2 hg hr⟩) _) (ownFrom_below (Nat.le_refl _) (by simp; omega)))
    ⟨⟨by simp, cell_alloc' _ cd, cell_alloc' _ cr, frozen_alloc' _ cr fr⟩, hB0⟩
    (fun x => { tmps := #[.agg #[.int .i64 o.id, .int .i64 o.src, .int .i64 o.dst, .int .i64 o.amount, .int .i64 o.first, .int .i64 o.every, .int .i64 o.times], .int .i64 d, .pointer (some ⟨w.heap.size, 0, none⟩), .pointer (some ⟨w.heap.size + 1, 0, none⟩), .pointer (some ⟨w.heap.size + 1 + 1, 0, none⟩), .int .i64 x, .agg #[.int .i64 o.id, .int .i64 o.src, .int .i64 o.dst, .int .i64 o.amount, .int .i64 o.first, .int .i64 o.every, .int .i64 o.times], .bool true, .bool false, .bool false, .int .i64 d, .bool true, .bool false, .bool false, .agg #[.int .i64 o.id, .int .i64 o.src, .int .i64 o.dst, .int .i64 o.amount, .int .i64 o.first, .int .i64 o.every, .int .i64 o.times], .func (.func 68) #[] #[.pointer (some ⟨w2.heap.size, 0, none⟩)], .int .i64 x, undef, undef, undef, undef], defers := [] }) ?assign ?body ?done ?stop
  case assign =>
    intro l x W K hK
    gi_wp2
    exact hK
  case body =>
    rintro l pre x W ⟨⟨hp, hcd, hcr, hfr⟩, hBW⟩ _
    clear c0 c1 c2 c3 c4 c5 c6 cd cr fd fr X1 XB
    by_cases hx : d ≤ x
    · gi_wp2
      exact ⟨KeepsOthers.setCell _ _ _, ⟨rfl, pre, x, rfl, hp, hx, World.cell?_setCell_same' _ _ _ (by rw [hcr]; rfl)⟩, hBW.setCell (p := ⟨w.heap.size + 1 + 1, 0, none⟩) (by simp; omega) _⟩
    · gi_wp2
      exact ⟨KeepsOthers.refl _, Below.refl _ _, ⟨fun y hy => (List.mem_append.1 hy).elim (hp y) (fun e => by simp at e; subst e; omega), hcd, hcr, hfr⟩, hBW⟩
  case done =>
    rintro D ys W hD ⟨k, hk1, rfl, hk2⟩ ⟨⟨hp, hcd, hcr, hfr⟩, hBW⟩ hK
    have E : Hid (nextDue o d = -1) := nextDue_miss HO.out d1 d2 hk2 hp
    clear c0 c1 c2 c3 c4 c5 c6 cd cr fd fr X1 XB hk1 hk2 hp
    gi_wp2
    have hK' := (KeepsOthers.setCell W ⟨w.heap.size + 1 + 1, 0, none⟩ (.int .i64 (-1))).same D _ hK rfl
    refine ⟨by simp, .inl ⟨_, _, rfl, run_takeDeferred hK', ?_⟩⟩
    have hc5 := cell_kept (World.cell?_setCell_same' W ⟨w.heap.size + 1 + 1, 0, none⟩ (.int .i64 (-1)) (by rw [hcr]; rfl)) (grownBy_putObj' _ D (.deferred none)) (fun r e => by cases e; exact ⟨_, hK', rfl⟩)
    refine ⟨.int .i64 (-1), ?_, by rw [E.out], (hBW.setCell (p := ⟨w.heap.size + 1 + 1, 0, none⟩) (by simp; omega) _).trans (belowK_b (w := w) (Nat.le_refl _) _ D _ _ (by simp at hD; omega) hK' rfl rfl)⟩
    simp [results, Try.results28, go_sem, hc5]
  case stop =>
    rintro D c pre W hD ⟨k, hk1, rfl, hk2⟩ ⟨⟨rfl, p, x, hpx, hp, hx, hcr⟩, hBW⟩ hK
    rw [upto_succ] at hpx
    obtain ⟨rfl, e2⟩ := List.append_inj' hpx rfl
    obtain rfl : o.first + (k : Int) * o.every = x := by simpa using e2
    have E : Hid (nextDue o d = o.first + (k : Int) * o.every) := nextDue_hit HO.out d1 d2 hk1 hk2 hx hp
    clear c0 c1 c2 c3 c4 c5 c6 cd cr fd fr X1 XB hk1 hk2 hp hx hpx e2
    gi_wp2
    refine ⟨by simp, .inl ⟨_, _, rfl, run_takeDeferred hK, ?_⟩⟩
    have hc5 := cell_kept hcr (grownBy_putObj' _ D (.deferred none)) (fun r e => by cases e; exact ⟨_, hK, rfl⟩)
    refine ⟨.int .i64 (o.first + (k : Int) * o.every), ?_, by rw [E.out], hBW.trans (belowK_b (w := w) (Nat.le_refl _) W D _ _ (by simp at hD; omega) hK rfl rfl)⟩
    simp [results, Try.results28, go_sem, hc5]

theorem implNext (o : Ord) (d : Int) (w : World) :
    Calls Try.prog 28 #[.agg #[.int .i64 o.id, .int .i64 o.src, .int .i64 o.dst, .int .i64 o.amount, .int .i64 o.first, .int .i64 o.every, .int .i64 o.times], .int .i64 d] w fun e w' => e = .returned (.int .i64 (nextDue o d)) ∧ Below w.heap.size w w' := by
  by_cases h : ordOk o ∧ 0 ≤ d ∧ d ≤ 3000000
  · exact implNext_yes o d w h.1 h.2.1 h.2.2
  · exact implNext_no o d w h
end Go.Proofs.Ytlndklendejjdaa
