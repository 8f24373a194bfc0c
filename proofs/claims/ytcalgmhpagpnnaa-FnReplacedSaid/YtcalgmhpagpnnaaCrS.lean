/- Crash of the specification: what is refused. Conditions: the disk's lists and the places lie in memory. -/
import Derived.Test.YtcalgmhpagpnnaaCrI
namespace Go.Proofs.Ytcalgmhpagpnnaa
open Go.RowKit
set_option maxRecDepth 8000

theorem specIn (x lo hi : Int) (w : World) : Calls Try.prog 74 #[.int .i64 x, .int .i64 lo, .int .i64 hi] w fun e w' => e = .returned (.bool (decide (lo ≤ x ∧ x ≤ hi))) ∧ Below w.heap.size w w' := by
  by_cases h1 : lo ≤ x
  · by_cases h2 : x ≤ hi
    · go_enter Try.func74, Try.ntmps74
      go_wp2
      go_ret
      exact ⟨by first | (simp; done) | simp [h1, h2], Below.refl _ _⟩
    · have h2' : decide (x ≤ hi) = false := decide_eq_false h2
      go_enter Try.func74, Try.ntmps74
      go_wp2
      go_ret
      exact ⟨by first | (simp; done) | simp [h1, h2], Below.refl _ _⟩
  · have h1' : decide (lo ≤ x) = false := decide_eq_false h1
    go_enter Try.func74, Try.ntmps74
    go_wp2
    go_ret
    exact ⟨by first | (simp; done) | simp [h1], Below.refl _ _⟩
set_option maxHeartbeats 4000000 in
theorem specCr_disk (q q' q'' : Option Addr) (l m r c c' c'' : Nat) (F G : Nat → Fl) (O : Nat → Dp) (a : Option Addr) (n ck : Nat) (K : Nat → Int) (t : Int) (w : World) (h : Dk w q l F q' m G q'' r O) (hk : Ints w a n K) (hx : diskB (lst F l) (lst G m) (lst O r) = false) :
    Calls Try.prog 34 #[.agg #[.slice q l c, .slice q' m c', .slice q'' r c''], .slice a n ck, .int .i64 t] w fun e w' => ∃ v, e = .returned (.tuple #[v, .bool false]) ∧ DkAns w [] [] [] v w' := by
  have H : Hid (Dk w q l F q' m G q'' r O) := h
  have HK : Hid (Ints w a n K) := hk
  have HX : Hid (diskB (lst F l) (lst G m) (lst O r) = false) := hx
  clear hx
  obtain ⟨W0, hW0, X⟩ : ∃ W0, W0 = (w.alloc (.cells #[.slice q l c, .slice q' m c', .slice q'' r c''] 27)).alloc (.cells #[.slice none 0 0, .slice none 0 0, .slice none 0 0] 27) ∧ RBx w W0 (.slice q l c) (.slice q' m c') (.slice q'' r c'') := ⟨_, rfl, RBx.new w _ _ _⟩
  have HW0 : Hid (W0 = _) := hW0
  have X0 : Hid (RBx w W0 (.slice q l c) (.slice q' m c') (.slice q'' r c'')) := X
  clear hW0 X h hk
  go_enter Try.func34, Try.ntmps34
  go_wp2_with fail
  rw [← HW0.out]
  refine (specDisk q q' q'' l m r c c' c'' F G O _ (H.out.below X0.out.b)).mono ?_
  rintro e w1 ⟨rfl, D1⟩
  have X1 : Hid (RBx w w1 (.slice q l c) (.slice q' m c') (.slice q'' r c'')) := X0.out.kept D1
  clear D1 X0 HW0
  obtain ⟨⟨⟨s0, s1, s2⟩, _, _⟩, ⟨⟨z0, z1, z2⟩, zf, zl⟩, _⟩ := X1.out
  rw [HX.out]
  go_wp2
  exact bodyPost_ret (v := .tuple #[.agg #[.slice none 0 0, .slice none 0 0, .slice none 0 0], .bool false]) (by simp [results, Try.results34, go_sem, z0, z1, z2]) rfl ⟨_, rfl, ansAt (B := w.heap.size + 1 + 1) ⟨FlL.nil _ _, FlL.nil _ _, DpL.nil _ _, fun g h => by cases h⟩ (by omega) (by omega) X1.out.b⟩
set_option maxHeartbeats 4000000 in
theorem specCr_neg (q q' q'' : Option Addr) (l m r c c' c'' : Nat) (F G : Nat → Fl) (O : Nat → Dp) (a : Option Addr) (n ck : Nat) (K : Nat → Int) (t : Int) (w : World) (h : Dk w q l F q' m G q'' r O) (hk : Ints w a n K) (hx : diskB (lst F l) (lst G m) (lst O r) = true) (ht : t < 0) :
    Calls Try.prog 34 #[.agg #[.slice q l c, .slice q' m c', .slice q'' r c''], .slice a n ck, .int .i64 t] w fun e w' => ∃ v, e = .returned (.tuple #[v, .bool false]) ∧ DkAns w [] [] [] v w' := by
  have H : Hid (Dk w q l F q' m G q'' r O) := h
  have HK : Hid (Ints w a n K) := hk
  have HX : Hid (diskB (lst F l) (lst G m) (lst O r) = true) := hx
  clear hx
  obtain ⟨W0, hW0, X⟩ : ∃ W0, W0 = (w.alloc (.cells #[.slice q l c, .slice q' m c', .slice q'' r c''] 27)).alloc (.cells #[.slice none 0 0, .slice none 0 0, .slice none 0 0] 27) ∧ RBx w W0 (.slice q l c) (.slice q' m c') (.slice q'' r c'') := ⟨_, rfl, RBx.new w _ _ _⟩
  have HW0 : Hid (W0 = _) := hW0
  have X0 : Hid (RBx w W0 (.slice q l c) (.slice q' m c') (.slice q'' r c'')) := X
  clear hW0 X h hk
  go_enter Try.func34, Try.ntmps34
  go_wp2_with fail
  rw [← HW0.out]
  refine (specDisk q q' q'' l m r c c' c'' F G O _ (H.out.below X0.out.b)).mono ?_
  rintro e w1 ⟨rfl, D1⟩
  have X1 : Hid (RBx w w1 (.slice q l c) (.slice q' m c') (.slice q'' r c'')) := X0.out.kept D1
  clear D1 X0 HW0
  obtain ⟨⟨⟨s0, s1, s2⟩, _, _⟩, ⟨⟨z0, z1, z2⟩, zf, zl⟩, _⟩ := X1.out
  rw [HX.out]
  go_wp2
  exact bodyPost_ret (v := .tuple #[.agg #[.slice none 0 0, .slice none 0 0, .slice none 0 0], .bool false]) (by simp [results, Try.results34, go_sem, z0, z1, z2]) rfl ⟨_, rfl, ansAt (B := w.heap.size + 1 + 1) ⟨FlL.nil _ _, FlL.nil _ _, DpL.nil _ _, fun g h => by cases h⟩ (by omega) (by omega) X1.out.b⟩
set_option maxHeartbeats 8000000 in
theorem specCr_keep (q q' q'' : Option Addr) (l m r c c' c'' : Nat) (F G : Nat → Fl) (O : Nat → Dp) (a : Option Addr) (n ck : Nat) (K : Nat → Int) (t : Int) (w : World) (h : Dk w q l F q' m G q'' r O) (hk : Ints w a n K) (hx : diskB (lst F l) (lst G m) (lst O r) = true) (ht : 0 ≤ t) (hy : kpB r K n = false) :
    Calls Try.prog 34 #[.agg #[.slice q l c, .slice q' m c', .slice q'' r c''], .slice a n ck, .int .i64 t] w fun e w' => ∃ v, e = .returned (.tuple #[v, .bool false]) ∧ DkAns w [] [] [] v w' := by
  have H : Hid (Dk w q l F q' m G q'' r O) := h
  have HK : Hid (Ints w a n K) := hk
  have HX : Hid (diskB (lst F l) (lst G m) (lst O r) = true) := hx
  have HY : Hid (kpB r K n = false) := hy
  have hn1 := hk.1
  have hr1 := h.ops.1
  clear hx hy
  obtain ⟨W0, hW0, X⟩ : ∃ W0, W0 = (w.alloc (.cells #[.slice q l c, .slice q' m c', .slice q'' r c''] 27)).alloc (.cells #[.slice none 0 0, .slice none 0 0, .slice none 0 0] 27) ∧ RBx w W0 (.slice q l c) (.slice q' m c') (.slice q'' r c'') := ⟨_, rfl, RBx.new w _ _ _⟩
  have HW0 : Hid (W0 = _) := hW0
  have X0 : Hid (RBx w W0 (.slice q l c) (.slice q' m c') (.slice q'' r c'')) := X
  clear hW0 X h hk
  go_enter Try.func34, Try.ntmps34
  go_wp2_with fail
  rw [← HW0.out]
  refine (specDisk q q' q'' l m r c c' c'' F G O _ (H.out.below X0.out.b)).mono ?_
  rintro e w1 ⟨rfl, D1⟩
  have X1 : Hid (RBx w w1 (.slice q l c) (.slice q' m c') (.slice q'' r c'')) := X0.out.kept D1
  clear D1 X0 HW0
  obtain ⟨⟨⟨s0, s1, s2⟩, _, _⟩, ⟨⟨z0, z1, z2⟩, zf, zl⟩, _⟩ := X1.out
  rw [HX.out]
  have htb : decide (t < 0) = false := decide_eq_false (by omega)
  go_wp2_with fail
  go_loopw [8] (fun i wr => ∃ k : Nat, k ≤ n ∧ i = .int .i64 k ∧ Hid ((∀ j, j < k → KpAt r K j) ∧ RBx w wr (.slice q l c) (.slice q' m c') (.slice q'' r c''))) (fun i _ => n - (intOf i).toNat)
  case atStart => exact ⟨0, Nat.zero_le _, rfl, ⟨fun j hj => absurd hj (Nat.not_lt_zero _), X1.out⟩⟩
  case round =>
    obtain ⟨k, hkn, rfl, HH⟩ := hrel
    clear s0 s1 s2 z0 z1 z2 zf zl
    by_cases hlt : k < n
    · obtain ⟨b, o, rfl, hb0, hA0⟩ := HK.out.acc hlt
      have hb : b < wr.heap.size := Nat.lt_of_lt_of_le hb0 HH.out.2.b.size
      have c0 : wr.cell? ⟨b, o + k, none⟩ = some (.int .i64 (K k)) := (HH.out.2.b.cell (p := ⟨b, o + k, none⟩) hb0).trans hA0
      clear hA0
      obtain ⟨⟨⟨s0, s1, s2⟩, _, _⟩, ⟨⟨z0, z1, z2⟩, zf, zl⟩, _⟩ := HH.out.2
      have hov : ∀ v x, (over wr v).cell? ⟨b, x, none⟩ = wr.cell? ⟨b, x, none⟩ := fun v x => (below_over wr v).cell (p := ⟨b, x, none⟩) hb
      have hov2 : ∀ v x, (over wr v).cell? ⟨w.heap.size, x, none⟩ = wr.cell? ⟨w.heap.size, x, none⟩ := fun v x => (below_over wr v).cell (p := ⟨w.heap.size, x, none⟩) (by omega)
      by_cases h1 : 0 ≤ K k ∧ K k ≤ (r : Int) - 1
      · have IN74 : Hid (∀ W, Calls Try.prog 74 #[.int .i64 (K k), .int .i64 0, .int .i64 ((r : Int) - 1)] W fun e w' => e = .returned (.bool true) ∧ Below W.heap.size W w') := fun W => by have := specIn (K k) 0 ((r : Int) - 1) W; rwa [show decide (0 ≤ K k ∧ K k ≤ (r : Int) - 1) = true from decide_eq_true h1] at this
        by_cases hk0 : 0 < k
        · obtain ⟨b', o', e', hb0', hA0'⟩ := HK.out.acc (show k - 1 < n by omega)
          obtain ⟨rfl, rfl⟩ : b = b' ∧ o = o' := by simpa using e'
          have d0 : wr.cell? ⟨b, o + (k - 1), none⟩ = some (.int .i64 (K (k - 1))) := (HH.out.2.b.cell (p := ⟨b, o + (k - 1), none⟩) hb0).trans hA0'
          clear e' hA0' hb0'
          have g0 : (0 : Int) < (k : Int) := by omega
          by_cases h3 : K k ≤ K (k - 1)
          · clear h1
            go_wp2
            refine wp_region_over (by kernel_rfl) (by kernel_rfl) ?_
            repeat (go_big_quiet_step ((first | (go_at_call 74; exact Calls.over_of (IN74.out _)))))
            refine wpQuiet_nil ?_
            intro _ hw'
            obtain ⟨vq, hw''⟩ := hw'
            subst hw''
            have XQ : Hid (RBx w (over wr vq) (.slice q l c) (.slice q' m c') (.slice q'' r c'')) := HH.out.2.kept (below_over _ vq)
            obtain ⟨⟨⟨s0, s1, s2⟩, _, _⟩, ⟨⟨z0, z1, z2⟩, zf, zl⟩, _⟩ := XQ.out
            go_wp2
            exact bodyPost_ret (v := .tuple #[.agg #[.slice none 0 0, .slice none 0 0, .slice none 0 0], .bool false]) (by simp [results, Try.results34, go_sem, z0, z1, z2]) rfl ⟨_, rfl, ansAt (B := w.heap.size + 1 + 1) ⟨FlL.nil _ _, FlL.nil _ _, DpL.nil _ _, fun g h => by cases h⟩ (by omega) (by omega) XQ.out.b⟩
          · have h3' : decide (K k ≤ K (k - 1)) = false := decide_eq_false h3
            have HN : Hid (∀ j, j < k + 1 → KpAt r K j) := fun j hj => by
              by_cases e : j = k
              · subst e; exact ⟨h1.1, by omega, fun _ => by omega⟩
              · exact HH.out.1 j (by omega)
            clear h1 h3
            go_wp2
            refine wp_region_over (by kernel_rfl) (by kernel_rfl) ?_
            repeat (go_big_quiet_step ((first | (go_at_call 74; exact Calls.over_of (IN74.out _)))))
            refine wpQuiet_nil ?_
            intro _ hw'
            obtain ⟨vq, hw''⟩ := hw'
            subst hw''
            have XQ : Hid (RBx w (over wr vq) (.slice q l c) (.slice q' m c') (.slice q'' r c'')) := HH.out.2.kept (below_over _ vq)
            obtain ⟨⟨⟨s0, s1, s2⟩, _, _⟩, ⟨⟨z0, z1, z2⟩, zf, zl⟩, _⟩ := XQ.out
            go_wp2
            go_roundw
            case rel => exact ⟨k + 1, by omega, by go_num, ⟨HN.out, XQ.out⟩⟩
            case measure => simp [intOf]; omega
        · have HN : Hid (∀ j, j < k + 1 → KpAt r K j) := fun j hj => by
            by_cases e : j = k
            · subst e; exact ⟨h1.1, by omega, fun h => absurd h hk0⟩
            · exact HH.out.1 j (by omega)
          have g0 : decide (0 < k) = false := decide_eq_false (by omega)
          have hk1 : k ≤ 0 := by omega
          clear h1 hk0
          go_wp2
          refine wp_region_over (by kernel_rfl) (by kernel_rfl) ?_
          repeat (go_big_quiet_step ((first | (go_at_call 74; exact Calls.over_of (IN74.out _)))))
          refine wpQuiet_nil ?_
          intro _ hw'
          obtain ⟨vq, hw''⟩ := hw'
          subst hw''
          have XQ : Hid (RBx w (over wr vq) (.slice q l c) (.slice q' m c') (.slice q'' r c'')) := HH.out.2.kept (below_over _ vq)
          obtain ⟨⟨⟨s0, s1, s2⟩, _, _⟩, ⟨⟨z0, z1, z2⟩, zf, zl⟩, _⟩ := XQ.out
          go_wp2
          go_roundw
          case rel => exact ⟨k + 1, by omega, by go_num, ⟨HN.out, XQ.out⟩⟩
          case measure => simp [intOf]; omega
      · have IN74 : Hid (∀ W, Calls Try.prog 74 #[.int .i64 (K k), .int .i64 0, .int .i64 ((r : Int) - 1)] W fun e w' => e = .returned (.bool false) ∧ Below W.heap.size W w') := fun W => by have := specIn (K k) 0 ((r : Int) - 1) W; rwa [show decide (0 ≤ K k ∧ K k ≤ (r : Int) - 1) = false from decide_eq_false h1] at this
        clear h1
        go_wp2
        refine wp_region_over (by kernel_rfl) (by kernel_rfl) ?_
        repeat (go_big_quiet_step ((first | (go_at_call 74; exact Calls.over_of (IN74.out _)))))
        refine wpQuiet_nil ?_
        intro _ hw'
        obtain ⟨vq, hw''⟩ := hw'
        subst hw''
        have XQ : Hid (RBx w (over wr vq) (.slice q l c) (.slice q' m c') (.slice q'' r c'')) := HH.out.2.kept (below_over _ vq)
        obtain ⟨⟨⟨s0, s1, s2⟩, _, _⟩, ⟨⟨z0, z1, z2⟩, zf, zl⟩, _⟩ := XQ.out
        go_wp2
        exact bodyPost_ret (v := .tuple #[.agg #[.slice none 0 0, .slice none 0 0, .slice none 0 0], .bool false]) (by simp [results, Try.results34, go_sem, z0, z1, z2]) rfl ⟨_, rfl, ansAt (B := w.heap.size + 1 + 1) ⟨FlL.nil _ _, FlL.nil _ _, DpL.nil _ _, fun g h => by cases h⟩ (by omega) (by omega) XQ.out.b⟩
    · obtain rfl : k = n := by omega
      have := kpB_yes.2 HH.out.1
      rw [HY.out] at this
      cases this
end Go.Proofs.Ytcalgmhpagpnnaa
