/- DueOn, of the program and of the specification: both answer the orders that are due on a day, in order. Conditions: the orders lie in memory, at most 1048576 of them. -/
import Derived.Test.YtlndklendejjdaaOkO
import Derived.Test.YtlndklendejjdaaIs
import Derived.Test.YtlndklendejjdaaOwn
namespace Go.Proofs.Ytlndklendejjdaa
open Go.RowKit

open Classical in
/-- Of the first k orders those that are due on a day. -/
noncomputable def dueUp (F : Nat → Ord) (d : Int) : Nat → List Ord
  | 0 => []
  | k + 1 => if isDue (F k) d then dueUp F d k ++ [F k] else dueUp F d k
theorem dueUp_yes {F : Nat → Ord} {d : Int} {k : Nat} (h : isDue (F k) d) : dueUp F d (k + 1) = dueUp F d k ++ [F k] := by simp [dueUp, h]
theorem dueUp_no {F : Nat → Ord} {d : Int} {k : Nat} (h : ¬ isDue (F k) d) : dueUp F d (k + 1) = dueUp F d k := by simp [dueUp, h]
theorem dueUp_len (F : Nat → Ord) (d : Int) : ∀ k, (dueUp F d k).length ≤ k
  | 0 => Nat.le_refl _
  | k + 1 => by
    have := dueUp_len F d k
    by_cases h : isDue (F k) d
    · rw [dueUp_yes h]; simp; omega
    · rw [dueUp_no h]; omega
open Classical in
/-- The orders that are due on a day, none where they are not right. -/
noncomputable def dueL (F : Nat → Ord) (n : Nat) (d : Int) : List Ord := if RightO F n then dueUp F d n else []
theorem dueL_len (F : Nat → Ord) (n : Nat) (d : Int) : (dueL F n d).length ≤ n := by
  unfold dueL
  split
  · exact dueUp_len F d n
  · exact Nat.zero_le _

theorem specOrds_yes (a : Option Addr) (n c : Nat) (F : Nat → Ord) (w : World) (h : Ords w a n F) (hR : RightO F n) :
    Calls Try.prog 17 #[.slice a n c] w fun e w' => e = .returned (.bool true) ∧ Below w.heap.size w w' :=
  (specOrds a n c F w h).mono fun e w' ⟨⟨b, he, _, h2⟩, hB⟩ => ⟨by cases b with | true => exact he | false => exact absurd hR (h2 rfl), hB⟩
theorem specOrds_no (a : Option Addr) (n c : Nat) (F : Nat → Ord) (w : World) (h : Ords w a n F) (hR : ¬ RightO F n) :
    Calls Try.prog 17 #[.slice a n c] w fun e w' => e = .returned (.bool false) ∧ Below w.heap.size w w' :=
  (specOrds a n c F w h).mono fun e w' ⟨⟨b, he, h1, _⟩, hB⟩ => ⟨by cases b with | false => exact he | true => exact absurd (h1 rfl) hR, hB⟩
theorem implOrds_yes (a : Option Addr) (n c : Nat) (F : Nat → Ord) (w : World) (h : Ords w a n F) (hR : RightO F n) :
    Calls Try.prog 19 #[.slice a n c] w fun e w' => e = .returned (.bool true) ∧ Below w.heap.size w w' :=
  (implOrds a n c F w h).mono fun e w' ⟨⟨b, he, _, h2⟩, hB⟩ => ⟨by cases b with | true => exact he | false => exact absurd hR (h2 rfl), hB⟩
theorem implOrds_no (a : Option Addr) (n c : Nat) (F : Nat → Ord) (w : World) (h : Ords w a n F) (hR : ¬ RightO F n) :
    Calls Try.prog 19 #[.slice a n c] w fun e w' => e = .returned (.bool false) ∧ Below w.heap.size w w' :=
  (implOrds a n c F w h).mono fun e w' ⟨⟨b, he, h1, _⟩, hB⟩ => ⟨by cases b with | false => exact he | true => exact absurd (h1 rfl) hR, hB⟩

set_option maxHeartbeats 2000000 in
theorem specDueOn (a : Option Addr) (n c : Nat) (F : Nat → Ord) (d : Int) (w : World) (h : Ords w a n F) :
    Calls Try.prog 23 #[.slice a n c, .int .i64 d] w fun e w' => ∃ v, e = .returned v ∧ OrdL w' w.heap.size v (dueL F n d) ∧ Below w.heap.size w w' := by
  obtain ⟨i0, hi, hz0, hz1, hz2⟩ := info_parts infoOrd
  have A0 : Hid (OrdL (w.alloc (.cells #[] 25)) w.heap.size (.slice (some ⟨w.heap.size, 0, none⟩) 0 0) []) := OrdL.empty w _ (Nat.le_refl _)
  have B0 : Hid (Below w.heap.size w (w.alloc (.cells #[] 25))) := (Below.refl _ _).alloc (Nat.le_refl _) _
  have H : Hid (Ords w a n F) := h
  clear h
  by_cases hR : RightO F n
  rotate_left
  · have E : Hid (dueL F n d = []) := if_neg hR
    have HR : Hid (¬ RightO F n) := hR
    clear hR
    go_enter Try.func23, Try.ntmps23
    go_wp2
    refine wp_loop_rounds 1 ?_
    rw [rounds_succ]
    go_wp2_with fail
    refine (specOrds_no a n c F _ (H.out.below B0.out) HR.out).mono ?_
    rintro e w1 ⟨rfl, B1⟩
    have A1 : Hid (OrdL w1 w.heap.size (.slice (some ⟨w.heap.size, 0, none⟩) 0 0) []) := A0.out.kept B1
    have B1' : Hid (Below w.heap.size w w1) := B0.out.trans (B1.mono B0.out.size)
    clear B1 A0 B0
    go_wp2
    go_ret
    rw [E.out]
    exact ⟨_, rfl, A1.out, B1'.out⟩
  have E : Hid (dueL F n d = dueUp F d n) := if_pos hR
  have HR : Hid (RightO F n) := hR
  have hn8 := hR.1
  clear hR
  go_enter Try.func23, Try.ntmps23
  go_wp2
  go_loopw [5, 6] (fun v i wr => ∃ k : Nat, k ≤ n ∧ i = .int .i64 k ∧ Hid (OrdL wr w.heap.size v (dueUp F d k)) ∧ Hid (Below w.heap.size w wr)) (fun _ i _ => n - (intOf i).toNat)
  case atStart => exact ⟨0, Nat.zero_le _, rfl, A0, B0⟩
  case round =>
    obtain ⟨k, hk, rfl, hA, hB⟩ := hrel
    clear A0 B0
    obtain ⟨av, cv, hv, hlt0, _⟩ := hA.out.shape
    have hlen := dueUp_len F d k
    have HLT : Hid (∀ g, (Value.slice av (dueUp F d k).length cv).ownBlock = some g → w.heap.size ≤ g ∧ g < wr.heap.size) := by rw [← hv]; exact hlt0
    subst hv
    clear hlt0
    go_wp2_with fail
    refine (specOrds_yes a n c F _ (H.out.below hB.out) HR.out).mono ?_
    rintro e w1 ⟨rfl, B1⟩
    have A1 : Hid (OrdL w1 w.heap.size (.slice av (dueUp F d k).length cv) (dueUp F d k)) := hA.out.kept B1
    have B1' : Hid (Below w.heap.size w w1) := hB.out.trans (B1.mono hB.out.size)
    clear B1 hA hB
    by_cases hlt : k < n
    · obtain ⟨b, o, rfl, hb0, hA0⟩ := (H.out.below B1'.out).acc hlt
      obtain ⟨c0, c1, c2, c3, c4, c5, c6⟩ := hA0
      go_wp2_with fail
      refine (specIs (F k) d _).mono ?_
      rintro e w2 ⟨⟨bo, rfl, hb1, hb2⟩, B2⟩
      have A2 : Hid (OrdL w2 w.heap.size (.slice av (dueUp F d k).length cv) (dueUp F d k)) := A1.out.kept B2
      have B2' : Hid (Below w.heap.size w w2) := B1'.out.trans (B2.mono B1'.out.size)
      have hA2 : OrdAt w2 b (o + k * 7) (F k) := by
        obtain ⟨b', o', e', hb', hA'⟩ := (H.out.below B2'.out).acc hlt
        obtain ⟨rfl, rfl⟩ : b = b' ∧ o = o' := by simpa using e'
        exact hA'
      clear B2 A1 B1' c0 c1 c2 c3 c4 c5 c6
      cases bo with
      | true =>
        have HD : Hid (dueUp F d (k + 1) = dueUp F d k ++ [F k]) := dueUp_yes (hb1 rfl)
        clear hb1 hb2
        obtain ⟨c0, c1, c2, c3, c4, c5, c6⟩ := hA2
        go_wp2_with (at_builtin; refine wpList_append_own _ rfl _ _ 31 rfl w.heap.size 25 i0 _ 7 56 Try.underlying31 hi hz0 hz1 hz2 rfl (by decide) _ _ _ rfl (World.ownsRow.alloc A2.out _) ⟨_, 0, none⟩ 1 1 (OrdC (F k)) rfl rfl ?_ ?_ ?_ ?_ ?_ ?_)
        · intro j u hj
          have hj8 : j < 7 := by
            by_cases e : j < 7
            · exact e
            · rw [List.getElem?_eq_none (by simp [OrdC]; omega)] at hj; cases hj
          have hcase : j = 0 ∨ j = 1 ∨ j = 2 ∨ j = 3 ∨ j = 4 ∨ j = 5 ∨ j = 6 := by omega
          rcases hcase with e | e | e | e | e | e | e <;> subst e <;> simp [OrdC] at hj <;> subst hj <;> simp [Addr.add, go_sem]
        · intro u hu
          simp only [OrdC, List.mem_cons, List.not_mem_nil, or_false] at hu
          rcases hu with e | e | e | e | e | e | e <;> subst e <;> rfl
        · unfold maxLen; omega
        · omega
        · have := B2'.out.size; simp; omega
        · intro v' w3 hown hgrow _
          have A3 : Hid (OrdL w3 w.heap.size v' (dueUp F d (k + 1))) := by
            show OrdL w3 w.heap.size v' (dueUp F d (k + 1))
            rw [HD.out]
            unfold OrdL
            simpa using hown
          have B3 : Hid (Below w.heap.size w w3) := (B2'.out.alloc B2'.out.size _).grown hgrow (by have := B2'.out.size; simp; omega) (fun q hq => (HLT.out q hq).1)
          clear hown hgrow
          obtain ⟨a3, m3, hv3, _, _⟩ := A3.out.shape
          subst hv3
          go_wp2
          go_roundw
          case rel => exact ⟨k + 1, by omega, by go_num, A3, B3⟩
          case measure => simp [intOf]; omega
      | false =>
        have A3 : Hid (OrdL w2 w.heap.size (.slice av (dueUp F d k).length cv) (dueUp F d (k + 1))) := by
          show OrdL w2 w.heap.size (.slice av (dueUp F d k).length cv) (dueUp F d (k + 1))
          rw [dueUp_no (hb2 rfl)]; exact A2.out
        clear hb1 hb2
        go_wp2
        go_roundw
        case rel => exact ⟨k + 1, by omega, by go_num, A3, B2'⟩
        case measure => simp [intOf]; omega
    · have hkn : k = n := by omega
      subst hkn
      go_wp2
      go_ret
      rw [E.out]
      exact ⟨_, rfl, A1.out, B1'.out⟩

set_option maxHeartbeats 2000000 in
theorem implDueOn (a : Option Addr) (n c : Nat) (F : Nat → Ord) (d : Int) (w : World) (h : Ords w a n F) :
    Calls Try.prog 24 #[.slice a n c, .int .i64 d] w fun e w' => ∃ v, e = .returned v ∧ OrdL w' w.heap.size v (dueL F n d) ∧ Below w.heap.size w w' := by
  obtain ⟨i0, hi, hz0, hz1, hz2⟩ := info_parts infoOrd
  have H : Hid (Ords w a n F) := h
  clear h
  by_cases hR : RightO F n
  rotate_left
  · have E : Hid (dueL F n d = []) := if_neg hR
    have HR : Hid (¬ RightO F n) := hR
    clear hR
    go_enter Try.func24, Try.ntmps24
    go_wp2_with fail
    refine (implOrds_no a n c F _ H.out HR.out).mono ?_
    rintro e w1 ⟨rfl, B1⟩
    have B1' : Hid (Below w.heap.size w w1) := B1
    clear B1
    go_wp2
    go_ret
    rw [E.out]
    exact ⟨_, rfl, OrdL.nil _ _, B1'.out⟩
  have E : Hid (dueL F n d = dueUp F d n) := if_pos hR
  have HR : Hid (RightO F n) := hR
  have hn8 := hR.1
  clear hR
  go_enter Try.func24, Try.ntmps24
  go_wp2_with fail
  refine (implOrds_yes a n c F _ H.out HR.out).mono ?_
  rintro e w1 ⟨rfl, B1⟩
  have B1' : Hid (Below w.heap.size w w1) := B1
  clear B1
  go_wp2
  go_loopw [5, 13] (fun v i wr => ∃ k : Nat, k ≤ n ∧ i = .int .i64 k ∧ Hid (OrdL wr w.heap.size v (dueUp F d k)) ∧ Hid (Below w.heap.size w wr)) (fun _ i _ => n - (intOf i).toNat)
  case atStart => exact ⟨0, Nat.zero_le _, rfl, OrdL.nil _ _, B1'⟩
  case round =>
    obtain ⟨k, hk, rfl, hA, hB⟩ := hrel
    clear B1'
    obtain ⟨av, cv, hv, hlt0, _⟩ := hA.out.shape
    have hlen := dueUp_len F d k
    have HLT : Hid (∀ g, (Value.slice av (dueUp F d k).length cv).ownBlock = some g → w.heap.size ≤ g ∧ g < wr.heap.size) := by rw [← hv]; exact hlt0
    subst hv
    clear hlt0
    by_cases hlt : k < n
    · obtain ⟨b, o, rfl, hb0, hA0⟩ := (H.out.below hB.out).acc hlt
      obtain ⟨c0, c1, c2, c3, c4, c5, c6⟩ := hA0
      have X0 : Hid (OrdBox (wr.alloc (.cells #[.int .i64 (F k).id, .int .i64 (F k).src, .int .i64 (F k).dst, .int .i64 (F k).amount, .int .i64 (F k).first, .int .i64 (F k).every, .int .i64 (F k).times] 25)) wr.heap.size (F k)) := OrdBox.new wr (F k) 25
      go_wp2_with fail
      refine (implIs (F k) d _).mono ?_
      rintro e w2 ⟨⟨bo, rfl, hb1, hb2⟩, B2⟩
      have X2 : Hid (OrdBox w2 wr.heap.size (F k)) := X0.out.below B2
      have A2 : Hid (OrdL w2 w.heap.size (.slice av (dueUp F d k).length cv) (dueUp F d k)) := OrdL.kept (World.ownsRow.alloc hA.out _) B2
      have B2' : Hid (Below w.heap.size w w2) := (hB.out.alloc hB.out.size _).trans (B2.mono (by have := hB.out.size; simp; omega))
      clear B2 hA hB c0 c1 c2 c3 c4 c5 c6 X0
      cases bo with
      | true =>
        have HD : Hid (dueUp F d (k + 1) = dueUp F d k ++ [F k]) := dueUp_yes (hb1 rfl)
        clear hb1 hb2
        obtain ⟨c0, c1, c2, c3, c4, c5, c6, _⟩ := X2.out
        go_wp2_with (at_builtin; refine wpList_append_own _ rfl _ _ 31 rfl w.heap.size 25 i0 _ 7 56 Try.underlying31 hi hz0 hz1 hz2 rfl (by decide) _ _ _ rfl (World.ownsRow.alloc A2.out _) ⟨_, 0, none⟩ 1 1 (OrdC (F k)) rfl rfl ?_ ?_ ?_ ?_ ?_ ?_)
        · intro j u hj
          have hj8 : j < 7 := by
            by_cases e : j < 7
            · exact e
            · rw [List.getElem?_eq_none (by simp [OrdC]; omega)] at hj; cases hj
          have hcase : j = 0 ∨ j = 1 ∨ j = 2 ∨ j = 3 ∨ j = 4 ∨ j = 5 ∨ j = 6 := by omega
          rcases hcase with e | e | e | e | e | e | e <;> subst e <;> simp [OrdC] at hj <;> subst hj <;> simp [Addr.add, go_sem]
        · intro u hu
          simp only [OrdC, List.mem_cons, List.not_mem_nil, or_false] at hu
          rcases hu with e | e | e | e | e | e | e <;> subst e <;> rfl
        · unfold maxLen; omega
        · omega
        · have := B2'.out.size; simp; omega
        · intro v' w3 hown hgrow _
          have A3 : Hid (OrdL w3 w.heap.size v' (dueUp F d (k + 1))) := by
            show OrdL w3 w.heap.size v' (dueUp F d (k + 1))
            rw [HD.out]
            unfold OrdL
            simpa using hown
          have B3 : Hid (Below w.heap.size w w3) := (B2'.out.alloc B2'.out.size _).grown hgrow (by have := B2'.out.size; simp; omega) (fun q hq => (HLT.out q hq).1)
          clear hown hgrow
          obtain ⟨a3, m3, hv3, _, _⟩ := A3.out.shape
          subst hv3
          go_wp2
          go_roundw
          case rel => exact ⟨k + 1, by omega, by go_num, A3, B3⟩
          case measure => simp [intOf]; omega
      | false =>
        have A3 : Hid (OrdL w2 w.heap.size (.slice av (dueUp F d k).length cv) (dueUp F d (k + 1))) := by
          show OrdL w2 w.heap.size (.slice av (dueUp F d k).length cv) (dueUp F d (k + 1))
          rw [dueUp_no (hb2 rfl)]; exact A2.out
        clear hb1 hb2
        go_wp2
        go_roundw
        case rel => exact ⟨k + 1, by omega, by go_num, A3, B2'⟩
        case measure => simp [intOf]; omega
    · have hkn : k = n := by omega
      subst hkn
      go_wp2
      go_ret
      rw [E.out]
      exact ⟨_, rfl, hA.out, hB.out⟩
end Go.Proofs.Ytlndklendejjdaa
