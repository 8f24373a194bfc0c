/- BOpText of the program, and the law FnExactBOpText. Condition: the library's table of powers of ten as its text lays it. -/
import Derived.Test.YtodbcdclglaniaaDoorTa
import Derived.Test.YtodbcdclglaniaaDoorTb
import Derived.Test.YtodbcdclglaniaaDoorTc
import Derived.Test.YtodbcdclglaniaaDoorToC
namespace Go.Proofs.YtodbcdclglaniaaDoor
open Go.RowKit
set_option maxRecDepth 8000

set_option maxHeartbeats 2000000 in
theorem implT_no (K n : Int) (x : OpF) (o : Ord) (w : World) (h : ¬ bopOk K x o n) : Calls Tryd.prog 12 #[.agg #[.int .i64 K, .int .i64 x.k, .int .i64 x.i, .int .i64 x.t, .int .i64 x.m, .int .i64 x.r, .int .i64 o.id, .int .i64 o.src, .int .i64 o.dst, .int .i64 o.amount, .int .i64 o.first, .int .i64 o.every, .int .i64 o.times, .int .i64 n]] w fun e w' => RowOut w ⟨#[]⟩ e w' := by
  have HB : Hid (Below w.heap.size w (w.alloc (.cells #[.int .i64 K, .int .i64 x.k, .int .i64 x.i, .int .i64 x.t, .int .i64 x.m, .int .i64 x.r, .int .i64 o.id, .int .i64 o.src, .int .i64 o.dst, .int .i64 o.amount, .int .i64 o.first, .int .i64 o.every, .int .i64 o.times, .int .i64 n] 45))) := (Below.refl _ _).alloc (Nat.le_refl _) _
  have HN : Hid (¬ bopOk K x o n) := h
  clear h
  obtain ⟨W0, hW0⟩ : ∃ W0, W0 = w.alloc (.cells #[.int .i64 K, .int .i64 x.k, .int .i64 x.i, .int .i64 x.t, .int .i64 x.m, .int .i64 x.r, .int .i64 o.id, .int .i64 o.src, .int .i64 o.dst, .int .i64 o.amount, .int .i64 o.first, .int .i64 o.every, .int .i64 o.times, .int .i64 n] 45) := ⟨_, rfl⟩
  rw [← hW0] at HB
  have HW0 : Hid (W0 = _) := hW0
  clear hW0
  go_enter Tryd.func12, Tryd.ntmps12
  go_wp2_with fail
  rw [← HW0.out]
  refine (implBop K n x o _).mono ?_
  rintro e w1 ⟨ht, B1⟩
  have he := ht.false HN.out
  subst he
  have H1 : Hid (Below w.heap.size w w1) := HB.out.trans (B1.mono HB.out.size)
  clear ht B1 HB HW0
  go_wp2
  go_ret
  exact ⟨rfl, H1.out⟩

set_option maxHeartbeats 2000000 in
theorem implT (K n : Int) (x : OpF) (o : Ord) (w : World) (h : bopOk K x o n) (hp : Pow w) (wd : ByteArray) (ns : List Int) (hw : wd.size ≤ 100) (hl : ns.length ≤ 8) (hs : ∀ z ∈ ns, Sml z)
    (hf : ∀ R w, Bx14 w R K x o n → Calls Tryd.prog 35 #[.pointer (some ⟨R, 0, none⟩)] w fun e w' => FormOut w wd ns e w') : Calls Tryd.prog 12 #[.agg #[.int .i64 K, .int .i64 x.k, .int .i64 x.i, .int .i64 x.t, .int .i64 x.m, .int .i64 x.r, .int .i64 o.id, .int .i64 o.src, .int .i64 o.dst, .int .i64 o.amount, .int .i64 o.first, .int .i64 o.every, .int .i64 o.times, .int .i64 n]] w fun e w' => RowOut w (rowB wd ns) e w' := by
  obtain ⟨W0, hW0, X0, HB⟩ : ∃ W0, W0 = w.alloc (.cells #[.int .i64 K, .int .i64 x.k, .int .i64 x.i, .int .i64 x.t, .int .i64 x.m, .int .i64 x.r, .int .i64 o.id, .int .i64 o.src, .int .i64 o.dst, .int .i64 o.amount, .int .i64 o.first, .int .i64 o.every, .int .i64 o.times, .int .i64 n] 45) ∧ Hid (Bx14 W0 w.heap.size K x o n) ∧ Hid (Below w.heap.size w W0) := ⟨_, rfl, Bx14.new w K x o n 45, (Below.refl _ _).alloc (Nat.le_refl _) _⟩
  have HW0 : Hid (W0 = _) := hW0
  have HN : Hid (bopOk K x o n) := h
  have HF : Hid (∀ R w, Bx14 w R K x o n → Calls Tryd.prog 35 #[.pointer (some ⟨R, 0, none⟩)] w fun e w' => FormOut w wd ns e w') := hf
  have HR : Hid (∀ W a m c, ns.length = m → PtrC W a ns → Pow W → Calls Tryd.prog 34 #[.string wd, .slice a m c] W fun e w' => e = .returned (.string (rowB wd ns)) ∧ Below W.heap.size W w') := fun W a m c hm h1 h2 => implRow wd hw a m c ns hm (by omega) hs W h1 h2
  have HP : Hid (Pow w) := hp
  clear h hf hs hw hp hW0
  go_enter Tryd.func12, Tryd.ntmps12
  go_wp2_with fail
  rw [← HW0.out]
  refine (implBop K n x o _).mono ?_
  rintro e w1 ⟨ht, B1⟩
  have he := ht.true HN.out
  subst he
  have H1 : Hid (Bx14 w1 w.heap.size K x o n ∧ Below w.heap.size w w1) := ⟨X0.out.kept B1 X0.out.2, HB.out.trans (B1.mono HB.out.size)⟩
  clear ht B1 HB HW0 X0
  go_wp2_with fail
  refine (HF.out _ _ H1.out.1).mono ?_
  rintro e w2 ⟨a, c, rfl, P2, B2⟩
  have H2 : Hid (Below w.heap.size w w2 ∧ PtrC w2 a ns) := ⟨H1.out.2.trans (B2.mono H1.out.2.size), P2⟩
  obtain ⟨m, hm⟩ : ∃ m, m = ns.length := ⟨_, rfl⟩
  rw [← hm]
  have HM : Hid (ns.length = m) := hm.symm
  clear P2 B2 H1 hm hl HF
  go_wp2_with fail
  refine (HR.out _ a m c HM.out H2.out.2 (HP.out.below H2.out.1)).mono ?_
  rintro e w3 ⟨rfl, B3⟩
  have H3 : Hid (Below w.heap.size w w3) := H2.out.1.trans (B3.mono H2.out.1.size)
  clear B3 H2 HR
  go_wp2
  go_ret
  exact ⟨rfl, H3.out⟩

/-- Both sides have one answer. -/
def Both (K n : Int) (x : OpF) (o : Ord) : Prop :=
  ∃ t : ByteArray, (∀ w, Calls Tryd.prog 10 #[.agg #[.int .i64 K, .int .i64 x.k, .int .i64 x.i, .int .i64 x.t, .int .i64 x.m, .int .i64 x.r, .int .i64 o.id, .int .i64 o.src, .int .i64 o.dst, .int .i64 o.amount, .int .i64 o.first, .int .i64 o.every, .int .i64 o.times, .int .i64 n]] w fun e w' => RowOut w t e w') ∧ (∀ w, Pow w → Calls Tryd.prog 12 #[.agg #[.int .i64 K, .int .i64 x.k, .int .i64 x.i, .int .i64 x.t, .int .i64 x.m, .int .i64 x.r, .int .i64 o.id, .int .i64 o.src, .int .i64 o.dst, .int .i64 o.amount, .int .i64 o.first, .int .i64 o.every, .int .i64 o.times, .int .i64 n]] w fun e w' => RowOut w t e w')
theorem both (K n : Int) (x : OpF) (o : Ord) : Both K n x o := by
  by_cases h : bopOk K x o n
  rotate_left
  · exact ⟨⟨#[]⟩, fun w => specT_no K n x o w h, fun w _ => implT_no K n x o w h⟩
  have h' := h
  rcases h with ⟨rfl, h1, h2, h3⟩ | ⟨rfl, h1, h2, h3⟩ | ⟨rfl, h1, h2, h3⟩ | ⟨rfl, h1, h2, h3⟩
  · obtain ⟨k, i, t, m, r⟩ := x
    have h4 : k = 1 ∨ k = 2 ∨ k = 3 ∨ k = 4 ∨ k = 5 ∨ k = 6 ∨ k = 7 ∨ k = 8 ∨ k = 9 ∨ k = 10 := by
      have := h1.2
      simp only at this
      omega
    have si : Sml i := by have := h1.1; exact ⟨by simp only at this; omega, by simp only at this; omega⟩
    have st : Sml t := by have := h1.2; simp only at this; exact ⟨by omega, by omega⟩
    have sm : Sml m := by have := h1.2; simp only at this; exact ⟨by omega, by omega⟩
    have sr : Sml r := by have := h1.2; simp only at this; exact ⟨by omega, by omega⟩
    rcases h4 with rfl | rfl | rfl | rfl | rfl | rfl | rfl | rfl | rfl | rfl
    · have hs : ∀ z ∈ [i, t, m, r], Sml z := by intro z hz; simp at hz; first | (rcases hz with rfl | rfl | rfl | rfl <;> assumption) | (rcases hz with rfl | rfl | rfl <;> assumption) | (rcases hz with rfl | rfl <;> assumption) | (subst hz; assumption)
      exact ⟨rowB ⟨#[111, 112, 101, 110]⟩ [i, t, m, r], fun w => specT_1 i t m r n o w h' hs, fun w hp => implT 19 n ⟨1, i, t, m, r⟩ o w h' hp ⟨#[111, 112, 101, 110]⟩ [i, t, m, r] (by decide) (by simp) hs (fun R w hb => form_19 R n ⟨1, i, t, m, r⟩ o w hb ⟨#[111, 112, 101, 110]⟩ [i, t, m, r] (fun w hb => opForm_1 R 19 n ⟨1, i, t, m, r⟩ o w hb rfl))⟩
    · have hs : ∀ z ∈ [i], Sml z := by intro z hz; simp at hz; first | (rcases hz with rfl | rfl | rfl | rfl <;> assumption) | (rcases hz with rfl | rfl | rfl <;> assumption) | (rcases hz with rfl | rfl <;> assumption) | (subst hz; assumption)
      exact ⟨rowB ⟨#[102, 114, 101, 101, 122, 101]⟩ [i], fun w => specT_2 i t m r n o w h' hs, fun w hp => implT 19 n ⟨2, i, t, m, r⟩ o w h' hp ⟨#[102, 114, 101, 101, 122, 101]⟩ [i] (by decide) (by simp) hs (fun R w hb => form_19 R n ⟨2, i, t, m, r⟩ o w hb ⟨#[102, 114, 101, 101, 122, 101]⟩ [i] (fun w hb => opForm_2 R 19 n ⟨2, i, t, m, r⟩ o w hb rfl))⟩
    · have hs : ∀ z ∈ [i], Sml z := by intro z hz; simp at hz; first | (rcases hz with rfl | rfl | rfl | rfl <;> assumption) | (rcases hz with rfl | rfl | rfl <;> assumption) | (rcases hz with rfl | rfl <;> assumption) | (subst hz; assumption)
      exact ⟨rowB ⟨#[116, 104, 97, 119]⟩ [i], fun w => specT_3 i t m r n o w h' hs, fun w hp => implT 19 n ⟨3, i, t, m, r⟩ o w h' hp ⟨#[116, 104, 97, 119]⟩ [i] (by decide) (by simp) hs (fun R w hb => form_19 R n ⟨3, i, t, m, r⟩ o w hb ⟨#[116, 104, 97, 119]⟩ [i] (fun w hb => opForm_3 R 19 n ⟨3, i, t, m, r⟩ o w hb rfl))⟩
    · have hs : ∀ z ∈ [i], Sml z := by intro z hz; simp at hz; first | (rcases hz with rfl | rfl | rfl | rfl <;> assumption) | (rcases hz with rfl | rfl | rfl <;> assumption) | (rcases hz with rfl | rfl <;> assumption) | (subst hz; assumption)
      exact ⟨rowB ⟨#[99, 108, 111, 115, 101]⟩ [i], fun w => specT_4 i t m r n o w h' hs, fun w hp => implT 19 n ⟨4, i, t, m, r⟩ o w h' hp ⟨#[99, 108, 111, 115, 101]⟩ [i] (by decide) (by simp) hs (fun R w hb => form_19 R n ⟨4, i, t, m, r⟩ o w hb ⟨#[99, 108, 111, 115, 101]⟩ [i] (fun w hb => opForm_4 R 19 n ⟨4, i, t, m, r⟩ o w hb rfl))⟩
    · have hs : ∀ z ∈ [i, m], Sml z := by intro z hz; simp at hz; first | (rcases hz with rfl | rfl | rfl | rfl <;> assumption) | (rcases hz with rfl | rfl | rfl <;> assumption) | (rcases hz with rfl | rfl <;> assumption) | (subst hz; assumption)
      exact ⟨rowB ⟨#[112, 117, 116]⟩ [i, m], fun w => specT_5 i t m r n o w h' hs, fun w hp => implT 19 n ⟨5, i, t, m, r⟩ o w h' hp ⟨#[112, 117, 116]⟩ [i, m] (by decide) (by simp) hs (fun R w hb => form_19 R n ⟨5, i, t, m, r⟩ o w hb ⟨#[112, 117, 116]⟩ [i, m] (fun w hb => opForm_5 R 19 n ⟨5, i, t, m, r⟩ o w hb rfl))⟩
    · have hs : ∀ z ∈ [i, m], Sml z := by intro z hz; simp at hz; first | (rcases hz with rfl | rfl | rfl | rfl <;> assumption) | (rcases hz with rfl | rfl | rfl <;> assumption) | (rcases hz with rfl | rfl <;> assumption) | (subst hz; assumption)
      exact ⟨rowB ⟨#[116, 97, 107, 101]⟩ [i, m], fun w => specT_6 i t m r n o w h' hs, fun w hp => implT 19 n ⟨6, i, t, m, r⟩ o w h' hp ⟨#[116, 97, 107, 101]⟩ [i, m] (by decide) (by simp) hs (fun R w hb => form_19 R n ⟨6, i, t, m, r⟩ o w hb ⟨#[116, 97, 107, 101]⟩ [i, m] (fun w hb => opForm_6 R 19 n ⟨6, i, t, m, r⟩ o w hb rfl))⟩
    · have hs : ∀ z ∈ [i, t, m], Sml z := by intro z hz; simp at hz; first | (rcases hz with rfl | rfl | rfl | rfl <;> assumption) | (rcases hz with rfl | rfl | rfl <;> assumption) | (rcases hz with rfl | rfl <;> assumption) | (subst hz; assumption)
      exact ⟨rowB ⟨#[112, 97, 121]⟩ [i, t, m], fun w => specT_7 i t m r n o w h' hs, fun w hp => implT 19 n ⟨7, i, t, m, r⟩ o w h' hp ⟨#[112, 97, 121]⟩ [i, t, m] (by decide) (by simp) hs (fun R w hb => form_19 R n ⟨7, i, t, m, r⟩ o w hb ⟨#[112, 97, 121]⟩ [i, t, m] (fun w hb => opForm_7 R 19 n ⟨7, i, t, m, r⟩ o w hb rfl))⟩
    · have hs : ∀ z ∈ [i, m], Sml z := by intro z hz; simp at hz; first | (rcases hz with rfl | rfl | rfl | rfl <;> assumption) | (rcases hz with rfl | rfl | rfl <;> assumption) | (rcases hz with rfl | rfl <;> assumption) | (subst hz; assumption)
      exact ⟨rowB ⟨#[108, 105, 109, 105, 116]⟩ [i, m], fun w => specT_8 i t m r n o w h' hs, fun w hp => implT 19 n ⟨8, i, t, m, r⟩ o w h' hp ⟨#[108, 105, 109, 105, 116]⟩ [i, m] (by decide) (by simp) hs (fun R w hb => form_19 R n ⟨8, i, t, m, r⟩ o w hb ⟨#[108, 105, 109, 105, 116]⟩ [i, m] (fun w hb => opForm_8 R 19 n ⟨8, i, t, m, r⟩ o w hb rfl))⟩
    · have hs : ∀ z ∈ [i, t], Sml z := by intro z hz; simp at hz; first | (rcases hz with rfl | rfl | rfl | rfl <;> assumption) | (rcases hz with rfl | rfl | rfl <;> assumption) | (rcases hz with rfl | rfl <;> assumption) | (subst hz; assumption)
      exact ⟨rowB ⟨#[104, 97, 110, 103]⟩ [i, t], fun w => specT_9 i t m r n o w h' hs, fun w hp => implT 19 n ⟨9, i, t, m, r⟩ o w h' hp ⟨#[104, 97, 110, 103]⟩ [i, t] (by decide) (by simp) hs (fun R w hb => form_19 R n ⟨9, i, t, m, r⟩ o w hb ⟨#[104, 97, 110, 103]⟩ [i, t] (fun w hb => opForm_9 R 19 n ⟨9, i, t, m, r⟩ o w hb rfl))⟩
    · have hs : ∀ z ∈ [i, m], Sml z := by intro z hz; simp at hz; first | (rcases hz with rfl | rfl | rfl | rfl <;> assumption) | (rcases hz with rfl | rfl | rfl <;> assumption) | (rcases hz with rfl | rfl <;> assumption) | (subst hz; assumption)
      exact ⟨rowB ⟨#[116, 97, 114, 103, 101, 116]⟩ [i, m], fun w => specT_10 i t m r n o w h' hs, fun w hp => implT 19 n ⟨10, i, t, m, r⟩ o w h' hp ⟨#[116, 97, 114, 103, 101, 116]⟩ [i, m] (by decide) (by simp) hs (fun R w hb => form_19 R n ⟨10, i, t, m, r⟩ o w hb ⟨#[116, 97, 114, 103, 101, 116]⟩ [i, m] (fun w hb => opForm_10 R 19 n ⟨10, i, t, m, r⟩ o w hb rfl))⟩
  · have hs : ∀ z ∈ [o.id, o.src, o.dst, o.amount, o.first, o.every, o.times], Sml z := by
      unfold ordOk at h2
      intro z hz
      simp at hz
      rcases hz with rfl | rfl | rfl | rfl | rfl | rfl | rfl <;> exact ⟨by omega, by omega⟩
    exact ⟨rowB ⟨#[111, 114, 100, 101, 114]⟩ [o.id, o.src, o.dst, o.amount, o.first, o.every, o.times], fun w => specT_20 x n o w h' hs, fun w hp => implT 20 n x o w h' hp ⟨#[111, 114, 100, 101, 114]⟩ [o.id, o.src, o.dst, o.amount, o.first, o.every, o.times] (by decide) (by simp) hs (fun R w hb => form_20 R n x o w hb)⟩
  · have hs : ∀ z ∈ [n], Sml z := by intro z hz; simp at hz; subst hz; exact ⟨by omega, by omega⟩
    exact ⟨rowB ⟨#[99, 97, 110, 99, 101, 108]⟩ [n], fun w => specT_21 x n o w h' hs, fun w hp => implT 21 n x o w h' hp ⟨#[99, 97, 110, 99, 101, 108]⟩ [n] (by decide) (by simp) hs (fun R w hb => form_21 R n x o w hb)⟩
  · have hs : ∀ z ∈ ([] : List Int), Sml z := by intro z hz; cases hz
    exact ⟨rowB ⟨#[100, 97, 121]⟩ [], fun w => specT_22 x n o w h' hs, fun w hp => implT 22 n x o w h' hp ⟨#[100, 97, 121]⟩ [] (by decide) (by simp) hs (fun R w hb => form_22 R n x o w hb)⟩

set_option maxHeartbeats 4000000 in
theorem lawBOpText (K n : Int) (x : OpF) (o : Ord) (w : World) (hp : Pow w) : Calls Tryd.prog 4 #[.agg #[.int .i64 K, .int .i64 x.k, .int .i64 x.i, .int .i64 x.t, .int .i64 x.m, .int .i64 x.r, .int .i64 o.id, .int .i64 o.src, .int .i64 o.dst, .int .i64 o.amount, .int .i64 o.first, .int .i64 o.every, .int .i64 o.times, .int .i64 n]] w fun e w' => e = .returned (.bool true) ∧ Below w.heap.size w w' := by
  obtain ⟨t, hS, hI⟩ := both K n x o
  have HS : Hid (∀ w, Calls Tryd.prog 10 #[.agg #[.int .i64 K, .int .i64 x.k, .int .i64 x.i, .int .i64 x.t, .int .i64 x.m, .int .i64 x.r, .int .i64 o.id, .int .i64 o.src, .int .i64 o.dst, .int .i64 o.amount, .int .i64 o.first, .int .i64 o.every, .int .i64 o.times, .int .i64 n]] w fun e w' => RowOut w t e w') := hS
  have HI : Hid (∀ w, Pow w → Calls Tryd.prog 12 #[.agg #[.int .i64 K, .int .i64 x.k, .int .i64 x.i, .int .i64 x.t, .int .i64 x.m, .int .i64 x.r, .int .i64 o.id, .int .i64 o.src, .int .i64 o.dst, .int .i64 o.amount, .int .i64 o.first, .int .i64 o.every, .int .i64 o.times, .int .i64 n]] w fun e w' => RowOut w t e w') := hI
  have HP : Hid (Pow w) := hp
  obtain ⟨W0, hW0, X0, HB⟩ : ∃ W0, W0 = w.alloc (.cells #[.int .i64 K, .int .i64 x.k, .int .i64 x.i, .int .i64 x.t, .int .i64 x.m, .int .i64 x.r, .int .i64 o.id, .int .i64 o.src, .int .i64 o.dst, .int .i64 o.amount, .int .i64 o.first, .int .i64 o.every, .int .i64 o.times, .int .i64 n] 40) ∧ Hid (Bx14 W0 w.heap.size K x o n) ∧ Hid (Below w.heap.size w W0) := ⟨_, rfl, Bx14.new w K x o n 40, (Below.refl _ _).alloc (Nat.le_refl _) _⟩
  have HW0 : Hid (W0 = _) := hW0
  have et : (t.toList == t.toList) = true := by simp
  clear hS hI hp hW0
  go_enter Tryd.func4, Tryd.ntmps4
  go_wp2_with fail
  rw [← HW0.out]
  refine (toBOp K n x o _).mono ?_
  rintro e w1 ⟨rfl, B1⟩
  have X1 : Hid (Bx14 w1 w.heap.size K x o n ∧ Below w.heap.size w w1) := ⟨X0.out.kept B1 X0.out.2, HB.out.trans (B1.mono HB.out.size)⟩
  clear B1 X0 HB HW0
  go_wp2_with fail
  refine (HS.out _).mono ?_
  rintro e w2 ⟨rfl, B2⟩
  have X2 : Hid (Bx14 w2 w.heap.size K x o n ∧ Below w.heap.size w w2) := ⟨X1.out.1.kept B2 X1.out.1.2, X1.out.2.trans (B2.mono X1.out.2.size)⟩
  clear B2 X1 HS
  obtain ⟨⟨c0, c1, c2, c3, c4, c5, c6, c7, c8, c9, c10, c11, c12, c13⟩, _⟩ := X2.out.1
  go_wp2_with fail
  refine (toBOp K n x o _).mono ?_
  rintro e w3 ⟨rfl, B3⟩
  have X3 : Hid (Below w.heap.size w w3) := X2.out.2.trans (B3.mono X2.out.2.size)
  clear B3 X2 c0 c1 c2 c3 c4 c5 c6 c7 c8 c9 c10 c11 c12 c13
  go_wp2_with fail
  refine (HI.out _ (HP.out.below X3.out)).mono ?_
  rintro e w4 ⟨rfl, B4⟩
  have X4 : Hid (Below w.heap.size w w4) := X3.out.trans (B4.mono X3.out.size)
  clear B4 X3 HI
  go_wp2
  go_ret
  exact ⟨rfl, X4.out⟩
end Go.Proofs.YtodbcdclglaniaaDoor
