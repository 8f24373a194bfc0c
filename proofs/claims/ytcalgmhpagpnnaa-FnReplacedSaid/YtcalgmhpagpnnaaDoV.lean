/- Do of the specification. Conditions: the disk's lists lie in memory; the op's bytes are at most 1048576. -/
import Derived.Test.YtcalgmhpagpnnaaDoT
namespace Go.Proofs.Ytcalgmhpagpnnaa
open Go.RowKit
set_option maxRecDepth 8000

theorem act_all (q q' q'' : Option Addr) (n m r c c' c'' : Nat) (F G : Nat → Fl) (O : Nat → Dp) (o : Dp) (w : World) (h : Dk w q n F q' m G q'' r O) (ho : o.data.size ≤ 1048576) (hx : diskB (lst F n) (lst G m) (lst O r) = true) :
    Calls Try.prog 59 #[.agg #[.slice q n c, .slice q' m c', .slice q'' r c''], .agg #[.int .i64 o.kind, .string o.name, .string o.dst, .string o.data]] w fun e w' => ∃ v, e = .returned (.tuple #[v, .int .i64 (doC (lst F n) (lst G m) (lst O r) o)]) ∧ DkAns w (doLv (lst F n) (lst G m) (lst O r) o) (doSf (lst F n) (lst G m) (lst O r) o) (doOs (lst F n) (lst G m) (lst O r) o) v w' := by
  have hL : filesB (lst F n) = true := by
    simp only [diskB, Bool.and_eq_true] at hx
    exact hx.1.1.1
  cases hf : formB o
  · have hc : (doC (lst F n) (lst G m) (lst O r) o) = 2 := by simp [doC, hx, hf]
    simp only [doLv, doSf, doOs, hc]
    exact act_2 q q' q'' n m r c c' c'' F G O o w h hL ho hf
  cases hd : doF (lst F n) o with
  | none =>
    have hc : (doC (lst F n) (lst G m) (lst O r) o) = 3 := by simp [doC, hx, hf, hd]
    simp only [doLv, doSf, doOs, hc]
    exact act_3 q q' q'' n m r c c' c'' F G O o w h hL ho hf hd
  | some M =>
    by_cases hr : r = 200
    · have hc : (doC (lst F n) (lst G m) (lst O r) o) = 4 := by
        have e : (lst O r).length = 200 := by rw [lst_len, hr]
        simp [doC, hx, hf, hd, e]
      simp only [doLv, doSf, doOs, hc]
      exact act_4r q q' q'' n m r c c' c'' F G O o w h hL ho M hf hd (by rw [hr]; rfl)
    have hr' : ((r : Int) == 200) = false := by simp; omega
    cases hM : filesB M
    · have hc : (doC (lst F n) (lst G m) (lst O r) o) = 4 := by simp [doC, hx, hf, hd, hM]
      simp only [doLv, doSf, doOs, hc]
      exact act_4f q q' q'' n m r c c' c'' F G O o w h hL ho M hf hd hr' hM
    · have hc : (doC (lst F n) (lst G m) (lst O r) o) = 0 := by simp [doC, hx, hf, hd, hM, lst_len, hr]
      simp only [doLv, doSf, doOs, hc, hd]
      exact act_0 q q' q'' n m r c c' c'' F G O o w h hL ho M hf hd hr' hM

set_option maxHeartbeats 4000000 in
theorem specDo_no (q q' q'' : Option Addr) (n m r c c' c'' : Nat) (F G : Nat → Fl) (O : Nat → Dp) (o : Dp) (w : World) (h : Dk w q n F q' m G q'' r O) (hx : diskB (lst F n) (lst G m) (lst O r) = false) :
    Calls Try.prog 21 #[.agg #[.slice q n c, .slice q' m c', .slice q'' r c''], .agg #[.int .i64 o.kind, .string o.name, .string o.dst, .string o.data]] w fun e w' => ∃ v, e = .returned (.tuple #[v, .int .i64 1]) ∧ DkAns w [] [] [] v w' := by
  have H : Hid (Dk w q n F q' m G q'' r O) := h
  have HX : Hid (diskB (lst F n) (lst G m) (lst O r) = false) := hx
  clear hx
  obtain ⟨W0, hW0, X⟩ : ∃ W0, W0 = ((w.alloc (.cells #[.slice q n c, .slice q' m c', .slice q'' r c''] 27)).alloc (.cells #[.int .i64 o.kind, .string o.name, .string o.dst, .string o.data] 36)).alloc (.cells #[.slice none 0 0, .slice none 0 0, .slice none 0 0] 27) ∧ DoBx w W0 (.slice q n c) (.slice q' m c') (.slice q'' r c'') o := ⟨_, rfl, DoBx.new w _ _ _ o⟩
  have HW0 : Hid (W0 = _) := hW0
  have X0 : Hid (DoBx w W0 (.slice q n c) (.slice q' m c') (.slice q'' r c'') o) := X
  clear hW0 X h
  go_enter Try.func21, Try.ntmps21
  go_wp2_with fail
  rw [← HW0.out]
  refine (specDisk q q' q'' n m r c c' c'' F G O _ (H.out.below X0.out.b)).mono ?_
  rintro e w1 ⟨rfl, D1⟩
  rw [HX.out]
  have X1 : Hid (DoBx w w1 (.slice q n c) (.slice q' m c') (.slice q'' r c'') o) := X0.out.kept D1
  clear D1 X0 HW0
  obtain ⟨_, _, ⟨⟨z0, z1, z2⟩, zf, zl⟩, _⟩ := X1.out
  go_wp2
  exact bodyPost_ret (v := .tuple #[.agg #[.slice none 0 0, .slice none 0 0, .slice none 0 0], .int .i64 1]) (by simp [results, Try.results21, go_sem, z0, z1, z2]) rfl ⟨_, rfl, ansAt (B := w.heap.size + 1 + 1 + 1) ⟨FlL.nil _ _, FlL.nil _ _, DpL.nil _ _, fun g h => by cases h⟩ (by omega) (by omega) X1.out.b⟩
set_option maxHeartbeats 4000000 in
theorem specDo_some (q q' q'' : Option Addr) (n m r c c' c'' : Nat) (F G : Nat → Fl) (O : Nat → Dp) (o : Dp) (w : World) (h : Dk w q n F q' m G q'' r O) (ho : o.data.size ≤ 1048576) (hx : diskB (lst F n) (lst G m) (lst O r) = true) :
    Calls Try.prog 21 #[.agg #[.slice q n c, .slice q' m c', .slice q'' r c''], .agg #[.int .i64 o.kind, .string o.name, .string o.dst, .string o.data]] w fun e w' => ∃ v, e = .returned (.tuple #[v, .int .i64 (doC (lst F n) (lst G m) (lst O r) o)]) ∧ DkAns w (doLv (lst F n) (lst G m) (lst O r) o) (doSf (lst F n) (lst G m) (lst O r) o) (doOs (lst F n) (lst G m) (lst O r) o) v w' := by
  have H : Hid (Dk w q n F q' m G q'' r O) := h
  have HX : Hid (diskB (lst F n) (lst G m) (lst O r) = true) := hx
  have AC : Hid (∀ V, Below w.heap.size w V → Calls Try.prog 59 #[.agg #[.slice q n c, .slice q' m c', .slice q'' r c''], .agg #[.int .i64 o.kind, .string o.name, .string o.dst, .string o.data]] V fun e w' => ∃ v, e = .returned (.tuple #[v, .int .i64 (doC (lst F n) (lst G m) (lst O r) o)]) ∧ DkAns V (doLv (lst F n) (lst G m) (lst O r) o) (doSf (lst F n) (lst G m) (lst O r) o) (doOs (lst F n) (lst G m) (lst O r) o) v w') := fun V hV => act_all q q' q'' n m r c c' c'' F G O o V (h.below hV) ho hx
  clear hx ho
  generalize (doC (lst F n) (lst G m) (lst O r) o) = k at *
  generalize doLv (lst F n) (lst G m) (lst O r) o = L1 at *
  generalize doSf (lst F n) (lst G m) (lst O r) o = L2 at *
  generalize doOs (lst F n) (lst G m) (lst O r) o = L3 at *
  obtain ⟨W0, hW0, X⟩ : ∃ W0, W0 = ((w.alloc (.cells #[.slice q n c, .slice q' m c', .slice q'' r c''] 27)).alloc (.cells #[.int .i64 o.kind, .string o.name, .string o.dst, .string o.data] 36)).alloc (.cells #[.slice none 0 0, .slice none 0 0, .slice none 0 0] 27) ∧ DoBx w W0 (.slice q n c) (.slice q' m c') (.slice q'' r c'') o := ⟨_, rfl, DoBx.new w _ _ _ o⟩
  have HW0 : Hid (W0 = _) := hW0
  have X0 : Hid (DoBx w W0 (.slice q n c) (.slice q' m c') (.slice q'' r c'') o) := X
  clear hW0 X h
  go_enter Try.func21, Try.ntmps21
  go_wp2_with fail
  rw [← HW0.out]
  refine (specDisk q q' q'' n m r c c' c'' F G O _ (H.out.below X0.out.b)).mono ?_
  rintro e w1 ⟨rfl, D1⟩
  rw [HX.out]
  have X1 : Hid (DoBx w w1 (.slice q n c) (.slice q' m c') (.slice q'' r c'') o) := X0.out.kept D1
  clear D1 X0 HW0
  obtain ⟨⟨⟨s0, s1, s2⟩, _, _⟩, ⟨⟨o0, o1, o2, o3⟩, _⟩, _, _⟩ := X1.out
  go_wp2_with fail
  refine (AC.out _ X1.out.b).mono ?_
  rintro e w9 ⟨v9, rfl, a1, c1, a2, c2, a3, c3, rfl, O9, D9⟩
  have X9 : Hid (DoBx w w9 (.slice q n c) (.slice q' m c') (.slice q'' r c'') o) := X1.out.kept D9
  generalize L1.length = n1 at *
  generalize L2.length = n2 at *
  generalize L3.length = n3 at *
  have O9 : Hid (Own3 w9 (w.heap.size + 1 + 1 + 1) (.slice a1 n1 c1) (.slice a2 n2 c2) (.slice a3 n3 c3) L1 L2 L3) := O9.mono X1.out.z.2.2
  clear D9 X1 s0 s1 s2 o0 o1 o2 o3
  obtain ⟨_, _, ⟨⟨z0, z1, z2⟩, zf, zl⟩, _⟩ := X9.out
  go_wp2
  exact bodyPost_ret (v := .tuple #[.agg #[.slice a1 n1 c1, .slice a2 n2 c2, .slice a3 n3 c3], .int .i64 k]) (by simp [results, Try.results21, go_sem, z0, z1, z2]) rfl ⟨_, rfl, ansAt O9.out (by omega) (by omega) X9.out.b⟩
theorem do_one (q q' q'' : Option Addr) (n m r c c' c'' : Nat) (F G : Nat → Fl) (O : Nat → Dp) (o : Dp) (w : World) {f : Nat} (hx : diskB (lst F n) (lst G m) (lst O r) = false) (h : Calls Try.prog f #[.agg #[.slice q n c, .slice q' m c', .slice q'' r c''], .agg #[.int .i64 o.kind, .string o.name, .string o.dst, .string o.data]] w fun e w' => ∃ v, e = .returned (.tuple #[v, .int .i64 1]) ∧ DkAns w [] [] [] v w') :
    Calls Try.prog f #[.agg #[.slice q n c, .slice q' m c', .slice q'' r c''], .agg #[.int .i64 o.kind, .string o.name, .string o.dst, .string o.data]] w fun e w' => ∃ v, e = .returned (.tuple #[v, .int .i64 (doC (lst F n) (lst G m) (lst O r) o)]) ∧ DkAns w (doLv (lst F n) (lst G m) (lst O r) o) (doSf (lst F n) (lst G m) (lst O r) o) (doOs (lst F n) (lst G m) (lst O r) o) v w' := by
  have hc : (doC (lst F n) (lst G m) (lst O r) o) = 1 := by simp [doC, hx]
  simp only [doLv, doSf, doOs, hc]
  exact h
theorem specDoDisk (q q' q'' : Option Addr) (n m r c c' c'' : Nat) (F G : Nat → Fl) (O : Nat → Dp) (o : Dp) (w : World) (h : Dk w q n F q' m G q'' r O) (ho : o.data.size ≤ 1048576) :
    Calls Try.prog 21 #[.agg #[.slice q n c, .slice q' m c', .slice q'' r c''], .agg #[.int .i64 o.kind, .string o.name, .string o.dst, .string o.data]] w fun e w' => ∃ v, e = .returned (.tuple #[v, .int .i64 (doC (lst F n) (lst G m) (lst O r) o)]) ∧ DkAns w (doLv (lst F n) (lst G m) (lst O r) o) (doSf (lst F n) (lst G m) (lst O r) o) (doOs (lst F n) (lst G m) (lst O r) o) v w' := by
  cases hx : diskB (lst F n) (lst G m) (lst O r)
  · exact do_one q q' q'' n m r c c' c'' F G O o w hx (specDo_no q q' q'' n m r c c' c'' F G O o w h hx)
  · exact specDo_some q q' q'' n m r c c' c'' F G O o w h ho hx
end Go.Proofs.Ytcalgmhpagpnnaa
