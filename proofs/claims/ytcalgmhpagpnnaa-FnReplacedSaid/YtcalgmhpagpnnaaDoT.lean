/- l7Act where the op is done, and Do of the specification. Conditions: the disk's lists lie in memory; the op's bytes are at most 1048576. -/
import Derived.Test.YtcalgmhpagpnnaaDoS
namespace Go.Proofs.Ytcalgmhpagpnnaa
open Go.RowKit
set_option maxRecDepth 8000

set_option maxHeartbeats 4000000 in
theorem act_0 (q q' q'' : Option Addr) (n m r c c' c'' : Nat) (F G : Nat → Fl) (O : Nat → Dp) (o : Dp) (w : World) (h : Dk w q n F q' m G q'' r O) (hL : filesB (lst F n) = true) (ho : o.data.size ≤ 1048576) (M : List Fl) (hf : formB o = true) (hd : doF (lst F n) o = some M) (hr : ((r : Int) == 200) = false) (hM : filesB M = true) :
    Calls Try.prog 59 #[.agg #[.slice q n c, .slice q' m c', .slice q'' r c''], .agg #[.int .i64 o.kind, .string o.name, .string o.dst, .string o.data]] w fun e w' => ∃ v, e = .returned (.tuple #[v, .int .i64 0]) ∧ DkAns w M (lst G m) (lst O r ++ [o]) v w' := by
  have H : Hid (Dk w q n F q' m G q'' r O) := h
  have CP : Hid (∀ V, Below w.heap.size w V → Calls Try.prog 63 #[.agg #[.slice q n c, .slice q' m c', .slice q'' r c'']] V fun e w' => ∃ a1 c1 a2 c2 a3 c3, e = .returned (.agg #[.slice a1 n c1, .slice a2 m c2, .slice a3 r c3]) ∧ Own3 w' V.heap.size (.slice a1 n c1) (.slice a2 m c2) (.slice a3 r c3) (lst F n) (lst G m) (lst O r) ∧ Below V.heap.size V w') := fun V hV => copy_open (specCopyD q q' q'' n m r c c' c'' F G O V (h.live.below hV) (h.safe.below hV) (h.ops.below hV))
  have HF : Hid (formB o = true) := hf
  obtain ⟨nM, hnM⟩ : ∃ nM, nM = M.length := ⟨_, rfl⟩
  have hnl : nM ≤ 1048576 := by
    have e1 := doF_len hd
    have e2 := (filesB_iff.1 hL).1.1
    omega
  have DY : Hid (∀ V, Below w.heap.size w V → Calls Try.prog 47 #[.slice q n c, .agg #[.int .i64 o.kind, .string o.name, .string o.dst, .string o.data]] V fun e w' => ∃ va vc, e = .returned (.tuple #[.slice va nM vc, .bool true]) ∧ FlL w' V.heap.size (.slice va nM vc) M ∧ Below V.heap.size V w') := fun V hV => hnM ▸ do_yes hd (specDo q n c F o V (h.live.below hV) (filesB_iff.1 hL).2.2 (by have := (filesB_iff.1 hL).1.2; omega))
  have FC : Hid (∀ V B va vc, FlL V B (.slice va nM vc) M → Calls Try.prog 46 #[.slice va nM vc] V fun e w' => e = .returned (.bool (filesB M)) ∧ Below V.heap.size V w') := fun V B va vc hA => files_own hA (hnM ▸ hnl) (by have := doF_byt hd; have := (filesB_iff.1 hL).1.2; omega)
  rw [hM] at FC
  have hrl := h.ops.1
  obtain ⟨i0, hi, hz0, hz1, hz2⟩ := info_parts infoDp
  clear hL hf hd hM hnM
  obtain ⟨W0, hW0, X⟩ : ∃ W0, W0 = ((w.alloc (.cells #[.slice q n c, .slice q' m c', .slice q'' r c''] 27)).alloc (.cells #[.int .i64 o.kind, .string o.name, .string o.dst, .string o.data] 36)).alloc (.cells #[.slice none 0 0, .slice none 0 0, .slice none 0 0] 27) ∧ DoBx w W0 (.slice q n c) (.slice q' m c') (.slice q'' r c'') o := ⟨_, rfl, DoBx.new w _ _ _ o⟩
  have HW0 : Hid (W0 = _) := hW0
  have X0 : Hid (DoBx w W0 (.slice q n c) (.slice q' m c') (.slice q'' r c'') o) := X
  clear hW0 X h
  go_enter Try.func59, Try.ntmps59
  go_wp2_with fail
  rw [← HW0.out]
  refine (specForm o _).mono ?_
  rintro e w1 ⟨rfl, D1⟩
  rw [HF.out]
  have X1 : Hid (DoBx w w1 (.slice q n c) (.slice q' m c') (.slice q'' r c'') o) := X0.out.kept D1
  clear D1 X0 HW0
  obtain ⟨⟨⟨s0, s1, s2⟩, _, _⟩, ⟨⟨o0, o1, o2, o3⟩, _⟩, _, _⟩ := X1.out
  go_wp2_with fail
  refine (DY.out _ X1.out.b).mono ?_
  rintro e w2 ⟨va, vc, rfl, A2, D2⟩
  have X2 : Hid (DoBx w w2 (.slice q n c) (.slice q' m c') (.slice q'' r c'') o) := X1.out.kept D2
  have A2 : Hid (FlL w2 (w.heap.size + 1 + 1 + 1) (.slice va nM vc) M) := A2.mono X1.out.z.2.2
  clear D2 X1 s0 s1 s2 o0 o1 o2 o3
  obtain ⟨⟨⟨s0, s1, s2⟩, _, _⟩, ⟨⟨o0, o1, o2, o3⟩, _⟩, _, _⟩ := X2.out
  go_wp2_with fail
  refine (FC.out _ _ va vc A2.out).mono ?_
  rintro e w3 ⟨rfl, D3⟩
  have X3 : Hid (DoBx w w3 (.slice q n c) (.slice q' m c') (.slice q'' r c'') o) := X2.out.kept D3
  have A3 : Hid (FlL w3 (w.heap.size + 1 + 1 + 1) (.slice va nM vc) M) := A2.out.kept D3
  clear D3 X2 A2 s0 s1 s2 o0 o1 o2 o3
  obtain ⟨⟨⟨s0, s1, s2⟩, _, _⟩, ⟨⟨o0, o1, o2, o3⟩, _⟩, _, _⟩ := X3.out
  go_wp2_with fail
  refine (CP.out _ X3.out.b).mono ?_
  rintro e w4 ⟨a1, c1, a2, c2, a3, c3, rfl, O4, D4⟩
  obtain ⟨XU, SU, hP⟩ : DoBx w (w4.alloc (.cells #[.slice va nM vc, .slice a2 m c2, .slice a3 r c3] 27)) (.slice q n c) (.slice q' m c') (.slice q'' r c'') o ∧ DoSt (w4.alloc (.cells #[.slice va nM vc, .slice a2 m c2, .slice a3 r c3] 27)) w4.heap.size (w.heap.size + 1 + 1 + 1) (.slice va nM vc) (.slice a2 m c2) (.slice a3 r c3) M (lst G m) (lst O r) ∧ w.heap.size + 1 + 1 < w4.heap.size := by
    have bA : Below w4.heap.size w4 (w4.alloc (.cells #[.slice va nM vc, .slice a2 m c2, .slice a3 r c3] 27)) := (Below.refl _ _).alloc (Nat.le_refl _) _
    have hz := X3.out.z.2.2
    have hs := D4.size
    refine ⟨(X3.out.kept D4).kept bA, ⟨⟨(A3.out.kept D4).kept bA, ((O4.mono hz).safe).kept bA, ((O4.mono hz).ops).kept bA, ?_⟩, Box3.new w4 _ _ _ 27, ?_, ?_, ?_⟩, by omega⟩
    · intro g e1 e2; have := (World.ownsRow.lt A3.out _ e1).2; have := (World.ownsRow.lt O4.safe _ e2).1; omega
    · intro e; have := (World.ownsRow.lt A3.out _ e).2; omega
    · intro e; have := (World.ownsRow.lt O4.safe _ e).2; omega
    · intro e; have := (World.ownsRow.lt O4.ops _ e).2; omega
  have XU : Hid (DoBx w (w4.alloc (.cells #[.slice va nM vc, .slice a2 m c2, .slice a3 r c3] 27)) (.slice q n c) (.slice q' m c') (.slice q'' r c'') o) := XU
  have SU : Hid (DoSt (w4.alloc (.cells #[.slice va nM vc, .slice a2 m c2, .slice a3 r c3] 27)) w4.heap.size (w.heap.size + 1 + 1 + 1) (.slice va nM vc) (.slice a2 m c2) (.slice a3 r c3) M (lst G m) (lst O r)) := SU
  have Y4 : Hid (DoBx w w4 (.slice q n c) (.slice q' m c') (.slice q'' r c'') o) := X3.out.kept D4
  clear O4 D4 X3 A3 s0 s1 s2 o0 o1 o2 o3 FC CP DY
  obtain ⟨⟨⟨s0, s1, s2⟩, _, _⟩, ⟨⟨o0, o1, o2, o3⟩, _⟩, _, _⟩ := Y4.out
  go_wp2_with (at_builtin; refine wpList_append_own_at _ rfl _ _ 25 rfl (w.heap.size + 1 + 1 + 1) 36 i0 _ 4 56 Try.underlying25 hi hz0 hz1 hz2 rfl (by decide) _ _ _ rfl (World.ownsRow.alloc SU.out.own.ops _) ⟨_, 0, none⟩ 1 1 (DpC o) rfl rfl (dpNewsAt (by simp) o) (dpOne _) (by rw [lst_len]; unfold maxLen; omega) (by rw [lst_len]; omega) (by simp; omega) ?_; intro v7 w7 own7 grow7 _ at7; have O7 : DpL w7 (w.heap.size + 1 + 1 + 1) v7 (lst O r ++ [o]) := DpL.snoc own7; obtain ⟨va7, k7, vc7, hv7⟩ : ∃ va7 k7 vc7, v7 = .slice va7 k7 vc7 := (by obtain ⟨x, y, hh, _, _⟩ := O7.shape; exact ⟨x, _, y, hh⟩); have S7 : Hid (DoSt (w7.setCell ⟨w4.heap.size, 2, none⟩ v7) w4.heap.size (w.heap.size + 1 + 1 + 1) (.slice va nM vc) (.slice a2 m c2) v7 M (lst G m) (lst O r ++ [o])) := SU.out.add O7 grow7 at7; have Y7 : DoBx w w7 (.slice q n c) (.slice q' m c') (.slice q'' r c'') o := (XU.out.kept ((Below.refl _ _).alloc (Nat.le_refl _) _)).grown grow7 (fun k hk => (by have := SU.out.own.ops.lt k hk; omega)); have X7 : Hid (DoBx w (w7.setCell ⟨w4.heap.size, 2, none⟩ v7) (.slice q n c) (.slice q' m c') (.slice q'' r c'') o) := Y7.far hP _ _; obtain ⟨⟨p0, p1, p2⟩, pf, pl⟩ := (SU.out.box.kept ((Below.refl _ _).alloc (Nat.le_refl _) _) SU.out.box.2.2).grown grow7 (fun e => SU.out.n3 e.symm); obtain ⟨_, _, ⟨⟨z0, z1, z2⟩, zf, zl⟩, _⟩ := Y7; subst hv7; clear own7 grow7 at7 O7 XU SU s0 s1 s2 o0 o1 o2 o3)
  exact bodyPost_ret (v := .tuple #[.agg #[.slice va nM vc, .slice a2 m c2, .slice va7 k7 vc7], .int .i64 0]) (by simp [results, Try.results59, go_sem, z0, z1, z2]) rfl ⟨_, rfl, ansAt S7.out.own (by omega) (by omega) X7.out.b⟩
end Go.Proofs.Ytcalgmhpagpnnaa
