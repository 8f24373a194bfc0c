/- l7Act and Do of the specification. Conditions: the disk's lists lie in memory; the op's bytes are at most 1048576. -/
import Derived.Test.YtcalgmhpagpnnaaDoL
import Derived.Test.YtcalgmhpagpnnaaSpD
import Derived.Test.YtcalgmhpagpnnaaSpFS
import Derived.Test.YtcalgmhpagpnnaaSpZ
namespace Go.Proofs.Ytcalgmhpagpnnaa
open Go.RowKit
set_option maxRecDepth 8000

theorem copy_open {f : Nat} {args : Array Value} {V : World} {n m r : Nat} {F G : Nat → Fl} {O : Nat → Dp} (h : Calls Try.prog f args V fun e w' => ∃ v, e = .returned v ∧ DkAns V (lst F n) (lst G m) (lst O r) v w') :
    Calls Try.prog f args V fun e w' => ∃ a1 c1 a2 c2 a3 c3, e = .returned (.agg #[.slice a1 n c1, .slice a2 m c2, .slice a3 r c3]) ∧ Own3 w' V.heap.size (.slice a1 n c1) (.slice a2 m c2) (.slice a3 r c3) (lst F n) (lst G m) (lst O r) ∧ Below V.heap.size V w' := by
  refine h.mono ?_
  rintro e w' ⟨v, rfl, a1, c1, a2, c2, a3, c3, rfl, O, D⟩
  rw [lst_len, lst_len, lst_len] at *
  exact ⟨a1, c1, a2, c2, a3, c3, rfl, O, D⟩
theorem do_yes {L M : List Fl} {o : Dp} (hd : doF L o = some M) {f : Nat} {args : Array Value} {V : World} (h : Calls Try.prog f args V fun e w' => DoOut L o V e w') :
    Calls Try.prog f args V fun e w' => ∃ va vc, e = .returned (.tuple #[.slice va M.length vc, .bool true]) ∧ FlL w' V.heap.size (.slice va M.length vc) M ∧ Below V.heap.size V w' := by
  refine h.mono ?_
  rintro e w' ⟨⟨v, rfl, A⟩, D⟩
  rw [hd] at A ⊢
  have A : FlL w' V.heap.size v M := A
  obtain ⟨va, vc, hv, _, _⟩ := A.shape
  subst hv
  exact ⟨va, vc, rfl, A, D⟩
theorem do_not {L : List Fl} {o : Dp} (hd : doF L o = none) {f : Nat} {args : Array Value} {V : World} (h : Calls Try.prog f args V fun e w' => DoOut L o V e w') :
    Calls Try.prog f args V fun e w' => ∃ va k vc, e = .returned (.tuple #[.slice va k vc, .bool false]) ∧ Below V.heap.size V w' := by
  refine h.mono ?_
  rintro e w' ⟨⟨v, rfl, A⟩, D⟩
  rw [hd] at A ⊢
  obtain ⟨va, vc, hv, _, _⟩ := A.shape
  subst hv
  exact ⟨va, _, vc, rfl, D⟩
theorem lst_FlF (M : List Fl) : lst (FlF M) M.length = M := by
  refine List.ext_getElem? fun i => ?_
  by_cases hi : i < M.length
  · rw [lst_get _ hi, List.getElem?_eq_getElem hi, FlF_lt hi]
  · rw [List.getElem?_eq_none (by rw [lst_len]; omega), List.getElem?_eq_none (by omega)]
theorem files_own {V : World} {B k : Nat} {va : Option Addr} {vc : Nat} {M : List Fl} (A : FlL V B (.slice va k vc) M) (hl : M.length ≤ 1048576) (hS : byt M ≤ 1099511627776) :
    Calls Try.prog 46 #[.slice va k vc] V fun e w' => e = .returned (.bool (filesB M)) ∧ Below V.heap.size V w' := by
  obtain ⟨hk, hF⟩ := A.list hl
  subst hk
  have := specFiles va M.length vc (FlF M) V hF (by rw [lst_FlF]; exact hS)
  rwa [lst_FlF] at this

set_option maxHeartbeats 4000000 in
theorem act_2 (q q' q'' : Option Addr) (n m r c c' c'' : Nat) (F G : Nat → Fl) (O : Nat → Dp) (o : Dp) (w : World) (h : Dk w q n F q' m G q'' r O) (_ : filesB (lst F n) = true) (_ : o.data.size ≤ 1048576) (hf : formB o = false) :
    Calls Try.prog 59 #[.agg #[.slice q n c, .slice q' m c', .slice q'' r c''], .agg #[.int .i64 o.kind, .string o.name, .string o.dst, .string o.data]] w fun e w' => ∃ v, e = .returned (.tuple #[v, .int .i64 2]) ∧ DkAns w (lst F n) (lst G m) (lst O r) v w' := by
  have H : Hid (Dk w q n F q' m G q'' r O) := h
  have CP : Hid (∀ V, Below w.heap.size w V → Calls Try.prog 63 #[.agg #[.slice q n c, .slice q' m c', .slice q'' r c'']] V fun e w' => ∃ a1 c1 a2 c2 a3 c3, e = .returned (.agg #[.slice a1 n c1, .slice a2 m c2, .slice a3 r c3]) ∧ Own3 w' V.heap.size (.slice a1 n c1) (.slice a2 m c2) (.slice a3 r c3) (lst F n) (lst G m) (lst O r) ∧ Below V.heap.size V w') := fun V hV => copy_open (specCopyD q q' q'' n m r c c' c'' F G O V (h.live.below hV) (h.safe.below hV) (h.ops.below hV))
  have HF : Hid (formB o = false) := hf
  clear hf
  obtain ⟨W0, hW0, X⟩ : ∃ W0, W0 = ((w.alloc (.cells #[.slice q n c, .slice q' m c', .slice q'' r c''] 27)).alloc (.cells #[.int .i64 o.kind, .string o.name, .string o.dst, .string o.data] 36)).alloc (.cells #[.slice none 0 0, .slice none 0 0, .slice none 0 0] 27) ∧ DoBx w W0 (.slice q n c) (.slice q' m c') (.slice q'' r c'') o := ⟨_, rfl, DoBx.new w _ _ _ o⟩
  have HW0 : Hid (W0 = _) := hW0
  have X0 : Hid (DoBx w W0 (.slice q n c) (.slice q' m c') (.slice q'' r c'') o) := X
  clear hW0 X h
  go_enter Try.func59, Try.ntmps59
  go_wp2_with fail
  rw [← HW0.out]
  refine (specForm o _).mono ?_
  rintro e w1 ⟨rfl, D1⟩
  rw [HF.out]
  have X1 : Hid (DoBx w w1 (.slice q n c) (.slice q' m c') (.slice q'' r c'') o) := X0.out.kept D1
  clear D1 X0 HW0
  obtain ⟨⟨⟨s0, s1, s2⟩, _, _⟩, ⟨⟨o0, o1, o2, o3⟩, _⟩, _, _⟩ := X1.out
  go_wp2_with fail
  refine (CP.out _ X1.out.b).mono ?_
  rintro e w9 ⟨a1, c1, a2, c2, a3, c3, rfl, O9, D9⟩
  have X9 : Hid (DoBx w w9 (.slice q n c) (.slice q' m c') (.slice q'' r c'') o) := X1.out.kept D9
  have O9 : Hid (Own3 w9 (w.heap.size + 1 + 1 + 1) (.slice a1 n c1) (.slice a2 m c2) (.slice a3 r c3) (lst F n) (lst G m) (lst O r)) := O9.mono X1.out.z.2.2
  clear D9 X1 s0 s1 s2 o0 o1 o2 o3
  obtain ⟨_, _, ⟨⟨z0, z1, z2⟩, zf, zl⟩, _⟩ := X9.out
  go_wp2
  exact bodyPost_ret (v := .tuple #[.agg #[.slice a1 n c1, .slice a2 m c2, .slice a3 r c3], .int .i64 2]) (by simp [results, Try.results59, go_sem, z0, z1, z2]) rfl ⟨_, rfl, ansAt O9.out (by omega) (by omega) X9.out.b⟩
set_option maxHeartbeats 4000000 in
theorem act_3 (q q' q'' : Option Addr) (n m r c c' c'' : Nat) (F G : Nat → Fl) (O : Nat → Dp) (o : Dp) (w : World) (h : Dk w q n F q' m G q'' r O) (hL : filesB (lst F n) = true) (ho : o.data.size ≤ 1048576) (hf : formB o = true) (hd : doF (lst F n) o = none) :
    Calls Try.prog 59 #[.agg #[.slice q n c, .slice q' m c', .slice q'' r c''], .agg #[.int .i64 o.kind, .string o.name, .string o.dst, .string o.data]] w fun e w' => ∃ v, e = .returned (.tuple #[v, .int .i64 3]) ∧ DkAns w (lst F n) (lst G m) (lst O r) v w' := by
  have H : Hid (Dk w q n F q' m G q'' r O) := h
  have CP : Hid (∀ V, Below w.heap.size w V → Calls Try.prog 63 #[.agg #[.slice q n c, .slice q' m c', .slice q'' r c'']] V fun e w' => ∃ a1 c1 a2 c2 a3 c3, e = .returned (.agg #[.slice a1 n c1, .slice a2 m c2, .slice a3 r c3]) ∧ Own3 w' V.heap.size (.slice a1 n c1) (.slice a2 m c2) (.slice a3 r c3) (lst F n) (lst G m) (lst O r) ∧ Below V.heap.size V w') := fun V hV => copy_open (specCopyD q q' q'' n m r c c' c'' F G O V (h.live.below hV) (h.safe.below hV) (h.ops.below hV))
  have HF : Hid (formB o = true) := hf
  have DN : Hid (∀ V, Below w.heap.size w V → Calls Try.prog 47 #[.slice q n c, .agg #[.int .i64 o.kind, .string o.name, .string o.dst, .string o.data]] V fun e w' => ∃ va k vc, e = .returned (.tuple #[.slice va k vc, .bool false]) ∧ Below V.heap.size V w') := fun V hV => do_not hd (specDo q n c F o V (h.live.below hV) (filesB_iff.1 hL).2.2 (by have := (filesB_iff.1 hL).1.2; omega))
  clear hL hf hd
  obtain ⟨W0, hW0, X⟩ : ∃ W0, W0 = ((w.alloc (.cells #[.slice q n c, .slice q' m c', .slice q'' r c''] 27)).alloc (.cells #[.int .i64 o.kind, .string o.name, .string o.dst, .string o.data] 36)).alloc (.cells #[.slice none 0 0, .slice none 0 0, .slice none 0 0] 27) ∧ DoBx w W0 (.slice q n c) (.slice q' m c') (.slice q'' r c'') o := ⟨_, rfl, DoBx.new w _ _ _ o⟩
  have HW0 : Hid (W0 = _) := hW0
  have X0 : Hid (DoBx w W0 (.slice q n c) (.slice q' m c') (.slice q'' r c'') o) := X
  clear hW0 X h
  go_enter Try.func59, Try.ntmps59
  go_wp2_with fail
  rw [← HW0.out]
  refine (specForm o _).mono ?_
  rintro e w1 ⟨rfl, D1⟩
  rw [HF.out]
  have X1 : Hid (DoBx w w1 (.slice q n c) (.slice q' m c') (.slice q'' r c'') o) := X0.out.kept D1
  clear D1 X0 HW0
  obtain ⟨⟨⟨s0, s1, s2⟩, _, _⟩, ⟨⟨o0, o1, o2, o3⟩, _⟩, _, _⟩ := X1.out
  go_wp2_with fail
  refine (DN.out _ X1.out.b).mono ?_
  rintro e w2 ⟨va, k, vc, rfl, D2⟩
  have X2 : Hid (DoBx w w2 (.slice q n c) (.slice q' m c') (.slice q'' r c'') o) := X1.out.kept D2
  clear D2 X1 s0 s1 s2 o0 o1 o2 o3
  obtain ⟨⟨⟨s0, s1, s2⟩, _, _⟩, ⟨⟨o0, o1, o2, o3⟩, _⟩, _, _⟩ := X2.out
  go_wp2_with fail
  refine (CP.out _ X2.out.b).mono ?_
  rintro e w9 ⟨a1, c1, a2, c2, a3, c3, rfl, O9, D9⟩
  have X9 : Hid (DoBx w w9 (.slice q n c) (.slice q' m c') (.slice q'' r c'') o) := X2.out.kept D9
  have O9 : Hid (Own3 w9 (w.heap.size + 1 + 1 + 1) (.slice a1 n c1) (.slice a2 m c2) (.slice a3 r c3) (lst F n) (lst G m) (lst O r)) := O9.mono X2.out.z.2.2
  clear D9 X2 s0 s1 s2 o0 o1 o2 o3
  obtain ⟨_, _, ⟨⟨z0, z1, z2⟩, zf, zl⟩, _⟩ := X9.out
  go_wp2
  exact bodyPost_ret (v := .tuple #[.agg #[.slice a1 n c1, .slice a2 m c2, .slice a3 r c3], .int .i64 3]) (by simp [results, Try.results59, go_sem, z0, z1, z2]) rfl ⟨_, rfl, ansAt O9.out (by omega) (by omega) X9.out.b⟩
set_option maxHeartbeats 4000000 in
theorem act_4r (q q' q'' : Option Addr) (n m r c c' c'' : Nat) (F G : Nat → Fl) (O : Nat → Dp) (o : Dp) (w : World) (h : Dk w q n F q' m G q'' r O) (hL : filesB (lst F n) = true) (ho : o.data.size ≤ 1048576) (M : List Fl) (hf : formB o = true) (hd : doF (lst F n) o = some M) (hr : ((r : Int) == 200) = true) :
    Calls Try.prog 59 #[.agg #[.slice q n c, .slice q' m c', .slice q'' r c''], .agg #[.int .i64 o.kind, .string o.name, .string o.dst, .string o.data]] w fun e w' => ∃ v, e = .returned (.tuple #[v, .int .i64 4]) ∧ DkAns w (lst F n) (lst G m) (lst O r) v w' := by
  have H : Hid (Dk w q n F q' m G q'' r O) := h
  have CP : Hid (∀ V, Below w.heap.size w V → Calls Try.prog 63 #[.agg #[.slice q n c, .slice q' m c', .slice q'' r c'']] V fun e w' => ∃ a1 c1 a2 c2 a3 c3, e = .returned (.agg #[.slice a1 n c1, .slice a2 m c2, .slice a3 r c3]) ∧ Own3 w' V.heap.size (.slice a1 n c1) (.slice a2 m c2) (.slice a3 r c3) (lst F n) (lst G m) (lst O r) ∧ Below V.heap.size V w') := fun V hV => copy_open (specCopyD q q' q'' n m r c c' c'' F G O V (h.live.below hV) (h.safe.below hV) (h.ops.below hV))
  have HF : Hid (formB o = true) := hf
  obtain ⟨nM, hnM⟩ : ∃ nM, nM = M.length := ⟨_, rfl⟩
  have hnl : nM ≤ 1048576 := by
    have e1 := doF_len hd
    have e2 := (filesB_iff.1 hL).1.1
    omega
  have DY : Hid (∀ V, Below w.heap.size w V → Calls Try.prog 47 #[.slice q n c, .agg #[.int .i64 o.kind, .string o.name, .string o.dst, .string o.data]] V fun e w' => ∃ va vc, e = .returned (.tuple #[.slice va nM vc, .bool true]) ∧ FlL w' V.heap.size (.slice va nM vc) M ∧ Below V.heap.size V w') := fun V hV => hnM ▸ do_yes hd (specDo q n c F o V (h.live.below hV) (filesB_iff.1 hL).2.2 (by have := (filesB_iff.1 hL).1.2; omega))
  have FC : Hid (∀ V B va vc, FlL V B (.slice va nM vc) M → Calls Try.prog 46 #[.slice va nM vc] V fun e w' => e = .returned (.bool (filesB M)) ∧ Below V.heap.size V w') := fun V B va vc hA => files_own hA (hnM ▸ hnl) (by have := doF_byt hd; have := (filesB_iff.1 hL).1.2; omega)
  clear hL hf hd FC hnM
  obtain ⟨W0, hW0, X⟩ : ∃ W0, W0 = ((w.alloc (.cells #[.slice q n c, .slice q' m c', .slice q'' r c''] 27)).alloc (.cells #[.int .i64 o.kind, .string o.name, .string o.dst, .string o.data] 36)).alloc (.cells #[.slice none 0 0, .slice none 0 0, .slice none 0 0] 27) ∧ DoBx w W0 (.slice q n c) (.slice q' m c') (.slice q'' r c'') o := ⟨_, rfl, DoBx.new w _ _ _ o⟩
  have HW0 : Hid (W0 = _) := hW0
  have X0 : Hid (DoBx w W0 (.slice q n c) (.slice q' m c') (.slice q'' r c'') o) := X
  clear hW0 X h
  go_enter Try.func59, Try.ntmps59
  go_wp2_with fail
  rw [← HW0.out]
  refine (specForm o _).mono ?_
  rintro e w1 ⟨rfl, D1⟩
  rw [HF.out]
  have X1 : Hid (DoBx w w1 (.slice q n c) (.slice q' m c') (.slice q'' r c'') o) := X0.out.kept D1
  clear D1 X0 HW0
  obtain ⟨⟨⟨s0, s1, s2⟩, _, _⟩, ⟨⟨o0, o1, o2, o3⟩, _⟩, _, _⟩ := X1.out
  go_wp2_with fail
  refine (DY.out _ X1.out.b).mono ?_
  rintro e w2 ⟨va, vc, rfl, A2, D2⟩
  have X2 : Hid (DoBx w w2 (.slice q n c) (.slice q' m c') (.slice q'' r c'') o) := X1.out.kept D2
  have A2 : Hid (FlL w2 (w.heap.size + 1 + 1 + 1) (.slice va nM vc) M) := A2.mono X1.out.z.2.2
  clear D2 X1 s0 s1 s2 o0 o1 o2 o3
  obtain ⟨⟨⟨s0, s1, s2⟩, _, _⟩, ⟨⟨o0, o1, o2, o3⟩, _⟩, _, _⟩ := X2.out
  go_wp2_with fail
  refine (CP.out _ X2.out.b).mono ?_
  rintro e w9 ⟨a1, c1, a2, c2, a3, c3, rfl, O9, D9⟩
  have X9 : Hid (DoBx w w9 (.slice q n c) (.slice q' m c') (.slice q'' r c'') o) := X2.out.kept D9
  have O9 : Hid (Own3 w9 (w.heap.size + 1 + 1 + 1) (.slice a1 n c1) (.slice a2 m c2) (.slice a3 r c3) (lst F n) (lst G m) (lst O r)) := O9.mono X2.out.z.2.2
  clear D9 X2 s0 s1 s2 o0 o1 o2 o3
  obtain ⟨_, _, ⟨⟨z0, z1, z2⟩, zf, zl⟩, _⟩ := X9.out
  go_wp2
  exact bodyPost_ret (v := .tuple #[.agg #[.slice a1 n c1, .slice a2 m c2, .slice a3 r c3], .int .i64 4]) (by simp [results, Try.results59, go_sem, z0, z1, z2]) rfl ⟨_, rfl, ansAt O9.out (by omega) (by omega) X9.out.b⟩
set_option maxHeartbeats 4000000 in
theorem act_4f (q q' q'' : Option Addr) (n m r c c' c'' : Nat) (F G : Nat → Fl) (O : Nat → Dp) (o : Dp) (w : World) (h : Dk w q n F q' m G q'' r O) (hL : filesB (lst F n) = true) (ho : o.data.size ≤ 1048576) (M : List Fl) (hf : formB o = true) (hd : doF (lst F n) o = some M) (hr : ((r : Int) == 200) = false) (hM : filesB M = false) :
    Calls Try.prog 59 #[.agg #[.slice q n c, .slice q' m c', .slice q'' r c''], .agg #[.int .i64 o.kind, .string o.name, .string o.dst, .string o.data]] w fun e w' => ∃ v, e = .returned (.tuple #[v, .int .i64 4]) ∧ DkAns w (lst F n) (lst G m) (lst O r) v w' := by
  have H : Hid (Dk w q n F q' m G q'' r O) := h
  have CP : Hid (∀ V, Below w.heap.size w V → Calls Try.prog 63 #[.agg #[.slice q n c, .slice q' m c', .slice q'' r c'']] V fun e w' => ∃ a1 c1 a2 c2 a3 c3, e = .returned (.agg #[.slice a1 n c1, .slice a2 m c2, .slice a3 r c3]) ∧ Own3 w' V.heap.size (.slice a1 n c1) (.slice a2 m c2) (.slice a3 r c3) (lst F n) (lst G m) (lst O r) ∧ Below V.heap.size V w') := fun V hV => copy_open (specCopyD q q' q'' n m r c c' c'' F G O V (h.live.below hV) (h.safe.below hV) (h.ops.below hV))
  have HF : Hid (formB o = true) := hf
  obtain ⟨nM, hnM⟩ : ∃ nM, nM = M.length := ⟨_, rfl⟩
  have hnl : nM ≤ 1048576 := by
    have e1 := doF_len hd
    have e2 := (filesB_iff.1 hL).1.1
    omega
  have DY : Hid (∀ V, Below w.heap.size w V → Calls Try.prog 47 #[.slice q n c, .agg #[.int .i64 o.kind, .string o.name, .string o.dst, .string o.data]] V fun e w' => ∃ va vc, e = .returned (.tuple #[.slice va nM vc, .bool true]) ∧ FlL w' V.heap.size (.slice va nM vc) M ∧ Below V.heap.size V w') := fun V hV => hnM ▸ do_yes hd (specDo q n c F o V (h.live.below hV) (filesB_iff.1 hL).2.2 (by have := (filesB_iff.1 hL).1.2; omega))
  have FC : Hid (∀ V B va vc, FlL V B (.slice va nM vc) M → Calls Try.prog 46 #[.slice va nM vc] V fun e w' => e = .returned (.bool (filesB M)) ∧ Below V.heap.size V w') := fun V B va vc hA => files_own hA (hnM ▸ hnl) (by have := doF_byt hd; have := (filesB_iff.1 hL).1.2; omega)
  rw [hM] at FC
  clear hL hf hd hM hnM
  obtain ⟨W0, hW0, X⟩ : ∃ W0, W0 = ((w.alloc (.cells #[.slice q n c, .slice q' m c', .slice q'' r c''] 27)).alloc (.cells #[.int .i64 o.kind, .string o.name, .string o.dst, .string o.data] 36)).alloc (.cells #[.slice none 0 0, .slice none 0 0, .slice none 0 0] 27) ∧ DoBx w W0 (.slice q n c) (.slice q' m c') (.slice q'' r c'') o := ⟨_, rfl, DoBx.new w _ _ _ o⟩
  have HW0 : Hid (W0 = _) := hW0
  have X0 : Hid (DoBx w W0 (.slice q n c) (.slice q' m c') (.slice q'' r c'') o) := X
  clear hW0 X h
  go_enter Try.func59, Try.ntmps59
  go_wp2_with fail
  rw [← HW0.out]
  refine (specForm o _).mono ?_
  rintro e w1 ⟨rfl, D1⟩
  rw [HF.out]
  have X1 : Hid (DoBx w w1 (.slice q n c) (.slice q' m c') (.slice q'' r c'') o) := X0.out.kept D1
  clear D1 X0 HW0
  obtain ⟨⟨⟨s0, s1, s2⟩, _, _⟩, ⟨⟨o0, o1, o2, o3⟩, _⟩, _, _⟩ := X1.out
  go_wp2_with fail
  refine (DY.out _ X1.out.b).mono ?_
  rintro e w2 ⟨va, vc, rfl, A2, D2⟩
  have X2 : Hid (DoBx w w2 (.slice q n c) (.slice q' m c') (.slice q'' r c'') o) := X1.out.kept D2
  have A2 : Hid (FlL w2 (w.heap.size + 1 + 1 + 1) (.slice va nM vc) M) := A2.mono X1.out.z.2.2
  clear D2 X1 s0 s1 s2 o0 o1 o2 o3
  obtain ⟨⟨⟨s0, s1, s2⟩, _, _⟩, ⟨⟨o0, o1, o2, o3⟩, _⟩, _, _⟩ := X2.out
  go_wp2_with fail
  refine (FC.out _ _ va vc A2.out).mono ?_
  rintro e w3 ⟨rfl, D3⟩
  have X3 : Hid (DoBx w w3 (.slice q n c) (.slice q' m c') (.slice q'' r c'') o) := X2.out.kept D3
  clear D3 X2 A2 s0 s1 s2 o0 o1 o2 o3
  obtain ⟨⟨⟨s0, s1, s2⟩, _, _⟩, ⟨⟨o0, o1, o2, o3⟩, _⟩, _, _⟩ := X3.out
  go_wp2_with fail
  refine (CP.out _ X3.out.b).mono ?_
  rintro e w9 ⟨a1, c1, a2, c2, a3, c3, rfl, O9, D9⟩
  have X9 : Hid (DoBx w w9 (.slice q n c) (.slice q' m c') (.slice q'' r c'') o) := X3.out.kept D9
  have O9 : Hid (Own3 w9 (w.heap.size + 1 + 1 + 1) (.slice a1 n c1) (.slice a2 m c2) (.slice a3 r c3) (lst F n) (lst G m) (lst O r)) := O9.mono X3.out.z.2.2
  clear D9 X3 s0 s1 s2 o0 o1 o2 o3
  obtain ⟨_, _, ⟨⟨z0, z1, z2⟩, zf, zl⟩, _⟩ := X9.out
  go_wp2
  exact bodyPost_ret (v := .tuple #[.agg #[.slice a1 n c1, .slice a2 m c2, .slice a3 r c3], .int .i64 4]) (by simp [results, Try.results59, go_sem, z0, z1, z2]) rfl ⟨_, rfl, ansAt O9.out (by omega) (by omega) X9.out.b⟩
end Go.Proofs.Ytcalgmhpagpnnaa
