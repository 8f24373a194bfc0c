/- Do of the program. Conditions: the disk's lists lie in memory; the op's bytes are at most 1048576. -/
import Derived.Test.YtcalgmhpagpnnaaDoV
import Derived.Test.YtcalgmhpagpnnaaCpI
import Derived.Test.YtcalgmhpagpnnaaImKZ
namespace Go.Proofs.Ytcalgmhpagpnnaa
open Go.RowKit
set_option maxRecDepth 8000

theorem FlL.same {w w' : World} {B : Nat} {v : Value} {L : List Fl} (h : FlL w B v L) (e : ∀ g, v.ownBlock = some g → w'.heap[g]? = w.heap[g]?) : FlL w' B v L := by
  obtain ⟨h1, h2⟩ := h
  refine ⟨h1, ?_⟩
  rcases h2 with k | ⟨g, cap, cur, hv, hB, hg, r⟩
  · exact Or.inl k
  · exact Or.inr ⟨g, cap, cur, hv, hB, (e g (by rw [hv]; rfl)).trans hg, r⟩
theorem DpL.same {w w' : World} {B : Nat} {v : Value} {L : List Dp} (h : DpL w B v L) (e : ∀ g, v.ownBlock = some g → w'.heap[g]? = w.heap[g]?) : DpL w' B v L := by
  obtain ⟨h1, h2⟩ := h
  refine ⟨h1, ?_⟩
  rcases h2 with k | ⟨g, cap, cur, hv, hB, hg, r⟩
  · exact Or.inl k
  · exact Or.inr ⟨g, cap, cur, hv, hB, (e g (by rw [hv]; rfl)).trans hg, r⟩
/-- A copy in a box. -/
structure CpBx (w U : World) (P : Nat) (v1 v2 v3 : Value) (L1 L2 : List Fl) (L3 : List Dp) : Prop where
  own : Own3 U (w.heap.size + 1 + 1 + 1) v1 v2 v3 L1 L2 L3
  box : Box3 U P v1 v2 v3
  rows : ∀ g, (v1.ownBlock = some g ∨ v2.ownBlock = some g ∨ v3.ownBlock = some g) → g < P
  hP : w.heap.size + 1 + 1 < P
theorem CpBx.kept {w U U' : World} {P C : Nat} {v1 v2 v3 : Value} {L1 L2 : List Fl} {L3 : List Dp} (h : CpBx w U P v1 v2 v3 L1 L2 L3) (hb : Below C U U') (hC : P < C) : CpBx w U' P v1 v2 v3 L1 L2 L3 :=
  ⟨⟨h.own.live.same fun g hg => hb.block g (by have := h.rows g (Or.inl hg); omega), h.own.safe.same fun g hg => hb.block g (by have := h.rows g (Or.inr (Or.inl hg)); omega), h.own.ops.same fun g hg => hb.block g (by have := h.rows g (Or.inr (Or.inr hg)); omega), h.own.ne⟩, h.box.kept hb hC, h.rows, h.hP⟩
theorem CpBx.new {w V u : World} {v1 v2 v3 : Value} {L1 L2 : List Fl} {L3 : List Dp} (O : Own3 u V.heap.size v1 v2 v3 L1 L2 L3) (D : Below V.heap.size V u) (hz : w.heap.size + 1 + 1 < V.heap.size) : CpBx w (u.alloc (.cells #[v1, v2, v3] 27)) u.heap.size v1 v2 v3 L1 L2 L3 :=
  ⟨(O.mono hz).kept ((Below.refl _ _).alloc (Nat.le_refl _) _), Box3.new u _ _ _ 27, fun g hg => by
    rcases hg with k | k | k
    · exact (World.ownsRow.lt O.live g k).2
    · exact (World.ownsRow.lt O.safe g k).2
    · exact (World.ownsRow.lt O.ops g k).2, Nat.lt_of_lt_of_le hz D.size⟩

set_option maxHeartbeats 4000000 in
theorem implDo_no (q q' q'' : Option Addr) (n m r c c' c'' : Nat) (F G : Nat → Fl) (O : Nat → Dp) (o : Dp) (w : World) (h : Dk w q n F q' m G q'' r O) (hx : diskB (lst F n) (lst G m) (lst O r) = false) :
    Calls Try.prog 20 #[.agg #[.slice q n c, .slice q' m c', .slice q'' r c''], .agg #[.int .i64 o.kind, .string o.name, .string o.dst, .string o.data]] w fun e w' => ∃ v, e = .returned (.tuple #[v, .int .i64 1]) ∧ DkAns w [] [] [] v w' := by
  have H : Hid (Dk w q n F q' m G q'' r O) := h
  have HX : Hid (diskB (lst F n) (lst G m) (lst O r) = false) := hx
  clear hx
  obtain ⟨W0, hW0, X⟩ : ∃ W0, W0 = ((w.alloc (.cells #[.slice q n c, .slice q' m c', .slice q'' r c''] 27)).alloc (.cells #[.int .i64 o.kind, .string o.name, .string o.dst, .string o.data] 36)).alloc (.cells #[.slice none 0 0, .slice none 0 0, .slice none 0 0] 27) ∧ DoBx w W0 (.slice q n c) (.slice q' m c') (.slice q'' r c'') o := ⟨_, rfl, DoBx.new w _ _ _ o⟩
  have HW0 : Hid (W0 = _) := hW0
  have X0 : Hid (DoBx w W0 (.slice q n c) (.slice q' m c') (.slice q'' r c'') o) := X
  clear hW0 X h
  go_enter Try.func20, Try.ntmps20
  go_wp2_with fail
  rw [← HW0.out]
  refine (implDisk q q' q'' n m r c c' c'' F G O _ (H.out.below X0.out.b)).mono ?_
  rintro e w1 ⟨rfl, D1⟩
  rw [HX.out]
  have X1 : Hid (DoBx w w1 (.slice q n c) (.slice q' m c') (.slice q'' r c'') o) := X0.out.kept D1
  clear D1 X0 HW0
  obtain ⟨_, _, ⟨⟨z0, z1, z2⟩, zf, zl⟩, _⟩ := X1.out
  go_wp2
  exact bodyPost_ret (v := .tuple #[.agg #[.slice none 0 0, .slice none 0 0, .slice none 0 0], .int .i64 1]) (by simp [results, Try.results20, go_sem, z0, z1, z2]) rfl ⟨_, rfl, ansAt (B := w.heap.size + 1 + 1 + 1) ⟨FlL.nil _ _, FlL.nil _ _, DpL.nil _ _, fun g h => by cases h⟩ (by omega) (by omega) X1.out.b⟩
set_option maxHeartbeats 8000000 in
theorem implDo_some (q q' q'' : Option Addr) (n m r c c' c'' : Nat) (F G : Nat → Fl) (O : Nat → Dp) (o : Dp) (w : World) (h : Dk w q n F q' m G q'' r O) (ho : o.data.size ≤ 1048576) (hx : diskB (lst F n) (lst G m) (lst O r) = true) :
    Calls Try.prog 20 #[.agg #[.slice q n c, .slice q' m c', .slice q'' r c''], .agg #[.int .i64 o.kind, .string o.name, .string o.dst, .string o.data]] w fun e w' => ∃ v, e = .returned (.tuple #[v, .int .i64 (doC (lst F n) (lst G m) (lst O r) o)]) ∧ DkAns w (doLv (lst F n) (lst G m) (lst O r) o) (doSf (lst F n) (lst G m) (lst O r) o) (doOs (lst F n) (lst G m) (lst O r) o) v w' := by
  have H : Hid (Dk w q n F q' m G q'' r O) := h
  have HX : Hid (diskB (lst F n) (lst G m) (lst O r) = true) := hx
  have hL : filesB (lst F n) = true := by
    simp only [diskB, Bool.and_eq_true] at hx
    exact hx.1.1.1
  have HL0 : Hid (filesB (lst F n) = true) := hL
  have hn60 : n ≤ 60 := by have := (filesB_iff.1 hL).1.1; rwa [lst_len] at this
  have HB : Hid (byt (lst F n) ≤ 200000) := (filesB_iff.1 hL).1.2
  have FO : Hid (∀ V, Below w.heap.size w V → Calls Try.prog 42 #[.slice q n c] V fun e w' => e = .returned (.map (some V.heap.size)) ∧ (∃ T, Fd w' V.heap.size V.heap.size T ∧ T.map Ent.f = lst F n) ∧ Below V.heap.size V w') := fun V hV => implFolder q n c F V (h.live.below hV) (filesB_iff.1 hL).2.2 (fun i hi => ⟨by
    have := (filesB_iff.1 hL).2.1 (F i) (lst_mem.2 ⟨i, hi, rfl⟩)
    simp [nmOk] at this
    omega, by
    have := byt_at (F := F) hi
    have := (filesB_iff.1 hL).1.2
    omega⟩)
  have CP : Hid (∀ V, Below w.heap.size w V → Calls Try.prog 58 #[.agg #[.slice q n c, .slice q' m c', .slice q'' r c'']] V fun e w' => ∃ a1 c1 a2 c2 a3 c3, e = .returned (.agg #[.slice a1 n c1, .slice a2 m c2, .slice a3 r c3]) ∧ Own3 w' V.heap.size (.slice a1 n c1) (.slice a2 m c2) (.slice a3 r c3) (lst F n) (lst G m) (lst O r) ∧ Below V.heap.size V w') := fun V hV => copy_open (implCopyD q q' q'' n m r c c' c'' F G O V (h.live.below hV) (h.safe.below hV) (h.ops.below hV))
  have hrl := h.ops.1
  obtain ⟨i0, hi, hz0, hz1, hz2⟩ := info_parts infoDp
  clear hL hx
  obtain ⟨W0, hW0, X⟩ : ∃ W0, W0 = ((w.alloc (.cells #[.slice q n c, .slice q' m c', .slice q'' r c''] 27)).alloc (.cells #[.int .i64 o.kind, .string o.name, .string o.dst, .string o.data] 36)).alloc (.cells #[.slice none 0 0, .slice none 0 0, .slice none 0 0] 27) ∧ DoBx w W0 (.slice q n c) (.slice q' m c') (.slice q'' r c'') o := ⟨_, rfl, DoBx.new w _ _ _ o⟩
  have HW0 : Hid (W0 = _) := hW0
  have X0 : Hid (DoBx w W0 (.slice q n c) (.slice q' m c') (.slice q'' r c'') o) := X
  clear hW0 X h
  go_enter Try.func20, Try.ntmps20
  go_wp2_with fail
  rw [← HW0.out]
  refine (implDisk q q' q'' n m r c c' c'' F G O _ (H.out.below X0.out.b)).mono ?_
  rintro e w1 ⟨rfl, D1⟩
  rw [HX.out]
  have X1 : Hid (DoBx w w1 (.slice q n c) (.slice q' m c') (.slice q'' r c'') o) := X0.out.kept D1
  clear D1 X0 HW0
  obtain ⟨⟨⟨s0, s1, s2⟩, _, _⟩, _, _, _⟩ := X1.out
  go_wp2_with fail
  refine (CP.out _ X1.out.b).mono ?_
  rintro e w2 ⟨a1, c1, a2, c2, a3, c3, rfl, O2, D2⟩
  obtain ⟨V2, hV2, C2, X2, hPV⟩ : ∃ V2, V2 = w2.alloc (.cells #[.slice a1 n c1, .slice a2 m c2, .slice a3 r c3] 27) ∧ CpBx w V2 w2.heap.size (.slice a1 n c1) (.slice a2 m c2) (.slice a3 r c3) (lst F n) (lst G m) (lst O r) ∧ DoBx w V2 (.slice q n c) (.slice q' m c') (.slice q'' r c'') o ∧ w2.heap.size < V2.heap.size := ⟨_, rfl, CpBx.new O2 D2 X1.out.z.2.2, (X1.out.kept D2).kept ((Below.refl _ _).alloc (Nat.le_refl _) _), by simp⟩
  have HV2 : Hid (V2 = _) := hV2
  obtain ⟨P, hP⟩ : ∃ P, P = w2.heap.size := ⟨_, rfl⟩
  have HP : Hid (P = w2.heap.size) := hP
  have C2 : Hid (CpBx w V2 P (.slice a1 n c1) (.slice a2 m c2) (.slice a3 r c3) (lst F n) (lst G m) (lst O r)) := (by rw [hP]; exact C2 : CpBx w V2 P (.slice a1 n c1) (.slice a2 m c2) (.slice a3 r c3) (lst F n) (lst G m) (lst O r))
  have X2 : Hid (DoBx w V2 (.slice q n c) (.slice q' m c') (.slice q'' r c'') o) := X2
  have hPV' : P < V2.heap.size := by rw [hP]; exact hPV
  clear hPV
  obtain ⟨⟨⟨s0, s1, s2⟩, _, _⟩, _, _, _⟩ := X1.out.kept D2
  clear hV2 O2 D2 X1 hP CP
  go_wp2_with fail
  rw [← HV2.out, ← HP.out]
  refine (FO.out _ X2.out.b).mono ?_
  rintro e w3 ⟨rfl, ⟨T, FD, hT⟩, D3⟩
  have C3 : Hid (CpBx w w3 P (.slice a1 n c1) (.slice a2 m c2) (.slice a3 r c3) (lst F n) (lst G m) (lst O r)) := C2.out.kept D3 hPV'
  have X3 : Hid (DoBx w w3 (.slice q n c) (.slice q' m c') (.slice q'' r c'') o) := X2.out.kept D3
  have FD : Hid (Fd w3 V2.heap.size V2.heap.size T) := FD
  have HT : Hid (T.map Ent.f = lst F n) := hT
  have hTl : T.length ≤ 60 := by have := congrArg List.length hT; rw [List.length_map, lst_len] at this; omega
  have hV3 : V2.heap.size ≤ w3.heap.size := D3.size
  have hzV : w.heap.size + 1 + 1 < V2.heap.size := X2.out.z.2.2
  clear D3 X2 C2 hT HV2 HP FO s0 s1 s2
  obtain ⟨⟨⟨s0, s1, s2⟩, _, _⟩, ⟨⟨o0, o1, o2, o3⟩, _⟩, _, _⟩ := X3.out
  generalize V2.heap.size = b at *
  go_wp2_with fail
  refine (implIn b b T o _ FD.out hV3 (by omega) (by rw [HT.out]; have := HB.out; omega)).mono ?_
  rintro e w4 ⟨rr, rfl, D4, hA⟩
  rw [HT.out] at hA
  have C4 : Hid (CpBx w w4 P (.slice a1 n c1) (.slice a2 m c2) (.slice a3 r c3) (lst F n) (lst G m) (lst O r)) := C3.out.kept D4 hPV'
  have X4 : Hid (DoBx w w4 (.slice q n c) (.slice q' m c') (.slice q'' r c'') o) := X3.out.keptB D4 hzV
  clear D4 X3 C3 FD HT hTl s0 s1 s2 o0 o1 o2 o3
  rcases hA with ⟨rfl, hf⟩ | ⟨rfl, hf, hd⟩ | ⟨rfl, hf, M, hd, hM⟩ | ⟨rfl, hf, M, hd, hM, T', FD, hT⟩
  · have hC : (doC (lst F n) (lst G m) (lst O r) o) = 2 := by simp [doC, HX.out, hf]
    have HC : Hid ((doC (lst F n) (lst G m) (lst O r) o) = 2) := hC
    have HL : Hid (doLv (lst F n) (lst G m) (lst O r) o = lst F n) := (by simp [doLv, hC] : doLv (lst F n) (lst G m) (lst O r) o = lst F n)
    have HS : Hid (doSf (lst F n) (lst G m) (lst O r) o = lst G m) := (by simp [doSf, hC] : doSf (lst F n) (lst G m) (lst O r) o = lst G m)
    have HO : Hid (doOs (lst F n) (lst G m) (lst O r) o = lst O r) := (by simp [doOs, hC] : doOs (lst F n) (lst G m) (lst O r) o = lst O r)
    clear hC hf
    obtain ⟨_, ⟨⟨p0, p1, p2⟩, _, _⟩, _, _⟩ := C4.out
    obtain ⟨⟨⟨s0, s1, s2⟩, _, _⟩, _, ⟨⟨z0, z1, z2⟩, zf, zl⟩, _⟩ := X4.out
    go_wp2
    exact bodyPost_ret (v := .tuple #[.agg #[.slice a1 n c1, .slice a2 m c2, .slice a3 r c3], .int .i64 2]) (by simp [results, Try.results20, go_sem, z0, z1, z2]) rfl ⟨_, by rw [HC.out], by rw [HL.out, HS.out, HO.out]; exact ansAt C4.out.own (by omega) (by omega) X4.out.b⟩
  · have hC : (doC (lst F n) (lst G m) (lst O r) o) = 3 := by simp [doC, HX.out, hf, hd]
    have HC : Hid ((doC (lst F n) (lst G m) (lst O r) o) = 3) := hC
    have HL : Hid (doLv (lst F n) (lst G m) (lst O r) o = lst F n) := (by simp [doLv, hC] : doLv (lst F n) (lst G m) (lst O r) o = lst F n)
    have HS : Hid (doSf (lst F n) (lst G m) (lst O r) o = lst G m) := (by simp [doSf, hC] : doSf (lst F n) (lst G m) (lst O r) o = lst G m)
    have HO : Hid (doOs (lst F n) (lst G m) (lst O r) o = lst O r) := (by simp [doOs, hC] : doOs (lst F n) (lst G m) (lst O r) o = lst O r)
    clear hC hf hd
    obtain ⟨_, ⟨⟨p0, p1, p2⟩, _, _⟩, _, _⟩ := C4.out
    obtain ⟨⟨⟨s0, s1, s2⟩, _, _⟩, _, ⟨⟨z0, z1, z2⟩, zf, zl⟩, _⟩ := X4.out
    go_wp2
    exact bodyPost_ret (v := .tuple #[.agg #[.slice a1 n c1, .slice a2 m c2, .slice a3 r c3], .int .i64 3]) (by simp [results, Try.results20, go_sem, z0, z1, z2]) rfl ⟨_, by rw [HC.out], by rw [HL.out, HS.out, HO.out]; exact ansAt C4.out.own (by omega) (by omega) X4.out.b⟩
  · have hM' : filesB M = false := by rw [step_files HL0.out hf hd]; exact hM
    have hC : (doC (lst F n) (lst G m) (lst O r) o) = 4 := by simp [doC, HX.out, hf, hd, hM']
    have HC : Hid ((doC (lst F n) (lst G m) (lst O r) o) = 4) := hC
    have HL : Hid (doLv (lst F n) (lst G m) (lst O r) o = lst F n) := (by simp [doLv, hC] : doLv (lst F n) (lst G m) (lst O r) o = lst F n)
    have HS : Hid (doSf (lst F n) (lst G m) (lst O r) o = lst G m) := (by simp [doSf, hC] : doSf (lst F n) (lst G m) (lst O r) o = lst G m)
    have HO : Hid (doOs (lst F n) (lst G m) (lst O r) o = lst O r) := (by simp [doOs, hC] : doOs (lst F n) (lst G m) (lst O r) o = lst O r)
    clear hC hf hd hM hM'
    obtain ⟨_, ⟨⟨p0, p1, p2⟩, _, _⟩, _, _⟩ := C4.out
    obtain ⟨⟨⟨s0, s1, s2⟩, _, _⟩, _, ⟨⟨z0, z1, z2⟩, zf, zl⟩, _⟩ := X4.out
    go_wp2
    exact bodyPost_ret (v := .tuple #[.agg #[.slice a1 n c1, .slice a2 m c2, .slice a3 r c3], .int .i64 4]) (by simp [results, Try.results20, go_sem, z0, z1, z2]) rfl ⟨_, by rw [HC.out], by rw [HL.out, HS.out, HO.out]; exact ansAt C4.out.own (by omega) (by omega) X4.out.b⟩
  have hM' : filesB M = true := by rw [step_files HL0.out hf hd]; exact hM
  by_cases hr : r = 200
  · have hC : (doC (lst F n) (lst G m) (lst O r) o) = 4 := by have e : (lst O r).length = 200 := (by rw [lst_len, hr]); simp [doC, HX.out, hf, hd, e]
    have HC : Hid ((doC (lst F n) (lst G m) (lst O r) o) = 4) := hC
    have HL : Hid (doLv (lst F n) (lst G m) (lst O r) o = lst F n) := (by simp [doLv, hC] : doLv (lst F n) (lst G m) (lst O r) o = lst F n)
    have HS : Hid (doSf (lst F n) (lst G m) (lst O r) o = lst G m) := (by simp [doSf, hC] : doSf (lst F n) (lst G m) (lst O r) o = lst G m)
    have HO : Hid (doOs (lst F n) (lst G m) (lst O r) o = lst O r) := (by simp [doOs, hC] : doOs (lst F n) (lst G m) (lst O r) o = lst O r)
    have hr' : ((r : Int) == 200) = true := by rw [hr]; rfl
    clear hC hf hd hM hM' FD hT hr
    obtain ⟨_, ⟨⟨p0, p1, p2⟩, _, _⟩, _, _⟩ := C4.out
    obtain ⟨⟨⟨s0, s1, s2⟩, _, _⟩, _, ⟨⟨z0, z1, z2⟩, zf, zl⟩, _⟩ := X4.out
    go_wp2
    exact bodyPost_ret (v := .tuple #[.agg #[.slice a1 n c1, .slice a2 m c2, .slice a3 r c3], .int .i64 4]) (by simp [results, Try.results20, go_sem, z0, z1, z2]) rfl ⟨_, by rw [HC.out], by rw [HL.out, HS.out, HO.out]; exact ansAt C4.out.own (by omega) (by omega) X4.out.b⟩
  have hC : (doC (lst F n) (lst G m) (lst O r) o) = 0 := by simp [doC, HX.out, hf, hd, hM', lst_len, hr]
  have HC : Hid ((doC (lst F n) (lst G m) (lst O r) o) = 0) := hC
  have HL : Hid (doLv (lst F n) (lst G m) (lst O r) o = M) := (by simp [doLv, hC, hd] : doLv (lst F n) (lst G m) (lst O r) o = M)
  have HS : Hid (doSf (lst F n) (lst G m) (lst O r) o = lst G m) := (by simp [doSf, hC] : doSf (lst F n) (lst G m) (lst O r) o = lst G m)
  have HO : Hid (doOs (lst F n) (lst G m) (lst O r) o = lst O r ++ [o]) := (by simp [doOs, hC] : doOs (lst F n) (lst G m) (lst O r) o = lst O r ++ [o])
  have hr' : ((r : Int) == 200) = false := by simp; omega
  have LI : Hid (Calls Try.prog 45 #[.map (some b)] w4 fun e w' => (∃ v, e = .returned v ∧ FlL w' w4.heap.size v M) ∧ Below w4.heap.size w4 w') := by
    have e1 := doF_len hd
    rw [lst_len, ← hT, List.length_map] at e1
    have := implList b b T' w4 FD (by omega) (fun t ht => by
      have k := doF_names hd hf (filesB_iff.1 HL0.out).2.1 t.f (by rw [← hT]; exact List.mem_map_of_mem ht)
      have k2 : nmOk t.name = true := k
      simp [nmOk] at k2
      omega)
    rwa [hT] at this
  clear hC hf hd hM hM' FD hT hr
  obtain ⟨_, ⟨⟨p0, p1, p2⟩, _, _⟩, _, _⟩ := C4.out
  obtain ⟨⟨⟨s0, s1, s2⟩, _, _⟩, ⟨⟨o0, o1, o2, o3⟩, _⟩, ⟨⟨z0, z1, z2⟩, zf, zl⟩, _⟩ := X4.out
  go_wp2_with fail
  refine LI.out.mono ?_
  rintro e w5 ⟨⟨v5, rfl, A5⟩, D5⟩
  obtain ⟨va, nM, vc, hv5⟩ : ∃ va nM vc, v5 = .slice va nM vc := by obtain ⟨x, y, hh, _, _⟩ := A5.shape; exact ⟨x, _, y, hh⟩
  subst hv5
  have C5 : CpBx w w5 P (.slice a1 n c1) (.slice a2 m c2) (.slice a3 r c3) (lst F n) (lst G m) (lst O r) := C4.out.kept D5 C4.out.box.2.2
  have X5 : DoBx w w5 (.slice q n c) (.slice q' m c') (.slice q'' r c'') o := X4.out.kept D5
  obtain ⟨SU, XU⟩ : DoSt (w5.setCell ⟨P, 0, none⟩ (.slice va nM vc)) P (w.heap.size + 1 + 1 + 1) (.slice va nM vc) (.slice a2 m c2) (.slice a3 r c3) M (lst G m) (lst O r) ∧ DoBx w (w5.setCell ⟨P, 0, none⟩ (.slice va nM vc)) (.slice q n c) (.slice q' m c') (.slice q'' r c'') o := by
    refine ⟨DoSt.set0 C5.own C5.box (A5.mono (Nat.lt_of_lt_of_le C4.out.hP (Nat.le_of_lt C4.out.box.2.2))) ?_ ?_ ?_ ?_, X5.far C5.hP _ _⟩
    · intro e; have := A5.lt _ e; have := C4.out.box.2.2; omega
    · intro e; have := C5.rows _ (Or.inr (Or.inl e)); omega
    · intro e; have := C5.rows _ (Or.inr (Or.inr e)); omega
    · intro g e1 e2; have := A5.lt _ e1; have := C5.rows _ (Or.inr (Or.inl e2)); have := C4.out.box.2.2; omega
  have hP : w.heap.size + 1 + 1 < P := C5.hP
  have hP5 : P < w5.heap.size := C5.box.2.2
  have SU : Hid (DoSt (w5.setCell ⟨P, 0, none⟩ (.slice va nM vc)) P (w.heap.size + 1 + 1 + 1) (.slice va nM vc) (.slice a2 m c2) (.slice a3 r c3) M (lst G m) (lst O r)) := SU
  have XU : Hid (DoBx w (w5.setCell ⟨P, 0, none⟩ (.slice va nM vc)) (.slice q n c) (.slice q' m c') (.slice q'' r c'') o) := XU
  clear p0 p1 p2 s0 s1 s2 o0 o1 o2 o3 z0 z1 z2 zf zl A5 D5 LI
  obtain ⟨_, ⟨⟨p0, p1, p2⟩, pf, pl⟩, _, _⟩ := C5
  obtain ⟨⟨⟨s0, s1, s2⟩, _, _⟩, ⟨⟨o0, o1, o2, o3⟩, _⟩, _, _⟩ := X5
  go_wp2_with (at_builtin; refine wpList_append_own_at _ rfl _ _ 25 rfl (w.heap.size + 1 + 1 + 1) 36 i0 _ 4 56 Try.underlying25 hi hz0 hz1 hz2 rfl (by decide) _ _ _ rfl (World.ownsRow.alloc SU.out.own.ops _) ⟨_, 0, none⟩ 1 1 (DpC o) rfl rfl (dpNewsAt (by simp) o) (dpOne _) (by rw [lst_len]; unfold maxLen; omega) (by rw [lst_len]; omega) (by simp; omega) ?_; intro v7 w7 own7 grow7 _ at7; have O7 : DpL w7 (w.heap.size + 1 + 1 + 1) v7 (lst O r ++ [o]) := DpL.snoc own7; obtain ⟨va7, k7, vc7, hv7⟩ : ∃ va7 k7 vc7, v7 = .slice va7 k7 vc7 := (by obtain ⟨x, y, hh, _, _⟩ := O7.shape; exact ⟨x, _, y, hh⟩); have S7 : Hid (DoSt (w7.setCell ⟨P, 2, none⟩ v7) P (w.heap.size + 1 + 1 + 1) (.slice va nM vc) (.slice a2 m c2) v7 M (lst G m) (lst O r ++ [o])) := SU.out.add O7 grow7 at7; have Y7 : DoBx w w7 (.slice q n c) (.slice q' m c') (.slice q'' r c'') o := (XU.out.kept ((Below.refl _ _).alloc (Nat.le_refl _) _)).grown grow7 (fun k hk => (by have := SU.out.own.ops.lt k hk; omega)); have X7 : Hid (DoBx w (w7.setCell ⟨P, 2, none⟩ v7) (.slice q n c) (.slice q' m c') (.slice q'' r c'') o) := Y7.far hP _ _; clear p0 p1 p2 pf pl; obtain ⟨⟨p0, p1, p2⟩, pf, pl⟩ := (SU.out.box.kept ((Below.refl _ _).alloc (Nat.le_refl _) _) SU.out.box.2.2).grown grow7 (fun e => SU.out.n3 e.symm); obtain ⟨_, _, ⟨⟨z0, z1, z2⟩, zf, zl⟩, _⟩ := Y7; subst hv7; clear own7 grow7 at7 O7 XU SU s0 s1 s2 o0 o1 o2 o3)
  exact bodyPost_ret (v := .tuple #[.agg #[.slice va nM vc, .slice a2 m c2, .slice va7 k7 vc7], .int .i64 0]) (by simp [results, Try.results20, go_sem, z0, z1, z2]) rfl ⟨_, by rw [HC.out], by rw [HL.out, HS.out, HO.out]; exact ansAt S7.out.own (by omega) (by omega) X7.out.b⟩
theorem implDoDisk (q q' q'' : Option Addr) (n m r c c' c'' : Nat) (F G : Nat → Fl) (O : Nat → Dp) (o : Dp) (w : World) (h : Dk w q n F q' m G q'' r O) (ho : o.data.size ≤ 1048576) :
    Calls Try.prog 20 #[.agg #[.slice q n c, .slice q' m c', .slice q'' r c''], .agg #[.int .i64 o.kind, .string o.name, .string o.dst, .string o.data]] w fun e w' => ∃ v, e = .returned (.tuple #[v, .int .i64 (doC (lst F n) (lst G m) (lst O r) o)]) ∧ DkAns w (doLv (lst F n) (lst G m) (lst O r) o) (doSf (lst F n) (lst G m) (lst O r) o) (doOs (lst F n) (lst G m) (lst O r) o) v w' := by
  cases hx : diskB (lst F n) (lst G m) (lst O r)
  · exact do_one q q' q'' n m r c c' c'' F G O o w hx (implDo_no q q' q'' n m r c c' c'' F G O o w h hx)
  · exact implDo_some q q' q'' n m r c c' c'' F G O o w h ho hx
end Go.Proofs.Ytcalgmhpagpnnaa
