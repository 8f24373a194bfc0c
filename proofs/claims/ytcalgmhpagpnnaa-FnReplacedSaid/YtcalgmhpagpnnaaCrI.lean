/- Crash of the program. Conditions: the disk's lists and the places lie in memory. -/
import Derived.Test.YtcalgmhpagpnnaaCrA
import Derived.Test.YtcalgmhpagpnnaaRp
namespace Go.Proofs.Ytcalgmhpagpnnaa
open Go.RowKit
set_option maxRecDepth 8000

set_option maxHeartbeats 4000000 in
theorem implCr_disk (q q' q'' : Option Addr) (l m r c c' c'' : Nat) (F G : Nat → Fl) (O : Nat → Dp) (a : Option Addr) (n ck : Nat) (K : Nat → Int) (t : Int) (w : World) (h : Dk w q l F q' m G q'' r O) (hk : Ints w a n K) (hx : diskB (lst F l) (lst G m) (lst O r) = false) :
    Calls Try.prog 16 #[.agg #[.slice q l c, .slice q' m c', .slice q'' r c''], .slice a n ck, .int .i64 t] w fun e w' => ∃ v, e = .returned (.tuple #[v, .bool false]) ∧ DkAns w [] [] [] v w' := by
  have H : Hid (Dk w q l F q' m G q'' r O) := h
  have HK : Hid (Ints w a n K) := hk
  have HX : Hid (diskB (lst F l) (lst G m) (lst O r) = false) := hx
  clear hx
  obtain ⟨W0, hW0, X⟩ : ∃ W0, W0 = (w.alloc (.cells #[.slice q l c, .slice q' m c', .slice q'' r c''] 27)).alloc (.cells #[.slice none 0 0, .slice none 0 0, .slice none 0 0] 27) ∧ RBx w W0 (.slice q l c) (.slice q' m c') (.slice q'' r c'') := ⟨_, rfl, RBx.new w _ _ _⟩
  have HW0 : Hid (W0 = _) := hW0
  have X0 : Hid (RBx w W0 (.slice q l c) (.slice q' m c') (.slice q'' r c'')) := X
  clear hW0 X h hk
  go_enter Try.func16, Try.ntmps16
  go_wp2_with fail
  rw [← HW0.out]
  refine (implDisk q q' q'' l m r c c' c'' F G O _ (H.out.below X0.out.b)).mono ?_
  rintro e w1 ⟨rfl, D1⟩
  have X1 : Hid (RBx w w1 (.slice q l c) (.slice q' m c') (.slice q'' r c'')) := X0.out.kept D1
  clear D1 X0 HW0
  obtain ⟨⟨⟨s0, s1, s2⟩, _, _⟩, ⟨⟨z0, z1, z2⟩, zf, zl⟩, _⟩ := X1.out
  rw [HX.out]
  go_wp2
  exact bodyPost_ret (v := .tuple #[.agg #[.slice none 0 0, .slice none 0 0, .slice none 0 0], .bool false]) (by simp [results, Try.results16, go_sem, z0, z1, z2]) rfl ⟨_, rfl, ansAt (B := w.heap.size + 1 + 1) ⟨FlL.nil _ _, FlL.nil _ _, DpL.nil _ _, fun g h => by cases h⟩ (by omega) (by omega) X1.out.b⟩
set_option maxHeartbeats 4000000 in
theorem implCr_keep (q q' q'' : Option Addr) (l m r c c' c'' : Nat) (F G : Nat → Fl) (O : Nat → Dp) (a : Option Addr) (n ck : Nat) (K : Nat → Int) (t : Int) (w : World) (h : Dk w q l F q' m G q'' r O) (hk : Ints w a n K) (hx : diskB (lst F l) (lst G m) (lst O r) = true) (hy : kpB r K n = false) :
    Calls Try.prog 16 #[.agg #[.slice q l c, .slice q' m c', .slice q'' r c''], .slice a n ck, .int .i64 t] w fun e w' => ∃ v, e = .returned (.tuple #[v, .bool false]) ∧ DkAns w [] [] [] v w' := by
  have H : Hid (Dk w q l F q' m G q'' r O) := h
  have HK : Hid (Ints w a n K) := hk
  have HX : Hid (diskB (lst F l) (lst G m) (lst O r) = true) := hx
  have HY : Hid (kpB r K n = false) := hy
  clear hx hy
  obtain ⟨W0, hW0, X⟩ : ∃ W0, W0 = (w.alloc (.cells #[.slice q l c, .slice q' m c', .slice q'' r c''] 27)).alloc (.cells #[.slice none 0 0, .slice none 0 0, .slice none 0 0] 27) ∧ RBx w W0 (.slice q l c) (.slice q' m c') (.slice q'' r c'') := ⟨_, rfl, RBx.new w _ _ _⟩
  have HW0 : Hid (W0 = _) := hW0
  have X0 : Hid (RBx w W0 (.slice q l c) (.slice q' m c') (.slice q'' r c'')) := X
  clear hW0 X h hk
  go_enter Try.func16, Try.ntmps16
  go_wp2_with fail
  rw [← HW0.out]
  refine (implDisk q q' q'' l m r c c' c'' F G O _ (H.out.below X0.out.b)).mono ?_
  rintro e w1 ⟨rfl, D1⟩
  have X1 : Hid (RBx w w1 (.slice q l c) (.slice q' m c') (.slice q'' r c'')) := X0.out.kept D1
  clear D1 X0 HW0
  obtain ⟨⟨⟨s0, s1, s2⟩, _, _⟩, ⟨⟨z0, z1, z2⟩, zf, zl⟩, _⟩ := X1.out
  rw [HX.out]
  go_wp2_with fail
  refine (implKeep a n ck K r _ (HK.out.below X1.out.b)).mono ?_
  rintro e w2 ⟨rfl, D2⟩
  have X2 : Hid (RBx w w2 (.slice q l c) (.slice q' m c') (.slice q'' r c'')) := X1.out.kept D2
  clear D2 X1 s0 s1 s2 z0 z1 z2 zf zl
  obtain ⟨⟨⟨s0, s1, s2⟩, _, _⟩, ⟨⟨z0, z1, z2⟩, zf, zl⟩, _⟩ := X2.out
  rw [HY.out]
  go_wp2
  exact bodyPost_ret (v := .tuple #[.agg #[.slice none 0 0, .slice none 0 0, .slice none 0 0], .bool false]) (by simp [results, Try.results16, go_sem, z0, z1, z2]) rfl ⟨_, rfl, ansAt (B := w.heap.size + 1 + 1) ⟨FlL.nil _ _, FlL.nil _ _, DpL.nil _ _, fun g h => by cases h⟩ (by omega) (by omega) X2.out.b⟩
set_option maxHeartbeats 4000000 in
theorem implCr_neg (q q' q'' : Option Addr) (l m r c c' c'' : Nat) (F G : Nat → Fl) (O : Nat → Dp) (a : Option Addr) (n ck : Nat) (K : Nat → Int) (t : Int) (w : World) (h : Dk w q l F q' m G q'' r O) (hk : Ints w a n K) (hx : diskB (lst F l) (lst G m) (lst O r) = true) (hy : kpB r K n = true) (ht : t < 0) :
    Calls Try.prog 16 #[.agg #[.slice q l c, .slice q' m c', .slice q'' r c''], .slice a n ck, .int .i64 t] w fun e w' => ∃ v, e = .returned (.tuple #[v, .bool false]) ∧ DkAns w [] [] [] v w' := by
  have H : Hid (Dk w q l F q' m G q'' r O) := h
  have HK : Hid (Ints w a n K) := hk
  have HX : Hid (diskB (lst F l) (lst G m) (lst O r) = true) := hx
  have HY : Hid (kpB r K n = true) := hy
  clear hx hy
  obtain ⟨W0, hW0, X⟩ : ∃ W0, W0 = (w.alloc (.cells #[.slice q l c, .slice q' m c', .slice q'' r c''] 27)).alloc (.cells #[.slice none 0 0, .slice none 0 0, .slice none 0 0] 27) ∧ RBx w W0 (.slice q l c) (.slice q' m c') (.slice q'' r c'') := ⟨_, rfl, RBx.new w _ _ _⟩
  have HW0 : Hid (W0 = _) := hW0
  have X0 : Hid (RBx w W0 (.slice q l c) (.slice q' m c') (.slice q'' r c'')) := X
  clear hW0 X h hk
  go_enter Try.func16, Try.ntmps16
  go_wp2_with fail
  rw [← HW0.out]
  refine (implDisk q q' q'' l m r c c' c'' F G O _ (H.out.below X0.out.b)).mono ?_
  rintro e w1 ⟨rfl, D1⟩
  have X1 : Hid (RBx w w1 (.slice q l c) (.slice q' m c') (.slice q'' r c'')) := X0.out.kept D1
  clear D1 X0 HW0
  obtain ⟨⟨⟨s0, s1, s2⟩, _, _⟩, ⟨⟨z0, z1, z2⟩, zf, zl⟩, _⟩ := X1.out
  rw [HX.out]
  go_wp2_with fail
  refine (implKeep a n ck K r _ (HK.out.below X1.out.b)).mono ?_
  rintro e w2 ⟨rfl, D2⟩
  have X2 : Hid (RBx w w2 (.slice q l c) (.slice q' m c') (.slice q'' r c'')) := X1.out.kept D2
  clear D2 X1 s0 s1 s2 z0 z1 z2 zf zl
  obtain ⟨⟨⟨s0, s1, s2⟩, _, _⟩, ⟨⟨z0, z1, z2⟩, zf, zl⟩, _⟩ := X2.out
  rw [HY.out]
  go_wp2
  exact bodyPost_ret (v := .tuple #[.agg #[.slice none 0 0, .slice none 0 0, .slice none 0 0], .bool false]) (by simp [results, Try.results16, go_sem, z0, z1, z2]) rfl ⟨_, rfl, ansAt (B := w.heap.size + 1 + 1) ⟨FlL.nil _ _, FlL.nil _ _, DpL.nil _ _, fun g h => by cases h⟩ (by omega) (by omega) X2.out.b⟩
set_option maxHeartbeats 8000000 in
theorem implCr_yes (q q' q'' : Option Addr) (l m r c c' c'' : Nat) (F G : Nat → Fl) (O : Nat → Dp) (a : Option Addr) (n ck : Nat) (K : Nat → Int) (t : Int) (w : World) (h : Dk w q l F q' m G q'' r O) (hk : Ints w a n K) (hx : diskB (lst F l) (lst G m) (lst O r) = true) (hy : kpB r K n = true) (ht : 0 ≤ t) :
    Calls Try.prog 16 #[.agg #[.slice q l c, .slice q' m c', .slice q'' r c''], .slice a n ck, .int .i64 t] w fun e w' => ∃ v, e = .returned (.tuple #[v, .bool (filesB (crF O K n t (lst G m) n))]) ∧ DkAns w (sy1 (filesB (crF O K n t (lst G m) n)) (crF O K n t (lst G m) n)) (sy1 (filesB (crF O K n t (lst G m) n)) (crF O K n t (lst G m) n)) [] v w' := by
  have H : Hid (Dk w q l F q' m G q'' r O) := h
  have HK : Hid (Ints w a n K) := hk
  have HX : Hid (diskB (lst F l) (lst G m) (lst O r) = true) := hx
  have HY : Hid (kpB r K n = true) := hy
  have KP : Hid (∀ i, i < n → KpAt r K i) := kpB_yes.1 hy
  have hnr : n ≤ r := kp_len (kpB_yes.1 hy)
  have hr2 : r ≤ 200 := by
    simp only [diskB, Bool.and_eq_true, decide_eq_true_eq, lst_len] at hx
    exact hx.1.2
  have hS : filesB (lst G m) = true := by
    simp only [diskB, Bool.and_eq_true] at hx
    exact hx.1.1.2
  have COP := crOps t hx (kpB_yes.1 hy) h.so
  have CF : Hid (∀ k, k < n → formB (crOp O K n t k) = true) := COP.1
  have CD : Hid (∀ k, k < n → (crOp O K n t k).data.size ≤ 1048576) := COP.2
  have CO : Hid (∀ k, k ≤ n → CrOk (crF O K n t (lst G m) k) k) := crF_ok hS COP.1 COP.2
  have FO : Hid (∀ V, Below w.heap.size w V → Calls Try.prog 42 #[.slice q' m c'] V fun e w' => e = .returned (.map (some V.heap.size)) ∧ (∃ T, Fd w' V.heap.size V.heap.size T ∧ T.map Ent.f = lst G m) ∧ Below V.heap.size V w') := fun V hV => implFolder q' m c' G V (h.safe.below hV) (filesB_iff.1 hS).2.2 (fun i hi => ⟨by
    have := (filesB_iff.1 hS).2.1 (G i) (lst_mem.2 ⟨i, hi, rfl⟩)
    simp [nmOk] at this
    omega, by
    have := byt_at (F := G) hi
    have := (filesB_iff.1 hS).1.2
    omega⟩)
  have hn1 := hk.1
  clear hx hy hS COP
  obtain ⟨W0, hW0, X⟩ : ∃ W0, W0 = (w.alloc (.cells #[.slice q l c, .slice q' m c', .slice q'' r c''] 27)).alloc (.cells #[.slice none 0 0, .slice none 0 0, .slice none 0 0] 27) ∧ RBx w W0 (.slice q l c) (.slice q' m c') (.slice q'' r c'') := ⟨_, rfl, RBx.new w _ _ _⟩
  have HW0 : Hid (W0 = _) := hW0
  have X0 : Hid (RBx w W0 (.slice q l c) (.slice q' m c') (.slice q'' r c'')) := X
  clear hW0 X h hk
  go_enter Try.func16, Try.ntmps16
  go_wp2_with fail
  rw [← HW0.out]
  refine (implDisk q q' q'' l m r c c' c'' F G O _ (H.out.below X0.out.b)).mono ?_
  rintro e w1 ⟨rfl, D1⟩
  have X1 : Hid (RBx w w1 (.slice q l c) (.slice q' m c') (.slice q'' r c'')) := X0.out.kept D1
  clear D1 X0 HW0
  obtain ⟨⟨⟨s0, s1, s2⟩, _, _⟩, ⟨⟨z0, z1, z2⟩, zf, zl⟩, _⟩ := X1.out
  rw [HX.out]
  go_wp2_with fail
  refine (implKeep a n ck K r _ (HK.out.below X1.out.b)).mono ?_
  rintro e w2 ⟨rfl, D2⟩
  have X2 : Hid (RBx w w2 (.slice q l c) (.slice q' m c') (.slice q'' r c'')) := X1.out.kept D2
  clear D2 X1 s0 s1 s2 z0 z1 z2 zf zl
  obtain ⟨⟨⟨s0, s1, s2⟩, _, _⟩, ⟨⟨z0, z1, z2⟩, zf, zl⟩, _⟩ := X2.out
  rw [HY.out]
  have htb : decide (t < 0) = false := decide_eq_false (by omega)
  go_wp2_with fail
  refine (FO.out _ X2.out.b).mono ?_
  rintro e w3 ⟨rfl, ⟨T0, F0, hT0⟩, D3⟩
  have hwb : w.heap.size + 1 < w2.heap.size := X2.out.z.2.2
  have Y3 : Hid (Fd w3 w2.heap.size w2.heap.size T0 ∧ T0.map Ent.f = lst G m ∧ RBx w w3 (.slice q l c) (.slice q' m c') (.slice q'' r c'') ∧ w2.heap.size ≤ w3.heap.size) := ⟨F0, hT0, X2.out.kept D3, D3.size⟩
  clear F0 hT0 D3 X2 FO s0 s1 s2 z0 z1 z2 zf zl
  generalize w2.heap.size = b at *
  go_wp2_with fail
  go_loopw [35] (fun i wr => ∃ (k : Nat) (T : List Ent), k ≤ n ∧ i = .int .i64 k ∧ Hid (Fd wr b b T ∧ T.map Ent.f = crF O K n t (lst G m) k ∧ RBx w wr (.slice q l c) (.slice q' m c') (.slice q'' r c'') ∧ b ≤ wr.heap.size)) (fun i _ => n - (intOf i).toNat)
  case atStart => exact ⟨0, T0, Nat.zero_le _, rfl, Y3⟩
  case round =>
    obtain ⟨k, T, hkn, rfl, HH⟩ := hrel
    clear Y3
    have HT : Hid (T.map Ent.f = crF O K n t (lst G m) k) := HH.out.2.1
    obtain ⟨⟨⟨s0, s1, s2⟩, _, _⟩, ⟨⟨z0, z1, z2⟩, zf, zl⟩, _⟩ := HH.out.2.2.1
    by_cases hlt : k < n
    · have hkp := KP.out k hlt
      obtain ⟨j, hj⟩ : ∃ j : Nat, K k = (j : Int) := ⟨(K k).toNat, by have := hkp.1; omega⟩
      have hjr : j < r := by have := hkp.2.1; omega
      obtain ⟨kb, ko, rfl, hkb, hkA⟩ := HK.out.acc hlt
      have c0 : wr.cell? ⟨kb, ko + k, none⟩ = some (.int .i64 j) := by rw [← hj]; exact (HH.out.2.2.1.b.cell (p := ⟨kb, ko + k, none⟩) hkb).trans hkA
      have hkb' : kb < wr.heap.size := Nat.lt_of_lt_of_le hkb HH.out.2.2.1.b.size
      obtain ⟨ob, oo, rfl, hob, hoA⟩ := H.out.ops.acc hjr
      have hcc := hoA.of_cells (w' := wr) (fun x => HH.out.2.2.1.b.cell (p := ⟨ob, x, none⟩) hob)
      have hob' : ob < wr.heap.size := Nat.lt_of_lt_of_le hob HH.out.2.2.1.b.size
      have HCO0 : crOp O K n t k = if k + 1 = n then tornD (O j) t else O j := by rw [crOp, hj, Int.toNat_natCast]
      have HTl : Hid (T.length ≤ 1048576) := by
        have e1 := (CO.out k hkn).len
        have e2 := congrArg List.length HT.out
        rw [List.length_map] at e2
        show T.length ≤ 1048576
        rw [e2]
        exact Nat.le_trans e1 (by omega)
      have hbt : byt (T.map Ent.f) ≤ 200000 + k * 1048576 := by rw [HT.out]; exact (CO.out k hkn).byt
      have hfm := CF.out k hlt
      have hdd := CD.out k hlt
      have hsf := H.out.so j hjr
      clear hkA hoA hkp hj
      obtain ⟨f, hf⟩ : ∃ f, f = O j := ⟨_, rfl⟩
      rw [← hf] at hcc HCO0 hsf
      clear hf
      obtain ⟨d0, d1, d2, d3⟩ := hcc
      have bA : Hid (Below wr.heap.size wr (wr.alloc (.cells #[.int .i64 f.kind, .string f.name, .string f.dst, .string f.data] 36))) := (Below.refl _ _).alloc (Nat.le_refl _) _
      have ZA : Hid (Fd (wr.alloc (.cells #[.int .i64 f.kind, .string f.name, .string f.dst, .string f.data] 36)) b b T ∧ RBx w (wr.alloc (.cells #[.int .i64 f.kind, .string f.name, .string f.dst, .string f.data] 36)) (.slice q l c) (.slice q' m c') (.slice (some ⟨ob, oo, none⟩) r c'') ∧ b ≤ (wr.alloc (.cells #[.int .i64 f.kind, .string f.name, .string f.dst, .string f.data] 36)).heap.size) := ⟨HH.out.1.below bA.out (Nat.le_refl _), HH.out.2.2.1.kept bA.out, Nat.le_trans HH.out.2.2.2 bA.out.size⟩
      by_cases hl : k + 1 = n
      · rw [if_pos hl] at HCO0
        rw [HCO0] at hfm hdd
        have HCO : Hid (crOp O K n t k = tornD f t) := HCO0
        have HFm : Hid (formB (tornD f t) = true) := hfm
        have HBy : Hid (byt (T.map Ent.f) + (tornD f t).data.size ≤ 1099511627776) := by show _ ≤ _; omega
        have hlb : ((k : Int) == (n : Int) - 1) = true := by simp; omega
        clear HCO0 hfm hdd hbt
        go_wp2_with fail
        refine (implTorn f t _ ht hsf).mono ?_
        rintro e u ⟨rfl, DU⟩
        have e0 : u.cell? ⟨wr.heap.size, 0, none⟩ = some (.int .i64 f.kind) := (DU.cell (p := ⟨wr.heap.size, 0, none⟩) (by simp)).trans (by simp [go_sem])
        have e1 : u.cell? ⟨wr.heap.size, 1, none⟩ = some (.string f.name) := (DU.cell (p := ⟨wr.heap.size, 1, none⟩) (by simp)).trans (by simp [go_sem])
        have e2 : u.cell? ⟨wr.heap.size, 2, none⟩ = some (.string f.dst) := (DU.cell (p := ⟨wr.heap.size, 2, none⟩) (by simp)).trans (by simp [go_sem])
        have e3 : u.cell? ⟨wr.heap.size, 3, none⟩ = some (.string f.data) := (DU.cell (p := ⟨wr.heap.size, 3, none⟩) (by simp)).trans (by simp [go_sem])
        have ef : ∀ x, u.frozen? ⟨wr.heap.size, x, none⟩ = false := fun x => (DU.frozen (p := ⟨wr.heap.size, x, none⟩) (by simp)).trans (by simp [go_sem])
        have B4 : Below wr.heap.size wr (((((u.setCell ⟨wr.heap.size, 0, none⟩ (.int .i64 (tornD f t).kind)).setCell ⟨wr.heap.size, 1, none⟩ (.string (tornD f t).name)).setCell ⟨wr.heap.size, 2, none⟩ (.string (tornD f t).dst)).setCell ⟨wr.heap.size, 3, none⟩ (.string (tornD f t).data))) := below_far (below_far (below_far (below_far (bA.out.trans (DU.mono bA.out.size)) (Nat.le_refl _) _ _) (Nat.le_refl _) _ _) (Nat.le_refl _) _ _) (Nat.le_refl _) _ _
        have ZB : Hid (Fd (((((u.setCell ⟨wr.heap.size, 0, none⟩ (.int .i64 (tornD f t).kind)).setCell ⟨wr.heap.size, 1, none⟩ (.string (tornD f t).name)).setCell ⟨wr.heap.size, 2, none⟩ (.string (tornD f t).dst)).setCell ⟨wr.heap.size, 3, none⟩ (.string (tornD f t).data))) b b T ∧ RBx w (((((u.setCell ⟨wr.heap.size, 0, none⟩ (.int .i64 (tornD f t).kind)).setCell ⟨wr.heap.size, 1, none⟩ (.string (tornD f t).name)).setCell ⟨wr.heap.size, 2, none⟩ (.string (tornD f t).dst)).setCell ⟨wr.heap.size, 3, none⟩ (.string (tornD f t).data))) (.slice q l c) (.slice q' m c') (.slice (some ⟨ob, oo, none⟩) r c'') ∧ b ≤ (((((u.setCell ⟨wr.heap.size, 0, none⟩ (.int .i64 (tornD f t).kind)).setCell ⟨wr.heap.size, 1, none⟩ (.string (tornD f t).name)).setCell ⟨wr.heap.size, 2, none⟩ (.string (tornD f t).dst)).setCell ⟨wr.heap.size, 3, none⟩ (.string (tornD f t).data))).heap.size) := ⟨HH.out.1.below B4 (Nat.le_refl _), HH.out.2.2.1.kept B4, Nat.le_trans HH.out.2.2.2 B4.size⟩
        have hzu : wr.heap.size < u.heap.size := Nat.lt_of_lt_of_le (by simp) DU.size
        clear DU B4 ZA
        obtain ⟨Tt, Mf, Md, dv, PK⟩ := opPack b b T (tornD f t) HFm.out HTl.out HBy.out
        obtain ⟨pop, hmf, hmd, enf, end_, pfind, pdo⟩ := PK
        have POP : Hid (∀ W, Calls Try.prog 52 #[.agg #[.int .i64 ((tornD f t)).kind, .string ((tornD f t)).name, .string ((tornD f t)).dst, .string ((tornD f t)).data]] W fun e w' => e = .returned (.tuple #[.iface Tt dv, .bool true]) ∧ Below W.heap.size W w') := pop
        have PFI : Hid (∀ W, Fd W b b T → Calls Try.prog Mf #[dv, .map (some b)] W fun e w' => e = .returned (.bool (doF (T.map Ent.f) (tornD f t)).isSome) ∧ Below W.heap.size W w') := pfind
        have PDO : Hid (∀ W M, Fd W b b T → b ≤ W.heap.size → doF (T.map Ent.f) (tornD f t) = some M → Calls Try.prog Md #[dv, .map (some b)] W fun e w' => DoFd W b b M e w') := pdo
        clear pop pfind pdo
        go_wp2_with fail
        refine (POP.out _).mono ?_
        rintro e v1 ⟨rfl, E1⟩
        have Z1 : Hid (Fd v1 b b T ∧ RBx w v1 (.slice q l c) (.slice q' m c') (.slice (some ⟨ob, oo, none⟩) r c'') ∧ b ≤ v1.heap.size) := ⟨ZB.out.1.below E1 (Nat.le_refl _), ZB.out.2.1.kept E1, Nat.le_trans ZB.out.2.2 E1.size⟩
        clear E1
        go_wp2_with fail
        refine (PFI.out _ Z1.out.1).mono ?_
        rintro e v2 ⟨rfl, E2⟩
        have Z2 : Hid (Fd v2 b b T ∧ RBx w v2 (.slice q l c) (.slice q' m c') (.slice (some ⟨ob, oo, none⟩) r c'') ∧ b ≤ v2.heap.size) := ⟨Z1.out.1.below E2 (Nat.le_refl _), Z1.out.2.1.kept E2, Nat.le_trans Z1.out.2.2 E2.size⟩
        clear E2
        cases hd : doF (T.map Ent.f) (tornD f t) with
        | none =>
          simp only [Option.isSome_none]
          have FI : Hid (Fd v2 b b T ∧ T.map Ent.f = crF O K n t (lst G m) (k + 1) ∧ RBx w v2 (.slice q l c) (.slice q' m c') (.slice (some ⟨ob, oo, none⟩) r c'') ∧ b ≤ v2.heap.size) := ⟨Z2.out.1, by rw [HT.out] at hd; rw [HT.out, crF, HCO.out, hd]; rfl, Z2.out.2.1, Z2.out.2.2⟩
          clear hd
          go_wp2
          go_roundw
          case rel => exact ⟨k + 1, T, by omega, by go_num, FI⟩
          case measure => simp [intOf]; omega
        | some M =>
          simp only [Option.isSome_some]
          have HD : Hid (doF (T.map Ent.f) (tornD f t) = some M) := hd
          clear hd
          go_wp2_with fail
          refine (PDO.out _ M Z2.out.1 Z2.out.2.2 HD.out).mono ?_
          rintro e v3 ⟨rfl, ⟨T', F3, hT'⟩, E3⟩
          have FI : Hid (Fd v3 b b T' ∧ T'.map Ent.f = crF O K n t (lst G m) (k + 1) ∧ RBx w v3 (.slice q l c) (.slice q' m c') (.slice (some ⟨ob, oo, none⟩) r c'') ∧ b ≤ v3.heap.size) := ⟨F3, by have hd := HD.out; rw [HT.out] at hd; rw [hT', crF, HCO.out, hd]; rfl, Z2.out.2.1.low E3 hwb, Nat.le_trans Z2.out.2.2 E3.size⟩
          clear F3 hT' E3
          go_wp2
          go_roundw
          case rel => exact ⟨k + 1, T', by omega, by go_num, FI⟩
          case measure => simp [intOf]; omega
      · rw [if_neg hl] at HCO0
        rw [HCO0] at hfm hdd
        have HCO : Hid (crOp O K n t k = f) := HCO0
        have HFm : Hid (formB f = true) := hfm
        have HBy : Hid (byt (T.map Ent.f) + f.data.size ≤ 1099511627776) := by show _ ≤ _; omega
        have hlb : ((k : Int) == (n : Int) - 1) = false := by simp; omega
        clear HCO0 hfm hdd hbt
        obtain ⟨Tt, Mf, Md, dv, PK⟩ := opPack b b T f HFm.out HTl.out HBy.out
        obtain ⟨pop, hmf, hmd, enf, end_, pfind, pdo⟩ := PK
        have POP : Hid (∀ W, Calls Try.prog 52 #[.agg #[.int .i64 (f).kind, .string (f).name, .string (f).dst, .string (f).data]] W fun e w' => e = .returned (.tuple #[.iface Tt dv, .bool true]) ∧ Below W.heap.size W w') := pop
        have PFI : Hid (∀ W, Fd W b b T → Calls Try.prog Mf #[dv, .map (some b)] W fun e w' => e = .returned (.bool (doF (T.map Ent.f) f).isSome) ∧ Below W.heap.size W w') := pfind
        have PDO : Hid (∀ W M, Fd W b b T → b ≤ W.heap.size → doF (T.map Ent.f) f = some M → Calls Try.prog Md #[dv, .map (some b)] W fun e w' => DoFd W b b M e w') := pdo
        clear pop pfind pdo
        go_wp2_with fail
        refine (POP.out _).mono ?_
        rintro e v1 ⟨rfl, E1⟩
        have Z1 : Hid (Fd v1 b b T ∧ RBx w v1 (.slice q l c) (.slice q' m c') (.slice (some ⟨ob, oo, none⟩) r c'') ∧ b ≤ v1.heap.size) := ⟨ZA.out.1.below E1 (Nat.le_refl _), ZA.out.2.1.kept E1, Nat.le_trans ZA.out.2.2 E1.size⟩
        clear E1
        go_wp2_with fail
        refine (PFI.out _ Z1.out.1).mono ?_
        rintro e v2 ⟨rfl, E2⟩
        have Z2 : Hid (Fd v2 b b T ∧ RBx w v2 (.slice q l c) (.slice q' m c') (.slice (some ⟨ob, oo, none⟩) r c'') ∧ b ≤ v2.heap.size) := ⟨Z1.out.1.below E2 (Nat.le_refl _), Z1.out.2.1.kept E2, Nat.le_trans Z1.out.2.2 E2.size⟩
        clear E2
        cases hd : doF (T.map Ent.f) f with
        | none =>
          simp only [Option.isSome_none]
          have FI : Hid (Fd v2 b b T ∧ T.map Ent.f = crF O K n t (lst G m) (k + 1) ∧ RBx w v2 (.slice q l c) (.slice q' m c') (.slice (some ⟨ob, oo, none⟩) r c'') ∧ b ≤ v2.heap.size) := ⟨Z2.out.1, by rw [HT.out] at hd; rw [HT.out, crF, HCO.out, hd]; rfl, Z2.out.2.1, Z2.out.2.2⟩
          clear hd
          go_wp2
          go_roundw
          case rel => exact ⟨k + 1, T, by omega, by go_num, FI⟩
          case measure => simp [intOf]; omega
        | some M =>
          simp only [Option.isSome_some]
          have HD : Hid (doF (T.map Ent.f) f = some M) := hd
          clear hd
          go_wp2_with fail
          refine (PDO.out _ M Z2.out.1 Z2.out.2.2 HD.out).mono ?_
          rintro e v3 ⟨rfl, ⟨T', F3, hT'⟩, E3⟩
          have FI : Hid (Fd v3 b b T' ∧ T'.map Ent.f = crF O K n t (lst G m) (k + 1) ∧ RBx w v3 (.slice q l c) (.slice q' m c') (.slice (some ⟨ob, oo, none⟩) r c'') ∧ b ≤ v3.heap.size) := ⟨F3, by have hd := HD.out; rw [HT.out] at hd; rw [hT', crF, HCO.out, hd]; rfl, Z2.out.2.1.low E3 hwb, Nat.le_trans Z2.out.2.2 E3.size⟩
          clear F3 hT' E3
          go_wp2
          go_roundw
          case rel => exact ⟨k + 1, T', by omega, by go_num, FI⟩
          case measure => simp [intOf]; omega
    · obtain rfl : k = n := by omega
      have hbt : byt (T.map Ent.f) ≤ 1099511627776 := by rw [HT.out]; exact Nat.le_trans (CO.out k (Nat.le_refl _)).byt (by omega)
      have EF : Hid (filesB (crF O K k t (lst G m) k) = fitsB (T.map Ent.f)) := (by rw [HT.out]; exact files_fits (CO.out k (Nat.le_refl _)).names (CO.out k (Nat.le_refl _)).ris : filesB (crF O K k t (lst G m) k) = fitsB (T.map Ent.f))
      have hTl : T.length ≤ 1048576 := by
        have e1 := (CO.out k (Nat.le_refl _)).len
        have e2 := congrArg List.length HT.out
        rw [List.length_map] at e2
        rw [e2]
        exact Nat.le_trans e1 (by omega)
      have LI : Hid (∀ V, Fd V b b T → Calls Try.prog 45 #[.map (some b)] V fun e w' => (∃ va nM vc, e = .returned (.slice va nM vc) ∧ FlL w' V.heap.size (.slice va nM vc) (crF O K k t (lst G m) k)) ∧ Below V.heap.size V w') := fun V hV => by
        refine (implList b b T V hV hTl (fun x hx => ?_)).mono ?_
        · have k1 := (CO.out k (Nat.le_refl _)).names x.f (by rw [← HT.out]; exact List.mem_map_of_mem hx)
          have k2 : nmOk x.name = true := k1
          simp [nmOk] at k2
          omega
        · rintro e w' ⟨⟨v, rfl, A⟩, D⟩
          rw [HT.out] at A
          obtain ⟨x, y, hh, _, _⟩ := A.shape
          subst hh
          exact ⟨⟨x, _, y, rfl, A⟩, D⟩
      have FT : Hid (Calls Try.prog 53 #[.map (some b)] wr fun e w' => e = .returned (.bool (filesB (crF O K k t (lst G m) k))) ∧ Below wr.heap.size wr w') := by
        have := implFits b b T wr HH.out.1 hbt
        rwa [← EF.out] at this
      have Z0 : Hid (Fd wr b b T ∧ RBx w wr (.slice q l c) (.slice q' m c') (.slice q'' r c'')) := ⟨HH.out.1, HH.out.2.2.1⟩
      clear hTl hbt EF HT HH CO CF CD
      obtain ⟨LL, hLL⟩ : ∃ LL, LL = crF O K k t (lst G m) k := ⟨_, rfl⟩
      rw [← hLL] at LI FT
      have HLL : Hid (LL = crF O K k t (lst G m) k) := hLL
      clear hLL
      go_wp2_with fail
      refine FT.out.mono ?_
      rintro e v1 ⟨rfl, E1⟩
      have Z1 : Hid (Fd v1 b b T ∧ RBx w v1 (.slice q l c) (.slice q' m c') (.slice q'' r c'')) := ⟨Z0.out.1.below E1 (Nat.le_refl _), Z0.out.2.kept E1⟩
      clear E1 Z0 FT s0 s1 s2 z0 z1 z2 zf zl
      obtain ⟨_, ⟨⟨z0, z1, z2⟩, zf, zl⟩, _⟩ := Z1.out.2
      cases hfit : filesB LL
      · have HFT : Hid (filesB LL = false) := hfit
        clear hfit
        go_wp2
        exact bodyPost_ret (v := .tuple #[.agg #[.slice none 0 0, .slice none 0 0, .slice none 0 0], .bool false]) (by simp [results, Try.results16, go_sem, z0, z1, z2]) rfl ⟨_, by rw [← HLL.out, HFT.out], by rw [← HLL.out, HFT.out]; exact ansAt (B := w.heap.size + 1 + 1) ⟨FlL.nil _ _, FlL.nil _ _, DpL.nil _ _, fun g h => by cases h⟩ (by omega) (by omega) Z1.out.2.b⟩
      · have HFT : Hid (filesB LL = true) := hfit
        clear hfit
        go_wp2_with fail
        refine (LI.out _ Z1.out.1).mono ?_
        rintro e v2 ⟨⟨g1, gn1, gc1, rfl, A2⟩, E2⟩
        have Z2 : Hid (Fd v2 b b T ∧ RBx w v2 (.slice q l c) (.slice q' m c') (.slice q'' r c'')) := ⟨Z1.out.1.below E2 (Nat.le_refl _), Z1.out.2.kept E2⟩
        have A2 : Hid (FlL v2 v1.heap.size (.slice g1 gn1 gc1) LL) := A2
        have hz2 : w.heap.size + 1 < v1.heap.size := Z1.out.2.z.2.2
        have hv12 : v1.heap.size ≤ v2.heap.size := E2.size
        clear E2 Z1 z0 z1 z2 zf zl
        go_wp2_with fail
        refine (LI.out _ Z2.out.1).mono ?_
        rintro e v3 ⟨⟨i1, in1, ic1, rfl, A3⟩, E3⟩
        have O3 : Hid (Own3 v3 (w.heap.size + 1 + 1) (.slice g1 gn1 gc1) (.slice i1 in1 ic1) (.slice none 0 0) LL LL []) := ⟨(A2.out.kept E3).mono hz2, A3.mono (Nat.le_trans hz2 hv12), DpL.nil _ _, fun x h1 h2 => (by have e1 := (World.ownsRow.lt A2.out x h1).2; have e2 := A3.lt x h2; omega)⟩
        have Z3 : Hid (RBx w v3 (.slice q l c) (.slice q' m c') (.slice q'' r c'')) := Z2.out.2.kept E3
        clear E3 A3 A2 Z2
        obtain ⟨_, ⟨⟨z0, z1, z2⟩, zf, zl⟩, _⟩ := Z3.out
        go_wp2
        exact bodyPost_ret (v := .tuple #[.agg #[.slice g1 gn1 gc1, .slice i1 in1 ic1, .slice none 0 0], .bool true]) (by simp [results, Try.results16, go_sem, z0, z1, z2]) rfl ⟨_, by rw [← HLL.out, HFT.out], by rw [← HLL.out, HFT.out]; exact ansAt O3.out (by omega) (by omega) Z3.out.b⟩
end Go.Proofs.Ytcalgmhpagpnnaa
