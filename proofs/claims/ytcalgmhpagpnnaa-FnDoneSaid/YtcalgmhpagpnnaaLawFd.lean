/- The law FnDone returns true, whatever its code. Conditions: the code's bytes lie in memory. -/
import Derived.Test.YtcalgmhpagpnnaaLawFc
import Derived.Test.YtcalgmhpagpnnaaDdA
namespace Go.Proofs.Ytcalgmhpagpnnaa
open Go.RowKit
set_option maxRecDepth 8000

theorem Cel4.kept {w w' : World} {R : Nat} {v0 v1 v2 v3 : Value} (h : Cel4 w R v0 v1 v2 v3) (hb : Below w.heap.size w w') : Cel4 w' R v0 v1 v2 v3 :=
  h.stp (B := w.heap.size) (Stp.ofBelow hb) (Nat.ne_of_lt h.2.2)
theorem add_run (x y : ByteArray) (hx : x.size ≤ 10000000) (hy : y.size ≤ 10000000) (W : World) : (Op.stringOp .add x y).run Try.prog W = .ok (.string (x ++ y)) W := run_string_add_sum W x y (by omega)
theorem act_lists {L1 L2 : List Fl} {L3 : List Dp} {o : Dp} (hx : diskB L1 L2 L3 = true) (hc : doC L1 L2 L3 o ≠ 0) : doLv L1 L2 L3 o = L1 ∧ doSf L1 L2 L3 o = L2 ∧ doOs L1 L2 L3 o = L3 := by
  have h1 := doC_ne1 o hx
  simp [doLv, doSf, doOs, hc, h1]
theorem act_zero {L1 L2 : List Fl} {L3 : List Dp} {o : Dp} (hc : doC L1 L2 L3 o = 0) : doSf L1 L2 L3 o = L2 ∧ doOs L1 L2 L3 o = L3 ++ [o] := by
  simp [doSf, doOs, hc]

set_option maxHeartbeats 8000000 in
theorem lawDone4 (a : Option Addr) (len cap : Nat) (w : World) (hc : Code w a len) : Calls Try.prog 4 #[.slice a len cap] w fun e w' => e = .returned (.bool true) ∧ Below w.heap.size w w' := by
  have HC : Hid (Code w a len) := hc
  clear hc
  by_cases hb : 1048576 < len
  · go_enter Try.func4, Try.ntmps4
    go_wp2_with fail
    refine (big_yes a len cap _ hb).mono ?_
    rintro e wz ⟨rfl, rfl⟩
    go_wp2
    go_ret
    exact ⟨rfl, Below.refl _ _⟩
  go_enter Try.func4, Try.ntmps4
  go_wp2_with fail
  refine (big_no a len cap _ (by omega)).mono ?_
  rintro e wz ⟨rfl, hwz⟩
  rw [hwz]
  clear hwz
  go_wp2_with fail
  refine (drawDo a len cap _ HC.out).mono ?_
  rintro e w1 ⟨q, n, c, q', m, c', q'', r, c'', L1, L2, L3, ⟨kd, nm, ds, dt⟩, rfl, D1, ho, B1⟩
  have HO : Hid (dt.size ≤ 3) := ho
  clear hb HC ho
  obtain ⟨V1, hV1, X1⟩ : ∃ V1, V1 = (w1.alloc (.cells #[.slice q n c, .slice q' m c', .slice q'' r c''] 27)).alloc (.cells #[.int .i64 kd, .string nm, .string ds, .string dt] 36) ∧ Hid (DX w w1.heap.size q n c q' m c' q'' r c'' L1 L2 L3 V1 ∧ Cel4 V1 (w1.heap.size + 1) (.int .i64 kd) (.string nm) (.string ds) (.string dt)) := by
    have b1 : Below w1.heap.size w1 (w1.alloc (.cells #[.slice q n c, .slice q' m c', .slice q'' r c''] 27)) := (Below.refl _ _).alloc (Nat.le_refl _) _
    have x1 : DX w w1.heap.size q n c q' m c' q'' r c'' L1 L2 L3 (w1.alloc (.cells #[.slice q n c, .slice q' m c', .slice q'' r c''] 27)) := ⟨Box3.new w1 _ _ _ 27, D1.below b1, B1.trans (b1.mono B1.size)⟩
    have x2 := Cel4.new (w1.alloc (.cells #[.slice q n c, .slice q' m c', .slice q'' r c''] 27)) (.int .i64 kd) (.string nm) (.string ds) (.string dt) 36
    rw [World.size_alloc] at x2
    exact ⟨_, rfl, x1.kept ((Below.refl _ _).alloc (Nat.le_refl _) _), x2⟩
  have HV1 : Hid (V1 = _) := hV1
  clear hV1 D1 B1
  go_wp2_with fail
  rw [← HV1.out]
  refine (doL c c' c'' X1.out.1.dk (⟨kd, nm, ds, dt⟩ : Dp) (by have := HO.out; show dt.size ≤ _; omega)).mono ?_
  rintro e w2 ⟨p1, m1, k1, p2, m2, k2, p3, m3, k3, rfl, O2, B2⟩
  obtain ⟨V2, hV2, X2, Y2⟩ : ∃ V2, V2 = w2.alloc (.cells #[.slice p1 m1 k1, .slice p2 m2 k2, .slice p3 m3 k3] 27) ∧ Hid (DX w w1.heap.size q n c q' m c' q'' r c'' L1 L2 L3 V2 ∧ Cel4 V2 (w1.heap.size + 1) (.int .i64 kd) (.string nm) (.string ds) (.string dt)) ∧ Hid (Box3 V2 w2.heap.size (.slice p1 m1 k1) (.slice p2 m2 k2) (.slice p3 m3 k3) ∧ Own3 V2 V1.heap.size (.slice p1 m1 k1) (.slice p2 m2 k2) (.slice p3 m3 k3) (doLv L1 L2 L3 (⟨kd, nm, ds, dt⟩ : Dp)) (doSf L1 L2 L3 (⟨kd, nm, ds, dt⟩ : Dp)) (doOs L1 L2 L3 (⟨kd, nm, ds, dt⟩ : Dp))) := by
    have b2 : Below w2.heap.size w2 (w2.alloc (.cells #[.slice p1 m1 k1, .slice p2 m2 k2, .slice p3 m3 k3] 27)) := (Below.refl _ _).alloc (Nat.le_refl _) _
    exact ⟨_, rfl, ⟨(X1.out.1.kept B2).kept b2, (X1.out.2.kept B2).kept b2⟩, Box3.new w2 _ _ _ 27, O2.kept b2⟩
  have HV2 : Hid (V2 = _) := hV2
  obtain ⟨⟨d0, d1, d2⟩, _, _⟩ := (X1.out.1.kept B2).box
  obtain ⟨⟨o0, o1, o2, o3⟩, _, _⟩ := X1.out.2.kept B2
  clear hV2 O2 B2 X1 HV1
  go_wp2_with fail
  rw [← HV2.out]
  refine (specDoL c c' c'' X2.out.1.dk (⟨kd, nm, ds, dt⟩ : Dp) (by have := HO.out; show dt.size ≤ _; omega)).mono ?_
  rintro e w3 ⟨s1, t1, u1, s2, t2, u2, s3, t3, u3, rfl, _, B3⟩
  obtain ⟨V3, hV3, X3, Y3⟩ : ∃ V3, V3 = w3.alloc (.cells #[.slice s1 t1 u1, .slice s2 t2 u2, .slice s3 t3 u3] 27) ∧ Hid (DX w w1.heap.size q n c q' m c' q'' r c'' L1 L2 L3 V3 ∧ Cel4 V3 (w1.heap.size + 1) (.int .i64 kd) (.string nm) (.string ds) (.string dt)) ∧ Hid (Box3 V3 w2.heap.size (.slice p1 m1 k1) (.slice p2 m2 k2) (.slice p3 m3 k3) ∧ Own3 V3 V1.heap.size (.slice p1 m1 k1) (.slice p2 m2 k2) (.slice p3 m3 k3) (doLv L1 L2 L3 (⟨kd, nm, ds, dt⟩ : Dp)) (doSf L1 L2 L3 (⟨kd, nm, ds, dt⟩ : Dp)) (doOs L1 L2 L3 (⟨kd, nm, ds, dt⟩ : Dp))) := by
    have b3 : Below w3.heap.size w3 (w3.alloc (.cells #[.slice s1 t1 u1, .slice s2 t2 u2, .slice s3 t3 u3] 27)) := (Below.refl _ _).alloc (Nat.le_refl _) _
    have y := Y2.out.1.kept B3 Y2.out.1.2.2
    exact ⟨_, rfl, ⟨(X2.out.1.kept B3).kept b3, (X2.out.2.kept B3).kept b3⟩, y.kept b3 y.2.2, (Y2.out.2.kept B3).kept b3⟩
  have HV3 : Hid (V3 = _) := hV3
  obtain ⟨⟨e0, e1, e2⟩, _, _⟩ := (X2.out.1.kept B3).box
  clear hV3 B3 X2 HV2 Y2 d0 d1 d2 o0 o1 o2 o3
  have hkk : (doC L1 L2 L3 (⟨kd, nm, ds, dt⟩ : Dp) == doC L1 L2 L3 (⟨kd, nm, ds, dt⟩ : Dp)) = true := by simp
  cases hx : diskB L1 L2 L3 with
  | false =>
    have SD : Hid (∀ V, DX w w1.heap.size q n c q' m c' q'' r c'' L1 L2 L3 V → Calls Try.prog 15 #[.agg #[.slice q n c, .slice q' m c', .slice q'' r c'']] V fun e w' => e = .returned (.bool false) ∧ Below V.heap.size V w') := fun V hV => by have := specDiskL c c' c'' hV.dk; rwa [hx] at this
    clear hx Y3
    generalize doC L1 L2 L3 (⟨kd, nm, ds, dt⟩ : Dp) = kc at *
    go_wp2_with fail
    rw [← HV3.out]
    refine (SD.out _ X3.out.1).mono ?_
    rintro e w4 ⟨rfl, B4⟩
    have X4 : Hid (Below w.heap.size w w4) := (X3.out.1.kept B4).b
    clear B4 X3 HV3 e0 e1 e2
    go_wp2
    go_ret
    exact ⟨rfl, X4.out⟩
  | true =>
    have SD : Hid (∀ V, DX w w1.heap.size q n c q' m c' q'' r c'' L1 L2 L3 V → Calls Try.prog 15 #[.agg #[.slice q n c, .slice q' m c', .slice q'' r c'']] V fun e w' => e = .returned (.bool true) ∧ Below V.heap.size V w') := fun V hV => by have := specDiskL c c' c'' hV.dk; rwa [hx] at this
    by_cases hc : doC L1 L2 L3 (⟨kd, nm, ds, dt⟩ : Dp) = 0
    rotate_left
    · obtain ⟨f1, f2, f3⟩ := act_lists hx hc
      have YD : Hid (∀ V, DX w w1.heap.size q n c q' m c' q'' r c'' L1 L2 L3 V → Box3 V w2.heap.size (.slice p1 m1 k1) (.slice p2 m2 k2) (.slice p3 m3 k3) → Own3 V V1.heap.size (.slice p1 m1 k1) (.slice p2 m2 k2) (.slice p3 m3 k3) L1 L2 L3 → DX w w2.heap.size p1 m1 k1 p2 m2 k2 p3 m3 k3 L1 L2 L3 V) := fun V h1 h2 h3 => ⟨h2, own_dkL h3 hx (fun x hxx => by obtain ⟨F, G, Q, hd, e⟩ := h1.dk; rw [← e.2.2] at hxx; obtain ⟨i, hi, rfl⟩ := lst_mem.1 hxx; exact hd.so i hi), h1.b⟩
      rw [f1, f2, f3] at Y3
      have Z3 : Hid (DX w w1.heap.size q n c q' m c' q'' r c'' L1 L2 L3 V3 ∧ Cel4 V3 (w1.heap.size + 1) (.int .i64 kd) (.string nm) (.string ds) (.string dt) ∧ DX w w2.heap.size p1 m1 k1 p2 m2 k2 p3 m3 k3 L1 L2 L3 V3) := ⟨X3.out.1, X3.out.2, YD.out _ X3.out.1 Y3.out.1 Y3.out.2⟩
      have hm : r = m3 := by have h1 := X3.out.1.dk.lens.2.2.1; have h2 := Z3.out.2.2.dk.lens.2.2.1; omega
      subst hm
      have hc' : (doC L1 L2 L3 (⟨kd, nm, ds, dt⟩ : Dp) == 0) = false := by simp [hc]
      clear hx Y3 YD X3 hc f1 f2 f3
      generalize doC L1 L2 L3 (⟨kd, nm, ds, dt⟩ : Dp) = kc at *
      go_wp2_with fail
      rw [← HV3.out]
      refine (SD.out _ Z3.out.1).mono ?_
      rintro e w4 ⟨rfl, B4⟩
      have Z4 : Hid (DX w w1.heap.size q n c q' m c' q'' r c'' L1 L2 L3 w4 ∧ Cel4 w4 (w1.heap.size + 1) (.int .i64 kd) (.string nm) (.string ds) (.string dt) ∧ DX w w2.heap.size p1 m1 k1 p2 m2 k2 p3 r k3 L1 L2 L3 w4) := ⟨Z3.out.1.kept B4, Z3.out.2.1.kept B4, Z3.out.2.2.kept B4⟩
      clear B4 Z3 HV3 e0 e1 e2
      obtain ⟨⟨⟨d0, d1, d2⟩, _, _⟩, _, _⟩ := Z4.out.1
      obtain ⟨⟨o0, o1, o2, o3⟩, _, _⟩ := Z4.out.2.1
      obtain ⟨⟨⟨a0, a1, a2⟩, _, _⟩, _, _⟩ := Z4.out.2.2
      go_wp2_with fail
      refine (same_yes _ _ Z4.out.2.2.dk.files.1 Z4.out.1.dk.files.1).mono ?_
      rintro e w5 ⟨rfl, B5⟩
      have Z5 : Hid (DX w w1.heap.size q n c q' m c' q'' r c'' L1 L2 L3 w5 ∧ Cel4 w5 (w1.heap.size + 1) (.int .i64 kd) (.string nm) (.string ds) (.string dt) ∧ DX w w2.heap.size p1 m1 k1 p2 m2 k2 p3 r k3 L1 L2 L3 w5) := ⟨Z4.out.1.kept B5, Z4.out.2.1.kept B5, Z4.out.2.2.kept B5⟩
      clear B5 Z4
      clear d0 d1 d2 o0 o1 o2 o3 a0 a1 a2
      obtain ⟨⟨⟨d0, d1, d2⟩, _, _⟩, _, _⟩ := Z5.out.1
      obtain ⟨⟨o0, o1, o2, o3⟩, _, _⟩ := Z5.out.2.1
      obtain ⟨⟨⟨a0, a1, a2⟩, _, _⟩, _, _⟩ := Z5.out.2.2
      go_wp2_with fail
      refine (same_yes _ _ Z5.out.2.2.dk.files.2 Z5.out.1.dk.files.2).mono ?_
      rintro e w6 ⟨rfl, B6⟩
      have Z6 : Hid (DX w w1.heap.size q n c q' m c' q'' r c'' L1 L2 L3 w6 ∧ Cel4 w6 (w1.heap.size + 1) (.int .i64 kd) (.string nm) (.string ds) (.string dt) ∧ DX w w2.heap.size p1 m1 k1 p2 m2 k2 p3 r k3 L1 L2 L3 w6) := ⟨Z5.out.1.kept B6, Z5.out.2.1.kept B6, Z5.out.2.2.kept B6⟩
      clear B6 Z5
      clear d0 d1 d2 o0 o1 o2 o3 a0 a1 a2
      obtain ⟨⟨⟨d0, d1, d2⟩, _, _⟩, _, _⟩ := Z6.out.1
      obtain ⟨⟨o0, o1, o2, o3⟩, _, _⟩ := Z6.out.2.1
      obtain ⟨⟨⟨a0, a1, a2⟩, _, _⟩, _, _⟩ := Z6.out.2.2
      go_wp2
      go_ret
      exact ⟨rfl, Z6.out.1.b⟩
    have AXD : Hid (∀ V, DX w w1.heap.size q n c q' m c' q'' r c'' L1 L2 L3 V → Box3 V w2.heap.size (.slice p1 m1 k1) (.slice p2 m2 k2) (.slice p3 m3 k3) → Own3 V V1.heap.size (.slice p1 m1 k1) (.slice p2 m2 k2) (.slice p3 m3 k3) (doLv L1 L2 L3 (⟨kd, nm, ds, dt⟩ : Dp)) (doSf L1 L2 L3 (⟨kd, nm, ds, dt⟩ : Dp)) (doOs L1 L2 L3 (⟨kd, nm, ds, dt⟩ : Dp)) → DX w w2.heap.size p1 m1 k1 p2 m2 k2 p3 m3 k3 (doLv L1 L2 L3 (⟨kd, nm, ds, dt⟩ : Dp)) (doSf L1 L2 L3 (⟨kd, nm, ds, dt⟩ : Dp)) (doOs L1 L2 L3 (⟨kd, nm, ds, dt⟩ : Dp)) V) := fun V h1 h2 h3 => ⟨h2, own_dkL h3 (next_ok hc) (fun x hxx => by obtain ⟨F, G, Q, hd, e⟩ := h1.dk; exact so_next (Lv := L1) (Sf := L2) (fun z hz => by rw [← e.2.2] at hz; obtain ⟨i, hi, rfl⟩ := lst_mem.1 hz; exact hd.so i hi) (by have := HO.out; show dt.size ≤ _; omega) x hxx), h1.b⟩
    have Z3 : Hid (DX w w1.heap.size q n c q' m c' q'' r c'' L1 L2 L3 V3 ∧ Cel4 V3 (w1.heap.size + 1) (.int .i64 kd) (.string nm) (.string ds) (.string dt) ∧ DX w w2.heap.size p1 m1 k1 p2 m2 k2 p3 m3 k3 (doLv L1 L2 L3 (⟨kd, nm, ds, dt⟩ : Dp)) (doSf L1 L2 L3 (⟨kd, nm, ds, dt⟩ : Dp)) (doOs L1 L2 L3 (⟨kd, nm, ds, dt⟩ : Dp)) V3) := ⟨X3.out.1, X3.out.2, AXD.out _ X3.out.1 Y3.out.1 Y3.out.2⟩
    obtain ⟨f2, f3⟩ := act_zero hc
    have hm : m3 = r + 1 := by have h1 := X3.out.1.dk.lens.2.2.1; have h2 := Z3.out.2.2.dk.lens.2.2.1; rw [f3] at h2; simp at h2; omega
    subst hm
    have lr : r ≤ 1048576 := X3.out.1.dk.lens.2.2.2.1
    have hok := next_ok hc
    have RA : Hid (∀ V s, DX w w2.heap.size p1 m1 k1 p2 m2 k2 p3 (r + 1) k3 (doLv L1 L2 L3 (⟨kd, nm, ds, dt⟩ : Dp)) (doSf L1 L2 L3 (⟨kd, nm, ds, dt⟩ : Dp)) (doOs L1 L2 L3 (⟨kd, nm, ds, dt⟩ : Dp)) V → Calls Try.prog 22 #[.agg #[.slice p1 m1 k1, .slice p2 m2 k2, .slice p3 (r + 1) k3], .string s] V fun e w' => RdOut (rdF true (doLv L1 L2 L3 (⟨kd, nm, ds, dt⟩ : Dp)) s) e ∧ Below V.heap.size V w') := fun V s hV => by have := readL k1 k2 k3 hV.dk s; rwa [hok] at this
    have RD : Hid (∀ V s, DX w w1.heap.size q n c q' m c' q'' r c'' L1 L2 L3 V → Calls Try.prog 22 #[.agg #[.slice q n c, .slice q' m c', .slice q'' r c''], .string s] V fun e w' => RdOut (rdF true L1 s) e ∧ Below V.heap.size V w') := fun V s hV => by have := readL c c' c'' hV.dk s; rwa [hx] at this
    have IA : Hid (∀ V, DX w w2.heap.size p1 m1 k1 p2 m2 k2 p3 (r + 1) k3 (doLv L1 L2 L3 (⟨kd, nm, ds, dt⟩ : Dp)) (doSf L1 L2 L3 (⟨kd, nm, ds, dt⟩ : Dp)) (doOs L1 L2 L3 (⟨kd, nm, ds, dt⟩ : Dp)) V → Calls Try.prog 14 #[.agg #[.slice p1 m1 k1, .slice p2 m2 k2, .slice p3 (r + 1) k3]] V fun e w' => e = .returned (.bool true) ∧ Below V.heap.size V w') := fun V hV => by have := implDiskL k1 k2 k3 hV.dk; rwa [hok] at this
    have SS : Hid (∀ V, DX w w2.heap.size p1 m1 k1 p2 m2 k2 p3 (r + 1) k3 (doLv L1 L2 L3 (⟨kd, nm, ds, dt⟩ : Dp)) (doSf L1 L2 L3 (⟨kd, nm, ds, dt⟩ : Dp)) (doOs L1 L2 L3 (⟨kd, nm, ds, dt⟩ : Dp)) V → DX w w1.heap.size q n c q' m c' q'' r c'' L1 L2 L3 V → Calls Try.prog 18 #[.slice p2 m2 k2, .slice q' m c'] V fun e w' => e = .returned (.bool true) ∧ Below V.heap.size V w') := fun V h1 h2 => same_yes _ _ (by have := h1.dk.files.2; rwa [f2] at this) h2.dk.files.2
    have bd : byt L1 ≤ 1048576 := X3.out.1.dk.byts
    have MA : Hid (kd = 1 → rdF true (doLv L1 L2 L3 (⟨kd, nm, ds, dt⟩ : Dp)) nm = some (((rdF true L1 nm).getD ⟨#[]⟩) ++ dt)) := fun h => done_append hc h
    have MR : Hid (kd = 2 → ∃ d, rdF true L1 nm = some d ∧ rdF true (doLv L1 L2 L3 (⟨kd, nm, ds, dt⟩ : Dp)) ds = some d ∧ (ds ≠ nm → rdF true (doLv L1 L2 L3 (⟨kd, nm, ds, dt⟩ : Dp)) nm = none)) := fun h => done_rename hc h
    have MX : Hid (kd = 3 → rdF true (doLv L1 L2 L3 (⟨kd, nm, ds, dt⟩ : Dp)) nm = none) := fun h => done_remove hc h
    have MS : Hid (((rdF true L1 nm).getD ⟨#[]⟩).size ≤ 1048576) := rd_size_le bd nm
    have hkd := done_kinds hc
    simp only at hkd
    rw [hc] at hkk ⊢
    clear AXD X3 Y3 f2 f3 hok bd hx hc
    generalize doLv L1 L2 L3 (⟨kd, nm, ds, dt⟩ : Dp) = M1 at *
    generalize doSf L1 L2 L3 (⟨kd, nm, ds, dt⟩ : Dp) = M2 at *
    generalize doOs L1 L2 L3 (⟨kd, nm, ds, dt⟩ : Dp) = M3 at *
    go_wp2_with fail
    rw [← HV3.out]
    refine (SD.out _ Z3.out.1).mono ?_
    rintro e w4 ⟨rfl, B4⟩
    have Z4 : Hid (DX w w1.heap.size q n c q' m c' q'' r c'' L1 L2 L3 w4 ∧ Cel4 w4 (w1.heap.size + 1) (.int .i64 kd) (.string nm) (.string ds) (.string dt) ∧ DX w w2.heap.size p1 m1 k1 p2 m2 k2 p3 (r + 1) k3 M1 M2 M3 w4) := ⟨Z3.out.1.kept B4, Z3.out.2.1.kept B4, Z3.out.2.2.kept B4⟩
    clear B4 Z3 HV3 e0 e1 e2 SD
    obtain ⟨⟨⟨d0, d1, d2⟩, _, _⟩, _, _⟩ := Z4.out.1
    obtain ⟨⟨o0, o1, o2, o3⟩, _, _⟩ := Z4.out.2.1
    obtain ⟨⟨⟨a0, a1, a2⟩, _, _⟩, _, _⟩ := Z4.out.2.2
    go_wp2_with fail
    refine (RA.out _ _ Z4.out.2.2).mono ?_
    rintro e w5 ⟨h5, B5⟩
    unfold RdOut at h5
    subst h5
    have Z5 : Hid (DX w w1.heap.size q n c q' m c' q'' r c'' L1 L2 L3 w5 ∧ Cel4 w5 (w1.heap.size + 1) (.int .i64 kd) (.string nm) (.string ds) (.string dt) ∧ DX w w2.heap.size p1 m1 k1 p2 m2 k2 p3 (r + 1) k3 M1 M2 M3 w5) := ⟨Z4.out.1.kept B5, Z4.out.2.1.kept B5, Z4.out.2.2.kept B5⟩
    clear B5 Z4 d0 d1 d2 o0 o1 o2 o3 a0 a1 a2
    obtain ⟨⟨⟨d0, d1, d2⟩, _, _⟩, _, _⟩ := Z5.out.1
    obtain ⟨⟨o0, o1, o2, o3⟩, _, _⟩ := Z5.out.2.1
    obtain ⟨⟨⟨a0, a1, a2⟩, _, _⟩, _, _⟩ := Z5.out.2.2
    go_wp2_with fail
    refine (RD.out _ _ Z5.out.1).mono ?_
    rintro e w6 ⟨h6, B6⟩
    unfold RdOut at h6
    subst h6
    have Z6 : Hid (DX w w1.heap.size q n c q' m c' q'' r c'' L1 L2 L3 w6 ∧ Cel4 w6 (w1.heap.size + 1) (.int .i64 kd) (.string nm) (.string ds) (.string dt) ∧ DX w w2.heap.size p1 m1 k1 p2 m2 k2 p3 (r + 1) k3 M1 M2 M3 w6) := ⟨Z5.out.1.kept B6, Z5.out.2.1.kept B6, Z5.out.2.2.kept B6⟩
    clear B6 Z5 d0 d1 d2 o0 o1 o2 o3 a0 a1 a2 RD
    obtain ⟨⟨⟨d0, d1, d2⟩, _, _⟩, _, _⟩ := Z6.out.1
    obtain ⟨⟨o0, o1, o2, o3⟩, _, _⟩ := Z6.out.2.1
    obtain ⟨⟨⟨a0, a1, a2⟩, _, _⟩, _, _⟩ := Z6.out.2.2
    rcases hkd with rfl | rfl | rfl
    · have m1' := MA.out rfl
      rw [m1']
      simp only [Option.getD_some, Option.isSome_some]
      clear m1'
      have hadd := add_run ((rdF true L1 nm).getD ⟨#[]⟩) dt (by have := MS.out; omega) (by have := HO.out; omega)
      clear MA MR MX MS RA
      generalize (rdF true L1 nm).isSome = b0 at *
      generalize (rdF true L1 nm).getD ⟨#[]⟩ = old at *
      generalize old ++ dt = s at *
      have ey : (s.toList == s.toList) = true := by simp
      go_wp2_with fail
      refine (IA.out _ Z6.out.2.2).mono ?_
      rintro e w7 ⟨rfl, B7⟩
      have Z7 : Hid (DX w w1.heap.size q n c q' m c' q'' r c'' L1 L2 L3 w7 ∧ Cel4 w7 (w1.heap.size + 1) (.int .i64 1) (.string nm) (.string ds) (.string dt) ∧ DX w w2.heap.size p1 m1 k1 p2 m2 k2 p3 (r + 1) k3 M1 M2 M3 w7) := ⟨Z6.out.1.kept B7, Z6.out.2.1.kept B7, Z6.out.2.2.kept B7⟩
      clear B7 Z6
      clear d0 d1 d2 o0 o1 o2 o3 a0 a1 a2
      obtain ⟨⟨⟨d0, d1, d2⟩, _, _⟩, _, _⟩ := Z7.out.1
      obtain ⟨⟨o0, o1, o2, o3⟩, _, _⟩ := Z7.out.2.1
      obtain ⟨⟨⟨a0, a1, a2⟩, _, _⟩, _, _⟩ := Z7.out.2.2
      go_wp2_with fail
      refine (SS.out _ Z7.out.2.2 Z7.out.1).mono ?_
      rintro e w8 ⟨rfl, B8⟩
      have Z8 : Hid (DX w w1.heap.size q n c q' m c' q'' r c'' L1 L2 L3 w8 ∧ Cel4 w8 (w1.heap.size + 1) (.int .i64 1) (.string nm) (.string ds) (.string dt) ∧ DX w w2.heap.size p1 m1 k1 p2 m2 k2 p3 (r + 1) k3 M1 M2 M3 w8) := ⟨Z7.out.1.kept B8, Z7.out.2.1.kept B8, Z7.out.2.2.kept B8⟩
      clear B8 Z7
      clear d0 d1 d2 o0 o1 o2 o3 a0 a1 a2
      obtain ⟨⟨⟨d0, d1, d2⟩, _, _⟩, _, _⟩ := Z8.out.1
      obtain ⟨⟨o0, o1, o2, o3⟩, _, _⟩ := Z8.out.2.1
      obtain ⟨⟨⟨a0, a1, a2⟩, _, _⟩, _, _⟩ := Z8.out.2.2
      go_wp2
      go_ret
      exact ⟨rfl, Z8.out.1.b⟩
    · obtain ⟨x, g1, g2, g3⟩ := MR.out rfl
      rw [g1]
      simp only [Option.getD_some, Option.isSome_some]
      have RX : Hid (∀ V, DX w w2.heap.size p1 m1 k1 p2 m2 k2 p3 (r + 1) k3 M1 M2 M3 V → Calls Try.prog 22 #[.agg #[.slice p1 m1 k1, .slice p2 m2 k2, .slice p3 (r + 1) k3], .string ds] V fun e w' => e = .returned (.tuple #[.string x, .bool true]) ∧ Below V.heap.size V w') := fun V hV => by have := RA.out V ds hV; rw [g2] at this; exact this
      have ey : (x.toList == x.toList) = true := by simp
      by_cases hdn : ds = nm
      · have g5 : rdF true M1 nm = some x := by rw [← hdn]; exact g2
        rw [g5]
        simp only [Option.getD_some, Option.isSome_some]
        have ez : (ds.toList == nm.toList) = true := by rw [beq_name]; exact decide_eq_true hdn
        clear g5 hdn
        clear MA MR MX MS RA g1 g2 g3
        go_wp2_with fail
        refine (RX.out _ Z6.out.2.2).mono ?_
        rintro e w7 ⟨rfl, B7⟩
        have Z7 : Hid (DX w w1.heap.size q n c q' m c' q'' r c'' L1 L2 L3 w7 ∧ Cel4 w7 (w1.heap.size + 1) (.int .i64 2) (.string nm) (.string ds) (.string dt) ∧ DX w w2.heap.size p1 m1 k1 p2 m2 k2 p3 (r + 1) k3 M1 M2 M3 w7) := ⟨Z6.out.1.kept B7, Z6.out.2.1.kept B7, Z6.out.2.2.kept B7⟩
        clear B7 Z6
        clear d0 d1 d2 o0 o1 o2 o3 a0 a1 a2
        obtain ⟨⟨⟨d0, d1, d2⟩, _, _⟩, _, _⟩ := Z7.out.1
        obtain ⟨⟨o0, o1, o2, o3⟩, _, _⟩ := Z7.out.2.1
        obtain ⟨⟨⟨a0, a1, a2⟩, _, _⟩, _, _⟩ := Z7.out.2.2
        go_wp2_with fail
        refine (IA.out _ Z7.out.2.2).mono ?_
        rintro e w8 ⟨rfl, B8⟩
        have Z8 : Hid (DX w w1.heap.size q n c q' m c' q'' r c'' L1 L2 L3 w8 ∧ Cel4 w8 (w1.heap.size + 1) (.int .i64 2) (.string nm) (.string ds) (.string dt) ∧ DX w w2.heap.size p1 m1 k1 p2 m2 k2 p3 (r + 1) k3 M1 M2 M3 w8) := ⟨Z7.out.1.kept B8, Z7.out.2.1.kept B8, Z7.out.2.2.kept B8⟩
        clear B8 Z7
        clear d0 d1 d2 o0 o1 o2 o3 a0 a1 a2
        obtain ⟨⟨⟨d0, d1, d2⟩, _, _⟩, _, _⟩ := Z8.out.1
        obtain ⟨⟨o0, o1, o2, o3⟩, _, _⟩ := Z8.out.2.1
        obtain ⟨⟨⟨a0, a1, a2⟩, _, _⟩, _, _⟩ := Z8.out.2.2
        go_wp2_with fail
        refine (SS.out _ Z8.out.2.2 Z8.out.1).mono ?_
        rintro e w9 ⟨rfl, B9⟩
        have Z9 : Hid (DX w w1.heap.size q n c q' m c' q'' r c'' L1 L2 L3 w9 ∧ Cel4 w9 (w1.heap.size + 1) (.int .i64 2) (.string nm) (.string ds) (.string dt) ∧ DX w w2.heap.size p1 m1 k1 p2 m2 k2 p3 (r + 1) k3 M1 M2 M3 w9) := ⟨Z8.out.1.kept B9, Z8.out.2.1.kept B9, Z8.out.2.2.kept B9⟩
        clear B9 Z8
        clear d0 d1 d2 o0 o1 o2 o3 a0 a1 a2
        obtain ⟨⟨⟨d0, d1, d2⟩, _, _⟩, _, _⟩ := Z9.out.1
        obtain ⟨⟨o0, o1, o2, o3⟩, _, _⟩ := Z9.out.2.1
        obtain ⟨⟨⟨a0, a1, a2⟩, _, _⟩, _, _⟩ := Z9.out.2.2
        go_wp2
        go_ret
        exact ⟨rfl, Z9.out.1.b⟩
      · have g4 := g3 hdn
        rw [g4]
        simp only [Option.getD_none, Option.isSome_none]
        have ez : (ds.toList == nm.toList) = false := by rw [beq_name]; exact decide_eq_false hdn
        clear MA MR MX MS RA g1 g2 g3 g4 hdn
        go_wp2_with fail
        refine (RX.out _ Z6.out.2.2).mono ?_
        rintro e w7 ⟨rfl, B7⟩
        have Z7 : Hid (DX w w1.heap.size q n c q' m c' q'' r c'' L1 L2 L3 w7 ∧ Cel4 w7 (w1.heap.size + 1) (.int .i64 2) (.string nm) (.string ds) (.string dt) ∧ DX w w2.heap.size p1 m1 k1 p2 m2 k2 p3 (r + 1) k3 M1 M2 M3 w7) := ⟨Z6.out.1.kept B7, Z6.out.2.1.kept B7, Z6.out.2.2.kept B7⟩
        clear B7 Z6
        clear d0 d1 d2 o0 o1 o2 o3 a0 a1 a2
        obtain ⟨⟨⟨d0, d1, d2⟩, _, _⟩, _, _⟩ := Z7.out.1
        obtain ⟨⟨o0, o1, o2, o3⟩, _, _⟩ := Z7.out.2.1
        obtain ⟨⟨⟨a0, a1, a2⟩, _, _⟩, _, _⟩ := Z7.out.2.2
        go_wp2_with fail
        refine (IA.out _ Z7.out.2.2).mono ?_
        rintro e w8 ⟨rfl, B8⟩
        have Z8 : Hid (DX w w1.heap.size q n c q' m c' q'' r c'' L1 L2 L3 w8 ∧ Cel4 w8 (w1.heap.size + 1) (.int .i64 2) (.string nm) (.string ds) (.string dt) ∧ DX w w2.heap.size p1 m1 k1 p2 m2 k2 p3 (r + 1) k3 M1 M2 M3 w8) := ⟨Z7.out.1.kept B8, Z7.out.2.1.kept B8, Z7.out.2.2.kept B8⟩
        clear B8 Z7
        clear d0 d1 d2 o0 o1 o2 o3 a0 a1 a2
        obtain ⟨⟨⟨d0, d1, d2⟩, _, _⟩, _, _⟩ := Z8.out.1
        obtain ⟨⟨o0, o1, o2, o3⟩, _, _⟩ := Z8.out.2.1
        obtain ⟨⟨⟨a0, a1, a2⟩, _, _⟩, _, _⟩ := Z8.out.2.2
        go_wp2_with fail
        refine (SS.out _ Z8.out.2.2 Z8.out.1).mono ?_
        rintro e w9 ⟨rfl, B9⟩
        have Z9 : Hid (DX w w1.heap.size q n c q' m c' q'' r c'' L1 L2 L3 w9 ∧ Cel4 w9 (w1.heap.size + 1) (.int .i64 2) (.string nm) (.string ds) (.string dt) ∧ DX w w2.heap.size p1 m1 k1 p2 m2 k2 p3 (r + 1) k3 M1 M2 M3 w9) := ⟨Z8.out.1.kept B9, Z8.out.2.1.kept B9, Z8.out.2.2.kept B9⟩
        clear B9 Z8
        clear d0 d1 d2 o0 o1 o2 o3 a0 a1 a2
        obtain ⟨⟨⟨d0, d1, d2⟩, _, _⟩, _, _⟩ := Z9.out.1
        obtain ⟨⟨o0, o1, o2, o3⟩, _, _⟩ := Z9.out.2.1
        obtain ⟨⟨⟨a0, a1, a2⟩, _, _⟩, _, _⟩ := Z9.out.2.2
        go_wp2
        go_ret
        exact ⟨rfl, Z9.out.1.b⟩
    · have m1' := MX.out rfl
      rw [m1']
      simp only [Option.getD_none, Option.isSome_none]
      clear m1' MA MR MX MS RA
      generalize (rdF true L1 nm).isSome = b0 at *
      generalize (rdF true L1 nm).getD ⟨#[]⟩ = old at *
      go_wp2_with fail
      refine (IA.out _ Z6.out.2.2).mono ?_
      rintro e w7 ⟨rfl, B7⟩
      have Z7 : Hid (DX w w1.heap.size q n c q' m c' q'' r c'' L1 L2 L3 w7 ∧ Cel4 w7 (w1.heap.size + 1) (.int .i64 3) (.string nm) (.string ds) (.string dt) ∧ DX w w2.heap.size p1 m1 k1 p2 m2 k2 p3 (r + 1) k3 M1 M2 M3 w7) := ⟨Z6.out.1.kept B7, Z6.out.2.1.kept B7, Z6.out.2.2.kept B7⟩
      clear B7 Z6
      clear d0 d1 d2 o0 o1 o2 o3 a0 a1 a2
      obtain ⟨⟨⟨d0, d1, d2⟩, _, _⟩, _, _⟩ := Z7.out.1
      obtain ⟨⟨o0, o1, o2, o3⟩, _, _⟩ := Z7.out.2.1
      obtain ⟨⟨⟨a0, a1, a2⟩, _, _⟩, _, _⟩ := Z7.out.2.2
      go_wp2_with fail
      refine (SS.out _ Z7.out.2.2 Z7.out.1).mono ?_
      rintro e w8 ⟨rfl, B8⟩
      have Z8 : Hid (DX w w1.heap.size q n c q' m c' q'' r c'' L1 L2 L3 w8 ∧ Cel4 w8 (w1.heap.size + 1) (.int .i64 3) (.string nm) (.string ds) (.string dt) ∧ DX w w2.heap.size p1 m1 k1 p2 m2 k2 p3 (r + 1) k3 M1 M2 M3 w8) := ⟨Z7.out.1.kept B8, Z7.out.2.1.kept B8, Z7.out.2.2.kept B8⟩
      clear B8 Z7
      clear d0 d1 d2 o0 o1 o2 o3 a0 a1 a2
      obtain ⟨⟨⟨d0, d1, d2⟩, _, _⟩, _, _⟩ := Z8.out.1
      obtain ⟨⟨o0, o1, o2, o3⟩, _, _⟩ := Z8.out.2.1
      obtain ⟨⟨⟨a0, a1, a2⟩, _, _⟩, _, _⟩ := Z8.out.2.2
      go_wp2
      go_ret
      exact ⟨rfl, Z8.out.1.b⟩
end Go.Proofs.Ytcalgmhpagpnnaa
