/- Replace of the specification. Conditions: the disk's lists lie in memory; the name's and the data's bytes are at most 1048576. -/
import Derived.Test.YtcalgmhpagpnnaaRp
namespace Go.Proofs.Ytcalgmhpagpnnaa
open Go.RowKit
set_option maxRecDepth 8000

set_option maxHeartbeats 8000000 in
theorem specRepl_some (q q' q'' : Option Addr) (n m r c c' c'' : Nat) (L1 L2 : List Fl) (L3 : List Dp) (nm dt : ByteArray) (w : World) (h : DkL w q n q' m q'' r L1 L2 L3) (hx : diskB L1 L2 L3 = true) (hso : ∀ x ∈ L3, x.data.size ≤ 1048576) (hnm : nm.size ≤ 1048576) (hdt : dt.size ≤ 1048576) :
    Calls Try.prog 25 #[.agg #[.slice q n c, .slice q' m c', .slice q'' r c''], .string nm, .string dt] w fun e w' => ∃ v, e = .returned (.tuple #[v, .int .i64 (repC (L1, L2, L3) nm dt)]) ∧ DkAns w (repT (L1, L2, L3) nm dt).1 (repT (L1, L2, L3) nm dt).2.1 (repT (L1, L2, L3) nm dt).2.2 v w' := by
  have H : Hid (DkL w q n q' m q'' r L1 L2 L3) := h
  have HX : Hid (diskB L1 L2 L3 = true) := hx
  have SO : Hid (∀ x ∈ L3, x.data.size ≤ 1048576) := hso
  have HDT : Hid (dt.size ≤ 1048576) := hdt
  have DW : Hid (∀ V, Below w.heap.size w V → DkL V q n q' m q'' r L1 L2 L3) := fun V hV => h.below hV
  clear h hx hso hdt
  obtain ⟨W0, hW0, X⟩ : ∃ W0, W0 = (w.alloc (.cells #[.slice q n c, .slice q' m c', .slice q'' r c''] 27)).alloc (.cells #[.slice none 0 0, .slice none 0 0, .slice none 0 0] 27) ∧ RBx w W0 (.slice q n c) (.slice q' m c') (.slice q'' r c'') := ⟨_, rfl, RBx.new w _ _ _⟩
  have HW0 : Hid (W0 = _) := hW0
  have X0 : Hid (RBx w W0 (.slice q n c) (.slice q' m c') (.slice q'' r c'')) := X
  clear hW0 X
  go_enter Try.func25, Try.ntmps25
  go_wp2_with fail
  rw [← HW0.out]
  refine (diskL15 _ _ _ (DW.out _ X0.out.b)).mono ?_
  rintro e w1 ⟨rfl, D1⟩
  rw [HX.out]
  obtain ⟨V1, hV1, XR, XP, hP⟩ : ∃ V1, V1 = w1.alloc (.cells #[.slice q n c, .slice q' m c', .slice q'' r c''] 27) ∧ RBx w V1 (.slice q n c) (.slice q' m c') (.slice q'' r c'') ∧ Box3 V1 w1.heap.size (.slice q n c) (.slice q' m c') (.slice q'' r c'') ∧ w.heap.size + 1 < w1.heap.size := ⟨_, rfl, (X0.out.kept D1).kept ((Below.refl _ _).alloc (Nat.le_refl _) _), Box3.new w1 _ _ _ 27, (X0.out.kept D1).z.2.2⟩
  have HV1 : Hid (V1 = _) := hV1
  obtain ⟨⟨⟨s0, s1, s2⟩, _, _⟩, _, _⟩ := X0.out.kept D1
  obtain ⟨P, hPP⟩ : ∃ P, P = w1.heap.size := ⟨_, rfl⟩
  have HPP : Hid (P = w1.heap.size) := hPP
  rw [← hPP] at XP hP
  have XR : Hid (RBx w V1 (.slice q n c) (.slice q' m c') (.slice q'' r c'')) := XR
  have XP : Hid (Box3 V1 P (.slice q n c) (.slice q' m c') (.slice q'' r c'')) := XP
  clear D1 X0 HW0 hV1 hPP
  go_wp2_with fail
  rw [← HV1.out, ← HPP.out]
  clear HV1 HPP s0 s1 s2
  have DX : Hid (DkL V1 q n q' m q'' r L1 L2 L3) := DW.out _ XR.out.b
  refine (atL _ DX.out _).mono ?_
  rintro e w2 ⟨⟨x, rfl, hA⟩, rfl⟩
  obtain ⟨⟨p0, p1, p2⟩, pf, pl⟩ := XP.out
  rcases hA with ⟨hx0, hg⟩ | ⟨hx0, hg⟩
  · have HG : Hid ((getN Fl.name (tmpN nm) L1).isSome = true) := hg
    have hxb : decide (0 ≤ x) = true := decide_eq_true hx0
    clear hg hx0
    go_wp2_with fail
    refine (actL _ _ _ DX.out HX.out (⟨3, tmpN nm, ⟨#[]⟩, ⟨#[]⟩⟩ : Dp) (by show (0 : Nat) ≤ _; omega)).mono ?_
    rintro e u0 ⟨a1, an1, ac1, a2, an2, ac2, a3, an3, ac3, rfl, O0, D0⟩
    obtain ⟨XR0, XP0, XO0⟩ := afterAct XR.out XP.out hP D0 O0
    obtain ⟨⟨p0, p1, p2⟩, pf, pl⟩ := XP.out.kept D0 XP.out.2.2
    obtain ⟨⟨⟨s0, s1, s2⟩, _, _⟩, _, _⟩ := XR.out.kept D0
    have XRn : Hid (RBx w (((u0.setCell ⟨P, 0, none⟩ (.slice a1 an1 ac1)).setCell ⟨P, 1, none⟩ (.slice a2 an2 ac2)).setCell ⟨P, 2, none⟩ (.slice a3 an3 ac3)) (.slice q n c) (.slice q' m c') (.slice q'' r c'')) := XR0
    have XPn : Hid (Box3 (((u0.setCell ⟨P, 0, none⟩ (.slice a1 an1 ac1)).setCell ⟨P, 1, none⟩ (.slice a2 an2 ac2)).setCell ⟨P, 2, none⟩ (.slice a3 an3 ac3)) P (.slice a1 an1 ac1) (.slice a2 an2 ac2) (.slice a3 an3 ac3)) := XP0
    by_cases hk0 : doC L1 L2 L3 (⟨3, tmpN nm, ⟨#[]⟩, ⟨#[]⟩⟩ : Dp) = 0
    rotate_left
    · have EC : Hid (repC (L1, L2, L3) nm dt = doC L1 L2 L3 (⟨3, tmpN nm, ⟨#[]⟩, ⟨#[]⟩⟩ : Dp)) := (by simp [repC, rOps, HG.out, rep, cod, hk0] : repC (L1, L2, L3) nm dt = doC L1 L2 L3 (⟨3, tmpN nm, ⟨#[]⟩, ⟨#[]⟩⟩ : Dp))
      have hne := doC_ne1 (⟨3, tmpN nm, ⟨#[]⟩, ⟨#[]⟩⟩ : Dp) HX.out
      have ET : Hid (repT (L1, L2, L3) nm dt = (L1, L2, L3)) := (by rw [repT, EC.out, if_neg hk0, if_neg hne] : repT (L1, L2, L3) nm dt = (L1, L2, L3))
      clear hne O0 XO0 XR0 XP0 XR XP
      generalize doC L1 L2 L3 (⟨3, tmpN nm, ⟨#[]⟩, ⟨#[]⟩⟩ : Dp) = k at *
      have hkb : (k == 0) = false := by simpa using hk0
      have XR := XRn
      have DK : Hid (DkL (((u0.setCell ⟨P, 0, none⟩ (.slice a1 an1 ac1)).setCell ⟨P, 1, none⟩ (.slice a2 an2 ac2)).setCell ⟨P, 2, none⟩ (.slice a3 an3 ac3)) q n q' m q'' r L1 L2 L3) := DW.out _ XR.out.b
      clear D0
      go_wp2_with fail
      refine (copyL63 _ _ _ DK.out).mono ?_
      rintro e z9 ⟨z1, zn1, zc1, z2, zn2, zc2, z3, zn3, zc3, rfl, O9, D9⟩
      have X9 : Hid (RBx w z9 (.slice q n c) (.slice q' m c') (.slice q'' r c'')) := XR.out.kept D9
      have O9 : Hid (Own3 z9 (w.heap.size + 1 + 1) (.slice z1 zn1 zc1) (.slice z2 zn2 zc2) (.slice z3 zn3 zc3) L1 L2 L3) := O9.mono XR.out.z.2.2
      clear D9
      obtain ⟨_, ⟨⟨y0, y1, y2⟩, yf, yl⟩, _⟩ := X9.out
      go_wp2
      exact bodyPost_ret (v := .tuple #[.agg #[.slice z1 zn1 zc1, .slice z2 zn2 zc2, .slice z3 zn3 zc3], .int .i64 k]) (by simp [results, Try.results25, go_sem, y0, y1, y2]) rfl ⟨_, by rw [EC.out], by rw [ET.out]; exact ansAt O9.out (by omega) (by omega) X9.out.b⟩
    rw [hk0]
    have HK0 : Hid (doC L1 L2 L3 (⟨3, tmpN nm, ⟨#[]⟩, ⟨#[]⟩⟩ : Dp) = 0) := hk0
    have nx0 : Hid (diskB (doLv L1 L2 L3 (⟨3, tmpN nm, ⟨#[]⟩, ⟨#[]⟩⟩ : Dp)) (doSf L1 L2 L3 (⟨3, tmpN nm, ⟨#[]⟩, ⟨#[]⟩⟩ : Dp)) (doOs L1 L2 L3 (⟨3, tmpN nm, ⟨#[]⟩, ⟨#[]⟩⟩ : Dp)) = true) := next_ok hk0
    have so0 : Hid (∀ x ∈ doOs L1 L2 L3 (⟨3, tmpN nm, ⟨#[]⟩, ⟨#[]⟩⟩ : Dp), x.data.size ≤ 1048576) := so_next SO.out (by show (0 : Nat) ≤ _; omega)
    have DX0 : Hid (DkL (((u0.setCell ⟨P, 0, none⟩ (.slice a1 an1 ac1)).setCell ⟨P, 1, none⟩ (.slice a2 an2 ac2)).setCell ⟨P, 2, none⟩ (.slice a3 an3 ac3)) a1 an1 a2 an2 a3 an3 (doLv L1 L2 L3 (⟨3, tmpN nm, ⟨#[]⟩, ⟨#[]⟩⟩ : Dp)) (doSf L1 L2 L3 (⟨3, tmpN nm, ⟨#[]⟩, ⟨#[]⟩⟩ : Dp)) (doOs L1 L2 L3 (⟨3, tmpN nm, ⟨#[]⟩, ⟨#[]⟩⟩ : Dp))) := own_dkL XO0 nx0.out so0.out
    clear hk0 O0 XO0 XR0 XP0 XR XP D0
    have XR := XRn
    have XP := XPn
    clear XRn XPn
    have hs0 : (((u0.setCell ⟨P, 0, none⟩ (.slice a1 an1 ac1)).setCell ⟨P, 1, none⟩ (.slice a2 an2 ac2)).setCell ⟨P, 2, none⟩ (.slice a3 an3 ac3)).heap.size = u0.heap.size := by simp [World.setCell]
    go_wp2_with fail
    refine (actL _ _ _ DX0.out nx0.out (⟨1, tmpN nm, ⟨#[]⟩, dt⟩ : Dp) HDT.out).mono ?_
    rintro e u1 ⟨b1, bn1, bc1, b2, bn2, bc2, b3, bn3, bc3, rfl, O1, D1⟩
    obtain ⟨XR1, XP1, XO1⟩ := afterAct XR.out XP.out hP D1 O1
    obtain ⟨⟨p0, p1, p2⟩, pf, pl⟩ := XP.out.kept D1 XP.out.2.2
    obtain ⟨⟨⟨s0, s1, s2⟩, _, _⟩, _, _⟩ := XR.out.kept D1
    have XRn : Hid (RBx w (((u1.setCell ⟨P, 0, none⟩ (.slice b1 bn1 bc1)).setCell ⟨P, 1, none⟩ (.slice b2 bn2 bc2)).setCell ⟨P, 2, none⟩ (.slice b3 bn3 bc3)) (.slice q n c) (.slice q' m c') (.slice q'' r c'')) := XR1
    have XPn : Hid (Box3 (((u1.setCell ⟨P, 0, none⟩ (.slice b1 bn1 bc1)).setCell ⟨P, 1, none⟩ (.slice b2 bn2 bc2)).setCell ⟨P, 2, none⟩ (.slice b3 bn3 bc3)) P (.slice b1 bn1 bc1) (.slice b2 bn2 bc2) (.slice b3 bn3 bc3)) := XP1
    by_cases hk1 : doC (doLv L1 L2 L3 (⟨3, tmpN nm, ⟨#[]⟩, ⟨#[]⟩⟩ : Dp)) (doSf L1 L2 L3 (⟨3, tmpN nm, ⟨#[]⟩, ⟨#[]⟩⟩ : Dp)) (doOs L1 L2 L3 (⟨3, tmpN nm, ⟨#[]⟩, ⟨#[]⟩⟩ : Dp)) (⟨1, tmpN nm, ⟨#[]⟩, dt⟩ : Dp) = 0
    rotate_left
    · have EC : Hid (repC (L1, L2, L3) nm dt = doC (doLv L1 L2 L3 (⟨3, tmpN nm, ⟨#[]⟩, ⟨#[]⟩⟩ : Dp)) (doSf L1 L2 L3 (⟨3, tmpN nm, ⟨#[]⟩, ⟨#[]⟩⟩ : Dp)) (doOs L1 L2 L3 (⟨3, tmpN nm, ⟨#[]⟩, ⟨#[]⟩⟩ : Dp)) (⟨1, tmpN nm, ⟨#[]⟩, dt⟩ : Dp)) := (by simp [repC, rOps, HG.out, rep, cod, nxt, HK0.out, hk1] : repC (L1, L2, L3) nm dt = doC (doLv L1 L2 L3 (⟨3, tmpN nm, ⟨#[]⟩, ⟨#[]⟩⟩ : Dp)) (doSf L1 L2 L3 (⟨3, tmpN nm, ⟨#[]⟩, ⟨#[]⟩⟩ : Dp)) (doOs L1 L2 L3 (⟨3, tmpN nm, ⟨#[]⟩, ⟨#[]⟩⟩ : Dp)) (⟨1, tmpN nm, ⟨#[]⟩, dt⟩ : Dp))
      have hne := doC_ne1 (⟨1, tmpN nm, ⟨#[]⟩, dt⟩ : Dp) nx0.out
      have ET : Hid (repT (L1, L2, L3) nm dt = (L1, L2, L3)) := (by rw [repT, EC.out, if_neg hk1, if_neg hne] : repT (L1, L2, L3) nm dt = (L1, L2, L3))
      clear hne O1 XO1 XR1 XP1 XR XP
      generalize doC (doLv L1 L2 L3 (⟨3, tmpN nm, ⟨#[]⟩, ⟨#[]⟩⟩ : Dp)) (doSf L1 L2 L3 (⟨3, tmpN nm, ⟨#[]⟩, ⟨#[]⟩⟩ : Dp)) (doOs L1 L2 L3 (⟨3, tmpN nm, ⟨#[]⟩, ⟨#[]⟩⟩ : Dp)) (⟨1, tmpN nm, ⟨#[]⟩, dt⟩ : Dp) = k at *
      have hkb : (k == 0) = false := by simpa using hk1
      have XR := XRn
      have DK : Hid (DkL (((u1.setCell ⟨P, 0, none⟩ (.slice b1 bn1 bc1)).setCell ⟨P, 1, none⟩ (.slice b2 bn2 bc2)).setCell ⟨P, 2, none⟩ (.slice b3 bn3 bc3)) q n q' m q'' r L1 L2 L3) := DW.out _ XR.out.b
      clear D1
      go_wp2_with fail
      refine (copyL63 _ _ _ DK.out).mono ?_
      rintro e z9 ⟨z1, zn1, zc1, z2, zn2, zc2, z3, zn3, zc3, rfl, O9, D9⟩
      have X9 : Hid (RBx w z9 (.slice q n c) (.slice q' m c') (.slice q'' r c'')) := XR.out.kept D9
      have O9 : Hid (Own3 z9 (w.heap.size + 1 + 1) (.slice z1 zn1 zc1) (.slice z2 zn2 zc2) (.slice z3 zn3 zc3) L1 L2 L3) := O9.mono XR.out.z.2.2
      clear D9
      obtain ⟨_, ⟨⟨y0, y1, y2⟩, yf, yl⟩, _⟩ := X9.out
      go_wp2
      exact bodyPost_ret (v := .tuple #[.agg #[.slice z1 zn1 zc1, .slice z2 zn2 zc2, .slice z3 zn3 zc3], .int .i64 k]) (by simp [results, Try.results25, go_sem, y0, y1, y2]) rfl ⟨_, by rw [EC.out], by rw [ET.out]; exact ansAt O9.out (by omega) (by omega) X9.out.b⟩
    rw [hk1]
    have HK1 : Hid (doC (doLv L1 L2 L3 (⟨3, tmpN nm, ⟨#[]⟩, ⟨#[]⟩⟩ : Dp)) (doSf L1 L2 L3 (⟨3, tmpN nm, ⟨#[]⟩, ⟨#[]⟩⟩ : Dp)) (doOs L1 L2 L3 (⟨3, tmpN nm, ⟨#[]⟩, ⟨#[]⟩⟩ : Dp)) (⟨1, tmpN nm, ⟨#[]⟩, dt⟩ : Dp) = 0) := hk1
    have nx1 : Hid (diskB (doLv (doLv L1 L2 L3 (⟨3, tmpN nm, ⟨#[]⟩, ⟨#[]⟩⟩ : Dp)) (doSf L1 L2 L3 (⟨3, tmpN nm, ⟨#[]⟩, ⟨#[]⟩⟩ : Dp)) (doOs L1 L2 L3 (⟨3, tmpN nm, ⟨#[]⟩, ⟨#[]⟩⟩ : Dp)) (⟨1, tmpN nm, ⟨#[]⟩, dt⟩ : Dp)) (doSf (doLv L1 L2 L3 (⟨3, tmpN nm, ⟨#[]⟩, ⟨#[]⟩⟩ : Dp)) (doSf L1 L2 L3 (⟨3, tmpN nm, ⟨#[]⟩, ⟨#[]⟩⟩ : Dp)) (doOs L1 L2 L3 (⟨3, tmpN nm, ⟨#[]⟩, ⟨#[]⟩⟩ : Dp)) (⟨1, tmpN nm, ⟨#[]⟩, dt⟩ : Dp)) (doOs (doLv L1 L2 L3 (⟨3, tmpN nm, ⟨#[]⟩, ⟨#[]⟩⟩ : Dp)) (doSf L1 L2 L3 (⟨3, tmpN nm, ⟨#[]⟩, ⟨#[]⟩⟩ : Dp)) (doOs L1 L2 L3 (⟨3, tmpN nm, ⟨#[]⟩, ⟨#[]⟩⟩ : Dp)) (⟨1, tmpN nm, ⟨#[]⟩, dt⟩ : Dp)) = true) := next_ok hk1
    have so1 : Hid (∀ x ∈ doOs (doLv L1 L2 L3 (⟨3, tmpN nm, ⟨#[]⟩, ⟨#[]⟩⟩ : Dp)) (doSf L1 L2 L3 (⟨3, tmpN nm, ⟨#[]⟩, ⟨#[]⟩⟩ : Dp)) (doOs L1 L2 L3 (⟨3, tmpN nm, ⟨#[]⟩, ⟨#[]⟩⟩ : Dp)) (⟨1, tmpN nm, ⟨#[]⟩, dt⟩ : Dp), x.data.size ≤ 1048576) := so_next so0.out HDT.out
    have DX1 : Hid (DkL (((u1.setCell ⟨P, 0, none⟩ (.slice b1 bn1 bc1)).setCell ⟨P, 1, none⟩ (.slice b2 bn2 bc2)).setCell ⟨P, 2, none⟩ (.slice b3 bn3 bc3)) b1 bn1 b2 bn2 b3 bn3 (doLv (doLv L1 L2 L3 (⟨3, tmpN nm, ⟨#[]⟩, ⟨#[]⟩⟩ : Dp)) (doSf L1 L2 L3 (⟨3, tmpN nm, ⟨#[]⟩, ⟨#[]⟩⟩ : Dp)) (doOs L1 L2 L3 (⟨3, tmpN nm, ⟨#[]⟩, ⟨#[]⟩⟩ : Dp)) (⟨1, tmpN nm, ⟨#[]⟩, dt⟩ : Dp)) (doSf (doLv L1 L2 L3 (⟨3, tmpN nm, ⟨#[]⟩, ⟨#[]⟩⟩ : Dp)) (doSf L1 L2 L3 (⟨3, tmpN nm, ⟨#[]⟩, ⟨#[]⟩⟩ : Dp)) (doOs L1 L2 L3 (⟨3, tmpN nm, ⟨#[]⟩, ⟨#[]⟩⟩ : Dp)) (⟨1, tmpN nm, ⟨#[]⟩, dt⟩ : Dp)) (doOs (doLv L1 L2 L3 (⟨3, tmpN nm, ⟨#[]⟩, ⟨#[]⟩⟩ : Dp)) (doSf L1 L2 L3 (⟨3, tmpN nm, ⟨#[]⟩, ⟨#[]⟩⟩ : Dp)) (doOs L1 L2 L3 (⟨3, tmpN nm, ⟨#[]⟩, ⟨#[]⟩⟩ : Dp)) (⟨1, tmpN nm, ⟨#[]⟩, dt⟩ : Dp))) := own_dkL XO1 nx1.out so1.out
    clear hk1 O1 XO1 XR1 XP1 XR XP D1
    have XR := XRn
    have XP := XPn
    clear XRn XPn
    have hs1 : (((u1.setCell ⟨P, 0, none⟩ (.slice b1 bn1 bc1)).setCell ⟨P, 1, none⟩ (.slice b2 bn2 bc2)).setCell ⟨P, 2, none⟩ (.slice b3 bn3 bc3)).heap.size = u1.heap.size := by simp [World.setCell]
    go_wp2_with fail
    refine (actL _ _ _ DX1.out nx1.out (⟨2, tmpN nm, nm, ⟨#[]⟩⟩ : Dp) (by show (0 : Nat) ≤ _; omega)).mono ?_
    rintro e u2 ⟨g1, gn1, gc1, g2, gn2, gc2, g3, gn3, gc3, rfl, O2, D2⟩
    obtain ⟨XR2, XP2, XO2⟩ := afterAct XR.out XP.out hP D2 O2
    obtain ⟨⟨p0, p1, p2⟩, pf, pl⟩ := XP.out.kept D2 XP.out.2.2
    obtain ⟨⟨⟨s0, s1, s2⟩, _, _⟩, _, _⟩ := XR.out.kept D2
    have XRn : Hid (RBx w (((u2.setCell ⟨P, 0, none⟩ (.slice g1 gn1 gc1)).setCell ⟨P, 1, none⟩ (.slice g2 gn2 gc2)).setCell ⟨P, 2, none⟩ (.slice g3 gn3 gc3)) (.slice q n c) (.slice q' m c') (.slice q'' r c'')) := XR2
    have XPn : Hid (Box3 (((u2.setCell ⟨P, 0, none⟩ (.slice g1 gn1 gc1)).setCell ⟨P, 1, none⟩ (.slice g2 gn2 gc2)).setCell ⟨P, 2, none⟩ (.slice g3 gn3 gc3)) P (.slice g1 gn1 gc1) (.slice g2 gn2 gc2) (.slice g3 gn3 gc3)) := XP2
    by_cases hk2 : doC (doLv (doLv L1 L2 L3 (⟨3, tmpN nm, ⟨#[]⟩, ⟨#[]⟩⟩ : Dp)) (doSf L1 L2 L3 (⟨3, tmpN nm, ⟨#[]⟩, ⟨#[]⟩⟩ : Dp)) (doOs L1 L2 L3 (⟨3, tmpN nm, ⟨#[]⟩, ⟨#[]⟩⟩ : Dp)) (⟨1, tmpN nm, ⟨#[]⟩, dt⟩ : Dp)) (doSf (doLv L1 L2 L3 (⟨3, tmpN nm, ⟨#[]⟩, ⟨#[]⟩⟩ : Dp)) (doSf L1 L2 L3 (⟨3, tmpN nm, ⟨#[]⟩, ⟨#[]⟩⟩ : Dp)) (doOs L1 L2 L3 (⟨3, tmpN nm, ⟨#[]⟩, ⟨#[]⟩⟩ : Dp)) (⟨1, tmpN nm, ⟨#[]⟩, dt⟩ : Dp)) (doOs (doLv L1 L2 L3 (⟨3, tmpN nm, ⟨#[]⟩, ⟨#[]⟩⟩ : Dp)) (doSf L1 L2 L3 (⟨3, tmpN nm, ⟨#[]⟩, ⟨#[]⟩⟩ : Dp)) (doOs L1 L2 L3 (⟨3, tmpN nm, ⟨#[]⟩, ⟨#[]⟩⟩ : Dp)) (⟨1, tmpN nm, ⟨#[]⟩, dt⟩ : Dp)) (⟨2, tmpN nm, nm, ⟨#[]⟩⟩ : Dp) = 0
    rotate_left
    · have EC : Hid (repC (L1, L2, L3) nm dt = doC (doLv (doLv L1 L2 L3 (⟨3, tmpN nm, ⟨#[]⟩, ⟨#[]⟩⟩ : Dp)) (doSf L1 L2 L3 (⟨3, tmpN nm, ⟨#[]⟩, ⟨#[]⟩⟩ : Dp)) (doOs L1 L2 L3 (⟨3, tmpN nm, ⟨#[]⟩, ⟨#[]⟩⟩ : Dp)) (⟨1, tmpN nm, ⟨#[]⟩, dt⟩ : Dp)) (doSf (doLv L1 L2 L3 (⟨3, tmpN nm, ⟨#[]⟩, ⟨#[]⟩⟩ : Dp)) (doSf L1 L2 L3 (⟨3, tmpN nm, ⟨#[]⟩, ⟨#[]⟩⟩ : Dp)) (doOs L1 L2 L3 (⟨3, tmpN nm, ⟨#[]⟩, ⟨#[]⟩⟩ : Dp)) (⟨1, tmpN nm, ⟨#[]⟩, dt⟩ : Dp)) (doOs (doLv L1 L2 L3 (⟨3, tmpN nm, ⟨#[]⟩, ⟨#[]⟩⟩ : Dp)) (doSf L1 L2 L3 (⟨3, tmpN nm, ⟨#[]⟩, ⟨#[]⟩⟩ : Dp)) (doOs L1 L2 L3 (⟨3, tmpN nm, ⟨#[]⟩, ⟨#[]⟩⟩ : Dp)) (⟨1, tmpN nm, ⟨#[]⟩, dt⟩ : Dp)) (⟨2, tmpN nm, nm, ⟨#[]⟩⟩ : Dp)) := (by simp [repC, rOps, HG.out, rep, cod, nxt, HK0.out, HK1.out, hk2] : repC (L1, L2, L3) nm dt = doC (doLv (doLv L1 L2 L3 (⟨3, tmpN nm, ⟨#[]⟩, ⟨#[]⟩⟩ : Dp)) (doSf L1 L2 L3 (⟨3, tmpN nm, ⟨#[]⟩, ⟨#[]⟩⟩ : Dp)) (doOs L1 L2 L3 (⟨3, tmpN nm, ⟨#[]⟩, ⟨#[]⟩⟩ : Dp)) (⟨1, tmpN nm, ⟨#[]⟩, dt⟩ : Dp)) (doSf (doLv L1 L2 L3 (⟨3, tmpN nm, ⟨#[]⟩, ⟨#[]⟩⟩ : Dp)) (doSf L1 L2 L3 (⟨3, tmpN nm, ⟨#[]⟩, ⟨#[]⟩⟩ : Dp)) (doOs L1 L2 L3 (⟨3, tmpN nm, ⟨#[]⟩, ⟨#[]⟩⟩ : Dp)) (⟨1, tmpN nm, ⟨#[]⟩, dt⟩ : Dp)) (doOs (doLv L1 L2 L3 (⟨3, tmpN nm, ⟨#[]⟩, ⟨#[]⟩⟩ : Dp)) (doSf L1 L2 L3 (⟨3, tmpN nm, ⟨#[]⟩, ⟨#[]⟩⟩ : Dp)) (doOs L1 L2 L3 (⟨3, tmpN nm, ⟨#[]⟩, ⟨#[]⟩⟩ : Dp)) (⟨1, tmpN nm, ⟨#[]⟩, dt⟩ : Dp)) (⟨2, tmpN nm, nm, ⟨#[]⟩⟩ : Dp))
      have hne := doC_ne1 (⟨2, tmpN nm, nm, ⟨#[]⟩⟩ : Dp) nx1.out
      have ET : Hid (repT (L1, L2, L3) nm dt = (L1, L2, L3)) := (by rw [repT, EC.out, if_neg hk2, if_neg hne] : repT (L1, L2, L3) nm dt = (L1, L2, L3))
      clear hne O2 XO2 XR2 XP2 XR XP
      generalize doC (doLv (doLv L1 L2 L3 (⟨3, tmpN nm, ⟨#[]⟩, ⟨#[]⟩⟩ : Dp)) (doSf L1 L2 L3 (⟨3, tmpN nm, ⟨#[]⟩, ⟨#[]⟩⟩ : Dp)) (doOs L1 L2 L3 (⟨3, tmpN nm, ⟨#[]⟩, ⟨#[]⟩⟩ : Dp)) (⟨1, tmpN nm, ⟨#[]⟩, dt⟩ : Dp)) (doSf (doLv L1 L2 L3 (⟨3, tmpN nm, ⟨#[]⟩, ⟨#[]⟩⟩ : Dp)) (doSf L1 L2 L3 (⟨3, tmpN nm, ⟨#[]⟩, ⟨#[]⟩⟩ : Dp)) (doOs L1 L2 L3 (⟨3, tmpN nm, ⟨#[]⟩, ⟨#[]⟩⟩ : Dp)) (⟨1, tmpN nm, ⟨#[]⟩, dt⟩ : Dp)) (doOs (doLv L1 L2 L3 (⟨3, tmpN nm, ⟨#[]⟩, ⟨#[]⟩⟩ : Dp)) (doSf L1 L2 L3 (⟨3, tmpN nm, ⟨#[]⟩, ⟨#[]⟩⟩ : Dp)) (doOs L1 L2 L3 (⟨3, tmpN nm, ⟨#[]⟩, ⟨#[]⟩⟩ : Dp)) (⟨1, tmpN nm, ⟨#[]⟩, dt⟩ : Dp)) (⟨2, tmpN nm, nm, ⟨#[]⟩⟩ : Dp) = k at *
      have hkb : (k == 0) = false := by simpa using hk2
      have XR := XRn
      have DK : Hid (DkL (((u2.setCell ⟨P, 0, none⟩ (.slice g1 gn1 gc1)).setCell ⟨P, 1, none⟩ (.slice g2 gn2 gc2)).setCell ⟨P, 2, none⟩ (.slice g3 gn3 gc3)) q n q' m q'' r L1 L2 L3) := DW.out _ XR.out.b
      clear D2
      go_wp2_with fail
      refine (copyL63 _ _ _ DK.out).mono ?_
      rintro e z9 ⟨z1, zn1, zc1, z2, zn2, zc2, z3, zn3, zc3, rfl, O9, D9⟩
      have X9 : Hid (RBx w z9 (.slice q n c) (.slice q' m c') (.slice q'' r c'')) := XR.out.kept D9
      have O9 : Hid (Own3 z9 (w.heap.size + 1 + 1) (.slice z1 zn1 zc1) (.slice z2 zn2 zc2) (.slice z3 zn3 zc3) L1 L2 L3) := O9.mono XR.out.z.2.2
      clear D9
      obtain ⟨_, ⟨⟨y0, y1, y2⟩, yf, yl⟩, _⟩ := X9.out
      go_wp2
      exact bodyPost_ret (v := .tuple #[.agg #[.slice z1 zn1 zc1, .slice z2 zn2 zc2, .slice z3 zn3 zc3], .int .i64 k]) (by simp [results, Try.results25, go_sem, y0, y1, y2]) rfl ⟨_, by rw [EC.out], by rw [ET.out]; exact ansAt O9.out (by omega) (by omega) X9.out.b⟩
    rw [hk2]
    have HK2 : Hid (doC (doLv (doLv L1 L2 L3 (⟨3, tmpN nm, ⟨#[]⟩, ⟨#[]⟩⟩ : Dp)) (doSf L1 L2 L3 (⟨3, tmpN nm, ⟨#[]⟩, ⟨#[]⟩⟩ : Dp)) (doOs L1 L2 L3 (⟨3, tmpN nm, ⟨#[]⟩, ⟨#[]⟩⟩ : Dp)) (⟨1, tmpN nm, ⟨#[]⟩, dt⟩ : Dp)) (doSf (doLv L1 L2 L3 (⟨3, tmpN nm, ⟨#[]⟩, ⟨#[]⟩⟩ : Dp)) (doSf L1 L2 L3 (⟨3, tmpN nm, ⟨#[]⟩, ⟨#[]⟩⟩ : Dp)) (doOs L1 L2 L3 (⟨3, tmpN nm, ⟨#[]⟩, ⟨#[]⟩⟩ : Dp)) (⟨1, tmpN nm, ⟨#[]⟩, dt⟩ : Dp)) (doOs (doLv L1 L2 L3 (⟨3, tmpN nm, ⟨#[]⟩, ⟨#[]⟩⟩ : Dp)) (doSf L1 L2 L3 (⟨3, tmpN nm, ⟨#[]⟩, ⟨#[]⟩⟩ : Dp)) (doOs L1 L2 L3 (⟨3, tmpN nm, ⟨#[]⟩, ⟨#[]⟩⟩ : Dp)) (⟨1, tmpN nm, ⟨#[]⟩, dt⟩ : Dp)) (⟨2, tmpN nm, nm, ⟨#[]⟩⟩ : Dp) = 0) := hk2
    have nx2 : Hid (diskB (doLv (doLv (doLv L1 L2 L3 (⟨3, tmpN nm, ⟨#[]⟩, ⟨#[]⟩⟩ : Dp)) (doSf L1 L2 L3 (⟨3, tmpN nm, ⟨#[]⟩, ⟨#[]⟩⟩ : Dp)) (doOs L1 L2 L3 (⟨3, tmpN nm, ⟨#[]⟩, ⟨#[]⟩⟩ : Dp)) (⟨1, tmpN nm, ⟨#[]⟩, dt⟩ : Dp)) (doSf (doLv L1 L2 L3 (⟨3, tmpN nm, ⟨#[]⟩, ⟨#[]⟩⟩ : Dp)) (doSf L1 L2 L3 (⟨3, tmpN nm, ⟨#[]⟩, ⟨#[]⟩⟩ : Dp)) (doOs L1 L2 L3 (⟨3, tmpN nm, ⟨#[]⟩, ⟨#[]⟩⟩ : Dp)) (⟨1, tmpN nm, ⟨#[]⟩, dt⟩ : Dp)) (doOs (doLv L1 L2 L3 (⟨3, tmpN nm, ⟨#[]⟩, ⟨#[]⟩⟩ : Dp)) (doSf L1 L2 L3 (⟨3, tmpN nm, ⟨#[]⟩, ⟨#[]⟩⟩ : Dp)) (doOs L1 L2 L3 (⟨3, tmpN nm, ⟨#[]⟩, ⟨#[]⟩⟩ : Dp)) (⟨1, tmpN nm, ⟨#[]⟩, dt⟩ : Dp)) (⟨2, tmpN nm, nm, ⟨#[]⟩⟩ : Dp)) (doSf (doLv (doLv L1 L2 L3 (⟨3, tmpN nm, ⟨#[]⟩, ⟨#[]⟩⟩ : Dp)) (doSf L1 L2 L3 (⟨3, tmpN nm, ⟨#[]⟩, ⟨#[]⟩⟩ : Dp)) (doOs L1 L2 L3 (⟨3, tmpN nm, ⟨#[]⟩, ⟨#[]⟩⟩ : Dp)) (⟨1, tmpN nm, ⟨#[]⟩, dt⟩ : Dp)) (doSf (doLv L1 L2 L3 (⟨3, tmpN nm, ⟨#[]⟩, ⟨#[]⟩⟩ : Dp)) (doSf L1 L2 L3 (⟨3, tmpN nm, ⟨#[]⟩, ⟨#[]⟩⟩ : Dp)) (doOs L1 L2 L3 (⟨3, tmpN nm, ⟨#[]⟩, ⟨#[]⟩⟩ : Dp)) (⟨1, tmpN nm, ⟨#[]⟩, dt⟩ : Dp)) (doOs (doLv L1 L2 L3 (⟨3, tmpN nm, ⟨#[]⟩, ⟨#[]⟩⟩ : Dp)) (doSf L1 L2 L3 (⟨3, tmpN nm, ⟨#[]⟩, ⟨#[]⟩⟩ : Dp)) (doOs L1 L2 L3 (⟨3, tmpN nm, ⟨#[]⟩, ⟨#[]⟩⟩ : Dp)) (⟨1, tmpN nm, ⟨#[]⟩, dt⟩ : Dp)) (⟨2, tmpN nm, nm, ⟨#[]⟩⟩ : Dp)) (doOs (doLv (doLv L1 L2 L3 (⟨3, tmpN nm, ⟨#[]⟩, ⟨#[]⟩⟩ : Dp)) (doSf L1 L2 L3 (⟨3, tmpN nm, ⟨#[]⟩, ⟨#[]⟩⟩ : Dp)) (doOs L1 L2 L3 (⟨3, tmpN nm, ⟨#[]⟩, ⟨#[]⟩⟩ : Dp)) (⟨1, tmpN nm, ⟨#[]⟩, dt⟩ : Dp)) (doSf (doLv L1 L2 L3 (⟨3, tmpN nm, ⟨#[]⟩, ⟨#[]⟩⟩ : Dp)) (doSf L1 L2 L3 (⟨3, tmpN nm, ⟨#[]⟩, ⟨#[]⟩⟩ : Dp)) (doOs L1 L2 L3 (⟨3, tmpN nm, ⟨#[]⟩, ⟨#[]⟩⟩ : Dp)) (⟨1, tmpN nm, ⟨#[]⟩, dt⟩ : Dp)) (doOs (doLv L1 L2 L3 (⟨3, tmpN nm, ⟨#[]⟩, ⟨#[]⟩⟩ : Dp)) (doSf L1 L2 L3 (⟨3, tmpN nm, ⟨#[]⟩, ⟨#[]⟩⟩ : Dp)) (doOs L1 L2 L3 (⟨3, tmpN nm, ⟨#[]⟩, ⟨#[]⟩⟩ : Dp)) (⟨1, tmpN nm, ⟨#[]⟩, dt⟩ : Dp)) (⟨2, tmpN nm, nm, ⟨#[]⟩⟩ : Dp)) = true) := next_ok hk2
    have so2 : Hid (∀ x ∈ doOs (doLv (doLv L1 L2 L3 (⟨3, tmpN nm, ⟨#[]⟩, ⟨#[]⟩⟩ : Dp)) (doSf L1 L2 L3 (⟨3, tmpN nm, ⟨#[]⟩, ⟨#[]⟩⟩ : Dp)) (doOs L1 L2 L3 (⟨3, tmpN nm, ⟨#[]⟩, ⟨#[]⟩⟩ : Dp)) (⟨1, tmpN nm, ⟨#[]⟩, dt⟩ : Dp)) (doSf (doLv L1 L2 L3 (⟨3, tmpN nm, ⟨#[]⟩, ⟨#[]⟩⟩ : Dp)) (doSf L1 L2 L3 (⟨3, tmpN nm, ⟨#[]⟩, ⟨#[]⟩⟩ : Dp)) (doOs L1 L2 L3 (⟨3, tmpN nm, ⟨#[]⟩, ⟨#[]⟩⟩ : Dp)) (⟨1, tmpN nm, ⟨#[]⟩, dt⟩ : Dp)) (doOs (doLv L1 L2 L3 (⟨3, tmpN nm, ⟨#[]⟩, ⟨#[]⟩⟩ : Dp)) (doSf L1 L2 L3 (⟨3, tmpN nm, ⟨#[]⟩, ⟨#[]⟩⟩ : Dp)) (doOs L1 L2 L3 (⟨3, tmpN nm, ⟨#[]⟩, ⟨#[]⟩⟩ : Dp)) (⟨1, tmpN nm, ⟨#[]⟩, dt⟩ : Dp)) (⟨2, tmpN nm, nm, ⟨#[]⟩⟩ : Dp), x.data.size ≤ 1048576) := so_next so1.out (by show (0 : Nat) ≤ _; omega)
    have DX2 : Hid (DkL (((u2.setCell ⟨P, 0, none⟩ (.slice g1 gn1 gc1)).setCell ⟨P, 1, none⟩ (.slice g2 gn2 gc2)).setCell ⟨P, 2, none⟩ (.slice g3 gn3 gc3)) g1 gn1 g2 gn2 g3 gn3 (doLv (doLv (doLv L1 L2 L3 (⟨3, tmpN nm, ⟨#[]⟩, ⟨#[]⟩⟩ : Dp)) (doSf L1 L2 L3 (⟨3, tmpN nm, ⟨#[]⟩, ⟨#[]⟩⟩ : Dp)) (doOs L1 L2 L3 (⟨3, tmpN nm, ⟨#[]⟩, ⟨#[]⟩⟩ : Dp)) (⟨1, tmpN nm, ⟨#[]⟩, dt⟩ : Dp)) (doSf (doLv L1 L2 L3 (⟨3, tmpN nm, ⟨#[]⟩, ⟨#[]⟩⟩ : Dp)) (doSf L1 L2 L3 (⟨3, tmpN nm, ⟨#[]⟩, ⟨#[]⟩⟩ : Dp)) (doOs L1 L2 L3 (⟨3, tmpN nm, ⟨#[]⟩, ⟨#[]⟩⟩ : Dp)) (⟨1, tmpN nm, ⟨#[]⟩, dt⟩ : Dp)) (doOs (doLv L1 L2 L3 (⟨3, tmpN nm, ⟨#[]⟩, ⟨#[]⟩⟩ : Dp)) (doSf L1 L2 L3 (⟨3, tmpN nm, ⟨#[]⟩, ⟨#[]⟩⟩ : Dp)) (doOs L1 L2 L3 (⟨3, tmpN nm, ⟨#[]⟩, ⟨#[]⟩⟩ : Dp)) (⟨1, tmpN nm, ⟨#[]⟩, dt⟩ : Dp)) (⟨2, tmpN nm, nm, ⟨#[]⟩⟩ : Dp)) (doSf (doLv (doLv L1 L2 L3 (⟨3, tmpN nm, ⟨#[]⟩, ⟨#[]⟩⟩ : Dp)) (doSf L1 L2 L3 (⟨3, tmpN nm, ⟨#[]⟩, ⟨#[]⟩⟩ : Dp)) (doOs L1 L2 L3 (⟨3, tmpN nm, ⟨#[]⟩, ⟨#[]⟩⟩ : Dp)) (⟨1, tmpN nm, ⟨#[]⟩, dt⟩ : Dp)) (doSf (doLv L1 L2 L3 (⟨3, tmpN nm, ⟨#[]⟩, ⟨#[]⟩⟩ : Dp)) (doSf L1 L2 L3 (⟨3, tmpN nm, ⟨#[]⟩, ⟨#[]⟩⟩ : Dp)) (doOs L1 L2 L3 (⟨3, tmpN nm, ⟨#[]⟩, ⟨#[]⟩⟩ : Dp)) (⟨1, tmpN nm, ⟨#[]⟩, dt⟩ : Dp)) (doOs (doLv L1 L2 L3 (⟨3, tmpN nm, ⟨#[]⟩, ⟨#[]⟩⟩ : Dp)) (doSf L1 L2 L3 (⟨3, tmpN nm, ⟨#[]⟩, ⟨#[]⟩⟩ : Dp)) (doOs L1 L2 L3 (⟨3, tmpN nm, ⟨#[]⟩, ⟨#[]⟩⟩ : Dp)) (⟨1, tmpN nm, ⟨#[]⟩, dt⟩ : Dp)) (⟨2, tmpN nm, nm, ⟨#[]⟩⟩ : Dp)) (doOs (doLv (doLv L1 L2 L3 (⟨3, tmpN nm, ⟨#[]⟩, ⟨#[]⟩⟩ : Dp)) (doSf L1 L2 L3 (⟨3, tmpN nm, ⟨#[]⟩, ⟨#[]⟩⟩ : Dp)) (doOs L1 L2 L3 (⟨3, tmpN nm, ⟨#[]⟩, ⟨#[]⟩⟩ : Dp)) (⟨1, tmpN nm, ⟨#[]⟩, dt⟩ : Dp)) (doSf (doLv L1 L2 L3 (⟨3, tmpN nm, ⟨#[]⟩, ⟨#[]⟩⟩ : Dp)) (doSf L1 L2 L3 (⟨3, tmpN nm, ⟨#[]⟩, ⟨#[]⟩⟩ : Dp)) (doOs L1 L2 L3 (⟨3, tmpN nm, ⟨#[]⟩, ⟨#[]⟩⟩ : Dp)) (⟨1, tmpN nm, ⟨#[]⟩, dt⟩ : Dp)) (doOs (doLv L1 L2 L3 (⟨3, tmpN nm, ⟨#[]⟩, ⟨#[]⟩⟩ : Dp)) (doSf L1 L2 L3 (⟨3, tmpN nm, ⟨#[]⟩, ⟨#[]⟩⟩ : Dp)) (doOs L1 L2 L3 (⟨3, tmpN nm, ⟨#[]⟩, ⟨#[]⟩⟩ : Dp)) (⟨1, tmpN nm, ⟨#[]⟩, dt⟩ : Dp)) (⟨2, tmpN nm, nm, ⟨#[]⟩⟩ : Dp))) := own_dkL XO2 nx2.out so2.out
    clear hk2 O2 XO2 XR2 XP2 XR XP D2
    have XR := XRn
    have XP := XPn
    clear XRn XPn
    have hs2 : (((u2.setCell ⟨P, 0, none⟩ (.slice g1 gn1 gc1)).setCell ⟨P, 1, none⟩ (.slice g2 gn2 gc2)).setCell ⟨P, 2, none⟩ (.slice g3 gn3 gc3)).heap.size = u2.heap.size := by simp [World.setCell]
    have EC : Hid (repC (L1, L2, L3) nm dt = 0) := (by simp [repC, rOps, HG.out, rep, cod, nxt, HK0.out, HK1.out, HK2.out] : repC (L1, L2, L3) nm dt = 0)
    have ET : Hid (repT (L1, L2, L3) nm dt = (doLv (doLv (doLv L1 L2 L3 (⟨3, tmpN nm, ⟨#[]⟩, ⟨#[]⟩⟩ : Dp)) (doSf L1 L2 L3 (⟨3, tmpN nm, ⟨#[]⟩, ⟨#[]⟩⟩ : Dp)) (doOs L1 L2 L3 (⟨3, tmpN nm, ⟨#[]⟩, ⟨#[]⟩⟩ : Dp)) (⟨1, tmpN nm, ⟨#[]⟩, dt⟩ : Dp)) (doSf (doLv L1 L2 L3 (⟨3, tmpN nm, ⟨#[]⟩, ⟨#[]⟩⟩ : Dp)) (doSf L1 L2 L3 (⟨3, tmpN nm, ⟨#[]⟩, ⟨#[]⟩⟩ : Dp)) (doOs L1 L2 L3 (⟨3, tmpN nm, ⟨#[]⟩, ⟨#[]⟩⟩ : Dp)) (⟨1, tmpN nm, ⟨#[]⟩, dt⟩ : Dp)) (doOs (doLv L1 L2 L3 (⟨3, tmpN nm, ⟨#[]⟩, ⟨#[]⟩⟩ : Dp)) (doSf L1 L2 L3 (⟨3, tmpN nm, ⟨#[]⟩, ⟨#[]⟩⟩ : Dp)) (doOs L1 L2 L3 (⟨3, tmpN nm, ⟨#[]⟩, ⟨#[]⟩⟩ : Dp)) (⟨1, tmpN nm, ⟨#[]⟩, dt⟩ : Dp)) (⟨2, tmpN nm, nm, ⟨#[]⟩⟩ : Dp), doSf (doLv (doLv L1 L2 L3 (⟨3, tmpN nm, ⟨#[]⟩, ⟨#[]⟩⟩ : Dp)) (doSf L1 L2 L3 (⟨3, tmpN nm, ⟨#[]⟩, ⟨#[]⟩⟩ : Dp)) (doOs L1 L2 L3 (⟨3, tmpN nm, ⟨#[]⟩, ⟨#[]⟩⟩ : Dp)) (⟨1, tmpN nm, ⟨#[]⟩, dt⟩ : Dp)) (doSf (doLv L1 L2 L3 (⟨3, tmpN nm, ⟨#[]⟩, ⟨#[]⟩⟩ : Dp)) (doSf L1 L2 L3 (⟨3, tmpN nm, ⟨#[]⟩, ⟨#[]⟩⟩ : Dp)) (doOs L1 L2 L3 (⟨3, tmpN nm, ⟨#[]⟩, ⟨#[]⟩⟩ : Dp)) (⟨1, tmpN nm, ⟨#[]⟩, dt⟩ : Dp)) (doOs (doLv L1 L2 L3 (⟨3, tmpN nm, ⟨#[]⟩, ⟨#[]⟩⟩ : Dp)) (doSf L1 L2 L3 (⟨3, tmpN nm, ⟨#[]⟩, ⟨#[]⟩⟩ : Dp)) (doOs L1 L2 L3 (⟨3, tmpN nm, ⟨#[]⟩, ⟨#[]⟩⟩ : Dp)) (⟨1, tmpN nm, ⟨#[]⟩, dt⟩ : Dp)) (⟨2, tmpN nm, nm, ⟨#[]⟩⟩ : Dp), doOs (doLv (doLv L1 L2 L3 (⟨3, tmpN nm, ⟨#[]⟩, ⟨#[]⟩⟩ : Dp)) (doSf L1 L2 L3 (⟨3, tmpN nm, ⟨#[]⟩, ⟨#[]⟩⟩ : Dp)) (doOs L1 L2 L3 (⟨3, tmpN nm, ⟨#[]⟩, ⟨#[]⟩⟩ : Dp)) (⟨1, tmpN nm, ⟨#[]⟩, dt⟩ : Dp)) (doSf (doLv L1 L2 L3 (⟨3, tmpN nm, ⟨#[]⟩, ⟨#[]⟩⟩ : Dp)) (doSf L1 L2 L3 (⟨3, tmpN nm, ⟨#[]⟩, ⟨#[]⟩⟩ : Dp)) (doOs L1 L2 L3 (⟨3, tmpN nm, ⟨#[]⟩, ⟨#[]⟩⟩ : Dp)) (⟨1, tmpN nm, ⟨#[]⟩, dt⟩ : Dp)) (doOs (doLv L1 L2 L3 (⟨3, tmpN nm, ⟨#[]⟩, ⟨#[]⟩⟩ : Dp)) (doSf L1 L2 L3 (⟨3, tmpN nm, ⟨#[]⟩, ⟨#[]⟩⟩ : Dp)) (doOs L1 L2 L3 (⟨3, tmpN nm, ⟨#[]⟩, ⟨#[]⟩⟩ : Dp)) (⟨1, tmpN nm, ⟨#[]⟩, dt⟩ : Dp)) (⟨2, tmpN nm, nm, ⟨#[]⟩⟩ : Dp))) := (by rw [repT, EC.out, if_pos rfl]; simp [rOps, HG.out, rep, cod, nxt, HK0.out, HK1.out, HK2.out] : repT (L1, L2, L3) nm dt = (doLv (doLv (doLv L1 L2 L3 (⟨3, tmpN nm, ⟨#[]⟩, ⟨#[]⟩⟩ : Dp)) (doSf L1 L2 L3 (⟨3, tmpN nm, ⟨#[]⟩, ⟨#[]⟩⟩ : Dp)) (doOs L1 L2 L3 (⟨3, tmpN nm, ⟨#[]⟩, ⟨#[]⟩⟩ : Dp)) (⟨1, tmpN nm, ⟨#[]⟩, dt⟩ : Dp)) (doSf (doLv L1 L2 L3 (⟨3, tmpN nm, ⟨#[]⟩, ⟨#[]⟩⟩ : Dp)) (doSf L1 L2 L3 (⟨3, tmpN nm, ⟨#[]⟩, ⟨#[]⟩⟩ : Dp)) (doOs L1 L2 L3 (⟨3, tmpN nm, ⟨#[]⟩, ⟨#[]⟩⟩ : Dp)) (⟨1, tmpN nm, ⟨#[]⟩, dt⟩ : Dp)) (doOs (doLv L1 L2 L3 (⟨3, tmpN nm, ⟨#[]⟩, ⟨#[]⟩⟩ : Dp)) (doSf L1 L2 L3 (⟨3, tmpN nm, ⟨#[]⟩, ⟨#[]⟩⟩ : Dp)) (doOs L1 L2 L3 (⟨3, tmpN nm, ⟨#[]⟩, ⟨#[]⟩⟩ : Dp)) (⟨1, tmpN nm, ⟨#[]⟩, dt⟩ : Dp)) (⟨2, tmpN nm, nm, ⟨#[]⟩⟩ : Dp), doSf (doLv (doLv L1 L2 L3 (⟨3, tmpN nm, ⟨#[]⟩, ⟨#[]⟩⟩ : Dp)) (doSf L1 L2 L3 (⟨3, tmpN nm, ⟨#[]⟩, ⟨#[]⟩⟩ : Dp)) (doOs L1 L2 L3 (⟨3, tmpN nm, ⟨#[]⟩, ⟨#[]⟩⟩ : Dp)) (⟨1, tmpN nm, ⟨#[]⟩, dt⟩ : Dp)) (doSf (doLv L1 L2 L3 (⟨3, tmpN nm, ⟨#[]⟩, ⟨#[]⟩⟩ : Dp)) (doSf L1 L2 L3 (⟨3, tmpN nm, ⟨#[]⟩, ⟨#[]⟩⟩ : Dp)) (doOs L1 L2 L3 (⟨3, tmpN nm, ⟨#[]⟩, ⟨#[]⟩⟩ : Dp)) (⟨1, tmpN nm, ⟨#[]⟩, dt⟩ : Dp)) (doOs (doLv L1 L2 L3 (⟨3, tmpN nm, ⟨#[]⟩, ⟨#[]⟩⟩ : Dp)) (doSf L1 L2 L3 (⟨3, tmpN nm, ⟨#[]⟩, ⟨#[]⟩⟩ : Dp)) (doOs L1 L2 L3 (⟨3, tmpN nm, ⟨#[]⟩, ⟨#[]⟩⟩ : Dp)) (⟨1, tmpN nm, ⟨#[]⟩, dt⟩ : Dp)) (⟨2, tmpN nm, nm, ⟨#[]⟩⟩ : Dp), doOs (doLv (doLv L1 L2 L3 (⟨3, tmpN nm, ⟨#[]⟩, ⟨#[]⟩⟩ : Dp)) (doSf L1 L2 L3 (⟨3, tmpN nm, ⟨#[]⟩, ⟨#[]⟩⟩ : Dp)) (doOs L1 L2 L3 (⟨3, tmpN nm, ⟨#[]⟩, ⟨#[]⟩⟩ : Dp)) (⟨1, tmpN nm, ⟨#[]⟩, dt⟩ : Dp)) (doSf (doLv L1 L2 L3 (⟨3, tmpN nm, ⟨#[]⟩, ⟨#[]⟩⟩ : Dp)) (doSf L1 L2 L3 (⟨3, tmpN nm, ⟨#[]⟩, ⟨#[]⟩⟩ : Dp)) (doOs L1 L2 L3 (⟨3, tmpN nm, ⟨#[]⟩, ⟨#[]⟩⟩ : Dp)) (⟨1, tmpN nm, ⟨#[]⟩, dt⟩ : Dp)) (doOs (doLv L1 L2 L3 (⟨3, tmpN nm, ⟨#[]⟩, ⟨#[]⟩⟩ : Dp)) (doSf L1 L2 L3 (⟨3, tmpN nm, ⟨#[]⟩, ⟨#[]⟩⟩ : Dp)) (doOs L1 L2 L3 (⟨3, tmpN nm, ⟨#[]⟩, ⟨#[]⟩⟩ : Dp)) (⟨1, tmpN nm, ⟨#[]⟩, dt⟩ : Dp)) (⟨2, tmpN nm, nm, ⟨#[]⟩⟩ : Dp)))
    go_wp2_with fail
    refine (copyL63 _ _ _ DX2.out).mono ?_
    rintro e z9 ⟨z1, zn1, zc1, z2, zn2, zc2, z3, zn3, zc3, rfl, O9, D9⟩
    have X9 : Hid (RBx w z9 (.slice q n c) (.slice q' m c') (.slice q'' r c'')) := XR.out.kept D9
    have O9 : Hid (Own3 z9 (w.heap.size + 1 + 1) (.slice z1 zn1 zc1) (.slice z2 zn2 zc2) (.slice z3 zn3 zc3) (doLv (doLv (doLv L1 L2 L3 (⟨3, tmpN nm, ⟨#[]⟩, ⟨#[]⟩⟩ : Dp)) (doSf L1 L2 L3 (⟨3, tmpN nm, ⟨#[]⟩, ⟨#[]⟩⟩ : Dp)) (doOs L1 L2 L3 (⟨3, tmpN nm, ⟨#[]⟩, ⟨#[]⟩⟩ : Dp)) (⟨1, tmpN nm, ⟨#[]⟩, dt⟩ : Dp)) (doSf (doLv L1 L2 L3 (⟨3, tmpN nm, ⟨#[]⟩, ⟨#[]⟩⟩ : Dp)) (doSf L1 L2 L3 (⟨3, tmpN nm, ⟨#[]⟩, ⟨#[]⟩⟩ : Dp)) (doOs L1 L2 L3 (⟨3, tmpN nm, ⟨#[]⟩, ⟨#[]⟩⟩ : Dp)) (⟨1, tmpN nm, ⟨#[]⟩, dt⟩ : Dp)) (doOs (doLv L1 L2 L3 (⟨3, tmpN nm, ⟨#[]⟩, ⟨#[]⟩⟩ : Dp)) (doSf L1 L2 L3 (⟨3, tmpN nm, ⟨#[]⟩, ⟨#[]⟩⟩ : Dp)) (doOs L1 L2 L3 (⟨3, tmpN nm, ⟨#[]⟩, ⟨#[]⟩⟩ : Dp)) (⟨1, tmpN nm, ⟨#[]⟩, dt⟩ : Dp)) (⟨2, tmpN nm, nm, ⟨#[]⟩⟩ : Dp)) (doSf (doLv (doLv L1 L2 L3 (⟨3, tmpN nm, ⟨#[]⟩, ⟨#[]⟩⟩ : Dp)) (doSf L1 L2 L3 (⟨3, tmpN nm, ⟨#[]⟩, ⟨#[]⟩⟩ : Dp)) (doOs L1 L2 L3 (⟨3, tmpN nm, ⟨#[]⟩, ⟨#[]⟩⟩ : Dp)) (⟨1, tmpN nm, ⟨#[]⟩, dt⟩ : Dp)) (doSf (doLv L1 L2 L3 (⟨3, tmpN nm, ⟨#[]⟩, ⟨#[]⟩⟩ : Dp)) (doSf L1 L2 L3 (⟨3, tmpN nm, ⟨#[]⟩, ⟨#[]⟩⟩ : Dp)) (doOs L1 L2 L3 (⟨3, tmpN nm, ⟨#[]⟩, ⟨#[]⟩⟩ : Dp)) (⟨1, tmpN nm, ⟨#[]⟩, dt⟩ : Dp)) (doOs (doLv L1 L2 L3 (⟨3, tmpN nm, ⟨#[]⟩, ⟨#[]⟩⟩ : Dp)) (doSf L1 L2 L3 (⟨3, tmpN nm, ⟨#[]⟩, ⟨#[]⟩⟩ : Dp)) (doOs L1 L2 L3 (⟨3, tmpN nm, ⟨#[]⟩, ⟨#[]⟩⟩ : Dp)) (⟨1, tmpN nm, ⟨#[]⟩, dt⟩ : Dp)) (⟨2, tmpN nm, nm, ⟨#[]⟩⟩ : Dp)) (doOs (doLv (doLv L1 L2 L3 (⟨3, tmpN nm, ⟨#[]⟩, ⟨#[]⟩⟩ : Dp)) (doSf L1 L2 L3 (⟨3, tmpN nm, ⟨#[]⟩, ⟨#[]⟩⟩ : Dp)) (doOs L1 L2 L3 (⟨3, tmpN nm, ⟨#[]⟩, ⟨#[]⟩⟩ : Dp)) (⟨1, tmpN nm, ⟨#[]⟩, dt⟩ : Dp)) (doSf (doLv L1 L2 L3 (⟨3, tmpN nm, ⟨#[]⟩, ⟨#[]⟩⟩ : Dp)) (doSf L1 L2 L3 (⟨3, tmpN nm, ⟨#[]⟩, ⟨#[]⟩⟩ : Dp)) (doOs L1 L2 L3 (⟨3, tmpN nm, ⟨#[]⟩, ⟨#[]⟩⟩ : Dp)) (⟨1, tmpN nm, ⟨#[]⟩, dt⟩ : Dp)) (doOs (doLv L1 L2 L3 (⟨3, tmpN nm, ⟨#[]⟩, ⟨#[]⟩⟩ : Dp)) (doSf L1 L2 L3 (⟨3, tmpN nm, ⟨#[]⟩, ⟨#[]⟩⟩ : Dp)) (doOs L1 L2 L3 (⟨3, tmpN nm, ⟨#[]⟩, ⟨#[]⟩⟩ : Dp)) (⟨1, tmpN nm, ⟨#[]⟩, dt⟩ : Dp)) (⟨2, tmpN nm, nm, ⟨#[]⟩⟩ : Dp))) := O9.mono XR.out.z.2.2
    clear D9
    obtain ⟨_, ⟨⟨y0, y1, y2⟩, yf, yl⟩, _⟩ := X9.out
    go_wp2
    exact bodyPost_ret (v := .tuple #[.agg #[.slice z1 zn1 zc1, .slice z2 zn2 zc2, .slice z3 zn3 zc3], .int .i64 0]) (by simp [results, Try.results25, go_sem, y0, y1, y2]) rfl ⟨_, by rw [EC.out], by rw [ET.out]; exact ansAt O9.out (by omega) (by omega) X9.out.b⟩
  · have HG : Hid ((getN Fl.name (tmpN nm) L1).isSome = false) := hg
    have hxb : decide (0 ≤ x) = false := decide_eq_false (by omega)
    clear hg hx0
    go_wp2_with fail
    refine (actL _ _ _ DX.out HX.out (⟨1, tmpN nm, ⟨#[]⟩, dt⟩ : Dp) HDT.out).mono ?_
    rintro e u0 ⟨a1, an1, ac1, a2, an2, ac2, a3, an3, ac3, rfl, O0, D0⟩
    obtain ⟨XR0, XP0, XO0⟩ := afterAct XR.out XP.out hP D0 O0
    obtain ⟨⟨p0, p1, p2⟩, pf, pl⟩ := XP.out.kept D0 XP.out.2.2
    obtain ⟨⟨⟨s0, s1, s2⟩, _, _⟩, _, _⟩ := XR.out.kept D0
    have XRn : Hid (RBx w (((u0.setCell ⟨P, 0, none⟩ (.slice a1 an1 ac1)).setCell ⟨P, 1, none⟩ (.slice a2 an2 ac2)).setCell ⟨P, 2, none⟩ (.slice a3 an3 ac3)) (.slice q n c) (.slice q' m c') (.slice q'' r c'')) := XR0
    have XPn : Hid (Box3 (((u0.setCell ⟨P, 0, none⟩ (.slice a1 an1 ac1)).setCell ⟨P, 1, none⟩ (.slice a2 an2 ac2)).setCell ⟨P, 2, none⟩ (.slice a3 an3 ac3)) P (.slice a1 an1 ac1) (.slice a2 an2 ac2) (.slice a3 an3 ac3)) := XP0
    by_cases hk0 : doC L1 L2 L3 (⟨1, tmpN nm, ⟨#[]⟩, dt⟩ : Dp) = 0
    rotate_left
    · have EC : Hid (repC (L1, L2, L3) nm dt = doC L1 L2 L3 (⟨1, tmpN nm, ⟨#[]⟩, dt⟩ : Dp)) := (by simp [repC, rOps, HG.out, rep, cod, hk0] : repC (L1, L2, L3) nm dt = doC L1 L2 L3 (⟨1, tmpN nm, ⟨#[]⟩, dt⟩ : Dp))
      have hne := doC_ne1 (⟨1, tmpN nm, ⟨#[]⟩, dt⟩ : Dp) HX.out
      have ET : Hid (repT (L1, L2, L3) nm dt = (L1, L2, L3)) := (by rw [repT, EC.out, if_neg hk0, if_neg hne] : repT (L1, L2, L3) nm dt = (L1, L2, L3))
      clear hne O0 XO0 XR0 XP0 XR XP
      generalize doC L1 L2 L3 (⟨1, tmpN nm, ⟨#[]⟩, dt⟩ : Dp) = k at *
      have hkb : (k == 0) = false := by simpa using hk0
      have XR := XRn
      have DK : Hid (DkL (((u0.setCell ⟨P, 0, none⟩ (.slice a1 an1 ac1)).setCell ⟨P, 1, none⟩ (.slice a2 an2 ac2)).setCell ⟨P, 2, none⟩ (.slice a3 an3 ac3)) q n q' m q'' r L1 L2 L3) := DW.out _ XR.out.b
      clear D0
      go_wp2_with fail
      refine (copyL63 _ _ _ DK.out).mono ?_
      rintro e z9 ⟨z1, zn1, zc1, z2, zn2, zc2, z3, zn3, zc3, rfl, O9, D9⟩
      have X9 : Hid (RBx w z9 (.slice q n c) (.slice q' m c') (.slice q'' r c'')) := XR.out.kept D9
      have O9 : Hid (Own3 z9 (w.heap.size + 1 + 1) (.slice z1 zn1 zc1) (.slice z2 zn2 zc2) (.slice z3 zn3 zc3) L1 L2 L3) := O9.mono XR.out.z.2.2
      clear D9
      obtain ⟨_, ⟨⟨y0, y1, y2⟩, yf, yl⟩, _⟩ := X9.out
      go_wp2
      exact bodyPost_ret (v := .tuple #[.agg #[.slice z1 zn1 zc1, .slice z2 zn2 zc2, .slice z3 zn3 zc3], .int .i64 k]) (by simp [results, Try.results25, go_sem, y0, y1, y2]) rfl ⟨_, by rw [EC.out], by rw [ET.out]; exact ansAt O9.out (by omega) (by omega) X9.out.b⟩
    rw [hk0]
    have HK0 : Hid (doC L1 L2 L3 (⟨1, tmpN nm, ⟨#[]⟩, dt⟩ : Dp) = 0) := hk0
    have nx0 : Hid (diskB (doLv L1 L2 L3 (⟨1, tmpN nm, ⟨#[]⟩, dt⟩ : Dp)) (doSf L1 L2 L3 (⟨1, tmpN nm, ⟨#[]⟩, dt⟩ : Dp)) (doOs L1 L2 L3 (⟨1, tmpN nm, ⟨#[]⟩, dt⟩ : Dp)) = true) := next_ok hk0
    have so0 : Hid (∀ x ∈ doOs L1 L2 L3 (⟨1, tmpN nm, ⟨#[]⟩, dt⟩ : Dp), x.data.size ≤ 1048576) := so_next SO.out HDT.out
    have DX0 : Hid (DkL (((u0.setCell ⟨P, 0, none⟩ (.slice a1 an1 ac1)).setCell ⟨P, 1, none⟩ (.slice a2 an2 ac2)).setCell ⟨P, 2, none⟩ (.slice a3 an3 ac3)) a1 an1 a2 an2 a3 an3 (doLv L1 L2 L3 (⟨1, tmpN nm, ⟨#[]⟩, dt⟩ : Dp)) (doSf L1 L2 L3 (⟨1, tmpN nm, ⟨#[]⟩, dt⟩ : Dp)) (doOs L1 L2 L3 (⟨1, tmpN nm, ⟨#[]⟩, dt⟩ : Dp))) := own_dkL XO0 nx0.out so0.out
    clear hk0 O0 XO0 XR0 XP0 XR XP D0
    have XR := XRn
    have XP := XPn
    clear XRn XPn
    have hs0 : (((u0.setCell ⟨P, 0, none⟩ (.slice a1 an1 ac1)).setCell ⟨P, 1, none⟩ (.slice a2 an2 ac2)).setCell ⟨P, 2, none⟩ (.slice a3 an3 ac3)).heap.size = u0.heap.size := by simp [World.setCell]
    go_wp2_with fail
    refine (actL _ _ _ DX0.out nx0.out (⟨2, tmpN nm, nm, ⟨#[]⟩⟩ : Dp) (by show (0 : Nat) ≤ _; omega)).mono ?_
    rintro e u1 ⟨b1, bn1, bc1, b2, bn2, bc2, b3, bn3, bc3, rfl, O1, D1⟩
    obtain ⟨XR1, XP1, XO1⟩ := afterAct XR.out XP.out hP D1 O1
    obtain ⟨⟨p0, p1, p2⟩, pf, pl⟩ := XP.out.kept D1 XP.out.2.2
    obtain ⟨⟨⟨s0, s1, s2⟩, _, _⟩, _, _⟩ := XR.out.kept D1
    have XRn : Hid (RBx w (((u1.setCell ⟨P, 0, none⟩ (.slice b1 bn1 bc1)).setCell ⟨P, 1, none⟩ (.slice b2 bn2 bc2)).setCell ⟨P, 2, none⟩ (.slice b3 bn3 bc3)) (.slice q n c) (.slice q' m c') (.slice q'' r c'')) := XR1
    have XPn : Hid (Box3 (((u1.setCell ⟨P, 0, none⟩ (.slice b1 bn1 bc1)).setCell ⟨P, 1, none⟩ (.slice b2 bn2 bc2)).setCell ⟨P, 2, none⟩ (.slice b3 bn3 bc3)) P (.slice b1 bn1 bc1) (.slice b2 bn2 bc2) (.slice b3 bn3 bc3)) := XP1
    by_cases hk1 : doC (doLv L1 L2 L3 (⟨1, tmpN nm, ⟨#[]⟩, dt⟩ : Dp)) (doSf L1 L2 L3 (⟨1, tmpN nm, ⟨#[]⟩, dt⟩ : Dp)) (doOs L1 L2 L3 (⟨1, tmpN nm, ⟨#[]⟩, dt⟩ : Dp)) (⟨2, tmpN nm, nm, ⟨#[]⟩⟩ : Dp) = 0
    rotate_left
    · have EC : Hid (repC (L1, L2, L3) nm dt = doC (doLv L1 L2 L3 (⟨1, tmpN nm, ⟨#[]⟩, dt⟩ : Dp)) (doSf L1 L2 L3 (⟨1, tmpN nm, ⟨#[]⟩, dt⟩ : Dp)) (doOs L1 L2 L3 (⟨1, tmpN nm, ⟨#[]⟩, dt⟩ : Dp)) (⟨2, tmpN nm, nm, ⟨#[]⟩⟩ : Dp)) := (by simp [repC, rOps, HG.out, rep, cod, nxt, HK0.out, hk1] : repC (L1, L2, L3) nm dt = doC (doLv L1 L2 L3 (⟨1, tmpN nm, ⟨#[]⟩, dt⟩ : Dp)) (doSf L1 L2 L3 (⟨1, tmpN nm, ⟨#[]⟩, dt⟩ : Dp)) (doOs L1 L2 L3 (⟨1, tmpN nm, ⟨#[]⟩, dt⟩ : Dp)) (⟨2, tmpN nm, nm, ⟨#[]⟩⟩ : Dp))
      have hne := doC_ne1 (⟨2, tmpN nm, nm, ⟨#[]⟩⟩ : Dp) nx0.out
      have ET : Hid (repT (L1, L2, L3) nm dt = (L1, L2, L3)) := (by rw [repT, EC.out, if_neg hk1, if_neg hne] : repT (L1, L2, L3) nm dt = (L1, L2, L3))
      clear hne O1 XO1 XR1 XP1 XR XP
      generalize doC (doLv L1 L2 L3 (⟨1, tmpN nm, ⟨#[]⟩, dt⟩ : Dp)) (doSf L1 L2 L3 (⟨1, tmpN nm, ⟨#[]⟩, dt⟩ : Dp)) (doOs L1 L2 L3 (⟨1, tmpN nm, ⟨#[]⟩, dt⟩ : Dp)) (⟨2, tmpN nm, nm, ⟨#[]⟩⟩ : Dp) = k at *
      have hkb : (k == 0) = false := by simpa using hk1
      have XR := XRn
      have DK : Hid (DkL (((u1.setCell ⟨P, 0, none⟩ (.slice b1 bn1 bc1)).setCell ⟨P, 1, none⟩ (.slice b2 bn2 bc2)).setCell ⟨P, 2, none⟩ (.slice b3 bn3 bc3)) q n q' m q'' r L1 L2 L3) := DW.out _ XR.out.b
      clear D1
      go_wp2_with fail
      refine (copyL63 _ _ _ DK.out).mono ?_
      rintro e z9 ⟨z1, zn1, zc1, z2, zn2, zc2, z3, zn3, zc3, rfl, O9, D9⟩
      have X9 : Hid (RBx w z9 (.slice q n c) (.slice q' m c') (.slice q'' r c'')) := XR.out.kept D9
      have O9 : Hid (Own3 z9 (w.heap.size + 1 + 1) (.slice z1 zn1 zc1) (.slice z2 zn2 zc2) (.slice z3 zn3 zc3) L1 L2 L3) := O9.mono XR.out.z.2.2
      clear D9
      obtain ⟨_, ⟨⟨y0, y1, y2⟩, yf, yl⟩, _⟩ := X9.out
      go_wp2
      exact bodyPost_ret (v := .tuple #[.agg #[.slice z1 zn1 zc1, .slice z2 zn2 zc2, .slice z3 zn3 zc3], .int .i64 k]) (by simp [results, Try.results25, go_sem, y0, y1, y2]) rfl ⟨_, by rw [EC.out], by rw [ET.out]; exact ansAt O9.out (by omega) (by omega) X9.out.b⟩
    rw [hk1]
    have HK1 : Hid (doC (doLv L1 L2 L3 (⟨1, tmpN nm, ⟨#[]⟩, dt⟩ : Dp)) (doSf L1 L2 L3 (⟨1, tmpN nm, ⟨#[]⟩, dt⟩ : Dp)) (doOs L1 L2 L3 (⟨1, tmpN nm, ⟨#[]⟩, dt⟩ : Dp)) (⟨2, tmpN nm, nm, ⟨#[]⟩⟩ : Dp) = 0) := hk1
    have nx1 : Hid (diskB (doLv (doLv L1 L2 L3 (⟨1, tmpN nm, ⟨#[]⟩, dt⟩ : Dp)) (doSf L1 L2 L3 (⟨1, tmpN nm, ⟨#[]⟩, dt⟩ : Dp)) (doOs L1 L2 L3 (⟨1, tmpN nm, ⟨#[]⟩, dt⟩ : Dp)) (⟨2, tmpN nm, nm, ⟨#[]⟩⟩ : Dp)) (doSf (doLv L1 L2 L3 (⟨1, tmpN nm, ⟨#[]⟩, dt⟩ : Dp)) (doSf L1 L2 L3 (⟨1, tmpN nm, ⟨#[]⟩, dt⟩ : Dp)) (doOs L1 L2 L3 (⟨1, tmpN nm, ⟨#[]⟩, dt⟩ : Dp)) (⟨2, tmpN nm, nm, ⟨#[]⟩⟩ : Dp)) (doOs (doLv L1 L2 L3 (⟨1, tmpN nm, ⟨#[]⟩, dt⟩ : Dp)) (doSf L1 L2 L3 (⟨1, tmpN nm, ⟨#[]⟩, dt⟩ : Dp)) (doOs L1 L2 L3 (⟨1, tmpN nm, ⟨#[]⟩, dt⟩ : Dp)) (⟨2, tmpN nm, nm, ⟨#[]⟩⟩ : Dp)) = true) := next_ok hk1
    have so1 : Hid (∀ x ∈ doOs (doLv L1 L2 L3 (⟨1, tmpN nm, ⟨#[]⟩, dt⟩ : Dp)) (doSf L1 L2 L3 (⟨1, tmpN nm, ⟨#[]⟩, dt⟩ : Dp)) (doOs L1 L2 L3 (⟨1, tmpN nm, ⟨#[]⟩, dt⟩ : Dp)) (⟨2, tmpN nm, nm, ⟨#[]⟩⟩ : Dp), x.data.size ≤ 1048576) := so_next so0.out (by show (0 : Nat) ≤ _; omega)
    have DX1 : Hid (DkL (((u1.setCell ⟨P, 0, none⟩ (.slice b1 bn1 bc1)).setCell ⟨P, 1, none⟩ (.slice b2 bn2 bc2)).setCell ⟨P, 2, none⟩ (.slice b3 bn3 bc3)) b1 bn1 b2 bn2 b3 bn3 (doLv (doLv L1 L2 L3 (⟨1, tmpN nm, ⟨#[]⟩, dt⟩ : Dp)) (doSf L1 L2 L3 (⟨1, tmpN nm, ⟨#[]⟩, dt⟩ : Dp)) (doOs L1 L2 L3 (⟨1, tmpN nm, ⟨#[]⟩, dt⟩ : Dp)) (⟨2, tmpN nm, nm, ⟨#[]⟩⟩ : Dp)) (doSf (doLv L1 L2 L3 (⟨1, tmpN nm, ⟨#[]⟩, dt⟩ : Dp)) (doSf L1 L2 L3 (⟨1, tmpN nm, ⟨#[]⟩, dt⟩ : Dp)) (doOs L1 L2 L3 (⟨1, tmpN nm, ⟨#[]⟩, dt⟩ : Dp)) (⟨2, tmpN nm, nm, ⟨#[]⟩⟩ : Dp)) (doOs (doLv L1 L2 L3 (⟨1, tmpN nm, ⟨#[]⟩, dt⟩ : Dp)) (doSf L1 L2 L3 (⟨1, tmpN nm, ⟨#[]⟩, dt⟩ : Dp)) (doOs L1 L2 L3 (⟨1, tmpN nm, ⟨#[]⟩, dt⟩ : Dp)) (⟨2, tmpN nm, nm, ⟨#[]⟩⟩ : Dp))) := own_dkL XO1 nx1.out so1.out
    clear hk1 O1 XO1 XR1 XP1 XR XP D1
    have XR := XRn
    have XP := XPn
    clear XRn XPn
    have hs1 : (((u1.setCell ⟨P, 0, none⟩ (.slice b1 bn1 bc1)).setCell ⟨P, 1, none⟩ (.slice b2 bn2 bc2)).setCell ⟨P, 2, none⟩ (.slice b3 bn3 bc3)).heap.size = u1.heap.size := by simp [World.setCell]
    have EC : Hid (repC (L1, L2, L3) nm dt = 0) := (by simp [repC, rOps, HG.out, rep, cod, nxt, HK0.out, HK1.out] : repC (L1, L2, L3) nm dt = 0)
    have ET : Hid (repT (L1, L2, L3) nm dt = (doLv (doLv L1 L2 L3 (⟨1, tmpN nm, ⟨#[]⟩, dt⟩ : Dp)) (doSf L1 L2 L3 (⟨1, tmpN nm, ⟨#[]⟩, dt⟩ : Dp)) (doOs L1 L2 L3 (⟨1, tmpN nm, ⟨#[]⟩, dt⟩ : Dp)) (⟨2, tmpN nm, nm, ⟨#[]⟩⟩ : Dp), doSf (doLv L1 L2 L3 (⟨1, tmpN nm, ⟨#[]⟩, dt⟩ : Dp)) (doSf L1 L2 L3 (⟨1, tmpN nm, ⟨#[]⟩, dt⟩ : Dp)) (doOs L1 L2 L3 (⟨1, tmpN nm, ⟨#[]⟩, dt⟩ : Dp)) (⟨2, tmpN nm, nm, ⟨#[]⟩⟩ : Dp), doOs (doLv L1 L2 L3 (⟨1, tmpN nm, ⟨#[]⟩, dt⟩ : Dp)) (doSf L1 L2 L3 (⟨1, tmpN nm, ⟨#[]⟩, dt⟩ : Dp)) (doOs L1 L2 L3 (⟨1, tmpN nm, ⟨#[]⟩, dt⟩ : Dp)) (⟨2, tmpN nm, nm, ⟨#[]⟩⟩ : Dp))) := (by rw [repT, EC.out, if_pos rfl]; simp [rOps, HG.out, rep, cod, nxt, HK0.out, HK1.out] : repT (L1, L2, L3) nm dt = (doLv (doLv L1 L2 L3 (⟨1, tmpN nm, ⟨#[]⟩, dt⟩ : Dp)) (doSf L1 L2 L3 (⟨1, tmpN nm, ⟨#[]⟩, dt⟩ : Dp)) (doOs L1 L2 L3 (⟨1, tmpN nm, ⟨#[]⟩, dt⟩ : Dp)) (⟨2, tmpN nm, nm, ⟨#[]⟩⟩ : Dp), doSf (doLv L1 L2 L3 (⟨1, tmpN nm, ⟨#[]⟩, dt⟩ : Dp)) (doSf L1 L2 L3 (⟨1, tmpN nm, ⟨#[]⟩, dt⟩ : Dp)) (doOs L1 L2 L3 (⟨1, tmpN nm, ⟨#[]⟩, dt⟩ : Dp)) (⟨2, tmpN nm, nm, ⟨#[]⟩⟩ : Dp), doOs (doLv L1 L2 L3 (⟨1, tmpN nm, ⟨#[]⟩, dt⟩ : Dp)) (doSf L1 L2 L3 (⟨1, tmpN nm, ⟨#[]⟩, dt⟩ : Dp)) (doOs L1 L2 L3 (⟨1, tmpN nm, ⟨#[]⟩, dt⟩ : Dp)) (⟨2, tmpN nm, nm, ⟨#[]⟩⟩ : Dp)))
    go_wp2_with fail
    refine (copyL63 _ _ _ DX1.out).mono ?_
    rintro e z9 ⟨z1, zn1, zc1, z2, zn2, zc2, z3, zn3, zc3, rfl, O9, D9⟩
    have X9 : Hid (RBx w z9 (.slice q n c) (.slice q' m c') (.slice q'' r c'')) := XR.out.kept D9
    have O9 : Hid (Own3 z9 (w.heap.size + 1 + 1) (.slice z1 zn1 zc1) (.slice z2 zn2 zc2) (.slice z3 zn3 zc3) (doLv (doLv L1 L2 L3 (⟨1, tmpN nm, ⟨#[]⟩, dt⟩ : Dp)) (doSf L1 L2 L3 (⟨1, tmpN nm, ⟨#[]⟩, dt⟩ : Dp)) (doOs L1 L2 L3 (⟨1, tmpN nm, ⟨#[]⟩, dt⟩ : Dp)) (⟨2, tmpN nm, nm, ⟨#[]⟩⟩ : Dp)) (doSf (doLv L1 L2 L3 (⟨1, tmpN nm, ⟨#[]⟩, dt⟩ : Dp)) (doSf L1 L2 L3 (⟨1, tmpN nm, ⟨#[]⟩, dt⟩ : Dp)) (doOs L1 L2 L3 (⟨1, tmpN nm, ⟨#[]⟩, dt⟩ : Dp)) (⟨2, tmpN nm, nm, ⟨#[]⟩⟩ : Dp)) (doOs (doLv L1 L2 L3 (⟨1, tmpN nm, ⟨#[]⟩, dt⟩ : Dp)) (doSf L1 L2 L3 (⟨1, tmpN nm, ⟨#[]⟩, dt⟩ : Dp)) (doOs L1 L2 L3 (⟨1, tmpN nm, ⟨#[]⟩, dt⟩ : Dp)) (⟨2, tmpN nm, nm, ⟨#[]⟩⟩ : Dp))) := O9.mono XR.out.z.2.2
    clear D9
    obtain ⟨_, ⟨⟨y0, y1, y2⟩, yf, yl⟩, _⟩ := X9.out
    go_wp2
    exact bodyPost_ret (v := .tuple #[.agg #[.slice z1 zn1 zc1, .slice z2 zn2 zc2, .slice z3 zn3 zc3], .int .i64 0]) (by simp [results, Try.results25, go_sem, y0, y1, y2]) rfl ⟨_, by rw [EC.out], by rw [ET.out]; exact ansAt O9.out (by omega) (by omega) X9.out.b⟩
theorem repC_no {L1 L2 : List Fl} {L3 : List Dp} (nm dt : ByteArray) (hx : diskB L1 L2 L3 = false) : repC (L1, L2, L3) nm dt = 1 := by
  unfold repC rOps
  split <;> simp [rep, cod, doC, hx]
theorem repT_no {L1 L2 : List Fl} {L3 : List Dp} (nm dt : ByteArray) (hx : diskB L1 L2 L3 = false) : repT (L1, L2, L3) nm dt = ([], [], []) := by
  rw [repT, repC_no nm dt hx]
  simp
set_option maxHeartbeats 2000000 in
theorem specRepl_no (q q' q'' : Option Addr) (n m r c c' c'' : Nat) (L1 L2 : List Fl) (L3 : List Dp) (nm dt : ByteArray) (w : World) (h : DkL w q n q' m q'' r L1 L2 L3) (hx : diskB L1 L2 L3 = false) :
    Calls Try.prog 25 #[.agg #[.slice q n c, .slice q' m c', .slice q'' r c''], .string nm, .string dt] w fun e w' => ∃ v, e = .returned (.tuple #[v, .int .i64 (repC (L1, L2, L3) nm dt)]) ∧ DkAns w (repT (L1, L2, L3) nm dt).1 (repT (L1, L2, L3) nm dt).2.1 (repT (L1, L2, L3) nm dt).2.2 v w' := by
  rw [repC_no nm dt hx, repT_no nm dt hx]
  have HX : Hid (diskB L1 L2 L3 = false) := hx
  have DW : Hid (∀ V, Below w.heap.size w V → DkL V q n q' m q'' r L1 L2 L3) := fun V hV => h.below hV
  clear h hx
  obtain ⟨W0, hW0, X⟩ : ∃ W0, W0 = (w.alloc (.cells #[.slice q n c, .slice q' m c', .slice q'' r c''] 27)).alloc (.cells #[.slice none 0 0, .slice none 0 0, .slice none 0 0] 27) ∧ RBx w W0 (.slice q n c) (.slice q' m c') (.slice q'' r c'') := ⟨_, rfl, RBx.new w _ _ _⟩
  have HW0 : Hid (W0 = _) := hW0
  have X0 : Hid (RBx w W0 (.slice q n c) (.slice q' m c') (.slice q'' r c'')) := X
  clear hW0 X
  go_enter Try.func25, Try.ntmps25
  go_wp2_with fail
  rw [← HW0.out]
  refine (diskL15 _ _ _ (DW.out _ X0.out.b)).mono ?_
  rintro e w1 ⟨rfl, D1⟩
  rw [HX.out]
  have X1 : Hid (RBx w w1 (.slice q n c) (.slice q' m c') (.slice q'' r c'')) := X0.out.kept D1
  clear D1 X0 HW0
  obtain ⟨_, ⟨⟨z0, z1, z2⟩, zf, zl⟩, _⟩ := X1.out
  go_wp2
  exact bodyPost_ret (v := .tuple #[.agg #[.slice none 0 0, .slice none 0 0, .slice none 0 0], .int .i64 1]) (by simp [results, Try.results25, go_sem, z0, z1, z2]) rfl ⟨_, rfl, ansAt (B := w.heap.size + 1 + 1) ⟨FlL.nil _ _, FlL.nil _ _, DpL.nil _ _, fun g h => by cases h⟩ (by omega) (by omega) X1.out.b⟩
theorem specRepl (q q' q'' : Option Addr) (n m r c c' c'' : Nat) (L1 L2 : List Fl) (L3 : List Dp) (nm dt : ByteArray) (w : World) (h : DkL w q n q' m q'' r L1 L2 L3) (hso : ∀ x ∈ L3, x.data.size ≤ 1048576) (hnm : nm.size ≤ 1048576) (hdt : dt.size ≤ 1048576) :
    Calls Try.prog 25 #[.agg #[.slice q n c, .slice q' m c', .slice q'' r c''], .string nm, .string dt] w fun e w' => ∃ v, e = .returned (.tuple #[v, .int .i64 (repC (L1, L2, L3) nm dt)]) ∧ DkAns w (repT (L1, L2, L3) nm dt).1 (repT (L1, L2, L3) nm dt).2.1 (repT (L1, L2, L3) nm dt).2.2 v w' := by
  cases hx : diskB L1 L2 L3
  · exact specRepl_no q q' q'' n m r c c' c'' L1 L2 L3 nm dt w h hx
  · exact specRepl_some q q' q'' n m r c c' c'' L1 L2 L3 nm dt w h hx hso hnm hdt
end Go.Proofs.Ytcalgmhpagpnnaa
