/- The law FnExactDo returns true, whatever the disk and the op. Conditions: the disk's lists lie in memory. -/
import Derived.Test.YtcalgmhpagpnnaaSz
import Derived.Test.YtcalgmhpagpnnaaSg
import Derived.Test.YtcalgmhpagpnnaaLawS
import Derived.Deep.RegionHeld3
import Derived.Deep.DeepCutAuto
namespace Go.Proofs.Ytcalgmhpagpnnaa
open Go.RowKit
set_option maxRecDepth 8000

theorem doLv_len (Lv Sf : List Fl) (Os : List Dp) (o : Dp) (h : Lv.length ≤ 1048576) : (doLv Lv Sf Os o).length ≤ 1048576 := by
  unfold doLv
  split
  · simp
  split
  · rename_i h0
    cases hd : doF Lv o with
    | none => simp
    | some M =>
      have hM : filesB M = true := by
        unfold doC at h0
        split at h0
        · cases h0
        split at h0
        · cases h0
        rw [hd] at h0
        simp only at h0
        split at h0
        · cases h0
        · rename_i k
          cases hf : filesB M
          · exact absurd (Or.inr hf) k
          · rfl
      have := (filesB_iff.1 hM).1.1
      simp only [Option.getD_some]
      omega
  · exact h
theorem doSf_len (Lv Sf : List Fl) (Os : List Dp) (o : Dp) (h : Sf.length ≤ 1048576) : (doSf Lv Sf Os o).length ≤ 1048576 := by
  unfold doSf
  split
  · simp
  · exact h
theorem doOs_len (Lv Sf : List Fl) (Os : List Dp) (o : Dp) (h : Os.length ≤ 1048576) : (doOs Lv Sf Os o).length ≤ 1048576 := by
  unfold doOs
  split
  · simp
  split
  · rename_i h1 h0
    have : Os.length ≤ 200 := by
      unfold doC at h0
      split at h0
      · cases h0
      · rename_i hx
        have hx : diskB Lv Sf Os = true := by simpa using hx
        simp only [diskB, Bool.and_eq_true, decide_eq_true_eq] at hx
        exact hx.1.2
    simp
    omega
  · exact h

set_option maxHeartbeats 16000000 in
theorem lawDo (a b d : Option Addr) (n m q c c' c'' : Nat) (F G : Nat → Fl) (O : Nat → Dp) (o : Dp) (w : World) (h : DkIn w a n F b m G d q O) (ho : SmallDp o) :
    Calls Try.prog 7 #[.agg #[.slice a n c, .slice b m c', .slice d q c''], .agg #[.int .i64 o.kind, .string o.name, .string o.dst, .string o.data]] w fun e w' => e = .returned (.bool true) ∧ Below w.heap.size w w' := by
  have HI : Hid (DkIn w a n F b m G d q O) := h
  have HO : Hid (SmallDp o) := ho
  clear h ho
  obtain ⟨W0, hW0, xb⟩ : ∃ W0, W0 = (w.alloc (.cells #[.slice a n c, .slice b m c', .slice d q c''] 50)).alloc (.cells #[.int .i64 o.kind, .string o.name, .string o.dst, .string o.data] 55) ∧ BxO w W0 (.slice a n c) (.slice b m c') (.slice d q c'') o := ⟨_, rfl, BxO.new w _ _ _ o 50 55⟩
  have HW0 : Hid (W0 = _) := hW0
  have X0 : Hid (BxO w W0 (.slice a n c) (.slice b m c') (.slice d q c'') o) := xb
  clear hW0 xb
  go_enter Try.func7, Try.ntmps7
  go_wp2_with fail
  rw [← HW0.out]
  refine (szDisk a b d n m q c c' c'' F G O _ (HI.out.below X0.out.b)).mono ?_
  rintro e w1 ⟨⟨r, rfl, hr⟩, D1⟩
  have X1 : Hid (BxO w w1 (.slice a n c) (.slice b m c') (.slice d q c'') o) := X0.out.kept D1
  clear D1 X0 HW0
  rcases hr with ⟨hr, hc⟩ | ⟨rfl, hc⟩
  rotate_left
  · clear hc
    go_wp2
    go_ret
    exact ⟨rfl, X1.out.b⟩
  have r0 : 0 ≤ r := by omega
  have r1 : r ≤ 1048576 := by omega
  have H : Hid (Dk w a n F b m G d q O) := HI.out.dk (by omega)
  clear hr hc HI
  obtain ⟨_, ⟨⟨x0, x1, x2, x3⟩, _⟩, _⟩ := X1.out
  go_wp2_with fail
  refine (szDp o r _ HO.out r0 r1).mono ?_
  rintro e w2 ⟨⟨r2, rfl, hr⟩, D2⟩
  have X2 : Hid (BxO w w2 (.slice a n c) (.slice b m c') (.slice d q c'') o) := X1.out.kept D2
  clear D2 X1 x0 x1 x2 x3
  rcases hr with ⟨hr, hc⟩ | ⟨rfl, hc⟩
  rotate_left
  · clear hc
    go_wp2
    go_ret
    exact ⟨rfl, X2.out.b⟩
  have r20 : 0 ≤ r2 := by omega
  have hod : o.data.size ≤ 1048576 := by unfold costDp at hc; omega
  clear hr hc HO r0 r1
  obtain ⟨L1, L2, L3, rr, HSP, HIM, l1, l2, l3⟩ : ∃ (L1 L2 : List Fl) (L3 : List Dp) (rr : Int), Hid (∀ V R1 R2 R3 B, Own3 V B (.slice (some ⟨R1, 0, none⟩) n n) (.slice (some ⟨R2, 0, none⟩) m m) (.slice (some ⟨R3, 0, none⟩) q q) (lst F n) (lst G m) (lst O q) → Calls Try.prog 21 #[.agg #[.slice (some ⟨R1, 0, none⟩) n n, .slice (some ⟨R2, 0, none⟩) m m, .slice (some ⟨R3, 0, none⟩) q q], .agg #[.int .i64 o.kind, .string o.name, .string o.dst, .string o.data]] V fun e w' => ∃ v, e = .returned (.tuple #[v, .int .i64 rr]) ∧ DkAns V L1 L2 L3 v w') ∧ Hid (∀ V R1 R2 R3 B, Own3 V B (.slice (some ⟨R1, 0, none⟩) n n) (.slice (some ⟨R2, 0, none⟩) m m) (.slice (some ⟨R3, 0, none⟩) q q) (lst F n) (lst G m) (lst O q) → Calls Try.prog 20 #[.agg #[.slice (some ⟨R1, 0, none⟩) n n, .slice (some ⟨R2, 0, none⟩) m m, .slice (some ⟨R3, 0, none⟩) q q], .agg #[.int .i64 o.kind, .string o.name, .string o.dst, .string o.data]] V fun e w' => ∃ v, e = .returned (.tuple #[v, .int .i64 rr]) ∧ DkAns V L1 L2 L3 v w') ∧ L1.length ≤ 1048576 ∧ L2.length ≤ 1048576 ∧ L3.length ≤ 1048576 :=
    ⟨_, _, _, _, fun V R1 R2 R3 B hV => specDoDisk ⟨R1, 0, none⟩ ⟨R2, 0, none⟩ ⟨R3, 0, none⟩ n m q n m q F G O o V (dk_own hV H.out) hod, fun V R1 R2 R3 B hV => implDoDisk ⟨R1, 0, none⟩ ⟨R2, 0, none⟩ ⟨R3, 0, none⟩ n m q n m q F G O o V (dk_own hV H.out) hod, doLv_len _ _ _ _ (by rw [lst_len]; exact H.out.live.1), doSf_len _ _ _ _ (by rw [lst_len]; exact H.out.safe.1), doOs_len _ _ _ _ (by rw [lst_len]; exact H.out.ops.1)⟩
  have TDK : Hid (∀ V, Below w.heap.size w V → Calls Try.prog 27 #[.agg #[.slice a n c, .slice b m c', .slice d q c'']] V fun e w' => ∃ R1 R2 R3, e = .returned (.agg #[.slice (some ⟨R1, 0, none⟩) n n, .slice (some ⟨R2, 0, none⟩) m m, .slice (some ⟨R3, 0, none⟩) q q]) ∧ Own3 w' V.heap.size (.slice (some ⟨R1, 0, none⟩) n n) (.slice (some ⟨R2, 0, none⟩) m m) (.slice (some ⟨R3, 0, none⟩) q q) (lst F n) (lst G m) (lst O q) ∧ Below V.heap.size V w') := fun V hV => toDiskL a b d n m q c c' c'' F G O V (H.out.below hV)
  obtain ⟨n1, e1⟩ : ∃ n1, n1 = L1.length := ⟨_, rfl⟩
  obtain ⟨n2, e2⟩ : ∃ n2, n2 = L2.length := ⟨_, rfl⟩
  obtain ⟨n3, e3⟩ : ∃ n3, n3 = L3.length := ⟨_, rfl⟩
  have E1 : Hid (L1.length = n1) := e1.symm
  have E2 : Hid (L2.length = n2) := e2.symm
  have E3 : Hid (L3.length = n3) := e3.symm
  rw [← e1] at l1
  rw [← e2] at l2
  rw [← e3] at l3
  have OP : Hid (∀ V v w', DkAns V L1 L2 L3 v w' → ∃ a1 c1 a2 c2 a3 c3, v = .agg #[.slice a1 n1 c1, .slice a2 n2 c2, .slice a3 n3 c3] ∧ Own3 w' V.heap.size (.slice a1 n1 c1) (.slice a2 n2 c2) (.slice a3 n3 c3) L1 L2 L3 ∧ Below V.heap.size V w') := by
    rw [e1, e2, e3]
    exact fun V v w' hh => hh
  have LB : Hid (L1.length ≤ 1048576 ∧ L2.length ≤ 1048576 ∧ L3.length ≤ 1048576) := by rw [← e1, ← e2, ← e3]; exact ⟨l1, l2, l3⟩
  have hrr : (rr == rr) = true := by simp
  have hA0 : w.heap.size + 1 < w2.heap.size := X2.out.o.2
  clear e1 e2 e3 hod
  have LWX : Low w2.heap.size (fun V => BxO w V (.slice a n c) (.slice b m c') (.slice d q c'') o) := fun V V' y hb => y.low hb X2.out.o.2
  have yX : BxO w w2 (.slice a n c) (.slice b m c') (.slice d q c'') o := X2.out
  obtain ⟨Y, hY⟩ : ∃ Y : World → Prop, Y = fun V => BxO w V (.slice a n c) (.slice b m c') (.slice d q c'') o := ⟨_, rfl⟩
  have YO : Hid (∀ V, Y V → BxO w V (.slice a n c) (.slice b m c') (.slice d q c'') o) := fun V hV => by rw [hY] at hV; exact hV
  have LW : Hid (Low w2.heap.size Y) := by rw [hY]; exact LWX
  have y : Y w2 := by rw [hY]; exact yX
  have YS : Hid (∀ V, Y V → (V.cell? ⟨w.heap.size, 0, none⟩ = some (.slice a n c) ∧ V.cell? ⟨w.heap.size, 1, none⟩ = some (.slice b m c') ∧ V.cell? ⟨w.heap.size, 2, none⟩ = some (.slice d q c'') ∧ V.cell? ⟨w.heap.size + 1, 0, none⟩ = some (.int .i64 o.kind) ∧ V.cell? ⟨w.heap.size + 1, 1, none⟩ = some (.string o.name) ∧ V.cell? ⟨w.heap.size + 1, 2, none⟩ = some (.string o.dst) ∧ V.cell? ⟨w.heap.size + 1, 3, none⟩ = some (.string o.data))) := fun V hV => let x := YO.out V hV; ⟨x.d.1.1, x.d.1.2.1, x.d.1.2.2, x.o.1.1, x.o.1.2.1, x.o.1.2.2.1, x.o.1.2.2.2⟩
  have YB : Hid (∀ V, Y V → Below w.heap.size w V) := fun V hV => (YO.out V hV).b
  clear hY LWX yX
  have y0 : Y w2.drew := LW.out.drew y
  have y0a : Y (w2.alloc (.cells #[.slice none 0 0, .slice none 0 0, .slice none 0 0] 27)).drew := LW.out.drew (LW.out.alloc y (Nat.le_refl _) _)
  have q0a : Hid (Box3 (w2.alloc (.cells #[.slice none 0 0, .slice none 0 0, .slice none 0 0] 27)).drew w2.heap.size (.slice none 0 0) (.slice none 0 0) (.slice none 0 0)) := newDrew w2
  have hs0 : w2.heap.size ≤ w2.drew.heap.size := Nat.le_refl _
  have hs0a : w2.heap.size ≤ (w2.alloc (.cells #[.slice none 0 0, .slice none 0 0, .slice none 0 0] 27)).drew.heap.size := by show _ ≤ (w2.alloc (.cells #[.slice none 0 0, .slice none 0 0, .slice none 0 0] 27)).heap.size; simp
  have k0 : (w2.drew.cell? ⟨w.heap.size, 0, none⟩ = some (.slice a n c) ∧ w2.drew.cell? ⟨w.heap.size, 1, none⟩ = some (.slice b m c') ∧ w2.drew.cell? ⟨w.heap.size, 2, none⟩ = some (.slice d q c'') ∧ w2.drew.cell? ⟨w.heap.size + 1, 0, none⟩ = some (.int .i64 o.kind) ∧ w2.drew.cell? ⟨w.heap.size + 1, 1, none⟩ = some (.string o.name) ∧ w2.drew.cell? ⟨w.heap.size + 1, 2, none⟩ = some (.string o.dst) ∧ w2.drew.cell? ⟨w.heap.size + 1, 3, none⟩ = some (.string o.data)) := YS.out _ y0
  have k0a : ((w2.alloc (.cells #[.slice none 0 0, .slice none 0 0, .slice none 0 0] 27)).drew.cell? ⟨w.heap.size, 0, none⟩ = some (.slice a n c) ∧ (w2.alloc (.cells #[.slice none 0 0, .slice none 0 0, .slice none 0 0] 27)).drew.cell? ⟨w.heap.size, 1, none⟩ = some (.slice b m c') ∧ (w2.alloc (.cells #[.slice none 0 0, .slice none 0 0, .slice none 0 0] 27)).drew.cell? ⟨w.heap.size, 2, none⟩ = some (.slice d q c'') ∧ (w2.alloc (.cells #[.slice none 0 0, .slice none 0 0, .slice none 0 0] 27)).drew.cell? ⟨w.heap.size + 1, 0, none⟩ = some (.int .i64 o.kind) ∧ (w2.alloc (.cells #[.slice none 0 0, .slice none 0 0, .slice none 0 0] 27)).drew.cell? ⟨w.heap.size + 1, 1, none⟩ = some (.string o.name) ∧ (w2.alloc (.cells #[.slice none 0 0, .slice none 0 0, .slice none 0 0] 27)).drew.cell? ⟨w.heap.size + 1, 2, none⟩ = some (.string o.dst) ∧ (w2.alloc (.cells #[.slice none 0 0, .slice none 0 0, .slice none 0 0] 27)).drew.cell? ⟨w.heap.size + 1, 3, none⟩ = some (.string o.data)) := YS.out _ y0a
  go_wp2_with fail
  go_cut [6, 7] (fun sp sr wx => ∃ P p1 pc1 p2 pc2 p3 pc3, sp = .pointer (some ⟨P, 0, none⟩) ∧ sr = .int .i64 rr ∧ Hid (Y wx ∧ SG wx w2.heap.size wx.heap.size P (.slice p1 n1 pc1) (.slice p2 n2 pc2) (.slice p3 n3 pc3) L1 L2 L3))
  case first =>
    go_region_held3 (fun V => (V.cell? ⟨w.heap.size, 0, none⟩ = some (.slice a n c) ∧ V.cell? ⟨w.heap.size, 1, none⟩ = some (.slice b m c') ∧ V.cell? ⟨w.heap.size, 2, none⟩ = some (.slice d q c'') ∧ V.cell? ⟨w.heap.size + 1, 0, none⟩ = some (.int .i64 o.kind) ∧ V.cell? ⟨w.heap.size + 1, 1, none⟩ = some (.string o.name) ∧ V.cell? ⟨w.heap.size + 1, 2, none⟩ = some (.string o.dst) ∧ V.cell? ⟨w.heap.size + 1, 3, none⟩ = some (.string o.data))) (first | with_reducible exact k0 | with_reducible exact k0a | with_reducible exact k1 | with_reducible exact k1a | with_reducible exact k2 | with_reducible exact k2a | with_reducible exact k3 | with_reducible exact k3a _ | with_reducible exact k3s _ _ _ _ (by omega)) (first | (go_at_call 27; refine (TDK.out _ (by first | with_reducible exact YB.out _ y0 | with_reducible exact YB.out _ y0a)).mono ?_; rintro e u1 ⟨R1, R2, R3, rfl, M1, B1⟩; have y1 : Y u1 := (by first | with_reducible exact LW.out.kept y0 hs0 B1 | with_reducible exact LW.out.kept y0a hs0a B1); have hs1 : w2.heap.size ≤ u1.heap.size := (by first | with_reducible exact Nat.le_trans hs0 B1.size | with_reducible exact Nat.le_trans hs0a B1.size); have y1a : Y (u1.alloc (.cells #[.slice none 0 0, .slice none 0 0, .slice none 0 0] 27)) := LW.out.alloc y1 hs1 _; have k1 : (u1.cell? ⟨w.heap.size, 0, none⟩ = some (.slice a n c) ∧ u1.cell? ⟨w.heap.size, 1, none⟩ = some (.slice b m c') ∧ u1.cell? ⟨w.heap.size, 2, none⟩ = some (.slice d q c'') ∧ u1.cell? ⟨w.heap.size + 1, 0, none⟩ = some (.int .i64 o.kind) ∧ u1.cell? ⟨w.heap.size + 1, 1, none⟩ = some (.string o.name) ∧ u1.cell? ⟨w.heap.size + 1, 2, none⟩ = some (.string o.dst) ∧ u1.cell? ⟨w.heap.size + 1, 3, none⟩ = some (.string o.data)) := YS.out _ y1; have k1a : ((u1.alloc (.cells #[.slice none 0 0, .slice none 0 0, .slice none 0 0] 27)).cell? ⟨w.heap.size, 0, none⟩ = some (.slice a n c) ∧ (u1.alloc (.cells #[.slice none 0 0, .slice none 0 0, .slice none 0 0] 27)).cell? ⟨w.heap.size, 1, none⟩ = some (.slice b m c') ∧ (u1.alloc (.cells #[.slice none 0 0, .slice none 0 0, .slice none 0 0] 27)).cell? ⟨w.heap.size, 2, none⟩ = some (.slice d q c'') ∧ (u1.alloc (.cells #[.slice none 0 0, .slice none 0 0, .slice none 0 0] 27)).cell? ⟨w.heap.size + 1, 0, none⟩ = some (.int .i64 o.kind) ∧ (u1.alloc (.cells #[.slice none 0 0, .slice none 0 0, .slice none 0 0] 27)).cell? ⟨w.heap.size + 1, 1, none⟩ = some (.string o.name) ∧ (u1.alloc (.cells #[.slice none 0 0, .slice none 0 0, .slice none 0 0] 27)).cell? ⟨w.heap.size + 1, 2, none⟩ = some (.string o.dst) ∧ (u1.alloc (.cells #[.slice none 0 0, .slice none 0 0, .slice none 0 0] 27)).cell? ⟨w.heap.size + 1, 3, none⟩ = some (.string o.data)) := YS.out _ y1a; have hs1a : w2.heap.size ≤ (u1.alloc (.cells #[.slice none 0 0, .slice none 0 0, .slice none 0 0] 27)).heap.size := Nat.le_trans hs1 (by simp); have NO1' : Own3 u1 w2.heap.size (.slice (some ⟨R1, 0, none⟩) n n) (.slice (some ⟨R2, 0, none⟩) m m) (.slice (some ⟨R3, 0, none⟩) q q) (lst F n) (lst G m) (lst O q) := (by first | with_reducible exact M1.mono hs0 | with_reducible exact M1.mono hs0a); have NO1 : Hid (Own3 u1 w2.heap.size (.slice (some ⟨R1, 0, none⟩) n n) (.slice (some ⟨R2, 0, none⟩) m m) (.slice (some ⟨R3, 0, none⟩) q q) (lst F n) (lst G m) (lst O q)) := NO1'; clear NO1'; have NO1a : Hid (Own3 (u1.alloc (.cells #[.slice none 0 0, .slice none 0 0, .slice none 0 0] 27)) w2.heap.size (.slice (some ⟨R1, 0, none⟩) n n) (.slice (some ⟨R2, 0, none⟩) m m) (.slice (some ⟨R3, 0, none⟩) q q) (lst F n) (lst G m) (lst O q)) := NO1.out.kept ((Below.refl _ _).alloc (Nat.le_refl _) _); (first | (have q1' : Box3 u1 w2.heap.size (.slice none 0 0) (.slice none 0 0) (.slice none 0 0) := (by first | with_reducible exact q0a.out.keptS B1); have q1 : Hid (Box3 u1 w2.heap.size (.slice none 0 0) (.slice none 0 0) (.slice none 0 0)) := q1'; clear q1') | skip); clear B1 M1) | (go_at_call 30; refine (toDOp o _).mono ?_; rintro e u2 ⟨rfl, B2⟩; have y2 : Y u2 := (by first | with_reducible exact LW.out.kept y1 hs1 B2 | with_reducible exact LW.out.kept y1a hs1a B2); have hs2 : w2.heap.size ≤ u2.heap.size := (by first | with_reducible exact Nat.le_trans hs1 B2.size | with_reducible exact Nat.le_trans hs1a B2.size); have y2a : Y (u2.alloc (.cells #[.slice none 0 0, .slice none 0 0, .slice none 0 0] 27)) := LW.out.alloc y2 hs2 _; have k2 : (u2.cell? ⟨w.heap.size, 0, none⟩ = some (.slice a n c) ∧ u2.cell? ⟨w.heap.size, 1, none⟩ = some (.slice b m c') ∧ u2.cell? ⟨w.heap.size, 2, none⟩ = some (.slice d q c'') ∧ u2.cell? ⟨w.heap.size + 1, 0, none⟩ = some (.int .i64 o.kind) ∧ u2.cell? ⟨w.heap.size + 1, 1, none⟩ = some (.string o.name) ∧ u2.cell? ⟨w.heap.size + 1, 2, none⟩ = some (.string o.dst) ∧ u2.cell? ⟨w.heap.size + 1, 3, none⟩ = some (.string o.data)) := YS.out _ y2; have k2a : ((u2.alloc (.cells #[.slice none 0 0, .slice none 0 0, .slice none 0 0] 27)).cell? ⟨w.heap.size, 0, none⟩ = some (.slice a n c) ∧ (u2.alloc (.cells #[.slice none 0 0, .slice none 0 0, .slice none 0 0] 27)).cell? ⟨w.heap.size, 1, none⟩ = some (.slice b m c') ∧ (u2.alloc (.cells #[.slice none 0 0, .slice none 0 0, .slice none 0 0] 27)).cell? ⟨w.heap.size, 2, none⟩ = some (.slice d q c'') ∧ (u2.alloc (.cells #[.slice none 0 0, .slice none 0 0, .slice none 0 0] 27)).cell? ⟨w.heap.size + 1, 0, none⟩ = some (.int .i64 o.kind) ∧ (u2.alloc (.cells #[.slice none 0 0, .slice none 0 0, .slice none 0 0] 27)).cell? ⟨w.heap.size + 1, 1, none⟩ = some (.string o.name) ∧ (u2.alloc (.cells #[.slice none 0 0, .slice none 0 0, .slice none 0 0] 27)).cell? ⟨w.heap.size + 1, 2, none⟩ = some (.string o.dst) ∧ (u2.alloc (.cells #[.slice none 0 0, .slice none 0 0, .slice none 0 0] 27)).cell? ⟨w.heap.size + 1, 3, none⟩ = some (.string o.data)) := YS.out _ y2a; have hs2a : w2.heap.size ≤ (u2.alloc (.cells #[.slice none 0 0, .slice none 0 0, .slice none 0 0] 27)).heap.size := Nat.le_trans hs2 (by simp); have NO2' : Own3 u2 w2.heap.size (.slice (some ⟨R1, 0, none⟩) n n) (.slice (some ⟨R2, 0, none⟩) m m) (.slice (some ⟨R3, 0, none⟩) q q) (lst F n) (lst G m) (lst O q) := (by first | with_reducible exact NO1.out.kept B2 | with_reducible exact NO1a.out.kept B2); have NO2 : Hid (Own3 u2 w2.heap.size (.slice (some ⟨R1, 0, none⟩) n n) (.slice (some ⟨R2, 0, none⟩) m m) (.slice (some ⟨R3, 0, none⟩) q q) (lst F n) (lst G m) (lst O q)) := NO2'; clear NO2'; have NO2a : Hid (Own3 (u2.alloc (.cells #[.slice none 0 0, .slice none 0 0, .slice none 0 0] 27)) w2.heap.size (.slice (some ⟨R1, 0, none⟩) n n) (.slice (some ⟨R2, 0, none⟩) m m) (.slice (some ⟨R3, 0, none⟩) q q) (lst F n) (lst G m) (lst O q)) := NO2.out.kept ((Below.refl _ _).alloc (Nat.le_refl _) _); (first | (have q2' : Box3 u2 w2.heap.size (.slice none 0 0) (.slice none 0 0) (.slice none 0 0) := (by first | with_reducible exact q1.out.keptS B2); have q2 : Hid (Box3 u2 w2.heap.size (.slice none 0 0) (.slice none 0 0) (.slice none 0 0)) := q2'; clear q2') | (have q2' : Box3 u2 u1.heap.size (.slice none 0 0) (.slice none 0 0) (.slice none 0 0) := (by first | with_reducible exact (Box3.new u1 _ _ _ 27).keptS B2); have q2 : Hid (Box3 u2 u1.heap.size (.slice none 0 0) (.slice none 0 0) (.slice none 0 0)) := q2'; clear q2') | skip); clear B2) | (go_at_call 21; refine (HSP.out _ R1 R2 R3 _ (by first | with_reducible exact NO2.out | with_reducible exact NO2a.out)).mono ?_; rintro e u3 ⟨v3, rfl, A3⟩; obtain ⟨p1, pc1, p2, pc2, p3, pc3, hv3, O3, B3⟩ := OP.out _ _ _ A3; subst hv3; have y3 : Y u3 := (by first | with_reducible exact LW.out.kept y2 hs2 B3 | with_reducible exact LW.out.kept y2a hs2a B3); have hs3 : w2.heap.size ≤ u3.heap.size := (by first | with_reducible exact Nat.le_trans hs2 B3.size | with_reducible exact Nat.le_trans hs2a B3.size); have k3 : (u3.cell? ⟨w.heap.size, 0, none⟩ = some (.slice a n c) ∧ u3.cell? ⟨w.heap.size, 1, none⟩ = some (.slice b m c') ∧ u3.cell? ⟨w.heap.size, 2, none⟩ = some (.slice d q c'') ∧ u3.cell? ⟨w.heap.size + 1, 0, none⟩ = some (.int .i64 o.kind) ∧ u3.cell? ⟨w.heap.size + 1, 1, none⟩ = some (.string o.name) ∧ u3.cell? ⟨w.heap.size + 1, 2, none⟩ = some (.string o.dst) ∧ u3.cell? ⟨w.heap.size + 1, 3, none⟩ = some (.string o.data)) := YS.out _ y3; have k3a : ∀ ob, ((u3.alloc ob).cell? ⟨w.heap.size, 0, none⟩ = some (.slice a n c) ∧ (u3.alloc ob).cell? ⟨w.heap.size, 1, none⟩ = some (.slice b m c') ∧ (u3.alloc ob).cell? ⟨w.heap.size, 2, none⟩ = some (.slice d q c'') ∧ (u3.alloc ob).cell? ⟨w.heap.size + 1, 0, none⟩ = some (.int .i64 o.kind) ∧ (u3.alloc ob).cell? ⟨w.heap.size + 1, 1, none⟩ = some (.string o.name) ∧ (u3.alloc ob).cell? ⟨w.heap.size + 1, 2, none⟩ = some (.string o.dst) ∧ (u3.alloc ob).cell? ⟨w.heap.size + 1, 3, none⟩ = some (.string o.data)) := fun ob => YS.out _ (LW.out.alloc y3 hs3 ob); have k3s : ∀ (P : Nat) (x1 x2 x3 : Value), w2.heap.size ≤ P → ((((u3.setCell ⟨P, 0, none⟩ x1).setCell ⟨P, 1, none⟩ x2).setCell ⟨P, 2, none⟩ x3).cell? ⟨w.heap.size, 0, none⟩ = some (.slice a n c) ∧ (((u3.setCell ⟨P, 0, none⟩ x1).setCell ⟨P, 1, none⟩ x2).setCell ⟨P, 2, none⟩ x3).cell? ⟨w.heap.size, 1, none⟩ = some (.slice b m c') ∧ (((u3.setCell ⟨P, 0, none⟩ x1).setCell ⟨P, 1, none⟩ x2).setCell ⟨P, 2, none⟩ x3).cell? ⟨w.heap.size, 2, none⟩ = some (.slice d q c'') ∧ (((u3.setCell ⟨P, 0, none⟩ x1).setCell ⟨P, 1, none⟩ x2).setCell ⟨P, 2, none⟩ x3).cell? ⟨w.heap.size + 1, 0, none⟩ = some (.int .i64 o.kind) ∧ (((u3.setCell ⟨P, 0, none⟩ x1).setCell ⟨P, 1, none⟩ x2).setCell ⟨P, 2, none⟩ x3).cell? ⟨w.heap.size + 1, 1, none⟩ = some (.string o.name) ∧ (((u3.setCell ⟨P, 0, none⟩ x1).setCell ⟨P, 1, none⟩ x2).setCell ⟨P, 2, none⟩ x3).cell? ⟨w.heap.size + 1, 2, none⟩ = some (.string o.dst) ∧ (((u3.setCell ⟨P, 0, none⟩ x1).setCell ⟨P, 1, none⟩ x2).setCell ⟨P, 2, none⟩ x3).cell? ⟨w.heap.size + 1, 3, none⟩ = some (.string o.data)) := fun P x1 x2 x3 hP => YS.out _ (LW.out.sets y3 hP x1 x2 x3); (first | (have FX0 := doneSet y3 LW.out O3 (q2.out.kept B3 q2.out.2.2) (by omega) q2.out.2.2; obtain ⟨⟨pb0, pb1, pb2⟩, pf, pl⟩ := q2.out.kept B3 q2.out.2.2) | (have FX0 := doneSet y3 LW.out O3 ((Box3.new u2 _ _ _ 27).kept B3 (by simp)) (by omega) (by simp); obtain ⟨⟨pb0, pb1, pb2⟩, pf, pl⟩ := (Box3.new u2 (.slice none 0 0) (.slice none 0 0) (.slice none 0 0) 27).kept B3 (by simp)) | have FX0 := doneNew y3 LW.out O3 (by omega) hs3); have FX : Hid _ := FX0; clear FX0 A3 O3 B3))
    all_goals go_wp2_with fail
    all_goals go_meet
    all_goals exact ⟨_, p1, pc1, p2, pc2, p3, pc3, rfl, rfl, FX⟩
  case rest =>
    obtain ⟨P, p1, pc1, p2, pc2, p3, pc3, rfl, rfl, FX⟩ := hcut
    obtain ⟨w3, hw3⟩ : ∃ w3, w3 = wc := ⟨_, rfl⟩
    subst hw3
    have X3 : Hid (BxO w w3 (.slice a n c) (.slice b m c') (.slice d q c'') o ∧ SG w3 w2.heap.size w3.heap.size P (.slice p1 n1 pc1) (.slice p2 n2 pc2) (.slice p3 n3 pc3) L1 L2 L3) := ⟨YO.out _ FX.out.1, FX.out.2⟩
    have hA1 : w2.heap.size < w3.heap.size := Nat.lt_of_le_of_lt X3.out.2.p1 X3.out.2.p2
    clear FX YO LW y YS YB y0 y0a q0a hs0 hs0a k0 k0a X2 HSP
    obtain ⟨⟨⟨⟨s0, s1, s2⟩, _, _⟩, _, _⟩, _⟩ := X3.out
    go_wp2_with fail
    refine (TDK.out _ X3.out.1.b).mono ?_
    rintro e w4 ⟨Q1, Q2, Q3, rfl, M4, D4⟩
    obtain ⟨V4, hV4, yX, hz4⟩ : ∃ V4, V4 = w4.alloc (.cells #[.slice (some ⟨Q1, 0, none⟩) n n, .slice (some ⟨Q2, 0, none⟩) m m, .slice (some ⟨Q3, 0, none⟩) q q] 27) ∧ ((BxO w V4 (.slice a n c) (.slice b m c') (.slice d q c'') o ∧ SG V4 w2.heap.size w3.heap.size P (.slice p1 n1 pc1) (.slice p2 n2 pc2) (.slice p3 n3 pc3) L1 L2 L3) ∧ SG V4 w3.heap.size V4.heap.size w4.heap.size (.slice (some ⟨Q1, 0, none⟩) n n) (.slice (some ⟨Q2, 0, none⟩) m m) (.slice (some ⟨Q3, 0, none⟩) q q) (lst F n) (lst G m) (lst O q)) ∧ w3.heap.size < V4.heap.size :=
      ⟨_, rfl, doneNew (Y := fun V => BxO w V (.slice a n c) (.slice b m c') (.slice d q c'') o ∧ SG V w2.heap.size w3.heap.size P (.slice p1 n1 pc1) (.slice p2 n2 pc2) (.slice p3 n3 pc3) L1 L2 L3) (u := w4) ⟨X3.out.1.kept D4, X3.out.2.low D4 (Nat.le_refl _)⟩ (fun V V' y hb => ⟨y.1.low hb (by omega), y.2.low hb (Nat.le_refl _)⟩) M4 (Nat.le_refl _) D4.size, by have := D4.size; simp; omega⟩
    have HV4 : Hid (V4 = _) := hV4
    obtain ⟨Q, hQ⟩ : ∃ Q, Q = w4.heap.size := ⟨_, rfl⟩
    have HQ : Hid (Q = w4.heap.size) := hQ
    rw [← hQ] at yX
    have yX : BxO w V4 (.slice a n c) (.slice b m c') (.slice d q c'') o ∧ SG V4 w2.heap.size w3.heap.size P (.slice p1 n1 pc1) (.slice p2 n2 pc2) (.slice p3 n3 pc3) L1 L2 L3 ∧ SG V4 w3.heap.size V4.heap.size Q (.slice (some ⟨Q1, 0, none⟩) n n) (.slice (some ⟨Q2, 0, none⟩) m m) (.slice (some ⟨Q3, 0, none⟩) q q) (lst F n) (lst G m) (lst O q) := ⟨yX.1.1, yX.1.2, yX.2⟩
    obtain ⟨⟨⟨s0, s1, s2⟩, _, _⟩, _, _⟩ := X3.out.1.kept D4
    clear hV4 hQ D4 M4 X3
    have LWX : Low V4.heap.size (fun V => BxO w V (.slice a n c) (.slice b m c') (.slice d q c'') o ∧ SG V w2.heap.size w3.heap.size P (.slice p1 n1 pc1) (.slice p2 n2 pc2) (.slice p3 n3 pc3) L1 L2 L3 ∧ SG V w3.heap.size V4.heap.size Q (.slice (some ⟨Q1, 0, none⟩) n n) (.slice (some ⟨Q2, 0, none⟩) m m) (.slice (some ⟨Q3, 0, none⟩) q q) (lst F n) (lst G m) (lst O q)) := fun V V' y hb => ⟨y.1.low hb (by omega), y.2.1.low hb (by omega), y.2.2.low hb (Nat.le_refl _)⟩
    go_wp2_with fail
    rw [← HV4.out, ← HQ.out]
    clear HV4 HQ s0 s1 s2
    obtain ⟨Y2, hY2⟩ : ∃ Y2 : World → Prop, Y2 = fun V => BxO w V (.slice a n c) (.slice b m c') (.slice d q c'') o ∧ SG V w2.heap.size w3.heap.size P (.slice p1 n1 pc1) (.slice p2 n2 pc2) (.slice p3 n3 pc3) L1 L2 L3 ∧ SG V w3.heap.size V4.heap.size Q (.slice (some ⟨Q1, 0, none⟩) n n) (.slice (some ⟨Q2, 0, none⟩) m m) (.slice (some ⟨Q3, 0, none⟩) q q) (lst F n) (lst G m) (lst O q) := ⟨_, rfl⟩
    have YO : Hid (∀ V, Y2 V → BxO w V (.slice a n c) (.slice b m c') (.slice d q c'') o ∧ SG V w2.heap.size w3.heap.size P (.slice p1 n1 pc1) (.slice p2 n2 pc2) (.slice p3 n3 pc3) L1 L2 L3 ∧ SG V w3.heap.size V4.heap.size Q (.slice (some ⟨Q1, 0, none⟩) n n) (.slice (some ⟨Q2, 0, none⟩) m m) (.slice (some ⟨Q3, 0, none⟩) q q) (lst F n) (lst G m) (lst O q)) := fun V hV => by rw [hY2] at hV; exact hV
    have LW : Hid (Low V4.heap.size Y2) := by rw [hY2]; exact LWX
    have y : Y2 V4 := by rw [hY2]; exact yX
    have YS : Hid (∀ V, Y2 V → (V.cell? ⟨Q, 0, none⟩ = some (.slice (some ⟨Q1, 0, none⟩) n n) ∧ V.cell? ⟨Q, 1, none⟩ = some (.slice (some ⟨Q2, 0, none⟩) m m) ∧ V.cell? ⟨Q, 2, none⟩ = some (.slice (some ⟨Q3, 0, none⟩) q q) ∧ V.cell? ⟨w.heap.size + 1, 0, none⟩ = some (.int .i64 o.kind) ∧ V.cell? ⟨w.heap.size + 1, 1, none⟩ = some (.string o.name) ∧ V.cell? ⟨w.heap.size + 1, 2, none⟩ = some (.string o.dst) ∧ V.cell? ⟨w.heap.size + 1, 3, none⟩ = some (.string o.data))) := fun V hV => let x := (YO.out V hV).1; let z := (YO.out V hV).2.2.box; ⟨z.1.1, z.1.2.1, z.1.2.2, x.o.1.1, x.o.1.2.1, x.o.1.2.2.1, x.o.1.2.2.2⟩
    have QO : Hid (∀ V, Y2 V → Own3 V w3.heap.size (.slice (some ⟨Q1, 0, none⟩) n n) (.slice (some ⟨Q2, 0, none⟩) m m) (.slice (some ⟨Q3, 0, none⟩) q q) (lst F n) (lst G m) (lst O q)) := fun V hV => (YO.out V hV).2.2.own
    clear hY2 LWX yX
    have y0 : Y2 V4.drew := LW.out.drew y
    have y0a : Y2 (V4.alloc (.cells #[.slice none 0 0, .slice none 0 0, .slice none 0 0] 27)).drew := LW.out.drew (LW.out.alloc y (Nat.le_refl _) _)
    have q0a : Hid (Box3 (V4.alloc (.cells #[.slice none 0 0, .slice none 0 0, .slice none 0 0] 27)).drew V4.heap.size (.slice none 0 0) (.slice none 0 0) (.slice none 0 0)) := newDrew V4
    have hs0 : V4.heap.size ≤ V4.drew.heap.size := Nat.le_refl _
    have hs0a : V4.heap.size ≤ (V4.alloc (.cells #[.slice none 0 0, .slice none 0 0, .slice none 0 0] 27)).drew.heap.size := by show _ ≤ (V4.alloc (.cells #[.slice none 0 0, .slice none 0 0, .slice none 0 0] 27)).heap.size; simp
    have k0 : (V4.drew.cell? ⟨Q, 0, none⟩ = some (.slice (some ⟨Q1, 0, none⟩) n n) ∧ V4.drew.cell? ⟨Q, 1, none⟩ = some (.slice (some ⟨Q2, 0, none⟩) m m) ∧ V4.drew.cell? ⟨Q, 2, none⟩ = some (.slice (some ⟨Q3, 0, none⟩) q q) ∧ V4.drew.cell? ⟨w.heap.size + 1, 0, none⟩ = some (.int .i64 o.kind) ∧ V4.drew.cell? ⟨w.heap.size + 1, 1, none⟩ = some (.string o.name) ∧ V4.drew.cell? ⟨w.heap.size + 1, 2, none⟩ = some (.string o.dst) ∧ V4.drew.cell? ⟨w.heap.size + 1, 3, none⟩ = some (.string o.data)) := YS.out _ y0
    have k0a : ((V4.alloc (.cells #[.slice none 0 0, .slice none 0 0, .slice none 0 0] 27)).drew.cell? ⟨Q, 0, none⟩ = some (.slice (some ⟨Q1, 0, none⟩) n n) ∧ (V4.alloc (.cells #[.slice none 0 0, .slice none 0 0, .slice none 0 0] 27)).drew.cell? ⟨Q, 1, none⟩ = some (.slice (some ⟨Q2, 0, none⟩) m m) ∧ (V4.alloc (.cells #[.slice none 0 0, .slice none 0 0, .slice none 0 0] 27)).drew.cell? ⟨Q, 2, none⟩ = some (.slice (some ⟨Q3, 0, none⟩) q q) ∧ (V4.alloc (.cells #[.slice none 0 0, .slice none 0 0, .slice none 0 0] 27)).drew.cell? ⟨w.heap.size + 1, 0, none⟩ = some (.int .i64 o.kind) ∧ (V4.alloc (.cells #[.slice none 0 0, .slice none 0 0, .slice none 0 0] 27)).drew.cell? ⟨w.heap.size + 1, 1, none⟩ = some (.string o.name) ∧ (V4.alloc (.cells #[.slice none 0 0, .slice none 0 0, .slice none 0 0] 27)).drew.cell? ⟨w.heap.size + 1, 2, none⟩ = some (.string o.dst) ∧ (V4.alloc (.cells #[.slice none 0 0, .slice none 0 0, .slice none 0 0] 27)).drew.cell? ⟨w.heap.size + 1, 3, none⟩ = some (.string o.data)) := YS.out _ y0a
    go_cut [9, 10] (fun sp sr wx => ∃ P p1 pc1 p2 pc2 p3 pc3, sp = .pointer (some ⟨P, 0, none⟩) ∧ sr = .int .i64 rr ∧ Hid (Y2 wx ∧ SG wx V4.heap.size wx.heap.size P (.slice p1 n1 pc1) (.slice p2 n2 pc2) (.slice p3 n3 pc3) L1 L2 L3))
    case first =>
      go_region_held3 (fun V => (V.cell? ⟨Q, 0, none⟩ = some (.slice (some ⟨Q1, 0, none⟩) n n) ∧ V.cell? ⟨Q, 1, none⟩ = some (.slice (some ⟨Q2, 0, none⟩) m m) ∧ V.cell? ⟨Q, 2, none⟩ = some (.slice (some ⟨Q3, 0, none⟩) q q) ∧ V.cell? ⟨w.heap.size + 1, 0, none⟩ = some (.int .i64 o.kind) ∧ V.cell? ⟨w.heap.size + 1, 1, none⟩ = some (.string o.name) ∧ V.cell? ⟨w.heap.size + 1, 2, none⟩ = some (.string o.dst) ∧ V.cell? ⟨w.heap.size + 1, 3, none⟩ = some (.string o.data))) (first | with_reducible exact k0 | with_reducible exact k0a | with_reducible exact k1 | with_reducible exact k1a | with_reducible exact k2 | with_reducible exact k2a _ | with_reducible exact k2s _ _ _ _ (by omega)) (first | (go_at_call 30; refine (toDOp o _).mono ?_; rintro e u1 ⟨rfl, B1⟩; have y1 : Y2 u1 := (by first | with_reducible exact LW.out.kept y0 hs0 B1 | with_reducible exact LW.out.kept y0a hs0a B1); have hs1 : V4.heap.size ≤ u1.heap.size := (by first | with_reducible exact Nat.le_trans hs0 B1.size | with_reducible exact Nat.le_trans hs0a B1.size); have y1a : Y2 (u1.alloc (.cells #[.slice none 0 0, .slice none 0 0, .slice none 0 0] 27)) := LW.out.alloc y1 hs1 _; have k1 : (u1.cell? ⟨Q, 0, none⟩ = some (.slice (some ⟨Q1, 0, none⟩) n n) ∧ u1.cell? ⟨Q, 1, none⟩ = some (.slice (some ⟨Q2, 0, none⟩) m m) ∧ u1.cell? ⟨Q, 2, none⟩ = some (.slice (some ⟨Q3, 0, none⟩) q q) ∧ u1.cell? ⟨w.heap.size + 1, 0, none⟩ = some (.int .i64 o.kind) ∧ u1.cell? ⟨w.heap.size + 1, 1, none⟩ = some (.string o.name) ∧ u1.cell? ⟨w.heap.size + 1, 2, none⟩ = some (.string o.dst) ∧ u1.cell? ⟨w.heap.size + 1, 3, none⟩ = some (.string o.data)) := YS.out _ y1; have k1a : ((u1.alloc (.cells #[.slice none 0 0, .slice none 0 0, .slice none 0 0] 27)).cell? ⟨Q, 0, none⟩ = some (.slice (some ⟨Q1, 0, none⟩) n n) ∧ (u1.alloc (.cells #[.slice none 0 0, .slice none 0 0, .slice none 0 0] 27)).cell? ⟨Q, 1, none⟩ = some (.slice (some ⟨Q2, 0, none⟩) m m) ∧ (u1.alloc (.cells #[.slice none 0 0, .slice none 0 0, .slice none 0 0] 27)).cell? ⟨Q, 2, none⟩ = some (.slice (some ⟨Q3, 0, none⟩) q q) ∧ (u1.alloc (.cells #[.slice none 0 0, .slice none 0 0, .slice none 0 0] 27)).cell? ⟨w.heap.size + 1, 0, none⟩ = some (.int .i64 o.kind) ∧ (u1.alloc (.cells #[.slice none 0 0, .slice none 0 0, .slice none 0 0] 27)).cell? ⟨w.heap.size + 1, 1, none⟩ = some (.string o.name) ∧ (u1.alloc (.cells #[.slice none 0 0, .slice none 0 0, .slice none 0 0] 27)).cell? ⟨w.heap.size + 1, 2, none⟩ = some (.string o.dst) ∧ (u1.alloc (.cells #[.slice none 0 0, .slice none 0 0, .slice none 0 0] 27)).cell? ⟨w.heap.size + 1, 3, none⟩ = some (.string o.data)) := YS.out _ y1a; have hs1a : V4.heap.size ≤ (u1.alloc (.cells #[.slice none 0 0, .slice none 0 0, .slice none 0 0] 27)).heap.size := Nat.le_trans hs1 (by simp); (first | (have q1' : Box3 u1 V4.heap.size (.slice none 0 0) (.slice none 0 0) (.slice none 0 0) := (by first | with_reducible exact q0a.out.keptS B1); have q1 : Hid (Box3 u1 V4.heap.size (.slice none 0 0) (.slice none 0 0) (.slice none 0 0)) := q1'; clear q1') | skip); clear B1) | (go_at_call 20; refine (HIM.out _ Q1 Q2 Q3 _ (by first | with_reducible exact QO.out _ y1 | with_reducible exact QO.out _ y1a)).mono ?_; rintro e u2 ⟨v3, rfl, A3⟩; obtain ⟨p1, pc1, p2, pc2, p3, pc3, hv3, O3, B2⟩ := OP.out _ _ _ A3; subst hv3; have y2 : Y2 u2 := (by first | with_reducible exact LW.out.kept y1 hs1 B2 | with_reducible exact LW.out.kept y1a hs1a B2); have hs2 : V4.heap.size ≤ u2.heap.size := (by first | with_reducible exact Nat.le_trans hs1 B2.size | with_reducible exact Nat.le_trans hs1a B2.size); have k2 : (u2.cell? ⟨Q, 0, none⟩ = some (.slice (some ⟨Q1, 0, none⟩) n n) ∧ u2.cell? ⟨Q, 1, none⟩ = some (.slice (some ⟨Q2, 0, none⟩) m m) ∧ u2.cell? ⟨Q, 2, none⟩ = some (.slice (some ⟨Q3, 0, none⟩) q q) ∧ u2.cell? ⟨w.heap.size + 1, 0, none⟩ = some (.int .i64 o.kind) ∧ u2.cell? ⟨w.heap.size + 1, 1, none⟩ = some (.string o.name) ∧ u2.cell? ⟨w.heap.size + 1, 2, none⟩ = some (.string o.dst) ∧ u2.cell? ⟨w.heap.size + 1, 3, none⟩ = some (.string o.data)) := YS.out _ y2; have k2a : ∀ ob, ((u2.alloc ob).cell? ⟨Q, 0, none⟩ = some (.slice (some ⟨Q1, 0, none⟩) n n) ∧ (u2.alloc ob).cell? ⟨Q, 1, none⟩ = some (.slice (some ⟨Q2, 0, none⟩) m m) ∧ (u2.alloc ob).cell? ⟨Q, 2, none⟩ = some (.slice (some ⟨Q3, 0, none⟩) q q) ∧ (u2.alloc ob).cell? ⟨w.heap.size + 1, 0, none⟩ = some (.int .i64 o.kind) ∧ (u2.alloc ob).cell? ⟨w.heap.size + 1, 1, none⟩ = some (.string o.name) ∧ (u2.alloc ob).cell? ⟨w.heap.size + 1, 2, none⟩ = some (.string o.dst) ∧ (u2.alloc ob).cell? ⟨w.heap.size + 1, 3, none⟩ = some (.string o.data)) := fun ob => YS.out _ (LW.out.alloc y2 hs2 ob); have k2s : ∀ (P : Nat) (x1 x2 x3 : Value), V4.heap.size ≤ P → ((((u2.setCell ⟨P, 0, none⟩ x1).setCell ⟨P, 1, none⟩ x2).setCell ⟨P, 2, none⟩ x3).cell? ⟨Q, 0, none⟩ = some (.slice (some ⟨Q1, 0, none⟩) n n) ∧ (((u2.setCell ⟨P, 0, none⟩ x1).setCell ⟨P, 1, none⟩ x2).setCell ⟨P, 2, none⟩ x3).cell? ⟨Q, 1, none⟩ = some (.slice (some ⟨Q2, 0, none⟩) m m) ∧ (((u2.setCell ⟨P, 0, none⟩ x1).setCell ⟨P, 1, none⟩ x2).setCell ⟨P, 2, none⟩ x3).cell? ⟨Q, 2, none⟩ = some (.slice (some ⟨Q3, 0, none⟩) q q) ∧ (((u2.setCell ⟨P, 0, none⟩ x1).setCell ⟨P, 1, none⟩ x2).setCell ⟨P, 2, none⟩ x3).cell? ⟨w.heap.size + 1, 0, none⟩ = some (.int .i64 o.kind) ∧ (((u2.setCell ⟨P, 0, none⟩ x1).setCell ⟨P, 1, none⟩ x2).setCell ⟨P, 2, none⟩ x3).cell? ⟨w.heap.size + 1, 1, none⟩ = some (.string o.name) ∧ (((u2.setCell ⟨P, 0, none⟩ x1).setCell ⟨P, 1, none⟩ x2).setCell ⟨P, 2, none⟩ x3).cell? ⟨w.heap.size + 1, 2, none⟩ = some (.string o.dst) ∧ (((u2.setCell ⟨P, 0, none⟩ x1).setCell ⟨P, 1, none⟩ x2).setCell ⟨P, 2, none⟩ x3).cell? ⟨w.heap.size + 1, 3, none⟩ = some (.string o.data)) := fun P x1 x2 x3 hP => YS.out _ (LW.out.sets y2 hP x1 x2 x3); (first | (have FX0 := doneSet y2 LW.out O3 (q1.out.kept B2 q1.out.2.2) (by omega) q1.out.2.2; obtain ⟨⟨pb0, pb1, pb2⟩, pf, pl⟩ := q1.out.kept B2 q1.out.2.2) | (have FX0 := doneSet y2 LW.out O3 ((Box3.new u1 _ _ _ 27).kept B2 (by simp)) (by omega) (by simp); obtain ⟨⟨pb0, pb1, pb2⟩, pf, pl⟩ := (Box3.new u1 (.slice none 0 0) (.slice none 0 0) (.slice none 0 0) 27).kept B2 (by simp)) | have FX0 := doneNew y2 LW.out O3 (by omega) hs2); have FX : Hid _ := FX0; clear FX0 A3 O3 B2))
      all_goals go_wp2_with fail
      all_goals go_meet
      all_goals exact ⟨_, p1, pc1, p2, pc2, p3, pc3, rfl, rfl, FX⟩
    case rest =>
      obtain ⟨P', g1, gc1, g2, gc2, g3, gc3, rfl, rfl, FX⟩ := hcut
      obtain ⟨w5, hw5⟩ : ∃ w5, w5 = wc := ⟨_, rfl⟩
      subst hw5
      have X6 : Hid (BxO w w5 (.slice a n c) (.slice b m c') (.slice d q c'') o ∧ SG w5 w2.heap.size w3.heap.size P (.slice p1 n1 pc1) (.slice p2 n2 pc2) (.slice p3 n3 pc3) L1 L2 L3 ∧ SG w5 w3.heap.size V4.heap.size Q (.slice (some ⟨Q1, 0, none⟩) n n) (.slice (some ⟨Q2, 0, none⟩) m m) (.slice (some ⟨Q3, 0, none⟩) q q) (lst F n) (lst G m) (lst O q) ∧ SG w5 V4.heap.size w5.heap.size P' (.slice g1 n1 gc1) (.slice g2 n2 gc2) (.slice g3 n3 gc3) L1 L2 L3) := ⟨(YO.out _ FX.out.1).1, (YO.out _ FX.out.1).2.1, (YO.out _ FX.out.1).2.2, FX.out.2⟩
      have hA3 : V4.heap.size < w5.heap.size := Nat.lt_of_le_of_lt X6.out.2.2.2.p1 X6.out.2.2.2.p2
      clear FX YO LW y YS QO y0 y0a q0a hs0 hs0a k0 k0a
      obtain ⟨_, ⟨⟨⟨s0, s1, s2⟩, _, _⟩, _, _, _, _⟩, _, ⟨⟨⟨o0, o1, o2⟩, _, _⟩, _, _, _, _⟩⟩ := X6.out
      go_wp2_with fail
      refine (eqDisk_own X6.out.2.2.2.own X6.out.2.1.own LB.out.1 LB.out.2.1 LB.out.2.2).mono ?_
      rintro e w7 ⟨rfl, D7⟩
      have L7 : Below w5.heap.size w5 w7 := D7
      have X7 : Hid (BxO w w7 (.slice a n c) (.slice b m c') (.slice d q c'') o ∧ SG w7 w2.heap.size w3.heap.size P (.slice p1 n1 pc1) (.slice p2 n2 pc2) (.slice p3 n3 pc3) L1 L2 L3 ∧ SG w7 w3.heap.size V4.heap.size Q (.slice (some ⟨Q1, 0, none⟩) n n) (.slice (some ⟨Q2, 0, none⟩) m m) (.slice (some ⟨Q3, 0, none⟩) q q) (lst F n) (lst G m) (lst O q) ∧ SG w7 V4.heap.size w5.heap.size P' (.slice g1 n1 gc1) (.slice g2 n2 gc2) (.slice g3 n3 gc3) L1 L2 L3) := ⟨X6.out.1.kept D7, X6.out.2.1.low D7 (by omega), X6.out.2.2.1.low D7 (by omega), X6.out.2.2.2.low D7 (Nat.le_refl _)⟩
      have s57 : w5.heap.size ≤ w7.heap.size := D7.size
      clear D7 L7 X6 s0 s1 s2 o0 o1 o2
      obtain ⟨⟨⟨⟨s0, s1, s2⟩, _, _⟩, _, _⟩, _, ⟨⟨⟨o0, o1, o2⟩, _, ol⟩, _, _, _, _⟩, _⟩ := X7.out
      have BD : Hid (Below w.heap.size w w7.drew) := X7.out.1.b.drew
      have ID : Hid (Below w7.heap.size w7 w7.drew) := ⟨rfl, rfl, rfl, Nat.le_refl _, fun _ _ => rfl⟩
      go_wp2_with fail
      go_cut [56] (fun sx wx => sx = .bool false ∧ Hid ((BxO w wx (.slice a n c) (.slice b m c') (.slice d q c'') o ∧ SG wx w2.heap.size w3.heap.size P (.slice p1 n1 pc1) (.slice p2 n2 pc2) (.slice p3 n3 pc3) L1 L2 L3 ∧ SG wx w3.heap.size V4.heap.size Q (.slice (some ⟨Q1, 0, none⟩) n n) (.slice (some ⟨Q2, 0, none⟩) m m) (.slice (some ⟨Q3, 0, none⟩) q q) (lst F n) (lst G m) (lst O q) ∧ SG wx V4.heap.size w5.heap.size P' (.slice g1 n1 gc1) (.slice g2 n2 gc2) (.slice g3 n3 gc3) L1 L2 L3) ∧ w5.heap.size ≤ wx.heap.size))
      case first =>
        go_region_with (first | (go_at_call 27; refine (TDK.out w7.drew BD.out).mono ?_; rintro e w8 ⟨P1, P2, P3, rfl, M8, D8⟩; have D8' : Below w7.heap.size w7 w8 := ID.out.trans (D8.mono (Nat.le_refl _)); have X8 : Hid (((BxO w w8 (.slice a n c) (.slice b m c') (.slice d q c'') o ∧ SG w8 w2.heap.size w3.heap.size P (.slice p1 n1 pc1) (.slice p2 n2 pc2) (.slice p3 n3 pc3) L1 L2 L3 ∧ SG w8 w3.heap.size V4.heap.size Q (.slice (some ⟨Q1, 0, none⟩) n n) (.slice (some ⟨Q2, 0, none⟩) m m) (.slice (some ⟨Q3, 0, none⟩) q q) (lst F n) (lst G m) (lst O q) ∧ SG w8 V4.heap.size w5.heap.size P' (.slice g1 n1 gc1) (.slice g2 n2 gc2) (.slice g3 n3 gc3) L1 L2 L3) ∧ w5.heap.size ≤ w8.heap.size) ∧ Dk w8 (some ⟨Q1, 0, none⟩) n F (some ⟨Q2, 0, none⟩) m G (some ⟨Q3, 0, none⟩) q O ∧ Dk w8 (some ⟨P1, 0, none⟩) n F (some ⟨P2, 0, none⟩) m G (some ⟨P3, 0, none⟩) q O) := ⟨⟨⟨X7.out.1.kept D8', X7.out.2.1.low D8' (by omega), X7.out.2.2.1.low D8' (by omega), X7.out.2.2.2.low D8' s57⟩, Nat.le_trans s57 D8'.size⟩, dk_own (X7.out.2.2.1.low D8' (by omega)).own H.out, dk_own M8 H.out⟩; obtain ⟨⟨j0, j1, j2⟩, _, _⟩ := X8.out.1.1.2.2.1.box; clear D8 D8' M8) | (go_at_call 28; refine (eqDisk_same _ _ _ _ _ _ n m q n m q n m q F G O _ X8.out.2.1 X8.out.2.2).mono ?_; rintro e w9 ⟨rfl, D9⟩; have X9 : Hid ((BxO w w9 (.slice a n c) (.slice b m c') (.slice d q c'') o ∧ SG w9 w2.heap.size w3.heap.size P (.slice p1 n1 pc1) (.slice p2 n2 pc2) (.slice p3 n3 pc3) L1 L2 L3 ∧ SG w9 w3.heap.size V4.heap.size Q (.slice (some ⟨Q1, 0, none⟩) n n) (.slice (some ⟨Q2, 0, none⟩) m m) (.slice (some ⟨Q3, 0, none⟩) q q) (lst F n) (lst G m) (lst O q) ∧ SG w9 V4.heap.size w5.heap.size P' (.slice g1 n1 gc1) (.slice g2 n2 gc2) (.slice g3 n3 gc3) L1 L2 L3) ∧ w5.heap.size ≤ w9.heap.size) := ⟨⟨X8.out.1.1.1.kept D9, X8.out.1.1.2.1.low D9 (by have := X8.out.1.2; omega), X8.out.1.1.2.2.1.low D9 (by have := X8.out.1.2; omega), X8.out.1.1.2.2.2.low D9 X8.out.1.2⟩, Nat.le_trans X8.out.1.2 D9.size⟩; clear D9))
        all_goals go_wp2_with fail
        all_goals go_meet
        all_goals exact ⟨rfl, X9⟩
      case rest =>
        obtain ⟨rfl, X8⟩ := hcut
        obtain ⟨w8, hw8⟩ : ∃ w8, w8 = wc := ⟨_, rfl⟩
        subst hw8
        have LN : Hid ((lst F n).length = n ∧ (lst G m).length = m ∧ (lst O q).length = q) := ⟨lst_len F n, lst_len G m, lst_len O q⟩
        have hn := H.out.live.1
        have hm := H.out.safe.1
        have hq := H.out.ops.1
        clear X7 BD ID s0 s1 s2 o0 o1 o2 ol s57
        obtain ⟨⟨_, _, ⟨⟨⟨o0, o1, o2⟩, _, _⟩, _, _, _, _⟩, _⟩, _⟩ := X8.out
        go_wp2_with fail
        refine (markDisk _ _ _ _ n m q n m q (lst F n) (lst G m) (lst O q) _ X8.out.1.2.2.1.own LN.out.1 LN.out.2.1 LN.out.2.2 hn hm hq).mono ?_
        rintro e w9 ⟨rfl, _, K9⟩
        have X9 : Hid ((BxO w w9 (.slice a n c) (.slice b m c') (.slice d q c'') o ∧ SG w9 w2.heap.size w3.heap.size P (.slice p1 n1 pc1) (.slice p2 n2 pc2) (.slice p3 n3 pc3) L1 L2 L3 ∧ SG w9 V4.heap.size w5.heap.size P' (.slice g1 n1 gc1) (.slice g2 n2 gc2) (.slice g3 n3 gc3) L1 L2 L3) ∧ w5.heap.size ≤ w9.heap.size) :=
          ⟨⟨X8.out.1.1.low (X8.out.1.2.2.1.below K9) (by omega), X8.out.1.2.1.keep3 K9 X8.out.1.2.2.1 (Or.inr (Nat.le_refl _)), X8.out.1.2.2.2.keep3 K9 X8.out.1.2.2.1 (Or.inl (Nat.le_refl _))⟩, Nat.le_trans X8.out.2 K9.size⟩
        have hk : 0 ≤ cnt3 n m q := by unfold cnt3; omega
        have hk' : decide (cnt3 n m q < 0) = false := decide_eq_false (by omega)
        clear K9 X8 o0 o1 o2
        generalize cnt3 n m q = kx at *
        obtain ⟨⟨_, ⟨⟨⟨s0, s1, s2⟩, _, _⟩, _, _, _, _⟩, ⟨⟨⟨o0, o1, o2⟩, _, _⟩, _, _, _, _⟩⟩, _⟩ := X9.out
        go_wp2_with fail
        refine (eqDisk_own X9.out.1.2.2.own X9.out.1.2.1.own LB.out.1 LB.out.2.1 LB.out.2.2).mono ?_
        rintro e w10 ⟨rfl, D10⟩
        have X10 : Hid ((BxO w w10 (.slice a n c) (.slice b m c') (.slice d q c'') o ∧ SG w10 w2.heap.size w3.heap.size P (.slice p1 n1 pc1) (.slice p2 n2 pc2) (.slice p3 n3 pc3) L1 L2 L3 ∧ SG w10 V4.heap.size w5.heap.size P' (.slice g1 n1 gc1) (.slice g2 n2 gc2) (.slice g3 n3 gc3) L1 L2 L3) ∧ w5.heap.size ≤ w10.heap.size) := ⟨⟨X9.out.1.1.kept D10, X9.out.1.2.1.low D10 (by have := X9.out.2; omega), X9.out.1.2.2.low D10 X9.out.2⟩, Nat.le_trans X9.out.2 D10.size⟩
        clear D10 X9 s0 s1 s2 o0 o1 o2 hk hk'
        obtain ⟨⟨_, _, ⟨⟨⟨o0, o1, o2⟩, _, _⟩, _, _, _, _⟩⟩, _⟩ := X10.out
        go_wp2_with fail
        refine (markDisk _ _ _ _ n1 n2 n3 _ _ _ L1 L2 L3 _ X10.out.1.2.2.own E1.out E2.out E3.out l1 l2 l3).mono ?_
        rintro e w11 ⟨rfl, ⟨N1, N2, N3, hMk, O11⟩, K11⟩
        have X11 : Hid ((BxO w w11 (.slice a n c) (.slice b m c') (.slice d q c'') o ∧ SG w11 w2.heap.size w3.heap.size P (.slice p1 n1 pc1) (.slice p2 n2 pc2) (.slice p3 n3 pc3) L1 L2 L3 ∧ SG w11 V4.heap.size w5.heap.size P' (.slice g1 n1 gc1) (.slice g2 n2 gc2) (.slice g3 n3 gc3) N1 N2 N3) ∧ w5.heap.size ≤ w11.heap.size) :=
          ⟨⟨X10.out.1.1.low (X10.out.1.2.2.below K11) (by omega), X10.out.1.2.1.keep3 K11 X10.out.1.2.2 (Or.inr (by omega)), X10.out.1.2.2.self K11 O11⟩, Nat.le_trans X10.out.2 K11.size⟩
        have HMK : Hid (Mk3 n1 n2 n3 N1 N2 N3) := hMk
        have hk : 0 ≤ cnt3 n1 n2 n3 := by unfold cnt3; omega
        have hk' : decide (cnt3 n1 n2 n3 < 0) = false := decide_eq_false (by omega)
        clear K11 O11 hMk X10 o0 o1 o2
        have HEL : Hid (∀ V, Own3 V V4.heap.size (.slice g1 n1 gc1) (.slice g2 n2 gc2) (.slice g3 n3 gc3) N1 N2 N3 → Calls Try.prog 32 #[.agg #[.slice g1 n1 gc1, .slice g2 n2 gc2, .slice g3 n3 gc3], .int .i64 1] V fun e w' => e = .returned (.int .i64 (cnt3 n1 n2 n3)) ∧ Below V.heap.size V w') := fun V hV => heldDisk _ _ _ _ n1 n2 n3 _ _ _ N1 N2 N3 V hV HMK.out l1 l2 l3
        generalize cnt3 n1 n2 n3 = ky at *
        have hke : (ky == ky) = true := by simp
        obtain ⟨⟨_, _, ⟨⟨⟨o0, o1, o2⟩, _, _⟩, _, _, _, _⟩⟩, _⟩ := X11.out
        go_wp2_with fail
        refine (HEL.out _ X11.out.1.2.2.own).mono ?_
        rintro e w12 ⟨rfl, D12⟩
        have X12 : Hid ((BxO w w12 (.slice a n c) (.slice b m c') (.slice d q c'') o ∧ SG w12 w2.heap.size w3.heap.size P (.slice p1 n1 pc1) (.slice p2 n2 pc2) (.slice p3 n3 pc3) L1 L2 L3 ∧ SG w12 V4.heap.size w5.heap.size P' (.slice g1 n1 gc1) (.slice g2 n2 gc2) (.slice g3 n3 gc3) N1 N2 N3) ∧ w5.heap.size ≤ w12.heap.size) := ⟨⟨X11.out.1.1.kept D12, X11.out.1.2.1.low D12 (by have := X11.out.2; omega), X11.out.1.2.2.low D12 X11.out.2⟩, Nat.le_trans X11.out.2 D12.size⟩
        have s512 : w5.heap.size ≤ w12.heap.size := X12.out.2
        have yX : BxO w w12 (.slice a n c) (.slice b m c') (.slice d q c'') o ∧ SG w12 w2.heap.size w3.heap.size P (.slice p1 n1 pc1) (.slice p2 n2 pc2) (.slice p3 n3 pc3) L1 L2 L3 ∧ SG w12 V4.heap.size w5.heap.size P' (.slice g1 n1 gc1) (.slice g2 n2 gc2) (.slice g3 n3 gc3) N1 N2 N3 := X12.out.1
        have LWX : Low w12.heap.size (fun V => BxO w V (.slice a n c) (.slice b m c') (.slice d q c'') o ∧ SG V w2.heap.size w3.heap.size P (.slice p1 n1 pc1) (.slice p2 n2 pc2) (.slice p3 n3 pc3) L1 L2 L3 ∧ SG V V4.heap.size w5.heap.size P' (.slice g1 n1 gc1) (.slice g2 n2 gc2) (.slice g3 n3 gc3) N1 N2 N3) := fun V V' y hb => ⟨y.1.low hb (by omega), y.2.1.low hb (by omega), y.2.2.low hb s512⟩
        clear D12 X11 o0 o1 o2
        obtain ⟨Y3, hY3⟩ : ∃ Y3 : World → Prop, Y3 = fun V => BxO w V (.slice a n c) (.slice b m c') (.slice d q c'') o ∧ SG V w2.heap.size w3.heap.size P (.slice p1 n1 pc1) (.slice p2 n2 pc2) (.slice p3 n3 pc3) L1 L2 L3 ∧ SG V V4.heap.size w5.heap.size P' (.slice g1 n1 gc1) (.slice g2 n2 gc2) (.slice g3 n3 gc3) N1 N2 N3 := ⟨_, rfl⟩
        have YO : Hid (∀ V, Y3 V → BxO w V (.slice a n c) (.slice b m c') (.slice d q c'') o ∧ SG V w2.heap.size w3.heap.size P (.slice p1 n1 pc1) (.slice p2 n2 pc2) (.slice p3 n3 pc3) L1 L2 L3 ∧ SG V V4.heap.size w5.heap.size P' (.slice g1 n1 gc1) (.slice g2 n2 gc2) (.slice g3 n3 gc3) N1 N2 N3) := fun V hV => by rw [hY3] at hV; exact hV
        have LW : Hid (Low w12.heap.size Y3) := by rw [hY3]; exact LWX
        have y : Y3 w12 := by rw [hY3]; exact yX
        have YS : Hid (∀ V, Y3 V → (V.cell? ⟨w.heap.size, 0, none⟩ = some (.slice a n c) ∧ V.cell? ⟨w.heap.size, 1, none⟩ = some (.slice b m c') ∧ V.cell? ⟨w.heap.size, 2, none⟩ = some (.slice d q c'') ∧ V.cell? ⟨w.heap.size + 1, 0, none⟩ = some (.int .i64 o.kind) ∧ V.cell? ⟨w.heap.size + 1, 1, none⟩ = some (.string o.name) ∧ V.cell? ⟨w.heap.size + 1, 2, none⟩ = some (.string o.dst) ∧ V.cell? ⟨w.heap.size + 1, 3, none⟩ = some (.string o.data))) := fun V hV => let x := (YO.out V hV).1; ⟨x.d.1.1, x.d.1.2.1, x.d.1.2.2, x.o.1.1, x.o.1.2.1, x.o.1.2.2.1, x.o.1.2.2.2⟩
        have YB : Hid (∀ V, Y3 V → Below w.heap.size w V) := fun V hV => (YO.out V hV).1.b
        clear hY3 LWX yX
        have y0 : Y3 w12.drew := LW.out.drew y
        have y0a : Y3 (w12.alloc (.cells #[.slice none 0 0, .slice none 0 0, .slice none 0 0] 27)).drew := LW.out.drew (LW.out.alloc y (Nat.le_refl _) _)
        have q0a : Hid (Box3 (w12.alloc (.cells #[.slice none 0 0, .slice none 0 0, .slice none 0 0] 27)).drew w12.heap.size (.slice none 0 0) (.slice none 0 0) (.slice none 0 0)) := newDrew w12
        have hs0 : w12.heap.size ≤ w12.drew.heap.size := Nat.le_refl _
        have hs0a : w12.heap.size ≤ (w12.alloc (.cells #[.slice none 0 0, .slice none 0 0, .slice none 0 0] 27)).drew.heap.size := by show _ ≤ (w12.alloc (.cells #[.slice none 0 0, .slice none 0 0, .slice none 0 0] 27)).heap.size; simp
        have k0 : (w12.drew.cell? ⟨w.heap.size, 0, none⟩ = some (.slice a n c) ∧ w12.drew.cell? ⟨w.heap.size, 1, none⟩ = some (.slice b m c') ∧ w12.drew.cell? ⟨w.heap.size, 2, none⟩ = some (.slice d q c'') ∧ w12.drew.cell? ⟨w.heap.size + 1, 0, none⟩ = some (.int .i64 o.kind) ∧ w12.drew.cell? ⟨w.heap.size + 1, 1, none⟩ = some (.string o.name) ∧ w12.drew.cell? ⟨w.heap.size + 1, 2, none⟩ = some (.string o.dst) ∧ w12.drew.cell? ⟨w.heap.size + 1, 3, none⟩ = some (.string o.data)) := YS.out _ y0
        have k0a : ((w12.alloc (.cells #[.slice none 0 0, .slice none 0 0, .slice none 0 0] 27)).drew.cell? ⟨w.heap.size, 0, none⟩ = some (.slice a n c) ∧ (w12.alloc (.cells #[.slice none 0 0, .slice none 0 0, .slice none 0 0] 27)).drew.cell? ⟨w.heap.size, 1, none⟩ = some (.slice b m c') ∧ (w12.alloc (.cells #[.slice none 0 0, .slice none 0 0, .slice none 0 0] 27)).drew.cell? ⟨w.heap.size, 2, none⟩ = some (.slice d q c'') ∧ (w12.alloc (.cells #[.slice none 0 0, .slice none 0 0, .slice none 0 0] 27)).drew.cell? ⟨w.heap.size + 1, 0, none⟩ = some (.int .i64 o.kind) ∧ (w12.alloc (.cells #[.slice none 0 0, .slice none 0 0, .slice none 0 0] 27)).drew.cell? ⟨w.heap.size + 1, 1, none⟩ = some (.string o.name) ∧ (w12.alloc (.cells #[.slice none 0 0, .slice none 0 0, .slice none 0 0] 27)).drew.cell? ⟨w.heap.size + 1, 2, none⟩ = some (.string o.dst) ∧ (w12.alloc (.cells #[.slice none 0 0, .slice none 0 0, .slice none 0 0] 27)).drew.cell? ⟨w.heap.size + 1, 3, none⟩ = some (.string o.data)) := YS.out _ y0a
        go_wp2_with fail
        go_cut [14, 15] (fun sp sr wx => ∃ P p1 pc1 p2 pc2 p3 pc3, sp = .pointer (some ⟨P, 0, none⟩) ∧ sr = .int .i64 rr ∧ Hid (Y3 wx ∧ SG wx w12.heap.size wx.heap.size P (.slice p1 n1 pc1) (.slice p2 n2 pc2) (.slice p3 n3 pc3) L1 L2 L3))
        case first =>
          go_region_held3 (fun V => (V.cell? ⟨w.heap.size, 0, none⟩ = some (.slice a n c) ∧ V.cell? ⟨w.heap.size, 1, none⟩ = some (.slice b m c') ∧ V.cell? ⟨w.heap.size, 2, none⟩ = some (.slice d q c'') ∧ V.cell? ⟨w.heap.size + 1, 0, none⟩ = some (.int .i64 o.kind) ∧ V.cell? ⟨w.heap.size + 1, 1, none⟩ = some (.string o.name) ∧ V.cell? ⟨w.heap.size + 1, 2, none⟩ = some (.string o.dst) ∧ V.cell? ⟨w.heap.size + 1, 3, none⟩ = some (.string o.data))) (first | with_reducible exact k0 | with_reducible exact k0a | with_reducible exact k1 | with_reducible exact k1a | with_reducible exact k2 | with_reducible exact k2a | with_reducible exact k3 | with_reducible exact k3a _ | with_reducible exact k3s _ _ _ _ (by omega)) (first | (go_at_call 27; refine (TDK.out _ (by first | with_reducible exact YB.out _ y0 | with_reducible exact YB.out _ y0a)).mono ?_; rintro e u1 ⟨R1, R2, R3, rfl, M1, B1⟩; have y1 : Y3 u1 := (by first | with_reducible exact LW.out.kept y0 hs0 B1 | with_reducible exact LW.out.kept y0a hs0a B1); have hs1 : w12.heap.size ≤ u1.heap.size := (by first | with_reducible exact Nat.le_trans hs0 B1.size | with_reducible exact Nat.le_trans hs0a B1.size); have y1a : Y3 (u1.alloc (.cells #[.slice none 0 0, .slice none 0 0, .slice none 0 0] 27)) := LW.out.alloc y1 hs1 _; have k1 : (u1.cell? ⟨w.heap.size, 0, none⟩ = some (.slice a n c) ∧ u1.cell? ⟨w.heap.size, 1, none⟩ = some (.slice b m c') ∧ u1.cell? ⟨w.heap.size, 2, none⟩ = some (.slice d q c'') ∧ u1.cell? ⟨w.heap.size + 1, 0, none⟩ = some (.int .i64 o.kind) ∧ u1.cell? ⟨w.heap.size + 1, 1, none⟩ = some (.string o.name) ∧ u1.cell? ⟨w.heap.size + 1, 2, none⟩ = some (.string o.dst) ∧ u1.cell? ⟨w.heap.size + 1, 3, none⟩ = some (.string o.data)) := YS.out _ y1; have k1a : ((u1.alloc (.cells #[.slice none 0 0, .slice none 0 0, .slice none 0 0] 27)).cell? ⟨w.heap.size, 0, none⟩ = some (.slice a n c) ∧ (u1.alloc (.cells #[.slice none 0 0, .slice none 0 0, .slice none 0 0] 27)).cell? ⟨w.heap.size, 1, none⟩ = some (.slice b m c') ∧ (u1.alloc (.cells #[.slice none 0 0, .slice none 0 0, .slice none 0 0] 27)).cell? ⟨w.heap.size, 2, none⟩ = some (.slice d q c'') ∧ (u1.alloc (.cells #[.slice none 0 0, .slice none 0 0, .slice none 0 0] 27)).cell? ⟨w.heap.size + 1, 0, none⟩ = some (.int .i64 o.kind) ∧ (u1.alloc (.cells #[.slice none 0 0, .slice none 0 0, .slice none 0 0] 27)).cell? ⟨w.heap.size + 1, 1, none⟩ = some (.string o.name) ∧ (u1.alloc (.cells #[.slice none 0 0, .slice none 0 0, .slice none 0 0] 27)).cell? ⟨w.heap.size + 1, 2, none⟩ = some (.string o.dst) ∧ (u1.alloc (.cells #[.slice none 0 0, .slice none 0 0, .slice none 0 0] 27)).cell? ⟨w.heap.size + 1, 3, none⟩ = some (.string o.data)) := YS.out _ y1a; have hs1a : w12.heap.size ≤ (u1.alloc (.cells #[.slice none 0 0, .slice none 0 0, .slice none 0 0] 27)).heap.size := Nat.le_trans hs1 (by simp); have NO1' : Own3 u1 w12.heap.size (.slice (some ⟨R1, 0, none⟩) n n) (.slice (some ⟨R2, 0, none⟩) m m) (.slice (some ⟨R3, 0, none⟩) q q) (lst F n) (lst G m) (lst O q) := (by first | with_reducible exact M1.mono hs0 | with_reducible exact M1.mono hs0a); have NO1 : Hid (Own3 u1 w12.heap.size (.slice (some ⟨R1, 0, none⟩) n n) (.slice (some ⟨R2, 0, none⟩) m m) (.slice (some ⟨R3, 0, none⟩) q q) (lst F n) (lst G m) (lst O q)) := NO1'; clear NO1'; have NO1a : Hid (Own3 (u1.alloc (.cells #[.slice none 0 0, .slice none 0 0, .slice none 0 0] 27)) w12.heap.size (.slice (some ⟨R1, 0, none⟩) n n) (.slice (some ⟨R2, 0, none⟩) m m) (.slice (some ⟨R3, 0, none⟩) q q) (lst F n) (lst G m) (lst O q)) := NO1.out.kept ((Below.refl _ _).alloc (Nat.le_refl _) _); (first | (have q1' : Box3 u1 w12.heap.size (.slice none 0 0) (.slice none 0 0) (.slice none 0 0) := (by first | with_reducible exact q0a.out.keptS B1); have q1 : Hid (Box3 u1 w12.heap.size (.slice none 0 0) (.slice none 0 0) (.slice none 0 0)) := q1'; clear q1') | skip); clear B1 M1) | (go_at_call 30; refine (toDOp o _).mono ?_; rintro e u2 ⟨rfl, B2⟩; have y2 : Y3 u2 := (by first | with_reducible exact LW.out.kept y1 hs1 B2 | with_reducible exact LW.out.kept y1a hs1a B2); have hs2 : w12.heap.size ≤ u2.heap.size := (by first | with_reducible exact Nat.le_trans hs1 B2.size | with_reducible exact Nat.le_trans hs1a B2.size); have y2a : Y3 (u2.alloc (.cells #[.slice none 0 0, .slice none 0 0, .slice none 0 0] 27)) := LW.out.alloc y2 hs2 _; have k2 : (u2.cell? ⟨w.heap.size, 0, none⟩ = some (.slice a n c) ∧ u2.cell? ⟨w.heap.size, 1, none⟩ = some (.slice b m c') ∧ u2.cell? ⟨w.heap.size, 2, none⟩ = some (.slice d q c'') ∧ u2.cell? ⟨w.heap.size + 1, 0, none⟩ = some (.int .i64 o.kind) ∧ u2.cell? ⟨w.heap.size + 1, 1, none⟩ = some (.string o.name) ∧ u2.cell? ⟨w.heap.size + 1, 2, none⟩ = some (.string o.dst) ∧ u2.cell? ⟨w.heap.size + 1, 3, none⟩ = some (.string o.data)) := YS.out _ y2; have k2a : ((u2.alloc (.cells #[.slice none 0 0, .slice none 0 0, .slice none 0 0] 27)).cell? ⟨w.heap.size, 0, none⟩ = some (.slice a n c) ∧ (u2.alloc (.cells #[.slice none 0 0, .slice none 0 0, .slice none 0 0] 27)).cell? ⟨w.heap.size, 1, none⟩ = some (.slice b m c') ∧ (u2.alloc (.cells #[.slice none 0 0, .slice none 0 0, .slice none 0 0] 27)).cell? ⟨w.heap.size, 2, none⟩ = some (.slice d q c'') ∧ (u2.alloc (.cells #[.slice none 0 0, .slice none 0 0, .slice none 0 0] 27)).cell? ⟨w.heap.size + 1, 0, none⟩ = some (.int .i64 o.kind) ∧ (u2.alloc (.cells #[.slice none 0 0, .slice none 0 0, .slice none 0 0] 27)).cell? ⟨w.heap.size + 1, 1, none⟩ = some (.string o.name) ∧ (u2.alloc (.cells #[.slice none 0 0, .slice none 0 0, .slice none 0 0] 27)).cell? ⟨w.heap.size + 1, 2, none⟩ = some (.string o.dst) ∧ (u2.alloc (.cells #[.slice none 0 0, .slice none 0 0, .slice none 0 0] 27)).cell? ⟨w.heap.size + 1, 3, none⟩ = some (.string o.data)) := YS.out _ y2a; have hs2a : w12.heap.size ≤ (u2.alloc (.cells #[.slice none 0 0, .slice none 0 0, .slice none 0 0] 27)).heap.size := Nat.le_trans hs2 (by simp); have NO2' : Own3 u2 w12.heap.size (.slice (some ⟨R1, 0, none⟩) n n) (.slice (some ⟨R2, 0, none⟩) m m) (.slice (some ⟨R3, 0, none⟩) q q) (lst F n) (lst G m) (lst O q) := (by first | with_reducible exact NO1.out.kept B2 | with_reducible exact NO1a.out.kept B2); have NO2 : Hid (Own3 u2 w12.heap.size (.slice (some ⟨R1, 0, none⟩) n n) (.slice (some ⟨R2, 0, none⟩) m m) (.slice (some ⟨R3, 0, none⟩) q q) (lst F n) (lst G m) (lst O q)) := NO2'; clear NO2'; have NO2a : Hid (Own3 (u2.alloc (.cells #[.slice none 0 0, .slice none 0 0, .slice none 0 0] 27)) w12.heap.size (.slice (some ⟨R1, 0, none⟩) n n) (.slice (some ⟨R2, 0, none⟩) m m) (.slice (some ⟨R3, 0, none⟩) q q) (lst F n) (lst G m) (lst O q)) := NO2.out.kept ((Below.refl _ _).alloc (Nat.le_refl _) _); (first | (have q2' : Box3 u2 w12.heap.size (.slice none 0 0) (.slice none 0 0) (.slice none 0 0) := (by first | with_reducible exact q1.out.keptS B2); have q2 : Hid (Box3 u2 w12.heap.size (.slice none 0 0) (.slice none 0 0) (.slice none 0 0)) := q2'; clear q2') | (have q2' : Box3 u2 u1.heap.size (.slice none 0 0) (.slice none 0 0) (.slice none 0 0) := (by first | with_reducible exact (Box3.new u1 _ _ _ 27).keptS B2); have q2 : Hid (Box3 u2 u1.heap.size (.slice none 0 0) (.slice none 0 0) (.slice none 0 0)) := q2'; clear q2') | skip); clear B2) | (go_at_call 20; refine (HIM.out _ R1 R2 R3 _ (by first | with_reducible exact NO2.out | with_reducible exact NO2a.out)).mono ?_; rintro e u3 ⟨v3, rfl, A3⟩; obtain ⟨p1, pc1, p2, pc2, p3, pc3, hv3, O3, B3⟩ := OP.out _ _ _ A3; subst hv3; have y3 : Y3 u3 := (by first | with_reducible exact LW.out.kept y2 hs2 B3 | with_reducible exact LW.out.kept y2a hs2a B3); have hs3 : w12.heap.size ≤ u3.heap.size := (by first | with_reducible exact Nat.le_trans hs2 B3.size | with_reducible exact Nat.le_trans hs2a B3.size); have k3 : (u3.cell? ⟨w.heap.size, 0, none⟩ = some (.slice a n c) ∧ u3.cell? ⟨w.heap.size, 1, none⟩ = some (.slice b m c') ∧ u3.cell? ⟨w.heap.size, 2, none⟩ = some (.slice d q c'') ∧ u3.cell? ⟨w.heap.size + 1, 0, none⟩ = some (.int .i64 o.kind) ∧ u3.cell? ⟨w.heap.size + 1, 1, none⟩ = some (.string o.name) ∧ u3.cell? ⟨w.heap.size + 1, 2, none⟩ = some (.string o.dst) ∧ u3.cell? ⟨w.heap.size + 1, 3, none⟩ = some (.string o.data)) := YS.out _ y3; have k3a : ∀ ob, ((u3.alloc ob).cell? ⟨w.heap.size, 0, none⟩ = some (.slice a n c) ∧ (u3.alloc ob).cell? ⟨w.heap.size, 1, none⟩ = some (.slice b m c') ∧ (u3.alloc ob).cell? ⟨w.heap.size, 2, none⟩ = some (.slice d q c'') ∧ (u3.alloc ob).cell? ⟨w.heap.size + 1, 0, none⟩ = some (.int .i64 o.kind) ∧ (u3.alloc ob).cell? ⟨w.heap.size + 1, 1, none⟩ = some (.string o.name) ∧ (u3.alloc ob).cell? ⟨w.heap.size + 1, 2, none⟩ = some (.string o.dst) ∧ (u3.alloc ob).cell? ⟨w.heap.size + 1, 3, none⟩ = some (.string o.data)) := fun ob => YS.out _ (LW.out.alloc y3 hs3 ob); have k3s : ∀ (P : Nat) (x1 x2 x3 : Value), w12.heap.size ≤ P → ((((u3.setCell ⟨P, 0, none⟩ x1).setCell ⟨P, 1, none⟩ x2).setCell ⟨P, 2, none⟩ x3).cell? ⟨w.heap.size, 0, none⟩ = some (.slice a n c) ∧ (((u3.setCell ⟨P, 0, none⟩ x1).setCell ⟨P, 1, none⟩ x2).setCell ⟨P, 2, none⟩ x3).cell? ⟨w.heap.size, 1, none⟩ = some (.slice b m c') ∧ (((u3.setCell ⟨P, 0, none⟩ x1).setCell ⟨P, 1, none⟩ x2).setCell ⟨P, 2, none⟩ x3).cell? ⟨w.heap.size, 2, none⟩ = some (.slice d q c'') ∧ (((u3.setCell ⟨P, 0, none⟩ x1).setCell ⟨P, 1, none⟩ x2).setCell ⟨P, 2, none⟩ x3).cell? ⟨w.heap.size + 1, 0, none⟩ = some (.int .i64 o.kind) ∧ (((u3.setCell ⟨P, 0, none⟩ x1).setCell ⟨P, 1, none⟩ x2).setCell ⟨P, 2, none⟩ x3).cell? ⟨w.heap.size + 1, 1, none⟩ = some (.string o.name) ∧ (((u3.setCell ⟨P, 0, none⟩ x1).setCell ⟨P, 1, none⟩ x2).setCell ⟨P, 2, none⟩ x3).cell? ⟨w.heap.size + 1, 2, none⟩ = some (.string o.dst) ∧ (((u3.setCell ⟨P, 0, none⟩ x1).setCell ⟨P, 1, none⟩ x2).setCell ⟨P, 2, none⟩ x3).cell? ⟨w.heap.size + 1, 3, none⟩ = some (.string o.data)) := fun P x1 x2 x3 hP => YS.out _ (LW.out.sets y3 hP x1 x2 x3); (first | (have FX0 := doneSet y3 LW.out O3 (q2.out.kept B3 q2.out.2.2) (by omega) q2.out.2.2; obtain ⟨⟨pb0, pb1, pb2⟩, pf, pl⟩ := q2.out.kept B3 q2.out.2.2) | (have FX0 := doneSet y3 LW.out O3 ((Box3.new u2 _ _ _ 27).kept B3 (by simp)) (by omega) (by simp); obtain ⟨⟨pb0, pb1, pb2⟩, pf, pl⟩ := (Box3.new u2 (.slice none 0 0) (.slice none 0 0) (.slice none 0 0) 27).kept B3 (by simp)) | have FX0 := doneNew y3 LW.out O3 (by omega) hs3); have FX : Hid _ := FX0; clear FX0 A3 O3 B3))
          all_goals go_wp2_with fail
          all_goals go_meet
          all_goals exact ⟨_, p1, pc1, p2, pc2, p3, pc3, rfl, rfl, FX⟩
        case rest =>
          obtain ⟨P'', t1, tc1, t2, tc2, t3, tc3, rfl, rfl, FX⟩ := hcut
          obtain ⟨w14, hw14⟩ : ∃ w14, w14 = wc := ⟨_, rfl⟩
          subst hw14
          have X14 : Hid (BxO w w14 (.slice a n c) (.slice b m c') (.slice d q c'') o ∧ SG w14 w2.heap.size w3.heap.size P (.slice p1 n1 pc1) (.slice p2 n2 pc2) (.slice p3 n3 pc3) L1 L2 L3 ∧ SG w14 V4.heap.size w5.heap.size P' (.slice g1 n1 gc1) (.slice g2 n2 gc2) (.slice g3 n3 gc3) N1 N2 N3 ∧ SG w14 w12.heap.size w14.heap.size P'' (.slice t1 n1 tc1) (.slice t2 n2 tc2) (.slice t3 n3 tc3) L1 L2 L3) := ⟨(YO.out _ FX.out.1).1, (YO.out _ FX.out.1).2.1, (YO.out _ FX.out.1).2.2, FX.out.2⟩
          have s1214 : w12.heap.size < w14.heap.size := Nat.lt_of_le_of_lt X14.out.2.2.2.p1 X14.out.2.2.2.p2
          clear FX YO LW y YS YB y0 y0a q0a hs0 hs0a k0 k0a X12
          obtain ⟨_, ⟨⟨⟨s0, s1, s2⟩, _, _⟩, _, _, _, _⟩, _, ⟨⟨⟨o0, o1, o2⟩, _, _⟩, _, _, _, _⟩⟩ := X14.out
          go_wp2_with fail
          refine (eqDisk_own X14.out.2.2.2.own X14.out.2.1.own LB.out.1 LB.out.2.1 LB.out.2.2).mono ?_
          rintro e w15 ⟨rfl, D15⟩
          have X15 : Hid (Below w.heap.size w w15 ∧ SG w15 V4.heap.size w5.heap.size P' (.slice g1 n1 gc1) (.slice g2 n2 gc2) (.slice g3 n3 gc3) N1 N2 N3) := ⟨(X14.out.1.kept D15).b, X14.out.2.2.1.low D15 (by omega)⟩
          clear D15 X14 s0 s1 s2 o0 o1 o2
          obtain ⟨_, ⟨⟨⟨o0, o1, o2⟩, _, _⟩, _, _, _, _⟩⟩ := X15.out
          go_wp2_with fail
          refine (HEL.out _ X15.out.2.own).mono ?_
          rintro e w16 ⟨rfl, D16⟩
          have X16 : Hid (Below w.heap.size w w16) := X15.out.1.trans (D16.mono X15.out.1.size)
          clear D16 X15 o0 o1 o2
          go_wp2
          go_ret
          exact ⟨rfl, X16.out⟩
end Go.Proofs.Ytcalgmhpagpnnaa
