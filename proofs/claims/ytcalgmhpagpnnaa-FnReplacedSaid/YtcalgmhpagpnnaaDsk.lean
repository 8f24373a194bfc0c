/- Disks of one's own: marked, looked at and compared as the exact laws do. Conditions: at most 1048576 files and ops of each list. -/
import Derived.Test.YtcalgmhpagpnnaaToL
namespace Go.Proofs.Ytcalgmhpagpnnaa
open Go.RowKit
set_option maxRecDepth 8000

theorem FlL.grown {w w' : World} {B : Nat} {v : Value} {L : List Fl} {row : Option Nat} (h : FlL w B v L) (hg : w.grownBy w' row) (hne : v.ownBlock = none ∨ v.ownBlock ≠ row) : FlL w' B v L := World.ownsRow.kept h hg hne
theorem DpL.grown {w w' : World} {B : Nat} {v : Value} {L : List Dp} {row : Option Nat} (h : DpL w B v L) (hg : w.grownBy w' row) (hne : v.ownBlock = none ∨ v.ownBlock ≠ row) : DpL w' B v L := World.ownsRow.kept h hg hne
theorem DpL.lt {w : World} {B : Nat} {v : Value} {M : List Dp} (h : DpL w B v M) : ∀ g, v.ownBlock = some g → B ≤ g := fun g hg => (World.ownsRow.lt h g hg).1
theorem fl_dp {w : World} {B C : Nat} {v u : Value} {L : List Fl} {O : List Dp} (h : FlL w B v L) (k : DpL w C u O) : ∀ q, v.ownBlock = some q → u.ownBlock ≠ some q := by
  intro q hv hu
  rcases h.2 with ⟨e, _⟩ | ⟨g, c, cur, e, _, hg, _⟩
  · rw [e] at hv; cases hv
  rcases k.2 with ⟨e', _⟩ | ⟨g', c', cur', e', _, hg', _⟩
  · rw [e'] at hu; cases hu
  rw [e] at hv
  rw [e'] at hu
  have h1 : g = q := Option.some.inj hv
  have h2 : g' = q := Option.some.inj hu
  subst h1
  subst h2
  rw [hg] at hg'
  cases hg'
theorem ne_row {v u : Value} (h : ∀ q, v.ownBlock = some q → u.ownBlock ≠ some q) : u.ownBlock = none ∨ u.ownBlock ≠ v.ownBlock := by
  cases hu : u.ownBlock with
  | none => exact Or.inl rfl
  | some q => exact Or.inr fun e => h q e.symm hu

/-- All is as it was but for three rows. -/
structure Keep3 (w w' : World) (v1 v2 v3 : Value) : Prop where
  os : w'.os = w.os
  tape : w'.tape = w.tape
  output : w'.output = w.output
  size : w.heap.size ≤ w'.heap.size
  block : ∀ g, g < w.heap.size → v1.ownBlock ≠ some g → v2.ownBlock ≠ some g → v3.ownBlock ≠ some g → w'.heap[g]? = w.heap[g]?
theorem Keep3.below {w w' : World} {v1 v2 v3 : Value} (h : Keep3 w w' v1 v2 v3) {B : Nat} (hB : B ≤ w.heap.size) (h1 : ∀ g, v1.ownBlock = some g → B ≤ g) (h2 : ∀ g, v2.ownBlock = some g → B ≤ g) (h3 : ∀ g, v3.ownBlock = some g → B ≤ g) : Below B w w' :=
  ⟨h.os, h.tape, h.output, h.size, fun g hg => h.block g (by omega) (fun e => by have := h1 g e; omega) (fun e => by have := h2 g e; omega) (fun e => by have := h3 g e; omega)⟩
theorem Own3.below {w : World} {B : Nat} {v1 v2 v3 : Value} {L1 L2 : List Fl} {L3 : List Dp} (h : Own3 w B v1 v2 v3 L1 L2 L3) {w' : World} (k : Keep3 w w' v1 v2 v3) (hB : B ≤ w.heap.size) : Below B w w' :=
  k.below hB h.live.lt h.safe.lt h.ops.lt
/-- A disk of one's own whose rows are apart from those. -/
theorem Own3.other {w : World} {C : Nat} {v1 v2 v3 u1 u2 u3 : Value} {M1 M2 : List Fl} {M3 : List Dp} (k : Own3 w C u1 u2 u3 M1 M2 M3) {w' : World} (hk : Keep3 w w' v1 v2 v3)
    (hap : ∀ g g', (v1.ownBlock = some g ∨ v2.ownBlock = some g ∨ v3.ownBlock = some g) → (u1.ownBlock = some g' ∨ u2.ownBlock = some g' ∨ u3.ownBlock = some g') → g ≠ g') : Own3 w' C u1 u2 u3 M1 M2 M3 := by
  have key : ∀ g, (u1.ownBlock = some g ∨ u2.ownBlock = some g ∨ u3.ownBlock = some g) → g < w.heap.size → w'.heap[g]? = w.heap[g]? := fun g hu hg => hk.block g hg (fun e => hap g g (Or.inl e) hu rfl) (fun e => hap g g (Or.inr (Or.inl e)) hu rfl) (fun e => hap g g (Or.inr (Or.inr e)) hu rfl)
  have go : ∀ {e : TypeId} {s : Nat} {v : Value} {n : Nat} {xs : List Value}, w.ownsRow C e s v n xs → (∀ g, v.ownBlock = some g → w'.heap[g]? = w.heap[g]?) → w'.ownsRow C e s v n xs := fun hr hb => by
    refine ⟨hr.1, ?_⟩
    rcases hr.2 with h0 | ⟨g, cap, cur, hv, hb0, hg, r⟩
    · exact Or.inl h0
    · exact Or.inr ⟨g, cap, cur, hv, hb0, (hb g (by rw [hv]; rfl)).trans hg, r⟩
  exact ⟨go k.live fun g hg => key g (Or.inl hg) (World.ownsRow.lt k.live g hg).2, go k.safe fun g hg => key g (Or.inr (Or.inl hg)) (World.ownsRow.lt k.safe g hg).2, go k.ops fun g hg => key g (Or.inr (Or.inr hg)) (World.ownsRow.lt k.ops g hg).2, k.ne⟩
theorem Own3.mono {w : World} {B B' : Nat} {v1 v2 v3 : Value} {L1 L2 : List Fl} {L3 : List Dp} (h : Own3 w B v1 v2 v3 L1 L2 L3) (hB : B' ≤ B) : Own3 w B' v1 v2 v3 L1 L2 L3 := ⟨h.live.mono hB, h.safe.mono hB, h.ops.mono hB, h.ne⟩
theorem Own3.shape {w : World} {B : Nat} {v1 v2 v3 : Value} {L1 L2 : List Fl} {L3 : List Dp} (h : Own3 w B v1 v2 v3 L1 L2 L3) : ∃ a1 c1 a2 c2 a3 c3, v1 = .slice a1 L1.length c1 ∧ v2 = .slice a2 L2.length c2 ∧ v3 = .slice a3 L3.length c3 := by
  obtain ⟨a1, c1, h1, _, _⟩ := h.live.shape
  obtain ⟨a2, c2, h2, _, _⟩ := h.safe.shape
  obtain ⟨a3, c3, h3, _, _⟩ := h.ops.shape
  exact ⟨a1, c1, a2, c2, a3, c3, h1, h2, h3⟩

/-- Marked lists. -/
def Mk3 (n1 n2 n3 : Nat) (M1 M2 : List Fl) (M3 : List Dp) : Prop :=
  M1.length = n1 ∧ M2.length = n2 ∧ M3.length = n3 ∧ MarkedFl 1 n1 M1 ∧ MarkedFl (1 + 2 * (n1 : Int)) n2 M2 ∧ MarkedDp (1 + 2 * (n1 : Int) + 2 * (n2 : Int)) n3 M3
def cnt3 (n1 n2 n3 : Nat) : Int := 1 + 2 * (n1 : Int) + 2 * (n2 : Int) + 4 * (n3 : Int)

set_option maxHeartbeats 2000000 in
theorem markDisk (B : Nat) (a1 a2 a3 : Option Addr) (n1 n2 n3 c1 c2 c3 : Nat) (L1 L2 : List Fl) (L3 : List Dp) (w : World) (h : Own3 w B (.slice a1 n1 c1) (.slice a2 n2 c2) (.slice a3 n3 c3) L1 L2 L3)
    (e1 : L1.length = n1) (e2 : L2.length = n2) (e3 : L3.length = n3) (l1 : n1 ≤ 1048576) (l2 : n2 ≤ 1048576) (l3 : n3 ≤ 1048576) :
    Calls Try.prog 31 #[.agg #[.slice a1 n1 c1, .slice a2 n2 c2, .slice a3 n3 c3], .int .i64 1] w fun e w' => e = .returned (.int .i64 (cnt3 n1 n2 n3)) ∧ (∃ M1 M2 M3, Mk3 n1 n2 n3 M1 M2 M3 ∧ Own3 w' B (.slice a1 n1 c1) (.slice a2 n2 c2) (.slice a3 n3 c3) M1 M2 M3) ∧ Keep3 w w' (.slice a1 n1 c1) (.slice a2 n2 c2) (.slice a3 n3 c3) := by
  have H : Hid (Own3 w B (.slice a1 n1 c1) (.slice a2 n2 c2) (.slice a3 n3 c3) L1 L2 L3) := h
  have E1 : Hid (L1.length = n1) := e1
  have E2 : Hid (L2.length = n2) := e2
  have E3 : Hid (L3.length = n3) := e3
  clear h e1 e2 e3
  obtain ⟨W0, hW0, xb, xB⟩ : ∃ W0, W0 = w.alloc (.cells #[.slice a1 n1 c1, .slice a2 n2 c2, .slice a3 n3 c3] 27) ∧ Box3 W0 w.heap.size (.slice a1 n1 c1) (.slice a2 n2 c2) (.slice a3 n3 c3) ∧ Below w.heap.size w W0 := ⟨_, rfl, Box3.new w _ _ _ 27, (Below.refl _ _).alloc (Nat.le_refl _) _⟩
  have HW0 : Hid (W0 = _) := hW0
  have X0 : Hid (Box3 W0 w.heap.size (.slice a1 n1 c1) (.slice a2 n2 c2) (.slice a3 n3 c3) ∧ Below w.heap.size w W0) := ⟨xb, xB⟩
  have O0 : Hid (Own3 W0 B (.slice a1 n1 c1) (.slice a2 n2 c2) (.slice a3 n3 c3) L1 L2 L3) := H.out.kept xB
  have LT : Hid (∀ g, ((Value.slice a1 n1 c1).ownBlock = some g ∨ (Value.slice a2 n2 c2).ownBlock = some g ∨ (Value.slice a3 n3 c3).ownBlock = some g) → g ≠ w.heap.size) := fun g hg e => by
    rcases hg with k | k | k
    · have := (World.ownsRow.lt H.out.live g k).2; omega
    · have := (World.ownsRow.lt H.out.safe g k).2; omega
    · have := (World.ownsRow.lt H.out.ops g k).2; omega
  clear hW0 xb xB
  go_enter Try.func31, Try.ntmps31
  go_wp2_with fail
  rw [← HW0.out]
  refine (markFls B _ L1 1 _ (by rw [E1.out]; exact l1) (by omega) (by omega) O0.out.live).mono ?_
  rintro e w1 ⟨rfl, ⟨M1, hM1, hK1, hA1⟩, G1⟩
  rw [E1.out] at hM1 hK1 ⊢
  have kb : ∀ {W W' : World} {row : Option Nat}, Box3 W w.heap.size (.slice a1 n1 c1) (.slice a2 n2 c2) (.slice a3 n3 c3) → W.grownBy W' row → row ≠ some w.heap.size → Box3 W' w.heap.size (.slice a1 n1 c1) (.slice a2 n2 c2) (.slice a3 n3 c3) := fun {W W' row} hx hg hr => by
    have hb := hg.block w.heap.size hx.2.2 (fun e => hr e.symm)
    obtain ⟨⟨h0, h1, h2⟩, hf, hz⟩ := hx
    exact ⟨⟨(World.cell?_of_block (w := W) (a := ⟨w.heap.size, 0, none⟩) hb).trans h0, (World.cell?_of_block (w := W) (a := ⟨w.heap.size, 1, none⟩) hb).trans h1, (World.cell?_of_block (w := W) (a := ⟨w.heap.size, 2, none⟩) hb).trans h2⟩, fun o => (World.frozen?_of_block (w := W) (a := ⟨w.heap.size, o, none⟩) hb).trans (hf o), Nat.lt_of_lt_of_le hz hg.size⟩
  have S1 : Hid (Own3 w1 B (.slice a1 n1 c1) (.slice a2 n2 c2) (.slice a3 n3 c3) M1 L2 L3 ∧ Box3 w1 w.heap.size (.slice a1 n1 c1) (.slice a2 n2 c2) (.slice a3 n3 c3)) :=
    ⟨⟨hA1, O0.out.safe.grown G1 (ne_row O0.out.ne), O0.out.ops.grown G1 (ne_row (fl_dp O0.out.live O0.out.ops)), O0.out.ne⟩, kb X0.out.1 G1 (fun e => LT.out _ (Or.inl e) rfl)⟩
  have HM1 : Hid (M1.length = n1 ∧ MarkedFl 1 n1 M1) := ⟨hM1, hK1⟩
  have G1' : Hid (W0.grownBy w1 (Value.slice a1 n1 c1).ownBlock) := G1
  clear hM1 hK1 hA1 G1 O0
  obtain ⟨_, ⟨⟨s0, s1, s2⟩, _, _⟩⟩ := S1.out
  go_wp2_with fail
  refine (markFls B _ L2 (1 + 2 * (n1 : Int)) _ (by rw [E2.out]; exact l2) (by omega) (by omega) S1.out.1.safe).mono ?_
  rintro e w2 ⟨rfl, ⟨M2, hM2, hK2, hA2⟩, G2⟩
  rw [E2.out] at hM2 hK2 ⊢
  have S2 : Hid (Own3 w2 B (.slice a1 n1 c1) (.slice a2 n2 c2) (.slice a3 n3 c3) M1 M2 L3 ∧ Box3 w2 w.heap.size (.slice a1 n1 c1) (.slice a2 n2 c2) (.slice a3 n3 c3)) :=
    ⟨⟨S1.out.1.live.grown G2 (ne_row fun q h1 h2 => S1.out.1.ne q h2 h1), hA2, S1.out.1.ops.grown G2 (ne_row (fl_dp S1.out.1.safe S1.out.1.ops)), S1.out.1.ne⟩, kb S1.out.2 G2 (fun e => LT.out _ (Or.inr (Or.inl e)) rfl)⟩
  have HM2 : Hid (M2.length = n2 ∧ MarkedFl (1 + 2 * (n1 : Int)) n2 M2) := ⟨hM2, hK2⟩
  have G2' : Hid (w1.grownBy w2 (Value.slice a2 n2 c2).ownBlock) := G2
  clear hM2 hK2 hA2 G2 S1 s0 s1 s2
  obtain ⟨_, ⟨⟨s0, s1, s2⟩, _, _⟩⟩ := S2.out
  go_wp2_with fail
  refine (markDps B _ L3 (1 + 2 * (n1 : Int) + 2 * (n2 : Int)) _ (by rw [E3.out]; exact l3) (by omega) (by omega) S2.out.1.ops).mono ?_
  rintro e w3 ⟨rfl, ⟨M3, hM3, hK3, hA3⟩, G3⟩
  rw [E3.out] at hM3 hK3 ⊢
  have S3 : Hid (Own3 w3 B (.slice a1 n1 c1) (.slice a2 n2 c2) (.slice a3 n3 c3) M1 M2 M3) :=
    ⟨S2.out.1.live.grown G3 (ne_row fun q h1 h2 => fl_dp S2.out.1.live S2.out.1.ops q h2 h1), S2.out.1.safe.grown G3 (ne_row fun q h1 h2 => fl_dp S2.out.1.safe S2.out.1.ops q h2 h1), hA3, S2.out.1.ne⟩
  have HM3 : Hid (M3.length = n3 ∧ MarkedDp (1 + 2 * (n1 : Int) + 2 * (n2 : Int)) n3 M3) := ⟨hM3, hK3⟩
  have KK : Hid (Keep3 w w3 (.slice a1 n1 c1) (.slice a2 n2 c2) (.slice a3 n3 c3)) := by
    have b := X0.out.2
    have g1 := G1'.out
    have g2 := G2'.out
    refine ⟨G3.os.trans (g2.os.trans (g1.os.trans b.os)), G3.tape.trans (g2.tape.trans (g1.tape.trans b.tape)), G3.output.trans (g2.output.trans (g1.output.trans b.output)), Nat.le_trans b.size (Nat.le_trans g1.size (Nat.le_trans g2.size G3.size)), fun g hg k1 k2 k3 => ?_⟩
    have z0 : g < W0.heap.size := Nat.lt_of_lt_of_le hg b.size
    have z1 : g < w1.heap.size := Nat.lt_of_lt_of_le z0 g1.size
    have z2 : g < w2.heap.size := Nat.lt_of_lt_of_le z1 g2.size
    exact (G3.block g z2 (fun e => k3 e.symm)).trans ((g2.block g z1 (fun e => k2 e.symm)).trans ((g1.block g z0 (fun e => k1 e.symm)).trans (b.block g hg)))
  clear hM3 hK3 hA3 G3 S2 s0 s1 s2 kb
  go_wp2
  go_ret
  exact ⟨rfl, ⟨M1, M2, M3, ⟨HM1.out.1, HM2.out.1, HM3.out.1, HM1.out.2, HM2.out.2, HM3.out.2⟩, S3.out⟩, KK.out⟩

set_option maxHeartbeats 2000000 in
theorem heldDisk (B : Nat) (a1 a2 a3 : Option Addr) (n1 n2 n3 c1 c2 c3 : Nat) (M1 M2 : List Fl) (M3 : List Dp) (w : World) (h : Own3 w B (.slice a1 n1 c1) (.slice a2 n2 c2) (.slice a3 n3 c3) M1 M2 M3) (hM : Mk3 n1 n2 n3 M1 M2 M3)
    (l1 : n1 ≤ 1048576) (l2 : n2 ≤ 1048576) (l3 : n3 ≤ 1048576) :
    Calls Try.prog 32 #[.agg #[.slice a1 n1 c1, .slice a2 n2 c2, .slice a3 n3 c3], .int .i64 1] w fun e w' => e = .returned (.int .i64 (cnt3 n1 n2 n3)) ∧ Below w.heap.size w w' := by
  have H : Hid (Own3 w B (.slice a1 n1 c1) (.slice a2 n2 c2) (.slice a3 n3 c3) M1 M2 M3) := h
  have HM : Hid (Mk3 n1 n2 n3 M1 M2 M3) := hM
  clear h hM
  obtain ⟨W0, hW0, xb, xB⟩ : ∃ W0, W0 = w.alloc (.cells #[.slice a1 n1 c1, .slice a2 n2 c2, .slice a3 n3 c3] 27) ∧ Box3 W0 w.heap.size (.slice a1 n1 c1) (.slice a2 n2 c2) (.slice a3 n3 c3) ∧ Below w.heap.size w W0 := ⟨_, rfl, Box3.new w _ _ _ 27, (Below.refl _ _).alloc (Nat.le_refl _) _⟩
  have HW0 : Hid (W0 = _) := hW0
  have X0 : Hid (Box3 W0 w.heap.size (.slice a1 n1 c1) (.slice a2 n2 c2) (.slice a3 n3 c3) ∧ Below w.heap.size w W0) := ⟨xb, xB⟩
  clear hW0 xb xB
  have T1 : Hid (∀ W, Below w.heap.size w W → Calls Try.prog 72 #[.slice a1 n1 c1, .int .i64 1] W fun e w' => e = .returned (.int .i64 (1 + 2 * (n1 : Int))) ∧ Below W.heap.size W w') := fun W hW => by
    obtain ⟨m1, m2, m3, k1, k2, k3⟩ := HM.out
    have := heldFls B _ M1 1 W (by rw [m1]; exact l1) (by omega) (by omega) (H.out.live.kept hW) (by rw [m1]; exact k1)
    rwa [m1] at this
  have T2 : Hid (∀ W, Below w.heap.size w W → Calls Try.prog 72 #[.slice a2 n2 c2, .int .i64 (1 + 2 * (n1 : Int))] W fun e w' => e = .returned (.int .i64 (1 + 2 * (n1 : Int) + 2 * (n2 : Int))) ∧ Below W.heap.size W w') := fun W hW => by
    obtain ⟨m1, m2, m3, k1, k2, k3⟩ := HM.out
    have := heldFls B _ M2 (1 + 2 * (n1 : Int)) W (by rw [m2]; exact l2) (by omega) (by omega) (H.out.safe.kept hW) (by rw [m2]; exact k2)
    rwa [m2] at this
  have T3 : Hid (∀ W, Below w.heap.size w W → Calls Try.prog 73 #[.slice a3 n3 c3, .int .i64 (1 + 2 * (n1 : Int) + 2 * (n2 : Int))] W fun e w' => e = .returned (.int .i64 (1 + 2 * (n1 : Int) + 2 * (n2 : Int) + 4 * (n3 : Int))) ∧ Below W.heap.size W w') := fun W hW => by
    obtain ⟨m1, m2, m3, k1, k2, k3⟩ := HM.out
    have := heldDps B _ M3 (1 + 2 * (n1 : Int) + 2 * (n2 : Int)) W (by rw [m3]; exact l3) (by omega) (by omega) (H.out.ops.kept hW) (by rw [m3]; exact k3)
    rwa [m3] at this
  clear H HM
  go_enter Try.func32, Try.ntmps32
  go_wp2_with fail
  rw [← HW0.out]
  refine (T1.out _ X0.out.2).mono ?_
  rintro e w1 ⟨rfl, D1⟩
  have X1 : Hid (Box3 w1 w.heap.size (.slice a1 n1 c1) (.slice a2 n2 c2) (.slice a3 n3 c3) ∧ Below w.heap.size w w1) := ⟨X0.out.1.kept D1 X0.out.1.2.2, X0.out.2.trans (D1.mono X0.out.2.size)⟩
  clear D1 X0 HW0
  obtain ⟨⟨⟨s0, s1, s2⟩, _, _⟩, _⟩ := X1.out
  go_wp2_with fail
  refine (T2.out _ X1.out.2).mono ?_
  rintro e w2 ⟨rfl, D2⟩
  have X2 : Hid (Box3 w2 w.heap.size (.slice a1 n1 c1) (.slice a2 n2 c2) (.slice a3 n3 c3) ∧ Below w.heap.size w w2) := ⟨X1.out.1.kept D2 X1.out.1.2.2, X1.out.2.trans (D2.mono X1.out.2.size)⟩
  clear D2 X1 s0 s1 s2
  obtain ⟨⟨⟨s0, s1, s2⟩, _, _⟩, _⟩ := X2.out
  go_wp2_with fail
  refine (T3.out _ X2.out.2).mono ?_
  rintro e w3 ⟨rfl, D3⟩
  have X3 : Hid (Below w.heap.size w w3) := X2.out.2.trans (D3.mono X2.out.2.size)
  clear D3 X2 s0 s1 s2
  go_wp2
  go_ret
  exact ⟨rfl, X3.out⟩

/-- Two disks of one's own with the same lists. -/
theorem eqDisk_own {w : World} {B C : Nat} {a1 a2 a3 b1 b2 b3 : Option Addr} {n1 n2 n3 c1 c2 c3 d1 d2 d3 : Nat} {L1 L2 : List Fl} {L3 : List Dp} (h : Own3 w B (.slice a1 n1 c1) (.slice a2 n2 c2) (.slice a3 n3 c3) L1 L2 L3)
    (k : Own3 w C (.slice b1 n1 d1) (.slice b2 n2 d2) (.slice b3 n3 d3) L1 L2 L3) (l1 : L1.length ≤ 1048576) (l2 : L2.length ≤ 1048576) (l3 : L3.length ≤ 1048576) :
    Calls Try.prog 28 #[.agg #[.slice a1 n1 c1, .slice a2 n2 c2, .slice a3 n3 c3], .agg #[.slice b1 n1 d1, .slice b2 n2 d2, .slice b3 n3 d3]] w fun e w' => e = .returned (.bool true) ∧ Below w.heap.size w w' :=
  eqDisk_lists a1 a2 a3 b1 b2 b3 n1 n2 n3 c1 c2 c3 d1 d2 d3 (FlF L1) (FlF L2) (DpF L3) w (h.live.list l1).2 (h.safe.list l2).2 (h.ops.list l3).2 (k.live.list l1).2 (k.safe.list l2).2 (k.ops.list l3).2
end Go.Proofs.Ytcalgmhpagpnnaa
