/- Disks as the exact laws copy and compare them. Conditions: the disk's lists lie in memory, at most 1048576 of each. -/
import Derived.Test.YtcalgmhpagpnnaaDmK
import Derived.Laws.BytesArg
import Derived.Laws.Concat
namespace Go.Proofs.Ytcalgmhpagpnnaa
open Go.RowKit
set_option maxRecDepth 8000

/-- Three cells of one's own. -/
def Box3 (w : World) (R : Nat) (v0 v1 v2 : Value) : Prop :=
  (w.cell? ⟨R, 0, none⟩ = some v0 ∧ w.cell? ⟨R, 1, none⟩ = some v1 ∧ w.cell? ⟨R, 2, none⟩ = some v2) ∧ (∀ o, w.frozen? ⟨R, o, none⟩ = false) ∧ R < w.heap.size
theorem Box3.new (w : World) (v0 v1 v2 : Value) (t : TypeId) : Box3 (w.alloc (.cells #[v0, v1, v2] t)) w.heap.size v0 v1 v2 :=
  ⟨⟨by simp [go_sem], by simp [go_sem], by simp [go_sem]⟩, fun o => by simp [go_sem], by simp⟩
theorem Box3.kept {w w' : World} {R B : Nat} {v0 v1 v2 : Value} (h : Box3 w R v0 v1 v2) (hb : Below B w w') (hR : R < B) : Box3 w' R v0 v1 v2 := by
  obtain ⟨⟨h0, h1, h2⟩, hf, hz⟩ := h
  exact ⟨⟨(hb.cell (p := ⟨R, 0, none⟩) hR).trans h0, (hb.cell (p := ⟨R, 1, none⟩) hR).trans h1, (hb.cell (p := ⟨R, 2, none⟩) hR).trans h2⟩, fun o => (hb.frozen (p := ⟨R, o, none⟩) hR).trans (hf o), Nat.lt_of_lt_of_le hz hb.size⟩
theorem Box3.far {w : World} {R : Nat} {v0 v1 v2 : Value} (h : Box3 w R v0 v1 v2) {Q : Nat} (hne : Q ≠ R) (q : Nat) (u : Value) : Box3 (w.setCell ⟨Q, q, none⟩ u) R v0 v1 v2 := by
  obtain ⟨⟨h0, h1, h2⟩, hf, hz⟩ := h
  have o : ∀ j, (w.setCell ⟨Q, q, none⟩ u).cell? ⟨R, j, none⟩ = w.cell? ⟨R, j, none⟩ := fun j => World.cell?_setCell_other _ _ _ _ (by intro e; exact hne (congrArg Addr.block e))
  exact ⟨⟨by rw [o]; exact h0, by rw [o]; exact h1, by rw [o]; exact h2⟩, fun o => by rw [World.frozen?_setCell]; exact hf o, by simpa [World.setCell] using hz⟩
theorem Box3.set0 {w : World} {R : Nat} {v0 v1 v2 : Value} (h : Box3 w R v0 v1 v2) (u : Value) : Box3 (w.setCell ⟨R, 0, none⟩ u) R u v1 v2 := by
  obtain ⟨⟨h0, h1, h2⟩, hf, hz⟩ := h
  have o : ∀ j, j ≠ 0 → (w.setCell ⟨R, 0, none⟩ u).cell? ⟨R, j, none⟩ = w.cell? ⟨R, j, none⟩ := fun j hj => World.cell?_setCell_other _ _ _ _ (by intro e; exact hj (congrArg Addr.off e).symm)
  exact ⟨⟨World.cell?_setCell_same' _ _ _ (by rw [h0]; rfl), by rw [o 1 (by omega)]; exact h1, by rw [o 2 (by omega)]; exact h2⟩, fun o => by rw [World.frozen?_setCell]; exact hf o, by simpa [World.setCell] using hz⟩
theorem Box3.set1 {w : World} {R : Nat} {v0 v1 v2 : Value} (h : Box3 w R v0 v1 v2) (u : Value) : Box3 (w.setCell ⟨R, 1, none⟩ u) R v0 u v2 := by
  obtain ⟨⟨h0, h1, h2⟩, hf, hz⟩ := h
  have o : ∀ j, j ≠ 1 → (w.setCell ⟨R, 1, none⟩ u).cell? ⟨R, j, none⟩ = w.cell? ⟨R, j, none⟩ := fun j hj => World.cell?_setCell_other _ _ _ _ (by intro e; exact hj (congrArg Addr.off e).symm)
  exact ⟨⟨by rw [o 0 (by omega)]; exact h0, World.cell?_setCell_same' _ _ _ (by rw [h1]; rfl), by rw [o 2 (by omega)]; exact h2⟩, fun o => by rw [World.frozen?_setCell]; exact hf o, by simpa [World.setCell] using hz⟩
theorem below_far {B : Nat} {w W : World} (h : Below B w W) {Q : Nat} (hQ : B ≤ Q) (q : Nat) (u : Value) : Below B w (W.setCell ⟨Q, q, none⟩ u) := h.setCell (p := ⟨Q, q, none⟩) hQ u
theorem RowFl.far {w : World} {R n k : Nat} {F : Nat → Fl} (h : RowFl w R n k F) {Q : Nat} (hne : Q ≠ R) (q : Nat) (u : Value) : RowFl (w.setCell ⟨Q, q, none⟩ u) R n k F := by
  have o : ∀ j, (w.setCell ⟨Q, q, none⟩ u).cell? ⟨R, j, none⟩ = w.cell? ⟨R, j, none⟩ := fun j => World.cell?_setCell_other _ _ _ _ (by intro e; exact hne (congrArg Addr.block e))
  exact ⟨fun j hj => by rw [o]; exact h.1 j hj, fun j => by rw [World.frozen?_setCell]; exact h.2.1 j, by simpa [World.setCell] using h.2.2.1, fun i hi => (h.2.2.2 i hi).of_cells o⟩
theorem RowDp.far {w : World} {R n k : Nat} {F : Nat → Dp} (h : RowDp w R n k F) {Q : Nat} (hne : Q ≠ R) (q : Nat) (u : Value) : RowDp (w.setCell ⟨Q, q, none⟩ u) R n k F := by
  have o : ∀ j, (w.setCell ⟨Q, q, none⟩ u).cell? ⟨R, j, none⟩ = w.cell? ⟨R, j, none⟩ := fun j => World.cell?_setCell_other _ _ _ _ (by intro e; exact hne (congrArg Addr.block e))
  exact ⟨fun j hj => by rw [o]; exact h.1 j hj, fun j => by rw [World.frozen?_setCell]; exact h.2.1 j, by simpa [World.setCell] using h.2.2.1, fun i hi => (h.2.2.2 i hi).of_cells o⟩

/-- On the way of a copy. -/
def TD (w W : World) (x0 x1 x2 v0 v1 v2 : Value) : Prop :=
  Box3 W w.heap.size x0 x1 x2 ∧ Box3 W (w.heap.size + 1) (.slice none 0 0) (.slice none 0 0) (.slice none 0 0) ∧ Box3 W (w.heap.size + 1 + 1) v0 v1 v2 ∧ Below w.heap.size w W
theorem TD.kept {w W W' : World} {x0 x1 x2 v0 v1 v2 : Value} (h : TD w W x0 x1 x2 v0 v1 v2) (hb : Below W.heap.size W W') : TD w W' x0 x1 x2 v0 v1 v2 :=
  ⟨h.1.kept hb h.1.2.2, h.2.1.kept hb h.2.1.2.2, h.2.2.1.kept hb h.2.2.1.2.2, h.2.2.2.trans (hb.mono h.2.2.2.size)⟩

/-- A disk that a law has made. -/
structure Made (w : World) (B : Nat) (R1 R2 R3 n m q : Nat) (F G : Nat → Fl) (O : Nat → Dp) : Prop where
  live : RowFl w R1 n n F
  safe : RowFl w R2 m m G
  ops : RowDp w R3 q q O
  b1 : B ≤ R1
  b2 : R1 < R2
  b3 : R2 < R3
theorem Made.below {w w' : World} {B R1 R2 R3 n m q : Nat} {F G : Nat → Fl} {O : Nat → Dp} (h : Made w B R1 R2 R3 n m q F G O) (hb : Below w.heap.size w w') : Made w' B R1 R2 R3 n m q F G O :=
  ⟨h.live.below hb, h.safe.below hb, h.ops.below hb, h.b1, h.b2, h.b3⟩
theorem Made.dk {w : World} {B R1 R2 R3 n m q : Nat} {F G : Nat → Fl} {O : Nat → Dp} (h : Made w B R1 R2 R3 n m q F G O) {w0 : World} {a b d : Option Addr} (h0 : Dk w0 a n F b m G d q O) :
    Dk w (some ⟨R1, 0, none⟩) n F (some ⟨R2, 0, none⟩) m G (some ⟨R3, 0, none⟩) q O :=
  ⟨h.live.list h0.live.1, h.safe.list h0.safe.1, h.ops.list h0.ops.1, h0.sl, h0.ss, h0.so⟩

set_option maxHeartbeats 2000000 in
theorem toDisk (a b d : Option Addr) (n m q c c' c'' : Nat) (F G : Nat → Fl) (O : Nat → Dp) (w : World) (h : Dk w a n F b m G d q O) :
    Calls Try.prog 27 #[.agg #[.slice a n c, .slice b m c', .slice d q c'']] w fun e w' => ∃ R1 R2 R3, e = .returned (.agg #[.slice (some ⟨R1, 0, none⟩) n n, .slice (some ⟨R2, 0, none⟩) m m, .slice (some ⟨R3, 0, none⟩) q q]) ∧ Made w' w.heap.size R1 R2 R3 n m q F G O ∧ Below w.heap.size w w' := by
  have H : Hid (Dk w a n F b m G d q O) := h
  have hn := h.live.1
  have hm := h.safe.1
  have hq := h.ops.1
  clear h
  obtain ⟨W0, hW0, P1⟩ : ∃ W0, W0 = ((w.alloc (.cells #[.slice a n c, .slice b m c', .slice d q c''] 50)).alloc (.cells #[.slice none 0 0, .slice none 0 0, .slice none 0 0] 27)).alloc (.cells #[.slice none 0 0, .slice none 0 0, .slice none 0 0] 27) ∧
      Hid (TD w W0 (.slice a n c) (.slice b m c') (.slice d q c'') (.slice none 0 0) (.slice none 0 0) (.slice none 0 0) ∧ W0.heap.size = w.heap.size + 1 + 1 + 1) := by
    refine ⟨_, rfl, ⟨?_, ?_, ?_, (((Below.refl _ _).alloc (Nat.le_refl _) _).alloc (by simp) _).alloc (by simp; omega) _⟩, by simp⟩
    · exact ((Box3.new w _ _ _ 50).kept ((Below.refl _ _).alloc (Nat.le_refl _) _) (by simp)).kept ((Below.refl _ _).alloc (Nat.le_refl _) _) (by simp; omega)
    · have := Box3.new (w.alloc (.cells #[.slice a n c, .slice b m c', .slice d q c''] 50)) (.slice none 0 0) (.slice none 0 0) (.slice none 0 0) 27
      rw [World.size_alloc] at this
      exact this.kept ((Below.refl _ _).alloc (Nat.le_refl _) _) (by simp)
    · have := Box3.new ((w.alloc (.cells #[.slice a n c, .slice b m c', .slice d q c''] 50)).alloc (.cells #[.slice none 0 0, .slice none 0 0, .slice none 0 0] 27)) (.slice none 0 0) (.slice none 0 0) (.slice none 0 0) 27
      simp only [World.size_alloc] at this
      exact this
  have HW0 : Hid (W0 = _) := hW0
  clear hW0
  go_enter Try.func27, Try.ntmps27
  go_wp2_with fail
  rw [← HW0.out]
  refine (toSFl a n c F _ (H.out.live.below P1.out.1.2.2.2)).mono ?_
  rintro e w1 ⟨rfl, R1, D1⟩
  obtain ⟨q1, hq1⟩ : ∃ q1, q1 = W0.heap.size := ⟨_, rfl⟩
  have T1 := P1.out.1.kept D1
  have hq1b : w.heap.size + 1 + 1 < q1 := by rw [hq1, P1.out.2]; omega
  rw [← hq1] at R1 ⊢
  clear HW0 D1 P1 hq1
  obtain ⟨W2, hW2⟩ : ∃ W2, W2 = w1.setCell ⟨w.heap.size + 1 + 1, 0, none⟩ (.slice (some ⟨q1, 0, none⟩) n n) := ⟨_, rfl⟩
  have P2 : Hid (TD w W2 (.slice a n c) (.slice b m c') (.slice d q c'') (.slice (some ⟨q1, 0, none⟩) n n) (.slice none 0 0) (.slice none 0 0) ∧ RowFl W2 q1 n n F) := by
    subst hW2
    exact ⟨⟨T1.1.far (by omega) _ _, T1.2.1.far (by omega) _ _, T1.2.2.1.set0 _, below_far T1.2.2.2 (by omega) _ _⟩, R1.far (by omega) _ _⟩
  have HW2 : Hid (W2 = _) := hW2
  obtain ⟨⟨⟨s0, s1, s2⟩, _, _⟩, ⟨_, _, _⟩, ⟨⟨o0, o1, o2⟩, of, _⟩, _⟩ := T1
  clear R1 hW2
  go_wp2_with fail
  rw [← HW2.out]
  refine (toSFl b m c' G _ (H.out.safe.below P2.out.1.2.2.2)).mono ?_
  rintro e w2 ⟨rfl, R2, D2⟩
  obtain ⟨q2, hq2⟩ : ∃ q2, q2 = W2.heap.size := ⟨_, rfl⟩
  have T2 := P2.out.1.kept D2
  have K2 : Hid (RowFl w2 q1 n n F) := P2.out.2.below D2
  have hq2b : q1 < q2 := by rw [hq2]; exact P2.out.2.2.2.1
  rw [← hq2] at R2 ⊢
  clear HW2 D2 P2 hq2 s0 s1 s2 o0 o1 o2 of
  obtain ⟨W3, hW3⟩ : ∃ W3, W3 = w2.setCell ⟨w.heap.size + 1 + 1, 1, none⟩ (.slice (some ⟨q2, 0, none⟩) m m) := ⟨_, rfl⟩
  have P3 : Hid (TD w W3 (.slice a n c) (.slice b m c') (.slice d q c'') (.slice (some ⟨q1, 0, none⟩) n n) (.slice (some ⟨q2, 0, none⟩) m m) (.slice none 0 0) ∧ RowFl W3 q1 n n F ∧ RowFl W3 q2 m m G) := by
    subst hW3
    exact ⟨⟨T2.1.far (by omega) _ _, T2.2.1.far (by omega) _ _, T2.2.2.1.set1 _, below_far T2.2.2.2 (by omega) _ _⟩, K2.out.far (by omega) _ _, R2.far (by omega) _ _⟩
  have HW3 : Hid (W3 = _) := hW3
  obtain ⟨⟨⟨s0, s1, s2⟩, _, _⟩, ⟨_, _, _⟩, ⟨⟨o0, o1, o2⟩, of, _⟩, _⟩ := T2
  clear R2 K2 hW3
  go_wp2_with fail
  rw [← HW3.out]
  refine (toSDp d q c'' O _ (H.out.ops.below P3.out.1.2.2.2)).mono ?_
  rintro e w3 ⟨rfl, R3, D3⟩
  obtain ⟨q3, hq3⟩ : ∃ q3, q3 = W3.heap.size := ⟨_, rfl⟩
  have T3 : Hid (TD w w3 (.slice a n c) (.slice b m c') (.slice d q c'') (.slice (some ⟨q1, 0, none⟩) n n) (.slice (some ⟨q2, 0, none⟩) m m) (.slice none 0 0)) := P3.out.1.kept D3
  have hq3b : q2 < q3 := by rw [hq3]; exact P3.out.2.2.2.2.1
  have K3 : Hid (RowFl w3 q1 n n F ∧ RowFl w3 q2 m m G) := ⟨P3.out.2.1.below D3, P3.out.2.2.below D3⟩
  rw [← hq3] at R3 ⊢
  have R3' : Hid (RowDp w3 q3 q q O) := R3
  clear HW3 D3 P3 hq3 s0 s1 s2 o0 o1 o2 of R3
  obtain ⟨⟨⟨s0, s1, s2⟩, _, _⟩, ⟨⟨r0, r1, r2⟩, rf, _⟩, ⟨⟨o0, o1, o2⟩, of, _⟩, _⟩ := T3.out
  go_wp2
  refine bodyPost_ret (v := .agg #[.slice (some ⟨q1, 0, none⟩) n n, .slice (some ⟨q2, 0, none⟩) m m, .slice (some ⟨q3, 0, none⟩) q q]) (by simp [results, Try.results27, go_sem, r0, r1, r2]) rfl ⟨_, _, _, rfl, ⟨?_, ?_, ?_, by omega, hq2b, hq3b⟩, ?_⟩
  · repeat (refine RowFl.far ?_ (by omega) _ _)
    exact K3.out.1
  · repeat (refine RowFl.far ?_ (by omega) _ _)
    exact K3.out.2
  · repeat (refine RowDp.far ?_ (by omega) _ _)
    exact R3'.out
  · repeat (refine below_far ?_ (by omega) _ _)
    exact T3.out.2.2.2

set_option maxHeartbeats 1000000 in
theorem eqDisk_lists (a1 b1 d1 a2 b2 d2 : Option Addr) (n m q c1 c1' c1'' c2 c2' c2'' : Nat) (F G : Nat → Fl) (O : Nat → Dp) (w : World) (f1 : Fls w a1 n F) (f2 : Fls w b1 m G) (f3 : Dps w d1 q O) (f4 : Fls w a2 n F) (f5 : Fls w b2 m G) (f6 : Dps w d2 q O) :
    Calls Try.prog 28 #[.agg #[.slice a1 n c1, .slice b1 m c1', .slice d1 q c1''], .agg #[.slice a2 n c2, .slice b2 m c2', .slice d2 q c2'']] w fun e w' => e = .returned (.bool true) ∧ Below w.heap.size w w' := by
  have H1 : Hid (Fls w a1 n F ∧ Fls w b1 m G ∧ Dps w d1 q O) := ⟨f1, f2, f3⟩
  have H2 : Hid (Fls w a2 n F ∧ Fls w b2 m G ∧ Dps w d2 q O) := ⟨f4, f5, f6⟩
  clear f1 f2 f3 f4 f5 f6
  obtain ⟨W0, hW0, x1, x2, xB⟩ : ∃ W0, W0 = (w.alloc (.cells #[.slice a1 n c1, .slice b1 m c1', .slice d1 q c1''] 27)).alloc (.cells #[.slice a2 n c2, .slice b2 m c2', .slice d2 q c2''] 27) ∧ Box3 W0 w.heap.size (.slice a1 n c1) (.slice b1 m c1') (.slice d1 q c1'') ∧ Box3 W0 (w.heap.size + 1) (.slice a2 n c2) (.slice b2 m c2') (.slice d2 q c2'') ∧ Below w.heap.size w W0 := by
    refine ⟨_, rfl, (Box3.new w _ _ _ 27).kept ((Below.refl _ _).alloc (Nat.le_refl _) _) (by simp), ?_, ((Below.refl _ _).alloc (Nat.le_refl _) _).alloc (by simp) _⟩
    have := Box3.new (w.alloc (.cells #[.slice a1 n c1, .slice b1 m c1', .slice d1 q c1''] 27)) (.slice a2 n c2) (.slice b2 m c2') (.slice d2 q c2'') 27
    rwa [World.size_alloc] at this
  have X : Hid (Box3 W0 w.heap.size (.slice a1 n c1) (.slice b1 m c1') (.slice d1 q c1'') ∧ Box3 W0 (w.heap.size + 1) (.slice a2 n c2) (.slice b2 m c2') (.slice d2 q c2'') ∧ Below w.heap.size w W0) := ⟨x1, x2, xB⟩
  have HW0 : Hid (W0 = _) := hW0
  clear x1 x2 xB hW0
  go_enter Try.func28, Try.ntmps28
  go_wp2_with fail
  rw [← HW0.out]
  refine (eqSFl_same _ _ n _ _ F _ (H1.out.1.below X.out.2.2) (H2.out.1.below X.out.2.2)).mono ?_
  rintro e w1 ⟨rfl, B1⟩
  have Y : Hid (Box3 w1 w.heap.size (.slice a1 n c1) (.slice b1 m c1') (.slice d1 q c1'') ∧ Box3 w1 (w.heap.size + 1) (.slice a2 n c2) (.slice b2 m c2') (.slice d2 q c2'') ∧ Below w.heap.size w w1) := ⟨X.out.1.kept B1 X.out.1.2.2, X.out.2.1.kept B1 X.out.2.1.2.2, X.out.2.2.trans (B1.mono X.out.2.2.size)⟩
  clear X B1 HW0
  obtain ⟨⟨⟨s0, s1, s2⟩, _, _⟩, ⟨⟨o0, o1, o2⟩, _, _⟩, _⟩ := Y.out
  go_wp2_with fail
  refine (eqSFl_same _ _ m _ _ G _ (H1.out.2.1.below Y.out.2.2) (H2.out.2.1.below Y.out.2.2)).mono ?_
  rintro e w2 ⟨rfl, B2⟩
  have Z : Hid (Box3 w2 w.heap.size (.slice a1 n c1) (.slice b1 m c1') (.slice d1 q c1'') ∧ Box3 w2 (w.heap.size + 1) (.slice a2 n c2) (.slice b2 m c2') (.slice d2 q c2'') ∧ Below w.heap.size w w2) := ⟨Y.out.1.kept B2 Y.out.1.2.2, Y.out.2.1.kept B2 Y.out.2.1.2.2, Y.out.2.2.trans (B2.mono Y.out.2.2.size)⟩
  clear Y B2 s0 s1 s2 o0 o1 o2
  obtain ⟨⟨⟨s0, s1, s2⟩, _, _⟩, ⟨⟨o0, o1, o2⟩, _, _⟩, _⟩ := Z.out
  go_wp2_with (go_at_call 69; refine (eqSDp_same _ _ q _ _ O _ (H1.out.2.2.below Z.out.2.2) (H2.out.2.2.below Z.out.2.2)).mono ?_; rintro e w3 ⟨rfl, B3⟩)
  go_ret
  exact ⟨rfl, Z.out.2.2.trans (B3.mono Z.out.2.2.size)⟩
theorem eqDisk_same (a1 b1 d1 a2 b2 d2 : Option Addr) (n m q c1 c1' c1'' c2 c2' c2'' : Nat) (F G : Nat → Fl) (O : Nat → Dp) (w : World) (h1 : Dk w a1 n F b1 m G d1 q O) (h2 : Dk w a2 n F b2 m G d2 q O) :
    Calls Try.prog 28 #[.agg #[.slice a1 n c1, .slice b1 m c1', .slice d1 q c1''], .agg #[.slice a2 n c2, .slice b2 m c2', .slice d2 q c2'']] w fun e w' => e = .returned (.bool true) ∧ Below w.heap.size w w' :=
  eqDisk_lists a1 b1 d1 a2 b2 d2 n m q c1 c1' c1'' c2 c2' c2'' F G O w h1.live h1.safe h1.ops h2.live h2.safe h2.ops
end Go.Proofs.Ytcalgmhpagpnnaa

/- The laws' marks: texts that are told by numbers. Conditions: numbers from 1 to 100000000. -/
namespace Go.Proofs.Ytcalgmhpagpnnaa
open Go.RowKit
set_option maxRecDepth 8000

/-- The digits of a number ahead of what is there. -/
def digs : Nat → Nat → ByteArray → ByteArray
  | 0, _, o => o
  | f + 1, k, o => if k = 0 then o else digs f (k / 10) (strOfNums [(48 : Int) + (k : Int) % 10] ++ o)
theorem digs_zero (f : Nat) (o : ByteArray) : digs f 0 o = o := by cases f <;> simp [digs]
def markT (k : Nat) : ByteArray := ⟨#[109]⟩ ++ digs k k ⟨#[]⟩
def mt (z : Int) : ByteArray := markT z.toNat
theorem add_str (W : World) (x y : ByteArray) (h : x.size + y.size ≤ 9223372036854775807) : (Op.stringOp .add x y).run Try.prog W = .ok (.string (x ++ y)) W := by
  have h' : ¬ ((x.size + y.size : Nat) : Int) > IntKind.i64.max := by
    have : IntKind.i64.max = 9223372036854775807 := rfl
    omega
  unfold Op.stringOp
  simp only
  rw [if_neg h']
  rfl
theorem conv1 (w : World) (a : Int) : Sem.run Try.prog (convert 22 9 (.slice (some ⟨w.heap.size, 0, none⟩) 1 1)) (w.alloc (.cells #[.int .u8 a] 5)) = .ok (.string (strOfNums [a])) (w.alloc (.cells #[.int .u8 a] 5)) :=
  run_convert_bytes_arg (P := Try.prog) _ 22 5 Try.underlying22 Try.underlying5 w.heap.size 0 1 1 [a] rfl (fun i hi => by
    obtain rfl : i = 0 := by omega
    simp [go_sem]) 9 Try.underlying9
theorem nums1 (a : Int) : (strOfNums [a]).size = 1 := rfl

set_option maxHeartbeats 1000000 in
theorem markTextN (k : Nat) (w : World) (h1 : 1 ≤ k) (h2 : k ≤ 100000000) :
    Calls Try.prog 90 #[.int .i64 k] w fun e w' => e = .returned (.string (markT k)) ∧ Below w.heap.size w w' := by
  have h1' : ¬ (k : Int) ≤ 0 := by omega
  have B0 : Hid (Below w.heap.size w w) := Below.refl _ _
  go_enter Try.func90, Try.ntmps90
  go_wp2
  go_loopw [0, 3] (fun t o wr => ∃ (f m : Nat) (x : ByteArray), t = .int .i64 m ∧ o = .string x ∧ m ≤ f ∧ f ≤ k ∧ Hid (x.size + f ≤ 100000000) ∧ Hid (digs f m x = digs k k ⟨#[]⟩) ∧ Hid (Below w.heap.size w wr)) (fun t _ _ => (intOf t).toNat)
  case atStart => exact ⟨k, k, ⟨#[]⟩, rfl, rfl, Nat.le_refl _, Nat.le_refl _, (by rw [show (⟨#[]⟩ : ByteArray).size = 0 from rfl]; omega : (⟨#[]⟩ : ByteArray).size + k ≤ 100000000), rfl, B0⟩
  case round =>
    obtain ⟨f, m, x, rfl, rfl, hf, hfk, hx, hd, hB⟩ := hrel
    clear B0
    by_cases h0 : 0 < m
    · have h0' : (0 : Int) < (m : Int) := by omega
      obtain ⟨f', rfl⟩ : ∃ f', f = f' + 1 := ⟨f - 1, by omega⟩
      have HD : Hid (digs f' (m / 10) (strOfNums [(48 : Int) + (m : Int) % 10] ++ x) = digs k k ⟨#[]⟩) := by
        have := hd.out
        rw [digs, if_neg (by omega)] at this
        exact this
      have hc := conv1 wr (48 + (m : Int) % 10)
      have hxs := hx.out
      have ha : ∀ W, (Op.stringOp .add (strOfNums [(48 : Int) + (m : Int) % 10]) x).run Try.prog W = .ok (.string (strOfNums [(48 : Int) + (m : Int) % 10] ++ x)) W := fun W => add_str W _ _ (by rw [nums1]; omega)
      have HX : Hid ((strOfNums [(48 : Int) + (m : Int) % 10] ++ x : ByteArray).size + f' ≤ 100000000) := (by rw [ByteArray.size_append, nums1]; omega : (strOfNums [(48 : Int) + (m : Int) % 10] ++ x : ByteArray).size + f' ≤ 100000000)
      have BB : Hid (Below w.heap.size w (wr.alloc (.cells #[.int .u8 (48 + (m : Int) % 10)] 5))) := hB.out.alloc hB.out.size _
      clear hd hx hxs
      go_wp2
      go_roundw
      case rel => exact ⟨f', m / 10, _, by go_num, rfl, by omega, by omega, HX, HD, BB⟩
      case measure => simp [intOf]; omega
    · have hm0 : m = 0 := by omega
      subst hm0
      have hr := hd.out
      rw [digs_zero] at hr
      have hxs := hx.out
      have ha : ∀ W, (Op.stringOp .add ⟨#[109]⟩ x).run Try.prog W = .ok (.string (⟨#[109]⟩ ++ x)) W := fun W => add_str W _ _ (by have : (⟨#[109]⟩ : ByteArray).size = 1 := rfl; rw [this]; omega)
      have HM : Hid (⟨#[109]⟩ ++ x = markT k) := by show ⟨#[109]⟩ ++ x = markT k; unfold markT; rw [hr]
      clear hr hd hx hxs
      go_wp2
      go_ret
      exact ⟨by rw [← HM.out]; rfl, hB.out⟩
theorem markText (z : Int) (w : World) (h1 : 1 ≤ z) (h2 : z ≤ 100000000) :
    Calls Try.prog 90 #[.int .i64 z] w fun e w' => e = .returned (.string (mt z)) ∧ Below w.heap.size w w' := by
  have := markTextN z.toNat w (by omega) (by omega)
  rwa [Int.toNat_of_nonneg (by omega)] at this
theorem grown_tr {a b c : World} {row : Option Nat} (h : a.grownBy b row) (k : b.grownBy c row) : a.grownBy c row :=
  ⟨k.os.trans h.os, k.tape.trans h.tape, k.output.trans h.output, Nat.le_trans h.size k.size, fun q hq hn => (k.block q (Nat.lt_of_lt_of_le hq h.size) hn).trans (h.block q hq hn)⟩
theorem grown_be {a b : World} {row : Option Nat} (h : Below a.heap.size a b) : a.grownBy b row := ⟨h.os, h.tape, h.output, h.size, fun q hq _ => h.block q hq⟩
theorem over_cell {w v : World} {p : Addr} (h : p.block < w.heap.size) : (over w v).cell? p = w.cell? p := World.cell?_of_block (w := w) (over_block w v p.block h)
end Go.Proofs.Ytcalgmhpagpnnaa
