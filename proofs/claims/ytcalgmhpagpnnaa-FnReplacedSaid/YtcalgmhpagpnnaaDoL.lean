/- What Do wants of both sides: the boxes of a disk and an op, and a disk that gets a new list and one op more. No conditions. -/
import Derived.Test.YtcalgmhpagpnnaaCpT
import Derived.Test.YtcalgmhpagpnnaaDmK
namespace Go.Proofs.Ytcalgmhpagpnnaa
open Go.RowKit
set_option maxRecDepth 8000

def Box4 (w : World) (R : Nat) (o : Dp) : Prop :=
  (w.cell? ⟨R, 0, none⟩ = some (.int .i64 o.kind) ∧ w.cell? ⟨R, 1, none⟩ = some (.string o.name) ∧ w.cell? ⟨R, 2, none⟩ = some (.string o.dst) ∧ w.cell? ⟨R, 3, none⟩ = some (.string o.data)) ∧ R < w.heap.size
theorem Box4.new (w : World) (o : Dp) (t : TypeId) : Box4 (w.alloc (.cells #[.int .i64 o.kind, .string o.name, .string o.dst, .string o.data] t)) w.heap.size o :=
  ⟨⟨by simp [go_sem], by simp [go_sem], by simp [go_sem], by simp [go_sem]⟩, by simp⟩
theorem Box4.block {w w' : World} {R : Nat} {o : Dp} (h : Box4 w R o) (e : w'.heap[R]? = w.heap[R]?) (hs : w.heap.size ≤ w'.heap.size) : Box4 w' R o := by
  obtain ⟨⟨h0, h1, h2, h3⟩, hz⟩ := h
  exact ⟨⟨(World.cell?_of_block (w := w) (a := ⟨R, 0, none⟩) e).trans h0, (World.cell?_of_block (w := w) (a := ⟨R, 1, none⟩) e).trans h1, (World.cell?_of_block (w := w) (a := ⟨R, 2, none⟩) e).trans h2, (World.cell?_of_block (w := w) (a := ⟨R, 3, none⟩) e).trans h3⟩, Nat.lt_of_lt_of_le hz hs⟩
theorem Box4.kept {w w' : World} {R B : Nat} {o : Dp} (h : Box4 w R o) (hb : Below B w w') (hR : R < B) : Box4 w' R o := h.block (hb.block R hR) hb.size
theorem Box4.far {w : World} {R : Nat} {o : Dp} (h : Box4 w R o) {Q : Nat} (hne : Q ≠ R) (q : Nat) (u : Value) : Box4 (w.setCell ⟨Q, q, none⟩ u) R o := by
  obtain ⟨⟨h0, h1, h2, h3⟩, hz⟩ := h
  have e : ∀ j, (w.setCell ⟨Q, q, none⟩ u).cell? ⟨R, j, none⟩ = w.cell? ⟨R, j, none⟩ := fun j => World.cell?_setCell_other _ _ _ _ (by intro e; exact hne (congrArg Addr.block e))
  exact ⟨⟨by rw [e]; exact h0, by rw [e]; exact h1, by rw [e]; exact h2, by rw [e]; exact h3⟩, by simpa [World.setCell] using hz⟩
theorem Box4.grown {w w' : World} {R : Nat} {o : Dp} {row : Option Nat} (h : Box4 w R o) (g : w.grownBy w' row) (hne : some R ≠ row) : Box4 w' R o := h.block (g.block R h.2 hne) g.size
theorem Box3.set2 {w : World} {R : Nat} {v0 v1 v2 : Value} (h : Box3 w R v0 v1 v2) (u : Value) : Box3 (w.setCell ⟨R, 2, none⟩ u) R v0 v1 u := by
  obtain ⟨⟨h0, h1, h2⟩, hf, hz⟩ := h
  have o : ∀ j, j ≠ 2 → (w.setCell ⟨R, 2, none⟩ u).cell? ⟨R, j, none⟩ = w.cell? ⟨R, j, none⟩ := fun j hj => World.cell?_setCell_other _ _ _ _ (by intro e; exact hj (congrArg Addr.off e).symm)
  exact ⟨⟨by rw [o 0 (by omega)]; exact h0, by rw [o 1 (by omega)]; exact h1, World.cell?_setCell_same' _ _ _ (by rw [h2]; rfl)⟩, fun o => by rw [World.frozen?_setCell]; exact hf o, by simpa [World.setCell] using hz⟩

/-- The boxes of a function of a disk and an op that answers with a disk. -/
structure DoBx (w V : World) (v0 v1 v2 : Value) (o : Dp) : Prop where
  d : Box3 V w.heap.size v0 v1 v2
  o : Box4 V (w.heap.size + 1) o
  z : Box3 V (w.heap.size + 1 + 1) (.slice none 0 0) (.slice none 0 0) (.slice none 0 0)
  b : Below w.heap.size w V
theorem DoBx.new (w : World) (v0 v1 v2 : Value) (o : Dp) : DoBx w (((w.alloc (.cells #[v0, v1, v2] 27)).alloc (.cells #[.int .i64 o.kind, .string o.name, .string o.dst, .string o.data] 36)).alloc (.cells #[.slice none 0 0, .slice none 0 0, .slice none 0 0] 27)) v0 v1 v2 o := by
  have b1 : Below w.heap.size w (w.alloc (.cells #[v0, v1, v2] 27)) := (Below.refl _ _).alloc (Nat.le_refl _) _
  have s1 : (w.alloc (.cells #[v0, v1, v2] 27)).heap.size = w.heap.size + 1 := World.size_alloc _ _
  have x1 := Box3.new w v0 v1 v2 27
  generalize w.alloc (.cells #[v0, v1, v2] 27) = w1 at *
  have b2 : Below w1.heap.size w1 (w1.alloc (.cells #[.int .i64 o.kind, .string o.name, .string o.dst, .string o.data] 36)) := (Below.refl _ _).alloc (Nat.le_refl _) _
  have s2 : (w1.alloc (.cells #[.int .i64 o.kind, .string o.name, .string o.dst, .string o.data] 36)).heap.size = w1.heap.size + 1 := World.size_alloc _ _
  have x2 := Box4.new w1 o 36
  generalize w1.alloc (.cells #[.int .i64 o.kind, .string o.name, .string o.dst, .string o.data] 36) = w2 at *
  have b3 : Below w2.heap.size w2 (w2.alloc (.cells #[.slice none 0 0, .slice none 0 0, .slice none 0 0] 27)) := (Below.refl _ _).alloc (Nat.le_refl _) _
  have x3 := Box3.new w2 (.slice none 0 0) (.slice none 0 0) (.slice none 0 0) 27
  rw [s2, s1] at x3
  rw [s1] at x2
  exact ⟨(x1.kept b2 x1.2.2).kept b3 (by omega), x2.kept b3 (by omega), x3, (b1.trans (b2.mono (by omega))).trans (b3.mono (by omega))⟩
theorem DoBx.kept {w V V' : World} {v0 v1 v2 : Value} {o : Dp} (h : DoBx w V v0 v1 v2 o) (hb : Below V.heap.size V V') : DoBx w V' v0 v1 v2 o :=
  ⟨h.d.kept hb h.d.2.2, h.o.kept hb h.o.2, h.z.kept hb h.z.2.2, h.b.trans (hb.mono h.b.size)⟩
theorem DoBx.keptB {w V V' : World} {v0 v1 v2 : Value} {o : Dp} {B : Nat} (h : DoBx w V v0 v1 v2 o) (hb : Below B V V') (hB : w.heap.size + 1 + 1 < B) : DoBx w V' v0 v1 v2 o :=
  ⟨h.d.kept hb (by omega), h.o.kept hb (by omega), h.z.kept hb hB, h.b.trans (hb.mono (by omega))⟩
theorem DoBx.far {w V : World} {v0 v1 v2 : Value} {o : Dp} (h : DoBx w V v0 v1 v2 o) {Q : Nat} (hQ : w.heap.size + 1 + 1 < Q) (q : Nat) (u : Value) : DoBx w (V.setCell ⟨Q, q, none⟩ u) v0 v1 v2 o :=
  ⟨h.d.far (by omega) _ _, h.o.far (by omega) _ _, h.z.far (by omega) _ _, below_far h.b (by omega) _ _⟩
theorem DoBx.grown {w V V' : World} {v0 v1 v2 : Value} {o : Dp} {row : Option Nat} (h : DoBx w V v0 v1 v2 o) (g : V.grownBy V' row) (hr : ∀ k, row = some k → w.heap.size + 1 + 1 < k) : DoBx w V' v0 v1 v2 o :=
  ⟨h.d.grown g (fun e => by have := hr _ e.symm; omega), h.o.grown g (fun e => by have := hr _ e.symm; omega), h.z.grown g (fun e => by have := hr _ e.symm; omega), h.b.grown g h.b.size (fun k hk => by have := hr k hk; omega)⟩

theorem ansAt {w u : World} {B R : Nat} {v1 v2 v3 : Value} {L1 L2 : List Fl} {L3 : List Dp} (h : Own3 u B v1 v2 v3 L1 L2 L3) (hR : R < B) (hw : w.heap.size ≤ R) (hb : Below w.heap.size w u) :
    DkAns w L1 L2 L3 (.agg #[v1, v2, v3]) (((u.setCell ⟨R, 0, none⟩ v1).setCell ⟨R, 1, none⟩ v2).setCell ⟨R, 2, none⟩ v3) := by
  have k1 : v1.ownBlock ≠ some R := fun e => by have := h.live.lt _ e; omega
  have k2 : v2.ownBlock ≠ some R := fun e => by have := h.safe.lt _ e; omega
  have k3 : v3.ownBlock ≠ some R := fun e => by have := h.ops.lt _ e; omega
  obtain ⟨a1, c1, a2, c2, a3, c3, rfl, rfl, rfl⟩ := h.shape
  refine ⟨a1, c1, a2, c2, a3, c3, rfl, ⟨?_, ?_, ?_, h.ne⟩, ?_⟩
  · exact ((((h.live.mono (by omega)).far k1 _ _).far k1 _ _).far k1 _ _)
  · exact ((((h.safe.mono (by omega)).far k2 _ _).far k2 _ _).far k2 _ _)
  · exact ((((h.ops.mono (by omega)).far k3 _ _).far k3 _ _).far k3 _ _)
  · exact below_far (below_far (below_far hb (by omega) _ _) (by omega) _ _) (by omega) _ _

/-- A disk in a box, on the way. -/
structure DoSt (U : World) (P B : Nat) (v1 v2 v3 : Value) (M Ls : List Fl) (Lo : List Dp) : Prop where
  own : Own3 U B v1 v2 v3 M Ls Lo
  box : Box3 U P v1 v2 v3
  n1 : v1.ownBlock ≠ some P
  n2 : v2.ownBlock ≠ some P
  n3 : v3.ownBlock ≠ some P
theorem DoSt.set0 {U : World} {P B : Nat} {x1 v1 v2 v3 : Value} {Lf M Ls : List Fl} {Lo : List Dp} (O : Own3 U B x1 v2 v3 Lf Ls Lo) (X : Box3 U P x1 v2 v3) (A : FlL U B v1 M) (n1 : v1.ownBlock ≠ some P) (n2 : v2.ownBlock ≠ some P) (n3 : v3.ownBlock ≠ some P)
    (ne : ∀ g, v1.ownBlock = some g → v2.ownBlock ≠ some g) : DoSt (U.setCell ⟨P, 0, none⟩ v1) P B v1 v2 v3 M Ls Lo :=
  ⟨⟨A.far n1 _ _, O.safe.far n2 _ _, O.ops.far n3 _ _, ne⟩, X.set0 v1, n1, n2, n3⟩
theorem DpL.snoc {w2 : World} {B : Nat} {v : Value} {M : List Dp} {f : Dp} (h : w2.ownsRow B 36 4 v (M.length + 1) (M.flatMap DpC ++ DpC f)) : DpL w2 B v (M ++ [f]) := by
  unfold DpL
  rw [List.flatMap_append, List.length_append]
  simpa using h
theorem ne_row' {v u : Value} (h : ∀ q, v.ownBlock = some q → u.ownBlock ≠ some q) : v.ownBlock = none ∨ v.ownBlock ≠ u.ownBlock := by
  cases hv : v.ownBlock with
  | none => exact Or.inl rfl
  | some q => exact Or.inr fun e => h q hv e.symm
theorem DoSt.add {U w7 : World} {P B : Nat} {v1 v2 v3 v7 : Value} {M Ls : List Fl} {Lo Lo' : List Dp} {obj : Obj} (h : DoSt U P B v1 v2 v3 M Ls Lo) (own : DpL w7 B v7 Lo') (g : (U.alloc obj).grownBy w7 v3.ownBlock)
    (k : v7.ownBlock = v3.ownBlock ∨ v7.ownBlock = some (U.alloc obj).heap.size) : DoSt (w7.setCell ⟨P, 2, none⟩ v7) P B v1 v2 v7 M Ls Lo' := by
  have ha : Below U.heap.size U (U.alloc obj) := (Below.refl _ _).alloc (Nat.le_refl _) _
  have o := h.own.kept ha
  have l : FlL w7 B v1 M := o.live.grown g (ne_row' (fl_dp o.live o.ops))
  have s : FlL w7 B v2 Ls := o.safe.grown g (ne_row' (fl_dp o.safe o.ops))
  have b := (h.box.kept ha h.box.2.2).grown g (fun e => h.n3 e.symm)
  have n7 : v7.ownBlock ≠ some P := by
    rcases k with k | k
    · rw [k]; exact h.n3
    · rw [k]
      have := h.box.2.2
      intro e
      have e := Option.some.inj e
      rw [World.size_alloc] at e
      omega
  exact ⟨⟨l.far h.n1 _ _, s.far h.n2 _ _, own.far n7 _ _, h.own.ne⟩, b.set2 v7, h.n1, h.n2, n7⟩
theorem dpNews (w : World) (f : Dp) : ∀ j u, (DpC f)[j]? = some u → (w.alloc (.cells #[.int .i64 f.kind, .string f.name, .string f.dst, .string f.data] 36)).cell? (Addr.add ⟨w.heap.size, 0, none⟩ j) = some u := by
  intro j u h
  have hj : j < 4 := (List.getElem?_eq_some_iff.1 h).1
  have e : (w.alloc (.cells #[.int .i64 f.kind, .string f.name, .string f.dst, .string f.data] 36)).heap[w.heap.size]? = some (.cells #[.int .i64 f.kind, .string f.name, .string f.dst, .string f.data] 36) := (MapKept.heap_alloc w _).1
  have ea : Addr.add ⟨w.heap.size, 0, none⟩ j = ⟨w.heap.size, j, none⟩ := by
    unfold Addr.add
    by_cases h0 : j = 0 <;> simp [h0]
  rw [ea, ← h]
  unfold World.cell?
  simp only [e]
  simp [DpC]
theorem dpNewsAt {w : World} {b : Nat} (hb : b = w.heap.size) (f : Dp) : ∀ j u, (DpC f)[j]? = some u → (w.alloc (.cells #[.int .i64 f.kind, .string f.name, .string f.dst, .string f.data] 36)).cell? (Addr.add ⟨b, 0, none⟩ j) = some u := by
  subst hb
  exact dpNews w f
theorem dpOne (f : Dp) : ∀ u ∈ DpC f, u.oneCell' = true := by
  intro u hu
  simp [DpC] at hu
  rcases hu with rfl | rfl | rfl | rfl <;> rfl

/-- The answer of Do. -/
def doC (Lv Sf : List Fl) (Os : List Dp) (o : Dp) : Int :=
  if diskB Lv Sf Os = false then 1 else if formB o = false then 2 else match doF Lv o with | none => 3 | some M => if Os.length = 200 ∨ filesB M = false then 4 else 0
def doLv (Lv Sf : List Fl) (Os : List Dp) (o : Dp) : List Fl := if doC Lv Sf Os o = 1 then [] else if doC Lv Sf Os o = 0 then (doF Lv o).getD [] else Lv
def doSf (Lv Sf : List Fl) (Os : List Dp) (o : Dp) : List Fl := if doC Lv Sf Os o = 1 then [] else Sf
def doOs (Lv Sf : List Fl) (Os : List Dp) (o : Dp) : List Dp := if doC Lv Sf Os o = 1 then [] else if doC Lv Sf Os o = 0 then Os ++ [o] else Os
end Go.Proofs.Ytcalgmhpagpnnaa
