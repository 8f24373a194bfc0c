/- Disks in boxes that lie anywhere among their rows. No conditions. -/
import Derived.Test.YtcalgmhpagpnnaaDoI
import Derived.Test.YtcalgmhpagpnnaaSa
namespace Go.Proofs.Ytcalgmhpagpnnaa
open Go.RowKit
set_option maxRecDepth 8000

/-- A disk of one's own in a box: box and rows lie between two marks. -/
structure SG (V : World) (lo hi P : Nat) (v1 v2 v3 : Value) (L1 L2 : List Fl) (L3 : List Dp) : Prop where
  box : Box3 V P v1 v2 v3
  own : Own3 V lo v1 v2 v3 L1 L2 L3
  rows : ∀ g, (v1.ownBlock = some g ∨ v2.ownBlock = some g ∨ v3.ownBlock = some g) → lo ≤ g ∧ g < hi ∧ g ≠ P
  p1 : lo ≤ P
  p2 : P < hi
theorem SG.low {V V' : World} {lo hi P C : Nat} {v1 v2 v3 : Value} {L1 L2 : List Fl} {L3 : List Dp} (h : SG V lo hi P v1 v2 v3 L1 L2 L3) (hb : Below C V V') (hC : hi ≤ C) : SG V' lo hi P v1 v2 v3 L1 L2 L3 :=
  ⟨h.box.kept hb (by have := h.p2; omega), ⟨h.own.live.same fun g hg => hb.block g (by have := h.rows g (Or.inl hg); omega), h.own.safe.same fun g hg => hb.block g (by have := h.rows g (Or.inr (Or.inl hg)); omega), h.own.ops.same fun g hg => hb.block g (by have := h.rows g (Or.inr (Or.inr hg)); omega), h.own.ne⟩, h.rows, h.p1, h.p2⟩
theorem SG.keep3 {V V' : World} {lo hi P lo' hi' P' : Nat} {v1 v2 v3 u1 u2 u3 : Value} {L1 L2 M1 M2 : List Fl} {L3 M3 : List Dp} (h : SG V lo hi P v1 v2 v3 L1 L2 L3) (k : Keep3 V V' u1 u2 u3)
    (x : SG V lo' hi' P' u1 u2 u3 M1 M2 M3) (hd : hi' ≤ lo ∨ hi ≤ lo') : SG V' lo hi P v1 v2 v3 L1 L2 L3 :=
  ⟨box_keep3 h.box k (fun g hg e => by have := x.rows g hg; have := h.p1; have := h.p2; omega), h.own.other k (fun g g' hg hg' e => by have := x.rows g hg; have := h.rows g' hg'; omega), h.rows, h.p1, h.p2⟩
theorem SG.self {V V' : World} {lo hi P : Nat} {v1 v2 v3 : Value} {L1 L2 M1 M2 : List Fl} {L3 M3 : List Dp} (h : SG V lo hi P v1 v2 v3 L1 L2 L3) (k : Keep3 V V' v1 v2 v3) (o : Own3 V' lo v1 v2 v3 M1 M2 M3) : SG V' lo hi P v1 v2 v3 M1 M2 M3 :=
  ⟨box_keep3 h.box k (fun g hg e => by have := h.rows g hg; omega), o, h.rows, h.p1, h.p2⟩
theorem SG.below {V V' : World} {lo hi P : Nat} {v1 v2 v3 : Value} {L1 L2 : List Fl} {L3 : List Dp} (h : SG V lo hi P v1 v2 v3 L1 L2 L3) (k : Keep3 V V' v1 v2 v3) : Below lo V V' :=
  k.below (Nat.le_trans h.p1 (Nat.le_of_lt h.box.2.2)) (fun g e => (h.rows g (Or.inl e)).1) (fun g e => (h.rows g (Or.inr (Or.inl e))).1) (fun g e => (h.rows g (Or.inr (Or.inr e))).1)

/-- The boxes of a law of a disk and an op. -/
structure BxO (w V : World) (v0 v1 v2 : Value) (o : Dp) : Prop where
  d : Box3 V w.heap.size v0 v1 v2
  o : Box4 V (w.heap.size + 1) o
  b : Below w.heap.size w V
theorem BxO.new (w : World) (v0 v1 v2 : Value) (o : Dp) (s t : TypeId) : BxO w ((w.alloc (.cells #[v0, v1, v2] s)).alloc (.cells #[.int .i64 o.kind, .string o.name, .string o.dst, .string o.data] t)) v0 v1 v2 o := by
  have b1 : Below w.heap.size w (w.alloc (.cells #[v0, v1, v2] s)) := (Below.refl _ _).alloc (Nat.le_refl _) _
  have s1 : (w.alloc (.cells #[v0, v1, v2] s)).heap.size = w.heap.size + 1 := World.size_alloc _ _
  have x1 := Box3.new w v0 v1 v2 s
  generalize w.alloc (.cells #[v0, v1, v2] s) = w1 at *
  have b2 : Below w1.heap.size w1 (w1.alloc (.cells #[.int .i64 o.kind, .string o.name, .string o.dst, .string o.data] t)) := (Below.refl _ _).alloc (Nat.le_refl _) _
  have x2 := Box4.new w1 o t
  rw [s1] at x2
  exact ⟨x1.kept b2 x1.2.2, x2, b1.trans (b2.mono (by omega))⟩
theorem BxO.low {w V V' : World} {v0 v1 v2 : Value} {o : Dp} {C : Nat} (h : BxO w V v0 v1 v2 o) (hb : Below C V V') (hC : w.heap.size + 1 < C) : BxO w V' v0 v1 v2 o :=
  ⟨h.d.kept hb (by omega), h.o.kept hb hC, h.b.trans (hb.mono (by omega))⟩
theorem BxO.kept {w V V' : World} {v0 v1 v2 : Value} {o : Dp} (h : BxO w V v0 v1 v2 o) (hb : Below V.heap.size V V') : BxO w V' v0 v1 v2 o := h.low hb h.o.2

/-- What is laid behind the mark leaves alone what lies ahead of it. -/
def Low (lo : Nat) (Y : World → Prop) : Prop := ∀ V V', Y V → Below lo V V' → Y V'
theorem doneSet {Y : World → Prop} {u : World} {P B lo : Nat} {x0 x1 x2 v1 v2 v3 : Value} {L1 L2 : List Fl} {L3 : List Dp} (y : Y u) (hY : Low lo Y) (O : Own3 u B v1 v2 v3 L1 L2 L3) (X : Box3 u P x0 x1 x2) (hlo : lo ≤ P) (hP : P < B) :
    Y (((u.setCell ⟨P, 0, none⟩ v1).setCell ⟨P, 1, none⟩ v2).setCell ⟨P, 2, none⟩ v3) ∧ SG (((u.setCell ⟨P, 0, none⟩ v1).setCell ⟨P, 1, none⟩ v2).setCell ⟨P, 2, none⟩ v3) lo (((u.setCell ⟨P, 0, none⟩ v1).setCell ⟨P, 1, none⟩ v2).setCell ⟨P, 2, none⟩ v3).heap.size P v1 v2 v3 L1 L2 L3 := by
  have k1 : v1.ownBlock ≠ some P := fun e => by have := O.live.lt _ e; omega
  have k2 : v2.ownBlock ≠ some P := fun e => by have := O.safe.lt _ e; omega
  have k3 : v3.ownBlock ≠ some P := fun e => by have := O.ops.lt _ e; omega
  have hs : (((u.setCell ⟨P, 0, none⟩ v1).setCell ⟨P, 1, none⟩ v2).setCell ⟨P, 2, none⟩ v3).heap.size = u.heap.size := by simp [World.setCell]
  have hz := X.2.2
  refine ⟨hY _ _ y (below_far (below_far (below_far (Below.refl _ _) hlo _ _) hlo _ _) hlo _ _), ((X.set0 v1).set1 v2).set2 v3, ⟨((((O.live.mono (by omega)).far k1 _ _).far k1 _ _).far k1 _ _), ((((O.safe.mono (by omega)).far k2 _ _).far k2 _ _).far k2 _ _), ((((O.ops.mono (by omega)).far k3 _ _).far k3 _ _).far k3 _ _), O.ne⟩, ?_, hlo, by omega⟩
  rw [hs]
  intro g hg
  rcases hg with k | k | k
  · have := World.ownsRow.lt O.live g k; omega
  · have := World.ownsRow.lt O.safe g k; omega
  · have := World.ownsRow.lt O.ops g k; omega
theorem doneNew {Y : World → Prop} {u : World} {B lo : Nat} {v1 v2 v3 : Value} {L1 L2 : List Fl} {L3 : List Dp} (y : Y u) (hY : Low lo Y) (O : Own3 u B v1 v2 v3 L1 L2 L3) (hlo : lo ≤ B) (hu : lo ≤ u.heap.size) :
    Y (u.alloc (.cells #[v1, v2, v3] 27)) ∧ SG (u.alloc (.cells #[v1, v2, v3] 27)) lo (u.alloc (.cells #[v1, v2, v3] 27)).heap.size u.heap.size v1 v2 v3 L1 L2 L3 := by
  have ba : Below u.heap.size u (u.alloc (.cells #[v1, v2, v3] 27)) := (Below.refl _ _).alloc (Nat.le_refl _) _
  have hs : (u.alloc (.cells #[v1, v2, v3] 27)).heap.size = u.heap.size + 1 := World.size_alloc _ _
  refine ⟨hY _ _ y (ba.mono hu), Box3.new u _ _ _ 27, (O.mono hlo).kept ba, ?_, hu, by omega⟩
  rw [hs]
  intro g hg
  rcases hg with k | k | k
  · have := World.ownsRow.lt O.live g k; omega
  · have := World.ownsRow.lt O.safe g k; omega
  · have := World.ownsRow.lt O.ops g k; omega
theorem Low.alloc {lo : Nat} {Y : World → Prop} (h : Low lo Y) {V : World} (y : Y V) (hV : lo ≤ V.heap.size) (o : Obj) : Y (V.alloc o) := h _ _ y ((Below.refl _ _).alloc hV o)
theorem Low.kept {lo : Nat} {Y : World → Prop} (h : Low lo Y) {V V' : World} (y : Y V) (hV : lo ≤ V.heap.size) (hb : Below V.heap.size V V') : Y V' := h _ _ y (hb.mono hV)
theorem Low.drew {lo : Nat} {Y : World → Prop} (h : Low lo Y) {V : World} (y : Y V) : Y V.drew := h _ _ y ⟨rfl, rfl, rfl, Nat.le_refl _, fun _ _ => rfl⟩
theorem Low.sets {lo : Nat} {Y : World → Prop} (h : Low lo Y) {V : World} (y : Y V) {P : Nat} (hP : lo ≤ P) (a b c : Value) : Y (((V.setCell ⟨P, 0, none⟩ a).setCell ⟨P, 1, none⟩ b).setCell ⟨P, 2, none⟩ c) := h _ _ y (below_far (below_far (below_far (Below.refl _ _) hP _ _) hP _ _) hP _ _)
theorem Box3.keptS {V V' : World} {P : Nat} {v0 v1 v2 : Value} (h : Box3 V P v0 v1 v2) (hb : Below V.heap.size V V') : Box3 V' P v0 v1 v2 := h.kept hb h.2.2
theorem newDrew (w : World) : Box3 (w.alloc (.cells #[.slice none 0 0, .slice none 0 0, .slice none 0 0] 27)).drew w.heap.size (.slice none 0 0) (.slice none 0 0) (.slice none 0 0) := Box3.new w _ _ _ 27
end Go.Proofs.Ytcalgmhpagpnnaa
