/- Disks in boxes, as the exact laws hold them. No conditions. -/
import Derived.Test.YtcalgmhpagpnnaaDsk
namespace Go.Proofs.Ytcalgmhpagpnnaa
open Go.RowKit
set_option maxRecDepth 8000

/-- A disk of one's own in a box: its rows lie ahead of the box. -/
structure SA (V : World) (B H : Nat) (v1 v2 v3 : Value) (L1 L2 : List Fl) (L3 : List Dp) : Prop where
  box : Box3 V H v1 v2 v3
  own : Own3 V B v1 v2 v3 L1 L2 L3
  rows : ∀ g, (v1.ownBlock = some g ∨ v2.ownBlock = some g ∨ v3.ownBlock = some g) → B ≤ g ∧ g < H
  le : B ≤ H
theorem SA.new {V : World} {B : Nat} {v1 v2 v3 : Value} {L1 L2 : List Fl} {L3 : List Dp} (h : Own3 V B v1 v2 v3 L1 L2 L3) (hB : B ≤ V.heap.size) : SA (V.alloc (.cells #[v1, v2, v3] 27)) B V.heap.size v1 v2 v3 L1 L2 L3 :=
  ⟨Box3.new V _ _ _ 27, h.kept ((Below.refl _ _).alloc (Nat.le_refl _) _), fun g hg => by
    rcases hg with k | k | k
    · exact World.ownsRow.lt h.live g k
    · exact World.ownsRow.lt h.safe g k
    · exact World.ownsRow.lt h.ops g k, hB⟩
theorem SA.kept {V V' : World} {B H : Nat} {v1 v2 v3 : Value} {L1 L2 : List Fl} {L3 : List Dp} (h : SA V B H v1 v2 v3 L1 L2 L3) (hb : Below V.heap.size V V') : SA V' B H v1 v2 v3 L1 L2 L3 :=
  ⟨h.box.kept hb h.box.2.2, h.own.kept hb, h.rows, h.le⟩
theorem box_keep3 {V V' : World} {R : Nat} {x0 x1 x2 u1 u2 u3 : Value} (h : Box3 V R x0 x1 x2) (k : Keep3 V V' u1 u2 u3) (hR : ∀ g, (u1.ownBlock = some g ∨ u2.ownBlock = some g ∨ u3.ownBlock = some g) → g ≠ R) : Box3 V' R x0 x1 x2 := by
  have hb := k.block R h.2.2 (fun e => hR R (Or.inl e) rfl) (fun e => hR R (Or.inr (Or.inl e)) rfl) (fun e => hR R (Or.inr (Or.inr e)) rfl)
  obtain ⟨⟨h0, h1, h2⟩, hf, hz⟩ := h
  exact ⟨⟨(World.cell?_of_block (w := V) (a := ⟨R, 0, none⟩) hb).trans h0, (World.cell?_of_block (w := V) (a := ⟨R, 1, none⟩) hb).trans h1, (World.cell?_of_block (w := V) (a := ⟨R, 2, none⟩) hb).trans h2⟩, fun o => (World.frozen?_of_block (w := V) (a := ⟨R, o, none⟩) hb).trans (hf o), Nat.lt_of_lt_of_le hz k.size⟩
theorem SA.keep3 {V V' : World} {B H B' H' : Nat} {v1 v2 v3 u1 u2 u3 : Value} {L1 L2 : List Fl} {L3 : List Dp} (h : SA V B H v1 v2 v3 L1 L2 L3) (k : Keep3 V V' u1 u2 u3)
    (hu : ∀ g, (u1.ownBlock = some g ∨ u2.ownBlock = some g ∨ u3.ownBlock = some g) → B' ≤ g ∧ g < H') (hd : H' ≤ B ∨ H < B') : SA V' B H v1 v2 v3 L1 L2 L3 :=
  ⟨box_keep3 h.box k (fun g hg e => by have := hu g hg; have := h.le; omega), h.own.other k (fun g g' hg hg' e => by have := hu g hg; have := h.rows g' hg'; omega), h.rows, h.le⟩
/-- It is marked itself. -/
theorem SA.self {V V' : World} {B H : Nat} {v1 v2 v3 : Value} {L1 L2 M1 M2 : List Fl} {L3 M3 : List Dp} (h : SA V B H v1 v2 v3 L1 L2 L3) (k : Keep3 V V' v1 v2 v3) (o : Own3 V' B v1 v2 v3 M1 M2 M3) : SA V' B H v1 v2 v3 M1 M2 M3 :=
  ⟨box_keep3 h.box k (fun g hg e => by have := h.rows g hg; omega), o, h.rows, h.le⟩
theorem SA.below {V V' : World} {B H : Nat} {v1 v2 v3 : Value} {L1 L2 : List Fl} {L3 : List Dp} (h : SA V B H v1 v2 v3 L1 L2 L3) (k : Keep3 V V' v1 v2 v3) {C : Nat} (hC : C ≤ B) : Below C V V' :=
  k.below (Nat.le_trans hC (Nat.le_trans h.le (Nat.le_of_lt h.box.2.2))) (fun g e => Nat.le_trans hC (h.rows g (Or.inl e)).1) (fun g e => Nat.le_trans hC (h.rows g (Or.inr (Or.inl e))).1) (fun g e => Nat.le_trans hC (h.rows g (Or.inr (Or.inr e))).1)
end Go.Proofs.Ytcalgmhpagpnnaa
