/- The memory of the reader of a bank: its box, its accounts, its orders, and the answer's box. No conditions. -/
import Derived.Test.YtedhlmipcfdldaaGreatDoorRac
namespace Go.Proofs.YtedhlmipcfdldaaGreatDoor
open Go.RowKit Go.Shelf
set_option maxRecDepth 8000

def zBk : List Value := [.int .i64 0, .slice none 0 0, .slice none 0 0, .int .i64 0, .int .i64 0, .int .i64 0, .int .i64 0]
/-- The answer's box in block H, the bank's in block H + 1, its rows behind them. -/
def BkS (H : Nat) (v u : Value) (k : Bk) (L : List Acc) (O : List Ord) (w : World) : Prop := Vals w H zBk ∧ Box7 w (H + 1) (.int .i64 k.day) v u (.int .i64 k.inn) (.int .i64 k.out) (.int .i64 k.posted) (.int .i64 k.missed) ∧ AL w (H + 1 + 1) v L ∧ OrdL w (H + 1 + 1) u O
theorem grown_stp {p : Nat} {w w' : World} (h : Stp p w w') : w.grownBy w' (some p) := ⟨h.os, h.tape, h.output, h.size, fun i hi hn => h.block i hi (fun e => hn (by rw [e]))⟩
theorem BkS.grown {H q : Nat} {v u : Value} {k : Bk} {L : List Acc} {O : List Ord} {w w' : World} (h : BkS H v u k L O w) (hg : w.grownBy w' (some q)) (hq : q ≠ H ∧ q ≠ H + 1) (h1 : v.ownBlock ≠ some q) (h2 : u.ownBlock ≠ some q) : BkS H v u k L O w' := by
  have e0 : w'.heap[H]? = w.heap[H]? := hg.block H h.1.2.2 (by simp; omega)
  have e1 : w'.heap[H + 1]? = w.heap[H + 1]? := hg.block (H + 1) h.2.1.2.2 (by simp; omega)
  refine ⟨⟨fun j x hj => (World.cell?_of_block (w := w) e0).trans (h.1.1 j x hj), fun o => (World.frozen?_of_block (w := w) e0).trans (h.1.2.1 o), Nat.lt_of_lt_of_le h.1.2.2 hg.size⟩, h.2.1.same e1, World.ownsRow.kept h.2.2.1 hg (Or.inr h1), World.ownsRow.kept h.2.2.2 hg (Or.inr h2)⟩
theorem BkS.blk {H : Nat} {v u : Value} {k : Bk} {L : List Acc} {O : List Ord} {w : World} (h : BkS H v u k L O w) : (∀ q, v.ownBlock = some q → H + 1 + 1 ≤ q ∧ q < w.heap.size) ∧ (∀ q, u.ownBlock = some q → H + 1 + 1 ≤ q ∧ q < w.heap.size) := ⟨fun q hq => World.ownsRow.lt h.2.2.1 q hq, fun q hq => World.ownsRow.lt h.2.2.2 q hq⟩
theorem BkS.stp {H p : Nat} {v u : Value} {k : Bk} {L : List Acc} {O : List Ord} {w w' : World} (h : BkS H v u k L O w) (hs : Stp p w w') (hp : p < H) : BkS H v u k L O w' :=
  h.grown (grown_stp hs) ⟨by omega, by omega⟩ (fun e => by have := (h.blk.1 p e).1; omega) (fun e => by have := (h.blk.2 p e).1; omega)
theorem BkS.alloc {H : Nat} {v u : Value} {k : Bk} {L : List Acc} {O : List Ord} {w : World} (h : BkS H v u k L O w) (o : Obj) : BkS H v u k L O (w.alloc o) := by
  have hb : Below w.heap.size w (w.alloc o) := (Below.refl _ _).alloc (Nat.le_refl _) _
  exact ⟨h.1.kept hb h.1.2.2, h.2.1.kept hb h.2.1.2.2, AL.kept h.2.2.1 hb, OrdL.kept h.2.2.2 hb⟩
theorem BkS.addA {H : Nat} {v u v' : Value} {k : Bk} {L : List Acc} {O : List Ord} {w w' : World} {a : Acc} (h : BkS H v u k L O w) (hown : w'.ownsRow (H + 1 + 1) 37 8 v' (L.length + 1) (L.flatMap accCells ++ accCells a)) (hg : w.grownBy w' v.ownBlock) : BkS H v' u k (L ++ [a]) O (w'.setCell ⟨H + 1, 1, none⟩ v') := by
  have hne : ∀ q, v.ownBlock = some q → q ≠ H ∧ q ≠ H + 1 := fun q hq => ⟨by have := (h.blk.1 q hq).1; omega, by have := (h.blk.1 q hq).1; omega⟩
  have e0 : w'.heap[H]? = w.heap[H]? := hg.block H h.1.2.2 (fun e => (hne H e.symm).1 rfl)
  have e1 : w'.heap[H + 1]? = w.heap[H + 1]? := hg.block (H + 1) h.2.1.2.2 (fun e => (hne (H + 1) e.symm).2 rfl)
  have hal : AL w' (H + 1 + 1) v' (L ++ [a]) := by unfold AL; simpa using hown
  have hor : OrdL w' (H + 1 + 1) u O := World.ownsRow.kept h.2.2.2 hg (by
    cases hb : u.ownBlock with
    | none => exact Or.inl rfl
    | some q => right; intro e; exact blocks_apart h.2.2.1 h.2.2.2 q e.symm hb)
  have gs : w'.grownBy (w'.setCell ⟨H + 1, 1, none⟩ v') (some (H + 1)) := grown_set1Acc w' (H + 1) 1 v'
  refine ⟨?_, (h.2.1.same e1).set1 v', World.ownsRow.kept hal gs (Or.inr (fun e => by have := (World.ownsRow.lt hal _ e).1; omega)), World.ownsRow.kept hor gs (Or.inr (fun e => by have := (World.ownsRow.lt hor _ e).1; omega))⟩
  exact Vals.far ⟨fun j x hj => (World.cell?_of_block (w := w) e0).trans (h.1.1 j x hj), fun o => (World.frozen?_of_block (w := w) e0).trans (h.1.2.1 o), Nat.lt_of_lt_of_le h.1.2.2 hg.size⟩ (by omega) _ _
theorem BkS.addO {H : Nat} {v u u' : Value} {k : Bk} {L : List Acc} {O : List Ord} {w w' : World} {a : Ord} (h : BkS H v u k L O w) (hown : w'.ownsRow (H + 1 + 1) 39 7 u' (O.length + 1) (O.flatMap OrdC ++ OrdC a)) (hg : w.grownBy w' u.ownBlock) : BkS H v u' k L (O ++ [a]) (w'.setCell ⟨H + 1, 2, none⟩ u') := by
  have hne : ∀ q, u.ownBlock = some q → q ≠ H ∧ q ≠ H + 1 := fun q hq => ⟨by have := (h.blk.2 q hq).1; omega, by have := (h.blk.2 q hq).1; omega⟩
  have e0 : w'.heap[H]? = w.heap[H]? := hg.block H h.1.2.2 (fun e => (hne H e.symm).1 rfl)
  have e1 : w'.heap[H + 1]? = w.heap[H + 1]? := hg.block (H + 1) h.2.1.2.2 (fun e => (hne (H + 1) e.symm).2 rfl)
  have hor : OrdL w' (H + 1 + 1) u' (O ++ [a]) := by unfold OrdL; simpa using hown
  have hal : AL w' (H + 1 + 1) v L := World.ownsRow.kept h.2.2.1 hg (by
    cases hb : v.ownBlock with
    | none => exact Or.inl rfl
    | some q => right; intro e; exact blocks_apart h.2.2.1 h.2.2.2 q hb e.symm)
  have gs : w'.grownBy (w'.setCell ⟨H + 1, 2, none⟩ u') (some (H + 1)) := grown_set1Acc w' (H + 1) 2 u'
  refine ⟨?_, (h.2.1.same e1).set2 u', World.ownsRow.kept hal gs (Or.inr (fun e => by have := (World.ownsRow.lt hal _ e).1; omega)), World.ownsRow.kept hor gs (Or.inr (fun e => by have := (World.ownsRow.lt hor _ e).1; omega))⟩
  exact Vals.far ⟨fun j x hj => (World.cell?_of_block (w := w) e0).trans (h.1.1 j x hj), fun o => (World.frozen?_of_block (w := w) e0).trans (h.1.2.1 o), Nat.lt_of_lt_of_le h.1.2.2 hg.size⟩ (by omega) _ _
/-- How far lines are read. -/
def LTo (S : List UInt8) (n f : Nat) (s : List UInt8) (ls : List (List Int)) (t : List UInt8) : Prop := ls.length < f ∧ ls.length + t.length ≤ s.length ∧ readLines S n f s = (readLines S n (f - ls.length) t).map (fun x => (ls ++ x.1, x.2))
theorem LTo.start (S : List UInt8) (n f : Nat) (s : List UInt8) (h : 0 < f) : LTo S n f s [] s := ⟨h, by simp, by simp⟩
theorem LTo.over {S : List UInt8} {n f : Nat} {s t : List UInt8} {ls : List (List Int)} (h : LTo S n f s ls t) (hp : Lib.hasPrefix t S = false) : readLines S n f s = some (ls, t) := by
  rw [h.2.2, show f - ls.length = (f - ls.length - 1) + 1 by have := h.1; omega]
  unfold readLines
  rw [if_neg (fun e => by rw [(pre_iff t S).2 e] at hp; cases hp)]
  simp
theorem LTo.step {S : List UInt8} {n f : Nat} {s t u : List UInt8} {ls : List (List Int)} {ns : List Int} (h : LTo S n f s ls t) (hf : s.length < f) (hp : Lib.hasPrefix t S = true) (hr : readLine S n t = some (ns, u)) : LTo S n f s (ls ++ [ns]) u := by
  have hlt : u.length < t.length := by
    have := (readLine_is hr).1
    rw [this]
    simp [lineL]
    omega
  refine ⟨by simp; have := h.2.1; omega, by simp; have := h.2.1; omega, ?_⟩
  rw [h.2.2, show f - ls.length = (f - (ls ++ [ns]).length) + 1 by simp; have := h.2.1; omega]
  conv => lhs; unfold readLines
  rw [if_pos ((pre_iff t S).1 hp), hr]
  cases h3 : readLines S n (f - (ls ++ [ns]).length) u with
  | none => simp only [h3]; rfl
  | some x => simp only [h3]; simp
/-- Where a line is none of the things that are wanted, all is none. -/
theorem LTo.bad {α : Type} {N : α → List Int} {S : List UInt8} {n f : Nat} {s t : List UInt8} {L : List α} (h : LTo S n f s (L.map N) t) (hp : Lib.hasPrefix t S = true) (hr : ∀ a u, readLine S n t ≠ some (N a, u)) : ∀ (L' : List α) (u : List UInt8), readLines S n f s ≠ some (L'.map N, u) := by
  intro L' u e
  have h1 := h.1
  rw [h.2.2, show f - (L.map N).length = (f - (L.map N).length - 1) + 1 by omega] at e
  unfold readLines at e
  rw [if_pos ((pre_iff t S).1 hp)] at e
  cases hh : readLine S n t with
  | none => rw [hh] at e; simp at e
  | some x =>
    rw [hh] at e
    simp only at e
    cases h3 : readLines S n (f - (L.map N).length - 1) x.2 with
    | none => rw [h3] at e; simp at e
    | some y =>
      rw [h3] at e
      simp only [Option.map_some, Option.some.injEq, Prod.mk.injEq] at e
      have e1 := congrArg (fun l => l[(L.map N).length]?) e.1
      simp only [List.getElem?_append_right (Nat.le_refl _), Nat.sub_self] at e1
      simp at e1
      obtain ⟨a, ha, hb⟩ : ∃ a, L'[L.length]? = some a ∧ N a = x.1 := by
        cases hq : L'[L.length]? with
        | none => rw [hq] at e1; simp at e1
        | some a => exact ⟨a, rfl, by rw [hq] at e1; simpa using e1.symm⟩
      exact hr a x.2 (by rw [hh, hb])
end Go.Proofs.YtedhlmipcfdldaaGreatDoor
