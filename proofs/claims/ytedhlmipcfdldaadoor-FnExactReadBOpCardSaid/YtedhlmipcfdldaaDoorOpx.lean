/- l6Op of the specification. -/
import Derived.Test.YtedhlmipcfdldaaDoorKnd
namespace Go.Proofs.YtedhlmipcfdldaaDoor
open Go.RowKit
set_option maxRecDepth 8000

/-- A block that holds a list of values. -/
def Vals (w : World) (R : Nat) (vs : List Value) : Prop := (∀ j v, vs[j]? = some v → w.cell? ⟨R, j, none⟩ = some v) ∧ (∀ o, w.frozen? ⟨R, o, none⟩ = false) ∧ R < w.heap.size
theorem Vals.kept {n₀ : Nat} {w w' : World} {R : Nat} {vs : List Value} (h : Vals w R vs) (hb : Below n₀ w w') (hR : R < n₀) : Vals w' R vs :=
  ⟨fun j v hj => (hb.cell (p := ⟨R, j, none⟩) hR).trans (h.1 j v hj), fun o => (hb.frozen (p := ⟨R, o, none⟩) hR).trans (h.2.1 o), Nat.lt_of_lt_of_le h.2.2 hb.size⟩
theorem Vals.far {w : World} {R : Nat} {vs : List Value} (h : Vals w R vs) {Q : Nat} (hne : Q ≠ R) (q : Nat) (u : Value) : Vals (w.setCell ⟨Q, q, none⟩ u) R vs :=
  ⟨fun j v hj => (World.cell?_setCell_other _ _ _ _ (by intro e; exact hne (congrArg Addr.block e))).trans (h.1 j v hj), fun o => by rw [World.frozen?_setCell]; exact h.2.1 o, by simpa [World.setCell] using h.2.2⟩
theorem Vals.set {w : World} {R : Nat} {vs : List Value} (h : Vals w R vs) (q : Nat) (u : Value) : Vals (w.setCell ⟨R, q, none⟩ u) R (vs.set q u) := by
  refine ⟨fun j v hj => ?_, fun o => by rw [World.frozen?_setCell]; exact h.2.1 o, by simpa [World.setCell] using h.2.2⟩
  rw [List.getElem?_set] at hj
  by_cases e : q = j
  · subst e
    rw [if_pos rfl] at hj
    split at hj
    · rename_i hl
      have hc := h.1 q _ (List.getElem?_eq_getElem hl)
      obtain rfl : u = v := by simpa using hj
      exact World.cell?_setCell_same _ _ _ (by rw [hc])
    · cases hj
  · rw [if_neg e] at hj
    exact (World.cell?_setCell_other _ _ _ _ (by intro e'; exact e (congrArg Addr.off e'))).trans (h.1 j v hj)
theorem Vals.new (w : World) (vs : List Value) (T : Nat) : Vals (w.alloc (.cells vs.toArray T)) w.heap.size vs :=
  ⟨fun j v hj => by simp [go_sem, hj], fun o => by simp [go_sem], by simp⟩


/-- The fourteen numbers of an op of a bank. -/
abbrev bl (K : Int) (x : OpF) (o : Ord) (n : Int) : List Value := [.int .i64 K, .int .i64 x.k, .int .i64 x.i, .int .i64 x.t, .int .i64 x.m, .int .i64 x.r, .int .i64 o.id, .int .i64 o.src, .int .i64 o.dst, .int .i64 o.amount, .int .i64 o.first, .int .i64 o.every, .int .i64 o.times, .int .i64 n]
abbrev bl0 (K : Int) : List Value := [.int .i64 K, .int .i64 0, .int .i64 0, .int .i64 0, .int .i64 0, .int .i64 0, .int .i64 0, .int .i64 0, .int .i64 0, .int .i64 0, .int .i64 0, .int .i64 0, .int .i64 0, .int .i64 0]
def OpOut (w : World) (K : Int) (x : OpF) (o : Ord) (n : Int) (e : Ending) (w' : World) : Prop := e = .returned (.agg (bl K x o n).toArray) ∧ Below w.heap.size w w'
def Two (w : World) (h : Nat) : Prop := Vals w (h + 1) (bl0 19) ∧ Vals w h (bl0 0)
theorem Two.new (w : World) : Two ((w.alloc (.cells (bl0 0).toArray 27)).alloc (.cells (bl0 19).toArray 27)) w.heap.size := by
  refine ⟨?_, ?_⟩
  · have := Vals.new (w.alloc (.cells (bl0 0).toArray 27)) (bl0 19) 27
    simpa using this
  · exact (Vals.new w (bl0 0) 27).kept ((Below.refl _ _).alloc (Nat.le_refl _) _) (by simp)
theorem Two.kept {w w' : World} {h : Nat} (t : Two w h) (hb : Below w.heap.size w w') : Two w' h := ⟨t.1.kept hb t.1.2.2, t.2.kept hb t.2.2.2⟩
theorem kind_uniq {wd : ByteArray} {k j : Nat} (h : KindIs wd k) (g : KindIs wd j) : k = j := by
  rcases h with ⟨h0, h1, h2⟩ | ⟨rfl, h2⟩ <;> rcases g with ⟨g0, g1, g2⟩ | ⟨rfl, g2⟩
  · have key : ∀ a (ha : a < 11) b (hb : b < 11), wordsL[a]'ha = wordsL[b]'hb → a = b := by decide
    exact key k h0 j g0 (h2.trans g2.symm)
  · exact absurd h2 (g2 k h0 h1)
  · exact absurd g2 (h2 j g0 g1)
  · rfl
/-- What the numbers make of an op of a kind. -/
def opOf (k : Int) : List Int → OpF
  | [a, b, c, d] => ⟨k, a, b, c, d⟩
  | [a, b, c] => ⟨k, a, b, c, 0⟩
  | [a, b] => if k = 9 then ⟨k, a, b, 0, 0⟩ else ⟨k, a, 0, b, 0⟩
  | [a] => ⟨k, a, 0, 0, 0⟩
  | _ => ⟨k, 0, 0, 0, 0⟩
end Go.Proofs.YtedhlmipcfdldaaDoor
