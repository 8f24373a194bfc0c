/- l6Nums of the specification: the numbers of a row. Conditions: texts of at most 1048576 bytes. -/
import Derived.Test.YtedhlmipcfdldaaGreatDoorInw
import Derived.Test.YtedhlmipcfdldaaGreatDoorFPathS
import Derived.Lib.Strings
import Derived.OwnWalk
namespace Go.Proofs.YtedhlmipcfdldaaGreatDoor
open Go.RowKit

theorem numsF_fuel : ∀ (k : Nat) (s : List UInt8), s.length < k → numsF k s = numsF (s.length + 1) s
  | 0, s, h => by omega
  | k + 1, s, h => by
    unfold numsF
    have hl := cutL_len 32 s
    cases hi : intL (cutL 32 s).1 with
    | none => rfl
    | some n =>
      by_cases hb : (cutL 32 s).2.2 = true
      · simp only [hb, if_true]
        have := hl hb
        rw [numsF_fuel k _ (by omega), numsF_fuel s.length _ (by omega)]
      · simp only [hb]; simp
/-- The numbers of a row. -/
noncomputable def numsOf (s : List UInt8) : Option (List Int) := if s = [] then some [] else numsF (s.length + 1) s
/-- What is read, and what is left. -/
def NumsTo (S : ByteArray) (t : ByteArray) (pre : List Int) (more : Bool) : Prop := numsOf S.data.toList = if more then (numsF (t.data.toList.length + 1) t.data.toList).map (pre ++ ·) else some pre
theorem NumsTo.start {S : ByteArray} (h : S.data.toList ≠ []) : NumsTo S S [] true := by
  unfold NumsTo numsOf
  rw [if_neg h]
  simp
theorem NumsTo.none0 {S : ByteArray} (h : S.data.toList = []) : NumsTo S S [] false := by
  unfold NumsTo numsOf
  rw [if_pos h]
  simp
theorem NumsTo.bad {S t x y : ByteArray} {pre : List Int} {b : Bool} (h : NumsTo S t pre true) (hc : cutL 32 t.data.toList = (x.data.toList, y.data.toList, b)) (hi : intL x.data.toList = none) : numsOf S.data.toList = none := by
  unfold NumsTo at h
  rw [h, if_pos rfl]
  unfold numsF
  rw [hc]
  simp [hi]
theorem NumsTo.step {S t x y : ByteArray} {pre : List Int} {b : Bool} {n : Int} (h : NumsTo S t pre true) (hc : cutL 32 t.data.toList = (x.data.toList, y.data.toList, b)) (hi : intL x.data.toList = some n) : NumsTo S y (pre ++ [n]) b := by
  unfold NumsTo at h ⊢
  rw [h, if_pos rfl]
  have hl := cutL_len 32 t.data.toList
  rw [hc] at hl
  conv => lhs; unfold numsF
  rw [hc]
  simp only [hi]
  cases b with
  | false => simp
  | true =>
    simp only [if_true]
    rw [numsF_fuel _ _ (hl rfl)]
    simp [Option.map_map]
    congr 1
def NumsOut (S : ByteArray) (w : World) (e : Ending) (w' : World) : Prop := Below w.heap.size w w' ∧ ((∃ ns v, numsOf S.data.toList = some ns ∧ ns.length ≤ S.size + 1 ∧ e = .returned (.tuple #[v, .bool true]) ∧ Ints w' w.heap.size v ns) ∨ (numsOf S.data.toList = none ∧ e = .returned (.tuple #[.slice none 0 0, .bool false])))
end Go.Proofs.YtedhlmipcfdldaaGreatDoor
