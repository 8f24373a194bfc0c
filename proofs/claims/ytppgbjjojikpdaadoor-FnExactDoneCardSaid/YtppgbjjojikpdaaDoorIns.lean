/- Laws for slices.Insert of one account: copying accounts, a row with room. Conditions: they say them. -/
import Derived.Test.YtppgbjjojikpdaaDoorDel2
import Derived.Shelf.Spec.SlicesInsert
import Derived.Lib.AppendZerosOnto
import Derived.Laws.NewBlocks
namespace Go.Proofs.YtppgbjjojikpdaaDoor
open Go.RowKit

theorem run_copy8 (w : World) (ty : TypeId) (b o dLen dCap : Nat) (a : Addr) (sLen sCap : Nat) (n : Nat) (cs : List Value)
    (hn : n = Nat.min sLen dLen) (hl : cs.length = n * 8)
    (hsrc : ∀ j v, cs[j]? = some v → w.cell? (a.add j) = some v) (hc : ∀ j, j < cs.length → (w.cell? ⟨b, o + j, none⟩).isSome = true) (hf : ∀ j, j < cs.length → w.frozen? ⟨b, o + j, none⟩ = false) (h1 : ∀ v ∈ cs, v.oneCell' = true) :
    (Builtin.copy_ #[26, 26] ty #[.slice (some ⟨b, o, none⟩) dLen dCap, .slice (some a) sLen sCap]).run Tryd.prog w = .ok (goInt n) (w.setCells b o cs) := by
  obtain ⟨i0, hi, hz0, hz1, hz2⟩ := info_parts info37
  have hld := run_loadCells_list (P := Tryd.prog) w a cs hsrc
  have hst := run_storeCells_cells (P := Tryd.prog) b o cs 0 w (by simpa using hc) (by simpa using hf) h1
  rw [hl] at hld
  simp [Builtin.copy_, run_underlying Tryd.underlying26, Builtin.lenOf, Builtin.firstCells, sizeOf, typeInfo, hi, hz1, ← hn, hld, hst]

theorem owns_ext {w : World} {base e size n cap g : Nat} {xs : List Value} (h : w.ownsRow base e size (.slice (some ⟨g, 0, none⟩) n cap) n xs) (hn : n + 1 ≤ cap) : ∃ ys : List Value, ys.length = size ∧ w.ownsRow base e size (.slice (some ⟨g, 0, none⟩) (n + 1) cap) (n + 1) (xs ++ ys) := by
  rcases h.2 with ⟨h', _⟩ | ⟨g', cap', cur, h', hb, hg, hnc, hcm, hcs, htake⟩
  · simp at h'
  · simp only [Value.slice.injEq, Option.some.injEq, Addr.mk.injEq, and_true, true_and] at h'
    obtain ⟨rfl, rfl⟩ := h'
    have hms : (n + 1) * size ≤ cap * size := Nat.mul_le_mul_right _ hn
    have hm1 : (n + 1) * size = n * size + size := by rw [Nat.add_mul, Nat.one_mul]
    refine ⟨(cur.toList.drop (n * size)).take size, by simp [hcs]; omega, ⟨by rw [List.length_append, h.1]; simp [hcs]; omega, .inr ⟨g, cap, cur, rfl, hb, hg, hn, hcm, hcs, ?_⟩⟩⟩
    rw [← htake, hm1, List.take_add]

theorem ins_math (L : List Acc) (i : Nat) (x : Acc) (ys : List Value) (hy : ys.length = 8) (hi : i < L.length) :
    setL (setL (L.flatMap accCells ++ ys) ((i + 1) * 8) ((L.drop i).flatMap accCells)) (i * 8) (accCells x) = (L.take i ++ x :: L.drop i).flatMap accCells := by
  have hl : (L.flatMap accCells).length = L.length * 8 := flat_len L
  have hd : ((L.drop i).flatMap accCells).length = (L.length - i) * 8 := by rw [flat_len]; simp
  have ht : ((L.take i).flatMap accCells).length = i * 8 := by rw [flat_len]; simp; omega
  have h8 : (accCells x).length = 8 := rfl
  have hw : (L.flatMap accCells ++ ys).length = (L.length + 1) * 8 := by rw [List.length_append]; omega
  have e1 : setL (L.flatMap accCells ++ ys) ((i + 1) * 8) ((L.drop i).flatMap accCells) = (L.flatMap accCells ++ ys).take ((i + 1) * 8) ++ (L.drop i).flatMap accCells := by
    have ez : (L.flatMap accCells ++ ys).drop ((i + 1) * 8 + (L.length - i) * 8) = [] := List.drop_eq_nil_of_le (by omega)
    rw [setL_eq _ _ _ (by omega), hd, ez, List.append_nil]
  have e3 : ((L.flatMap accCells ++ ys).take ((i + 1) * 8)).length = (i + 1) * 8 := by rw [List.length_take]; omega
  rw [e1, setL_eq _ _ _ (by rw [List.length_append]; omega), h8]
  rw [List.take_append_of_le_length (by omega), List.take_take, show min (i * 8) ((i + 1) * 8) = i * 8 by omega, List.take_append_of_le_length (by omega), flat_take L i (by omega)]
  rw [show i * 8 + 8 = (i + 1) * 8 by omega, List.drop_append_of_le_length (by omega), List.drop_of_length_le (by omega)]
  simp
end Go.Proofs.YtppgbjjojikpdaaDoor
