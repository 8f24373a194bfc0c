/- slices.Delete of one account, in the program: in place, in memory of the caller's own. Conditions: the place is there; at most 1048576 accounts. -/
import Derived.Test.YtppgbjjojikpdaaDoorChg
import Derived.Deep.RegionLaw
namespace Go.Proofs.YtppgbjjojikpdaaDoor
open Go.RowKit

/-- A list, written over from a place on. -/
def setL : List Value → Nat → List Value → List Value
  | xs, _, [] => xs
  | xs, o, v :: r => setL (xs.set o v) (o + 1) r
theorem setL_eq : ∀ (vs xs : List Value) (o : Nat), o + vs.length ≤ xs.length → setL xs o vs = xs.take o ++ vs ++ xs.drop (o + vs.length)
  | [], xs, o, _ => by simp [setL]
  | v :: r, xs, o, h => by
    simp only [List.length_cons] at h
    rw [setL, setL_eq r (xs.set o v) (o + 1) (by simp; omega)]
    rw [List.take_add_one, List.getElem?_set_self (by omega), List.take_set_of_le (by omega), List.drop_set_of_lt (by omega)]
    simp only [List.length_cons, Option.toList_some, List.append_assoc, List.nil_append, List.cons_append]
    rw [show o + (r.length + 1) = o + 1 + r.length by omega]
theorem owns_setCells {base e size n cap g : Nat} : ∀ (vs : List Value) (o : Nat) (w : World) (xs : List Value), w.ownsRow base e size (.slice (some ⟨g, 0, none⟩) n cap) n xs → (w.setCells g o vs).ownsRow base e size (.slice (some ⟨g, 0, none⟩) n cap) n (setL xs o vs)
  | [], _, _, _, h => h
  | v :: r, o, _, _, h => owns_setCells r (o + 1) _ _ (World.ownsRow.stored h o v).1
theorem below_setCells {B g : Nat} (hg : B ≤ g) {w0 : World} : ∀ (vs : List Value) (o : Nat) (w : World), Below B w0 w → Below B w0 (w.setCells g o vs)
  | [], _, _, h => h
  | v :: r, o, _, h => below_setCells hg r (o + 1) _ (below_set h hg o v)
theorem owns_cut {w : World} {base e size n m cap g : Nat} {xs : List Value} (h : w.ownsRow base e size (.slice (some ⟨g, 0, none⟩) n cap) n xs) (hm : m ≤ n) : w.ownsRow base e size (.slice (some ⟨g, 0, none⟩) m cap) m (xs.take (m * size)) := by
  have hms : m * size ≤ n * size := Nat.mul_le_mul_right _ hm
  rcases h.2 with ⟨h', _⟩ | ⟨g', cap', cur, h', hb, hg, hnc, hcm, hcs, htake⟩
  · simp at h'
  · simp only [Value.slice.injEq, Option.some.injEq, Addr.mk.injEq, and_true, true_and] at h'
    obtain ⟨rfl, rfl⟩ := h'
    refine ⟨by rw [List.length_take, h.1]; omega, .inr ⟨g, cap, cur, rfl, hb, hg, by omega, hcm, hcs, ?_⟩⟩
    rw [← htake, List.take_take]
    congr 1
    omega
theorem flat_take (L : List Acc) (p : Nat) (hp : p ≤ L.length) : (L.flatMap accCells).take (p * 8) = (L.take p).flatMap accCells := by
  have e : L.flatMap accCells = (L.take p).flatMap accCells ++ (L.drop p).flatMap accCells := by rw [← List.flatMap_append, List.take_append_drop]
  have hl : ((L.take p).flatMap accCells).length = p * 8 := by rw [flat_len]; simp; omega
  rw [e, List.take_append_of_le_length (by omega), List.take_of_length_le (by omega)]

/-- The cells of no account. -/
def zero8 : List Value := [.int .i64 0, .int .i64 0, .int .i64 0, .int .i64 0, .int .i64 0, .bool false, .int .i64 0, .int .i64 0]
theorem zeroCells8 : (Builtin.zeroCells (Value.agg #[.int .i64 0, .int .i64 0, .int .i64 0, .int .i64 0, .int .i64 0, .bool false, .int .i64 0, .int .i64 0]).cells 1).toList = zero8 := by kernel_rfl
theorem run_clear1 (w : World) (ty : TypeId) (b o c : Nat) (hc : ∀ j, j < 8 → (w.cell? ⟨b, o + j, none⟩).isSome = true) (hf : ∀ j, j < 8 → w.frozen? ⟨b, o + j, none⟩ = false) :
    (Builtin.clear_ #[26] ty #[.slice (some ⟨b, o, none⟩) 1 c]).run Tryd.prog w = .ok (.tuple #[]) (w.setCells b o zero8) := by
  have hst := run_storeCells_cells (P := Tryd.prog) b o zero8 0 w (by simpa [zero8] using hc) (by simpa [zero8] using hf) (by intro v hv; simp only [zero8, List.mem_cons, List.not_mem_nil, or_false] at hv; rcases hv with e | e | e | e | e | e | e | e <;> subst e <;> rfl)
  simp only [Nat.add_zero] at hst
  simp [Builtin.clear_, run_underlying Tryd.underlying26, zeroCells8, hst]
end Go.Proofs.YtppgbjjojikpdaaDoor
