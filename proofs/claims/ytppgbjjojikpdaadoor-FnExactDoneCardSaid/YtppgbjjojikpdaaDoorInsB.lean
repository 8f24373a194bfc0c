/- slices.Insert of one account where there is room behind the accounts, in the program. Conditions: the place is ahead of the end; at most 1048576 accounts. -/
import Derived.Test.YtppgbjjojikpdaaDoorIns
namespace Go.Proofs.YtppgbjjojikpdaaDoor
open Go.RowKit

theorem owns_heap {w : World} {base e size n cap g : Nat} {xs : List Value} (h : w.ownsRow base e size (.slice (some ⟨g, 0, none⟩) n cap) n xs) : ∃ cur, w.heap[g]? = some (.cells cur e (0, 0)) ∧ cur.size = cap * size := by
  rcases h.2 with ⟨h', _⟩ | ⟨g', cap', cur, h', hb, hg, hnc, hcm, hcs, htake⟩
  · simp at h'
  · simp only [Value.slice.injEq, Option.some.injEq, Addr.mk.injEq, and_true, true_and] at h'
    obtain ⟨rfl, rfl⟩ := h'
    exact ⟨cur, hg, hcs⟩
theorem size37 (w : World) : (Go.sizeOf 37).run Tryd.prog w = .ok 8 w := by kernel_rfl
theorem acc_one (x : Acc) : ∀ v ∈ accCells x, v.oneCell' = true := by
  intro u hx
  simp only [accCells, List.mem_cons, List.not_mem_nil, or_false] at hx
  rcases hx with e | e | e | e | e | e | e | e <;> subst e <;> rfl
/-- An account alone in its block. -/
def One (w : World) (vb : Nat) (x : Acc) : Prop := w.heap[vb]? = some (.cells (accCells x).toArray 37 (0, 0))
theorem One.cell {w : World} {vb : Nat} {x : Acc} (h : One w vb x) (j : Nat) (v : Value) (hj : (accCells x)[j]? = some v) : w.cell? ((⟨vb, 0, none⟩ : Addr).add j) = some v := by
  rw [Addr.add_lit, Nat.zero_add]
  unfold One at h
  simp only [World.cell?, h]
  simp [hj]
theorem One.setCells {vb : Nat} {x : Acc} {g : Nat} (hne : vb ≠ g) : ∀ (vs : List Value) (o : Nat) (w : World), One w vb x → One (w.setCells g o vs) vb x
  | [], _, _, h => h
  | v :: r, o, _, h => One.setCells hne r (o + 1) _ (by unfold One at h ⊢; rw [Below.heap_setCell _ _ _ _ hne]; exact h)

set_option maxRecDepth 100000 in
set_option maxHeartbeats 4000000 in
theorem insShift (B g c : Nat) (L : List Acc) (i : Nat) (x : Acc) (vb : Nat) (w : World) (h : AL w B (.slice (some ⟨g, 0, none⟩) L.length c) L) (hi : i < L.length) (hr : L.length + 1 ≤ c) (hl : L.length ≤ 1048576) (hv : One w vb x) (hne : vb ≠ g) :
    Calls Tryd.prog 49 #[.slice (some ⟨g, 0, none⟩) L.length c, .int .i64 i, .slice (some ⟨vb, 0, none⟩) 1 1] w fun e w' => e = .returned (.slice (some ⟨g, 0, none⟩) (L.length + 1) c) ∧ AL w' B (.slice (some ⟨g, 0, none⟩) (L.length + 1) c) (L.take i ++ x :: L.drop i) ∧ Below B w w' := by
  obtain ⟨hc1, hc2⟩ := h.cap
  unfold maxLen at hc2
  have hBg := h.block.1
  obtain ⟨cur, hcur, hcs⟩ := owns_heap h
  obtain ⟨ys, hy, O0⟩ := owns_ext h hr
  have fl : (L.flatMap accCells ++ ys).length = (L.length + 1) * 8 := by rw [List.length_append, flat_len, hy]; omega
  have hov : ∀ lb cb, (callFunc 57 #[.slice (some ⟨vb, 0, none⟩) 1 1, .slice (some ⟨g, (i + 1) * 8, none⟩) lb cb]).run Tryd.prog w = .ok (.value (.bool false)) w := fun lb cb => by
    rw [run_callFunc_extern Tryd.func57 (by kernel_rfl) (by kernel_rfl) (by kernel_rfl) (e := Extern.SlicesOverlaps.overlaps #[26, 26] #[4]) (by kernel_rfl),
      Lib.run_overlaps_apart w 26 4 37 Tryd.underlying26 8 size37 ⟨vb, 0, none⟩ ⟨g, (i + 1) * 8, none⟩ 1 1 lb cb hne 37 37 8 (c * 8) (by unfold World.shape?; rw [hv]; rfl) (by unfold World.shape?; rw [hcur, ← hcs]) (by omega) (by unfold World.frozen?; rw [hv]; rfl) (by unfold World.frozen?; rw [hv]; rfl)]
    rfl
  obtain ⟨cs, hcsd⟩ : ∃ cs, cs = (L.drop i).flatMap accCells := ⟨_, rfl⟩
  have hdl : cs.length = (L.length - i) * 8 := by rw [hcsd, flat_len]; simp
  have O0d : w.drew.ownsRow B 37 8 (.slice (some ⟨g, 0, none⟩) (L.length + 1) c) (L.length + 1) (L.flatMap accCells ++ ys) := O0
  obtain ⟨W1, hW1⟩ : ∃ W1, W1 = w.drew.setCells g ((i + 1) * 8) cs := ⟨_, rfl⟩
  have hcp1 : ∀ ty dc sc, (Builtin.copy_ #[26, 26] ty #[.slice (some ⟨g, (i + 1) * 8, none⟩) (L.length - i) dc, .slice (some ⟨g, i * 8, none⟩) (L.length + 1 - i) sc]).run Tryd.prog w.drew = .ok (goInt ((L.length - i : Nat) : Int)) W1 := fun ty dc sc => by
    rw [hW1]
    exact run_copy8 w.drew ty g ((i + 1) * 8) (L.length - i) dc ⟨g, i * 8, none⟩ (L.length + 1 - i) sc (L.length - i) cs (by simp only [Nat.min_def]; split <;> omega) hdl
      (fun j v hj => by rw [hcsd] at hj; exact h.news i j v hj)
      (fun j hj => by rw [World.ownsRow.cellAt O0d _ (by omega), List.getElem?_eq_getElem (by omega)]; rfl) (fun j _ => World.ownsRow.frozenAt O0d _) (by rw [hcsd]; exact flat_one _)
  have O1 : W1.ownsRow B 37 8 (.slice (some ⟨g, 0, none⟩) (L.length + 1) c) (L.length + 1) (setL (L.flatMap accCells ++ ys) ((i + 1) * 8) cs) := by rw [hW1]; exact owns_setCells cs _ _ _ O0d
  have hv1 : One W1 vb x := by rw [hW1]; exact One.setCells hne cs _ _ hv
  have B1 : Below B w W1 := by rw [hW1]; exact below_setCells hBg cs _ _ ⟨rfl, rfl, rfl, Nat.le_refl _, fun _ _ => rfl⟩
  have hcp2 : ∀ ty dc, (Builtin.copy_ #[26, 26] ty #[.slice (some ⟨g, i * 8, none⟩) (L.length + 1 - i) dc, .slice (some ⟨vb, 0, none⟩) 1 1]).run Tryd.prog W1 = .ok (goInt 1) (W1.setCells g (i * 8) (accCells x)) := fun ty dc =>
    run_copy8 W1 ty g (i * 8) (L.length + 1 - i) dc ⟨vb, 0, none⟩ 1 1 1 (accCells x) (by simp only [Nat.min_def]; split <;> omega) rfl hv1.cell
      (fun j hj => by have h8 : j < 8 := hj; rw [World.ownsRow.cellAt O1 _ (by omega), List.getElem?_eq_getElem (by rw [O1.1]; omega)]; rfl) (fun j _ => World.ownsRow.frozenAt O1 _) (acc_one x)
  have Z : Hid (AL (W1.setCells g (i * 8) (accCells x)) B (.slice (some ⟨g, 0, none⟩) (L.length + 1) c) (L.take i ++ x :: L.drop i) ∧ Below B w (W1.setCells g (i * 8) (accCells x))) := by
    refine ⟨?_, below_setCells hBg _ _ _ B1⟩
    have o2 := owns_setCells (accCells x) (i * 8) _ _ O1
    rw [hcsd, ins_math L i x ys hy hi] at o2
    have hlen : (L.take i ++ x :: L.drop i).length = L.length + 1 := by simp; omega
    unfold AL
    rw [hlen]
    exact o2
  have hz2 : ((i : Int) == (L.length : Int)) = false := by simp; omega
  have hw1 : IntKind.i64.wrap ((i : Int) + 1) = (i : Int) + 1 := by rw [IntKind.wrap_i64]; omega
  have hw2 : IntKind.i64.wrap ((L.length : Int) + 1) = (L.length : Int) + 1 := by rw [IntKind.wrap_i64]; omega
  have hb1 : (0 : Int) ≤ (i : Int) + 1 := by omega
  have hb0 : (0 : Int) ≤ (L.length : Int) + 1 := by omega
  have hb5 : (L.length : Int) + 1 ≤ (c : Int) := by omega
  have hin : i ≤ L.length := by omega
  have htn : ((i : Int) + 1).toNat = i + 1 := by omega
  have htl : ((L.length : Int) + 1).toNat = L.length + 1 := by omega
  have hb2 : ¬ (c = i + 1) := by omega
  have hb3 : (i : Int) ≤ (L.length : Int) + 1 := by omega
  have hb6 : (i : Int) + 1 ≤ (L.length : Int) + 1 := by omega
  have hb4 : ¬ (c = i) := by omega
  clear h hcur hcs O0 O0d fl hdl hcsd hW1 O1 hv1 B1 hv hy
  go_enter Tryd.func49, Tryd.ntmps49
  go_wp2_with (simp only [hov])
  go_region_law (refine step_copy_runI rfl _ _ 26 26 rfl (.slice (some ⟨g, (i + 1) * 8, none⟩) (L.length - i) (c - (i + 1))) (.slice (some ⟨g, i * 8, none⟩) (L.length + 1 - i) (c - i)) (by simp [Act.eval, Act.put]) (by simp [Act.eval, Act.put]) (hcp1 3 (c - (i + 1)) (c - i)) ?_)
  go_wp2_with (at_builtin; refine wpList_copy_runI _ rfl _ _ 26 26 rfl _ _ rfl rfl (hcp2 _ _) ?_)
  go_ret
  exact ⟨rfl, Z.out.1, Z.out.2⟩
end Go.Proofs.YtppgbjjojikpdaaDoor
