/- slices.Insert of one account where there is no room behind the accounts, in the program: a new row. Conditions: the place is ahead of the end; at most 1048576 accounts. -/
import Derived.Test.YtppgbjjojikpdaaDoorInsB
namespace Go.Proofs.YtppgbjjojikpdaaDoor
open Go.RowKit

theorem zc8 (k : Nat) : (Builtin.zeroCells (Value.agg #[.int .i64 0, .int .i64 0, .int .i64 0, .int .i64 0, .int .i64 0, .bool false, .int .i64 0, .int .i64 0]).cells k).size = k * 8 := by
  simp [Builtin.zeroCells, Value.cells]

set_option maxRecDepth 100000 in
set_option maxHeartbeats 4000000 in
theorem insGrow (B g c : Nat) (L : List Acc) (i : Nat) (x : Acc) (vb : Nat) (w : World) (h : AL w B (.slice (some ⟨g, 0, none⟩) L.length c) L) (hB : B ≤ w.heap.size) (hi : i < L.length) (hr : c < L.length + 1) (hl : L.length ≤ 1048576) (hv : One w vb x) (hvw : vb < w.heap.size) :
    Calls Tryd.prog 49 #[.slice (some ⟨g, 0, none⟩) L.length c, .int .i64 i, .slice (some ⟨vb, 0, none⟩) 1 1] w fun e w' => ∃ v, e = .returned v ∧ AL w' B v (L.take i ++ x :: L.drop i) ∧ Below B w w' := by
  obtain ⟨i0, hi0, hz0, hzs, hzb⟩ := info_parts info37
  obtain ⟨hc1, hc2⟩ := h.cap
  unfold maxLen at hc2
  obtain ⟨hBg, hgw⟩ := h.block
  have hkk : (L.length : Int) + 1 - (i : Int) = ((L.length + 1 - i : Nat) : Int) := by omega
  have hik : i + (L.length + 1 - i) = L.length + 1 := by omega
  have htl : ((L.take i).flatMap accCells).length = i * 8 := by rw [flat_len]; simp; omega
  have fl : (L.flatMap accCells).length = L.length * 8 := flat_len L
  have hold : (Builtin.firstCells i0.size i (.slice (some ⟨g, 0, none⟩) i c)).run Tryd.prog w.drew = .ok ((L.take i).flatMap accCells).toArray w.drew := by
    rw [hzs]
    exact run_firstCells_some w.drew 8 i ⟨g, 0, none⟩ i c ((L.take i).flatMap accCells) htl (fun j v hj => by
      rw [Addr.add_lit, Nat.zero_add]
      have hjl : j < i * 8 := by
        have := (List.getElem?_eq_some_iff.1 hj).1
        rwa [htl] at this
      show w.cell? ⟨g, j, none⟩ = some v
      rw [World.ownsRow.cellAt h j (by omega), ← hj, ← flat_take L i (by omega), List.getElem?_take]
      simp [hjl])
  have hrz : ∀ ty, (Builtin.append_ #[26, 3] ty #[.slice (some ⟨g, 0, none⟩) i c, .int .i64 ((L.length : Int) + 1 - (i : Int))]).run Tryd.prog w =
      .ok (.slice (some ⟨w.heap.size, 0, none⟩) (L.length + 1) (grownCap w (L.length + 1) c 37)) (w.drew.alloc (.cells (((L.take i).flatMap accCells).toArray ++ Builtin.zeroCells (Value.agg #[.int .i64 0, .int .i64 0, .int .i64 0, .int .i64 0, .int .i64 0, .bool false, .int .i64 0, .int .i64 0]).cells (L.length + 1 - i) ++ Builtin.zeroCells (Value.agg #[.int .i64 0, .int .i64 0, .int .i64 0, .int .i64 0, .int .i64 0, .bool false, .int .i64 0, .int .i64 0]).cells (grownCap w (L.length + 1) c 37 - (L.length + 1))) 37)) := fun ty => by
    have h := Lib.run_append_grow_zeros w 26 3 ty 37 i0 _ .i64 .i64 Tryd.underlying26 Tryd.underlying3 hi0 hz0 (some ⟨g, 0, none⟩) i c ((L.take i).flatMap accCells) hold (L.length + 1 - i) (by omega) (by omega) (by omega) (by omega) (by rw [hzb]; omega) (by rw [hzb, hik]; exact growslice_fits hr (by omega))
    rw [hik] at h
    rw [hkk]
    exact h
  obtain ⟨G, hG⟩ : ∃ G, G = grownCap w (L.length + 1) c 37 := ⟨_, rfl⟩
  obtain ⟨ROW, hROW⟩ : ∃ ROW : Array Value, ROW = ((L.take i).flatMap accCells).toArray ++ Builtin.zeroCells (Value.agg #[.int .i64 0, .int .i64 0, .int .i64 0, .int .i64 0, .int .i64 0, .bool false, .int .i64 0, .int .i64 0]).cells (L.length + 1 - i) ++ Builtin.zeroCells (Value.agg #[.int .i64 0, .int .i64 0, .int .i64 0, .int .i64 0, .int .i64 0, .bool false, .int .i64 0, .int .i64 0]).cells (G - (L.length + 1)) := ⟨_, rfl⟩
  rw [← hG] at hrz
  rw [← hROW] at hrz
  have hGn : L.length + 1 ≤ G := by rw [hG]; exact grownCap_ge w _ _ _
  have hG63 : G ≤ maxLen := by
    rw [hG]
    exact grownCap_le_maxLen w (L.length + 1) c 37 (by unfold maxLen; omega)
  have hRs : ROW.size = G * 8 := by
    rw [hROW]
    simp only [Array.size_append, zc8, List.size_toArray, htl]
    omega
  obtain ⟨W1, hW1⟩ : ∃ W1, W1 = w.drew.alloc (.cells ROW 37) := ⟨_, rfl⟩
  rw [← hW1] at hrz
  obtain ⟨zs, hzl, hzs'⟩ : ∃ zs : List Value, zs.length = (L.length + 1 - i) * 8 ∧ ROW.toList.take ((L.length + 1) * 8) = (L.take i).flatMap accCells ++ zs := by
    refine ⟨(Builtin.zeroCells (Value.agg #[.int .i64 0, .int .i64 0, .int .i64 0, .int .i64 0, .int .i64 0, .bool false, .int .i64 0, .int .i64 0]).cells (L.length + 1 - i)).toList, by rw [Array.length_toList, zc8], ?_⟩
    have e2 : (((L.take i).flatMap accCells) ++ (Builtin.zeroCells (Value.agg #[.int .i64 0, .int .i64 0, .int .i64 0, .int .i64 0, .int .i64 0, .bool false, .int .i64 0, .int .i64 0]).cells (L.length + 1 - i)).toList).length = (L.length + 1) * 8 := by
      rw [List.length_append, htl, Array.length_toList, zc8]; omega
    rw [hROW, Array.toList_append, Array.toList_append, List.toList_toArray, List.take_append_of_le_length (by omega), List.take_of_length_le (by omega)]
  have O1 : W1.ownsRow B 37 8 (.slice (some ⟨w.heap.size, 0, none⟩) (L.length + 1) G) (L.length + 1) ((L.take i).flatMap accCells ++ zs) := by
    refine ⟨by rw [List.length_append, htl, hzl]; omega, .inr ⟨w.heap.size, G, ROW, rfl, hB, ?_, hGn, hG63, hRs, hzs'⟩⟩
    rw [hW1]
    show (w.heap.push _)[w.heap.size]? = _
    simp
  have B1 : Below w.heap.size w W1 := by
    rw [hW1]
    exact (show Below w.heap.size w w.drew from ⟨rfl, rfl, rfl, Nat.le_refl _, fun _ _ => rfl⟩).alloc (Nat.le_refl _) _
  have hv1 : One W1 vb x := by unfold One at hv ⊢; rw [B1.block vb hvw]; exact hv
  have hcpA : ∀ ty dc, (Builtin.copy_ #[26, 26] ty #[.slice (some ⟨w.heap.size, i * 8, none⟩) (L.length + 1 - i) dc, .slice (some ⟨vb, 0, none⟩) 1 1]).run Tryd.prog W1 = .ok (goInt 1) (W1.setCells w.heap.size (i * 8) (accCells x)) := fun ty dc =>
    run_copy8 W1 ty w.heap.size (i * 8) (L.length + 1 - i) dc ⟨vb, 0, none⟩ 1 1 1 (accCells x) (by simp only [Nat.min_def]; split <;> omega) rfl hv1.cell
      (fun j hj => by have h8 : j < 8 := hj; rw [World.ownsRow.cellAt O1 _ (by omega), List.getElem?_eq_getElem (by rw [O1.1]; omega)]; rfl) (fun j _ => World.ownsRow.frozenAt O1 _) (acc_one x)
  obtain ⟨W2, hW2⟩ : ∃ W2, W2 = W1.setCells w.heap.size (i * 8) (accCells x) := ⟨_, rfl⟩
  rw [← hW2] at hcpA
  have O2 : W2.ownsRow B 37 8 (.slice (some ⟨w.heap.size, 0, none⟩) (L.length + 1) G) (L.length + 1) (setL ((L.take i).flatMap accCells ++ zs) (i * 8) (accCells x)) := by rw [hW2]; exact owns_setCells _ _ _ _ O1
  have O2d : W2.drew.ownsRow B 37 8 (.slice (some ⟨w.heap.size, 0, none⟩) (L.length + 1) G) (L.length + 1) (setL ((L.take i).flatMap accCells ++ zs) (i * 8) (accCells x)) := O2
  have B2 : Below w.heap.size w W2.drew := by
    have : Below w.heap.size w W2 := by rw [hW2]; exact below_setCells (Nat.le_refl _) _ _ _ B1
    exact this.trans ⟨rfl, rfl, rfl, Nat.le_refl _, fun _ _ => rfl⟩
  obtain ⟨cs, hcsd⟩ : ∃ cs, cs = (L.drop i).flatMap accCells := ⟨_, rfl⟩
  have hdl : cs.length = (L.length - i) * 8 := by rw [hcsd, flat_len]; simp
  have hcpB : ∀ ty dc sc, (Builtin.copy_ #[26, 26] ty #[.slice (some ⟨w.heap.size, (i + 1) * 8, none⟩) (L.length - i) dc, .slice (some ⟨g, i * 8, none⟩) (L.length - i) sc]).run Tryd.prog W2.drew = .ok (goInt ((L.length - i : Nat) : Int)) (W2.drew.setCells w.heap.size ((i + 1) * 8) cs) := fun ty dc sc =>
    run_copy8 W2.drew ty w.heap.size ((i + 1) * 8) (L.length - i) dc ⟨g, i * 8, none⟩ (L.length - i) sc (L.length - i) cs (by simp only [Nat.min_def]; split <;> omega) hdl
      (fun j v hj => by
        rw [hcsd] at hj
        have := h.news i j v hj
        rw [Addr.add_lit] at this ⊢
        rw [B2.cell (p := ⟨g, i * 8 + j, none⟩) hgw]
        exact this)
      (fun j hj => by rw [World.ownsRow.cellAt O2d _ (by omega), List.getElem?_eq_getElem (by rw [O2d.1]; omega)]; rfl) (fun j _ => World.ownsRow.frozenAt O2d _) (by rw [hcsd]; exact flat_one _)
  have Z : Hid (AL (W2.drew.setCells w.heap.size ((i + 1) * 8) cs) B (.slice (some ⟨w.heap.size, 0, none⟩) (L.length + 1) G) (L.take i ++ x :: L.drop i) ∧ Below B w (W2.drew.setCells w.heap.size ((i + 1) * 8) cs)) := by
    refine ⟨?_, (below_setCells (Nat.le_refl _) _ _ _ B2).mono hB⟩
    have o3 := owns_setCells cs ((i + 1) * 8) _ _ O2d
    have h8 : (accCells x).length = 8 := rfl
    have hx1 : ((L.take i).flatMap accCells ++ zs).length = (L.length + 1) * 8 := by rw [List.length_append, htl, hzl]; omega
    have e1 : setL ((L.take i).flatMap accCells ++ zs) (i * 8) (accCells x) = (L.take i).flatMap accCells ++ accCells x ++ ((L.take i).flatMap accCells ++ zs).drop ((i + 1) * 8) := by
      rw [setL_eq _ _ _ (by omega), List.take_append_of_le_length (by omega), List.take_of_length_le (by omega), h8, show i * 8 + 8 = (i + 1) * 8 by omega]
    have hx2 : (setL ((L.take i).flatMap accCells ++ zs) (i * 8) (accCells x)).length = (L.length + 1) * 8 := O2.1
    have hx3 : ((L.take i).flatMap accCells ++ accCells x).length = (i + 1) * 8 := by rw [List.length_append, htl, h8]; omega
    have ez : (setL ((L.take i).flatMap accCells ++ zs) (i * 8) (accCells x)).drop ((i + 1) * 8 + (L.length - i) * 8) = [] := List.drop_eq_nil_of_le (by omega)
    have e2 : setL (setL ((L.take i).flatMap accCells ++ zs) (i * 8) (accCells x)) ((i + 1) * 8) cs = (L.take i).flatMap accCells ++ accCells x ++ cs := by
      rw [setL_eq _ _ _ (by omega), hdl, ez, List.append_nil, e1, List.take_append_of_le_length (by omega), List.take_of_length_le (by omega)]
    rw [e2] at o3
    have hlen : (L.take i ++ x :: L.drop i).length = L.length + 1 := by simp; omega
    unfold AL
    rw [hlen, List.flatMap_append, List.flatMap_cons, ← List.append_assoc, ← hcsd]
    exact o3
  have hz2 : ((i : Int) == (L.length : Int)) = false := by simp; omega
  have hz3 : (c : Int) < (L.length : Int) + 1 := by omega
  have hz4 : decide ((c : Int) < (L.length : Int) + 1) = true := by simp; omega
  have hw1 : IntKind.i64.wrap ((i : Int) + 1) = (i : Int) + 1 := by rw [IntKind.wrap_i64]; omega
  have hw2 : IntKind.i64.wrap ((L.length : Int) + 1) = (L.length : Int) + 1 := by rw [IntKind.wrap_i64]; omega
  have hw3 : IntKind.i64.wrap ((L.length : Int) + 1 - (i : Int)) = (L.length : Int) + 1 - (i : Int) := by rw [IntKind.wrap_i64]; omega
  have hb1 : (0 : Int) ≤ (i : Int) + 1 := by omega
  have hin : i ≤ L.length := by omega
  have hic : i ≤ c := by omega
  have htn : ((i : Int) + 1).toNat = i + 1 := by omega
  have hGi : ¬ (G = i) := by omega
  have hGim : ¬ (G = i + 1) := by omega
  have hb3 : (i : Int) ≤ (L.length : Int) + 1 := by omega
  have hb6 : (i : Int) + 1 ≤ (L.length : Int) + 1 := by omega
  have hb4 : ¬ (c = i) := by omega
  unfold maxLen at hG63
  clear h hkk hik htl fl hold hROW hG hRs hzs' hzl O1 B1 hv1 hv hW1 hW2 O2 O2d B2 hcsd hdl
  go_enter Tryd.func49, Tryd.ntmps49
  go_wp2_with (first
    | (at_builtin; refine Lib.wpList_append_run _ rfl _ _ _ _ rfl _ _ rfl rfl _ _ (hrz _) ?_)
    | (at_builtin; refine wpList_copy_runI _ rfl _ _ 26 26 rfl _ _ rfl rfl (hcpA _ _) ?_))
  go_region_law (refine step_copy_runI rfl _ _ 26 26 rfl (.slice (some ⟨w.heap.size, (i + 1) * 8, none⟩) (L.length - i) (G - (i + 1))) (.slice (some ⟨g, i * 8, none⟩) (L.length - i) (c - i)) (by simp [Act.eval, Act.put]) (by simp [Act.eval, Act.put]) (hcpB 3 (G - (i + 1)) (c - i)) ?_)
  go_wp2
  go_ret
  exact ⟨_, rfl, Z.out.1, Z.out.2⟩
end Go.Proofs.YtppgbjjojikpdaaDoor
