/- Laws for slices.Insert of one account: copying accounts, a row with room. Conditions: they say them. -/
import Derived.Test.YthkgppfgidlicaaGreatDoorDels
import Derived.Shelf.Spec.SlicesInsert
import Derived.Lib.AppendZerosOnto
import Derived.Laws.NewBlocks
namespace Go.Proofs.YthkgppfgidlicaaGreatDoor
open Go.RowKit

theorem run_copy8 (w : World) (ty : TypeId) (b o dLen dCap : Nat) (a : Addr) (sLen sCap : Nat) (n : Nat) (cs : List Value)
    (hn : n = Nat.min sLen dLen) (hl : cs.length = n * 8)
    (hsrc : ∀ j v, cs[j]? = some v → w.cell? (a.add j) = some v) (hc : ∀ j, j < cs.length → (w.cell? ⟨b, o + j, none⟩).isSome = true) (hf : ∀ j, j < cs.length → w.frozen? ⟨b, o + j, none⟩ = false) (h1 : ∀ v ∈ cs, v.oneCell' = true) :
    (Builtin.copy_ #[24, 24] ty #[.slice (some ⟨b, o, none⟩) dLen dCap, .slice (some a) sLen sCap]).run Tryz.prog w = .ok (goInt n) (w.setCells b o cs) := by
  obtain ⟨i0, hi, hz0, hz1, hz2⟩ := info_parts info38
  have hld := run_loadCells_list (P := Tryz.prog) w a cs hsrc
  have hst := run_storeCells_cells (P := Tryz.prog) b o cs 0 w (by simpa using hc) (by simpa using hf) h1
  rw [hl] at hld
  simp [Builtin.copy_, run_underlying Tryz.underlying24, Builtin.lenOf, Builtin.firstCells, sizeOf, typeInfo, hi, hz1, ← hn, hld, hst]

theorem owns_ext {w : World} {base e size n cap g : Nat} {xs : List Value} (h : w.ownsRow base e size (.slice (some ⟨g, 0, none⟩) n cap) n xs) (hn : n + 1 ≤ cap) : ∃ ys : List Value, ys.length = size ∧ w.ownsRow base e size (.slice (some ⟨g, 0, none⟩) (n + 1) cap) (n + 1) (xs ++ ys) := by
  rcases h.2 with ⟨h', _⟩ | ⟨g', cap', cur, h', hb, hg, hnc, hcm, hcs, htake⟩
  · simp at h'
  · simp only [Value.slice.injEq, Option.some.injEq, Addr.mk.injEq, and_true, true_and] at h'
    obtain ⟨rfl, rfl⟩ := h'
    have hms : (n + 1) * size ≤ cap * size := Nat.mul_le_mul_right _ hn
    have hm1 : (n + 1) * size = n * size + size := by rw [Nat.add_mul, Nat.one_mul]
    refine ⟨(cur.toList.drop (n * size)).take size, by simp [hcs]; omega, ⟨by rw [List.length_append, h.1]; simp [hcs]; omega, .inr ⟨g, cap, cur, rfl, hb, hg, hn, hcm, hcs, ?_⟩⟩⟩
    rw [← htake, hm1, List.take_add]

theorem ins_math (L : List Acc) (i : Nat) (x : Acc) (ys : List Value) (hy : ys.length = 8) (hi : i < L.length) :
    setL (setL (L.flatMap accCells ++ ys) ((i + 1) * 8) ((L.drop i).flatMap accCells)) (i * 8) (accCells x) = (L.take i ++ x :: L.drop i).flatMap accCells := by
  have hl : (L.flatMap accCells).length = L.length * 8 := flat_len L
  have hd : ((L.drop i).flatMap accCells).length = (L.length - i) * 8 := by rw [flat_len]; simp
  have ht : ((L.take i).flatMap accCells).length = i * 8 := by rw [flat_len]; simp; omega
  have h8 : (accCells x).length = 8 := rfl
  have hw : (L.flatMap accCells ++ ys).length = (L.length + 1) * 8 := by rw [List.length_append]; omega
  have e1 : setL (L.flatMap accCells ++ ys) ((i + 1) * 8) ((L.drop i).flatMap accCells) = (L.flatMap accCells ++ ys).take ((i + 1) * 8) ++ (L.drop i).flatMap accCells := by
    have ez : (L.flatMap accCells ++ ys).drop ((i + 1) * 8 + (L.length - i) * 8) = [] := List.drop_eq_nil_of_le (by omega)
    rw [setL_eq _ _ _ (by omega), hd, ez, List.append_nil]
  have e3 : ((L.flatMap accCells ++ ys).take ((i + 1) * 8)).length = (i + 1) * 8 := by rw [List.length_take]; omega
  rw [e1, setL_eq _ _ _ (by rw [List.length_append]; omega), h8]
  rw [List.take_append_of_le_length (by omega), List.take_take, show min (i * 8) ((i + 1) * 8) = i * 8 by omega, List.take_append_of_le_length (by omega), flat_take L i (by omega)]
  rw [show i * 8 + 8 = (i + 1) * 8 by omega, List.drop_append_of_le_length (by omega), List.drop_of_length_le (by omega)]
  simp
end Go.Proofs.YthkgppfgidlicaaGreatDoor

/- slices.Insert of one account where there is room behind the accounts, in the program. Conditions: the place is ahead of the end; at most 1048576 accounts. -/
namespace Go.Proofs.YthkgppfgidlicaaGreatDoor
open Go.RowKit

theorem owns_heap {w : World} {base e size n cap g : Nat} {xs : List Value} (h : w.ownsRow base e size (.slice (some ⟨g, 0, none⟩) n cap) n xs) : ∃ cur, w.heap[g]? = some (.cells cur e (0, 0)) ∧ cur.size = cap * size := by
  rcases h.2 with ⟨h', _⟩ | ⟨g', cap', cur, h', hb, hg, hnc, hcm, hcs, htake⟩
  · simp at h'
  · simp only [Value.slice.injEq, Option.some.injEq, Addr.mk.injEq, and_true, true_and] at h'
    obtain ⟨rfl, rfl⟩ := h'
    exact ⟨cur, hg, hcs⟩
theorem size37 (w : World) : (Go.sizeOf 38).run Tryz.prog w = .ok 8 w := by kernel_rfl
theorem acc_one (x : Acc) : ∀ v ∈ accCells x, v.oneCell' = true := by
  intro u hx
  simp only [accCells, List.mem_cons, List.not_mem_nil, or_false] at hx
  rcases hx with e | e | e | e | e | e | e | e <;> subst e <;> rfl
/-- An account alone in its block. -/
def One (w : World) (vb : Nat) (x : Acc) : Prop := w.heap[vb]? = some (.cells (accCells x).toArray 38 (0, 0))
theorem One.cell {w : World} {vb : Nat} {x : Acc} (h : One w vb x) (j : Nat) (v : Value) (hj : (accCells x)[j]? = some v) : w.cell? ((⟨vb, 0, none⟩ : Addr).add j) = some v := by
  rw [Addr.add_lit, Nat.zero_add]
  unfold One at h
  simp only [World.cell?, h]
  simp [hj]
theorem One.setCells {vb : Nat} {x : Acc} {g : Nat} (hne : vb ≠ g) : ∀ (vs : List Value) (o : Nat) (w : World), One w vb x → One (w.setCells g o vs) vb x
  | [], _, _, h => h
  | v :: r, o, _, h => One.setCells hne r (o + 1) _ (by unfold One at h ⊢; rw [Below.heap_setCell _ _ _ _ hne]; exact h)

set_option maxRecDepth 100000 in
set_option maxHeartbeats 4000000 in
theorem insShift (B g c : Nat) (L : List Acc) (i : Nat) (x : Acc) (vb : Nat) (w : World) (h : AL w B (.slice (some ⟨g, 0, none⟩) L.length c) L) (hi : i < L.length) (hr : L.length + 1 ≤ c) (hl : L.length ≤ 1048576) (hv : One w vb x) (hne : vb ≠ g) :
    Calls Tryz.prog 84 #[.slice (some ⟨g, 0, none⟩) L.length c, .int .i64 i, .slice (some ⟨vb, 0, none⟩) 1 1] w fun e w' => e = .returned (.slice (some ⟨g, 0, none⟩) (L.length + 1) c) ∧ AL w' B (.slice (some ⟨g, 0, none⟩) (L.length + 1) c) (L.take i ++ x :: L.drop i) ∧ Below B w w' := by
  obtain ⟨hc1, hc2⟩ := h.cap
  unfold maxLen at hc2
  have hBg := h.block.1
  obtain ⟨cur, hcur, hcs⟩ := owns_heap h
  obtain ⟨ys, hy, O0⟩ := owns_ext h hr
  have fl : (L.flatMap accCells ++ ys).length = (L.length + 1) * 8 := by rw [List.length_append, flat_len, hy]; omega
  have hov : ∀ lb cb, (callFunc 96 #[.slice (some ⟨vb, 0, none⟩) 1 1, .slice (some ⟨g, (i + 1) * 8, none⟩) lb cb]).run Tryz.prog w = .ok (.value (.bool false)) w := fun lb cb => by
    rw [run_callFunc_extern Tryz.func96 (by kernel_rfl) (by kernel_rfl) (by kernel_rfl) (e := Extern.SlicesOverlaps.overlaps #[24, 24] #[4]) (by kernel_rfl),
      Lib.run_overlaps_apart w 24 4 38 Tryz.underlying24 8 size37 ⟨vb, 0, none⟩ ⟨g, (i + 1) * 8, none⟩ 1 1 lb cb hne 38 38 8 (c * 8) (by unfold World.shape?; rw [hv]; rfl) (by unfold World.shape?; rw [hcur, ← hcs]) (by omega) (by unfold World.frozen?; rw [hv]; rfl) (by unfold World.frozen?; rw [hv]; rfl)]
    rfl
  obtain ⟨cs, hcsd⟩ : ∃ cs, cs = (L.drop i).flatMap accCells := ⟨_, rfl⟩
  have hdl : cs.length = (L.length - i) * 8 := by rw [hcsd, flat_len]; simp
  have O0d : w.drew.ownsRow B 38 8 (.slice (some ⟨g, 0, none⟩) (L.length + 1) c) (L.length + 1) (L.flatMap accCells ++ ys) := O0
  obtain ⟨W1, hW1⟩ : ∃ W1, W1 = w.drew.setCells g ((i + 1) * 8) cs := ⟨_, rfl⟩
  have hcp1 : ∀ ty dc sc, (Builtin.copy_ #[24, 24] ty #[.slice (some ⟨g, (i + 1) * 8, none⟩) (L.length - i) dc, .slice (some ⟨g, i * 8, none⟩) (L.length + 1 - i) sc]).run Tryz.prog w.drew = .ok (goInt ((L.length - i : Nat) : Int)) W1 := fun ty dc sc => by
    rw [hW1]
    exact run_copy8 w.drew ty g ((i + 1) * 8) (L.length - i) dc ⟨g, i * 8, none⟩ (L.length + 1 - i) sc (L.length - i) cs (by simp only [Nat.min_def]; split <;> omega) hdl
      (fun j v hj => by rw [hcsd] at hj; exact h.news i j v hj)
      (fun j hj => by rw [World.ownsRow.cellAt O0d _ (by omega), List.getElem?_eq_getElem (by omega)]; rfl) (fun j _ => World.ownsRow.frozenAt O0d _) (by rw [hcsd]; exact flat_one _)
  have O1 : W1.ownsRow B 38 8 (.slice (some ⟨g, 0, none⟩) (L.length + 1) c) (L.length + 1) (setL (L.flatMap accCells ++ ys) ((i + 1) * 8) cs) := by rw [hW1]; exact owns_setCells cs _ _ _ O0d
  have hv1 : One W1 vb x := by rw [hW1]; exact One.setCells hne cs _ _ hv
  have B1 : Below B w W1 := by rw [hW1]; exact below_setCells hBg cs _ _ ⟨rfl, rfl, rfl, Nat.le_refl _, fun _ _ => rfl⟩
  have hcp2 : ∀ ty dc, (Builtin.copy_ #[24, 24] ty #[.slice (some ⟨g, i * 8, none⟩) (L.length + 1 - i) dc, .slice (some ⟨vb, 0, none⟩) 1 1]).run Tryz.prog W1 = .ok (goInt 1) (W1.setCells g (i * 8) (accCells x)) := fun ty dc =>
    run_copy8 W1 ty g (i * 8) (L.length + 1 - i) dc ⟨vb, 0, none⟩ 1 1 1 (accCells x) (by simp only [Nat.min_def]; split <;> omega) rfl hv1.cell
      (fun j hj => by have h8 : j < 8 := hj; rw [World.ownsRow.cellAt O1 _ (by omega), List.getElem?_eq_getElem (by rw [O1.1]; omega)]; rfl) (fun j _ => World.ownsRow.frozenAt O1 _) (acc_one x)
  have Z : Hid (AL (W1.setCells g (i * 8) (accCells x)) B (.slice (some ⟨g, 0, none⟩) (L.length + 1) c) (L.take i ++ x :: L.drop i) ∧ Below B w (W1.setCells g (i * 8) (accCells x))) := by
    refine ⟨?_, below_setCells hBg _ _ _ B1⟩
    have o2 := owns_setCells (accCells x) (i * 8) _ _ O1
    rw [hcsd, ins_math L i x ys hy hi] at o2
    have hlen : (L.take i ++ x :: L.drop i).length = L.length + 1 := by simp; omega
    unfold AL
    rw [hlen]
    exact o2
  have hz2 : ((i : Int) == (L.length : Int)) = false := by simp; omega
  have hw1 : IntKind.i64.wrap ((i : Int) + 1) = (i : Int) + 1 := by rw [IntKind.wrap_i64]; omega
  have hw2 : IntKind.i64.wrap ((L.length : Int) + 1) = (L.length : Int) + 1 := by rw [IntKind.wrap_i64]; omega
  have hb1 : (0 : Int) ≤ (i : Int) + 1 := by omega
  have hb0 : (0 : Int) ≤ (L.length : Int) + 1 := by omega
  have hb5 : (L.length : Int) + 1 ≤ (c : Int) := by omega
  have hin : i ≤ L.length := by omega
  have htn : ((i : Int) + 1).toNat = i + 1 := by omega
  have htl : ((L.length : Int) + 1).toNat = L.length + 1 := by omega
  have hb2 : ¬ (c = i + 1) := by omega
  have hb3 : (i : Int) ≤ (L.length : Int) + 1 := by omega
  have hb6 : (i : Int) + 1 ≤ (L.length : Int) + 1 := by omega
  have hb4 : ¬ (c = i) := by omega
  clear h hcur hcs O0 O0d fl hdl hcsd hW1 O1 hv1 B1 hv hy
  go_enter Tryz.func84, Tryz.ntmps84
  go_wp2_with (simp only [hov])
  go_region_law (refine step_copy_runI rfl _ _ 24 24 rfl (.slice (some ⟨g, (i + 1) * 8, none⟩) (L.length - i) (c - (i + 1))) (.slice (some ⟨g, i * 8, none⟩) (L.length + 1 - i) (c - i)) (by simp [Act.eval, Act.put]) (by simp [Act.eval, Act.put]) (hcp1 3 (c - (i + 1)) (c - i)) ?_)
  go_wp2_with (at_builtin; refine wpList_copy_runI _ rfl _ _ 24 24 rfl _ _ rfl rfl (hcp2 _ _) ?_)
  go_ret
  exact ⟨rfl, Z.out.1, Z.out.2⟩
end Go.Proofs.YthkgppfgidlicaaGreatDoor

/- slices.Insert of one account behind all others, in the program. Conditions: at most 1048576 accounts. -/
namespace Go.Proofs.YthkgppfgidlicaaGreatDoor
open Go.RowKit

set_option maxRecDepth 100000 in
set_option maxHeartbeats 4000000 in
theorem insEnd (B g c : Nat) (L : List Acc) (x : Acc) (vb : Nat) (w : World) (h : AL w B (.slice (some ⟨g, 0, none⟩) L.length c) L) (hB : B ≤ w.heap.size) (hl : L.length ≤ 1048576) (hv : One w vb x) :
    Calls Tryz.prog 84 #[.slice (some ⟨g, 0, none⟩) L.length c, .int .i64 L.length, .slice (some ⟨vb, 0, none⟩) 1 1] w fun e w' => ∃ v, e = .returned v ∧ AL w' B v (L ++ [x]) ∧ Below B w w' := by
  obtain ⟨i0, hi, hz0, hz1, hz2⟩ := info_parts info38
  obtain ⟨hc1, hc2⟩ := h.cap
  unfold maxLen at hc2
  have H : Hid (AL w B (.slice (some ⟨g, 0, none⟩) L.length c) L) := h
  have HV : Hid (One w vb x) := hv
  have hBg := h.block.1
  obtain ⟨A, hA⟩ : ∃ A : Addr, (if c = L.length then some (⟨g, 0, none⟩ : Addr) else some ⟨g, L.length * 8, none⟩) = some A := by
    by_cases e : c = L.length
    · exact ⟨_, by rw [if_pos e]⟩
    · exact ⟨_, by rw [if_neg e]⟩
  clear h hv
  go_enter Tryz.func84, Tryz.ntmps84
  go_wp2_with (at_builtin; refine wpList_append_own _ rfl _ _ 24 rfl B 38 i0 _ 8 64 Tryz.underlying24 hi hz0 hz1 hz2 rfl (by decide) _ _ _ rfl H.out ⟨vb, 0, none⟩ 1 1 (accCells x) rfl rfl HV.out.cell (acc_one x) ?_ ?_ hB ?_)
  · unfold maxLen; omega
  · omega
  · intro v' w2 hown hgrow hnn
    have A2 : Hid (AL w2 B v' (L ++ [x])) := by
      show AL w2 B v' (L ++ [x])
      unfold AL
      simpa using hown
    have B2 : Hid (Below B w w2) := (Below.refl _ _).grown hgrow hB (fun q hq => by simp [Value.ownBlock] at hq; omega)
    clear hown hgrow hnn
    obtain ⟨a2, c2, hv2⟩ := A2.out.len
    obtain ⟨n', hn'⟩ : ∃ n', n' = (L ++ [x]).length := ⟨_, rfl⟩
    rw [← hn'] at hv2
    subst hv2
    clear hn'
    go_wp2
    go_ret
    exact ⟨_, rfl, A2.out, B2.out⟩

set_option maxRecDepth 100000 in
set_option maxHeartbeats 4000000 in
theorem insNil (B : Nat) (x : Acc) (vb : Nat) (w : World) (hB : B ≤ w.heap.size) (hv : One w vb x) :
    Calls Tryz.prog 84 #[.slice none 0 0, .int .i64 0, .slice (some ⟨vb, 0, none⟩) 1 1] w fun e w' => ∃ v, e = .returned v ∧ AL w' B v [x] ∧ Below B w w' := by
  obtain ⟨i0, hi, hz0, hz1, hz2⟩ := info_parts info38
  have H : Hid (AL w B (.slice none 0 0) []) := World.ownsRow_nil _ _ _ _
  have HV : Hid (One w vb x) := hv
  clear hv
  go_enter Tryz.func84, Tryz.ntmps84
  go_wp2_with (at_builtin; refine wpList_append_own _ rfl _ _ 24 rfl B 38 i0 _ 8 64 Tryz.underlying24 hi hz0 hz1 hz2 rfl (by decide) _ _ _ rfl H.out ⟨vb, 0, none⟩ 1 1 (accCells x) rfl rfl HV.out.cell (acc_one x) ?_ ?_ hB ?_)
  · unfold maxLen; simp
  · simp
  · intro v' w2 hown hgrow hnn
    have A2 : Hid (AL w2 B v' [x]) := by
      show AL w2 B v' [x]
      unfold AL
      simpa using hown
    have B2 : Hid (Below B w w2) := (Below.refl _ _).grown hgrow hB (fun q hq => by simp [Value.ownBlock] at hq)
    clear hown hgrow hnn
    obtain ⟨a2, c2, hv2⟩ := A2.out.len
    obtain ⟨n', hn'⟩ : ∃ n', n' = [x].length := ⟨_, rfl⟩
    rw [← hn'] at hv2
    subst hv2
    clear hn'
    go_wp2
    go_ret
    exact ⟨_, rfl, A2.out, B2.out⟩
end Go.Proofs.YthkgppfgidlicaaGreatDoor

/- slices.Insert of one account where there is no room behind the accounts, in the program: a new row. Conditions: the place is ahead of the end; at most 1048576 accounts. -/
namespace Go.Proofs.YthkgppfgidlicaaGreatDoor
open Go.RowKit

theorem zc8 (k : Nat) : (Builtin.zeroCells (Value.agg #[.int .i64 0, .int .i64 0, .int .i64 0, .int .i64 0, .int .i64 0, .bool false, .int .i64 0, .int .i64 0]).cells k).size = k * 8 := by
  simp [Builtin.zeroCells, Value.cells]

set_option maxRecDepth 100000 in
set_option maxHeartbeats 4000000 in
theorem insGrow (B g c : Nat) (L : List Acc) (i : Nat) (x : Acc) (vb : Nat) (w : World) (h : AL w B (.slice (some ⟨g, 0, none⟩) L.length c) L) (hB : B ≤ w.heap.size) (hi : i < L.length) (hr : c < L.length + 1) (hl : L.length ≤ 1048576) (hv : One w vb x) (hvw : vb < w.heap.size) :
    Calls Tryz.prog 84 #[.slice (some ⟨g, 0, none⟩) L.length c, .int .i64 i, .slice (some ⟨vb, 0, none⟩) 1 1] w fun e w' => ∃ v, e = .returned v ∧ AL w' B v (L.take i ++ x :: L.drop i) ∧ Below B w w' := by
  obtain ⟨i0, hi0, hz0, hzs, hzb⟩ := info_parts info38
  obtain ⟨hc1, hc2⟩ := h.cap
  unfold maxLen at hc2
  obtain ⟨hBg, hgw⟩ := h.block
  have hkk : (L.length : Int) + 1 - (i : Int) = ((L.length + 1 - i : Nat) : Int) := by omega
  have hik : i + (L.length + 1 - i) = L.length + 1 := by omega
  have htl : ((L.take i).flatMap accCells).length = i * 8 := by rw [flat_len]; simp; omega
  have fl : (L.flatMap accCells).length = L.length * 8 := flat_len L
  have hold : (Builtin.firstCells i0.size i (.slice (some ⟨g, 0, none⟩) i c)).run Tryz.prog w.drew = .ok ((L.take i).flatMap accCells).toArray w.drew := by
    rw [hzs]
    exact run_firstCells_some w.drew 8 i ⟨g, 0, none⟩ i c ((L.take i).flatMap accCells) htl (fun j v hj => by
      rw [Addr.add_lit, Nat.zero_add]
      have hjl : j < i * 8 := by
        have := (List.getElem?_eq_some_iff.1 hj).1
        rwa [htl] at this
      show w.cell? ⟨g, j, none⟩ = some v
      rw [World.ownsRow.cellAt h j (by omega), ← hj, ← flat_take L i (by omega), List.getElem?_take]
      simp [hjl])
  have hrz : ∀ ty, (Builtin.append_ #[24, 3] ty #[.slice (some ⟨g, 0, none⟩) i c, .int .i64 ((L.length : Int) + 1 - (i : Int))]).run Tryz.prog w =
      .ok (.slice (some ⟨w.heap.size, 0, none⟩) (L.length + 1) (grownCap w (L.length + 1) c 38)) (w.drew.alloc (.cells (((L.take i).flatMap accCells).toArray ++ Builtin.zeroCells (Value.agg #[.int .i64 0, .int .i64 0, .int .i64 0, .int .i64 0, .int .i64 0, .bool false, .int .i64 0, .int .i64 0]).cells (L.length + 1 - i) ++ Builtin.zeroCells (Value.agg #[.int .i64 0, .int .i64 0, .int .i64 0, .int .i64 0, .int .i64 0, .bool false, .int .i64 0, .int .i64 0]).cells (grownCap w (L.length + 1) c 38 - (L.length + 1))) 38)) := fun ty => by
    have h := Lib.run_append_grow_zeros w 24 3 ty 38 i0 _ .i64 .i64 Tryz.underlying24 Tryz.underlying3 hi0 hz0 (some ⟨g, 0, none⟩) i c ((L.take i).flatMap accCells) hold (L.length + 1 - i) (by omega) (by omega) (by omega) (by omega) (by rw [hzb]; omega) (by rw [hzb, hik]; exact growslice_fits hr (by omega))
    rw [hik] at h
    rw [hkk]
    exact h
  obtain ⟨G, hG⟩ : ∃ G, G = grownCap w (L.length + 1) c 38 := ⟨_, rfl⟩
  obtain ⟨ROW, hROW⟩ : ∃ ROW : Array Value, ROW = ((L.take i).flatMap accCells).toArray ++ Builtin.zeroCells (Value.agg #[.int .i64 0, .int .i64 0, .int .i64 0, .int .i64 0, .int .i64 0, .bool false, .int .i64 0, .int .i64 0]).cells (L.length + 1 - i) ++ Builtin.zeroCells (Value.agg #[.int .i64 0, .int .i64 0, .int .i64 0, .int .i64 0, .int .i64 0, .bool false, .int .i64 0, .int .i64 0]).cells (G - (L.length + 1)) := ⟨_, rfl⟩
  rw [← hG] at hrz
  rw [← hROW] at hrz
  have hGn : L.length + 1 ≤ G := by rw [hG]; exact grownCap_ge w _ _ _
  have hG63 : G ≤ maxLen := by
    rw [hG]
    exact grownCap_le_maxLen w (L.length + 1) c 38 (by unfold maxLen; omega)
  have hRs : ROW.size = G * 8 := by
    rw [hROW]
    simp only [Array.size_append, zc8, List.size_toArray, htl]
    omega
  obtain ⟨W1, hW1⟩ : ∃ W1, W1 = w.drew.alloc (.cells ROW 38) := ⟨_, rfl⟩
  rw [← hW1] at hrz
  obtain ⟨zs, hzl, hzs'⟩ : ∃ zs : List Value, zs.length = (L.length + 1 - i) * 8 ∧ ROW.toList.take ((L.length + 1) * 8) = (L.take i).flatMap accCells ++ zs := by
    refine ⟨(Builtin.zeroCells (Value.agg #[.int .i64 0, .int .i64 0, .int .i64 0, .int .i64 0, .int .i64 0, .bool false, .int .i64 0, .int .i64 0]).cells (L.length + 1 - i)).toList, by rw [Array.length_toList, zc8], ?_⟩
    have e2 : (((L.take i).flatMap accCells) ++ (Builtin.zeroCells (Value.agg #[.int .i64 0, .int .i64 0, .int .i64 0, .int .i64 0, .int .i64 0, .bool false, .int .i64 0, .int .i64 0]).cells (L.length + 1 - i)).toList).length = (L.length + 1) * 8 := by
      rw [List.length_append, htl, Array.length_toList, zc8]; omega
    rw [hROW, Array.toList_append, Array.toList_append, List.toList_toArray, List.take_append_of_le_length (by omega), List.take_of_length_le (by omega)]
  have O1 : W1.ownsRow B 38 8 (.slice (some ⟨w.heap.size, 0, none⟩) (L.length + 1) G) (L.length + 1) ((L.take i).flatMap accCells ++ zs) := by
    refine ⟨by rw [List.length_append, htl, hzl]; omega, .inr ⟨w.heap.size, G, ROW, rfl, hB, ?_, hGn, hG63, hRs, hzs'⟩⟩
    rw [hW1]
    show (w.heap.push _)[w.heap.size]? = _
    simp
  have B1 : Below w.heap.size w W1 := by
    rw [hW1]
    exact (show Below w.heap.size w w.drew from ⟨rfl, rfl, rfl, Nat.le_refl _, fun _ _ => rfl⟩).alloc (Nat.le_refl _) _
  have hv1 : One W1 vb x := by unfold One at hv ⊢; rw [B1.block vb hvw]; exact hv
  have hcpA : ∀ ty dc, (Builtin.copy_ #[24, 24] ty #[.slice (some ⟨w.heap.size, i * 8, none⟩) (L.length + 1 - i) dc, .slice (some ⟨vb, 0, none⟩) 1 1]).run Tryz.prog W1 = .ok (goInt 1) (W1.setCells w.heap.size (i * 8) (accCells x)) := fun ty dc =>
    run_copy8 W1 ty w.heap.size (i * 8) (L.length + 1 - i) dc ⟨vb, 0, none⟩ 1 1 1 (accCells x) (by simp only [Nat.min_def]; split <;> omega) rfl hv1.cell
      (fun j hj => by have h8 : j < 8 := hj; rw [World.ownsRow.cellAt O1 _ (by omega), List.getElem?_eq_getElem (by rw [O1.1]; omega)]; rfl) (fun j _ => World.ownsRow.frozenAt O1 _) (acc_one x)
  obtain ⟨W2, hW2⟩ : ∃ W2, W2 = W1.setCells w.heap.size (i * 8) (accCells x) := ⟨_, rfl⟩
  rw [← hW2] at hcpA
  have O2 : W2.ownsRow B 38 8 (.slice (some ⟨w.heap.size, 0, none⟩) (L.length + 1) G) (L.length + 1) (setL ((L.take i).flatMap accCells ++ zs) (i * 8) (accCells x)) := by rw [hW2]; exact owns_setCells _ _ _ _ O1
  have O2d : W2.drew.ownsRow B 38 8 (.slice (some ⟨w.heap.size, 0, none⟩) (L.length + 1) G) (L.length + 1) (setL ((L.take i).flatMap accCells ++ zs) (i * 8) (accCells x)) := O2
  have B2 : Below w.heap.size w W2.drew := by
    have : Below w.heap.size w W2 := by rw [hW2]; exact below_setCells (Nat.le_refl _) _ _ _ B1
    exact this.trans ⟨rfl, rfl, rfl, Nat.le_refl _, fun _ _ => rfl⟩
  obtain ⟨cs, hcsd⟩ : ∃ cs, cs = (L.drop i).flatMap accCells := ⟨_, rfl⟩
  have hdl : cs.length = (L.length - i) * 8 := by rw [hcsd, flat_len]; simp
  have hcpB : ∀ ty dc sc, (Builtin.copy_ #[24, 24] ty #[.slice (some ⟨w.heap.size, (i + 1) * 8, none⟩) (L.length - i) dc, .slice (some ⟨g, i * 8, none⟩) (L.length - i) sc]).run Tryz.prog W2.drew = .ok (goInt ((L.length - i : Nat) : Int)) (W2.drew.setCells w.heap.size ((i + 1) * 8) cs) := fun ty dc sc =>
    run_copy8 W2.drew ty w.heap.size ((i + 1) * 8) (L.length - i) dc ⟨g, i * 8, none⟩ (L.length - i) sc (L.length - i) cs (by simp only [Nat.min_def]; split <;> omega) hdl
      (fun j v hj => by
        rw [hcsd] at hj
        have := h.news i j v hj
        rw [Addr.add_lit] at this ⊢
        rw [B2.cell (p := ⟨g, i * 8 + j, none⟩) hgw]
        exact this)
      (fun j hj => by rw [World.ownsRow.cellAt O2d _ (by omega), List.getElem?_eq_getElem (by rw [O2d.1]; omega)]; rfl) (fun j _ => World.ownsRow.frozenAt O2d _) (by rw [hcsd]; exact flat_one _)
  have Z : Hid (AL (W2.drew.setCells w.heap.size ((i + 1) * 8) cs) B (.slice (some ⟨w.heap.size, 0, none⟩) (L.length + 1) G) (L.take i ++ x :: L.drop i) ∧ Below B w (W2.drew.setCells w.heap.size ((i + 1) * 8) cs)) := by
    refine ⟨?_, (below_setCells (Nat.le_refl _) _ _ _ B2).mono hB⟩
    have o3 := owns_setCells cs ((i + 1) * 8) _ _ O2d
    have h8 : (accCells x).length = 8 := rfl
    have hx1 : ((L.take i).flatMap accCells ++ zs).length = (L.length + 1) * 8 := by rw [List.length_append, htl, hzl]; omega
    have e1 : setL ((L.take i).flatMap accCells ++ zs) (i * 8) (accCells x) = (L.take i).flatMap accCells ++ accCells x ++ ((L.take i).flatMap accCells ++ zs).drop ((i + 1) * 8) := by
      rw [setL_eq _ _ _ (by omega), List.take_append_of_le_length (by omega), List.take_of_length_le (by omega), h8, show i * 8 + 8 = (i + 1) * 8 by omega]
    have hx2 : (setL ((L.take i).flatMap accCells ++ zs) (i * 8) (accCells x)).length = (L.length + 1) * 8 := O2.1
    have hx3 : ((L.take i).flatMap accCells ++ accCells x).length = (i + 1) * 8 := by rw [List.length_append, htl, h8]; omega
    have ez : (setL ((L.take i).flatMap accCells ++ zs) (i * 8) (accCells x)).drop ((i + 1) * 8 + (L.length - i) * 8) = [] := List.drop_eq_nil_of_le (by omega)
    have e2 : setL (setL ((L.take i).flatMap accCells ++ zs) (i * 8) (accCells x)) ((i + 1) * 8) cs = (L.take i).flatMap accCells ++ accCells x ++ cs := by
      rw [setL_eq _ _ _ (by omega), hdl, ez, List.append_nil, e1, List.take_append_of_le_length (by omega), List.take_of_length_le (by omega)]
    rw [e2] at o3
    have hlen : (L.take i ++ x :: L.drop i).length = L.length + 1 := by simp; omega
    unfold AL
    rw [hlen, List.flatMap_append, List.flatMap_cons, ← List.append_assoc, ← hcsd]
    exact o3
  have hz2 : ((i : Int) == (L.length : Int)) = false := by simp; omega
  have hz3 : (c : Int) < (L.length : Int) + 1 := by omega
  have hz4 : decide ((c : Int) < (L.length : Int) + 1) = true := by simp; omega
  have hw1 : IntKind.i64.wrap ((i : Int) + 1) = (i : Int) + 1 := by rw [IntKind.wrap_i64]; omega
  have hw2 : IntKind.i64.wrap ((L.length : Int) + 1) = (L.length : Int) + 1 := by rw [IntKind.wrap_i64]; omega
  have hw3 : IntKind.i64.wrap ((L.length : Int) + 1 - (i : Int)) = (L.length : Int) + 1 - (i : Int) := by rw [IntKind.wrap_i64]; omega
  have hb1 : (0 : Int) ≤ (i : Int) + 1 := by omega
  have hin : i ≤ L.length := by omega
  have hic : i ≤ c := by omega
  have htn : ((i : Int) + 1).toNat = i + 1 := by omega
  have hGi : ¬ (G = i) := by omega
  have hGim : ¬ (G = i + 1) := by omega
  have hb3 : (i : Int) ≤ (L.length : Int) + 1 := by omega
  have hb6 : (i : Int) + 1 ≤ (L.length : Int) + 1 := by omega
  have hb4 : ¬ (c = i) := by omega
  unfold maxLen at hG63
  clear h hkk hik htl fl hold hROW hG hRs hzs' hzl O1 B1 hv1 hv hW1 hW2 O2 O2d B2 hcsd hdl
  go_enter Tryz.func84, Tryz.ntmps84
  go_wp2_with (first
    | (at_builtin; refine Lib.wpList_append_run _ rfl _ _ _ _ rfl _ _ rfl rfl _ _ (hrz _) ?_)
    | (at_builtin; refine wpList_copy_runI _ rfl _ _ 24 24 rfl _ _ rfl rfl (hcpA _ _) ?_))
  go_region_law (refine step_copy_runI rfl _ _ 24 24 rfl (.slice (some ⟨w.heap.size, (i + 1) * 8, none⟩) (L.length - i) (G - (i + 1))) (.slice (some ⟨g, i * 8, none⟩) (L.length - i) (c - i)) (by simp [Act.eval, Act.put]) (by simp [Act.eval, Act.put]) (hcpB 3 (G - (i + 1)) (c - i)) ?_)
  go_wp2
  go_ret
  exact ⟨_, rfl, Z.out.1, Z.out.2⟩
end Go.Proofs.YthkgppfgidlicaaGreatDoor

/- slices.Insert of one account, in the program: all ways. Conditions: at most 1048576 accounts. -/
namespace Go.Proofs.YthkgppfgidlicaaGreatDoor
open Go.RowKit

theorem implInsert (B : Nat) (v : Value) (L : List Acc) (k : Nat) (x : Acc) (vb : Nat) (w : World) (h : AL w B v L) (hB : B ≤ w.heap.size) (hk : k ≤ L.length) (hl : L.length ≤ 1048576) (hv : One w vb x) (hvw : vb < w.heap.size) (hne : v.ownBlock ≠ some vb) :
    Calls Tryz.prog 84 #[v, .int .i64 k, .slice (some ⟨vb, 0, none⟩) 1 1] w fun e w' => ∃ v', e = .returned v' ∧ AL w' B v' (L.take k ++ x :: L.drop k) ∧ Below B w w' := by
  by_cases hn : v = .slice none 0 0
  · subst hn
    obtain ⟨a, c, e⟩ := h.len
    have h0 : L.length = 0 := by simp at e; omega
    have hL : L = [] := List.length_eq_zero_iff.1 h0
    subst hL
    have hk0 : k = 0 := by simpa using hk
    subst hk0
    simpa using insNil B x vb w hB hv
  · obtain ⟨g, c, e⟩ := h.own hn
    subst e
    by_cases hkn : k = L.length
    · subst hkn
      have := insEnd B g c L x vb w h hB hl hv
      simpa using this
    · have hlt : k < L.length := by omega
      by_cases hr : L.length + 1 ≤ c
      · exact (insShift B g c L k x vb w h hlt hr hl hv (fun e => hne (by simp [Value.ownBlock, e]))).mono fun e w' ⟨h1, h2, h3⟩ => ⟨_, h1, h2, h3⟩
      · exact insGrow B g c L k x vb w h hB hlt (by omega) hl hv hvw
end Go.Proofs.YthkgppfgidlicaaGreatDoor
