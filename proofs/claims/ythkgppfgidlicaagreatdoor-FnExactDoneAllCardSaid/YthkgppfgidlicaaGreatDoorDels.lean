/- slices.Delete of one account, in the program: in place, in memory of the caller's own. Conditions: the place is there; at most 1048576 accounts. -/
import Derived.Test.YthkgppfgidlicaaGreatDoorChg
import Derived.Deep.RegionLaw
namespace Go.Proofs.YthkgppfgidlicaaGreatDoor
open Go.RowKit

/-- A list, written over from a place on. -/
def setL : List Value → Nat → List Value → List Value
  | xs, _, [] => xs
  | xs, o, v :: r => setL (xs.set o v) (o + 1) r
theorem setL_eq : ∀ (vs xs : List Value) (o : Nat), o + vs.length ≤ xs.length → setL xs o vs = xs.take o ++ vs ++ xs.drop (o + vs.length)
  | [], xs, o, _ => by simp [setL]
  | v :: r, xs, o, h => by
    simp only [List.length_cons] at h
    rw [setL, setL_eq r (xs.set o v) (o + 1) (by simp; omega)]
    rw [List.take_add_one, List.getElem?_set_self (by omega), List.take_set_of_le (by omega), List.drop_set_of_lt (by omega)]
    simp only [List.length_cons, Option.toList_some, List.append_assoc, List.nil_append, List.cons_append]
    rw [show o + (r.length + 1) = o + 1 + r.length by omega]
theorem owns_setCells {base e size n cap g : Nat} : ∀ (vs : List Value) (o : Nat) (w : World) (xs : List Value), w.ownsRow base e size (.slice (some ⟨g, 0, none⟩) n cap) n xs → (w.setCells g o vs).ownsRow base e size (.slice (some ⟨g, 0, none⟩) n cap) n (setL xs o vs)
  | [], _, _, _, h => h
  | v :: r, o, _, _, h => owns_setCells r (o + 1) _ _ (World.ownsRow.stored h o v).1
theorem below_setCells {B g : Nat} (hg : B ≤ g) {w0 : World} : ∀ (vs : List Value) (o : Nat) (w : World), Below B w0 w → Below B w0 (w.setCells g o vs)
  | [], _, _, h => h
  | v :: r, o, _, h => below_setCells hg r (o + 1) _ (below_set h hg o v)
theorem owns_cut {w : World} {base e size n m cap g : Nat} {xs : List Value} (h : w.ownsRow base e size (.slice (some ⟨g, 0, none⟩) n cap) n xs) (hm : m ≤ n) : w.ownsRow base e size (.slice (some ⟨g, 0, none⟩) m cap) m (xs.take (m * size)) := by
  have hms : m * size ≤ n * size := Nat.mul_le_mul_right _ hm
  rcases h.2 with ⟨h', _⟩ | ⟨g', cap', cur, h', hb, hg, hnc, hcm, hcs, htake⟩
  · simp at h'
  · simp only [Value.slice.injEq, Option.some.injEq, Addr.mk.injEq, and_true, true_and] at h'
    obtain ⟨rfl, rfl⟩ := h'
    refine ⟨by rw [List.length_take, h.1]; omega, .inr ⟨g, cap, cur, rfl, hb, hg, by omega, hcm, hcs, ?_⟩⟩
    rw [← htake, List.take_take]
    congr 1
    omega
theorem flat_take (L : List Acc) (p : Nat) (hp : p ≤ L.length) : (L.flatMap accCells).take (p * 8) = (L.take p).flatMap accCells := by
  have e : L.flatMap accCells = (L.take p).flatMap accCells ++ (L.drop p).flatMap accCells := by rw [← List.flatMap_append, List.take_append_drop]
  have hl : ((L.take p).flatMap accCells).length = p * 8 := by rw [flat_len]; simp; omega
  rw [e, List.take_append_of_le_length (by omega), List.take_of_length_le (by omega)]

/-- The cells of no account. -/
def zero8 : List Value := [.int .i64 0, .int .i64 0, .int .i64 0, .int .i64 0, .int .i64 0, .bool false, .int .i64 0, .int .i64 0]
theorem zeroCells8 : (Builtin.zeroCells (Value.agg #[.int .i64 0, .int .i64 0, .int .i64 0, .int .i64 0, .int .i64 0, .bool false, .int .i64 0, .int .i64 0]).cells 1).toList = zero8 := by kernel_rfl
theorem run_clear1 (w : World) (ty : TypeId) (b o c : Nat) (hc : ∀ j, j < 8 → (w.cell? ⟨b, o + j, none⟩).isSome = true) (hf : ∀ j, j < 8 → w.frozen? ⟨b, o + j, none⟩ = false) :
    (Builtin.clear_ #[24] ty #[.slice (some ⟨b, o, none⟩) 1 c]).run Tryz.prog w = .ok (.tuple #[]) (w.setCells b o zero8) := by
  have hst := run_storeCells_cells (P := Tryz.prog) b o zero8 0 w (by simpa [zero8] using hc) (by simpa [zero8] using hf) (by intro v hv; simp only [zero8, List.mem_cons, List.not_mem_nil, or_false] at hv; rcases hv with e | e | e | e | e | e | e | e <;> subst e <;> rfl)
  simp only [Nat.add_zero] at hst
  simp [Builtin.clear_, run_underlying Tryz.underlying24, zeroCells8, hst]
end Go.Proofs.YthkgppfgidlicaaGreatDoor

/- slices.Delete of one account, in the program: the walk. Conditions: the place is there; at most 1048576 accounts. -/
namespace Go.Proofs.YthkgppfgidlicaaGreatDoor
open Go.RowKit

theorem del_math (L : List Acc) (p : Nat) (hp : p < L.length) :
    (setL (setL (L.flatMap accCells) (p * 8) ((L.drop (p + 1)).flatMap accCells)) ((L.length - 1) * 8) zero8).take ((L.length - 1) * 8) = (L.take p ++ L.drop (p + 1)).flatMap accCells := by
  have hl : (L.flatMap accCells).length = L.length * 8 := flat_len L
  have hd : ((L.drop (p + 1)).flatMap accCells).length = (L.length - (p + 1)) * 8 := by rw [flat_len]; simp
  have ht : ((L.take p).flatMap accCells).length = p * 8 := by rw [flat_len]; simp; omega
  have h8 : zero8.length = 8 := rfl
  have h1 : (setL (L.flatMap accCells) (p * 8) ((L.drop (p + 1)).flatMap accCells)) = (L.take p).flatMap accCells ++ (L.drop (p + 1)).flatMap accCells ++ (L.flatMap accCells).drop (p * 8 + (L.length - (p + 1)) * 8) := by
    rw [setL_eq _ _ _ (by omega), flat_take L p (by omega), hd]
  have h2 : ((L.take p).flatMap accCells ++ (L.drop (p + 1)).flatMap accCells).length = (L.length - 1) * 8 := by rw [List.length_append]; omega
  have h3 : (setL (L.flatMap accCells) (p * 8) ((L.drop (p + 1)).flatMap accCells)).length = L.length * 8 := by
    rw [h1, List.length_append, h2, List.length_drop]; omega
  rw [setL_eq _ _ _ (by omega), List.append_assoc, List.take_append_of_le_length (by simp; omega), List.take_take, Nat.min_self, h1, List.take_append_of_le_length (by omega), List.take_of_length_le (by omega), List.flatMap_append]

set_option maxRecDepth 8000 in
set_option maxHeartbeats 2000000 in
theorem implDelete (B g c : Nat) (L : List Acc) (p : Nat) (w : World) (h : AL w B (.slice (some ⟨g, 0, none⟩) L.length c) L) (hp : p < L.length) (hl : L.length ≤ 1048576) :
    Calls Tryz.prog 85 #[.slice (some ⟨g, 0, none⟩) L.length c, .int .i64 p, .int .i64 ((p : Int) + 1)] w fun e w' => ∃ v, e = .returned v ∧ AL w' B v (L.take p ++ L.drop (p + 1)) ∧ Below B w w' := by
  obtain ⟨i0, hi, hz0, hz1, hz2⟩ := info_parts info38
  obtain ⟨hc1, hc2⟩ := h.cap
  unfold maxLen at hc2
  have hBg := h.block.1
  obtain ⟨news, hnews⟩ : ∃ news, news = (L.drop (p + 1)).flatMap accCells := ⟨_, rfl⟩
  have hnl : news.length = (L.length - (p + 1)) * 8 := by rw [hnews, flat_len]; simp
  have O0 : w.drew.ownsRow B 38 8 (.slice (some ⟨g, 0, none⟩) L.length c) L.length (L.flatMap accCells) := h
  have fl : (L.flatMap accCells).length = L.length * 8 := flat_len L
  obtain ⟨A, hA, hsrc⟩ : ∃ A : Addr, (if c = p + 1 then some (⟨g, 0, none⟩ : Addr) else some ⟨g, (p + 1) * 8, none⟩) = some A ∧ Hid (∀ t u, news[t]? = some u → w.drew.cell? (A.add t) = some u) := by
    by_cases e : c = p + 1
    · refine ⟨⟨g, 0, none⟩, by simp [e], fun t u hu => ?_⟩
      have h0 : news.length = 0 := by rw [hnl]; omega
      rw [List.length_eq_zero_iff.1 h0] at hu
      simp at hu
    · refine ⟨⟨g, (p + 1) * 8, none⟩, by simp [e], fun t u hu => ?_⟩
      rw [hnews] at hu
      exact h.news (p + 1) t u hu
  have s1 : Hid (news.length = (L.length - (p + 1)) * 8) := hnl
  have s2 : Hid (∀ u ∈ news, u.oneCell' = true) := (by rw [hnews]; exact flat_one _ : ∀ u ∈ news, u.oneCell' = true)
  have s3 : Hid (∀ t, t < news.length → (w.drew.cell? ⟨g, 0 + p * 8 + t, none⟩).isSome = true ∧ w.drew.frozen? ⟨g, 0 + p * 8 + t, none⟩ = false) := by
    intro t ht
    rw [hnl] at ht
    refine ⟨?_, h.frozen _⟩
    rw [World.ownsRow.cellAt O0 _ (by omega), List.getElem?_eq_getElem (by omega)]
    rfl
  obtain ⟨W1, hW1⟩ : ∃ W1, W1 = w.drew.setCells g (0 + p * 8) news := ⟨_, rfl⟩
  have O1 : W1.ownsRow B 38 8 (.slice (some ⟨g, 0, none⟩) L.length c) L.length (setL (L.flatMap accCells) (p * 8) news) := by
    have := owns_setCells news (0 + p * 8) _ _ O0
    rw [← hW1, Nat.zero_add] at this
    exact this
  have B1 : Below B w W1 := by rw [hW1]; exact below_setCells hBg news _ _ ⟨rfl, rfl, rfl, Nat.le_refl _, fun _ _ => rfl⟩
  have hcl : ∀ ty, (Builtin.clear_ #[24] ty #[.slice (some ⟨g, (L.length - 1) * 8, none⟩) (L.length - (L.length - 1)) (c - (L.length - 1))]).run Tryz.prog W1 = .ok (.tuple #[]) (W1.setCells g ((L.length - 1) * 8) zero8) := fun ty => by
    rw [show L.length - (L.length - 1) = 1 by omega]
    exact run_clear1 W1 ty g _ _ (fun j hj => by rw [World.ownsRow.cellAt O1 _ (by omega), List.getElem?_eq_getElem (by rw [O1.1]; omega)]; rfl) (fun j _ => World.ownsRow.frozenAt O1 _)
  have hW : Hid (W1 = w.drew.setCells g (0 + p * 8) news) := hW1
  have Z : Hid (AL (W1.setCells g ((L.length - 1) * 8) zero8) B (.slice (some ⟨g, 0, none⟩) (L.length - 1) c) (L.take p ++ L.drop (p + 1)) ∧ Below B w (W1.setCells g ((L.length - 1) * 8) zero8)) := by
    refine ⟨?_, below_setCells hBg _ _ _ B1⟩
    have o2 := owns_cut (owns_setCells zero8 ((L.length - 1) * 8) _ _ O1) (show L.length - 1 ≤ L.length by omega)
    rw [hnews, del_math L p hp] at o2
    have hlen : (L.take p ++ L.drop (p + 1)).length = L.length - 1 := by simp; omega
    unfold AL
    rw [hlen]
    exact o2
  have b0 : (0 : Int) ≤ (p : Int) := by omega
  have b1 : (p : Int) ≤ (c : Int) := by omega
  have b2 : (p : Int) + 1 ≤ (c : Int) := by omega
  have b3 : (0 : Int) ≤ (p : Int) + 1 := by omega
  have b4 : (p : Int) + 1 ≤ (L.length : Int) := by omega
  have b5 : (p : Int) ≤ (p : Int) + 1 := by omega
  have b6 : ((p : Int) + 1).toNat = p + 1 := by omega
  have b7 : ((p : Int) == (p : Int) + 1) = false := by simp; omega
  have b8 : (L.length : Int) ≤ (c : Int) := by omega
  have b9 : p + (L.length - (p + 1)) = L.length - 1 := by omega
  clear h hnews hnl O0 O1 B1 hW1
  go_enter Tryz.func85, Tryz.ntmps85
  go_wp2_with fail
  go_region_law (refine step_append_room rfl (.tmp 22) (.tmp 25) 24 rfl 38 i0 8 Tryz.underlying24 hi hz1 g 0 p c (by simp [Act.eval, Act.put]) A (L.length - (p + 1)) (c - (p + 1)) news (by simp [Act.eval, Act.put]) s1.out hsrc.out s2.out (by omega) s3.out ?_; rw [← hW.out, b9])
  go_wp2
  go_ret
  exact ⟨_, rfl, Z.out.1, Z.out.2⟩
end Go.Proofs.YthkgppfgidlicaaGreatDoor
