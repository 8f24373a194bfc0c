/- fits: whether there is room for a folder. Conditions: at most 1048576 files, of at most 2^40 bytes. -/
import Derived.Test.YtcalgmhpagpnnaaImA
import Derived.Test.YtcalgmhpagpnnaaFs
import Derived.Maps.RangeWalk
namespace Go.Proofs.Ytcalgmhpagpnnaa
open Go.RowKit Go.Maps
set_option maxRecDepth 8000

/-- The bytes of those that have come already. -/
def sumSel (T : List Ent) (left : Lit → Bool) : Nat := (T.map fun t => if left (.string t.name.data.toList) then 0 else t.data.size).sum
theorem sumSel_le (left : Lit → Bool) : ∀ T : List Ent, sumSel T left ≤ byt (T.map Ent.f)
  | [] => Nat.le_refl _
  | t :: r => by
    have ih := sumSel_le left r
    unfold sumSel byt at ih ⊢
    simp only [List.map_cons, List.sum_cons]
    split
    · omega
    · have : t.f.data.size = t.data.size := rfl
      omega
theorem sumSel_all {left : Lit → Bool} (h : ∀ kl, left kl = false) : ∀ T : List Ent, sumSel T left = byt (T.map Ent.f)
  | [] => rfl
  | t :: r => by
    have ih := sumSel_all h r
    unfold sumSel byt at ih ⊢
    rw [List.map_cons, List.map_cons, List.map_cons, List.sum_cons, List.sum_cons, ih, h]
    rfl
theorem sumSel_none {left : Lit → Bool} : ∀ {T : List Ent}, (∀ t ∈ T, left (.string t.name.data.toList) = true) → sumSel T left = 0
  | [], _ => rfl
  | t :: r, h => by
    have ih := sumSel_none (T := r) (fun s hs => h s (by simp [hs]))
    unfold sumSel at ih ⊢
    simp only [List.map_cons, List.sum_cons, ih, h t (by simp)]
    simp
theorem sumSel_congr {left left' : Lit → Bool} : ∀ {T : List Ent}, (∀ t ∈ T, left (.string t.name.data.toList) = left' (.string t.name.data.toList)) → sumSel T left = sumSel T left'
  | [], _ => rfl
  | t :: r, h => by
    have ih := sumSel_congr (T := r) (fun s hs => h s (by simp [hs]))
    unfold sumSel at ih ⊢
    simp only [List.map_cons, List.sum_cons, ih, h t (by simp)]
theorem sumSel_step {left : Lit → Bool} : ∀ {T : List Ent} {t : Ent}, Ris Ent.name T → t ∈ T → left (.string t.name.data.toList) = true →
    sumSel T (fun z => left z && !z.sameKey (.string t.name.data.toList)) = sumSel T left + t.data.size
  | [], t, _, h, _ => by cases h
  | y :: r, t, hR, h, hl => by
    unfold Ris at hR
    rw [List.pairwise_cons] at hR
    by_cases e : y.name = t.name
    · have hyt : y = t := by
        rcases List.mem_cons.1 h with e' | h'
        · exact e'.symm
        · exact absurd e (lt_ne (hR.1 t h'))
      subst hyt
      have hc : sumSel r (fun z => left z && !z.sameKey (.string y.name.data.toList)) = sumSel r left := sumSel_congr fun s hs => by
        have : decide (s.name = y.name) = false := decide_eq_false (fun k => lt_ne (hR.1 s hs) k.symm)
        simp only [same_name, this]
        simp
      have hs : (Lit.string y.name.data.toList).sameKey (.string y.name.data.toList) = true := by rw [same_name]; simp
      unfold sumSel at hc ⊢
      simp only [List.map_cons, List.sum_cons, hc, hl, hs]
      simp
      omega
    · have h' : t ∈ r := by
        rcases List.mem_cons.1 h with e' | h'
        · exact absurd (by rw [e']) e
        · exact h'
      have ih := sumSel_step hR.2 h' hl
      have : (Lit.string y.name.data.toList).sameKey (.string t.name.data.toList) = false := by rw [same_name]; exact decide_eq_false e
      unfold sumSel at ih ⊢
      simp only [List.map_cons, List.sum_cons, ih, this]
      simp
      omega

theorem key9_inv {key : Value} {kl : Lit} (h : keyOf Try.prog 9 key = some kl) : ∃ s : ByteArray, key = .string s := by
  cases key <;> simp [keyOf, Try.underlying9, mapKey] at h
  exact ⟨_, rfl⟩
theorem key9_at {s : ByteArray} {kl : Lit} (h : keyOf Try.prog 9 (.string s) = some kl) : kl = .string s.data.toList := by
  simp [keyOf, Try.underlying9, mapKey] at h
  exact h.2.symm

set_option maxHeartbeats 2000000 in
theorem implFits (B b : Nat) (T : List Ent) (w : World) (h : Fd w B b T) (hs : byt (T.map Ent.f) ≤ 1099511627776) :
    Calls Try.prog 53 #[.map (some b)] w fun e w' => e = .returned (.bool (fitsB (T.map Ent.f))) ∧ Below w.heap.size w w' := by
  have H : Hid (Fd w B b T) := h
  have HS : Hid (byt (T.map Ent.f) ≤ 1099511627776) := hs
  clear h hs
  have hbl := H.out.map.lt
  go_enter Try.func53, Try.ntmps53
  go_wp2_with (first | (at_range; refine wpList_range_own _ rfl _ 71 rfl 9 22 keyed9 Try.underlying71 RV b _ _ rfl H.out.map ?_; intro w0 hrg0 hg0 hs0) | go_in)
  have HRG0 : Hid (w0.ranges Try.prog 9 RV b w.heap.size T.length (.map (T.map Ent.d)) (Maps.has (.map (T.map Ent.d))) (Maps.size (.map (T.map Ent.d)))) := hrg0
  have B0 : Hid (Below w.heap.size w w0) := (Below.refl _ _).grown hg0 (Nat.le_refl _) (fun k hk => by cases hk)
  have H0 : Hid (w.heap.size + 1 ≤ w0.heap.size) := Nat.le_of_eq hs0.symm
  clear hrg0 hg0 hs0
  go_frame
  go_loopw [3] (fun t wr => ∃ (left : Lit → Bool) (cnt s : Nat), t = .int .i64 s ∧ s ≤ 1099511627776 ∧ Hid (s = sumSel T left) ∧ Hid (wr.ranges Try.prog 9 RV b w.heap.size T.length (.map (T.map Ent.d)) left cnt) ∧ Hid (Below w.heap.size w wr)) (fun _ wr => wr.rangeLeft b w.heap.size)
  case atStart =>
    refine ⟨_, _, 0, rfl, by omega, ?_, HRG0, B0⟩
    refine (sumSel_none fun t ht => ?_).symm
    rw [ent_has]
    cases hg : getN Ent.name t.name T with
    | none => exact absurd rfl (getN_none hg t ht)
    | some _ => rfl
  case round =>
    obtain ⟨left, cnt, s, rfl, hsb, hsum, hrg, hB⟩ := hrel
    clear HRG0 B0 H0
    go_wp2_with (first | (at_next; refine wpList_next_ranges _ rfl _ rfl 9 keyed9 RV (fun s : ByteArray => Value.string s) (fun c : Option Addr × Nat × Nat => Value.slice c.1 c.2.1 c.2.2) (fun key kl hk => key9_inv hk) (fun v y hv => RV_shape hv) b w.heap.size T.length _ left cnt rfl hrg.out ?_ ?_) | go_in)
    · intro _ hl0
      have hF : Hid (Fd wr B b T) := H.out.below hB.out (Nat.le_refl _)
      have E : Hid (fitsB (T.map Ent.f) = decide (Maps.size (DataW.map (T.map Ent.d)) ≤ 60 ∧ s ≤ 200000)) := (by
        rw [hsum.out, sumSel_all hl0, ent_size]
        unfold fitsB
        rw [List.length_map] : fitsB (T.map Ent.f) = decide (Maps.size (DataW.map (T.map Ent.d)) ≤ 60 ∧ s ≤ 200000))
      clear hl0 hrg
      go_wp2_with (first | (at_len; refine wpList_len_own _ rfl _ 71 rfl 9 22 Try.underlying71 RV b _ _ rfl hF.out.map ?_) | (go_at_call 77; refine (implRoom (Maps.size (DataW.map (T.map Ent.d))) s _).mono ?_; rintro e w1 ⟨rfl, B1⟩) | go_in)
      go_ret
      exact ⟨retB (E.out.trans (Bool.decide_and _ _)), hB.out.trans (B1.mono hB.out.size)⟩
    · intro x ca cn cc kl yd yp w2 cnt2 hkey hlk hv hat hrg2 hlt hg2 hs2 hen
      obtain rfl := key9_at hkey
      obtain ⟨t, hg, hcn⟩ : ∃ t, getN Ent.name x T = some t ∧ t.data.size = cn := by
        have hy : yd = .held (.slice ca cn cc) := by
          have : RV (.slice ca cn cc) = some (.held (.slice ca cn cc), []) := rfl
          rw [this] at hv
          simp at hv
          exact hv.1.symm
        have h1 := hat .nil
        rw [ent_at, hy] at h1
        cases hg : getN Ent.name x T with
        | none => rw [hg] at h1; cases h1
        | some t =>
          rw [hg] at h1
          have h2 : t.v = .slice ca cn cc := by simpa using h1
          obtain ⟨a', c', h3⟩ := (H.out.rows t (getN_some hg).1).shape
          rw [h2] at h3
          simp at h3
          exact ⟨t, rfl, h3.2.1.symm⟩
      obtain ⟨htm, htn⟩ := getN_some hg
      have HSUM : Hid (s + cn = sumSel T (fun z => left z && !z.sameKey (.string x.data.toList))) := (by
        rw [← htn] at hlk
        rw [hsum.out, ← hcn, ← htn, sumSel_step H.out.ris htm hlk] : s + cn = sumSel T (fun z => left z && !z.sameKey (.string x.data.toList)))
      have hsb2 : s + cn ≤ 1099511627776 := by rw [HSUM.out]; exact Nat.le_trans (sumSel_le _ T) HS.out
      have HRG2 : Hid (w2.ranges Try.prog 9 RV b w.heap.size T.length (.map (T.map Ent.d)) (fun z => left z && !z.sameKey (.string x.data.toList)) cnt2) := hrg2
      have HB2 : Hid (Below w.heap.size w w2) := hB.out.grown hg2 hB.out.size (fun k hk => by cases hk; exact Nat.le_refl _)
      have HLT : Hid (cnt2 < cnt) := hlt
      clear hs2 hg2 hrg2 hat hv hlk hkey hg hcn htm htn hlt t
      go_wp2
      go_roundw
      case rel => exact ⟨_, cnt2, s + cn, by go_num, hsb2, HSUM, HRG2, HB2⟩
      case measure => rw [HRG2.out.left_eq, hrg.out.left_eq]; exact HLT.out
end Go.Proofs.Ytcalgmhpagpnnaa
