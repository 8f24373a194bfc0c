/- bankOpKinds of the program: an op of each form. No conditions. -/
import Derived.Test.YtedhlmipcfdldaaDoorRdm
import Derived.OwnWalk
namespace Go.Proofs.YtedhlmipcfdldaaDoor
open Go.RowKit
set_option maxRecDepth 8000

/-- The op of a form. -/
def kindV (i : Nat) : List Value := if i < 3 then bl0 (20 + (i : Int)) else bl 19 ⟨(i : Int) - 2, 0, 0, 0, 0⟩ ⟨0, 0, 0, 0, 0, 0, 0⟩ 0
theorem kindV_len (i : Nat) : (kindV i).length = 14 := by unfold kindV; split <;> rfl
def kinds (n : Nat) : List Value := (List.range n).flatMap kindV
theorem kinds_succ (n : Nat) : kinds (n + 1) = kinds n ++ kindV n := by simp [kinds, List.range_succ, List.flatMap_append]
theorem kinds_len (n : Nat) : (kinds n).length = n * 14 := by
  induction n with
  | zero => rfl
  | succ n ih => rw [kinds_succ, List.length_append, ih, kindV_len]; omega
theorem kinds_get : ∀ (n i j : Nat), i < n → j < 14 → (kinds n)[i * 14 + j]? = (kindV i)[j]?
  | 0, i, j, h, _ => by omega
  | n + 1, i, j, h, hj => by
    rw [kinds_succ]
    by_cases e : i = n
    · subst e
      rw [List.getElem?_append_right (by rw [kinds_len]; omega), kinds_len]
      congr 1
      omega
    · rw [List.getElem?_append_left (by rw [kinds_len]; omega)]
      exact kinds_get n i j (by omega) hj
theorem info27 : (Tryd.prog.info? 27).map (fun i => (i.zero, i.size, i.bytes)) = some (some (.agg (bl0 0).toArray), 14, 112) := by kernel_rfl
/-- Ops of all forms, laid in memory. -/
def KindsAt (w : World) (g : Nat) : Prop := g < w.heap.size ∧ ∀ i j v, i < 13 → (kindV i)[j]? = some v → w.cell? ⟨g, i * 14 + j, none⟩ = some v
def KindsOut (w : World) (e : Ending) (w' : World) : Prop := ∃ g cap, e = .returned (.slice (some ⟨g, 0, none⟩) 13 cap) ∧ w.heap.size ≤ g ∧ KindsAt w' g ∧ Below w.heap.size w w'
theorem KindsAt.of {w : World} {B g cap : Nat} (h : w.ownsRow B 27 14 (.slice (some ⟨g, 0, none⟩) 13 cap) 13 (kinds 13)) : KindsAt w g := by
  refine ⟨(World.ownsRow.lt h g rfl).2, fun i j v hi hv => ?_⟩
  have hj : j < 14 := by
    by_cases e : j < 14
    · exact e
    · rw [List.getElem?_eq_none (by rw [kindV_len]; omega)] at hv; cases hv
  rw [World.ownsRow.cellAt h (i * 14 + j) (by omega), kinds_get 13 i j hi hj]
  exact hv
set_option maxHeartbeats 2000000 in
theorem kindsL (w : World) : Calls Tryd.prog 24 #[] w fun e w' => KindsOut w e w' := by
  obtain ⟨i0, hi, hz0, hz1, hz2⟩ := info_parts info27
  have A0 : Hid ((w.alloc (.cells (kinds 3).toArray 27)).ownsRow w.heap.size 27 14 (.slice (some ⟨w.heap.size, 0, none⟩) 3 3) 3 (kinds 3)) := World.ownsRow_lit w (kinds 3).toArray 3 (Nat.le_refl _) (by unfold maxLen; omega) (by rfl)
  go_enter Tryd.func24, Tryd.ntmps24
  go_wp2
  go_loopw [1, 2] (fun v kv wr => ∃ (k g cap : Nat), 1 ≤ k ∧ k ≤ 11 ∧ kv = .int .i64 k ∧ v = .slice (some ⟨g, 0, none⟩) (k + 2) cap ∧ Hid (wr.ownsRow w.heap.size 27 14 (.slice (some ⟨g, 0, none⟩) (k + 2) cap) (k + 2) (kinds (k + 2))) ∧ Hid (Below w.heap.size w wr)) (fun _ kv _ => 11 - (intOf kv).toNat)
  case atStart => exact ⟨1, _, _, by omega, by omega, rfl, rfl, A0, (Below.refl _ _).alloc (Nat.le_refl _) _⟩
  case round =>
    obtain ⟨k, g, cap, hk1, hk2, rfl, rfl, hA, hB⟩ := hrel
    clear A0
    by_cases hlt : k ≤ 10
    · have HG : Hid (w.heap.size ≤ g ∧ g < wr.heap.size) := World.ownsRow.lt hA.out g rfl
      have HK : Hid (kindV (k + 2) = bl 19 ⟨(k : Int), 0, 0, 0, 0⟩ ⟨0, 0, 0, 0, 0, 0, 0⟩ 0) := by
        show _ = _
        unfold kindV
        rw [if_neg (by omega)]
        simp
      go_wp2_with (at_builtin; refine wpList_append_own _ rfl _ _ 57 rfl w.heap.size 27 i0 _ 14 112 Tryd.underlying57 hi hz0 hz1 hz2 rfl (by decide) _ _ _ rfl (World.ownsRow.alloc hA.out _) ⟨_, 0, none⟩ 1 1 (bl 19 ⟨(k : Int), 0, 0, 0, 0⟩ ⟨0, 0, 0, 0, 0, 0, 0⟩ 0) rfl rfl ?_ ?_ ?_ ?_ ?_ ?_)
      · intro j u hj
        have := (Vals.new wr (bl 19 ⟨(k : Int), 0, 0, 0, 0⟩ ⟨0, 0, 0, 0, 0, 0, 0⟩ 0) 27).1 j u hj
        have e : (⟨wr.heap.size, 0, none⟩ : Addr).add j = ⟨wr.heap.size, j, none⟩ := by cases j <;> simp [Addr.add]
        rw [e]
        exact this
      · intro u hu
        simp only [List.mem_cons, List.not_mem_nil, or_false] at hu
        rcases hu with e | e | e | e | e | e | e | e | e | e | e | e | e | e <;> subst e <;> rfl
      · unfold maxLen; omega
      · omega
      · have := hB.out.size; simp; omega
      · intro v' w3 hown hgrow hnn
        have A3 : Hid (w3.ownsRow w.heap.size 27 14 v' (k + 1 + 2) (kinds (k + 1 + 2))) := by
          show w3.ownsRow _ _ _ _ _ _
          rw [show k + 1 + 2 = (k + 2) + 1 by omega, kinds_succ, HK.out]
          simpa using hown
        have B3 : Hid (Below w.heap.size w w3) := (hB.out.alloc hB.out.size _).grown hgrow (by have := hB.out.size; simp; omega) (fun q hq => by simp [Value.ownBlock] at hq; have := HG.out.1; omega)
        obtain ⟨g', cap', hv'⟩ : ∃ g' cap', v' = .slice (some ⟨g', 0, none⟩) (k + 1 + 2) cap' := by
          rcases A3.out.2 with ⟨hv, _⟩ | ⟨g', cap', _, hv, _⟩
          · exact absurd hv hnn
          · exact ⟨g', cap', hv⟩
        subst hv'
        clear hown hgrow hnn HG HK hA hB
        go_wp2
        go_roundw
        case rel => exact ⟨k + 1, g', cap', by omega, by omega, by go_num, rfl, A3, B3⟩
        case measure => simp [intOf]; omega
    · obtain rfl : k = 11 := by omega
      have FI : Hid (KindsOut w (.returned (.slice (some ⟨g, 0, none⟩) 13 cap)) wr) := ⟨g, cap, rfl, (World.ownsRow.lt hA.out g rfl).1, KindsAt.of hA.out, hB.out⟩
      clear hA hB
      go_wp2
      go_ret
      exact FI.out
end Go.Proofs.YtedhlmipcfdldaaDoor
