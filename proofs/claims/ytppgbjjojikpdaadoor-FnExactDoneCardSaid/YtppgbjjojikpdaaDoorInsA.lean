/- slices.Insert of one account behind all others, in the program. Conditions: at most 1048576 accounts. -/
import Derived.Test.YtppgbjjojikpdaaDoorInsB
namespace Go.Proofs.YtppgbjjojikpdaaDoor
open Go.RowKit

set_option maxRecDepth 100000 in
set_option maxHeartbeats 4000000 in
theorem insEnd (B g c : Nat) (L : List Acc) (x : Acc) (vb : Nat) (w : World) (h : AL w B (.slice (some ⟨g, 0, none⟩) L.length c) L) (hB : B ≤ w.heap.size) (hl : L.length ≤ 1048576) (hv : One w vb x) :
    Calls Tryd.prog 49 #[.slice (some ⟨g, 0, none⟩) L.length c, .int .i64 L.length, .slice (some ⟨vb, 0, none⟩) 1 1] w fun e w' => ∃ v, e = .returned v ∧ AL w' B v (L ++ [x]) ∧ Below B w w' := by
  obtain ⟨i0, hi, hz0, hz1, hz2⟩ := info_parts info37
  obtain ⟨hc1, hc2⟩ := h.cap
  unfold maxLen at hc2
  have H : Hid (AL w B (.slice (some ⟨g, 0, none⟩) L.length c) L) := h
  have HV : Hid (One w vb x) := hv
  have hBg := h.block.1
  obtain ⟨A, hA⟩ : ∃ A : Addr, (if c = L.length then some (⟨g, 0, none⟩ : Addr) else some ⟨g, L.length * 8, none⟩) = some A := by
    by_cases e : c = L.length
    · exact ⟨_, by rw [if_pos e]⟩
    · exact ⟨_, by rw [if_neg e]⟩
  clear h hv
  go_enter Tryd.func49, Tryd.ntmps49
  go_wp2_with (at_builtin; refine wpList_append_own _ rfl _ _ 26 rfl B 37 i0 _ 8 64 Tryd.underlying26 hi hz0 hz1 hz2 rfl (by decide) _ _ _ rfl H.out ⟨vb, 0, none⟩ 1 1 (accCells x) rfl rfl HV.out.cell (acc_one x) ?_ ?_ hB ?_)
  · unfold maxLen; omega
  · omega
  · intro v' w2 hown hgrow hnn
    have A2 : Hid (AL w2 B v' (L ++ [x])) := by
      show AL w2 B v' (L ++ [x])
      unfold AL
      simpa using hown
    have B2 : Hid (Below B w w2) := (Below.refl _ _).grown hgrow hB (fun q hq => by simp [Value.ownBlock] at hq; omega)
    clear hown hgrow hnn
    obtain ⟨a2, c2, hv2⟩ := A2.out.len
    obtain ⟨n', hn'⟩ : ∃ n', n' = (L ++ [x]).length := ⟨_, rfl⟩
    rw [← hn'] at hv2
    subst hv2
    clear hn'
    go_wp2
    go_ret
    exact ⟨_, rfl, A2.out, B2.out⟩

set_option maxRecDepth 100000 in
set_option maxHeartbeats 4000000 in
theorem insNil (B : Nat) (x : Acc) (vb : Nat) (w : World) (hB : B ≤ w.heap.size) (hv : One w vb x) :
    Calls Tryd.prog 49 #[.slice none 0 0, .int .i64 0, .slice (some ⟨vb, 0, none⟩) 1 1] w fun e w' => ∃ v, e = .returned v ∧ AL w' B v [x] ∧ Below B w w' := by
  obtain ⟨i0, hi, hz0, hz1, hz2⟩ := info_parts info37
  have H : Hid (AL w B (.slice none 0 0) []) := World.ownsRow_nil _ _ _ _
  have HV : Hid (One w vb x) := hv
  clear hv
  go_enter Tryd.func49, Tryd.ntmps49
  go_wp2_with (at_builtin; refine wpList_append_own _ rfl _ _ 26 rfl B 37 i0 _ 8 64 Tryd.underlying26 hi hz0 hz1 hz2 rfl (by decide) _ _ _ rfl H.out ⟨vb, 0, none⟩ 1 1 (accCells x) rfl rfl HV.out.cell (acc_one x) ?_ ?_ hB ?_)
  · unfold maxLen; simp
  · simp
  · intro v' w2 hown hgrow hnn
    have A2 : Hid (AL w2 B v' [x]) := by
      show AL w2 B v' [x]
      unfold AL
      simpa using hown
    have B2 : Hid (Below B w w2) := (Below.refl _ _).grown hgrow hB (fun q hq => by simp [Value.ownBlock] at hq)
    clear hown hgrow hnn
    obtain ⟨a2, c2, hv2⟩ := A2.out.len
    obtain ⟨n', hn'⟩ : ∃ n', n' = [x].length := ⟨_, rfl⟩
    rw [← hn'] at hv2
    subst hv2
    clear hn'
    go_wp2
    go_ret
    exact ⟨_, rfl, A2.out, B2.out⟩
end Go.Proofs.YtppgbjjojikpdaaDoor
