/- l7Cut: files without one of a name. Conditions: the files lie in memory, at most 1048576 of them. -/
import Derived.Test.YtcalgmhpagpnnaaNw
namespace Go.Proofs.Ytcalgmhpagpnnaa
open Go.RowKit
set_option maxRecDepth 8000

set_option maxHeartbeats 1000000 in
theorem specCut (a : Option Addr) (n c : Nat) (F : Nat → Fl) (s : ByteArray) (w : World) (h : Fls w a n F) :
    Calls Try.prog 82 #[.slice a n c, .string s] w fun e w' => (∃ v, e = .returned v ∧ FlL w' w.heap.size v (cutN Fl.name s (lst F n))) ∧ Below w.heap.size w w' := by
  have H : Hid (Fls w a n F) := h
  have hn := h.1
  clear h
  obtain ⟨i0, hi, hz0, hz1, hz2⟩ := info_parts infoFl
  have N0 : Hid (FlL (w.alloc (.cells #[] 75)) w.heap.size (.slice (some ⟨w.heap.size, 0, none⟩) 0 0) []) := FlL.empty w _ (Nat.le_refl _)
  have B0 : Hid (Below w.heap.size w (w.alloc (.cells #[] 75))) := (Below.refl _ _).alloc (Nat.le_refl _) _
  go_enter Try.func82, Try.ntmps82
  go_wp2
  go_loopw [5, 6] (fun v i wr => ∃ (k : Nat) (M : List Fl), k ≤ n ∧ i = .int .i64 k ∧ Hid (M = cutN Fl.name s (lst F k)) ∧ Hid (FlL wr w.heap.size v M) ∧ Hid (Below w.heap.size w wr)) (fun _ i _ => n - (intOf i).toNat)
  case atStart => exact ⟨0, [], Nat.zero_le _, rfl, rfl, N0, B0⟩
  case round =>
    obtain ⟨k, M, hk, rfl, hM, hA, hB⟩ := hrel
    clear N0 B0
    have hlen : Hid (M.length ≤ k) := (by
      rw [hM.out]
      unfold cutN
      have := List.length_filter_le (fun y : Fl => !decide (y.name = s)) (lst F k)
      rwa [lst_len] at this : M.length ≤ k)
    have hbase := hB.out.size
    by_cases hlt : k < n
    · obtain ⟨b, o, rfl, hb0, hA0⟩ := H.out.acc hlt
      have hb : b < wr.heap.size := Nat.lt_of_lt_of_le hb0 hB.out.size
      have hcc := hA0.of_cells (w' := wr) (fun q => hB.out.cell (p := ⟨b, q, none⟩) hb0)
      clear hA0
      obtain ⟨c0, c1⟩ := hcc
      by_cases he : (F k).name = s
      · have hd2 : ((F k).name.toList == s.toList) = true := by rw [beq_name]; exact decide_eq_true he
        have HP : Hid (M = cutN Fl.name s (lst F (k + 1))) := (by rw [hM.out, lst_succ, cut_snoc_same he] : M = cutN Fl.name s (lst F (k + 1)))
        clear he
        go_wp2
        go_roundw
        case rel => exact ⟨k + 1, M, by omega, by go_num, HP, hA, hB⟩
        case measure => simp [intOf]; omega
      · have hd2 : ((F k).name.toList == s.toList) = false := by rw [beq_name]; exact decide_eq_false he
        have HP : Hid (M ++ [F k] = cutN Fl.name s (lst F (k + 1))) := (by rw [hM.out, lst_succ, cut_snoc he] : M ++ [F k] = cutN Fl.name s (lst F (k + 1)))
        clear he
        go_wp2_with (at_builtin; refine wpList_append_own _ rfl _ _ 24 rfl w.heap.size 75 i0 _ 2 32 Try.underlying24 hi hz0 hz1 hz2 rfl (by decide) _ _ _ rfl (World.ownsRow.alloc hA.out _) ⟨_, 0, none⟩ 1 1 (FlC (F k)) rfl rfl (flNews _ (F k)) (flOne _) (by have := hlen.out; unfold maxLen; omega) (by have := hlen.out; omega) (by have := hB.out.size; simp; omega) ?_; intro v1 w1 hown1 hgrow1 _)
        go_roundw
        case rel => exact ⟨k + 1, M ++ [F k], by omega, by go_num, HP, FlL.snoc hown1, (hB.out.alloc hB.out.size _).grown hgrow1 (by have := hB.out.size; simp; omega) hA.out.lt⟩
        case measure => simp [intOf]; omega
    · obtain rfl : k = n := by omega
      go_wp2
      go_ret
      exact ⟨⟨_, rfl, by rw [← hM.out]; exact hA.out⟩, hB.out⟩
end Go.Proofs.Ytcalgmhpagpnnaa
