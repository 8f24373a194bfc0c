/- l7Put: a file into its place. Conditions: the files lie in memory and rise by their names, at most 1048576 of them. -/
import Derived.Test.YtcalgmhpagpnnaaSpAN
namespace Go.Proofs.Ytcalgmhpagpnnaa
open Go.RowKit
set_option maxRecDepth 8000

/-- The list that is made, on the way. -/
def PutSt (L : List Fl) (x : Fl) (done : Bool) (M : List Fl) : Prop :=
  (done = false ∧ M = L ∧ ∀ y ∈ L, lt y.name x.name = true) ∨ (done = true ∧ M = putN Fl.name x L ∧ ∃ u ∈ L, lt u.name x.name = false)
theorem insN_len {α : Type} (nm : α → ByteArray) (x : α) : ∀ l : List α, (insN nm x l).length = l.length + 1
  | [] => rfl
  | y :: r => by
    unfold insN
    split
    · rfl
    · simp [insN_len nm x r]
theorem putN_len {α : Type} (nm : α → ByteArray) (x : α) (l : List α) : (putN nm x l).length ≤ l.length + 1 := by
  unfold putN cutN
  rw [insN_len]
  have := List.length_filter_le (fun y => !decide (nm y = nm x)) l
  omega
theorem PutSt.len {L : List Fl} {x : Fl} {dn : Bool} {M : List Fl} (h : PutSt L x dn M) : M.length ≤ L.length + 1 := by
  rcases h with ⟨_, rfl, _⟩ | ⟨_, rfl, _⟩
  · omega
  · exact putN_len _ _ _

set_option maxHeartbeats 2000000 in
theorem specPut (a : Option Addr) (n c : Nat) (F : Nat → Fl) (s d : ByteArray) (w : World) (h : Fls w a n F) (hR : Ris Fl.name (lst F n)) :
    Calls Try.prog 81 #[.slice a n c, .string s, .string d] w fun e w' => (∃ v, e = .returned v ∧ FlL w' w.heap.size v (putN Fl.name (⟨s, d⟩ : Fl) (lst F n))) ∧ Below w.heap.size w w' := by
  have H : Hid (Fls w a n F) := h
  have HR : Hid (Ris Fl.name (lst F n)) := hR
  have hn := h.1
  clear h hR
  obtain ⟨i0, hi, hz0, hz1, hz2⟩ := info_parts infoFl
  have N0 : Hid (FlL (w.alloc (.cells #[] 75)) w.heap.size (.slice (some ⟨w.heap.size, 0, none⟩) 0 0) []) := FlL.empty w _ (Nat.le_refl _)
  have B0 : Hid (Below w.heap.size w (w.alloc (.cells #[] 75))) := (Below.refl _ _).alloc (Nat.le_refl _) _
  go_enter Try.func81, Try.ntmps81
  go_wp2
  go_loopw [7, 8, 9] (fun v t i wr => ∃ (k : Nat) (dn : Bool) (M : List Fl), k ≤ n ∧ i = .int .i64 k ∧ t = .bool dn ∧ Hid (PutSt (lst F k) (⟨s, d⟩ : Fl) dn M) ∧ Hid (FlL wr w.heap.size v M) ∧ Hid (Below w.heap.size w wr)) (fun _ _ i _ => n - (intOf i).toNat)
  case atStart => exact ⟨0, false, [], Nat.zero_le _, rfl, rfl, Or.inl ⟨rfl, rfl, fun y hy => by cases hy⟩, N0, B0⟩
  case round =>
    obtain ⟨k, dn, M, hk, rfl, rfl, hP, hA, hB⟩ := hrel
    clear N0 B0
    have hlen : Hid (M.length ≤ k + 1) := (by have := hP.out.len; rwa [lst_len] at this : M.length ≤ k + 1)
    have hbase := hB.out.size
    by_cases hlt : k < n
    · obtain ⟨b, o, rfl, hb0, hA0⟩ := H.out.acc hlt
      have hb : b < wr.heap.size := Nat.lt_of_lt_of_le hb0 hB.out.size
      have hcc := hA0.of_cells (w' := wr) (fun q => hB.out.cell (p := ⟨b, q, none⟩) hb0)
      clear hA0
      obtain ⟨c0, c1⟩ := hcc
      have HRk : Hid (Ris Fl.name (lst F k ++ [F k])) := (by
        rw [← lst_succ]
        exact ris_lst.2 (fun j h1 h2 => ris_lst.1 HR.out j h1 (by omega)) : Ris Fl.name (lst F k ++ [F k]))
      cases dn
      · rcases hP.out with ⟨_, hM, hall⟩ | ⟨h, _⟩
        rotate_left
        · cases h
        have HM : Hid (M = lst F k) := hM
        have HALL : Hid (∀ y ∈ lst F k, lt y.name s = true) := hall
        clear hM hall
        by_cases hle : lt (F k).name s = true
        · have hd : Op.bytesLess (F k).name.toList s.toList = true := hle
          have hd2 : ((F k).name.toList == s.toList) = false := by rw [beq_name]; exact decide_eq_false (lt_ne hle)
          have HP : Hid (PutSt (lst F (k + 1)) (⟨s, d⟩ : Fl) false (M ++ [F k])) := Or.inl ⟨rfl, by rw [HM.out, lst_succ], fun y hy => by
            rw [lst_succ] at hy
            rcases List.mem_append.1 hy with hy | hy
            · exact HALL.out y hy
            · obtain rfl := List.mem_singleton.1 hy; exact hle⟩
          clear hle
          go_wp2_with (at_builtin; refine wpList_append_own _ rfl _ _ 24 rfl w.heap.size 75 i0 _ 2 32 Try.underlying24 hi hz0 hz1 hz2 rfl (by decide) _ _ _ rfl (World.ownsRow.alloc hA.out _) ⟨_, 0, none⟩ 1 1 (FlC (F k)) rfl rfl (flNews _ (F k)) (flOne _) (by have := hlen.out; unfold maxLen; omega) (by have := hlen.out; omega) (by have := hB.out.size; simp; omega) ?_; intro v1 w1 hown1 hgrow1 _)
          go_roundw
          case rel => exact ⟨k + 1, false, M ++ [F k], by omega, by go_num, rfl, HP, FlL.snoc hown1, (hB.out.alloc hB.out.size _).grown hgrow1 (by have := hB.out.size; simp; omega) hA.out.lt⟩
          case measure => simp [intOf]; omega
        · have hle' : lt (F k).name s = false := by simpa using hle
          have hd : Op.bytesLess (F k).name.toList s.toList = false := hle'
          by_cases he : (F k).name = s
          · have hd2 : ((F k).name.toList == s.toList) = true := by rw [beq_name]; exact decide_eq_true he
            have HP : Hid (PutSt (lst F (k + 1)) (⟨s, d⟩ : Fl) true (M ++ [(⟨s, d⟩ : Fl)])) := Or.inr ⟨rfl, by rw [HM.out, lst_succ, put_over HALL.out he], F k, by rw [lst_succ]; simp, hle'⟩
            clear hle hle' he
            have HF1 : ∀ w1, Hid (Below w.heap.size w w1) → FlAt w1 b (o + k * 2) (F k) := fun w1 hg => by
              obtain ⟨b', o', e', hb', hA'⟩ := H.out.acc hlt
              obtain ⟨rfl, rfl⟩ : b = b' ∧ o = o' := by simpa using e'
              exact hA'.of_cells (fun q => hg.out.cell (p := ⟨b, q, none⟩) hb')
            go_wp2_with (at_builtin; refine wpList_append_own _ rfl _ _ 24 rfl w.heap.size 75 i0 _ 2 32 Try.underlying24 hi hz0 hz1 hz2 rfl (by decide) _ _ _ rfl (World.ownsRow.alloc hA.out _) ⟨_, 0, none⟩ 1 1 (FlC (⟨s, d⟩ : Fl)) rfl rfl (flNews _ (⟨s, d⟩ : Fl)) (flOne _) (by have := hlen.out; unfold maxLen; omega) (by have := hlen.out; omega) (by have := hB.out.size; simp; omega) ?_; intro v1 w1 hown1 hgrow1 _; have HA1 : Hid (FlL w1 w.heap.size v1 (M ++ [(⟨s, d⟩ : Fl)])) := FlL.snoc hown1; have HB1 : Hid (Below w.heap.size w w1) := (hB.out.alloc hB.out.size _).grown hgrow1 (by have := hB.out.size; simp; omega) hA.out.lt; obtain ⟨e0, e1⟩ := HF1 w1 HB1; clear hown1 hgrow1)
            go_roundw
            case rel => exact ⟨k + 1, true, M ++ [(⟨s, d⟩ : Fl)], by omega, by go_num, rfl, HP, HA1, HB1⟩
            case measure => simp [intOf]; omega
          · have hd2 : ((F k).name.toList == s.toList) = false := by rw [beq_name]; exact decide_eq_false he
            have HP : Hid (PutSt (lst F (k + 1)) (⟨s, d⟩ : Fl) true ((M ++ [(⟨s, d⟩ : Fl)]) ++ [F k])) := Or.inr ⟨rfl, by
              rw [HM.out, lst_succ, put_here HALL.out (by
                rcases lt_tri hle' with e | e
                · exact absurd e he
                · exact e)]
              simp, F k, by rw [lst_succ]; simp, hle'⟩
            have hlen2 : Hid ((M ++ [(⟨s, d⟩ : Fl)]).length ≤ k + 2) := (by have := hlen.out; simp; omega : (M ++ [(⟨s, d⟩ : Fl)]).length ≤ k + 2)
            clear hle hle' he
            have HF1 : ∀ w1, Hid (Below w.heap.size w w1) → FlAt w1 b (o + k * 2) (F k) := fun w1 hg => by
              obtain ⟨b', o', e', hb', hA'⟩ := H.out.acc hlt
              obtain ⟨rfl, rfl⟩ : b = b' ∧ o = o' := by simpa using e'
              exact hA'.of_cells (fun q => hg.out.cell (p := ⟨b, q, none⟩) hb')
            go_wp2_with (first | (at_builtin; refine wpList_append_own _ rfl _ _ 24 rfl w.heap.size 75 i0 _ 2 32 Try.underlying24 hi hz0 hz1 hz2 rfl (by decide) _ _ _ rfl (World.ownsRow.alloc HA1.out _) ⟨_, 0, none⟩ 1 1 (FlC (F k)) rfl rfl (flNews _ (F k)) (flOne _) (by have := hlen2.out; unfold maxLen; omega) (by have := hlen2.out; omega) (by have := HB1.out.size; simp; omega) ?_; intro v2 w2 hown2 hgrow2 _) | (at_builtin; refine wpList_append_own _ rfl _ _ 24 rfl w.heap.size 75 i0 _ 2 32 Try.underlying24 hi hz0 hz1 hz2 rfl (by decide) _ _ _ rfl (World.ownsRow.alloc hA.out _) ⟨_, 0, none⟩ 1 1 (FlC (⟨s, d⟩ : Fl)) rfl rfl (flNews _ (⟨s, d⟩ : Fl)) (flOne _) (by have := hlen.out; unfold maxLen; omega) (by have := hlen.out; omega) (by have := hB.out.size; simp; omega) ?_; intro v1 w1 hown1 hgrow1 _; have HA1 : Hid (FlL w1 w.heap.size v1 (M ++ [(⟨s, d⟩ : Fl)])) := FlL.snoc hown1; have HB1 : Hid (Below w.heap.size w w1) := (hB.out.alloc hB.out.size _).grown hgrow1 (by have := hB.out.size; simp; omega) hA.out.lt; obtain ⟨e0, e1⟩ := HF1 w1 HB1; clear hown1 hgrow1))
            go_roundw
            case rel => exact ⟨k + 1, true, (M ++ [(⟨s, d⟩ : Fl)]) ++ [F k], by omega, by go_num, rfl, HP, FlL.snoc hown2, (HB1.out.alloc HB1.out.size _).grown hgrow2 (by have := HB1.out.size; simp; omega) HA1.out.lt⟩
            case measure => simp [intOf]; omega
      · rcases hP.out with ⟨h, _⟩ | ⟨_, hM, u, hu, hul⟩
        · cases h
        have HP : Hid (PutSt (lst F (k + 1)) (⟨s, d⟩ : Fl) true (M ++ [F k])) := Or.inr ⟨rfl, by rw [hM, lst_succ, put_past HRk.out hu hul], u, by rw [lst_succ]; simp [hu], hul⟩
        have hd2 : ((F k).name.toList == s.toList) = false := by
          rw [beq_name]
          refine decide_eq_false fun e => ?_
          have h1 : lt u.name (F k).name = true := by
            have := HRk.out
            unfold Ris at this
            rw [List.pairwise_append] at this
            exact this.2.2 u hu _ (by simp)
          rw [e] at h1
          have hul' : lt u.name s = false := hul
          rw [h1] at hul'
          cases hul'
        clear hM hu hul u
        go_wp2_with (at_builtin; refine wpList_append_own _ rfl _ _ 24 rfl w.heap.size 75 i0 _ 2 32 Try.underlying24 hi hz0 hz1 hz2 rfl (by decide) _ _ _ rfl (World.ownsRow.alloc hA.out _) ⟨_, 0, none⟩ 1 1 (FlC (F k)) rfl rfl (flNews _ (F k)) (flOne _) (by have := hlen.out; unfold maxLen; omega) (by have := hlen.out; omega) (by have := hB.out.size; simp; omega) ?_; intro v1 w1 hown1 hgrow1 _)
        go_roundw
        case rel => exact ⟨k + 1, true, M ++ [F k], by omega, by go_num, rfl, HP, FlL.snoc hown1, (hB.out.alloc hB.out.size _).grown hgrow1 (by have := hB.out.size; simp; omega) hA.out.lt⟩
        case measure => simp [intOf]; omega
    · obtain rfl : k = n := by omega
      cases dn
      · rcases hP.out with ⟨_, hM, hall⟩ | ⟨h, _⟩
        rotate_left
        · cases h
        have HM : Hid (M ++ [(⟨s, d⟩ : Fl)] = putN Fl.name (⟨s, d⟩ : Fl) (lst F k)) := (by rw [hM, put_behind hall] : M ++ [(⟨s, d⟩ : Fl)] = putN Fl.name (⟨s, d⟩ : Fl) (lst F k))
        clear hM hall
        go_wp2_with (at_builtin; refine wpList_append_own _ rfl _ _ 24 rfl w.heap.size 75 i0 _ 2 32 Try.underlying24 hi hz0 hz1 hz2 rfl (by decide) _ _ _ rfl (World.ownsRow.alloc hA.out _) ⟨_, 0, none⟩ 1 1 (FlC (⟨s, d⟩ : Fl)) rfl rfl (flNews _ (⟨s, d⟩ : Fl)) (flOne _) (by have := hlen.out; unfold maxLen; omega) (by have := hlen.out; omega) (by have := hB.out.size; simp; omega) ?_; intro v1 w1 hown1 hgrow1 _)
        go_ret
        exact ⟨⟨_, rfl, by rw [← HM.out]; exact FlL.snoc hown1⟩, (hB.out.alloc hB.out.size _).grown hgrow1 (by have := hB.out.size; simp; omega) hA.out.lt⟩
      · rcases hP.out with ⟨h, _⟩ | ⟨_, hM, _⟩
        · cases h
        have HM : Hid (M = putN Fl.name (⟨s, d⟩ : Fl) (lst F k)) := hM
        clear hM
        go_wp2
        go_ret
        exact ⟨⟨_, rfl, by rw [← HM.out]; exact hA.out⟩, hB.out⟩
end Go.Proofs.Ytcalgmhpagpnnaa

/- l7Cut: files without one of a name. Conditions: the files lie in memory, at most 1048576 of them. -/
namespace Go.Proofs.Ytcalgmhpagpnnaa
open Go.RowKit
set_option maxRecDepth 8000

set_option maxHeartbeats 1000000 in
theorem specCut (a : Option Addr) (n c : Nat) (F : Nat → Fl) (s : ByteArray) (w : World) (h : Fls w a n F) :
    Calls Try.prog 82 #[.slice a n c, .string s] w fun e w' => (∃ v, e = .returned v ∧ FlL w' w.heap.size v (cutN Fl.name s (lst F n))) ∧ Below w.heap.size w w' := by
  have H : Hid (Fls w a n F) := h
  have hn := h.1
  clear h
  obtain ⟨i0, hi, hz0, hz1, hz2⟩ := info_parts infoFl
  have N0 : Hid (FlL (w.alloc (.cells #[] 75)) w.heap.size (.slice (some ⟨w.heap.size, 0, none⟩) 0 0) []) := FlL.empty w _ (Nat.le_refl _)
  have B0 : Hid (Below w.heap.size w (w.alloc (.cells #[] 75))) := (Below.refl _ _).alloc (Nat.le_refl _) _
  go_enter Try.func82, Try.ntmps82
  go_wp2
  go_loopw [5, 6] (fun v i wr => ∃ (k : Nat) (M : List Fl), k ≤ n ∧ i = .int .i64 k ∧ Hid (M = cutN Fl.name s (lst F k)) ∧ Hid (FlL wr w.heap.size v M) ∧ Hid (Below w.heap.size w wr)) (fun _ i _ => n - (intOf i).toNat)
  case atStart => exact ⟨0, [], Nat.zero_le _, rfl, rfl, N0, B0⟩
  case round =>
    obtain ⟨k, M, hk, rfl, hM, hA, hB⟩ := hrel
    clear N0 B0
    have hlen : Hid (M.length ≤ k) := (by
      rw [hM.out]
      unfold cutN
      have := List.length_filter_le (fun y : Fl => !decide (y.name = s)) (lst F k)
      rwa [lst_len] at this : M.length ≤ k)
    have hbase := hB.out.size
    by_cases hlt : k < n
    · obtain ⟨b, o, rfl, hb0, hA0⟩ := H.out.acc hlt
      have hb : b < wr.heap.size := Nat.lt_of_lt_of_le hb0 hB.out.size
      have hcc := hA0.of_cells (w' := wr) (fun q => hB.out.cell (p := ⟨b, q, none⟩) hb0)
      clear hA0
      obtain ⟨c0, c1⟩ := hcc
      by_cases he : (F k).name = s
      · have hd2 : ((F k).name.toList == s.toList) = true := by rw [beq_name]; exact decide_eq_true he
        have HP : Hid (M = cutN Fl.name s (lst F (k + 1))) := (by rw [hM.out, lst_succ, cut_snoc_same he] : M = cutN Fl.name s (lst F (k + 1)))
        clear he
        go_wp2
        go_roundw
        case rel => exact ⟨k + 1, M, by omega, by go_num, HP, hA, hB⟩
        case measure => simp [intOf]; omega
      · have hd2 : ((F k).name.toList == s.toList) = false := by rw [beq_name]; exact decide_eq_false he
        have HP : Hid (M ++ [F k] = cutN Fl.name s (lst F (k + 1))) := (by rw [hM.out, lst_succ, cut_snoc he] : M ++ [F k] = cutN Fl.name s (lst F (k + 1)))
        clear he
        go_wp2_with (at_builtin; refine wpList_append_own _ rfl _ _ 24 rfl w.heap.size 75 i0 _ 2 32 Try.underlying24 hi hz0 hz1 hz2 rfl (by decide) _ _ _ rfl (World.ownsRow.alloc hA.out _) ⟨_, 0, none⟩ 1 1 (FlC (F k)) rfl rfl (flNews _ (F k)) (flOne _) (by have := hlen.out; unfold maxLen; omega) (by have := hlen.out; omega) (by have := hB.out.size; simp; omega) ?_; intro v1 w1 hown1 hgrow1 _)
        go_roundw
        case rel => exact ⟨k + 1, M ++ [F k], by omega, by go_num, HP, FlL.snoc hown1, (hB.out.alloc hB.out.size _).grown hgrow1 (by have := hB.out.size; simp; omega) hA.out.lt⟩
        case measure => simp [intOf]; omega
    · obtain rfl : k = n := by omega
      go_wp2
      go_ret
      exact ⟨⟨_, rfl, by rw [← hM.out]; exact hA.out⟩, hB.out⟩
end Go.Proofs.Ytcalgmhpagpnnaa
