/- KidsOf, of the program and of the specification. Conditions: the accounts lie in memory. -/
import Derived.Test.YtleblllofibfkaaInts
namespace Go.Proofs.Ytleblllofibfkaa
open Go.RowKit
set_option maxRecDepth 8000

/-- The ids of those of the first k accounts that hang under id. -/
def kids (F : Nat → Acc) (id : Int) : Nat → List Int
  | 0 => []
  | k + 1 => kids F id k ++ (if (F k).up = id then [(F k).id] else [])
theorem kids_len (F : Nat → Acc) (id : Int) : ∀ k, (kids F id k).length ≤ k
  | 0 => by simp [kids]
  | k + 1 => by
    have := kids_len F id k
    simp only [kids, List.length_append]
    split <;> simp <;> omega
theorem kids_hit {F : Nat → Acc} {id : Int} {k : Nat} (h : (F k).up = id) : kids F id (k + 1) = kids F id k ++ [(F k).id] := by simp [kids, h]
theorem kids_miss {F : Nat → Acc} {id : Int} {k : Nat} (h : (F k).up ≠ id) : kids F id (k + 1) = kids F id k := by simp [kids, h]
theorem below_grown {B : Nat} {a w w' : World} {v : Value} (h : Below B a w) (hB : B ≤ w.heap.size) (hg : w.grownBy w' v.ownBlock) (hv : ∀ k, v.ownBlock = some k → B ≤ k) : Below B a w' := h.grown hg hB hv

set_option maxHeartbeats 1000000 in
theorem specKids_yes (a : Option Addr) (n c : Nat) (F : Nat → Acc) (id : Int) (w : World) (h : Fo w a n F) (hR : Right F n) :
    Calls Try.prog 70 #[.slice a n c, .int .i64 id] w fun e w' => ∃ v, e = .returned v ∧ IL w' w.heap.size v (kids F id n) ∧ Below w.heap.size w w' := by
  have H : Hid (Fo w a n F) := h
  have HR : Hid (Right F n) := hR
  have hn := hR.1
  clear h hR
  obtain ⟨i0, hi, hz0, hz1, hz2⟩ := info_parts info2
  have I0 : Hid (IL (w.alloc (.cells #[] 2)) w.heap.size (.slice (some ⟨w.heap.size, 0, none⟩) 0 0) []) := IL.empty w w.heap.size (Nat.le_refl _)
  go_enter Try.func70, Try.ntmps70
  go_wp2
  go_loopw [5, 6] (fun v i wr => ∃ k : Nat, k ≤ n ∧ i = .int .i64 k ∧ Hid (IL wr w.heap.size v (kids F id k)) ∧ Hid (Below w.heap.size w wr)) (fun _ i _ => n - (intOf i).toNat)
  case atStart => exact ⟨0, Nat.zero_le _, rfl, I0, (Below.refl _ _).alloc (Nat.le_refl _) _⟩
  case round =>
    rename_i v5
    obtain ⟨k, hk, rfl, hI, hB⟩ := hrel
    clear I0
    go_wp2_with fail
    refine (specOk_yes a n c F _ (H.out.below hB.out) HR.out).mono ?_
    rintro e w1 ⟨rfl, B1⟩
    have I1 : Hid (IL w1 w.heap.size _ (kids F id k)) := hI.out.kept B1
    have B1' : Hid (Below w.heap.size w w1) := hB.out.trans (B1.mono hB.out.size)
    clear B1 hI hB
    by_cases hlt : k < n
    · obtain ⟨b, o, rfl, hb0, hA0⟩ := H.out.acc hlt
      have hA := hA0.of_cells (w' := w1) (fun q => B1'.out.cell (p := ⟨b, q, none⟩) hb0)
      obtain ⟨c0, c1, c2, c3, c4, c5, c6, c7⟩ := hA
      clear hA0
      obtain ⟨a', m', hv, hlt', _⟩ := I1.out.shape
      subst hv
      have hkl := kids_len F id k
      by_cases hu : (F k).up = id
      · have bu : ((F k).up == id) = true := by simp [hu]
        have HK : Hid (kids F id (k + 1) = kids F id k ++ [(F k).id]) := kids_hit hu
        have HL : Hid (∀ q, (Value.slice a' (kids F id k).length m').ownBlock = some q → w.heap.size ≤ q ∧ q < w1.heap.size) := hlt'
        have hbw : b < w1.heap.size := Nat.lt_of_lt_of_le hb0 B1'.out.size
        clear hu hlt'
        go_wp2_with (at_builtin; refine wpList_append_own _ rfl _ _ 48 rfl w.heap.size 2 i0 (.int .i64 0) 1 8 Try.underlying48 hi hz0 hz1 hz2 rfl (by decide) _ _ _ rfl (World.ownsRow.alloc I1.out _) ⟨_, 0, none⟩ 1 1 [.int .i64 (F k).id] rfl rfl ?_ ?_ ?_ ?_ ?_ ?_)
        · intro j u hj
          match j, hj with
          | 0, hj => simp at hj; subst hj; simp [Addr.add, go_sem]
        · intro u hu; simp at hu; subst hu; rfl
        · unfold maxLen; omega
        · omega
        · have := B1'.out.size; simp; omega
        · intro v' w2 hown hgrow _
          have I2 : Hid (IL w2 w.heap.size v' (kids F id (k + 1))) := by
            have e : kids F id (k + 1) = kids F id k ++ [(F k).id] := HK.out
            show IL w2 w.heap.size v' (kids F id (k + 1))
            rw [e]
            unfold IL
            simpa using hown
          have B2 : Hid (Below w.heap.size w w2) := (B1'.out.alloc B1'.out.size _).grown hgrow (by have := B1'.out.size; simp; omega) (fun q hq => (HL.out q hq).1)
          clear hown hgrow
          go_wp2
          go_roundw
          case rel => exact ⟨k + 1, by omega, by go_num, I2, B2⟩
          case measure => simp [intOf]; omega
      · have bu : ((F k).up == id) = false := by simp [hu]
        have I2 : Hid (IL w1 w.heap.size (.slice a' (kids F id k).length m') (kids F id (k + 1))) := by
          show IL w1 w.heap.size _ (kids F id (k + 1))
          rw [kids_miss hu]; exact I1.out
        clear hu hlt'
        go_wp2
        go_roundw
        case rel => exact ⟨k + 1, by omega, by go_num, I2, B1'⟩
        case measure => simp [intOf]; omega
    · have hkn : k = n := by omega
      subst hkn
      have hd : decide (k < k) = false := by simp
      go_wp2
      go_ret
      exact ⟨_, rfl, I1.out, B1'.out⟩

theorem specKids_no (a : Option Addr) (n c : Nat) (F : Nat → Acc) (id : Int) (w : World) (h : Fo w a n F) (hR : ¬ Right F n) :
    Calls Try.prog 70 #[.slice a n c, .int .i64 id] w fun e w' => ∃ v, e = .returned v ∧ IL w' w.heap.size v [] ∧ Below w.heap.size w w' := by
  have H : Hid (Fo w a n F) := h
  have HR : Hid (¬ Right F n) := hR
  clear h hR
  have I0 : Hid (IL (w.alloc (.cells #[] 2)) w.heap.size (.slice (some ⟨w.heap.size, 0, none⟩) 0 0) []) := IL.empty w w.heap.size (Nat.le_refl _)
  go_enter Try.func70, Try.ntmps70
  go_wp2
  refine wp_loop_rounds 1 ?_
  rw [rounds_succ]
  go_wp2_with fail
  refine (specOk_no a n c F _ (H.out.alloc _) HR.out).mono ?_
  rintro e w1 ⟨rfl, B1⟩
  have I1 : Hid (IL w1 w.heap.size (.slice (some ⟨w.heap.size, 0, none⟩) 0 0) []) := I0.out.kept B1
  have B1' : Hid (Below w.heap.size w w1) := ((Below.refl _ _).alloc (Nat.le_refl _) _).trans (B1.mono (by simp))
  clear B1
  go_wp2
  go_ret
  exact ⟨_, rfl, I1.out, B1'.out⟩

end Go.Proofs.Ytleblllofibfkaa
