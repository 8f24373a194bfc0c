/- The specification's path from an account to its root. Conditions: the accounts lie in memory, at most 1048576 of them. -/
import Derived.Test.YtedhlmipcfdldaaGreatDoorFRoot
import Derived.OwnWalk
namespace Go.Proofs.YtedhlmipcfdldaaGreatDoor
open Go.RowKit

theorem info2 : (Tryz.prog.info? 2).map (fun i => (i.zero, i.size, i.bytes)) = some (some (.int .i64 0), 1, 8) := by kernel_rfl

def lenOf : Value → Nat | .slice _ n _ => n | _ => 0
/-- Numbers that a call has made, in memory of its own from block B on. -/
def Ints (w : World) (B : Nat) (v : Value) (l : List Int) : Prop := w.ownsRow B 2 1 v l.length (l.map (Value.int .i64)) ∧ v ≠ .slice none 0 0
theorem Ints.shape {w : World} {B : Nat} {v : Value} {l : List Int} (h : Ints w B v l) : ∃ g cap, v = .slice (some ⟨g, 0, none⟩) l.length cap ∧ B ≤ g ∧ g < w.heap.size := by
  rcases h.1.2 with ⟨hv, _⟩ | ⟨g, cap, cur, hv, hB, hg, _⟩
  · exact absurd hv h.2
  · refine ⟨g, cap, hv, hB, ?_⟩
    by_cases hn : g < w.heap.size
    · exact hn
    · have e : w.heap[g]? = none := by simp; omega
      rw [e] at hg; cases hg
theorem Ints.kept {w w' : World} {B : Nat} {v : Value} {l : List Int} (h : Ints w B v l) (hb : Below w.heap.size w w') : Ints w' B v l :=
  ⟨h.1.kept (row := none) ⟨hb.os, hb.tape, hb.output, hb.size, fun k hk _ => hb.block k hk⟩ (by cases hv : v.ownBlock <;> simp), h.2⟩

theorem chain_none (F : Nat → Acc) (n m : Nat) (id : Int) (h0 : id ≠ 0) (hp : place F n id = none) : chain F n m id = none := by
  cases m <;> simp [chain, h0, hp]
theorem chain_zero (F : Nat → Acc) (n m : Nat) : chain F n m 0 = some [] := by
  cases m <;> simp [chain]

set_option maxRecDepth 8000 in
set_option maxHeartbeats 1000000 in
theorem specPath (a : Option Addr) (n c : Nat) (F : Nat → Acc) (id : Int) (w : World) (h : Fo w a n F) :
    Calls Tryz.prog 52 #[.slice a n c, .int .i64 id] w fun e w' => Below w.heap.size w w' ∧
      ((chain F n n id = none ∧ e = .returned (.tuple #[.slice none 0 0, .bool false])) ∨ ∃ l v, chain F n n id = some l ∧ e = .returned (.tuple #[v, .bool true]) ∧ Ints w' w.heap.size v l) := by
  have H : Hid (Fo w a n F) := h
  have hn := h.1
  clear h
  obtain ⟨i0, hi, hz0, hz1, hz2⟩ := info_parts info2
  have I0 : Hid (Ints (w.alloc (.cells #[] 2)) w.heap.size (.slice (some ⟨w.heap.size, 0, none⟩) 0 0) []) := ⟨World.ownsRow_lit w #[] 0 (Nat.le_refl _) (Nat.zero_le _) (by simp), by intro e; cases e⟩
  go_enter Tryz.func52, Tryz.ntmps52
  go_wp2
  go_loopw [1, 6] (fun t v wr => ∃ (pre : List Int) (cur : Int), t = .int .i64 cur ∧ lenOf v = pre.length ∧ pre.length ≤ n ∧ Hid (chain F n n id = (chain F n (n - pre.length) cur).map (pre ++ ·)) ∧ Hid (Ints wr w.heap.size v pre) ∧ Hid (Below w.heap.size w wr)) (fun _ v _ => n + 1 - lenOf v)
  case atStart =>
    refine ⟨[], id, rfl, rfl, Nat.zero_le _, ?_, I0, (Below.refl _ _).alloc (Nat.le_refl _) _⟩
    exact (by simp : chain F n n id = (chain F n (n - 0) id).map ([] ++ ·))
  case round =>
    obtain ⟨pre, cur, rfl, hlen, hpn, hch, hI, hB⟩ := hrel
    clear I0
    by_cases h0 : cur = 0
    · subst h0
      have E : Hid (chain F n n id = some pre) := (by rw [hch.out, chain_zero]; simp : chain F n n id = some pre)
      go_wp2
      go_ret2
      exact ⟨hB.out, Or.inr ⟨pre, _, E.out, rfl, hI.out⟩⟩
    · have b0 : (cur != 0) = true := by simp [h0]
      have H0 : Hid (cur ≠ 0) := h0
      clear h0
      obtain ⟨g, cap, hv, hg1, hg2⟩ := hI.out.shape
      subst hv
      go_wp2_with fail
      refine (specAt a n c F cur _ (H.out.below hB.out)).mono ?_
      rintro e w1 ⟨rfl, rfl⟩
      rcases placeI_of (F := F) (n := n) (id := cur) with ⟨hp, hpi⟩ | ⟨i, hp, hin, hpi⟩
      · have E : Hid (chain F n n id = none) := (by rw [hch.out, chain_none _ _ _ _ H0.out hp]; rfl : chain F n n id = none)
        rw [hpi]
        clear hp hpi
        go_wp2
        go_ret2
        exact ⟨hB.out, Or.inl ⟨E.out, rfl⟩⟩
      · rw [hpi]
        by_cases hfull : pre.length = n
        · have E : Hid (chain F n n id = none) := (by rw [hch.out, hfull, Nat.sub_self]; simp [chain, H0.out] : chain F n n id = none)
          have bf : ((pre.length : Int) == (n : Int)) = true := by simp [hfull]
          clear hp hpi hfull
          go_wp2
          go_ret2
          exact ⟨hB.out, Or.inl ⟨E.out, rfl⟩⟩
        · have bf : ((pre.length : Int) == (n : Int)) = false := by simp; omega
          have E : Hid (chain F n n id = (chain F n (n - (pre ++ [cur]).length) (F i).up).map ((pre ++ [cur]) ++ ·)) := by
            have e1 : n - pre.length = (n - (pre ++ [cur]).length) + 1 := by simp; omega
            have e2 : chain F n n id = (chain F n (n - (pre ++ [cur]).length) (F i).up).map ((pre ++ [cur]) ++ ·) := by
              rw [hch.out, e1]
              simp only [chain, if_neg H0.out, hp, Option.map_map]
              congr 1
              funext l
              simp
            exact e2
          obtain ⟨b, o, rfl, hb0, hA0⟩ := H.out.acc hin
          have hb : b < w1.heap.size := Nat.lt_of_lt_of_le hb0 hB.out.size
          have hA := hA0.of_cells (w' := w1) (fun q => hB.out.cell (p := ⟨b, q, none⟩) hb0)
          clear hA0
          have hplt : pre.length < n := by omega
          clear hp hpi hfull
          go_wp2_with (at_builtin; refine wpList_append_own _ rfl _ _ 33 rfl w.heap.size 2 i0 (.int .i64 0) 1 8 Tryz.underlying33 hi hz0 hz1 hz2 rfl (by decide) _ _ _ rfl (hI.out.1.alloc _) ⟨_, 0, none⟩ 1 1 [.int .i64 cur] rfl rfl ?_ ?_ ?_ ?_ ?_ ?_)
          · intro j u hj
            match j, hj with
            | 0, hj => simp at hj; subst hj; simp [Addr.add, go_sem]
          · intro u hu; simp at hu; subst hu; rfl
          · unfold maxLen; omega
          · omega
          · have := hB.out.size; simp; omega
          · intro v' w2 hown hgrow hnn
            have I2 : Hid (Ints w2 w.heap.size v' (pre ++ [cur])) := ⟨by simpa using hown, hnn⟩
            obtain ⟨g', cap', hv', hg1', hg2'⟩ := I2.out.shape
            subst hv'
            have B2 : Hid (Below w.heap.size w w2) := (hB.out.alloc hB.out.size _).grown hgrow (by have := hB.out.size; simp; omega) (fun k hk => by simp [Value.ownBlock] at hk; omega)
            have hA2 : AccAt w2 b (o + i * 8) (F i) := by
              refine hA.of_cells (fun q => World.cell?_of_block (w := w1) ?_)
              show w2.heap[b]? = w1.heap[b]?
              rw [hgrow.block b (by simp; omega) (by simp [Value.ownBlock]; omega), Below.heap_alloc _ _ _ hb]
            obtain ⟨c0, c1, c2, c3, c4, c5, c6, c7⟩ := hA2
            clear hown hgrow hnn hA
            go_wp2
            go_roundw
            case rel => exact ⟨pre ++ [cur], (F i).up, rfl, rfl, by simp; omega, E, I2, B2⟩
            case measure => simp [lenOf]; omega
end Go.Proofs.YtedhlmipcfdldaaGreatDoor
