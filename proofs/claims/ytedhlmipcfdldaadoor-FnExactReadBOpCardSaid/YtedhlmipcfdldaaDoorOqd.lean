/- l6Op of the specification: a day, an order taken back, an order. Conditions: the numbers lie in memory. -/
import Derived.Test.YtedhlmipcfdldaaDoorOpx
import Derived.Deep.DeepCutAuto
namespace Go.Proofs.YtedhlmipcfdldaaDoor
open Go.RowKit
set_option maxRecDepth 8000

set_option maxHeartbeats 4000000 in
theorem specOp_day (wd : ByteArray) (a : Option Addr) (c : Nat) (w : World) (h1 : wd.toList = [100, 97, 121])
     :
    Calls Tryd.prog 9 #[.string wd, .slice a 0 c] w fun e w' => OpOut w 22 ⟨0, 0, 0, 0, 0⟩ ⟨0, 0, 0, 0, 0, 0, 0⟩ 0 e w' := by
  obtain ⟨W0, hW0, X0, HB⟩ : ∃ W0, W0 = (w.alloc (.cells (bl0 0).toArray 27)).alloc (.cells (bl0 19).toArray 27) ∧ Hid (Two W0 w.heap.size) ∧ Hid (Below w.heap.size w W0) := ⟨_, rfl, Two.new w, ((Below.refl _ _).alloc (Nat.le_refl _) _).alloc (by simp) _⟩
  have HW0 : Hid (W0 = _) := hW0
  clear hW0
  go_enter Tryd.func9, Tryd.ntmps9
  go_wp2_with fail
  rw [← HW0.out]
  refine (specKind wd _).mono ?_
  rintro e w1 ⟨k, hK, hk, rfl, B1⟩
  have X1 : Hid (Two w1 w.heap.size) := X0.out.kept B1
  have BB : Hid (Below w.heap.size w w1) := HB.out.trans (B1.mono HB.out.size)
  obtain ⟨h, hh⟩ : ∃ h, w.heap.size = h := ⟨_, rfl⟩
  have HH : Hid (w.heap.size = h) := hh
  rw [hh] at X1 BB ⊢
  clear hK B1 X0 HB HW0 hh
  have x1 := X1.out.1.1 1 _ rfl
  have fz := X1.out.1.2.1
  go_upto_region 4 with fail
  obtain ⟨W2, hW2, R2⟩ : ∃ W2, W2 = w1.setCell ⟨h + 1, 1, none⟩ (.int .i64 k) ∧ Hid (Vals W2 h (bl0 0) ∧ Below h w W2 ∧ ∀ p : Addr, p.block < h → W2.cell? p = w1.cell? p) :=
    ⟨_, rfl, X1.out.2.far (by omega) _ _, BB.out.setCell (p := ⟨h + 1, 1, none⟩) (by show h ≤ h + 1; omega) _, fun p hp => World.cell?_setCell_other _ _ _ _ (by intro e; have := congrArg Addr.block e; simp at this; omega)⟩
  rw [← hW2]
  clear hW2 x1 fz
  have fz := R2.out.1.2.1
  have r0 := R2.out.1.1 0 _ rfl
  have r1 := R2.out.1.1 1 _ rfl
  have r2 := R2.out.1.1 2 _ rfl
  have r3 := R2.out.1.1 3 _ rfl
  have r4 := R2.out.1.1 4 _ rfl
  have r5 := R2.out.1.1 5 _ rfl
  have r6 := R2.out.1.1 6 _ rfl
  have r7 := R2.out.1.1 7 _ rfl
  have r8 := R2.out.1.1 8 _ rfl
  have r9 := R2.out.1.1 9 _ rfl
  have r10 := R2.out.1.1 10 _ rfl
  have r11 := R2.out.1.1 11 _ rfl
  have r12 := R2.out.1.1 12 _ rfl
  have r13 := R2.out.1.1 13 _ rfl
  have FI : Hid (∀ W, Below h w W → OpOut w 22 ⟨0, 0, 0, 0, 0⟩ ⟨0, 0, 0, 0, 0, 0, 0⟩ 0 (.returned (.agg [.int .i64 22, .int .i64 0, .int .i64 0, .int .i64 0, .int .i64 0, .int .i64 0, .int .i64 0, .int .i64 0, .int .i64 0, .int .i64 0, .int .i64 0, .int .i64 0, .int .i64 0, .int .i64 0].toArray)) W) := fun W hb => ⟨rfl, HH.out ▸ hb⟩
  clear BB X1
  all_goals go_wp2
  all_goals refine bodyPost_ret (v := .agg #[.int .i64 22, .int .i64 0, .int .i64 0, .int .i64 0, .int .i64 0, .int .i64 0, .int .i64 0, .int .i64 0, .int .i64 0, .int .i64 0, .int .i64 0, .int .i64 0, .int .i64 0, .int .i64 0]) (by simp [results, Tryd.results9, go_sem, r0, r1, r2, r3, r4, r5, r6, r7, r8, r9, r10, r11, r12, r13]) rfl ?_
  all_goals exact FI.out _ ((((((((((((((R2.out.2.1.setCell (p := ⟨h, 0, none⟩) (Nat.le_refl _) _).setCell (p := ⟨h, 1, none⟩) (Nat.le_refl _) _).setCell (p := ⟨h, 2, none⟩) (Nat.le_refl _) _).setCell (p := ⟨h, 3, none⟩) (Nat.le_refl _) _).setCell (p := ⟨h, 4, none⟩) (Nat.le_refl _) _).setCell (p := ⟨h, 5, none⟩) (Nat.le_refl _) _).setCell (p := ⟨h, 6, none⟩) (Nat.le_refl _) _).setCell (p := ⟨h, 7, none⟩) (Nat.le_refl _) _).setCell (p := ⟨h, 8, none⟩) (Nat.le_refl _) _).setCell (p := ⟨h, 9, none⟩) (Nat.le_refl _) _).setCell (p := ⟨h, 10, none⟩) (Nat.le_refl _) _).setCell (p := ⟨h, 11, none⟩) (Nat.le_refl _) _).setCell (p := ⟨h, 12, none⟩) (Nat.le_refl _) _).setCell (p := ⟨h, 13, none⟩) (Nat.le_refl _) _)
end Go.Proofs.YtedhlmipcfdldaaDoor
