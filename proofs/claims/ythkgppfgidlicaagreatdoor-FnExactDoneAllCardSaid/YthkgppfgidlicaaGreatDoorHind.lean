/- The program's look-ups of an account, warm or not. Conditions: the accounts lie in memory; the package's errors lie as they were laid. -/
import Derived.Test.YthkgppfgidlicaaGreatDoorErrs
import Derived.Test.YthkgppfgidlicaaGreatDoorChA
namespace Go.Proofs.YthkgppfgidlicaaGreatDoor
open Go.RowKit

theorem below_drewH {B : Nat} (W : World) : Below B W W.drew := ⟨rfl, rfl, rfl, Nat.le_refl _, fun _ _ => rfl⟩

set_option maxRecDepth 8000 in
set_option maxHeartbeats 1000000 in
theorem found_yes (a : Option Addr) (n c : Nat) (F : Nat → Acc) (id : Int) (j : Nat) (w : World) (h : Fo w a n F) (hj : place F n id = some j) :
    Calls Tryz.prog 122 #[.slice a n c, .int .i64 id] w fun e w' => e = .returned (.tuple #[.agg #[.int .i64 (F j).id, .int .i64 (F j).up, .int .i64 (F j).limit, .int .i64 (F j).rate, .int .i64 (F j).target, .bool (F j).frozen, .int .i64 (F j).balance, .int .i64 (F j).carry], .nilIface]) ∧ Below w.heap.size w w' := by
  have hjn := (place_some hj).1
  have hn := h.1
  have HP : Hid (placeI F n id = (j : Int)) := placeI_some hj
  have H : Hid (Fo w a n F) := h
  have X0 : Hid (Box (w.alloc (.cells #[.int .i64 0, .int .i64 0, .int .i64 0, .int .i64 0, .int .i64 0, .bool false, .int .i64 0, .int .i64 0] 38)) w.heap.size ⟨0, 0, 0, 0, 0, false, 0, 0⟩) := Box.new w ⟨0, 0, 0, 0, 0, false, 0, 0⟩ 38
  clear h hj
  go_enter Tryz.func122, Tryz.ntmps122
  go_wp2_with fail
  refine (implAt a n c F id _ (H.out.alloc _)).mono ?_
  rw [HP.out]
  rintro e w1 ⟨rfl, B1⟩
  have X1 : Hid (Box w1 w.heap.size ⟨0, 0, 0, 0, 0, false, 0, 0⟩) := X0.out.below B1
  have B1' : Hid (Below w.heap.size w w1) := ((Below.refl _ _).alloc (Nat.le_refl _) _).trans (B1.mono (by simp))
  clear B1 X0
  obtain ⟨b, q, rfl, hb, hA⟩ := (H.out.below B1'.out).acc hjn
  obtain ⟨c0, c1, c2, c3, c4, c5, c6, c7⟩ := hA
  obtain ⟨⟨r0, r1, r2, r3, r4, r5, r6, r7⟩, rf, _⟩ := X1.out
  simp only [Nat.zero_add] at r0 r1 r2 r3 r4 r5 r6 r7
  go_wp2
  refine bodyPost_ret (v := .tuple #[.agg #[.int .i64 (F j).id, .int .i64 (F j).up, .int .i64 (F j).limit, .int .i64 (F j).rate, .int .i64 (F j).target, .bool (F j).frozen, .int .i64 (F j).balance, .int .i64 (F j).carry], .nilIface]) (by simp [results, Tryz.results122, go_sem, r0, r1, r2, r3, r4, r5, r6, r7]) rfl ⟨rfl, ?_⟩
  have z := set8_below B1'.out w.heap.size 0 (F j) (Nat.le_refl _)
  unfold set8 at z
  simpa using z

set_option maxRecDepth 8000 in
set_option maxHeartbeats 1000000 in
theorem found_no (a : Option Addr) (n c : Nat) (F : Nat → Acc) (id : Int) (p : Nat → Addr) (w : World) (h : Fo w a n F) (hj : place F n id = none) (hG : GE w p) :
    Calls Tryz.prog 122 #[.slice a n c, .int .i64 id] w fun e w' => e = .returned (.tuple #[.agg #[.int .i64 0, .int .i64 0, .int .i64 0, .int .i64 0, .int .i64 0, .bool false, .int .i64 0, .int .i64 0], .iface 93 (.agg #[.int .i64 id, .iface 166 (.pointer (some (p 2)))])]) ∧ Below w.heap.size w w' := by
  have HP : Hid (placeI F n id = -1) := placeI_none hj
  have H : Hid (Fo w a n F) := h
  have X0 : Hid (Box (w.alloc (.cells #[.int .i64 0, .int .i64 0, .int .i64 0, .int .i64 0, .int .i64 0, .bool false, .int .i64 0, .int .i64 0] 38)) w.heap.size ⟨0, 0, 0, 0, 0, false, 0, 0⟩) := Box.new w ⟨0, 0, 0, 0, 0, false, 0, 0⟩ 38
  have G0 : Hid (GE w p) := hG
  clear h hj hG
  go_enter Tryz.func122, Tryz.ntmps122
  go_wp2_with fail
  refine (implAt a n c F id _ (H.out.alloc _)).mono ?_
  rw [HP.out]
  rintro e w1 ⟨rfl, B1⟩
  have X1 : Hid (Box w1 w.heap.size ⟨0, 0, 0, 0, 0, false, 0, 0⟩) := X0.out.below B1
  have B1' : Hid (Below w.heap.size w w1) := ((Below.refl _ _).alloc (Nat.le_refl _) _).trans (B1.mono (by simp))
  clear B1 X0
  have gv := (G0.out.below B1'.out).var 2 (by omega)
  have hz7 := G0.out.size
  have ne2 : ¬ w.heap.size = 2 := by omega
  have ne2' : ¬ 2 = w.heap.size := by omega
  obtain ⟨⟨r0, r1, r2, r3, r4, r5, r6, r7⟩, rf, _⟩ := X1.out
  simp only [Nat.zero_add] at r0 r1 r2 r3 r4 r5 r6 r7
  go_wp2
  go_region
  all_goals go_wp2
  all_goals refine bodyPost_ret (v := .tuple #[.agg #[.int .i64 0, .int .i64 0, .int .i64 0, .int .i64 0, .int .i64 0, .bool false, .int .i64 0, .int .i64 0], .iface 93 (.agg #[.int .i64 id, .iface 166 (.pointer (some (p 2)))])]) ?_ rfl ⟨rfl, ?_⟩
  · simp [results, Tryz.results122, go_sem, r0, r1, r2, r3, r4, r5, r6, r7]
  · have z := Below.trans (set8_below B1'.out w.heap.size 0 ⟨0, 0, 0, 0, 0, false, 0, 0⟩ (Nat.le_refl _)) (below_drewH (set8 w1 w.heap.size 0 ⟨0, 0, 0, 0, 0, false, 0, 0⟩))
    unfold set8 at z
    simpa using z

set_option maxRecDepth 8000 in
set_option maxHeartbeats 1000000 in
theorem warm_yes (a : Option Addr) (n c : Nat) (F : Nat → Acc) (id : Int) (j : Nat) (w : World) (h : Fo w a n F) (hj : place F n id = some j) (hf : (F j).frozen = false) :
    Calls Tryz.prog 125 #[.slice a n c, .int .i64 id] w fun e w' => e = .returned (.tuple #[.agg #[.int .i64 (F j).id, .int .i64 (F j).up, .int .i64 (F j).limit, .int .i64 (F j).rate, .int .i64 (F j).target, .bool false, .int .i64 (F j).balance, .int .i64 (F j).carry], .nilIface]) ∧ Below w.heap.size w w' := by
  have H : Hid (Fo w a n F) := h
  have HJ : Hid (place F n id = some j) := hj
  have HF : Hid ((F j).frozen = false) := hf
  have X0 : Hid (Box (w.alloc (.cells #[.int .i64 0, .int .i64 0, .int .i64 0, .int .i64 0, .int .i64 0, .bool false, .int .i64 0, .int .i64 0] 38)) w.heap.size ⟨0, 0, 0, 0, 0, false, 0, 0⟩) := Box.new w ⟨0, 0, 0, 0, 0, false, 0, 0⟩ 38
  clear h hj hf
  go_enter Tryz.func125, Tryz.ntmps125
  go_wp2_with fail
  refine (found_yes a n c F id j _ (H.out.alloc _) HJ.out).mono ?_
  rw [HF.out]
  rintro e w1 ⟨rfl, B1⟩
  have X1 : Hid (Box w1 w.heap.size ⟨0, 0, 0, 0, 0, false, 0, 0⟩) := X0.out.below B1
  have B1' : Hid (Below w.heap.size w w1) := ((Below.refl _ _).alloc (Nat.le_refl _) _).trans (B1.mono (by simp))
  clear B1 X0
  have X2 : Hid (Box (w1.alloc (.cells #[.int .i64 (F j).id, .int .i64 (F j).up, .int .i64 (F j).limit, .int .i64 (F j).rate, .int .i64 (F j).target, .bool false, .int .i64 (F j).balance, .int .i64 (F j).carry] 38)) w.heap.size ⟨0, 0, 0, 0, 0, false, 0, 0⟩) := X1.out.below ((Below.refl _ _).alloc (Nat.le_refl _) _)
  obtain ⟨⟨r0, r1, r2, r3, r4, r5, r6, r7⟩, rf, _⟩ := X2.out
  simp only [Nat.zero_add] at r0 r1 r2 r3 r4 r5 r6 r7
  go_wp2
  refine bodyPost_ret (v := .tuple #[.agg #[.int .i64 (F j).id, .int .i64 (F j).up, .int .i64 (F j).limit, .int .i64 (F j).rate, .int .i64 (F j).target, .bool false, .int .i64 (F j).balance, .int .i64 (F j).carry], .nilIface]) (by simp [results, Tryz.results125, go_sem, r0, r1, r2, r3, r4, r5, r6, r7]) rfl ⟨rfl, ?_⟩
  have z := set8_below (B1'.out.alloc B1'.out.size (.cells #[.int .i64 (F j).id, .int .i64 (F j).up, .int .i64 (F j).limit, .int .i64 (F j).rate, .int .i64 (F j).target, .bool false, .int .i64 (F j).balance, .int .i64 (F j).carry] 38)) w.heap.size 0 { F j with frozen := false } (Nat.le_refl _)
  unfold set8 at z
  simpa using z

set_option maxRecDepth 8000 in
set_option maxHeartbeats 1000000 in
theorem warm_frozen (a : Option Addr) (n c : Nat) (F : Nat → Acc) (id : Int) (j : Nat) (p : Nat → Addr) (w : World) (h : Fo w a n F) (hj : place F n id = some j) (hf : (F j).frozen = true) (hG : GE w p) :
    Calls Tryz.prog 125 #[.slice a n c, .int .i64 id] w fun e w' => e = .returned (.tuple #[.agg #[.int .i64 (F j).id, .int .i64 (F j).up, .int .i64 (F j).limit, .int .i64 (F j).rate, .int .i64 (F j).target, .bool true, .int .i64 (F j).balance, .int .i64 (F j).carry], .iface 93 (.agg #[.int .i64 id, .iface 166 (.pointer (some (p 4)))])]) ∧ Below w.heap.size w w' := by
  have H : Hid (Fo w a n F) := h
  have HJ : Hid (place F n id = some j) := hj
  have HF : Hid ((F j).frozen = true) := hf
  have X0 : Hid (Box (w.alloc (.cells #[.int .i64 0, .int .i64 0, .int .i64 0, .int .i64 0, .int .i64 0, .bool false, .int .i64 0, .int .i64 0] 38)) w.heap.size ⟨0, 0, 0, 0, 0, false, 0, 0⟩) := Box.new w ⟨0, 0, 0, 0, 0, false, 0, 0⟩ 38
  have G0 : Hid (GE w p) := hG
  clear hG
  clear h hj hf
  go_enter Tryz.func125, Tryz.ntmps125
  go_wp2_with fail
  refine (found_yes a n c F id j _ (H.out.alloc _) HJ.out).mono ?_
  rw [HF.out]
  rintro e w1 ⟨rfl, B1⟩
  have X1 : Hid (Box w1 w.heap.size ⟨0, 0, 0, 0, 0, false, 0, 0⟩) := X0.out.below B1
  have B1' : Hid (Below w.heap.size w w1) := ((Below.refl _ _).alloc (Nat.le_refl _) _).trans (B1.mono (by simp))
  clear B1 X0
  have X2 : Hid (Box (w1.alloc (.cells #[.int .i64 (F j).id, .int .i64 (F j).up, .int .i64 (F j).limit, .int .i64 (F j).rate, .int .i64 (F j).target, .bool true, .int .i64 (F j).balance, .int .i64 (F j).carry] 38)) w.heap.size ⟨0, 0, 0, 0, 0, false, 0, 0⟩) := X1.out.below ((Below.refl _ _).alloc (Nat.le_refl _) _)
  obtain ⟨⟨r0, r1, r2, r3, r4, r5, r6, r7⟩, rf, _⟩ := X2.out
  simp only [Nat.zero_add] at r0 r1 r2 r3 r4 r5 r6 r7
  have gv := ((G0.out.below B1'.out).below ((Below.refl _ _).alloc (Nat.le_refl _) (.cells #[.int .i64 (F j).id, .int .i64 (F j).up, .int .i64 (F j).limit, .int .i64 (F j).rate, .int .i64 (F j).target, .bool true, .int .i64 (F j).balance, .int .i64 (F j).carry] 38))).var 4 (by omega)
  go_wp2
  refine bodyPost_ret (v := .tuple #[.agg #[.int .i64 (F j).id, .int .i64 (F j).up, .int .i64 (F j).limit, .int .i64 (F j).rate, .int .i64 (F j).target, .bool true, .int .i64 (F j).balance, .int .i64 (F j).carry], .iface 93 (.agg #[.int .i64 id, .iface 166 (.pointer (some (p 4)))])]) (by simp [results, Tryz.results125, go_sem, r0, r1, r2, r3, r4, r5, r6, r7]) rfl ⟨rfl, ?_⟩
  have z := set8_below (B1'.out.alloc B1'.out.size (.cells #[.int .i64 (F j).id, .int .i64 (F j).up, .int .i64 (F j).limit, .int .i64 (F j).rate, .int .i64 (F j).target, .bool true, .int .i64 (F j).balance, .int .i64 (F j).carry] 38)) w.heap.size 0 { F j with frozen := true } (Nat.le_refl _)
  unfold set8 at z
  simpa using z

set_option maxRecDepth 8000 in
set_option maxHeartbeats 1000000 in
theorem warm_no (a : Option Addr) (n c : Nat) (F : Nat → Acc) (id : Int) (p : Nat → Addr) (w : World) (h : Fo w a n F) (hj : place F n id = none) (hG : GE w p) :
    Calls Tryz.prog 125 #[.slice a n c, .int .i64 id] w fun e w' => e = .returned (.tuple #[.agg #[.int .i64 0, .int .i64 0, .int .i64 0, .int .i64 0, .int .i64 0, .bool false, .int .i64 0, .int .i64 0], .iface 93 (.agg #[.int .i64 id, .iface 166 (.pointer (some (p 2)))])]) ∧ Below w.heap.size w w' := by
  have H : Hid (Fo w a n F) := h
  have HJ : Hid (place F n id = none) := hj
  have G0 : Hid (GE w p) := hG
  have X0 : Hid (Box (w.alloc (.cells #[.int .i64 0, .int .i64 0, .int .i64 0, .int .i64 0, .int .i64 0, .bool false, .int .i64 0, .int .i64 0] 38)) w.heap.size ⟨0, 0, 0, 0, 0, false, 0, 0⟩) := Box.new w ⟨0, 0, 0, 0, 0, false, 0, 0⟩ 38
  clear h hj hG
  go_enter Tryz.func125, Tryz.ntmps125
  go_wp2_with fail
  refine (found_no a n c F id p _ (H.out.alloc _) HJ.out (G0.out.below ((Below.refl _ _).alloc (Nat.le_refl _) _))).mono ?_
  rintro e w1 ⟨rfl, B1⟩
  have X1 : Hid (Box w1 w.heap.size ⟨0, 0, 0, 0, 0, false, 0, 0⟩) := X0.out.below B1
  have B1' : Hid (Below w.heap.size w w1) := ((Below.refl _ _).alloc (Nat.le_refl _) _).trans (B1.mono (by simp))
  clear B1 X0
  have X2 : Hid (Box (w1.alloc (.cells #[.int .i64 0, .int .i64 0, .int .i64 0, .int .i64 0, .int .i64 0, .bool false, .int .i64 0, .int .i64 0] 38)) w.heap.size ⟨0, 0, 0, 0, 0, false, 0, 0⟩) := X1.out.below ((Below.refl _ _).alloc (Nat.le_refl _) _)
  obtain ⟨⟨r0, r1, r2, r3, r4, r5, r6, r7⟩, rf, _⟩ := X2.out
  simp only [Nat.zero_add] at r0 r1 r2 r3 r4 r5 r6 r7
  go_wp2
  refine bodyPost_ret (v := .tuple #[.agg #[.int .i64 0, .int .i64 0, .int .i64 0, .int .i64 0, .int .i64 0, .bool false, .int .i64 0, .int .i64 0], .iface 93 (.agg #[.int .i64 id, .iface 166 (.pointer (some (p 2)))])]) (by simp [results, Tryz.results125, go_sem, r0, r1, r2, r3, r4, r5, r6, r7]) rfl ⟨rfl, ?_⟩
  have z := set8_below (B1'.out.alloc B1'.out.size (.cells #[.int .i64 0, .int .i64 0, .int .i64 0, .int .i64 0, .int .i64 0, .bool false, .int .i64 0, .int .i64 0] 38)) w.heap.size 0 ⟨0, 0, 0, 0, 0, false, 0, 0⟩ (Nat.le_refl _)
  unfold set8 at z
  simpa using z
end Go.Proofs.YthkgppfgidlicaaGreatDoor
