/- What hinders an op of one account, in the program: freezing, thawing, putting, limits, targets. Conditions: the accounts lie in memory and are a right forest; the package's errors lie as they were laid. -/
import Derived.Test.YthkgppfgidlicaaGreatDoorHind
import Derived.Test.YthkgppfgidlicaaGreatDoorShortOn
import Derived.Test.YthkgppfgidlicaaGreatDoorActs
namespace Go.Proofs.YthkgppfgidlicaaGreatDoor
open Go.RowKit

/-- What a look for hindrances answers: nil, or a refusal with that code. -/
def HEnds (p : Nat → Addr) (code : Int) (e : Ending) : Prop := (code = 0 ∧ e = .returned .nilIface) ∨ (∃ i g, g < 7 ∧ codeG g = code ∧ code ≠ 0 ∧ e = .returned (refV p i g))
theorem HEnds.ok {p : Nat → Addr} {c : Int} (h : c = 0) : HEnds p c (.returned .nilIface) := Or.inl ⟨h, rfl⟩
theorem HEnds.ref {p : Nat → Addr} {c : Int} (i : Int) (g : Nat) (hg : g < 7) (h : c = codeG g) (h0 : codeG g ≠ 0) : HEnds p c (.returned (.iface 93 (.agg #[.int .i64 i, .iface 166 (.pointer (some (p g)))]))) := Or.inr ⟨i, g, hg, h.symm, by rw [h]; exact h0, rfl⟩
theorem part_none {L : List Acc} {k i t m r : Int} (hk : k ≠ 1) (h : place (FL L) L.length i = none) : (partS L k i t m r).1 = 3 := by simp [partS, hk, h]
theorem part_act {L : List Acc} {k i t m r : Int} {j : Nat} (hk : k ≠ 1) (h7 : k ≠ 7) (h9 : k ≠ 9) (h : place (FL L) L.length i = some j) : (partS L k i t m r).1 = (actS L j k m).1 := by simp [partS, hk, h7, h9, h]

set_option maxRecDepth 8000 in
set_option maxHeartbeats 1000000 in
theorem hPut (a : Option Addr) (c : Nat) (L : List Acc) (i t m r : Int) (p : Nat → Addr) (w : World) (h : Fo w a L.length (FL L)) (hR : Right (FL L) L.length) (hG : GE w p) :
    Calls Tryz.prog 127 #[.agg #[.int .i64 i, .int .i64 m], .slice a L.length c] w fun e w' => HEnds p (partS L 5 i t m r).1 e ∧ Below w.heap.size w w' := by
  have H : Hid (Fo (w.alloc (.cells #[.int .i64 i, .int .i64 m] 117)) a L.length (FL L)) := h.alloc _
  have HR : Hid (Right (FL L) L.length) := hR
  have G0 : Hid (GE (w.alloc (.cells #[.int .i64 i, .int .i64 m] 117)) p) := hG.below ((Below.refl _ _).alloc (Nat.le_refl _) _)
  have B0 : Hid (Below w.heap.size w (w.alloc (.cells #[.int .i64 i, .int .i64 m] 117))) := (Below.refl _ _).alloc (Nat.le_refl _) _
  clear h hR hG
  cases hp : place (FL L) L.length i with
  | none =>
    have HJ : Hid (place (FL L) L.length i = none) := hp
    have E : Hid ((partS L 5 i t m r).1 = codeG 2) := part_none (by decide) hp
    clear hp
    go_enter Tryz.func127, Tryz.ntmps127
    go_wp2_with fail
    refine (warm_no a L.length c (FL L) i p _ H.out HJ.out G0.out).mono ?_
    skip
    rintro e w1 ⟨rfl, B1⟩
    have hz : w.heap.size < w1.heap.size := Nat.lt_of_lt_of_le (by simp) B1.size
    have BX : ∀ q, (w1.alloc (.cells #[.int .i64 0, .int .i64 0, .int .i64 0, .int .i64 0, .int .i64 0, .bool false, .int .i64 0, .int .i64 0] 38)).cell? ⟨w.heap.size, q, none⟩ = (w.alloc (.cells #[.int .i64 i, .int .i64 m] 117)).cell? ⟨w.heap.size, q, none⟩ := fun q => by
      rw [World.cell?_alloc_lt _ _ ⟨w.heap.size, q, none⟩ hz, B1.cell (p := ⟨w.heap.size, q, none⟩) (by simp)]
    have G1 : Hid (GE (w1.alloc (.cells #[.int .i64 0, .int .i64 0, .int .i64 0, .int .i64 0, .int .i64 0, .bool false, .int .i64 0, .int .i64 0] 38)) p) := (G0.out.below B1).below ((Below.refl _ _).alloc (Nat.le_refl _) _)
    have B1' : Hid (Below w.heap.size w (w1.alloc (.cells #[.int .i64 0, .int .i64 0, .int .i64 0, .int .i64 0, .int .i64 0, .bool false, .int .i64 0, .int .i64 0] 38))) := (B0.out.trans (B1.mono (by simp))).alloc (Nat.le_of_lt hz) _
    clear B1
    go_wp2
    go_ret
    exact ⟨HEnds.ref i 2 (by omega) E.out (by decide), B1'.out⟩
  | some j =>
    have HJ : Hid (place (FL L) L.length i = some j) := hp
    have EA : Hid ((partS L 5 i t m r).1 = (actS L j 5 m).1) := part_act (by decide) (by decide) (by decide) hp
    clear hp
    cases hf : (FL L j).frozen with
    | true =>
      have HFZ : Hid ((FL L j).frozen = true) := hf
      have E : Hid ((partS L 5 i t m r).1 = codeG 4) := (by rw [EA.out]; simp [actS, hf, codeG] : (partS L 5 i t m r).1 = codeG 4)
      clear hf
      go_enter Tryz.func127, Tryz.ntmps127
      go_wp2_with fail
      refine (warm_frozen a L.length c (FL L) i j p _ H.out HJ.out HFZ.out G0.out).mono ?_
      skip
      rintro e w1 ⟨rfl, B1⟩
      have hz : w.heap.size < w1.heap.size := Nat.lt_of_lt_of_le (by simp) B1.size
      have BX : ∀ q, (w1.alloc (.cells #[.int .i64 (FL L j).id, .int .i64 (FL L j).up, .int .i64 (FL L j).limit, .int .i64 (FL L j).rate, .int .i64 (FL L j).target, .bool true, .int .i64 (FL L j).balance, .int .i64 (FL L j).carry] 38)).cell? ⟨w.heap.size, q, none⟩ = (w.alloc (.cells #[.int .i64 i, .int .i64 m] 117)).cell? ⟨w.heap.size, q, none⟩ := fun q => by
        rw [World.cell?_alloc_lt _ _ ⟨w.heap.size, q, none⟩ hz, B1.cell (p := ⟨w.heap.size, q, none⟩) (by simp)]
      have G1 : Hid (GE (w1.alloc (.cells #[.int .i64 (FL L j).id, .int .i64 (FL L j).up, .int .i64 (FL L j).limit, .int .i64 (FL L j).rate, .int .i64 (FL L j).target, .bool true, .int .i64 (FL L j).balance, .int .i64 (FL L j).carry] 38)) p) := (G0.out.below B1).below ((Below.refl _ _).alloc (Nat.le_refl _) _)
      have B1' : Hid (Below w.heap.size w (w1.alloc (.cells #[.int .i64 (FL L j).id, .int .i64 (FL L j).up, .int .i64 (FL L j).limit, .int .i64 (FL L j).rate, .int .i64 (FL L j).target, .bool true, .int .i64 (FL L j).balance, .int .i64 (FL L j).carry] 38))) := (B0.out.trans (B1.mono (by simp))).alloc (Nat.le_of_lt hz) _
      clear B1
      go_wp2
      go_ret
      exact ⟨HEnds.ref i 4 (by omega) E.out (by decide), B1'.out⟩
    | false =>
      have HFZ : Hid ((FL L j).frozen = false) := hf
      have E : Hid ((partS L 5 i t m r).1 = 0) := (by rw [EA.out]; simp [actS, hf] : (partS L 5 i t m r).1 = 0)
      clear hf
      go_enter Tryz.func127, Tryz.ntmps127
      go_wp2_with fail
      refine (warm_yes a L.length c (FL L) i j _ H.out HJ.out HFZ.out).mono ?_
      skip
      rintro e w1 ⟨rfl, B1⟩
      have hz : w.heap.size < w1.heap.size := Nat.lt_of_lt_of_le (by simp) B1.size
      have BX : ∀ q, (w1.alloc (.cells #[.int .i64 (FL L j).id, .int .i64 (FL L j).up, .int .i64 (FL L j).limit, .int .i64 (FL L j).rate, .int .i64 (FL L j).target, .bool false, .int .i64 (FL L j).balance, .int .i64 (FL L j).carry] 38)).cell? ⟨w.heap.size, q, none⟩ = (w.alloc (.cells #[.int .i64 i, .int .i64 m] 117)).cell? ⟨w.heap.size, q, none⟩ := fun q => by
        rw [World.cell?_alloc_lt _ _ ⟨w.heap.size, q, none⟩ hz, B1.cell (p := ⟨w.heap.size, q, none⟩) (by simp)]
      have G1 : Hid (GE (w1.alloc (.cells #[.int .i64 (FL L j).id, .int .i64 (FL L j).up, .int .i64 (FL L j).limit, .int .i64 (FL L j).rate, .int .i64 (FL L j).target, .bool false, .int .i64 (FL L j).balance, .int .i64 (FL L j).carry] 38)) p) := (G0.out.below B1).below ((Below.refl _ _).alloc (Nat.le_refl _) _)
      have B1' : Hid (Below w.heap.size w (w1.alloc (.cells #[.int .i64 (FL L j).id, .int .i64 (FL L j).up, .int .i64 (FL L j).limit, .int .i64 (FL L j).rate, .int .i64 (FL L j).target, .bool false, .int .i64 (FL L j).balance, .int .i64 (FL L j).carry] 38))) := (B0.out.trans (B1.mono (by simp))).alloc (Nat.le_of_lt hz) _
      clear B1
      go_wp2
      go_ret
      exact ⟨HEnds.ok E.out, B1'.out⟩

set_option maxRecDepth 8000 in
set_option maxHeartbeats 1000000 in
theorem hFrost2 (a : Option Addr) (c : Nat) (L : List Acc) (i t m r : Int) (p : Nat → Addr) (w : World) (h : Fo w a L.length (FL L)) (hR : Right (FL L) L.length) (hG : GE w p) :
    Calls Tryz.prog 123 #[.agg #[.int .i64 i, .bool true], .slice a L.length c] w fun e w' => HEnds p (partS L 2 i t m r).1 e ∧ Below w.heap.size w w' := by
  have H : Hid (Fo (w.alloc (.cells #[.int .i64 i, .bool true] 113)) a L.length (FL L)) := h.alloc _
  have HR : Hid (Right (FL L) L.length) := hR
  have G0 : Hid (GE (w.alloc (.cells #[.int .i64 i, .bool true] 113)) p) := hG.below ((Below.refl _ _).alloc (Nat.le_refl _) _)
  have B0 : Hid (Below w.heap.size w (w.alloc (.cells #[.int .i64 i, .bool true] 113))) := (Below.refl _ _).alloc (Nat.le_refl _) _
  clear h hR hG
  cases hp : place (FL L) L.length i with
  | none =>
    have HJ : Hid (place (FL L) L.length i = none) := hp
    have E : Hid ((partS L 2 i t m r).1 = codeG 2) := part_none (by decide) hp
    clear hp
    go_enter Tryz.func123, Tryz.ntmps123
    go_wp2_with fail
    refine (found_no a L.length c (FL L) i p _ H.out HJ.out G0.out).mono ?_
    skip
    rintro e w1 ⟨rfl, B1⟩
    have hz : w.heap.size < w1.heap.size := Nat.lt_of_lt_of_le (by simp) B1.size
    have BX : ∀ q, (w1.alloc (.cells #[.int .i64 0, .int .i64 0, .int .i64 0, .int .i64 0, .int .i64 0, .bool false, .int .i64 0, .int .i64 0] 38)).cell? ⟨w.heap.size, q, none⟩ = (w.alloc (.cells #[.int .i64 i, .bool true] 113)).cell? ⟨w.heap.size, q, none⟩ := fun q => by
      rw [World.cell?_alloc_lt _ _ ⟨w.heap.size, q, none⟩ hz, B1.cell (p := ⟨w.heap.size, q, none⟩) (by simp)]
    have G1 : Hid (GE (w1.alloc (.cells #[.int .i64 0, .int .i64 0, .int .i64 0, .int .i64 0, .int .i64 0, .bool false, .int .i64 0, .int .i64 0] 38)) p) := (G0.out.below B1).below ((Below.refl _ _).alloc (Nat.le_refl _) _)
    have B1' : Hid (Below w.heap.size w (w1.alloc (.cells #[.int .i64 0, .int .i64 0, .int .i64 0, .int .i64 0, .int .i64 0, .bool false, .int .i64 0, .int .i64 0] 38))) := (B0.out.trans (B1.mono (by simp))).alloc (Nat.le_of_lt hz) _
    clear B1
    go_wp2
    go_ret
    exact ⟨HEnds.ref i 2 (by omega) E.out (by decide), B1'.out⟩
  | some j =>
    have HJ : Hid (place (FL L) L.length i = some j) := hp
    have EA : Hid ((partS L 2 i t m r).1 = (actS L j 2 m).1) := part_act (by decide) (by decide) (by decide) hp
    clear hp
    cases hf : (FL L j).frozen with
    | true =>
      have HFZ : Hid ((FL L j).frozen = true) := hf
      have E : Hid ((partS L 2 i t m r).1 = codeG 4) := (by rw [EA.out]; simp [actS, hf, codeG] : (partS L 2 i t m r).1 = codeG 4)
      clear hf
      go_enter Tryz.func123, Tryz.ntmps123
      go_wp2_with fail
      refine (found_yes a L.length c (FL L) i j _ H.out HJ.out).mono ?_
      rw [HFZ.out]
      rintro e w1 ⟨rfl, B1⟩
      have hz : w.heap.size < w1.heap.size := Nat.lt_of_lt_of_le (by simp) B1.size
      have BX : ∀ q, (w1.alloc (.cells #[.int .i64 (FL L j).id, .int .i64 (FL L j).up, .int .i64 (FL L j).limit, .int .i64 (FL L j).rate, .int .i64 (FL L j).target, .bool true, .int .i64 (FL L j).balance, .int .i64 (FL L j).carry] 38)).cell? ⟨w.heap.size, q, none⟩ = (w.alloc (.cells #[.int .i64 i, .bool true] 113)).cell? ⟨w.heap.size, q, none⟩ := fun q => by
        rw [World.cell?_alloc_lt _ _ ⟨w.heap.size, q, none⟩ hz, B1.cell (p := ⟨w.heap.size, q, none⟩) (by simp)]
      have G1 : Hid (GE (w1.alloc (.cells #[.int .i64 (FL L j).id, .int .i64 (FL L j).up, .int .i64 (FL L j).limit, .int .i64 (FL L j).rate, .int .i64 (FL L j).target, .bool true, .int .i64 (FL L j).balance, .int .i64 (FL L j).carry] 38)) p) := (G0.out.below B1).below ((Below.refl _ _).alloc (Nat.le_refl _) _)
      have B1' : Hid (Below w.heap.size w (w1.alloc (.cells #[.int .i64 (FL L j).id, .int .i64 (FL L j).up, .int .i64 (FL L j).limit, .int .i64 (FL L j).rate, .int .i64 (FL L j).target, .bool true, .int .i64 (FL L j).balance, .int .i64 (FL L j).carry] 38))) := (B0.out.trans (B1.mono (by simp))).alloc (Nat.le_of_lt hz) _
      clear B1
      have gv := G1.out.var 4 (by omega)
      go_wp2
      go_ret
      exact ⟨HEnds.ref i 4 (by omega) E.out (by decide), B1'.out⟩
    | false =>
      have HFZ : Hid ((FL L j).frozen = false) := hf
      have E : Hid ((partS L 2 i t m r).1 = 0) := (by rw [EA.out]; simp [actS, hf] : (partS L 2 i t m r).1 = 0)
      clear hf
      go_enter Tryz.func123, Tryz.ntmps123
      go_wp2_with fail
      refine (found_yes a L.length c (FL L) i j _ H.out HJ.out).mono ?_
      rw [HFZ.out]
      rintro e w1 ⟨rfl, B1⟩
      have hz : w.heap.size < w1.heap.size := Nat.lt_of_lt_of_le (by simp) B1.size
      have BX : ∀ q, (w1.alloc (.cells #[.int .i64 (FL L j).id, .int .i64 (FL L j).up, .int .i64 (FL L j).limit, .int .i64 (FL L j).rate, .int .i64 (FL L j).target, .bool false, .int .i64 (FL L j).balance, .int .i64 (FL L j).carry] 38)).cell? ⟨w.heap.size, q, none⟩ = (w.alloc (.cells #[.int .i64 i, .bool true] 113)).cell? ⟨w.heap.size, q, none⟩ := fun q => by
        rw [World.cell?_alloc_lt _ _ ⟨w.heap.size, q, none⟩ hz, B1.cell (p := ⟨w.heap.size, q, none⟩) (by simp)]
      have G1 : Hid (GE (w1.alloc (.cells #[.int .i64 (FL L j).id, .int .i64 (FL L j).up, .int .i64 (FL L j).limit, .int .i64 (FL L j).rate, .int .i64 (FL L j).target, .bool false, .int .i64 (FL L j).balance, .int .i64 (FL L j).carry] 38)) p) := (G0.out.below B1).below ((Below.refl _ _).alloc (Nat.le_refl _) _)
      have B1' : Hid (Below w.heap.size w (w1.alloc (.cells #[.int .i64 (FL L j).id, .int .i64 (FL L j).up, .int .i64 (FL L j).limit, .int .i64 (FL L j).rate, .int .i64 (FL L j).target, .bool false, .int .i64 (FL L j).balance, .int .i64 (FL L j).carry] 38))) := (B0.out.trans (B1.mono (by simp))).alloc (Nat.le_of_lt hz) _
      clear B1
      go_wp2
      go_ret
      exact ⟨HEnds.ok E.out, B1'.out⟩

set_option maxRecDepth 8000 in
set_option maxHeartbeats 1000000 in
theorem hFrost3 (a : Option Addr) (c : Nat) (L : List Acc) (i t m r : Int) (p : Nat → Addr) (w : World) (h : Fo w a L.length (FL L)) (hR : Right (FL L) L.length) (hG : GE w p) :
    Calls Tryz.prog 123 #[.agg #[.int .i64 i, .bool false], .slice a L.length c] w fun e w' => HEnds p (partS L 3 i t m r).1 e ∧ Below w.heap.size w w' := by
  have H : Hid (Fo (w.alloc (.cells #[.int .i64 i, .bool false] 113)) a L.length (FL L)) := h.alloc _
  have HR : Hid (Right (FL L) L.length) := hR
  have G0 : Hid (GE (w.alloc (.cells #[.int .i64 i, .bool false] 113)) p) := hG.below ((Below.refl _ _).alloc (Nat.le_refl _) _)
  have B0 : Hid (Below w.heap.size w (w.alloc (.cells #[.int .i64 i, .bool false] 113))) := (Below.refl _ _).alloc (Nat.le_refl _) _
  clear h hR hG
  cases hp : place (FL L) L.length i with
  | none =>
    have HJ : Hid (place (FL L) L.length i = none) := hp
    have E : Hid ((partS L 3 i t m r).1 = codeG 2) := part_none (by decide) hp
    clear hp
    go_enter Tryz.func123, Tryz.ntmps123
    go_wp2_with fail
    refine (found_no a L.length c (FL L) i p _ H.out HJ.out G0.out).mono ?_
    skip
    rintro e w1 ⟨rfl, B1⟩
    have hz : w.heap.size < w1.heap.size := Nat.lt_of_lt_of_le (by simp) B1.size
    have BX : ∀ q, (w1.alloc (.cells #[.int .i64 0, .int .i64 0, .int .i64 0, .int .i64 0, .int .i64 0, .bool false, .int .i64 0, .int .i64 0] 38)).cell? ⟨w.heap.size, q, none⟩ = (w.alloc (.cells #[.int .i64 i, .bool false] 113)).cell? ⟨w.heap.size, q, none⟩ := fun q => by
      rw [World.cell?_alloc_lt _ _ ⟨w.heap.size, q, none⟩ hz, B1.cell (p := ⟨w.heap.size, q, none⟩) (by simp)]
    have G1 : Hid (GE (w1.alloc (.cells #[.int .i64 0, .int .i64 0, .int .i64 0, .int .i64 0, .int .i64 0, .bool false, .int .i64 0, .int .i64 0] 38)) p) := (G0.out.below B1).below ((Below.refl _ _).alloc (Nat.le_refl _) _)
    have B1' : Hid (Below w.heap.size w (w1.alloc (.cells #[.int .i64 0, .int .i64 0, .int .i64 0, .int .i64 0, .int .i64 0, .bool false, .int .i64 0, .int .i64 0] 38))) := (B0.out.trans (B1.mono (by simp))).alloc (Nat.le_of_lt hz) _
    clear B1
    go_wp2
    go_ret
    exact ⟨HEnds.ref i 2 (by omega) E.out (by decide), B1'.out⟩
  | some j =>
    have HJ : Hid (place (FL L) L.length i = some j) := hp
    have EA : Hid ((partS L 3 i t m r).1 = (actS L j 3 m).1) := part_act (by decide) (by decide) (by decide) hp
    clear hp
    cases hf : (FL L j).frozen with
    | true =>
      have HFZ : Hid ((FL L j).frozen = true) := hf
      have E : Hid ((partS L 3 i t m r).1 = 0) := (by rw [EA.out]; simp [actS, hf] : (partS L 3 i t m r).1 = 0)
      clear hf
      go_enter Tryz.func123, Tryz.ntmps123
      go_wp2_with fail
      refine (found_yes a L.length c (FL L) i j _ H.out HJ.out).mono ?_
      rw [HFZ.out]
      rintro e w1 ⟨rfl, B1⟩
      have hz : w.heap.size < w1.heap.size := Nat.lt_of_lt_of_le (by simp) B1.size
      have BX : ∀ q, (w1.alloc (.cells #[.int .i64 (FL L j).id, .int .i64 (FL L j).up, .int .i64 (FL L j).limit, .int .i64 (FL L j).rate, .int .i64 (FL L j).target, .bool true, .int .i64 (FL L j).balance, .int .i64 (FL L j).carry] 38)).cell? ⟨w.heap.size, q, none⟩ = (w.alloc (.cells #[.int .i64 i, .bool false] 113)).cell? ⟨w.heap.size, q, none⟩ := fun q => by
        rw [World.cell?_alloc_lt _ _ ⟨w.heap.size, q, none⟩ hz, B1.cell (p := ⟨w.heap.size, q, none⟩) (by simp)]
      have G1 : Hid (GE (w1.alloc (.cells #[.int .i64 (FL L j).id, .int .i64 (FL L j).up, .int .i64 (FL L j).limit, .int .i64 (FL L j).rate, .int .i64 (FL L j).target, .bool true, .int .i64 (FL L j).balance, .int .i64 (FL L j).carry] 38)) p) := (G0.out.below B1).below ((Below.refl _ _).alloc (Nat.le_refl _) _)
      have B1' : Hid (Below w.heap.size w (w1.alloc (.cells #[.int .i64 (FL L j).id, .int .i64 (FL L j).up, .int .i64 (FL L j).limit, .int .i64 (FL L j).rate, .int .i64 (FL L j).target, .bool true, .int .i64 (FL L j).balance, .int .i64 (FL L j).carry] 38))) := (B0.out.trans (B1.mono (by simp))).alloc (Nat.le_of_lt hz) _
      clear B1
      go_wp2
      go_ret
      exact ⟨HEnds.ok E.out, B1'.out⟩
    | false =>
      have HFZ : Hid ((FL L j).frozen = false) := hf
      have E : Hid ((partS L 3 i t m r).1 = codeG 4) := (by rw [EA.out]; simp [actS, hf, codeG] : (partS L 3 i t m r).1 = codeG 4)
      clear hf
      go_enter Tryz.func123, Tryz.ntmps123
      go_wp2_with fail
      refine (found_yes a L.length c (FL L) i j _ H.out HJ.out).mono ?_
      rw [HFZ.out]
      rintro e w1 ⟨rfl, B1⟩
      have hz : w.heap.size < w1.heap.size := Nat.lt_of_lt_of_le (by simp) B1.size
      have BX : ∀ q, (w1.alloc (.cells #[.int .i64 (FL L j).id, .int .i64 (FL L j).up, .int .i64 (FL L j).limit, .int .i64 (FL L j).rate, .int .i64 (FL L j).target, .bool false, .int .i64 (FL L j).balance, .int .i64 (FL L j).carry] 38)).cell? ⟨w.heap.size, q, none⟩ = (w.alloc (.cells #[.int .i64 i, .bool false] 113)).cell? ⟨w.heap.size, q, none⟩ := fun q => by
        rw [World.cell?_alloc_lt _ _ ⟨w.heap.size, q, none⟩ hz, B1.cell (p := ⟨w.heap.size, q, none⟩) (by simp)]
      have G1 : Hid (GE (w1.alloc (.cells #[.int .i64 (FL L j).id, .int .i64 (FL L j).up, .int .i64 (FL L j).limit, .int .i64 (FL L j).rate, .int .i64 (FL L j).target, .bool false, .int .i64 (FL L j).balance, .int .i64 (FL L j).carry] 38)) p) := (G0.out.below B1).below ((Below.refl _ _).alloc (Nat.le_refl _) _)
      have B1' : Hid (Below w.heap.size w (w1.alloc (.cells #[.int .i64 (FL L j).id, .int .i64 (FL L j).up, .int .i64 (FL L j).limit, .int .i64 (FL L j).rate, .int .i64 (FL L j).target, .bool false, .int .i64 (FL L j).balance, .int .i64 (FL L j).carry] 38))) := (B0.out.trans (B1.mono (by simp))).alloc (Nat.le_of_lt hz) _
      clear B1
      have gv := G1.out.var 4 (by omega)
      go_wp2
      go_ret
      exact ⟨HEnds.ref i 4 (by omega) E.out (by decide), B1'.out⟩

set_option maxRecDepth 8000 in
set_option maxHeartbeats 1000000 in
theorem hLimit (a : Option Addr) (c : Nat) (L : List Acc) (i t m r : Int) (p : Nat → Addr) (w : World) (h : Fo w a L.length (FL L)) (hR : Right (FL L) L.length) (hG : GE w p) (hm : -1 ≤ m) :
    Calls Tryz.prog 134 #[.agg #[.int .i64 i, .int .i64 m], .slice a L.length c] w fun e w' => HEnds p (partS L 8 i t m r).1 e ∧ Below w.heap.size w w' := by
  have H : Hid (Fo (w.alloc (.cells #[.int .i64 i, .int .i64 m] 122)) a L.length (FL L)) := h.alloc _
  have HR : Hid (Right (FL L) L.length) := hR
  have G0 : Hid (GE (w.alloc (.cells #[.int .i64 i, .int .i64 m] 122)) p) := hG.below ((Below.refl _ _).alloc (Nat.le_refl _) _)
  have B0 : Hid (Below w.heap.size w (w.alloc (.cells #[.int .i64 i, .int .i64 m] 122))) := (Below.refl _ _).alloc (Nat.le_refl _) _
  clear h hR hG
  cases hp : place (FL L) L.length i with
  | none =>
    have HJ : Hid (place (FL L) L.length i = none) := hp
    have E : Hid ((partS L 8 i t m r).1 = codeG 2) := part_none (by decide) hp
    clear hp
    go_enter Tryz.func134, Tryz.ntmps134
    go_wp2_with fail
    refine (found_no a L.length c (FL L) i p _ H.out HJ.out G0.out).mono ?_
    skip
    rintro e w1 ⟨rfl, B1⟩
    have hz : w.heap.size < w1.heap.size := Nat.lt_of_lt_of_le (by simp) B1.size
    have BX : ∀ q, (w1.alloc (.cells #[.int .i64 0, .int .i64 0, .int .i64 0, .int .i64 0, .int .i64 0, .bool false, .int .i64 0, .int .i64 0] 38)).cell? ⟨w.heap.size, q, none⟩ = (w.alloc (.cells #[.int .i64 i, .int .i64 m] 122)).cell? ⟨w.heap.size, q, none⟩ := fun q => by
      rw [World.cell?_alloc_lt _ _ ⟨w.heap.size, q, none⟩ hz, B1.cell (p := ⟨w.heap.size, q, none⟩) (by simp)]
    have G1 : Hid (GE (w1.alloc (.cells #[.int .i64 0, .int .i64 0, .int .i64 0, .int .i64 0, .int .i64 0, .bool false, .int .i64 0, .int .i64 0] 38)) p) := (G0.out.below B1).below ((Below.refl _ _).alloc (Nat.le_refl _) _)
    have B1' : Hid (Below w.heap.size w (w1.alloc (.cells #[.int .i64 0, .int .i64 0, .int .i64 0, .int .i64 0, .int .i64 0, .bool false, .int .i64 0, .int .i64 0] 38))) := (B0.out.trans (B1.mono (by simp))).alloc (Nat.le_of_lt hz) _
    clear B1
    go_wp2
    go_ret
    exact ⟨HEnds.ref i 2 (by omega) E.out (by decide), B1'.out⟩
  | some j =>
    have HJ : Hid (place (FL L) L.length i = some j) := hp
    have EA : Hid ((partS L 8 i t m r).1 = (actS L j 8 m).1) := part_act (by decide) (by decide) (by decide) hp
    clear hp
    by_cases hu : (FL L j).up = 0
    · have hub : ((FL L j).up == 0) = true := by simp [hu]
      by_cases hm1 : m = -1
      · have hmb : (m == -1) = true := by simp [hm1]
        have E : Hid ((partS L 8 i t m r).1 = codeG 6) := (by rw [EA.out]; simp [actS, hu, hm1, codeG] : (partS L 8 i t m r).1 = codeG 6)
        clear hu hm1
        go_enter Tryz.func134, Tryz.ntmps134
        go_wp2_with fail
        refine (found_yes a L.length c (FL L) i j _ H.out HJ.out).mono ?_
        skip
        rintro e w1 ⟨rfl, B1⟩
        have hz : w.heap.size < w1.heap.size := Nat.lt_of_lt_of_le (by simp) B1.size
        have BX : ∀ q, (w1.alloc (.cells #[.int .i64 (FL L j).id, .int .i64 (FL L j).up, .int .i64 (FL L j).limit, .int .i64 (FL L j).rate, .int .i64 (FL L j).target, .bool (FL L j).frozen, .int .i64 (FL L j).balance, .int .i64 (FL L j).carry] 38)).cell? ⟨w.heap.size, q, none⟩ = (w.alloc (.cells #[.int .i64 i, .int .i64 m] 122)).cell? ⟨w.heap.size, q, none⟩ := fun q => by
          rw [World.cell?_alloc_lt _ _ ⟨w.heap.size, q, none⟩ hz, B1.cell (p := ⟨w.heap.size, q, none⟩) (by simp)]
        have G1 : Hid (GE (w1.alloc (.cells #[.int .i64 (FL L j).id, .int .i64 (FL L j).up, .int .i64 (FL L j).limit, .int .i64 (FL L j).rate, .int .i64 (FL L j).target, .bool (FL L j).frozen, .int .i64 (FL L j).balance, .int .i64 (FL L j).carry] 38)) p) := (G0.out.below B1).below ((Below.refl _ _).alloc (Nat.le_refl _) _)
        have B1' : Hid (Below w.heap.size w (w1.alloc (.cells #[.int .i64 (FL L j).id, .int .i64 (FL L j).up, .int .i64 (FL L j).limit, .int .i64 (FL L j).rate, .int .i64 (FL L j).target, .bool (FL L j).frozen, .int .i64 (FL L j).balance, .int .i64 (FL L j).carry] 38))) := (B0.out.trans (B1.mono (by simp))).alloc (Nat.le_of_lt hz) _
        clear B1
        have gv := G1.out.var 6 (by omega)
        go_wp2
        go_ret
        exact ⟨HEnds.ref i 6 (by omega) E.out (by decide), B1'.out⟩
      · have hmb : (m == -1) = false := by simp [hm1]
        have E : Hid ((partS L 8 i t m r).1 = 0) := (by rw [EA.out]; simp [actS, show ¬ ((FL L j).up = 0 ∧ m < 0) from by omega] : (partS L 8 i t m r).1 = 0)
        clear hu hm1
        go_enter Tryz.func134, Tryz.ntmps134
        go_wp2_with fail
        refine (found_yes a L.length c (FL L) i j _ H.out HJ.out).mono ?_
        skip
        rintro e w1 ⟨rfl, B1⟩
        have hz : w.heap.size < w1.heap.size := Nat.lt_of_lt_of_le (by simp) B1.size
        have BX : ∀ q, (w1.alloc (.cells #[.int .i64 (FL L j).id, .int .i64 (FL L j).up, .int .i64 (FL L j).limit, .int .i64 (FL L j).rate, .int .i64 (FL L j).target, .bool (FL L j).frozen, .int .i64 (FL L j).balance, .int .i64 (FL L j).carry] 38)).cell? ⟨w.heap.size, q, none⟩ = (w.alloc (.cells #[.int .i64 i, .int .i64 m] 122)).cell? ⟨w.heap.size, q, none⟩ := fun q => by
          rw [World.cell?_alloc_lt _ _ ⟨w.heap.size, q, none⟩ hz, B1.cell (p := ⟨w.heap.size, q, none⟩) (by simp)]
        have G1 : Hid (GE (w1.alloc (.cells #[.int .i64 (FL L j).id, .int .i64 (FL L j).up, .int .i64 (FL L j).limit, .int .i64 (FL L j).rate, .int .i64 (FL L j).target, .bool (FL L j).frozen, .int .i64 (FL L j).balance, .int .i64 (FL L j).carry] 38)) p) := (G0.out.below B1).below ((Below.refl _ _).alloc (Nat.le_refl _) _)
        have B1' : Hid (Below w.heap.size w (w1.alloc (.cells #[.int .i64 (FL L j).id, .int .i64 (FL L j).up, .int .i64 (FL L j).limit, .int .i64 (FL L j).rate, .int .i64 (FL L j).target, .bool (FL L j).frozen, .int .i64 (FL L j).balance, .int .i64 (FL L j).carry] 38))) := (B0.out.trans (B1.mono (by simp))).alloc (Nat.le_of_lt hz) _
        clear B1
        go_wp2
        go_ret
        exact ⟨HEnds.ok E.out, B1'.out⟩
    · have hub : ((FL L j).up == 0) = false := by simp [hu]
      have E : Hid ((partS L 8 i t m r).1 = 0) := (by rw [EA.out]; simp [actS, hu] : (partS L 8 i t m r).1 = 0)
      clear hu
      go_enter Tryz.func134, Tryz.ntmps134
      go_wp2_with fail
      refine (found_yes a L.length c (FL L) i j _ H.out HJ.out).mono ?_
      skip
      rintro e w1 ⟨rfl, B1⟩
      have hz : w.heap.size < w1.heap.size := Nat.lt_of_lt_of_le (by simp) B1.size
      have BX : ∀ q, (w1.alloc (.cells #[.int .i64 (FL L j).id, .int .i64 (FL L j).up, .int .i64 (FL L j).limit, .int .i64 (FL L j).rate, .int .i64 (FL L j).target, .bool (FL L j).frozen, .int .i64 (FL L j).balance, .int .i64 (FL L j).carry] 38)).cell? ⟨w.heap.size, q, none⟩ = (w.alloc (.cells #[.int .i64 i, .int .i64 m] 122)).cell? ⟨w.heap.size, q, none⟩ := fun q => by
        rw [World.cell?_alloc_lt _ _ ⟨w.heap.size, q, none⟩ hz, B1.cell (p := ⟨w.heap.size, q, none⟩) (by simp)]
      have G1 : Hid (GE (w1.alloc (.cells #[.int .i64 (FL L j).id, .int .i64 (FL L j).up, .int .i64 (FL L j).limit, .int .i64 (FL L j).rate, .int .i64 (FL L j).target, .bool (FL L j).frozen, .int .i64 (FL L j).balance, .int .i64 (FL L j).carry] 38)) p) := (G0.out.below B1).below ((Below.refl _ _).alloc (Nat.le_refl _) _)
      have B1' : Hid (Below w.heap.size w (w1.alloc (.cells #[.int .i64 (FL L j).id, .int .i64 (FL L j).up, .int .i64 (FL L j).limit, .int .i64 (FL L j).rate, .int .i64 (FL L j).target, .bool (FL L j).frozen, .int .i64 (FL L j).balance, .int .i64 (FL L j).carry] 38))) := (B0.out.trans (B1.mono (by simp))).alloc (Nat.le_of_lt hz) _
      clear B1
      go_wp2
      go_ret
      exact ⟨HEnds.ok E.out, B1'.out⟩

set_option maxRecDepth 8000 in
set_option maxHeartbeats 1000000 in
theorem hTarget (a : Option Addr) (c : Nat) (L : List Acc) (i t m r : Int) (p : Nat → Addr) (w : World) (h : Fo w a L.length (FL L)) (hR : Right (FL L) L.length) (hG : GE w p) :
    Calls Tryz.prog 135 #[.agg #[.int .i64 i, .int .i64 m], .slice a L.length c] w fun e w' => HEnds p (partS L 10 i t m r).1 e ∧ Below w.heap.size w w' := by
  have H : Hid (Fo (w.alloc (.cells #[.int .i64 i, .int .i64 m] 124)) a L.length (FL L)) := h.alloc _
  have HR : Hid (Right (FL L) L.length) := hR
  have G0 : Hid (GE (w.alloc (.cells #[.int .i64 i, .int .i64 m] 124)) p) := hG.below ((Below.refl _ _).alloc (Nat.le_refl _) _)
  have B0 : Hid (Below w.heap.size w (w.alloc (.cells #[.int .i64 i, .int .i64 m] 124))) := (Below.refl _ _).alloc (Nat.le_refl _) _
  clear h hR hG
  cases hp : place (FL L) L.length i with
  | none =>
    have HJ : Hid (place (FL L) L.length i = none) := hp
    have E : Hid ((partS L 10 i t m r).1 = codeG 2) := part_none (by decide) hp
    clear hp
    go_enter Tryz.func135, Tryz.ntmps135
    go_wp2_with fail
    refine (found_no a L.length c (FL L) i p _ H.out HJ.out G0.out).mono ?_
    skip
    rintro e w1 ⟨rfl, B1⟩
    have hz : w.heap.size < w1.heap.size := Nat.lt_of_lt_of_le (by simp) B1.size
    have BX : ∀ q, (w1.alloc (.cells #[.int .i64 0, .int .i64 0, .int .i64 0, .int .i64 0, .int .i64 0, .bool false, .int .i64 0, .int .i64 0] 38)).cell? ⟨w.heap.size, q, none⟩ = (w.alloc (.cells #[.int .i64 i, .int .i64 m] 124)).cell? ⟨w.heap.size, q, none⟩ := fun q => by
      rw [World.cell?_alloc_lt _ _ ⟨w.heap.size, q, none⟩ hz, B1.cell (p := ⟨w.heap.size, q, none⟩) (by simp)]
    have G1 : Hid (GE (w1.alloc (.cells #[.int .i64 0, .int .i64 0, .int .i64 0, .int .i64 0, .int .i64 0, .bool false, .int .i64 0, .int .i64 0] 38)) p) := (G0.out.below B1).below ((Below.refl _ _).alloc (Nat.le_refl _) _)
    have B1' : Hid (Below w.heap.size w (w1.alloc (.cells #[.int .i64 0, .int .i64 0, .int .i64 0, .int .i64 0, .int .i64 0, .bool false, .int .i64 0, .int .i64 0] 38))) := (B0.out.trans (B1.mono (by simp))).alloc (Nat.le_of_lt hz) _
    clear B1
    go_wp2
    go_ret
    exact ⟨HEnds.ref i 2 (by omega) E.out (by decide), B1'.out⟩
  | some j =>
    have HJ : Hid (place (FL L) L.length i = some j) := hp
    have EA : Hid ((partS L 10 i t m r).1 = (actS L j 10 m).1) := part_act (by decide) (by decide) (by decide) hp
    clear hp
    by_cases hu : (FL L j).up = 0
    · have hub : ((FL L j).up == 0) = true := by simp [hu]
      have E : Hid ((partS L 10 i t m r).1 = codeG 6) := (by rw [EA.out]; simp [actS, hu, codeG] : (partS L 10 i t m r).1 = codeG 6)
      clear hu
      go_enter Tryz.func135, Tryz.ntmps135
      go_wp2_with fail
      refine (found_yes a L.length c (FL L) i j _ H.out HJ.out).mono ?_
      skip
      rintro e w1 ⟨rfl, B1⟩
      have hz : w.heap.size < w1.heap.size := Nat.lt_of_lt_of_le (by simp) B1.size
      have BX : ∀ q, (w1.alloc (.cells #[.int .i64 (FL L j).id, .int .i64 (FL L j).up, .int .i64 (FL L j).limit, .int .i64 (FL L j).rate, .int .i64 (FL L j).target, .bool (FL L j).frozen, .int .i64 (FL L j).balance, .int .i64 (FL L j).carry] 38)).cell? ⟨w.heap.size, q, none⟩ = (w.alloc (.cells #[.int .i64 i, .int .i64 m] 124)).cell? ⟨w.heap.size, q, none⟩ := fun q => by
        rw [World.cell?_alloc_lt _ _ ⟨w.heap.size, q, none⟩ hz, B1.cell (p := ⟨w.heap.size, q, none⟩) (by simp)]
      have G1 : Hid (GE (w1.alloc (.cells #[.int .i64 (FL L j).id, .int .i64 (FL L j).up, .int .i64 (FL L j).limit, .int .i64 (FL L j).rate, .int .i64 (FL L j).target, .bool (FL L j).frozen, .int .i64 (FL L j).balance, .int .i64 (FL L j).carry] 38)) p) := (G0.out.below B1).below ((Below.refl _ _).alloc (Nat.le_refl _) _)
      have B1' : Hid (Below w.heap.size w (w1.alloc (.cells #[.int .i64 (FL L j).id, .int .i64 (FL L j).up, .int .i64 (FL L j).limit, .int .i64 (FL L j).rate, .int .i64 (FL L j).target, .bool (FL L j).frozen, .int .i64 (FL L j).balance, .int .i64 (FL L j).carry] 38))) := (B0.out.trans (B1.mono (by simp))).alloc (Nat.le_of_lt hz) _
      clear B1
      have gv := G1.out.var 6 (by omega)
      go_wp2
      go_ret
      exact ⟨HEnds.ref i 6 (by omega) E.out (by decide), B1'.out⟩
    · have hub : ((FL L j).up == 0) = false := by simp [hu]
      have E : Hid ((partS L 10 i t m r).1 = 0) := (by rw [EA.out]; simp [actS, hu] : (partS L 10 i t m r).1 = 0)
      clear hu
      go_enter Tryz.func135, Tryz.ntmps135
      go_wp2_with fail
      refine (found_yes a L.length c (FL L) i j _ H.out HJ.out).mono ?_
      skip
      rintro e w1 ⟨rfl, B1⟩
      have hz : w.heap.size < w1.heap.size := Nat.lt_of_lt_of_le (by simp) B1.size
      have BX : ∀ q, (w1.alloc (.cells #[.int .i64 (FL L j).id, .int .i64 (FL L j).up, .int .i64 (FL L j).limit, .int .i64 (FL L j).rate, .int .i64 (FL L j).target, .bool (FL L j).frozen, .int .i64 (FL L j).balance, .int .i64 (FL L j).carry] 38)).cell? ⟨w.heap.size, q, none⟩ = (w.alloc (.cells #[.int .i64 i, .int .i64 m] 124)).cell? ⟨w.heap.size, q, none⟩ := fun q => by
        rw [World.cell?_alloc_lt _ _ ⟨w.heap.size, q, none⟩ hz, B1.cell (p := ⟨w.heap.size, q, none⟩) (by simp)]
      have G1 : Hid (GE (w1.alloc (.cells #[.int .i64 (FL L j).id, .int .i64 (FL L j).up, .int .i64 (FL L j).limit, .int .i64 (FL L j).rate, .int .i64 (FL L j).target, .bool (FL L j).frozen, .int .i64 (FL L j).balance, .int .i64 (FL L j).carry] 38)) p) := (G0.out.below B1).below ((Below.refl _ _).alloc (Nat.le_refl _) _)
      have B1' : Hid (Below w.heap.size w (w1.alloc (.cells #[.int .i64 (FL L j).id, .int .i64 (FL L j).up, .int .i64 (FL L j).limit, .int .i64 (FL L j).rate, .int .i64 (FL L j).target, .bool (FL L j).frozen, .int .i64 (FL L j).balance, .int .i64 (FL L j).carry] 38))) := (B0.out.trans (B1.mono (by simp))).alloc (Nat.le_of_lt hz) _
      clear B1
      go_wp2
      go_ret
      exact ⟨HEnds.ok E.out, B1'.out⟩

end Go.Proofs.YthkgppfgidlicaaGreatDoor
