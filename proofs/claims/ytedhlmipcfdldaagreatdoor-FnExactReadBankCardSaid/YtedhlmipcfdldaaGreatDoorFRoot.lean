/- The program's look for a root above an account. Conditions: the accounts lie in memory, at most 1048576 of them. -/
import Derived.Test.YtedhlmipcfdldaaGreatDoorFLead
namespace Go.Proofs.YtedhlmipcfdldaaGreatDoor
open Go.RowKit
set_option maxRecDepth 8000

theorem placeI_of {F : Nat → Acc} {n : Nat} {id : Int} : (place F n id = none ∧ placeI F n id = -1) ∨ ∃ i, place F n id = some i ∧ i < n ∧ placeI F n id = (i : Int) := by
  cases h : place F n id with
  | none => exact Or.inl ⟨rfl, placeI_none h⟩
  | some i => exact Or.inr ⟨i, rfl, (place_some h).1, placeI_some h⟩

set_option maxHeartbeats 1000000 in
theorem implLeads (a : Option Addr) (n c : Nat) (F : Nat → Acc) (x : Acc) (w : World) (h : Fo w a n F) :
    Calls Tryz.prog 58 #[.slice a n c, .agg #[.int .i64 x.id, .int .i64 x.up, .int .i64 x.limit, .int .i64 x.rate, .int .i64 x.target, .bool x.frozen, .int .i64 x.balance, .int .i64 x.carry]] w fun e w' => e = .returned (.bool (leads F n n x)) ∧ Below w.heap.size w w' := by
  have H : Hid (Fo w a n F) := h
  have hn := h.1
  clear h
  have BX : Hid (Box (w.alloc (.cells #[.int .i64 x.id, .int .i64 x.up, .int .i64 x.limit, .int .i64 x.rate, .int .i64 x.target, .bool x.frozen, .int .i64 x.balance, .int .i64 x.carry] 37)) w.heap.size x) := Box.new w x 37
  go_enter Tryz.func58, Tryz.ntmps58
  go_wp2
  go_loopw [8] (fun i wr => ∃ (k : Nat) (y : Acc), k ≤ n ∧ i = .int .i64 k ∧ Hid (leads F n n x = leads F n (n - k) y) ∧ Hid (Box wr w.heap.size y) ∧ Hid (Below w.heap.size w wr)) (fun i _ => n - (intOf i).toNat)
  case atStart => exact ⟨0, x, Nat.zero_le _, rfl, rfl, BX, (Below.refl _ _).alloc (Nat.le_refl _) _⟩
  case round =>
    obtain ⟨k, y, hk, rfl, hl, hX, hB⟩ := hrel
    clear BX
    by_cases hlt : k < n
    · obtain ⟨m, hm⟩ : ∃ m, n - k = m + 1 := ⟨n - k - 1, by omega⟩
      have HL : Hid (leads F n n x = leads F n (m + 1) y) := by have := hl.out; rwa [hm] at this
      have HM : Hid (n - (k + 1) = m) := (by omega : n - (k + 1) = m)
      obtain ⟨⟨b0, b1, b2, b3, b4, b5, b6, b7⟩, hf, hz⟩ := hX.out
      simp only [Nat.zero_add] at b1 b2 b3 b4 b5 b6 b7
      clear hl hm
      by_cases hu : y.up = 0
      · have bu : (y.up == 0) = true := by simp [hu]
        have E : Hid (leads F n n x = true) := (by rw [HL.out]; simp [leads, hu] : leads F n n x = true)
        clear hu
        go_wp2
        go_ret
        rw [E.out]
        exact ⟨rfl, hB.out⟩
      · have bu : (y.up == 0) = false := by simp [hu]
        have HU : Hid (y.up ≠ 0) := hu
        clear hu
        go_wp2_with fail
        refine (implAt a n c F y.up _ (H.out.below hB.out)).mono ?_
        rintro e w1 ⟨rfl, B1⟩
        rcases placeI_of (F := F) (n := n) (id := y.up) with ⟨hp, hpi⟩ | ⟨i, hp, hin, hpi⟩
        · have E : Hid (leads F n n x = false) := (by rw [HL.out]; simp [leads, HU.out, hp] : leads F n n x = false)
          have B1' : Hid (Below w.heap.size w w1) := hB.out.trans (B1.mono hB.out.size)
          rw [hpi]
          clear hp hpi B1
          go_wp2
          go_ret
          rw [E.out]
          exact ⟨rfl, B1'.out⟩
        · have E : Hid (leads F n n x = leads F n m (F i)) := (by rw [HL.out]; simp [leads, HU.out, hp] : leads F n n x = leads F n m (F i))
          have B1' : Hid (Below w.heap.size w w1) := hB.out.trans (B1.mono hB.out.size)
          have X1 : Hid (Box w1 w.heap.size y) := hX.out.below B1
          rw [hpi]
          clear hp hpi B1 b0 b1 b2 b3 b4 b5 b6 b7 hf hz
          obtain ⟨⟨b0, b1, b2, b3, b4, b5, b6, b7⟩, hf, hz⟩ := X1.out
          simp only [Nat.zero_add] at b1 b2 b3 b4 b5 b6 b7
          obtain ⟨b, o, rfl, hb, hA⟩ := H.out.acc hin
          have hA1 := hA.of_cells (w' := w1) (fun q => B1'.out.cell (p := ⟨b, q, none⟩) hb)
          obtain ⟨c0, c1, c2, c3, c4, c5, c6, c7⟩ := hA1
          have hne : b ≠ w.heap.size := by omega
          clear hA
          go_wp2
          go_roundw
          case rel =>
            refine ⟨k + 1, F i, by omega, by go_num, ?_, ?_, ?_⟩
            · exact (by rw [E.out, HM.out] : leads F n n x = leads F n (n - (k + 1)) (F i))
            · exact X1.out.set (F i)
            · exact set8_below B1'.out w.heap.size 0 (F i) (Nat.le_refl _)
          case measure => simp [intOf]; omega
    · have e0 : leads F n n x = false := by
        rw [hl.out, show n - k = 0 from by omega]; rfl
      have E : Hid (leads F n n x = false) := e0
      clear e0
      go_wp2
      go_ret
      rw [E.out]
      exact ⟨rfl, hB.out⟩
end Go.Proofs.YtedhlmipcfdldaaGreatDoor
