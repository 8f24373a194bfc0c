/- The specification's Done: whatever the forest and the op. Conditions: the accounts lie in memory, at most 1048576 of them. -/
import Derived.Test.YtppgbjjojikpdaaDoorDoneA
import Derived.Test.YtppgbjjojikpdaaDoorDoneB
import Derived.Test.YtppgbjjojikpdaaDoorDoneC
import Derived.Test.YtppgbjjojikpdaaDoorDoneD
import Derived.Test.YtppgbjjojikpdaaDoorDoneE
namespace Go.Proofs.YtppgbjjojikpdaaDoor
open Go.RowKit

theorem specDone3 (a : Option Addr) (c : Nat) (L : List Acc) (k i t m r : Int) (w : World) (h : Fo w a L.length (FL L)) (hR : Right (FL L) L.length) :
    Calls Tryd.prog 13 #[.slice a L.length c, .agg #[.int .i64 k, .int .i64 i, .int .i64 t, .int .i64 m, .int .i64 r]] w fun e w' => Out (doneS L k i t m r) w.heap.size w e w' := by
  by_cases ho : opOk k i t m r
  · by_cases k1 : k = 1
    · subst k1; exact specDone_open a c L i t m r w h hR ho
    · cases hpi : place (FL L) L.length i with
      | none =>
        by_cases k7 : k = 7
        · subst k7; exact specDone_none7 a c L i t m r w h hR ho hpi
        · by_cases k9 : k = 9
          · subst k9; exact specDone_none9 a c L i t m r w h hR ho hpi
          · exact specDone_none a c L k i t m r w h hR ho hpi k1 k7 k9
      | some p =>
        by_cases k7 : k = 7
        · subst k7
          cases hpt : place (FL L) L.length t with
          | none => exact specDone_to7 a c L i t m r w h hR ho p hpi hpt
          | some q => exact specDone_pay a c L i t m r w h hR ho p q hpi hpt
        · by_cases k9 : k = 9
          · subst k9
            cases hpt : place (FL L) L.length t with
            | none => exact specDone_to9 a c L i t m r w h hR ho p hpi hpt
            | some q => exact specDone_hang a c L i t m r w h hR ho p q hpi hpt
          · exact specDone_act a c L k i t m r w h hR ho p hpi k1 k7 k9
  · exact specDone_form a c L k i t m r w h ho

open Classical in
/-- What an op comes to, whatever the forest. -/
noncomputable def doneAny (L : List Acc) (k i t m r : Int) : Int × List Acc := if Right (FL L) L.length then doneS L k i t m r else (1, [])

set_option maxRecDepth 8000 in
set_option maxHeartbeats 1000000 in
theorem specDone (a : Option Addr) (c : Nat) (L : List Acc) (k i t m r : Int) (w : World) (h : Fo w a L.length (FL L)) :
    Calls Tryd.prog 5 #[.slice a L.length c, .agg #[.int .i64 k, .int .i64 i, .int .i64 t, .int .i64 m, .int .i64 r]] w fun e w' => Out (doneAny L k i t m r) w.heap.size w e w' := by
  have HF : Hid (Fo w a L.length (FL L)) := h
  obtain ⟨W, hW⟩ : ∃ W, W = w.alloc (.cells #[.int .i64 k, .int .i64 i, .int .i64 t, .int .i64 m, .int .i64 r] 30) := ⟨_, rfl⟩
  have OW : Hid (OpBox W w.heap.size k i t m r) := by rw [hW]; exact OpBox.new w _ _ _ _ _ 30
  have BW : Hid (Below w.heap.size w W) := by rw [hW]; exact (Below.refl _ _).alloc (Nat.le_refl _) _
  clear h
  by_cases hR : Right (FL L) L.length
  · have E : Hid (doneAny L k i t m r = doneS L k i t m r) := (by unfold doneAny; rw [if_pos hR] : doneAny L k i t m r = doneS L k i t m r)
    have HR : Hid (Right (FL L) L.length) := hR
    clear hR
    go_enter Tryd.func5, Tryd.ntmps5
    go_upto_region 1 with fail
    rw [← hW]
    clear hW
    go_wp2_with fail
    refine (specOk_yes a L.length c (FL L) _ (HF.out.below BW.out) HR.out).mono ?_
    rintro e w1 ⟨rfl, B1⟩
    have O1 : Hid (OpBox w1 w.heap.size k i t m r) := OW.out.below B1
    have BW1 : Hid (Below w.heap.size w w1) := BW.out.trans (B1.mono BW.out.size)
    clear B1 OW BW
    obtain ⟨o0, o1, o2, o3, o4, oz⟩ := O1.out
    clear O1
    go_wp2_with fail
    refine (specDone3 a c L k i t m r _ (HF.out.below BW1.out) HR.out).mono ?_
    rintro e w2 ⟨v2, rfl, A2, B2⟩
    have A2' : Hid (AL w2 w.heap.size v2 (doneS L k i t m r).2) := A2.mono BW1.out.size
    have B2' : Hid (Below w.heap.size w w2) := BW1.out.trans (B2.mono BW1.out.size)
    clear A2 B2
    go_wp2
    go_ret2
    rw [E.out]
    exact ⟨_, rfl, A2'.out, B2'.out⟩
  · have E : Hid (doneAny L k i t m r = (1, [])) := (by unfold doneAny; rw [if_neg hR] : doneAny L k i t m r = (1, []))
    have HR : Hid (¬ Right (FL L) L.length) := hR
    clear hR
    go_enter Tryd.func5, Tryd.ntmps5
    go_upto_region 1 with fail
    rw [← hW]
    clear hW
    go_wp2_with fail
    refine (specOk_no a L.length c (FL L) _ (HF.out.below BW.out) HR.out).mono ?_
    rintro e w1 ⟨rfl, B1⟩
    have BW1 : Hid (Below w.heap.size w w1) := BW.out.trans (B1.mono BW.out.size)
    clear B1 OW BW
    go_wp2
    go_ret2
    rw [E.out]
    exact ⟨_, rfl, World.ownsRow_nil _ _ 37 8, BW1.out⟩
end Go.Proofs.YtppgbjjojikpdaaDoor
