/- The law FnExactDateOk returns true, whatever the date. Condition: the table of months as its text lays it. -/
import Derived.Test.YtjdpaednagingaaDoorOk
namespace Go.Proofs.YtjdpaednagingaaDoor
open Go.RowKit

theorem bcell {W w1 : World} (hb : Below W.heap.size W w1) : (∀ b o, b < W.heap.size → w1.cell? ⟨b, o, none⟩ = W.cell? ⟨b, o, none⟩) ∧ (∀ b o, b < W.heap.size → w1.frozen? ⟨b, o, none⟩ = W.frozen? ⟨b, o, none⟩) :=
  ⟨fun b o h => hb.cell (p := ⟨b, o, none⟩) h, fun b o h => hb.frozen (p := ⟨b, o, none⟩) h⟩

set_option maxHeartbeats 400000 in
theorem lawDateOk (y m d : Int) (w : World) (ht : Tab w) :
    Calls Tryd.prog 3 #[.agg #[.int .i64 y, .int .i64 m, .int .i64 d]] w fun e w' => e = .returned (.bool true) ∧ Below w.heap.size w w' := by
  have T0 : Hid (Tab w) := ht
  clear ht
  go_enter Tryd.func3, Tryd.ntmps3
  go_wp2_with fail
  refine (toDate _ _ _ _).mono ?_
  rintro e w1 ⟨rfl, hb1⟩
  go_wp2_with fail
  refine (specDateOk _ _ _ _).mono ?_
  rintro e w2 ⟨rfl, hb2⟩
  have hb : Below (w.heap.size + 1) (w.alloc (.cells #[.int .i64 y, .int .i64 m, .int .i64 d] 23)) w2 := (hb1.mono (by simp)).trans (hb2.mono (by have := hb1.size; simp at this; omega))
  have hc2 : ∀ o, w2.cell? ⟨w.heap.size, o, none⟩ = (w.alloc (.cells #[.int .i64 y, .int .i64 m, .int .i64 d] 23)).cell? ⟨w.heap.size, o, none⟩ := fun o => hb.cell (p := ⟨w.heap.size, o, none⟩) (by simp)
  have T2 : Hid (Tab w2) := (T0.out.alloc _).below hb (by omega)
  have HB : Hid (Below w.heap.size w w2) := ((Below.refl _ _).alloc (Nat.le_refl _) _).trans (hb.mono (by omega))
  clear hb hb1 hb2
  go_wp2_with fail
  refine (toDate _ _ _ _).mono ?_
  rintro e w3 ⟨rfl, hb3⟩
  go_wp2_with fail
  refine (implDateOk _ _ _ _ ?_).mono ?_
  · exact T2.out.below hb3 (T2.out.1)
  rintro e w4 ⟨rfl, hb4⟩
  go_wp2
  go_ret
  have s2 := HB.out.size
  have s3 := hb3.size
  exact ⟨rfl, HB.out.trans ((hb3.mono s2).trans (hb4.mono (by omega)))⟩
end Go.Proofs.YtjdpaednagingaaDoor
