/- The law FnExactOrderOk returns true, whatever the order. No conditions. -/
import Derived.Test.YtlndklendejjdaaOrd
namespace Go.Proofs.Ytlndklendejjdaa
open Go.RowKit

theorem tells_same {P : Prop} {b c : Bool} (h1 : (b = true → P) ∧ (b = false → ¬ P)) (h2 : (c = true → P) ∧ (c = false → ¬ P)) : c = b := by
  cases b <;> cases c
  · rfl
  · exact absurd (h2.1 rfl) (h1.2 rfl)
  · exact absurd (h1.1 rfl) (h2.2 rfl)
  · rfl

set_option maxHeartbeats 1000000 in
theorem lawOrd (o : Ord) (w : World) :
    Calls Try.prog 3 #[.agg #[.int .i64 o.id, .int .i64 o.src, .int .i64 o.dst, .int .i64 o.amount, .int .i64 o.first, .int .i64 o.every, .int .i64 o.times]] w fun e w' => e = .returned (.bool true) ∧ Below w.heap.size w w' := by
  have X0 : Hid (OrdBox (w.alloc (.cells #[.int .i64 o.id, .int .i64 o.src, .int .i64 o.dst, .int .i64 o.amount, .int .i64 o.first, .int .i64 o.every, .int .i64 o.times] 23)) w.heap.size o) := OrdBox.new w o 23
  go_enter Try.func3, Try.ntmps3
  go_wp2_with fail
  refine (toOrd o _).mono ?_
  rintro e w1 ⟨rfl, B1⟩
  have X1 : Hid (OrdBox w1 w.heap.size o) := X0.out.below B1
  have B1' : Hid (Below w.heap.size w w1) := ((Below.refl _ _).alloc (Nat.le_refl _) _).trans (B1.mono (by simp))
  clear B1 X0
  go_wp2_with fail
  refine (specOrd o _).mono ?_
  rintro e w2 ⟨⟨b, rfl, hb⟩, B2⟩
  have X2 : Hid (OrdBox w2 w.heap.size o) := X1.out.below B2
  have B2' : Hid (Below w.heap.size w w2) := B1'.out.trans (B2.mono B1'.out.size)
  clear B2 X1 B1'
  obtain ⟨c0, c1, c2, c3, c4, c5, c6, _⟩ := X2.out
  go_wp2_with fail
  refine (toOrd o _).mono ?_
  rintro e w3 ⟨rfl, B3⟩
  have B3' : Hid (Below w.heap.size w w3) := B2'.out.trans (B3.mono B2'.out.size)
  clear B3 X2 c0 c1 c2 c3 c4 c5 c6
  go_wp2_with fail
  refine (implOrd o _).mono ?_
  rintro e w4 ⟨⟨b', rfl, hb'⟩, B4⟩
  have B4' : Hid (Below w.heap.size w w4) := B3'.out.trans (B4.mono B3'.out.size)
  clear B4
  have e : b' = b := tells_same hb hb'
  subst e
  clear hb hb'
  cases b'
  · go_wp2
    go_ret
    exact ⟨rfl, B4'.out⟩
  · go_wp2
    go_ret
    exact ⟨rfl, B4'.out⟩
end Go.Proofs.Ytlndklendejjdaa
