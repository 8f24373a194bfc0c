/- The laws FnExactNextDue and FnExactIsDue return true, whatever the order and the day. No conditions. -/
import Derived.Test.YtlndklendejjdaaIs
import Derived.Test.YtlndklendejjdaaLawOrd
namespace Go.Proofs.Ytlndklendejjdaa
open Go.RowKit

set_option maxHeartbeats 1000000 in
theorem lawNext (o : Ord) (d : Int) (w : World) :
    Calls Try.prog 7 #[.agg #[.int .i64 o.id, .int .i64 o.src, .int .i64 o.dst, .int .i64 o.amount, .int .i64 o.first, .int .i64 o.every, .int .i64 o.times], .int .i64 d] w fun e w' => e = .returned (.bool true) ∧ Below w.heap.size w w' := by
  have X0 : Hid (OrdBox (w.alloc (.cells #[.int .i64 o.id, .int .i64 o.src, .int .i64 o.dst, .int .i64 o.amount, .int .i64 o.first, .int .i64 o.every, .int .i64 o.times] 23)) w.heap.size o) := OrdBox.new w o 23
  go_enter Try.func7, Try.ntmps7
  go_wp2_with fail
  refine (toOrd o _).mono ?_
  rintro e w1 ⟨rfl, B1⟩
  have X1 : Hid (OrdBox w1 w.heap.size o) := X0.out.below B1
  have B1' : Hid (Below w.heap.size w w1) := ((Below.refl _ _).alloc (Nat.le_refl _) _).trans (B1.mono (by simp))
  clear B1 X0
  go_wp2_with fail
  refine (specNext o d _).mono ?_
  rintro e w2 ⟨rfl, B2⟩
  have X2 : Hid (OrdBox w2 w.heap.size o) := X1.out.below B2
  have B2' : Hid (Below w.heap.size w w2) := B1'.out.trans (B2.mono B1'.out.size)
  clear B2 X1 B1'
  obtain ⟨c0, c1, c2, c3, c4, c5, c6, _⟩ := X2.out
  go_wp2_with fail
  refine (toOrd o _).mono ?_
  rintro e w3 ⟨rfl, B3⟩
  have B3' : Hid (Below w.heap.size w w3) := B2'.out.trans (B3.mono B2'.out.size)
  clear B3 X2 c0 c1 c2 c3 c4 c5 c6
  go_wp2_with fail
  refine (implNext o d _).mono ?_
  rintro e w4 ⟨rfl, B4⟩
  have B4' : Hid (Below w.heap.size w w4) := B3'.out.trans (B4.mono B3'.out.size)
  clear B4
  have ev : (nextDue o d != nextDue o d) = false := by simp
  go_wp2
  go_ret
  exact ⟨rfl, B4'.out⟩

set_option maxHeartbeats 1000000 in
theorem lawIs (o : Ord) (d : Int) (w : World) :
    Calls Try.prog 5 #[.agg #[.int .i64 o.id, .int .i64 o.src, .int .i64 o.dst, .int .i64 o.amount, .int .i64 o.first, .int .i64 o.every, .int .i64 o.times], .int .i64 d] w fun e w' => e = .returned (.bool true) ∧ Below w.heap.size w w' := by
  have X0 : Hid (OrdBox (w.alloc (.cells #[.int .i64 o.id, .int .i64 o.src, .int .i64 o.dst, .int .i64 o.amount, .int .i64 o.first, .int .i64 o.every, .int .i64 o.times] 23)) w.heap.size o) := OrdBox.new w o 23
  go_enter Try.func5, Try.ntmps5
  go_wp2_with fail
  refine (toOrd o _).mono ?_
  rintro e w1 ⟨rfl, B1⟩
  have X1 : Hid (OrdBox w1 w.heap.size o) := X0.out.below B1
  have B1' : Hid (Below w.heap.size w w1) := ((Below.refl _ _).alloc (Nat.le_refl _) _).trans (B1.mono (by simp))
  clear B1 X0
  go_wp2_with fail
  refine (specIs o d _).mono ?_
  rintro e w2 ⟨⟨b, rfl, hb⟩, B2⟩
  have X2 : Hid (OrdBox w2 w.heap.size o) := X1.out.below B2
  have B2' : Hid (Below w.heap.size w w2) := B1'.out.trans (B2.mono B1'.out.size)
  clear B2 X1 B1'
  obtain ⟨c0, c1, c2, c3, c4, c5, c6, _⟩ := X2.out
  go_wp2_with fail
  refine (toOrd o _).mono ?_
  rintro e w3 ⟨rfl, B3⟩
  have B3' : Hid (Below w.heap.size w w3) := B2'.out.trans (B3.mono B2'.out.size)
  clear B3 X2 c0 c1 c2 c3 c4 c5 c6
  go_wp2_with fail
  refine (implIs o d _).mono ?_
  rintro e w4 ⟨⟨b', rfl, hb'⟩, B4⟩
  have B4' : Hid (Below w.heap.size w w4) := B3'.out.trans (B4.mono B3'.out.size)
  clear B4
  have e : b' = b := tells_same hb hb'
  subst e
  clear hb hb'
  cases b'
  · go_wp2
    go_ret
    exact ⟨rfl, B4'.out⟩
  · go_wp2
    go_ret
    exact ⟨rfl, B4'.out⟩
end Go.Proofs.Ytlndklendejjdaa
