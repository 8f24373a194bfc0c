/- The law FnExactOrdersOk returns true, whatever the orders. Conditions: the orders lie in memory. -/
import Derived.Test.YtlndklendejjdaaOkO
import Derived.Test.YtlndklendejjdaaLawOrd
namespace Go.Proofs.Ytlndklendejjdaa
open Go.RowKit

set_option maxHeartbeats 1000000 in
theorem lawOrds (a : Option Addr) (n c : Nat) (F : Nat → Ord) (w : World) (hm : n ≤ 9223372036854775807) (h : n ≤ 1048576 → Ords w a n F) :
    Calls Try.prog 4 #[.slice a n c] w fun e w' => e = .returned (.bool true) ∧ Below w.heap.size w w' := by
  by_cases hn : n ≤ 1048576
  rotate_left
  · go_enter Try.func4, Try.ntmps4
    go_wp2_with fail
    refine (szSOrd_no a n c 1048576 _ (by omega) (by omega) hm).mono ?_
    rintro e w1 ⟨rfl, hw⟩
    subst w1
    go_wp2
    go_ret
    exact ⟨rfl, Below.refl _ _⟩
  have H : Hid (Ords w a n F) := h hn
  clear h hm
  go_enter Try.func4, Try.ntmps4
  go_wp2_with fail
  refine (szSOrd_yes a n c 1048576 _ (by omega) (by omega)).mono ?_
  rintro e w1 ⟨rfl, hw⟩
  subst w1
  go_wp2_with fail
  refine (toSOrd a n c F _ H.out).mono ?_
  rintro e w1 ⟨rfl, R1, B1⟩
  have R1' : Hid (RowOrd w1 w.heap.size n n F) := R1
  have B1' : Hid (Below w.heap.size w w1) := B1
  clear R1 B1
  go_wp2_with fail
  refine (specOrds _ n n F _ (R1'.out.list hn)).mono ?_
  rintro e w2 ⟨⟨b, rfl, hb⟩, B2⟩
  have B2' : Hid (Below w.heap.size w w2) := B1'.out.trans (B2.mono B1'.out.size)
  clear B2 R1' B1'
  go_wp2_with fail
  refine (toSOrd a n c F _ (H.out.below B2'.out)).mono ?_
  rintro e w3 ⟨rfl, R3, B3⟩
  have R3' : Hid (RowOrd w3 w2.heap.size n n F) := R3
  have B3' : Hid (Below w.heap.size w w3) := B2'.out.trans (B3.mono B2'.out.size)
  clear R3 B3
  go_wp2_with fail
  refine (implOrds _ n n F _ (R3'.out.list hn)).mono ?_
  rintro e w4 ⟨⟨b', rfl, hb'⟩, B4⟩
  have R4' : Hid (RowOrd w4 w2.heap.size n n F) := R3'.out.below B4
  have B4' : Hid (Below w.heap.size w w4) := B3'.out.trans (B4.mono B3'.out.size)
  clear B4 R3' B3'
  have e : b' = b := tells_same hb hb'
  subst e
  clear hb hb'
  have eb : (b' != b') = false := by simp
  go_wp2_with fail
  refine (toSOrd a n c F _ (H.out.below B4'.out)).mono ?_
  rintro e w5 ⟨rfl, R5, B5⟩
  have R5' : Hid (RowOrd w5 w4.heap.size n n F) := R5
  have R45 : Hid (RowOrd w5 w2.heap.size n n F) := R4'.out.below B5
  have B5' : Hid (Below w.heap.size w w5) := B4'.out.trans (B5.mono B4'.out.size)
  clear R5 B5 R4'
  go_wp2_with fail
  refine (eqSOrd_same _ _ n n n F _ (R45.out.list hn) (R5'.out.list hn)).mono ?_
  rintro e w6 ⟨rfl, B6⟩
  have B6' : Hid (Below w.heap.size w w6) := B5'.out.trans (B6.mono B5'.out.size)
  clear B6
  go_wp2
  go_ret
  exact ⟨rfl, B6'.out⟩
end Go.Proofs.Ytlndklendejjdaa
