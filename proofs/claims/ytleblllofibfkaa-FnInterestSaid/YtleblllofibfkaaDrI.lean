/- The drawn forest of FnInterest. -/
import Derived.Test.YtleblllofibfkaaDraws
namespace Go.Proofs.Ytleblllofibfkaa
open Go.RowKit
set_option maxRecDepth 8000
set_option maxHeartbeats 1000000 in
theorem drawInterest (a : Option Addr) (len cap : Nat) (w : World) (h : Code w a len) :
    Calls Try.prog 6 #[.slice a len cap] w fun e w' => ∃ v L, e = .returned v ∧ L.length ≤ 12 ∧ AL w' w.heap.size v L ∧ Below w.heap.size w w' := by
  have H : Hid (Code w a len) := h
  clear h
  go_enter Try.func6, Try.ntmps6
  go_wp2_with fail
  refine (rd_open a len cap _ H.out.1 H.out.2).mono ?_
  rintro e w1 ⟨rfl, R1, B1⟩
  have R1' : Hid (Rd w1 w.heap.size a len cap) := R1
  have BB1 : Hid (Below w.heap.size w w1) := B1
  clear R1 B1
  go_wp2_with fail
  refine (rd_forest w.heap.size a len cap 14 _ R1'.out (by omega) (by omega)).mono ?_
  rintro e w2 ⟨v, L, rfl, hl, A2, R2, S2⟩
  have A2' : Hid (AL w2 w.heap.size v L) := A2.mono BB1.out.size
  have BB2 : Hid (Below w.heap.size w w2) := BB1.out.trans (S2.below BB1.out.size)
  clear A2 R2 S2
  obtain ⟨va, vc, hv⟩ := A2'.out.len
  subst hv
  go_wp2
  go_ret
  exact ⟨_, L, rfl, hl, A2'.out, BB2.out⟩
end Go.Proofs.Ytleblllofibfkaa
