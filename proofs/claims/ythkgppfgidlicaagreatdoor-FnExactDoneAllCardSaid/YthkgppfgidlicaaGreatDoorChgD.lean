/- What closing makes of the accounts, in the program. Conditions: the accounts lie in memory, at most 1048576 of them; the account is there. -/
import Derived.Test.YthkgppfgidlicaaGreatDoorDels
namespace Go.Proofs.YthkgppfgidlicaaGreatDoor
open Go.RowKit

set_option maxRecDepth 8000 in
set_option maxHeartbeats 2000000 in
theorem chgClose (a : Option Addr) (c : Nat) (L : List Acc) (i : Int) (j : Nat) (w : World) (h : Fo w a L.length (FL L)) (hp : place (FL L) L.length i = some j) :
    Calls Tryz.prog 69 #[.slice a L.length c, .iface 115 (.agg #[.int .i64 i])] w fun e w' => ∃ v, e = .returned v ∧ AL w' w.heap.size v (L.take j ++ L.drop (j + 1)) ∧ Below w.heap.size w w' := by
  have H : Hid (Fo w a L.length (FL L)) := h
  have hj := (place_some hp).1
  have hn := h.1
  have HP : Hid (placeI (FL L) L.length i = (j : Int)) := placeI_some hp
  have hwr : IntKind.i64.wrap ((j : Int) + 1) = (j : Int) + 1 := by rw [IntKind.wrap_i64]; omega
  clear h hp
  go_enter Tryz.func69, Tryz.ntmps69
  go_wp2_with fail
  refine (implCopied1 a L.length c L _ rfl H.out (by omega)).mono ?_
  rintro e w1 ⟨g, c', rfl, A1, B1⟩
  have S1 : Hid (CS w (w1.alloc (.cells #[.int .i64 i] 115)) w1.heap.size #[.int .i64 i] g c' L) := CS.new #[.int .i64 i] 115 A1 B1
  clear A1 B1
  go_wp2_with fail
  refine (implAt a L.length c (FL L) i _ (H.out.below S1.out.2.2.1)).mono ?_
  rw [HP.out]
  rintro e w2 ⟨rfl, B2⟩
  have S2 : Hid (CS w w2 w1.heap.size #[.int .i64 i] g c' L) := S1.out.below B2
  clear B2 S1
  go_wp2_with fail
  refine (implDelete w.heap.size g c' L j _ S2.out.2.1 hj hn).mono ?_
  rintro e w3 ⟨v, rfl, A3, B3⟩
  have S3 : Hid (AL w3 w.heap.size v (L.take j ++ L.drop (j + 1)) ∧ Below w.heap.size w w3) := ⟨A3, S2.out.2.2.1.trans B3⟩
  obtain ⟨va, vc, hv⟩ := A3.len
  obtain ⟨n', hn'⟩ : ∃ n', n' = (L.take j ++ L.drop (j + 1)).length := ⟨_, rfl⟩
  rw [← hn'] at hv
  subst hv
  clear A3 B3 hn'
  go_wp2
  go_ret
  exact ⟨_, rfl, S3.out.1, S3.out.2⟩
end Go.Proofs.YthkgppfgidlicaaGreatDoor
