/- What putting, taking and paying make of the accounts, in the program. Conditions: the accounts lie in memory, at most 1048576 of them; the accounts named are there; balances and amounts lie within 10 ^ 12. -/
import Derived.Test.YthkgppfgidlicaaGreatDoorChg
namespace Go.Proofs.YthkgppfgidlicaaGreatDoor
open Go.RowKit

theorem wrap_small (x : Int) (h1 : -4000000000000 ≤ x) (h2 : x ≤ 4000000000000) : IntKind.i64.wrap x = x := by
  simp [IntKind.wrap, IntKind.signed, IntKind.bits]
  omega
set_option maxRecDepth 8000 in
set_option maxHeartbeats 4000000 in
theorem chgPut (a : Option Addr) (c : Nat) (L : List Acc) (i m : Int) (j : Nat) (w : World) (h : Fo w a L.length (FL L)) (hp : place (FL L) L.length i = some j) (hm1 : -1000000000000 ≤ m) (hm2 : m ≤ 1000000000000) (hb1 : -1000000000000 ≤ (FL L j).balance) (hb2 : (FL L j).balance ≤ 1000000000000) :
    Calls Tryz.prog 69 #[.slice a L.length c, .iface 117 (.agg #[.int .i64 i, .int .i64 m])] w fun e w' => ∃ v, e = .returned v ∧ AL w' w.heap.size v (L.set j { FL L j with balance := (FL L j).balance + m }) ∧ Below w.heap.size w w' := by
  have H : Hid (Fo w a L.length (FL L)) := h
  have hj := (place_some hp).1
  have hn := h.1
  have HP1 : Hid (placeI (FL L) L.length i = (j : Int)) := placeI_some hp
  have HW : Hid (IntKind.i64.wrap ((FL L j).balance + m) = (FL L j).balance + m) := wrap_small _ (by omega) (by omega)
  clear h hp hm1 hm2 hb1 hb2
  go_enter Tryz.func69, Tryz.ntmps69
  go_wp2_with fail
  refine (implCopied1 a L.length c L _ rfl H.out (by omega)).mono ?_
  rintro e w1 ⟨g, c', rfl, A1, B1⟩
  obtain ⟨W, hW⟩ : ∃ W, W = w1.alloc (.cells #[.int .i64 i, .int .i64 m] 117) := ⟨_, rfl⟩
  have S1 : Hid (CS w W w1.heap.size #[.int .i64 i, .int .i64 m] g c' L) := by rw [hW]; exact CS.new #[.int .i64 i, .int .i64 m] 117 A1 B1
  have D1 : Hid (CS w W.drew w1.heap.size #[.int .i64 i, .int .i64 m] g c' L) := S1.out.drew
  clear A1 B1
  have r0 := S1.out.1 0 _ rfl
  have r1 := S1.out.1 1 _ rfl
  skip
  go_wp2
  rw [← hW]
  clear hW
  go_region_with (
    go_at_call 54
    refine (implAt a L.length c (FL L) i W.drew (H.out.below D1.out.2.2.1)).mono ?_
    rw [HP1.out]
    rintro e w2 ⟨rfl, BB⟩
    have S1b : Hid (CS w w2 w1.heap.size #[.int .i64 i, .int .i64 m] g c' L) := D1.out.below BB
    have s0 := S1b.out.1 0 _ rfl
    have s1 := S1b.out.1 1 _ rfl
    have fz : ∀ q, w2.frozen? ⟨g, q, none⟩ = false := fun q => S1b.out.2.1.frozen q
    have p6 := (S1b.out.2.1.acc hj).2.2.2.2.2.2.1
    clear BB)
  all_goals go_wp2
  all_goals go_ret
  all_goals
    have Z := S1b.out.stored hj 6 (by decide) (.int .i64 ((FL L j).balance + m)) { FL L j with balance := (FL L j).balance + m } rfl
    rw [HW.out]
    exact ⟨_, rfl, by simpa using Z.2.1, Z.2.2.1⟩

set_option maxRecDepth 8000 in
set_option maxHeartbeats 4000000 in
theorem chgTake (a : Option Addr) (c : Nat) (L : List Acc) (i m : Int) (j : Nat) (w : World) (h : Fo w a L.length (FL L)) (hp : place (FL L) L.length i = some j) (hm1 : -1000000000000 ≤ m) (hm2 : m ≤ 1000000000000) (hb1 : -1000000000000 ≤ (FL L j).balance) (hb2 : (FL L j).balance ≤ 1000000000000) :
    Calls Tryz.prog 69 #[.slice a L.length c, .iface 118 (.agg #[.int .i64 i, .int .i64 m])] w fun e w' => ∃ v, e = .returned v ∧ AL w' w.heap.size v (L.set j { FL L j with balance := (FL L j).balance - m }) ∧ Below w.heap.size w w' := by
  have H : Hid (Fo w a L.length (FL L)) := h
  have hj := (place_some hp).1
  have hn := h.1
  have HP1 : Hid (placeI (FL L) L.length i = (j : Int)) := placeI_some hp
  have HW : Hid (IntKind.i64.wrap ((FL L j).balance - m) = (FL L j).balance - m) := wrap_small _ (by omega) (by omega)
  clear h hp hm1 hm2 hb1 hb2
  go_enter Tryz.func69, Tryz.ntmps69
  go_wp2_with fail
  refine (implCopied1 a L.length c L _ rfl H.out (by omega)).mono ?_
  rintro e w1 ⟨g, c', rfl, A1, B1⟩
  obtain ⟨W, hW⟩ : ∃ W, W = w1.alloc (.cells #[.int .i64 i, .int .i64 m] 118) := ⟨_, rfl⟩
  have S1 : Hid (CS w W w1.heap.size #[.int .i64 i, .int .i64 m] g c' L) := by rw [hW]; exact CS.new #[.int .i64 i, .int .i64 m] 118 A1 B1
  have D1 : Hid (CS w W.drew w1.heap.size #[.int .i64 i, .int .i64 m] g c' L) := S1.out.drew
  clear A1 B1
  have r0 := S1.out.1 0 _ rfl
  have r1 := S1.out.1 1 _ rfl
  skip
  go_wp2
  rw [← hW]
  clear hW
  go_region_with (
    go_at_call 54
    refine (implAt a L.length c (FL L) i W.drew (H.out.below D1.out.2.2.1)).mono ?_
    rw [HP1.out]
    rintro e w2 ⟨rfl, BB⟩
    have S1b : Hid (CS w w2 w1.heap.size #[.int .i64 i, .int .i64 m] g c' L) := D1.out.below BB
    have s0 := S1b.out.1 0 _ rfl
    have s1 := S1b.out.1 1 _ rfl
    have fz : ∀ q, w2.frozen? ⟨g, q, none⟩ = false := fun q => S1b.out.2.1.frozen q
    have p6 := (S1b.out.2.1.acc hj).2.2.2.2.2.2.1
    clear BB)
  all_goals go_wp2
  all_goals go_ret
  all_goals
    have Z := S1b.out.stored hj 6 (by decide) (.int .i64 ((FL L j).balance - m)) { FL L j with balance := (FL L j).balance - m } rfl
    rw [HW.out]
    exact ⟨_, rfl, by simpa using Z.2.1, Z.2.2.1⟩

end Go.Proofs.YthkgppfgidlicaaGreatDoor
