/- What a payment makes of the accounts, in the program. Conditions: as ahead; two accounts. -/
import Derived.Test.YthkgppfgidlicaaGreatDoorChgB
namespace Go.Proofs.YthkgppfgidlicaaGreatDoor
open Go.RowKit

set_option maxRecDepth 8000 in
set_option maxHeartbeats 4000000 in
theorem chgPay (a : Option Addr) (c : Nat) (L : List Acc) (i t m : Int) (j q : Nat) (w : World) (h : Fo w a L.length (FL L)) (hp : place (FL L) L.length i = some j) (hq : place (FL L) L.length t = some q) (hjq : j ≠ q) (hm1 : -1000000000000 ≤ m) (hm2 : m ≤ 1000000000000) (hb1 : -1000000000000 ≤ (FL L j).balance) (hb2 : (FL L j).balance ≤ 1000000000000) (hc1 : -1000000000000 ≤ (FL L q).balance) (hc2 : (FL L q).balance ≤ 1000000000000) :
    Calls Tryz.prog 69 #[.slice a L.length c, .iface 120 (.agg #[.int .i64 i, .int .i64 t, .int .i64 m])] w fun e w' => ∃ v, e = .returned v ∧ AL w' w.heap.size v ((L.set j { FL L j with balance := (FL L j).balance - m }).set q { FL L q with balance := (FL L q).balance + m }) ∧ Below w.heap.size w w' := by
  have H : Hid (Fo w a L.length (FL L)) := h
  have hj := (place_some hp).1
  have hn := h.1
  have HP1 : Hid (placeI (FL L) L.length i = (j : Int)) := placeI_some hp
  have hql := (place_some hq).1
  have HP2 : Hid (placeI (FL L) L.length t = (q : Int)) := placeI_some hq
  have HW : Hid (IntKind.i64.wrap ((FL L j).balance - m) = (FL L j).balance - m) := wrap_small _ (by omega) (by omega)
  have HV : Hid (IntKind.i64.wrap ((FL L q).balance + m) = (FL L q).balance + m) := wrap_small _ (by omega) (by omega)
  have HQ : Hid (FL (L.set j { FL L j with balance := (FL L j).balance - m }) q = FL L q) := FL_set_ne _ (by omega)
  have hql' : q < (L.set j { FL L j with balance := (FL L j).balance - m }).length := by simpa using hql
  clear h hp hq hm1 hm2 hb1 hb2 hc1 hc2
  go_enter Tryz.func69, Tryz.ntmps69
  go_wp2_with fail
  refine (implCopied1 a L.length c L _ rfl H.out (by omega)).mono ?_
  rintro e w1 ⟨g, c', rfl, A1, B1⟩
  obtain ⟨W, hW⟩ : ∃ W, W = w1.alloc (.cells #[.int .i64 i, .int .i64 t, .int .i64 m] 120) := ⟨_, rfl⟩
  have S1 : Hid (CS w W w1.heap.size #[.int .i64 i, .int .i64 t, .int .i64 m] g c' L) := by rw [hW]; exact CS.new #[.int .i64 i, .int .i64 t, .int .i64 m] 120 A1 B1
  have D1 : Hid (CS w W.drew w1.heap.size #[.int .i64 i, .int .i64 t, .int .i64 m] g c' L) := S1.out.drew
  clear A1 B1
  have r0 := S1.out.1 0 _ rfl
  have r1 := S1.out.1 1 _ rfl
  have r2 := S1.out.1 2 _ rfl
  go_upto_region 24 with fail
  rw [← hW]
  clear hW
  go_cut [5, 13] (fun s5 s13 wx => s5 = .slice (some ⟨g, 0, none⟩) L.length c' ∧ s13 = .pointer (some ⟨w1.heap.size, 0, none⟩) ∧ Hid (CS w wx w1.heap.size #[.int .i64 i, .int .i64 t, .int .i64 m] g c' (L.set j { FL L j with balance := (FL L j).balance - m })))
  case first =>
    go_region_with (
      go_at_call 54
      refine (implAt a L.length c (FL L) i W.drew (H.out.below D1.out.2.2.1)).mono ?_
      rw [HP1.out]
      rintro e w2 ⟨rfl, BB⟩
      have S1b : Hid (CS w w2 w1.heap.size #[.int .i64 i, .int .i64 t, .int .i64 m] g c' L) := D1.out.below BB
      have s0 := S1b.out.1 0 _ rfl
      have s1 := S1b.out.1 1 _ rfl
      have s2 := S1b.out.1 2 _ rfl
      have fz : ∀ q, w2.frozen? ⟨g, q, none⟩ = false := fun q => S1b.out.2.1.frozen q
      have p6 := (S1b.out.2.1.acc hj).2.2.2.2.2.2.1
      clear BB)
    all_goals go_wp2_with fail
    all_goals go_meet
    all_goals
      have Z := S1b.out.stored hj 6 (by decide) (.int .i64 ((FL L j).balance - m)) { FL L j with balance := (FL L j).balance - m } rfl
      rw [HW.out]
      exact ⟨rfl, rfl, Z⟩
  case rest =>
    obtain ⟨rfl, rfl, hcut2⟩ := hcut
    obtain ⟨V, hV⟩ : ∃ V, V = wc := ⟨_, rfl⟩
    have S3 : Hid (CS w V w1.heap.size #[.int .i64 i, .int .i64 t, .int .i64 m] g c' (L.set j { FL L j with balance := (FL L j).balance - m })) := by rw [hV]; exact hcut2.out
    have D3 : Hid (CS w V.drew w1.heap.size #[.int .i64 i, .int .i64 t, .int .i64 m] g c' (L.set j { FL L j with balance := (FL L j).balance - m })) := S3.out.drew
    clear hcut2 r0 r1 r2
    have r0 := S3.out.1 0 _ rfl
    have r1 := S3.out.1 1 _ rfl
    have r2 := S3.out.1 2 _ rfl
    go_wp2_with fail
    rw [← hV]
    clear hV
    go_region_with (
      go_at_call 54
      refine (implAt a L.length c (FL L) t V.drew (H.out.below D3.out.2.2.1)).mono ?_
      rw [HP2.out]
      rintro e w2 ⟨rfl, BB⟩
      have S2b : Hid (CS w w2 w1.heap.size #[.int .i64 i, .int .i64 t, .int .i64 m] g c' (L.set j { FL L j with balance := (FL L j).balance - m })) := D3.out.below BB
      have s0 := S2b.out.1 0 _ rfl
      have s1 := S2b.out.1 1 _ rfl
      have s2 := S2b.out.1 2 _ rfl
      have fz : ∀ q, w2.frozen? ⟨g, q, none⟩ = false := fun q => S2b.out.2.1.frozen q
      have p6 := (S2b.out.2.1.acc hql').2.2.2.2.2.2.1
      rw [HQ.out] at p6
      clear BB)
    all_goals go_wp2
    all_goals go_ret
    all_goals
      have Z := S2b.out.stored hql' 6 (by decide) (.int .i64 ((FL L q).balance + m)) { FL L q with balance := (FL L q).balance + m } (by rw [HQ.out]; rfl)
      rw [HV.out]
      exact ⟨_, rfl, by simpa using Z.2.1, Z.2.2.1⟩

end Go.Proofs.YthkgppfgidlicaaGreatDoor
