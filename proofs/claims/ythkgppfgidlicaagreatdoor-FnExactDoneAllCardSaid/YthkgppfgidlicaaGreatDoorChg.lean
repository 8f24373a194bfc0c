/- What a deed of one account makes of the accounts, in the program: a copy with one cell changed. Conditions: the accounts lie in memory, at most 1048576 of them; the account is there. -/
import Derived.Test.YthkgppfgidlicaaGreatDoorAsr
namespace Go.Proofs.YthkgppfgidlicaaGreatDoor
open Go.RowKit

/-- A deed in its box b, and a list of accounts of the call's own. -/
def CS (w W : World) (b : Nat) (X : Array Value) (g c : Nat) (M : List Acc) : Prop :=
  (∀ q u, X[q]? = some u → W.cell? ⟨b, q, none⟩ = some u) ∧ AL W w.heap.size (.slice (some ⟨g, 0, none⟩) M.length c) M ∧ Below w.heap.size w W ∧ b < W.heap.size ∧ b ≠ g
theorem CS.new {w w1 : World} {g c : Nat} {M : List Acc} (X : Array Value) (T : Nat) (h : AL w1 w.heap.size (.slice (some ⟨g, 0, none⟩) M.length c) M) (hB : Below w.heap.size w w1) : CS w (w1.alloc (.cells X T)) w1.heap.size X g c M := by
  refine ⟨fun q u hq => ?_, World.ownsRow.alloc h _, hB.alloc hB.size _, by simp, fun e => ?_⟩
  · have e : (w1.alloc (.cells X T)).heap[w1.heap.size]? = some (.cells X T (0, 0)) := by
      show (w1.heap.push _)[w1.heap.size]? = _
      simp
    simp only [World.cell?]
    rw [e]
    simp [hq]
  · have := h.block.2
    omega
theorem CS.below {w W W' : World} {b g c : Nat} {X : Array Value} {M : List Acc} (h : CS w W b X g c M) (hb : Below W.heap.size W W') : CS w W' b X g c M :=
  ⟨fun q u hq => by rw [hb.cell (p := ⟨b, q, none⟩) h.2.2.2.1]; exact h.1 q u hq, h.2.1.kept hb, h.2.2.1.trans (hb.mono h.2.2.1.size), Nat.lt_of_lt_of_le h.2.2.2.1 hb.size, h.2.2.2.2⟩
theorem CS.drew {w W : World} {b g c : Nat} {X : Array Value} {M : List Acc} (h : CS w W b X g c M) : CS w W.drew b X g c M := h.below ⟨rfl, rfl, rfl, Nat.le_refl _, fun _ _ => rfl⟩
theorem CS.stored {w W : World} {b g c : Nat} {X : Array Value} {M : List Acc} (h : CS w W b X g c M) {p : Nat} (hp : p < M.length) (j : Nat) (hj : j < 8) (u : Value) (A : Acc) (hA : (accCells (FL M p)).set j u = accCells A) : CS w (W.setCell ⟨g, p * 8 + j, none⟩ u) b X g c (M.set p A) := by
  obtain ⟨h1, h2, h3, h4, h5⟩ := h
  refine ⟨fun q v hq => ?_, h2.stored hp j hj u A hA, below_set h3 h2.block.1 _ _, by simpa [World.setCell] using h4, h5⟩
  rw [World.cell?_setCell_other _ _ _ _ (fun e => h5 (by simpa using (congrArg Addr.block e).symm))]
  exact h1 q v hq

set_option maxRecDepth 8000 in
set_option maxHeartbeats 2000000 in
theorem chgFrost (a : Option Addr) (c : Nat) (L : List Acc) (i : Int) (b : Bool) (j : Nat) (w : World) (h : Fo w a L.length (FL L)) (hp : place (FL L) L.length i = some j) :
    Calls Tryz.prog 69 #[.slice a L.length c, .iface 113 (.agg #[.int .i64 i, .bool b])] w fun e w' => ∃ v, e = .returned v ∧ AL w' w.heap.size v (L.set j { FL L j with frozen := b }) ∧ Below w.heap.size w w' := by
  have H : Hid (Fo w a L.length (FL L)) := h
  have hj := (place_some hp).1
  have hn := h.1
  have HP : Hid (placeI (FL L) L.length i = (j : Int)) := placeI_some hp
  clear h hp
  go_enter Tryz.func69, Tryz.ntmps69
  go_wp2_with fail
  refine (implCopied1 a L.length c L _ rfl H.out (by omega)).mono ?_
  rintro e w1 ⟨g, c', rfl, A1, B1⟩
  obtain ⟨W, hW⟩ : ∃ W, W = w1.alloc (.cells #[.int .i64 i, .bool b] 113) := ⟨_, rfl⟩
  have S1 : Hid (CS w W w1.heap.size #[.int .i64 i, .bool b] g c' L) := by rw [hW]; exact CS.new #[.int .i64 i, .bool b] 113 A1 B1
  have D1 : Hid (CS w W.drew w1.heap.size #[.int .i64 i, .bool b] g c' L) := S1.out.drew
  clear A1 B1
  have r0 := S1.out.1 0 _ rfl
  have r1 := S1.out.1 1 _ rfl
  go_wp2
  rw [← hW]
  clear hW
  go_region_with (
    go_at_call 54
    refine (implAt a L.length c (FL L) i W.drew (H.out.below D1.out.2.2.1)).mono ?_
    rw [HP.out]
    rintro e w2 ⟨rfl, B2⟩
    have S2 : Hid (CS w w2 w1.heap.size #[.int .i64 i, .bool b] g c' L) := D1.out.below B2
    have s1 := S2.out.1 1 _ rfl
    have fz : ∀ q, w2.frozen? ⟨g, q, none⟩ = false := fun q => S2.out.2.1.frozen q
    obtain ⟨p0, p1, p2, p3, p4, p5, p6, p7⟩ := S2.out.2.1.acc hj
    clear B2)
  all_goals go_wp2
  all_goals go_ret
  all_goals
    have Z := S2.out.stored hj 5 (by decide) (.bool b) { FL L j with frozen := b } rfl
    exact ⟨_, rfl, by simpa using Z.2.1, Z.2.2.1⟩

set_option maxRecDepth 8000 in
set_option maxHeartbeats 2000000 in
theorem chgLimit (a : Option Addr) (c : Nat) (L : List Acc) (i m : Int) (j : Nat) (w : World) (h : Fo w a L.length (FL L)) (hp : place (FL L) L.length i = some j) :
    Calls Tryz.prog 69 #[.slice a L.length c, .iface 122 (.agg #[.int .i64 i, .int .i64 m])] w fun e w' => ∃ v, e = .returned v ∧ AL w' w.heap.size v (L.set j { FL L j with limit := m }) ∧ Below w.heap.size w w' := by
  have H : Hid (Fo w a L.length (FL L)) := h
  have hj := (place_some hp).1
  have hn := h.1
  have HP : Hid (placeI (FL L) L.length i = (j : Int)) := placeI_some hp
  clear h hp
  go_enter Tryz.func69, Tryz.ntmps69
  go_wp2_with fail
  refine (implCopied1 a L.length c L _ rfl H.out (by omega)).mono ?_
  rintro e w1 ⟨g, c', rfl, A1, B1⟩
  obtain ⟨W, hW⟩ : ∃ W, W = w1.alloc (.cells #[.int .i64 i, .int .i64 m] 122) := ⟨_, rfl⟩
  have S1 : Hid (CS w W w1.heap.size #[.int .i64 i, .int .i64 m] g c' L) := by rw [hW]; exact CS.new #[.int .i64 i, .int .i64 m] 122 A1 B1
  have D1 : Hid (CS w W.drew w1.heap.size #[.int .i64 i, .int .i64 m] g c' L) := S1.out.drew
  clear A1 B1
  have r0 := S1.out.1 0 _ rfl
  have r1 := S1.out.1 1 _ rfl
  go_wp2
  rw [← hW]
  clear hW
  go_region_with (
    go_at_call 54
    refine (implAt a L.length c (FL L) i W.drew (H.out.below D1.out.2.2.1)).mono ?_
    rw [HP.out]
    rintro e w2 ⟨rfl, B2⟩
    have S2 : Hid (CS w w2 w1.heap.size #[.int .i64 i, .int .i64 m] g c' L) := D1.out.below B2
    have s1 := S2.out.1 1 _ rfl
    have fz : ∀ q, w2.frozen? ⟨g, q, none⟩ = false := fun q => S2.out.2.1.frozen q
    obtain ⟨p0, p1, p2, p3, p4, p5, p6, p7⟩ := S2.out.2.1.acc hj
    clear B2)
  all_goals go_wp2
  all_goals go_ret
  all_goals
    have Z := S2.out.stored hj 2 (by decide) (.int .i64 m) { FL L j with limit := m } rfl
    exact ⟨_, rfl, by simpa using Z.2.1, Z.2.2.1⟩

set_option maxRecDepth 8000 in
set_option maxHeartbeats 2000000 in
theorem chgTarget (a : Option Addr) (c : Nat) (L : List Acc) (i m : Int) (j : Nat) (w : World) (h : Fo w a L.length (FL L)) (hp : place (FL L) L.length i = some j) :
    Calls Tryz.prog 69 #[.slice a L.length c, .iface 124 (.agg #[.int .i64 i, .int .i64 m])] w fun e w' => ∃ v, e = .returned v ∧ AL w' w.heap.size v (L.set j { FL L j with target := m }) ∧ Below w.heap.size w w' := by
  have H : Hid (Fo w a L.length (FL L)) := h
  have hj := (place_some hp).1
  have hn := h.1
  have HP : Hid (placeI (FL L) L.length i = (j : Int)) := placeI_some hp
  clear h hp
  go_enter Tryz.func69, Tryz.ntmps69
  go_wp2_with fail
  refine (implCopied1 a L.length c L _ rfl H.out (by omega)).mono ?_
  rintro e w1 ⟨g, c', rfl, A1, B1⟩
  obtain ⟨W, hW⟩ : ∃ W, W = w1.alloc (.cells #[.int .i64 i, .int .i64 m] 124) := ⟨_, rfl⟩
  have S1 : Hid (CS w W w1.heap.size #[.int .i64 i, .int .i64 m] g c' L) := by rw [hW]; exact CS.new #[.int .i64 i, .int .i64 m] 124 A1 B1
  have D1 : Hid (CS w W.drew w1.heap.size #[.int .i64 i, .int .i64 m] g c' L) := S1.out.drew
  clear A1 B1
  have r0 := S1.out.1 0 _ rfl
  have r1 := S1.out.1 1 _ rfl
  go_wp2
  rw [← hW]
  clear hW
  go_region_with (
    go_at_call 54
    refine (implAt a L.length c (FL L) i W.drew (H.out.below D1.out.2.2.1)).mono ?_
    rw [HP.out]
    rintro e w2 ⟨rfl, B2⟩
    have S2 : Hid (CS w w2 w1.heap.size #[.int .i64 i, .int .i64 m] g c' L) := D1.out.below B2
    have s1 := S2.out.1 1 _ rfl
    have fz : ∀ q, w2.frozen? ⟨g, q, none⟩ = false := fun q => S2.out.2.1.frozen q
    obtain ⟨p0, p1, p2, p3, p4, p5, p6, p7⟩ := S2.out.2.1.acc hj
    clear B2)
  all_goals go_wp2
  all_goals go_ret
  all_goals
    have Z := S2.out.stored hj 4 (by decide) (.int .i64 m) { FL L j with target := m } rfl
    exact ⟨_, rfl, by simpa using Z.2.1, Z.2.2.1⟩

set_option maxRecDepth 8000 in
set_option maxHeartbeats 2000000 in
theorem chgHang (a : Option Addr) (c : Nat) (L : List Acc) (i t : Int) (j : Nat) (w : World) (h : Fo w a L.length (FL L)) (hp : place (FL L) L.length i = some j) :
    Calls Tryz.prog 69 #[.slice a L.length c, .iface 126 (.agg #[.int .i64 i, .int .i64 t])] w fun e w' => ∃ v, e = .returned v ∧ AL w' w.heap.size v (L.set j { FL L j with up := t }) ∧ Below w.heap.size w w' := by
  have H : Hid (Fo w a L.length (FL L)) := h
  have hj := (place_some hp).1
  have hn := h.1
  have HP : Hid (placeI (FL L) L.length i = (j : Int)) := placeI_some hp
  clear h hp
  go_enter Tryz.func69, Tryz.ntmps69
  go_wp2_with fail
  refine (implCopied1 a L.length c L _ rfl H.out (by omega)).mono ?_
  rintro e w1 ⟨g, c', rfl, A1, B1⟩
  obtain ⟨W, hW⟩ : ∃ W, W = w1.alloc (.cells #[.int .i64 i, .int .i64 t] 126) := ⟨_, rfl⟩
  have S1 : Hid (CS w W w1.heap.size #[.int .i64 i, .int .i64 t] g c' L) := by rw [hW]; exact CS.new #[.int .i64 i, .int .i64 t] 126 A1 B1
  have D1 : Hid (CS w W.drew w1.heap.size #[.int .i64 i, .int .i64 t] g c' L) := S1.out.drew
  clear A1 B1
  have r0 := S1.out.1 0 _ rfl
  have r1 := S1.out.1 1 _ rfl
  go_wp2
  rw [← hW]
  clear hW
  go_region_with (
    go_at_call 54
    refine (implAt a L.length c (FL L) i W.drew (H.out.below D1.out.2.2.1)).mono ?_
    rw [HP.out]
    rintro e w2 ⟨rfl, B2⟩
    have S2 : Hid (CS w w2 w1.heap.size #[.int .i64 i, .int .i64 t] g c' L) := D1.out.below B2
    have s1 := S2.out.1 1 _ rfl
    have fz : ∀ q, w2.frozen? ⟨g, q, none⟩ = false := fun q => S2.out.2.1.frozen q
    obtain ⟨p0, p1, p2, p3, p4, p5, p6, p7⟩ := S2.out.2.1.acc hj
    clear B2)
  all_goals go_wp2
  all_goals go_ret
  all_goals
    have Z := S2.out.stored hj 1 (by decide) (.int .i64 t) { FL L j with up := t } rfl
    exact ⟨_, rfl, by simpa using Z.2.1, Z.2.2.1⟩

end Go.Proofs.YthkgppfgidlicaaGreatDoor
