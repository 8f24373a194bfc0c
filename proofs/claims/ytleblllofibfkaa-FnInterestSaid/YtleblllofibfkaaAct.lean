/- What the specification does to one account: frozen, thawed, put, taken, limited, with a target. Conditions: the accounts lie in memory of the call's own and are a right forest. -/
import Derived.Test.YtleblllofibfkaaPay
namespace Go.Proofs.Ytleblllofibfkaa
open Go.RowKit
set_option maxRecDepth 8000

theorem AL.stored8 {w : World} {B g cap : Nat} {L : List Acc} (h : AL w B (.slice (some ⟨g, 0, none⟩) L.length cap) L) {p : Nat} (hp : p < L.length) (A : Acc) :
    AL (set8 w g (p * 8) A) B (.slice (some ⟨g, 0, none⟩) L.length cap) (L.set p A) := by
  have s0 := h.stored hp 0 (by omega) (.int .i64 A.id) { FL L p with id := A.id } rfl
  have s1 := s0.stored (p := p) (by simpa using hp) 1 (by omega) (.int .i64 A.up) { FL L p with id := A.id, up := A.up } (by rw [FL_set_at _ hp]; rfl)
  simp only [List.set_set] at s1
  have s2 := s1.stored (p := p) (by simpa using hp) 2 (by omega) (.int .i64 A.limit) { FL L p with id := A.id, up := A.up, limit := A.limit } (by rw [FL_set_at _ hp]; rfl)
  simp only [List.set_set] at s2
  have s3 := s2.stored (p := p) (by simpa using hp) 3 (by omega) (.int .i64 A.rate) { FL L p with id := A.id, up := A.up, limit := A.limit, rate := A.rate } (by rw [FL_set_at _ hp]; rfl)
  simp only [List.set_set] at s3
  have s4 := s3.stored (p := p) (by simpa using hp) 4 (by omega) (.int .i64 A.target) { FL L p with id := A.id, up := A.up, limit := A.limit, rate := A.rate, target := A.target } (by rw [FL_set_at _ hp]; rfl)
  simp only [List.set_set] at s4
  have s5 := s4.stored (p := p) (by simpa using hp) 5 (by omega) (.bool A.frozen) { FL L p with id := A.id, up := A.up, limit := A.limit, rate := A.rate, target := A.target, frozen := A.frozen } (by rw [FL_set_at _ hp]; rfl)
  simp only [List.set_set] at s5
  have s6 := s5.stored (p := p) (by simpa using hp) 6 (by omega) (.int .i64 A.balance) { FL L p with id := A.id, up := A.up, limit := A.limit, rate := A.rate, target := A.target, frozen := A.frozen, balance := A.balance } (by rw [FL_set_at _ hp]; rfl)
  simp only [List.set_set] at s6
  have s7 := s6.stored (p := p) (by simpa using hp) 7 (by omega) (.int .i64 A.carry) A (by rw [FL_set_at _ hp]; rfl)
  simp only [List.set_set, List.length_set, Nat.add_zero] at s7
  exact s7

set_option maxHeartbeats 1000000 in
theorem specAct2_no (B g c : Nat) (L : List Acc) (p : Nat) (i t m r xi xu xl xr xt xb xc : Int) (w : World) (h : AL w B (.slice (some ⟨g, 0, none⟩) L.length c) L) (hBw : B ≤ w.heap.size) (hp : p < L.length) (hx : FL L p = ⟨xi, xu, xl, xr, xt, true, xb, xc⟩) :
    Calls Try.prog 65 #[.slice (some ⟨g, 0, none⟩) L.length c, .int .i64 p, .agg #[.int .i64 2, .int .i64 i, .int .i64 t, .int .i64 m, .int .i64 r]] w fun e w' => e = .returned (.tuple #[.slice (some ⟨g, 0, none⟩) L.length c, .int .i64 5]) ∧ AL w' B (.slice (some ⟨g, 0, none⟩) L.length c) L ∧ Below B w w' := by
  have H : Hid (AL w B (.slice (some ⟨g, 0, none⟩) L.length c) L) := h
  obtain ⟨hBg, hgz⟩ := h.block
  obtain ⟨p0, p1, p2, p3, p4, p5, p6, p7⟩ := h.acc hp
  rw [hx] at p0 p1 p2 p3 p4 p5 p6 p7
  have fz : ∀ j, w.frozen? ⟨g, j, none⟩ = false := fun j => H.out.frozen j
  clear h hx
  go_enter Try.func65, Try.ntmps65
  go_wp2
  go_ret2
  exact ⟨rfl, World.ownsRow.alloc (World.ownsRow.alloc H.out _) _, (((Below.refl _ _).alloc hBw _).alloc (by simp; omega) _)⟩
set_option maxHeartbeats 1000000 in
theorem specAct2_yes (B g c : Nat) (L : List Acc) (p : Nat) (i t m r xi xu xl xr xt xb xc : Int) (w : World) (h : AL w B (.slice (some ⟨g, 0, none⟩) L.length c) L) (hBw : B ≤ w.heap.size) (hp : p < L.length) (hx : FL L p = ⟨xi, xu, xl, xr, xt, false, xb, xc⟩) :
    Calls Try.prog 65 #[.slice (some ⟨g, 0, none⟩) L.length c, .int .i64 p, .agg #[.int .i64 2, .int .i64 i, .int .i64 t, .int .i64 m, .int .i64 r]] w fun e w' => e = .returned (.tuple #[.slice (some ⟨g, 0, none⟩) L.length c, .int .i64 0]) ∧ AL w' B (.slice (some ⟨g, 0, none⟩) L.length c) (L.set p ⟨xi, xu, xl, xr, xt, true, xb, xc⟩) ∧ Below B w w' := by
  have H : Hid (AL w B (.slice (some ⟨g, 0, none⟩) L.length c) L) := h
  obtain ⟨hBg, hgz⟩ := h.block
  obtain ⟨p0, p1, p2, p3, p4, p5, p6, p7⟩ := h.acc hp
  rw [hx] at p0 p1 p2 p3 p4 p5 p6 p7
  have fz : ∀ j, w.frozen? ⟨g, j, none⟩ = false := fun j => H.out.frozen j
  clear h hx
  go_enter Try.func65, Try.ntmps65
  go_wp2
  go_ret2
  exact ⟨rfl, World.ownsRow.alloc (World.ownsRow.alloc (H.out.stored8 hp ⟨xi, xu, xl, xr, xt, true, xb, xc⟩) _) _, (((set8_below (Below.refl _ _) g (p * 8) ⟨xi, xu, xl, xr, xt, true, xb, xc⟩ hBg).alloc (by simp [set8_size]; omega) _).alloc (by simp [set8_size]; omega) _)⟩
set_option maxHeartbeats 1000000 in
theorem specAct3_no (B g c : Nat) (L : List Acc) (p : Nat) (i t m r xi xu xl xr xt xb xc : Int) (w : World) (h : AL w B (.slice (some ⟨g, 0, none⟩) L.length c) L) (hBw : B ≤ w.heap.size) (hp : p < L.length) (hx : FL L p = ⟨xi, xu, xl, xr, xt, false, xb, xc⟩) :
    Calls Try.prog 65 #[.slice (some ⟨g, 0, none⟩) L.length c, .int .i64 p, .agg #[.int .i64 3, .int .i64 i, .int .i64 t, .int .i64 m, .int .i64 r]] w fun e w' => e = .returned (.tuple #[.slice (some ⟨g, 0, none⟩) L.length c, .int .i64 5]) ∧ AL w' B (.slice (some ⟨g, 0, none⟩) L.length c) L ∧ Below B w w' := by
  have H : Hid (AL w B (.slice (some ⟨g, 0, none⟩) L.length c) L) := h
  obtain ⟨hBg, hgz⟩ := h.block
  obtain ⟨p0, p1, p2, p3, p4, p5, p6, p7⟩ := h.acc hp
  rw [hx] at p0 p1 p2 p3 p4 p5 p6 p7
  have fz : ∀ j, w.frozen? ⟨g, j, none⟩ = false := fun j => H.out.frozen j
  clear h hx
  go_enter Try.func65, Try.ntmps65
  go_wp2
  go_ret2
  exact ⟨rfl, World.ownsRow.alloc (World.ownsRow.alloc H.out _) _, (((Below.refl _ _).alloc hBw _).alloc (by simp; omega) _)⟩
set_option maxHeartbeats 1000000 in
theorem specAct3_yes (B g c : Nat) (L : List Acc) (p : Nat) (i t m r xi xu xl xr xt xb xc : Int) (w : World) (h : AL w B (.slice (some ⟨g, 0, none⟩) L.length c) L) (hBw : B ≤ w.heap.size) (hp : p < L.length) (hx : FL L p = ⟨xi, xu, xl, xr, xt, true, xb, xc⟩) :
    Calls Try.prog 65 #[.slice (some ⟨g, 0, none⟩) L.length c, .int .i64 p, .agg #[.int .i64 3, .int .i64 i, .int .i64 t, .int .i64 m, .int .i64 r]] w fun e w' => e = .returned (.tuple #[.slice (some ⟨g, 0, none⟩) L.length c, .int .i64 0]) ∧ AL w' B (.slice (some ⟨g, 0, none⟩) L.length c) (L.set p ⟨xi, xu, xl, xr, xt, false, xb, xc⟩) ∧ Below B w w' := by
  have H : Hid (AL w B (.slice (some ⟨g, 0, none⟩) L.length c) L) := h
  obtain ⟨hBg, hgz⟩ := h.block
  obtain ⟨p0, p1, p2, p3, p4, p5, p6, p7⟩ := h.acc hp
  rw [hx] at p0 p1 p2 p3 p4 p5 p6 p7
  have fz : ∀ j, w.frozen? ⟨g, j, none⟩ = false := fun j => H.out.frozen j
  clear h hx
  go_enter Try.func65, Try.ntmps65
  go_wp2
  go_ret2
  exact ⟨rfl, World.ownsRow.alloc (World.ownsRow.alloc (H.out.stored8 hp ⟨xi, xu, xl, xr, xt, false, xb, xc⟩) _) _, (((set8_below (Below.refl _ _) g (p * 8) ⟨xi, xu, xl, xr, xt, false, xb, xc⟩ hBg).alloc (by simp [set8_size]; omega) _).alloc (by simp [set8_size]; omega) _)⟩
set_option maxHeartbeats 1000000 in
theorem specAct4_no (B g c : Nat) (L : List Acc) (p : Nat) (i t m r xi xu xl xr xt xb xc : Int) (w : World) (h : AL w B (.slice (some ⟨g, 0, none⟩) L.length c) L) (hBw : B ≤ w.heap.size) (hp : p < L.length) (hx : FL L p = ⟨xi, xu, xl, xr, xt, true, xb, xc⟩) :
    Calls Try.prog 65 #[.slice (some ⟨g, 0, none⟩) L.length c, .int .i64 p, .agg #[.int .i64 4, .int .i64 i, .int .i64 t, .int .i64 m, .int .i64 r]] w fun e w' => e = .returned (.tuple #[.slice (some ⟨g, 0, none⟩) L.length c, .int .i64 5]) ∧ AL w' B (.slice (some ⟨g, 0, none⟩) L.length c) L ∧ Below B w w' := by
  have H : Hid (AL w B (.slice (some ⟨g, 0, none⟩) L.length c) L) := h
  obtain ⟨hBg, hgz⟩ := h.block
  obtain ⟨p0, p1, p2, p3, p4, p5, p6, p7⟩ := h.acc hp
  rw [hx] at p0 p1 p2 p3 p4 p5 p6 p7
  have fz : ∀ j, w.frozen? ⟨g, j, none⟩ = false := fun j => H.out.frozen j
  clear h hx
  go_enter Try.func65, Try.ntmps65
  go_wp2
  go_ret2
  exact ⟨rfl, World.ownsRow.alloc (World.ownsRow.alloc H.out _) _, (((Below.refl _ _).alloc hBw _).alloc (by simp; omega) _)⟩
set_option maxHeartbeats 1000000 in
theorem specAct5_no (B g c : Nat) (L : List Acc) (p : Nat) (i t m r xi xu xl xr xt xb xc : Int) (w : World) (h : AL w B (.slice (some ⟨g, 0, none⟩) L.length c) L) (hBw : B ≤ w.heap.size) (hp : p < L.length) (hx : FL L p = ⟨xi, xu, xl, xr, xt, true, xb, xc⟩) :
    Calls Try.prog 65 #[.slice (some ⟨g, 0, none⟩) L.length c, .int .i64 p, .agg #[.int .i64 5, .int .i64 i, .int .i64 t, .int .i64 m, .int .i64 r]] w fun e w' => e = .returned (.tuple #[.slice (some ⟨g, 0, none⟩) L.length c, .int .i64 5]) ∧ AL w' B (.slice (some ⟨g, 0, none⟩) L.length c) L ∧ Below B w w' := by
  have H : Hid (AL w B (.slice (some ⟨g, 0, none⟩) L.length c) L) := h
  obtain ⟨hBg, hgz⟩ := h.block
  obtain ⟨p0, p1, p2, p3, p4, p5, p6, p7⟩ := h.acc hp
  rw [hx] at p0 p1 p2 p3 p4 p5 p6 p7
  have fz : ∀ j, w.frozen? ⟨g, j, none⟩ = false := fun j => H.out.frozen j
  clear h hx
  go_enter Try.func65, Try.ntmps65
  go_wp2
  go_ret2
  exact ⟨rfl, World.ownsRow.alloc (World.ownsRow.alloc H.out _) _, (((Below.refl _ _).alloc hBw _).alloc (by simp; omega) _)⟩
set_option maxHeartbeats 1000000 in
theorem specAct5_yes (B g c : Nat) (L : List Acc) (p : Nat) (i t m r xi xu xl xr xt xb xc : Int) (w : World) (h : AL w B (.slice (some ⟨g, 0, none⟩) L.length c) L) (hBw : B ≤ w.heap.size) (hp : p < L.length) (hx : FL L p = ⟨xi, xu, xl, xr, xt, false, xb, xc⟩) (hm1 : -1000000000000 ≤ m) (hm2 : m ≤ 1000000000000) (hb1 : -1000000000000 ≤ xb) (hb2 : xb ≤ 1000000000000) :
    Calls Try.prog 65 #[.slice (some ⟨g, 0, none⟩) L.length c, .int .i64 p, .agg #[.int .i64 5, .int .i64 i, .int .i64 t, .int .i64 m, .int .i64 r]] w fun e w' => e = .returned (.tuple #[.slice (some ⟨g, 0, none⟩) L.length c, .int .i64 0]) ∧ AL w' B (.slice (some ⟨g, 0, none⟩) L.length c) (L.set p ⟨xi, xu, xl, xr, xt, false, (xb + m), xc⟩) ∧ Below B w w' := by
  have H : Hid (AL w B (.slice (some ⟨g, 0, none⟩) L.length c) L) := h
  obtain ⟨hBg, hgz⟩ := h.block
  obtain ⟨p0, p1, p2, p3, p4, p5, p6, p7⟩ := h.acc hp
  rw [hx] at p0 p1 p2 p3 p4 p5 p6 p7
  have fz : ∀ j, w.frozen? ⟨g, j, none⟩ = false := fun j => H.out.frozen j
  clear h hx
  go_enter Try.func65, Try.ntmps65
  go_wp2
  go_ret2
  exact ⟨rfl, World.ownsRow.alloc (World.ownsRow.alloc (H.out.stored8 hp ⟨xi, xu, xl, xr, xt, false, (xb + m), xc⟩) _) _, (((set8_below (Below.refl _ _) g (p * 8) ⟨xi, xu, xl, xr, xt, false, (xb + m), xc⟩ hBg).alloc (by simp [set8_size]; omega) _).alloc (by simp [set8_size]; omega) _)⟩
set_option maxHeartbeats 1000000 in
theorem specAct6_no (B g c : Nat) (L : List Acc) (p : Nat) (i t m r xi xu xl xr xt xb xc : Int) (w : World) (h : AL w B (.slice (some ⟨g, 0, none⟩) L.length c) L) (hBw : B ≤ w.heap.size) (hp : p < L.length) (hx : FL L p = ⟨xi, xu, xl, xr, xt, true, xb, xc⟩) :
    Calls Try.prog 65 #[.slice (some ⟨g, 0, none⟩) L.length c, .int .i64 p, .agg #[.int .i64 6, .int .i64 i, .int .i64 t, .int .i64 m, .int .i64 r]] w fun e w' => e = .returned (.tuple #[.slice (some ⟨g, 0, none⟩) L.length c, .int .i64 5]) ∧ AL w' B (.slice (some ⟨g, 0, none⟩) L.length c) L ∧ Below B w w' := by
  have H : Hid (AL w B (.slice (some ⟨g, 0, none⟩) L.length c) L) := h
  obtain ⟨hBg, hgz⟩ := h.block
  obtain ⟨p0, p1, p2, p3, p4, p5, p6, p7⟩ := h.acc hp
  rw [hx] at p0 p1 p2 p3 p4 p5 p6 p7
  have fz : ∀ j, w.frozen? ⟨g, j, none⟩ = false := fun j => H.out.frozen j
  clear h hx
  go_enter Try.func65, Try.ntmps65
  go_wp2
  go_ret2
  exact ⟨rfl, World.ownsRow.alloc (World.ownsRow.alloc H.out _) _, (((Below.refl _ _).alloc hBw _).alloc (by simp; omega) _)⟩
set_option maxHeartbeats 1000000 in
theorem specAct8_no (B g c : Nat) (L : List Acc) (p : Nat) (i t m r xi xl xr xt xb xc : Int) (xf : Bool) (w : World) (h : AL w B (.slice (some ⟨g, 0, none⟩) L.length c) L) (hBw : B ≤ w.heap.size) (hp : p < L.length) (hx : FL L p = ⟨xi, 0, xl, xr, xt, xf, xb, xc⟩) (hm : m < 0) :
    Calls Try.prog 65 #[.slice (some ⟨g, 0, none⟩) L.length c, .int .i64 p, .agg #[.int .i64 8, .int .i64 i, .int .i64 t, .int .i64 m, .int .i64 r]] w fun e w' => e = .returned (.tuple #[.slice (some ⟨g, 0, none⟩) L.length c, .int .i64 8]) ∧ AL w' B (.slice (some ⟨g, 0, none⟩) L.length c) L ∧ Below B w w' := by
  have H : Hid (AL w B (.slice (some ⟨g, 0, none⟩) L.length c) L) := h
  obtain ⟨hBg, hgz⟩ := h.block
  obtain ⟨p0, p1, p2, p3, p4, p5, p6, p7⟩ := h.acc hp
  rw [hx] at p0 p1 p2 p3 p4 p5 p6 p7
  have fz : ∀ j, w.frozen? ⟨g, j, none⟩ = false := fun j => H.out.frozen j
  clear h hx
  go_enter Try.func65, Try.ntmps65
  go_wp2
  go_ret2
  exact ⟨rfl, World.ownsRow.alloc (World.ownsRow.alloc H.out _) _, (((Below.refl _ _).alloc hBw _).alloc (by simp; omega) _)⟩
set_option maxHeartbeats 1000000 in
theorem specAct8_root (B g c : Nat) (L : List Acc) (p : Nat) (i t m r xi xl xr xt xb xc : Int) (xf : Bool) (w : World) (h : AL w B (.slice (some ⟨g, 0, none⟩) L.length c) L) (hBw : B ≤ w.heap.size) (hp : p < L.length) (hx : FL L p = ⟨xi, 0, xl, xr, xt, xf, xb, xc⟩) (hm : 0 ≤ m) :
    Calls Try.prog 65 #[.slice (some ⟨g, 0, none⟩) L.length c, .int .i64 p, .agg #[.int .i64 8, .int .i64 i, .int .i64 t, .int .i64 m, .int .i64 r]] w fun e w' => e = .returned (.tuple #[.slice (some ⟨g, 0, none⟩) L.length c, .int .i64 0]) ∧ AL w' B (.slice (some ⟨g, 0, none⟩) L.length c) (L.set p ⟨xi, 0, m, xr, xt, xf, xb, xc⟩) ∧ Below B w w' := by
  have H : Hid (AL w B (.slice (some ⟨g, 0, none⟩) L.length c) L) := h
  obtain ⟨hBg, hgz⟩ := h.block
  obtain ⟨p0, p1, p2, p3, p4, p5, p6, p7⟩ := h.acc hp
  rw [hx] at p0 p1 p2 p3 p4 p5 p6 p7
  have fz : ∀ j, w.frozen? ⟨g, j, none⟩ = false := fun j => H.out.frozen j
  clear h hx
  go_enter Try.func65, Try.ntmps65
  go_wp2
  go_ret2
  exact ⟨rfl, World.ownsRow.alloc (World.ownsRow.alloc (H.out.stored8 hp ⟨xi, 0, m, xr, xt, xf, xb, xc⟩) _) _, (((set8_below (Below.refl _ _) g (p * 8) ⟨xi, 0, m, xr, xt, xf, xb, xc⟩ hBg).alloc (by simp [set8_size]; omega) _).alloc (by simp [set8_size]; omega) _)⟩
set_option maxHeartbeats 1000000 in
theorem specAct8_yes (B g c : Nat) (L : List Acc) (p : Nat) (i t m r xi xu xl xr xt xb xc : Int) (xf : Bool) (w : World) (h : AL w B (.slice (some ⟨g, 0, none⟩) L.length c) L) (hBw : B ≤ w.heap.size) (hp : p < L.length) (hx : FL L p = ⟨xi, xu, xl, xr, xt, xf, xb, xc⟩) (hu : xu ≠ 0) :
    Calls Try.prog 65 #[.slice (some ⟨g, 0, none⟩) L.length c, .int .i64 p, .agg #[.int .i64 8, .int .i64 i, .int .i64 t, .int .i64 m, .int .i64 r]] w fun e w' => e = .returned (.tuple #[.slice (some ⟨g, 0, none⟩) L.length c, .int .i64 0]) ∧ AL w' B (.slice (some ⟨g, 0, none⟩) L.length c) (L.set p ⟨xi, xu, m, xr, xt, xf, xb, xc⟩) ∧ Below B w w' := by
  have H : Hid (AL w B (.slice (some ⟨g, 0, none⟩) L.length c) L) := h
  obtain ⟨hBg, hgz⟩ := h.block
  obtain ⟨p0, p1, p2, p3, p4, p5, p6, p7⟩ := h.acc hp
  rw [hx] at p0 p1 p2 p3 p4 p5 p6 p7
  have fz : ∀ j, w.frozen? ⟨g, j, none⟩ = false := fun j => H.out.frozen j
  clear h hx
  have hub : (xu == 0) = false := by simp [hu]
  clear hu
  go_enter Try.func65, Try.ntmps65
  go_wp2
  go_ret2
  exact ⟨rfl, World.ownsRow.alloc (World.ownsRow.alloc (H.out.stored8 hp ⟨xi, xu, m, xr, xt, xf, xb, xc⟩) _) _, (((set8_below (Below.refl _ _) g (p * 8) ⟨xi, xu, m, xr, xt, xf, xb, xc⟩ hBg).alloc (by simp [set8_size]; omega) _).alloc (by simp [set8_size]; omega) _)⟩
set_option maxHeartbeats 1000000 in
theorem specAct10_no (B g c : Nat) (L : List Acc) (p : Nat) (i t m r xi xl xr xt xb xc : Int) (xf : Bool) (w : World) (h : AL w B (.slice (some ⟨g, 0, none⟩) L.length c) L) (hBw : B ≤ w.heap.size) (hp : p < L.length) (hx : FL L p = ⟨xi, 0, xl, xr, xt, xf, xb, xc⟩) :
    Calls Try.prog 65 #[.slice (some ⟨g, 0, none⟩) L.length c, .int .i64 p, .agg #[.int .i64 10, .int .i64 i, .int .i64 t, .int .i64 m, .int .i64 r]] w fun e w' => e = .returned (.tuple #[.slice (some ⟨g, 0, none⟩) L.length c, .int .i64 8]) ∧ AL w' B (.slice (some ⟨g, 0, none⟩) L.length c) L ∧ Below B w w' := by
  have H : Hid (AL w B (.slice (some ⟨g, 0, none⟩) L.length c) L) := h
  obtain ⟨hBg, hgz⟩ := h.block
  obtain ⟨p0, p1, p2, p3, p4, p5, p6, p7⟩ := h.acc hp
  rw [hx] at p0 p1 p2 p3 p4 p5 p6 p7
  have fz : ∀ j, w.frozen? ⟨g, j, none⟩ = false := fun j => H.out.frozen j
  clear h hx
  go_enter Try.func65, Try.ntmps65
  go_wp2
  go_ret2
  exact ⟨rfl, World.ownsRow.alloc (World.ownsRow.alloc H.out _) _, (((Below.refl _ _).alloc hBw _).alloc (by simp; omega) _)⟩
set_option maxHeartbeats 1000000 in
theorem specAct10_yes (B g c : Nat) (L : List Acc) (p : Nat) (i t m r xi xu xl xr xt xb xc : Int) (xf : Bool) (w : World) (h : AL w B (.slice (some ⟨g, 0, none⟩) L.length c) L) (hBw : B ≤ w.heap.size) (hp : p < L.length) (hx : FL L p = ⟨xi, xu, xl, xr, xt, xf, xb, xc⟩) (hu : xu ≠ 0) :
    Calls Try.prog 65 #[.slice (some ⟨g, 0, none⟩) L.length c, .int .i64 p, .agg #[.int .i64 10, .int .i64 i, .int .i64 t, .int .i64 m, .int .i64 r]] w fun e w' => e = .returned (.tuple #[.slice (some ⟨g, 0, none⟩) L.length c, .int .i64 0]) ∧ AL w' B (.slice (some ⟨g, 0, none⟩) L.length c) (L.set p ⟨xi, xu, xl, xr, m, xf, xb, xc⟩) ∧ Below B w w' := by
  have H : Hid (AL w B (.slice (some ⟨g, 0, none⟩) L.length c) L) := h
  obtain ⟨hBg, hgz⟩ := h.block
  obtain ⟨p0, p1, p2, p3, p4, p5, p6, p7⟩ := h.acc hp
  rw [hx] at p0 p1 p2 p3 p4 p5 p6 p7
  have fz : ∀ j, w.frozen? ⟨g, j, none⟩ = false := fun j => H.out.frozen j
  clear h hx
  have hub : (xu == 0) = false := by simp [hu]
  clear hu
  go_enter Try.func65, Try.ntmps65
  go_wp2
  go_ret2
  exact ⟨rfl, World.ownsRow.alloc (World.ownsRow.alloc (H.out.stored8 hp ⟨xi, xu, xl, xr, m, xf, xb, xc⟩) _) _, (((set8_below (Below.refl _ _) g (p * 8) ⟨xi, xu, xl, xr, m, xf, xb, xc⟩ hBg).alloc (by simp [set8_size]; omega) _).alloc (by simp [set8_size]; omega) _)⟩
end Go.Proofs.Ytleblllofibfkaa
