/- What the specification does to one account: taken from. Conditions: the accounts lie in memory of the call's own and are a right forest. -/
import Derived.Test.YtleblllofibfkaaAct
namespace Go.Proofs.Ytleblllofibfkaa
open Go.RowKit
set_option maxRecDepth 8000

theorem AL.set_other {w : World} {B g m c : Nat} {L : List Acc} (h : AL w B (.slice (some ⟨g, 0, none⟩) m c) L) {k : Nat} (hk : k ≠ g) (o : Nat) (u : Value) : AL (w.setCell ⟨k, o, none⟩ u) B (.slice (some ⟨g, 0, none⟩) m c) L := by
  refine World.ownsRow.kept (row := some k) h (grown_set w k o u) (Or.inr ?_)
  simp [Value.ownBlock]
  exact fun e => hk e.symm

/-- What an op's own part hands back: the forest, in memory of the call's own, and the code. -/
def Out (R : Int × List Acc) (B : Nat) (w : World) (e : Ending) (w' : World) : Prop := ∃ v, e = .returned (.tuple #[v, .int .i64 R.1]) ∧ AL w' B v R.2 ∧ Below B w w'
open Classical in
/-- What taking comes to, from an account that is not frozen. -/
noncomputable def takeS (L : List Acc) (p : Nat) (m : Int) : Int × List Acc :=
  if (room (FL L) L.length [] p).getD 0 < m then (6, L) else (0, L.set p { FL L p with balance := (FL L p).balance - m })

set_option maxHeartbeats 1000000 in
theorem specAct6 (B g c : Nat) (L : List Acc) (p : Nat) (i t m r xi xu xl xr xt xb xc : Int) (w : World) (h : AL w B (.slice (some ⟨g, 0, none⟩) L.length c) L) (hBw : B ≤ w.heap.size) (hR : Right (FL L) L.length) (hp : p < L.length) (hx : FL L p = ⟨xi, xu, xl, xr, xt, false, xb, xc⟩) (hm1 : 1 ≤ m) (hm2 : m ≤ 1000000000000) :
    Calls Try.prog 65 #[.slice (some ⟨g, 0, none⟩) L.length c, .int .i64 p, .agg #[.int .i64 6, .int .i64 i, .int .i64 t, .int .i64 m, .int .i64 r]] w fun e w' => Out (takeS L p m) B w e w' := by
  have H : Hid (AL w B (.slice (some ⟨g, 0, none⟩) L.length c) L) := h
  have hn := hR.1
  obtain ⟨hBg, hgz⟩ := h.block
  obtain ⟨p0, p1, p2, p3, p4, p5, p6, p7⟩ := h.acc hp
  rw [hx] at p0 p1 p2 p3 p4 p5 p6 p7
  have fz : ∀ j, w.frozen? ⟨g, j, none⟩ = false := fun j => H.out.frozen j
  obtain ⟨xb1, xb2⟩ : -1000000000000 ≤ xb ∧ xb ≤ 1000000000000 := by have := (hR.2.1 p hp).2.2.2.2.2.1; rw [hx] at this; exact this
  have SR : Hid (∀ w', Fo w' (some ⟨g, 0, none⟩) L.length (FL L) → Calls Try.prog 69 #[.slice (some ⟨g, 0, none⟩) L.length c, .int .i64 xi, .slice none 0 0] w' fun e w'' => e = .returned (.tuple #[.int .i64 ((room (FL L) L.length [] p).getD 0), .bool (room (FL L) L.length [] p).isSome]) ∧ Below w'.heap.size w' w'') := fun w' h' => by
    have := specRoom (some ⟨g, 0, none⟩) L.length c (FL L) [] p 0 (.slice none 0 0) w' h' hR hp (IL.nil _ _) (by simp)
    rw [hx] at this
    exact this
  have HF : Hid (Fo w (some ⟨g, 0, none⟩) L.length (FL L)) := h.kept_fo (by omega)
  have XA : Hid (Box ((w.alloc (.cells #[.int .i64 6, .int .i64 i, .int .i64 t, .int .i64 m, .int .i64 r] 68)).alloc (.cells #[.int .i64 xi, .int .i64 xu, .int .i64 xl, .int .i64 xr, .int .i64 xt, .bool false, .int .i64 xb, .int .i64 xc] 33)) (w.heap.size + 1) ⟨xi, xu, xl, xr, xt, false, xb, xc⟩) := by
    have := Box.new (w.alloc (.cells #[.int .i64 6, .int .i64 i, .int .i64 t, .int .i64 m, .int .i64 r] 68)) ⟨xi, xu, xl, xr, xt, false, xb, xc⟩ 33
    have e : (w.alloc (.cells #[.int .i64 6, .int .i64 i, .int .i64 t, .int .i64 m, .int .i64 r] 68)).heap.size = w.heap.size + 1 := by simp
    rw [e] at this
    exact this
  have OB : Hid (OpBox ((w.alloc (.cells #[.int .i64 6, .int .i64 i, .int .i64 t, .int .i64 m, .int .i64 r] 68)).alloc (.cells #[.int .i64 xi, .int .i64 xu, .int .i64 xl, .int .i64 xr, .int .i64 xt, .bool false, .int .i64 xb, .int .i64 xc] 33)) w.heap.size 6 i t m r) := (OpBox.new w 6 i t m r 68).below ((Below.refl _ _).alloc (Nat.le_refl _) _)
  have HT : Hid (takeS L p m = if (room (FL L) L.length [] p).getD 0 < m then (6, L) else (0, L.set p ⟨xi, xu, xl, xr, xt, false, xb - m, xc⟩)) := (by unfold takeS; rw [hx] : takeS L p m = if (room (FL L) L.length [] p).getD 0 < m then (6, L) else (0, L.set p ⟨xi, xu, xl, xr, xt, false, xb - m, xc⟩))
  clear h hR hx
  go_enter Try.func65, Try.ntmps65
  go_wp2_with fail
  refine (SR.out _ ((HF.out.alloc _).alloc _)).mono ?_
  rintro e w1 ⟨rfl, B1⟩
  have X1 : Hid (Box w1 (w.heap.size + 1) ⟨xi, xu, xl, xr, xt, false, xb, xc⟩) := XA.out.below B1
  have O1 : Hid (OpBox w1 w.heap.size 6 i t m r) := OB.out.below B1
  have H1 : Hid (AL w1 B (.slice (some ⟨g, 0, none⟩) L.length c) L) := AL.kept (World.ownsRow.alloc (World.ownsRow.alloc H.out _) _) B1
  have BB : Hid (Below B w w1) := (((Below.refl _ _).alloc hBw _).alloc (by simp; omega) _).trans (B1.mono (by simp; omega))
  clear B1 XA OB SR HF H p0 p1 p2 p3 p4 p5 p6 p7 fz
  generalize room (FL L) L.length [] p = z at HT
  obtain ⟨o0, o1, o2, o3, o4, oz⟩ := O1.out
  obtain ⟨⟨x0, x1, x2, x3, x4, x5, x6, x7⟩, xz, xs⟩ := X1.out
  simp only [Nat.zero_add] at x1 x2 x3 x4 x5 x6 x7
  by_cases hz : z.getD 0 < m
  · have E : Hid (takeS L p m = (6, L)) := (by rw [HT.out, if_pos hz] : takeS L p m = (6, L))
    clear HT
    go_wp2
    go_ret2
    rw [E.out]
    exact ⟨_, rfl, H1.out, BB.out⟩
  · have fz : ∀ j, w1.frozen? ⟨g, j, none⟩ = false := fun j => H1.out.frozen j
    obtain ⟨p0, p1, p2, p3, p4, p5, p6, p7⟩ := H1.out.acc hp
    have hne : ¬ w.heap.size + 1 = g := by omega
    have hne' : ¬ g = w.heap.size + 1 := by omega
    have HA : Hid (AL (set8 (w1.setCell ⟨w.heap.size + 1, 6, none⟩ (.int .i64 (xb - m))) g (p * 8) ⟨xi, xu, xl, xr, xt, false, xb - m, xc⟩) B (.slice (some ⟨g, 0, none⟩) L.length c) (L.set p ⟨xi, xu, xl, xr, xt, false, xb - m, xc⟩)) := (H1.out.set_other hne _ _).stored8 hp _
    have HB : Hid (Below B w (set8 (w1.setCell ⟨w.heap.size + 1, 6, none⟩ (.int .i64 (xb - m))) g (p * 8) ⟨xi, xu, xl, xr, xt, false, xb - m, xc⟩)) := set8_below (below_set BB.out (by omega) _ _) g (p * 8) _ hBg
    have E : Hid (takeS L p m = (0, L.set p ⟨xi, xu, xl, xr, xt, false, xb - m, xc⟩)) := (by rw [HT.out, if_neg hz] : takeS L p m = (0, L.set p ⟨xi, xu, xl, xr, xt, false, xb - m, xc⟩))
    clear X1 O1 H1 HT
    go_wp2
    go_ret2
    rw [E.out]
    exact ⟨_, rfl, HA.out, HB.out⟩
end Go.Proofs.Ytleblllofibfkaa
