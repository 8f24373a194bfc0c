/- The specification's payment between two accounts. Conditions: the accounts lie in memory of the call's own and are a right forest. -/
import Derived.Test.YtleblllofibfkaaLists
namespace Go.Proofs.Ytleblllofibfkaa
open Go.RowKit
set_option maxRecDepth 8000

theorem AL.acc {w : World} {B g c : Nat} {L : List Acc} (h : AL w B (.slice (some ⟨g, 0, none⟩) L.length c) L) {i : Nat} (hi : i < L.length) : AccAt w g (i * 8) (FL L i) := by
  obtain ⟨a', c', hv, _, hs⟩ := h.shape
  obtain ⟨g', ea, _, _, hA⟩ := hs i hi
  rw [ea] at hv
  have : g = g' := by simpa using (Value.slice.inj hv).1
  subst this
  rw [FL_lt hi]
  exact hA
theorem AL.kept_fo {w : World} {B g c : Nat} {L : List Acc} (h : AL w B (.slice (some ⟨g, 0, none⟩) L.length c) L) (hl : L.length ≤ 1048576) : Fo w (some ⟨g, 0, none⟩) L.length (FL L) := (h.fo hl).2

/-- A limit is in the way of a payment. -/
def payShort (L : List Acc) (p q : Nat) (m : Int) : Prop := ∃ r, room (FL L) L.length (pathL (FL L) L.length q) p = some r ∧ r < m
open Classical in
/-- What a payment comes to. -/
noncomputable def payS (L : List Acc) (p q : Nat) (m : Int) : Int × List Acc :=
  if (FL L p).frozen = true ∨ (FL L q).frozen = true then (5, L) else if payShort L p q m then (6, L) else
    (0, (L.set p { FL L p with balance := (FL L p).balance - m }).set q { FL L q with balance := (FL L q).balance + m })

set_option maxHeartbeats 4000000 in
theorem specPay (B g c : Nat) (L : List Acc) (p q : Nat) (m : Int) (w : World) (h : AL w B (.slice (some ⟨g, 0, none⟩) L.length c) L) (hBw : B ≤ w.heap.size) (hR : Right (FL L) L.length) (hp : p < L.length) (hq : q < L.length) (hpq : p ≠ q) (hm1 : 1 ≤ m) (hm2 : m ≤ 1000000000000) :
    Calls Try.prog 63 #[.slice (some ⟨g, 0, none⟩) L.length c, .int .i64 p, .int .i64 q, .int .i64 m] w fun e w' => e = .returned (.tuple #[.slice (some ⟨g, 0, none⟩) L.length c, .int .i64 (payS L p q m).1]) ∧ AL w' B (.slice (some ⟨g, 0, none⟩) L.length c) (payS L p q m).2 ∧ Below B w w' := by
  have H : Hid (AL w B (.slice (some ⟨g, 0, none⟩) L.length c) L) := h
  have HR : Hid (Right (FL L) L.length) := hR
  have hn := hR.1
  have hl : L.length ≤ 1048576 := by omega
  have HF : Hid (Fo w (some ⟨g, 0, none⟩) L.length (FL L)) := h.kept_fo hl
  obtain ⟨hBg, hgz⟩ := h.block
  obtain ⟨p0, p1, p2, p3, p4, p5, p6, p7⟩ := h.acc hp
  obtain ⟨q0, q1, q2, q3, q4, q5, q6, q7⟩ := h.acc hq
  obtain ⟨pb1, pb2⟩ := (hR.2.1 p hp).2.2.2.2.2.1
  obtain ⟨qb1, qb2⟩ := (hR.2.1 q hq).2.2.2.2.2.1
  clear h hR p1 p2 p3 p4 p7 q1 q2 q3 q4 q7
  have HV : Hid (payS L p q m = payS L p q m) := rfl
  by_cases hfp : (FL L p).frozen = true
  · have E : Hid (payS L p q m = (5, L)) := (by unfold payS; rw [if_pos (Or.inl hfp)] : payS L p q m = (5, L))
    rw [hfp] at p5
    go_enter Try.func63, Try.ntmps63
    go_wp2
    go_ret2
    rw [E.out]
    exact ⟨rfl, H.out, Below.refl _ _⟩
  have hfp' : (FL L p).frozen = false := by simpa using hfp
  by_cases hfq : (FL L q).frozen = true
  · have E : Hid (payS L p q m = (5, L)) := (by unfold payS; rw [if_pos (Or.inr hfq)] : payS L p q m = (5, L))
    rw [hfp'] at p5
    rw [hfq] at q5
    go_enter Try.func63, Try.ntmps63
    go_wp2
    go_ret2
    rw [E.out]
    exact ⟨rfl, H.out, Below.refl _ _⟩
  have hfq' : (FL L q).frozen = false := by simpa using hfq
  have HN : Hid (¬ ((FL L p).frozen = true ∨ (FL L q).frozen = true)) := fun e => e.elim hfp hfq
  rw [hfp'] at p5
  rw [hfq'] at q5
  clear hfp hfq
  go_enter Try.func63, Try.ntmps63
  go_wp2_with fail
  refine (specPath_right _ L.length c (FL L) q _ HF.out HR.out hq).mono ?_
  rintro e w1 ⟨v, rfl, I1, B1⟩
  have I1' : Hid (IL w1 w.heap.size v (pathL (FL L) L.length q)) := I1
  have B1' : Hid (Below w.heap.size w w1) := B1
  have hpl : (pathL (FL L) L.length q).length ≤ 1048576 := by have := path_len HR.out hq; omega
  have H1 : Hid (AL w1 B (.slice (some ⟨g, 0, none⟩) L.length c) L) := H.out.kept B1
  clear B1 I1 p0 p5 p6 q0 q5 q6
  have p0 := (H1.out.acc hp).1
  obtain ⟨va, vm, hvv, _⟩ := I1'.out.shape
  subst hvv
  go_wp2_with fail
  refine (specRoom _ L.length c (FL L) (pathL (FL L) L.length q) p w.heap.size _ _ (HF.out.below B1'.out) HR.out hp I1'.out hpl).mono ?_
  rintro e w2 ⟨rfl, B2⟩
  have B2' : Hid (Below w.heap.size w w2) := B1'.out.trans (B2.mono B1'.out.size)
  have H2 : Hid (AL w2 B (.slice (some ⟨g, 0, none⟩) L.length c) L) := H1.out.kept B2
  clear B2 p0 H1
  have BB : Hid (Below B w w2) := B2'.out.mono hBw
  have HPS : Hid (payShort L p q m ↔ ∃ r, room (FL L) L.length (pathL (FL L) L.length q) p = some r ∧ r < m) := Iff.rfl
  have fz : ∀ j, w2.frozen? ⟨g, j, none⟩ = false := fun j => H2.out.frozen j
  have p6 := (H2.out.acc hp).2.2.2.2.2.2.1
  have q6 := (H2.out.acc hq).2.2.2.2.2.2.1
  have hne : ¬ q * 8 + 6 = p * 8 + 6 := by omega
  have hDone : Hid (¬ payShort L p q m → payS L p q m = (0, (L.set p { FL L p with balance := (FL L p).balance - m }).set q { FL L q with balance := (FL L q).balance + m })) := fun hs => by
    unfold payS
    rw [if_neg HN.out, if_neg hs]
  have hAL : Hid (AL ((w2.setCell ⟨g, p * 8 + 6, none⟩ (.int .i64 ((FL L p).balance - m))).setCell ⟨g, q * 8 + 6, none⟩ (.int .i64 ((FL L q).balance + m))) B (.slice (some ⟨g, 0, none⟩) L.length c) ((L.set p { FL L p with balance := (FL L p).balance - m }).set q { FL L q with balance := (FL L q).balance + m })) := by
    have s1 := H2.out.stored hp 6 (by omega) (.int .i64 ((FL L p).balance - m)) { FL L p with balance := (FL L p).balance - m } rfl
    have e1 : FL (L.set p { FL L p with balance := (FL L p).balance - m }) q = FL L q := FL_set_ne _ (fun e => hpq e.symm)
    have s2 := s1.stored (p := q) (by simpa using hq) 6 (by omega) (.int .i64 ((FL L q).balance + m)) { FL L q with balance := (FL L q).balance + m } (by rw [e1]; rfl)
    simp only [List.length_set] at s2
    exact s2
  have hBl : Hid (Below B w ((w2.setCell ⟨g, p * 8 + 6, none⟩ (.int .i64 ((FL L p).balance - m))).setCell ⟨g, q * 8 + 6, none⟩ (.int .i64 ((FL L q).balance + m)))) := below_set (below_set BB.out hBg _ _) hBg _ _
  generalize hz : room (FL L) L.length (pathL (FL L) L.length q) p = z at *
  cases z with
  | none =>
    have NS : Hid (¬ payShort L p q m) := fun hh => by obtain ⟨r, e, _⟩ := HPS.out.1 hh; cases e
    simp only [Option.isSome_none, Option.getD_none]
    go_wp2
    go_ret2
    rw [hDone.out NS.out]
    exact ⟨rfl, hAL.out, hBl.out⟩
  | some r =>
    simp only [Option.isSome_some, Option.getD_some]
    by_cases hr : r < m
    · have E : Hid (payS L p q m = (6, L)) := (by unfold payS; rw [if_neg HN.out, if_pos (HPS.out.2 ⟨r, rfl, hr⟩)] : payS L p q m = (6, L))
      go_wp2
      go_ret2
      rw [E.out]
      exact ⟨rfl, H2.out, BB.out⟩
    · have NS : Hid (¬ payShort L p q m) := fun hh => by obtain ⟨r', e, e2⟩ := HPS.out.1 hh; obtain rfl := Option.some.inj e; exact hr e2
      go_wp2
      go_ret2
      rw [hDone.out NS.out]
      exact ⟨rfl, hAL.out, hBl.out⟩
end Go.Proofs.Ytleblllofibfkaa
