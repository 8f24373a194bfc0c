/- A disk, a name and data are drawn (DrawReplace). Conditions: the code's bytes lie in memory. -/
import Derived.Test.YtcalgmhpagpnnaaRm
namespace Go.Proofs.Ytcalgmhpagpnnaa
open Go.RowKit
set_option maxRecDepth 8000

/-- The reader, the answer's box and a disk in its box. -/
structure DV (w : World) (a : Option Addr) (len cap D : Nat) (q : Option Addr) (n c : Nat) (q' : Option Addr) (m c' : Nat) (q'' : Option Addr) (r c'' : Nat) (L1 L2 : List Fl) (L3 : List Dp) (V : World) : Prop where
  rd : Rd V (w.heap.size + 1) a len cap
  b : Below w.heap.size w V
  r0 : Box3 V w.heap.size (.slice none 0 0) (.slice none 0 0) (.slice none 0 0)
  d : Box3 V D (.slice q n c) (.slice q' m c') (.slice q'' r c'')
  dk : DkL V q n q' m q'' r L1 L2 L3
  beh : Beh (w.heap.size + 1) q q' q''
  dp : w.heap.size + 1 < D
theorem DV.step {w V V' : World} {a : Option Addr} {len cap D : Nat} {q q' q'' : Option Addr} {n c m c' r c'' : Nat} {L1 L2 : List Fl} {L3 : List Dp} (h : DV w a len cap D q n c q' m c' q'' r c'' L1 L2 L3 V) (hr : Rd V' (w.heap.size + 1) a len cap) (s : Stp (w.heap.size + 1) V V') : DV w a len cap D q n c q' m c' q'' r c'' L1 L2 L3 V' := by
  have q1 := h.dp
  have q2 : w.heap.size + 1 ≤ V.heap.size := Nat.le_of_lt h.rd.2.2.2.1
  exact ⟨hr, h.b.trans ((s.below q2).mono (by omega)), h.r0.stp s (by omega), h.d.stp s (by omega), h.dk.stp s h.beh, h.beh, h.dp⟩
theorem DV.kept {w V V' : World} {a : Option Addr} {len cap D : Nat} {q q' q'' : Option Addr} {n c m c' r c'' : Nat} {L1 L2 : List Fl} {L3 : List Dp} (h : DV w a len cap D q n c q' m c' q'' r c'' L1 L2 L3 V) (hb : Below V.heap.size V V') : DV w a len cap D q n c q' m c' q'' r c'' L1 L2 L3 V' :=
  h.step (h.rd.same (hb.mono h.rd.2.2.2.1)) (Stp.ofBelow hb)
/-- What is drawn: a disk, a name and data. -/
def RpDraw (w : World) (e : Ending) (w' : World) : Prop :=
  ∃ a1 n1 c1 a2 n2 c2 a3 n3 c3 L1 L2 L3, ∃ nm dt : ByteArray, e = .returned (.tuple #[.agg #[.slice a1 n1 c1, .slice a2 n2 c2, .slice a3 n3 c3], .string nm, .string dt]) ∧ DkL w' a1 n1 a2 n2 a3 n3 L1 L2 L3 ∧ nm.size ≤ 98 ∧ dt.size ≤ 3 ∧ Below w.heap.size w w'
theorem DV.fin {w V : World} {a : Option Addr} {len cap D : Nat} {q q' q'' : Option Addr} {n c m c' r c'' : Nat} {L1 L2 : List Fl} {L3 : List Dp} (h : DV w a len cap D q n c q' m c' q'' r c'' L1 L2 L3 V) {nm dt : ByteArray} (hn : nm.size ≤ 98) (hd : dt.size ≤ 3) : RpDraw w (.returned (.tuple #[.agg #[.slice q n c, .slice q' m c', .slice q'' r c''], .string nm, .string dt])) (set3 V w.heap.size (.slice q n c) (.slice q' m c') (.slice q'' r c'')) := by
  have bh := h.beh
  have z0 : w.heap.size ≤ w.heap.size + 1 := by omega
  exact ⟨q, n, c, q', m, c', q'', r, c'', L1, L2, L3, nm, dt, rfl, ((h.dk.set bh z0 _ _).set bh z0 _ _).set bh z0 _ _, hn, hd, below_far (below_far (below_far h.b (by omega) _ _) (by omega) _ _) (by omega) _ _⟩
theorem RpDraw.drew {w V : World} {e : Ending} (h : RpDraw w e V) : RpDraw w e V.drew := by
  obtain ⟨a1, n1, c1, a2, n2, c2, a3, n3, c3, L1, L2, L3, nm, dt, h1, h2, h3, h4, h5⟩ := h
  exact ⟨a1, n1, c1, a2, n2, c2, a3, n3, c3, L1, L2, L3, nm, dt, h1, h2.below (Below.refl _ _).drew, h3, h4, h5.drew⟩
def namesR : List ByteArray := [⟨#[98, 97, 115, 101]⟩, ⟨#[108, 111, 103]⟩, ⟨#[98, 97, 115, 101]⟩, ⟨#[]⟩]
theorem namesR_le : ∀ y ∈ namesR, y.size ≤ 98 := by
  intro y hy
  simp only [namesR, List.mem_cons, List.not_mem_nil, or_false] at hy
  rcases hy with e | e | e | e <;> subst e <;> decide

set_option maxHeartbeats 4000000 in
theorem drawRepl (a : Option Addr) (len cap : Nat) (w : World) (hc : Code w a len) :
    Calls Try.prog 23 #[.slice a len cap] w fun e w' => RpDraw w e w' := by
  obtain ⟨W0, hW0, X0, xb, hs0⟩ : ∃ W0, W0 = w.alloc (.cells #[.slice none 0 0, .slice none 0 0, .slice none 0 0] 27) ∧ Hid (Box3 W0 w.heap.size (.slice none 0 0) (.slice none 0 0) (.slice none 0 0)) ∧ Hid (Below w.heap.size w W0) ∧ Hid (W0.heap.size = w.heap.size + 1) := ⟨_, rfl, Box3.new w _ _ _ 27, (Below.refl _ _).alloc (Nat.le_refl _) _, World.size_alloc _ _⟩
  have HW0 : Hid (W0 = _) := hW0
  have HC : Hid (Code w a len) := hc
  clear hW0 hc
  go_enter Try.func23, Try.ntmps23
  go_wp2_with fail
  rw [← HW0.out]
  refine (rd_open a len cap _ HC.out.1 (fun i hi => by obtain ⟨b, off, z, h1, h2, h3, h4⟩ := HC.out.2 i hi; exact ⟨b, off, z, h1, by have := hs0.out; omega, (xb.out.cell (p := ⟨b, off + i, none⟩) h2).trans h3, h4⟩)).mono ?_
  rintro e w1 ⟨rfl, R1, B1⟩
  rw [hs0.out] at R1 B1 ⊢
  have X1 : Hid (Box3 w1 w.heap.size (.slice none 0 0) (.slice none 0 0) (.slice none 0 0) ∧ Below w.heap.size w w1 ∧ Rd w1 (w.heap.size + 1) a len cap) := ⟨X0.out.kept B1 (by omega), xb.out.trans (B1.mono (by omega)), R1⟩
  clear R1 B1 X0 xb HW0 HC hs0
  go_wp2_with fail
  refine (rd_disk _ a len cap _ X1.out.2.2).mono ?_
  rintro e w2 ⟨q, n, c, q', m, c', q'', r, c'', L1, L2, L3, rfl, D2, Bh, R2, S2⟩
  have hlt : w.heap.size + 1 < w1.heap.size := X1.out.2.2.2.2.2.1
  have hlt2 : w1.heap.size ≤ w2.heap.size := S2.size
  obtain ⟨V3, hV3, X3⟩ : ∃ V3, V3 = w2.alloc (.cells #[.slice q n c, .slice q' m c', .slice q'' r c''] 27) ∧ Hid (DV w a len cap w2.heap.size q n c q' m c' q'' r c'' L1 L2 L3 V3) := by
    have s3 : Stp (w.heap.size + 1) w2 (w2.alloc (.cells #[.slice q n c, .slice q' m c', .slice q'' r c''] 27)) := (Stp.refl _ _).alloc _
    have b3 : Below w2.heap.size w2 (w2.alloc (.cells #[.slice q n c, .slice q' m c', .slice q'' r c''] 27)) := (Below.refl _ _).alloc (Nat.le_refl _) _
    have bw : Below w.heap.size w w2 := X1.out.2.1.trans ((S2.below (by omega)).mono (by omega))
    exact ⟨_, rfl, R2.alloc _, bw.trans (b3.mono (by omega)), (X1.out.1.stp S2 (by omega)).stp s3 (by omega), Box3.new w2 _ _ _ 27, D2.below b3, Bh.mono (by omega), by omega⟩
  have HV3 : Hid (V3 = _) := hV3
  have hB3 : w.heap.size + 1 < V3.heap.size := X3.out.rd.2.2.2.1
  have HS3 : Hid (V3.heap.size = w2.heap.size + 1) := by rw [hV3]; exact World.size_alloc _ _
  clear hV3 D2 Bh R2 S2 X1 hlt hlt2
  go_wp2_with fail
  rw [← HV3.out]
  refine (rd_below _ a len cap 4 _ (X3.out.rd.alloc _) (by omega) (by omega)).mono ?_
  rintro e w4 ⟨v, rfl, v1, v2, R4, S4⟩
  obtain ⟨j, rfl⟩ := Int.eq_ofNat_of_zero_le v1
  have hj : j < 4 := by omega
  have hj' : (j : Int) < 4 := by omega
  obtain ⟨y, hy⟩ : ∃ y, y = namesR[j]'(by simpa [namesR] using hj) := ⟨_, rfl⟩
  have HY : Hid (y.size ≤ 98) := by show y.size ≤ 98; rw [hy]; exact namesR_le _ (List.getElem_mem _)
  have hcy : w4.cell? ⟨w2.heap.size + 1, j, none⟩ = some (.string y) := by
    rw [hy, ← HS3.out]
    exact strs_at namesR S4 hB3 j (by simpa [namesR] using hj)
  have X4 : Hid (DV w a len cap w2.heap.size q n c q' m c' q'' r c'' L1 L2 L3 w4) := (X3.out.kept ((Below.refl _ _).alloc (Nat.le_refl _) _)).step R4 S4
  clear R4 S4 hy HV3 X3 HS3 hB3
  go_wp2_with fail
  refine (rd_once _ a len cap 12 _ X4.out.rd (by omega) (by omega)).mono ?_
  rintro e w5 ⟨b, rfl, R5, S5⟩
  have X5 : Hid (DV w a len cap w2.heap.size q n c q' m c' q'' r c'' L1 L2 L3 w5) := X4.out.step R5 S5
  clear R5 S5 X4 hcy hj hj' v1 v2
  cases b with
  | false =>
    go_wp2_with fail
    have XD : Hid (DV w a len cap w2.heap.size q n c q' m c' q'' r c'' L1 L2 L3 w5.drew) := X5.out.kept ((Below.refl _ _).drew)
    have TX : Hid (Calls Try.prog 61 #[.pointer (some ⟨w.heap.size + 1, 0, none⟩)] w5.drew fun e w' => ∃ y : ByteArray, e = .returned (.string y) ∧ y.size ≤ 3 ∧ DV w a len cap w2.heap.size q n c q' m c' q'' r c'' L1 L2 L3 w') := (rd_text _ a len cap _ XD.out.rd).mono (by rintro e w' ⟨t, h1, h2, h3, h4⟩; exact ⟨t, h1, h2, XD.out.step h3 h4⟩)
    obtain ⟨⟨d0, d1, d2⟩, df, dl⟩ := XD.out.d
    obtain ⟨⟨e0, e1, e2⟩, ef, el⟩ := X5.out.d
    clear XD X5
    go_region_with (go_at_call 61; refine TX.out.mono ?_; rintro e u1 ⟨t, rfl, ht, X9⟩; obtain ⟨⟨g0, g1, g2⟩, gf, gl⟩ := X9.d; obtain ⟨⟨r0, r1, r2⟩, rf, rl⟩ := X9.r0; have hne := X9.dp; have hn1 : w2.heap.size ≠ w.heap.size := (by omega); have hn2 : w.heap.size ≠ w2.heap.size := (by omega); have FI : Hid (RpDraw w (.returned (.tuple #[.agg #[.slice q n c, .slice q' m c', .slice q'' r c''], .string y, .string t])) (set3 u1 w.heap.size (.slice q n c) (.slice q' m c') (.slice q'' r c''))) := X9.fin HY.out ht; clear X9 ht hne)
    all_goals go_wp2
    all_goals refine bodyPost_ret (v := .tuple #[.agg #[.slice q n c, .slice q' m c', .slice q'' r c''], .string y, .string t]) (by simp [results, Try.results23, go_sem, r0, r1, r2]) rfl ?_
    all_goals first | exact FI.out | exact FI.out.drew
  | true =>
    go_wp2_with fail
    refine (rd_below _ a len cap 4 _ X5.out.rd (by omega) (by omega)).mono ?_
    rintro e w6 ⟨v, rfl, v1, v2, R6, S6⟩
    have X6 : Hid (DV w a len cap w2.heap.size q n c q' m c' q'' r c'' L1 L2 L3 w6) := X5.out.step R6 S6
    obtain ⟨n6, hn6⟩ := Int.eq_ofNat_of_zero_le (show 0 ≤ 95 + v by omega)
    have hnn : n6 ≤ 98 := by omega
    have hmk := makeBy n6 (by omega)
    have hcv := convBy w6 n6 (by omega)
    have HY : Hid ((zeroB n6).size ≤ 98) := by show _ ≤ 98; rw [zeroB_size]; exact hnn
    have X7 : Hid (DV w a len cap w2.heap.size q n c q' m c' q'' r c'' L1 L2 L3 (w6.alloc (.cells (madeCells #[.int .u8 0] n6) 5))) := X6.out.kept ((Below.refl _ _).alloc (Nat.le_refl _) _)
    clear R6 S6 X5 X6 v1 v2
    generalize zeroB n6 = y at *
    go_upto_region 6 with fail
    generalize w6.alloc (.cells (madeCells #[.int .u8 0] n6) 5) = w7 at *
    clear hmk hcv
    have XD : Hid (DV w a len cap w2.heap.size q n c q' m c' q'' r c'' L1 L2 L3 w7.drew) := X7.out.kept ((Below.refl _ _).drew)
    have TX : Hid (Calls Try.prog 61 #[.pointer (some ⟨w.heap.size + 1, 0, none⟩)] w7.drew fun e w' => ∃ y : ByteArray, e = .returned (.string y) ∧ y.size ≤ 3 ∧ DV w a len cap w2.heap.size q n c q' m c' q'' r c'' L1 L2 L3 w') := (rd_text _ a len cap _ XD.out.rd).mono (by rintro e w' ⟨t, h1, h2, h3, h4⟩; exact ⟨t, h1, h2, XD.out.step h3 h4⟩)
    obtain ⟨⟨d0, d1, d2⟩, df, dl⟩ := XD.out.d
    obtain ⟨⟨e0, e1, e2⟩, ef, el⟩ := X7.out.d
    clear XD X7
    go_region_with (go_at_call 61; refine TX.out.mono ?_; rintro e u1 ⟨t, rfl, ht, X9⟩; obtain ⟨⟨g0, g1, g2⟩, gf, gl⟩ := X9.d; obtain ⟨⟨r0, r1, r2⟩, rf, rl⟩ := X9.r0; have hne := X9.dp; have hn1 : w2.heap.size ≠ w.heap.size := (by omega); have hn2 : w.heap.size ≠ w2.heap.size := (by omega); have FI : Hid (RpDraw w (.returned (.tuple #[.agg #[.slice q n c, .slice q' m c', .slice q'' r c''], .string y, .string t])) (set3 u1 w.heap.size (.slice q n c) (.slice q' m c') (.slice q'' r c''))) := X9.fin HY.out ht; clear X9 ht hne)
    all_goals go_wp2
    all_goals refine bodyPost_ret (v := .tuple #[.agg #[.slice q n c, .slice q' m c', .slice q'' r c''], .string y, .string t]) (by simp [results, Try.results23, go_sem, r0, r1, r2]) rfl ?_
    all_goals first | exact FI.out | exact FI.out.drew
end Go.Proofs.Ytcalgmhpagpnnaa
