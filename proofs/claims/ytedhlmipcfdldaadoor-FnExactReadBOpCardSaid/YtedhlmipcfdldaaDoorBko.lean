/- The reader of an op of a bank. Conditions: as of the reader. -/
import Derived.Test.YtedhlmipcfdldaaDoorBkm
namespace Go.Proofs.YtedhlmipcfdldaaDoor
open Go.RowKit
set_option maxRecDepth 8000

/-- A right op stands ahead in the text s, and t is left. -/
def RightAt (s : List UInt8) (K : Int) (x : OpF) (o : Ord) (n : Int) (t : List UInt8) : Prop := bopOk K x o n ∧ wordOf s = (bopW K x o n).1.data.toList ∧ readNums (bopW K x o n).2.length (restOf s) = some ((bopW K x o n).2, t)
/-- What the reader of an op comes to. -/
def BOut (w : World) (p : Nat) (s : ByteArray) (e : Ending) (w' : World) : Prop := Stp p w w' ∧ ((∃ (K : Int) (x : OpF) (o : Ord) (n : Int) (t : ByteArray), RightAt s.data.toList K x o n t.data.toList ∧ e = .returned (.agg (bl K x o n).toArray) ∧ Rst w' p t ∧ Glo w') ∨ ((∀ K x o n t, ¬ RightAt s.data.toList K x o n t) ∧ Pan e))
theorem no_right {s : List UInt8} {wd : ByteArray} (hw : wd.data.toList = wordOf s) (h : ∀ j, j < 13 → nameK j ≠ wd) : ∀ K x o n t, ¬ RightAt s K x o n t := by
  intro K x o n t ⟨h1, h2, _⟩
  obtain ⟨i, hi, e, _⟩ := right_fill h1
  exact h i hi (ext_ofD (by rw [← e, ← h2, hw]))
theorem the_right {s : List UInt8} {wd : ByteArray} {i : Nat} (hw : wd.data.toList = wordOf s) (hi : i < 13) (he : nameK i = wd) {K n : Int} {x : OpF} {o : Ord} {t : List UInt8} (h : RightAt s K x o n t) : readNums (offK i).length (restOf s) = some ((bopW K x o n).2, t) ∧ setAll (kindV i) (offK i) (bopW K x o n).2 = bl K x o n := by
  obtain ⟨h1, h2, h3⟩ := h
  obtain ⟨j, hj, e, hl, hf⟩ := right_fill h1
  obtain rfl : i = j := name_inj i hi j hj (by rw [he, ← e]; exact ext_ofD (by rw [hw, h2]))
  rw [← hl]
  exact ⟨h3, hf⟩
theorem stp_new {p R : Nat} {w w1 w2 : World} (h : Stp p w w1) (k : Stq p R w1 w2) (hR : w.heap.size ≤ R) : Stp p w w2 :=
  ⟨k.os.trans h.os, k.tape.trans h.tape, k.output.trans h.output, Nat.le_trans h.size k.size, fun j hj hp => (k.block j (Nat.lt_of_lt_of_le hj h.size) hp (by omega)).trans (h.block j hj hp)⟩
theorem Vals.stq {w w' : World} {p R Q : Nat} {vs : List Value} (h : Vals w Q vs) (hs : Stq p R w w') (h1 : Q ≠ p) (h2 : Q ≠ R) : Vals w' Q vs :=
  ⟨fun j v hj => (World.cell?_of_block (w := w) (hs.block Q h.2.2 h1 h2)).trans (h.1 j v hj), fun o => (World.frozen?_of_block (w := w) (hs.block Q h.2.2 h1 h2)).trans (h.2.1 o), Nat.lt_of_lt_of_le h.2.2 hs.size⟩
theorem KindsAt.below {w w' : World} {g : Nat} (h : KindsAt w g) (hb : Below w.heap.size w w') : KindsAt w' g := ⟨Nat.lt_of_lt_of_le h.1 hb.size, fun i j v hi hv => (hb.cell (p := ⟨g, i * 14 + j, none⟩) h.1).trans (h.2 i j v hi hv)⟩
/-- All that lies ahead of a round. -/
def Ahd (w : World) (p g : Nat) (u : ByteArray) (wr : World) : Prop := Rst wr p u ∧ Glo wr ∧ KindsAt wr g ∧ Stp p w wr ∧ Vals wr w.heap.size (bl0 0)
theorem Ahd.below {w wr w' : World} {p g : Nat} {u : ByteArray} (h : Ahd w p g u wr) (hb : Below wr.heap.size wr w') : Ahd w p g u w' := ⟨h.1.below hb, h.2.1.below hb, h.2.2.1.below hb, h.2.2.2.1.trans (Stp.ofBelow hb), h.2.2.2.2.kept hb h.2.2.2.2.2.2⟩

theorem Glo.set {w : World} {R : Nat} (h : Glo w) (hR : 7 ≤ R) (o : Nat) (v : Value) : Glo (w.setCell ⟨R, o, none⟩ v) := h.far hR o v
theorem fin_b {w w5 : World} {p R r : Nat} {K nn : Int} {x : OpF} {od : Ord} {s t : ByteArray} (h : Rst w5 p t ∧ Glo w5 ∧ Stp p w w5 ∧ Vals w5 R (bl K x od nn) ∧ Vals w5 r (bl0 0)) (hR : RightAt s.data.toList K x od nn t.data.toList) (hr : w.heap.size = r) (hp : p < r) :
    BOut w p s (.returned (.agg (bl K x od nn).toArray)) (((((((((((((((w5).setCell ⟨r, 0, none⟩ (.int .i64 K)).setCell ⟨r, 1, none⟩ (.int .i64 x.k)).setCell ⟨r, 2, none⟩ (.int .i64 x.i)).setCell ⟨r, 3, none⟩ (.int .i64 x.t)).setCell ⟨r, 4, none⟩ (.int .i64 x.m)).setCell ⟨r, 5, none⟩ (.int .i64 x.r)).setCell ⟨r, 6, none⟩ (.int .i64 od.id)).setCell ⟨r, 7, none⟩ (.int .i64 od.src)).setCell ⟨r, 8, none⟩ (.int .i64 od.dst)).setCell ⟨r, 9, none⟩ (.int .i64 od.amount)).setCell ⟨r, 10, none⟩ (.int .i64 od.first)).setCell ⟨r, 11, none⟩ (.int .i64 od.every)).setCell ⟨r, 12, none⟩ (.int .i64 od.times)).setCell ⟨r, 13, none⟩ (.int .i64 nn)) := by
  have h7 := h.1.2.2.1
  have k1 : ∀ {W : World} (o : Nat) (v : Value), Rst W p t ∧ Glo W ∧ Stp p w W → Rst (W.setCell ⟨r, o, none⟩ v) p t ∧ Glo (W.setCell ⟨r, o, none⟩ v) ∧ Stp p w (W.setCell ⟨r, o, none⟩ v) := fun o v k => ⟨k.1.far (by omega) o v, k.2.1.far (by omega) o v, k.2.2.setNew (p := ⟨r, o, none⟩) (by show w.heap.size ≤ r; omega) v⟩
  have k := k1 13 (.int .i64 nn) (k1 12 (.int .i64 od.times) (k1 11 (.int .i64 od.every) (k1 10 (.int .i64 od.first) (k1 9 (.int .i64 od.amount) (k1 8 (.int .i64 od.dst) (k1 7 (.int .i64 od.src) (k1 6 (.int .i64 od.id) (k1 5 (.int .i64 x.r) (k1 4 (.int .i64 x.m) (k1 3 (.int .i64 x.t) (k1 2 (.int .i64 x.i) (k1 1 (.int .i64 x.k) (k1 0 (.int .i64 K) ((⟨h.1, h.2.1, h.2.2.1⟩ : Rst w5 p t ∧ Glo w5 ∧ Stp p w w5)))))))))))))))
  exact ⟨k.2.2, Or.inl ⟨K, x, od, nn, t, hR, rfl, k.1, k.2.1⟩⟩

set_option maxHeartbeats 4000000 in
theorem bankOpL (p : Nat) (s : ByteArray) (w : World) (h : Rst w p s) (g0 : Glo w) : Calls Tryd.prog 12 #[.pointer (some ⟨p, 0, none⟩)] w fun e w' => BOut w p s e w' := by
  obtain ⟨W0, hW0, X0⟩ : ∃ W0, W0 = w.alloc (.cells (bl0 0).toArray 27) ∧ Hid (Rst W0 p s ∧ Glo W0 ∧ Stp p w W0 ∧ Vals W0 w.heap.size (bl0 0) ∧ p < w.heap.size) := by
    have hb : Below w.heap.size w (w.alloc (.cells (bl0 0).toArray 27)) := (Below.refl _ _).alloc (Nat.le_refl _) _
    exact ⟨_, rfl, h.below hb, g0.below hb, Stp.ofBelow hb, Vals.new _ _ _, h.2.2.2.1⟩
  have HW0 : Hid (W0 = _) := hW0
  clear hW0 h g0
  go_enter Tryd.func12, Tryd.ntmps12
  go_wp2_with fail
  rw [← HW0.out]
  refine (wordL p s W0 X0.out.1).mono ?_
  rintro e w1 ⟨wd, u, rfl, hwd, hu, _, R1, S1⟩
  have X1 : Hid (Rst w1 p u ∧ Glo w1 ∧ Stp p w w1 ∧ Vals w1 w.heap.size (bl0 0) ∧ p < w.heap.size) := ⟨R1, X0.out.2.1.stp S1 R1.2.2.1, X0.out.2.2.1.trans S1, X0.out.2.2.2.1.stp S1 (by have := X0.out.2.2.2.2; omega), X0.out.2.2.2.2⟩
  have HWD : Hid (wd.data.toList = wordOf s.data.toList ∧ u.data.toList = restOf s.data.toList) := ⟨hwd, hu⟩
  clear R1 S1 X0 HW0 hwd hu
  go_wp2_with fail
  refine (kindsL w1).mono ?_
  rintro e w2 ⟨g, cap, rfl, hg, hk, B2⟩
  have X2 : Hid (Ahd w p g u w2 ∧ p < w.heap.size ∧ w.heap.size < g) := ⟨⟨X1.out.1.below B2, X1.out.2.1.below B2, hk, X1.out.2.2.1.trans (Stp.ofBelow B2), X1.out.2.2.2.1.kept B2 X1.out.2.2.2.1.2.2⟩, X1.out.2.2.2.2, by have := X1.out.2.2.2.1.2.2; omega⟩
  have hpw : p < w.heap.size := X2.out.2.1
  have h7 : 7 ≤ p := X2.out.1.1.2.2.1
  have hgw : w.heap.size < g := X2.out.2.2
  obtain ⟨r, hr⟩ : ∃ r, w.heap.size = r := ⟨_, rfl⟩
  have HR : Hid (w.heap.size = r) := hr
  rw [hr] at hpw hgw ⊢
  clear hk B2 X1 hg hr
  go_wp2
  go_loopw [12] (fun iv wr => ∃ i : Nat, i ≤ 13 ∧ iv = .int .i64 i ∧ Hid (∀ j, j < i → nameK j ≠ wd) ∧ Hid (Ahd w p g u wr)) (fun iv _ => 13 - (intOf iv).toNat)
  case atStart => exact ⟨0, Nat.zero_le _, rfl, (fun j hj => by omega : ∀ j, j < 0 → nameK j ≠ wd), X2.out.1⟩
  case round =>
    obtain ⟨i, hi, rfl, HN, HA⟩ := hrel
    clear X2
    by_cases hlt : i < 13
    · have CC : Hid (∀ j v, (kindV i)[j]? = some v → wr.cell? ⟨g, i * 14 + j, none⟩ = some v) := fun j v hv => HA.out.2.2.1.2 i j v hlt hv
      rw [kindV_eq] at CC
      have c0 : wr.cell? ⟨g, i * 14, none⟩ = some (.int .i64 (kindK i)) := CC.out 0 _ rfl
      have c1 := CC.out 1 _ rfl
      have c2 := CC.out 2 _ rfl
      have c3 := CC.out 3 _ rfl
      have c4 := CC.out 4 _ rfl
      have c5 := CC.out 5 _ rfl
      have c6 := CC.out 6 _ rfl
      have c7 := CC.out 7 _ rfl
      have c8 := CC.out 8 _ rfl
      have c9 := CC.out 9 _ rfl
      have c10 := CC.out 10 _ rfl
      have c11 := CC.out 11 _ rfl
      have c12 := CC.out 12 _ rfl
      have c13 := CC.out 13 _ rfl
      obtain ⟨V, hV, XV⟩ : ∃ V, V = wr.alloc (.cells (bl (kindK i) ⟨kindX i, 0, 0, 0, 0⟩ ⟨0, 0, 0, 0, 0, 0, 0⟩ 0).toArray 27) ∧ Hid (Ahd w p g u V ∧ Vals V wr.heap.size (kindV i) ∧ r < wr.heap.size) := by
        have hb : Below wr.heap.size wr (wr.alloc (.cells (bl (kindK i) ⟨kindX i, 0, 0, 0, 0⟩ ⟨0, 0, 0, 0, 0, 0, 0⟩ 0).toArray 27)) := (Below.refl _ _).alloc (Nat.le_refl _) _
        exact ⟨_, rfl, HA.out.below hb, by rw [kindV_eq]; exact Vals.new _ _ _, by have := HA.out.2.2.2.2.2.2; rw [HR.out] at this; exact this⟩
      have HV : Hid (V = _) := hV
      clear hV CC
      generalize kindK i = K at *
      generalize kindX i = kx at *
      go_upto_region 5 with fail
      rw [← HV.out]
      clear HV c0 c1 c2 c3 c4 c5 c6 c7 c8 c9 c10 c11 c12 c13
      obtain ⟨R, hRR⟩ : ∃ R, wr.heap.size = R := ⟨_, rfl⟩
      rw [hRR] at XV ⊢
      have hrR : r < R := XV.out.2.2
      clear hRR HA
      go_wp2_with fail
      refine (formL i hlt R V XV.out.2.1).mono ?_
      rintro e w3 ⟨a, c, rfl, P3, B3⟩
      have X3 : Hid (Ahd w p g u w3 ∧ Vals w3 R (kindV i) ∧ PtrP w3 a R (offK i)) := ⟨XV.out.1.below B3, XV.out.2.1.kept B3 XV.out.2.1.2.2, P3⟩
      clear B3 P3 XV
      by_cases he : nameK i = wd
      · have HE : Hid (nameK i = wd) := he
        obtain ⟨m, hm⟩ : ∃ m, (offK i).length = m := ⟨_, rfl⟩
        have HMM : Hid ((offK i).length = m) := hm
        rw [hm, he]
        clear hm he HN
        go_wp2_with fail
        have CN := numbersL p R a c u (kindV i) (offK i) w3 X3.out.1.1 X3.out.1.2.1 X3.out.2.2 X3.out.2.1 (by omega) (fun q hq => by rw [kindV_len]; exact (off_lt i hlt).1 q hq) (by have := (off_lt i hlt).2; omega)
        rw [HMM.out] at CN
        refine CN.mono ?_
        rintro e w4 ⟨Q4, hor⟩
        clear CN
        rcases hor with ⟨ns, t, hns, rfl, R4, G4, V4⟩ | ⟨hns, t9, p9, rfl⟩
        · obtain ⟨x, od, nn, hbl, hbw⟩ := fill i hlt ns (readNums_is _ _ _ _ hns).2.1
          rw [hbl] at V4
          have X4 : Hid (Rst w4 p t ∧ Glo w4 ∧ Stp p w w4 ∧ Vals w4 R (bl (kindK i) x od nn) ∧ Vals w4 r (bl0 0)) := ⟨R4, G4, stp_new X3.out.1.2.2.2.1 Q4 (by rw [HR.out]; omega), V4, by have := X3.out.1.2.2.2.2; rw [HR.out] at this; exact this.stq Q4 (by omega) (by omega)⟩
          have HK : Hid ((∀ K' x' o' n' t', RightAt s.data.toList K' x' o' n' t' → bopOk (kindK i) x od nn) ∧ (bopOk (kindK i) x od nn → RightAt s.data.toList (kindK i) x od nn t.data.toList)) := by
            refine ⟨fun K' x' o' n' t' hh => ?_, fun hok => ⟨hok, by rw [hbw, HE.out, HWD.out.1], by rw [hbw, ← HWD.out.2, (readNums_is _ _ _ _ hns).2.1]; exact hns⟩⟩
            obtain ⟨q1, q2⟩ := the_right HWD.out.1 hlt HE.out hh
            rw [← HWD.out.2, hns] at q1
            have e1 : ns = (bopW K' x' o' n').2 := congrArg Prod.fst (Option.some.inj q1)
            rw [← e1, hbl] at q2
            obtain ⟨rfl, rfl, rfl, rfl⟩ := bl_inj q2
            exact hh.1
          clear R4 G4 V4 hns hbl hbw X3 Q4 HE HMM
          generalize kindK i = K at *
          have z0 := X4.out.2.2.2.1.1 0 _ rfl
          have z1 := X4.out.2.2.2.1.1 1 _ rfl
          have z2 := X4.out.2.2.2.1.1 2 _ rfl
          have z3 := X4.out.2.2.2.1.1 3 _ rfl
          have z4 := X4.out.2.2.2.1.1 4 _ rfl
          have z5 := X4.out.2.2.2.1.1 5 _ rfl
          have z6 := X4.out.2.2.2.1.1 6 _ rfl
          have z7 := X4.out.2.2.2.1.1 7 _ rfl
          have z8 := X4.out.2.2.2.1.1 8 _ rfl
          have z9 := X4.out.2.2.2.1.1 9 _ rfl
          have z10 := X4.out.2.2.2.1.1 10 _ rfl
          have z11 := X4.out.2.2.2.1.1 11 _ rfl
          have z12 := X4.out.2.2.2.1.1 12 _ rfl
          have z13 := X4.out.2.2.2.1.1 13 _ rfl
          go_wp2_with fail
          refine (implBop K nn x od w4).mono ?_
          rintro e w5 ⟨⟨b, rfl, hb1, hb2⟩, B5⟩
          have X5 : Hid (Rst w5 p t ∧ Glo w5 ∧ Stp p w w5 ∧ Vals w5 R (bl K x od nn) ∧ Vals w5 r (bl0 0)) := ⟨X4.out.1.below B5, X4.out.2.1.below B5, X4.out.2.2.1.trans (Stp.ofBelow B5), X4.out.2.2.2.1.kept B5 X4.out.2.2.2.1.2.2, X4.out.2.2.2.2.kept B5 X4.out.2.2.2.2.2.2⟩
          clear B5 X4 z0 z1 z2 z3 z4 z5 z6 z7 z8 z9 z10 z11 z12 z13
          cases b with
          | true =>
            have HRT : Hid (RightAt s.data.toList K x od nn t.data.toList) := HK.out.2 (hb1 rfl)
            clear hb1 hb2 HK
            have z0 := X5.out.2.2.2.1.1 0 _ rfl
            have z1 := X5.out.2.2.2.1.1 1 _ rfl
            have z2 := X5.out.2.2.2.1.1 2 _ rfl
            have z3 := X5.out.2.2.2.1.1 3 _ rfl
            have z4 := X5.out.2.2.2.1.1 4 _ rfl
            have z5 := X5.out.2.2.2.1.1 5 _ rfl
            have z6 := X5.out.2.2.2.1.1 6 _ rfl
            have z7 := X5.out.2.2.2.1.1 7 _ rfl
            have z8 := X5.out.2.2.2.1.1 8 _ rfl
            have z9 := X5.out.2.2.2.1.1 9 _ rfl
            have z10 := X5.out.2.2.2.1.1 10 _ rfl
            have z11 := X5.out.2.2.2.1.1 11 _ rfl
            have z12 := X5.out.2.2.2.1.1 12 _ rfl
            have z13 := X5.out.2.2.2.1.1 13 _ rfl
            have r0 := X5.out.2.2.2.2.1 0 _ rfl
            have r1 := X5.out.2.2.2.2.1 1 _ rfl
            have r2 := X5.out.2.2.2.2.1 2 _ rfl
            have r3 := X5.out.2.2.2.2.1 3 _ rfl
            have r4 := X5.out.2.2.2.2.1 4 _ rfl
            have r5 := X5.out.2.2.2.2.1 5 _ rfl
            have r6 := X5.out.2.2.2.2.1 6 _ rfl
            have r7 := X5.out.2.2.2.2.1 7 _ rfl
            have r8 := X5.out.2.2.2.2.1 8 _ rfl
            have r9 := X5.out.2.2.2.2.1 9 _ rfl
            have r10 := X5.out.2.2.2.2.1 10 _ rfl
            have r11 := X5.out.2.2.2.2.1 11 _ rfl
            have r12 := X5.out.2.2.2.2.1 12 _ rfl
            have r13 := X5.out.2.2.2.2.1 13 _ rfl
            have fz := X5.out.2.2.2.2.2.1
            have nh : ¬ r = R := by omega
            go_wp2_with (go_at_call 22; refine (want_yes _ _).mono ?_; rintro e w3 ⟨rfl, rfl⟩)
            refine bodyPost_ret (v := .agg (bl K x od nn).toArray) (by simp [results, Tryd.results12, go_sem, r0, r1, r2, r3, r4, r5, r6, r7, r8, r9, r10, r11, r12, r13]) rfl ?_
            exact fin_b X5.out HRT.out HR.out (by omega)
          | false =>
            have HNO : Hid (∀ K' x' o' n' t', ¬ RightAt s.data.toList K' x' o' n' t') := fun K' x' o' n' t' hh => hb2 rfl (HK.out.1 K' x' o' n' t' hh)
            clear hb1 hb2 HK
            go_wp2_with (go_at_call 22; refine (want_no _ _ X5.out.2.1).mono ?_; rintro e w3 ⟨⟨t9, p9, rfl⟩, rfl⟩)
            exact ⟨rfl, X5.out.2.2.1, Or.inr ⟨HNO.out, t9, p9, rfl⟩⟩
        · have HNO : Hid (∀ K' x' o' n' t', ¬ RightAt s.data.toList K' x' o' n' t') := by
            intro K' x' o' n' t' hh
            obtain ⟨q1, _⟩ := the_right HWD.out.1 hlt HE.out hh
            rw [← HWD.out.2, hns] at q1
            cases q1
          exact ⟨rfl, stp_new X3.out.1.2.2.2.1 Q4 (by rw [HR.out]; omega), Or.inr ⟨HNO.out, t9, p9, rfl⟩⟩
      · have HN2 : Hid (∀ j, j < i + 1 → nameK j ≠ wd) := fun j hj => by
          by_cases e : j = i
          · rw [e]; exact he
          · exact HN.out j (by omega)
        have he' := neList he
        have X3' : Hid (Ahd w p g u w3) := X3.out.1
        clear HN he X3
        generalize (offK i).length = m at *
        generalize nameK i = nm at *
        go_wp2
        go_roundw
        case rel => exact ⟨i + 1, by omega, by go_num, HN2, X3'⟩
        case measure => simp [intOf]; omega
    · have HNO : Hid (∀ K' x' o' n' t', ¬ RightAt s.data.toList K' x' o' n' t') := no_right HWD.out.1 (fun j hj => HN.out j (by omega))
      obtain ⟨t9, p9, h9⟩ := HA.out.2.1.1
      go_wp2
      exact ⟨rfl, HA.out.2.2.2.1, Or.inr ⟨HNO.out, t9, p9, rfl⟩⟩
end Go.Proofs.YtedhlmipcfdldaaDoor
