/- The law FnReplaced returns true, whatever its code. Conditions: the code's bytes lie in memory. -/
import Derived.Test.YtcalgmhpagpnnaaLawFc
import Derived.Test.YtcalgmhpagpnnaaDrp
import Derived.Deep.DeepCutAuto
namespace Go.Proofs.Ytcalgmhpagpnnaa
open Go.RowKit
set_option maxRecDepth 8000

theorem addN_run (x y : ByteArray) (hx : x.size ≤ 10000000) (hy : y.size ≤ 10000000) (W : World) : (Op.stringOp .add x y).run Try.prog W = .ok (.string (x ++ y)) W := run_string_add_sum W x y (by omega)
/-- An answer by its shapes. -/
theorem ans_open {V0 : World} {M1 M2 : List Fl} {M3 : List Dp} {v : Value} {w' : World} (h : DkAns V0 M1 M2 M3 v w') : ∃ a1 n1 c1 a2 n2 c2 a3 n3 c3, v = .agg #[.slice a1 n1 c1, .slice a2 n2 c2, .slice a3 n3 c3] ∧ Own3 w' V0.heap.size (.slice a1 n1 c1) (.slice a2 n2 c2) (.slice a3 n3 c3) M1 M2 M3 ∧ Below V0.heap.size V0 w' := by
  obtain ⟨a1, c1, a2, c2, a3, c3, rfl, O, D⟩ := h
  exact ⟨a1, _, c1, a2, _, c2, a3, _, c3, rfl, O, D⟩
theorem disk_self {X : List Fl} (h : filesB X = true) : diskB X X [] = true := by simp [diskB, runF, h]
theorem sync_self (L1 L2 : List Fl) (L3 : List Dp) : diskB (sy1 (diskB L1 L2 L3) L1) (sy1 (diskB L1 L2 L3) L1) [] = true := by
  cases hx : diskB L1 L2 L3
  · show diskB [] [] [] = true
    decide
  · exact disk_self (disk_parts hx).1
/-- Crash of a disk whose file is replaced. -/
theorem crashR {V : World} {q q' q'' : Option Addr} {n m : Nat} (c c' c'' : Nat) {S : List Fl} {nm dt : ByteArray} (h : DkL V q n q' m q'' 2 (file2 S nm dt) S [op1 nm dt, op2 nm]) (hr : RepOk S nm dt) (hg : getN Fl.name (tmpN nm) S = none) {ks : List Nat} (hs : ks.Sublist [0, 1]) (k : Option Addr) (kc : Nat) (hk : Ints V k ks.length (fun i => ((ks.getD i 0 : Nat) : Int))) {t : Int} (ht : 0 ≤ t) :
    Calls Try.prog 16 #[.agg #[.slice q n c, .slice q' m c', .slice q'' 2 c''], .slice k ks.length kc, .int .i64 t] V fun e w' => ∃ X h1 x1 y1 h2 x2 y2 h3 x3 y3, e = .returned (.tuple #[.agg #[.slice h1 x1 y1, .slice h2 x2 y2, .slice h3 x3 y3], .bool true]) ∧ filesB X = true ∧ (rdF true X nm = rdF true S nm ∨ rdF true X nm = some dt) ∧ DkL w' h1 x1 h2 x2 h3 x3 X X [] ∧ Below V.heap.size V w' := by
  obtain ⟨F, G, O, hd, e1, e2, e3⟩ := h
  have h0 : O 0 = op1 nm dt := by have := lst_get O (show 0 < 2 by omega); rw [e3] at this; exact (Option.some.inj this).symm
  have h1 : O 1 = op2 nm := by have := lst_get O (show 1 < 2 by omega); rw [e3] at this; exact (Option.some.inj this).symm
  have key := crash_ok hr hg h0 h1 hs ht
  have := implCr q q' q'' n m 2 c c' c'' F G O k ks.length kc (fun i => ((ks.getD i 0 : Nat) : Int)) t V hd hk
  rw [e1, e2] at this
  refine this.mono ?_
  rintro e w' ⟨v, rfl, A⟩
  obtain ⟨a1, n1, c1, a2, n2, c2, a3, n3, c3, rfl, OW, B⟩ := ans_open A
  rw [key.1]
  exact ⟨_, a1, n1, c1, a2, n2, c2, a3, n3, c3, rfl, key.2.1, key.2.2, own_dkL OW (disk_self key.2.1) (fun o ho => by cases ho), B⟩
def intL (ks : List Nat) : List Value := ks.map fun i : Nat => Value.int .i64 (i : Int)
theorem intL_ints {w : World} {B vc : Nat} {va : Option Addr} {ks : List Nat} (h : w.ownsRow B 2 1 (.slice va ks.length vc) ks.length (intL ks)) (hk : ks.length ≤ 1048576) : Ints w va ks.length (fun i => ((ks.getD i 0 : Nat) : Int)) := by
  refine ⟨hk, ?_⟩
  have hlt := World.ownsRow.lt h
  rcases h.2 with ⟨h0, h1⟩ | ⟨g, cap, cur, hv, hg, r⟩
  · exact Or.inl h1
  · cases hv
    refine Or.inr ⟨g, 0, rfl, (hlt g rfl).2, fun i hi => ?_⟩
    have := World.ownsRow.cellAt h i (by omega)
    rw [Nat.zero_add, this]
    simp [intL, hi, List.getD]
theorem sub_len {ks : List Nat} {k : Nat} (h : ks.Sublist (List.range k)) : ks.length ≤ k := by
  have := h.length_le
  simpa using this

set_option maxHeartbeats 8000000 in
theorem lawReplaced (a : Option Addr) (len cap : Nat) (w : World) (hc : Code w a len) : Calls Try.prog 5 #[.slice a len cap] w fun e w' => e = .returned (.bool true) ∧ Below w.heap.size w w' := by
  have HC : Hid (Code w a len) := hc
  clear hc
  by_cases hb : 1048576 < len
  · go_enter Try.func5, Try.ntmps5
    go_wp2_with fail
    refine (big_yes a len cap _ hb).mono ?_
    rintro e wz ⟨rfl, rfl⟩
    go_wp2
    go_ret
    exact ⟨rfl, Below.refl _ _⟩
  go_enter Try.func5, Try.ntmps5
  go_wp2_with fail
  refine (big_no a len cap _ (by omega)).mono ?_
  rintro e wz ⟨rfl, hwz⟩
  rw [hwz]
  clear hwz
  go_wp2_with fail
  refine (drawRepl a len cap _ HC.out).mono ?_
  rintro e w1 ⟨q, n, c, q', m, c', q'', r, c'', L1, L2, L3, nm, dt, rfl, D1, hnm, hdt, B1⟩
  have HN : Hid (nm.size ≤ 98 ∧ dt.size ≤ 3) := ⟨hnm, hdt⟩
  clear hnm hdt
  obtain ⟨V1, hV1, X1⟩ : ∃ V1, V1 = w1.alloc (.cells #[.slice q n c, .slice q' m c', .slice q'' r c''] 27) ∧ Hid (DX w w1.heap.size q n c q' m c' q'' r c'' L1 L2 L3 V1) := ⟨_, rfl, ⟨Box3.new w1 _ _ _ 27, D1.below ((Below.refl _ _).alloc (Nat.le_refl _) _), B1.trans (((Below.refl _ _).alloc (Nat.le_refl _) _).mono B1.size)⟩⟩
  have HV1 : Hid (V1 = _) := hV1
  have HB1 : Hid (w.heap.size ≤ w1.heap.size) := B1.size
  clear hV1 D1 B1
  go_wp2_with fail
  rw [← HV1.out]
  refine (implSyncL c c' c'' X1.out.dk).mono ?_
  rintro e w2 ⟨p1, m1, k1, p2, m2, k2, p3, m3, k3, rfl, O2, B2⟩
  have hS := sync_self L1 L2 L3
  obtain ⟨V2, hV2, X2⟩ : ∃ V2, V2 = ((w2.setCell ⟨w1.heap.size, 0, none⟩ (.slice p1 m1 k1)).setCell ⟨w1.heap.size, 1, none⟩ (.slice p2 m2 k2)).setCell ⟨w1.heap.size, 2, none⟩ (.slice p3 m3 k3) ∧ Hid (DX w w1.heap.size p1 m1 k1 p2 m2 k2 p3 m3 k3 (sy1 (diskB L1 L2 L3) L1) (sy1 (diskB L1 L2 L3) L1) [] V2) := by
    have hD : w1.heap.size < V1.heap.size := X1.out.box.2.2
    have bh : Beh w1.heap.size p1 p2 p3 := Own3.beh O2.live O2.safe O2.ops hD
    have x := X1.out.kept B2
    have dk := own_dkL O2 hS (fun o ho => by cases ho)
    have hb := HB1.out
    exact ⟨_, rfl, ((x.box.set0 _).set1 _).set2 _, ((dk.set bh (Nat.le_refl _) _ _).set bh (Nat.le_refl _) _ _).set bh (Nat.le_refl _) _ _, below_far (below_far (below_far x.b hb _ _) hb _ _) hb _ _⟩
  have HV2 : Hid (V2 = _) := hV2
  obtain ⟨⟨s0, s1, s2⟩, sf, sl⟩ := (X1.out.kept B2).box
  have HS : Hid (diskB (sy1 (diskB L1 L2 L3) L1) (sy1 (diskB L1 L2 L3) L1) [] = true) := hS
  clear hV2 O2 B2 X1 HV1 hS
  generalize sy1 (diskB L1 L2 L3) L1 = S at *
  go_upto_region 5 with fail
  rw [← HV2.out]
  clear s0 s1 s2 sf sl
  obtain ⟨⟨s0, s1, s2⟩, sf, sl⟩ := X2.out.box
  go_wp2_with fail
  refine (implRepl p1 p2 p3 m1 m2 m3 k1 k2 k3 S S [] nm dt _ X2.out.dk (fun o ho => by cases ho) (by have := HN.out.2; omega) (by have := HN.out.1; omega)).mono ?_
  rintro e w3 ⟨v3, rfl, A3⟩
  obtain ⟨g1, i1, j1, g2, i2, j2, g3, i3, j3, rfl, O3, B3⟩ := ans_open A3
  obtain ⟨V3, hV3, X3, Y3⟩ : ∃ V3, V3 = w3.alloc (.cells #[.slice g1 i1 j1, .slice g2 i2 j2, .slice g3 i3 j3] 27) ∧ Hid (DX w w1.heap.size p1 m1 k1 p2 m2 k2 p3 m3 k3 S S [] V3) ∧ Hid (Box3 V3 w3.heap.size (.slice g1 i1 j1) (.slice g2 i2 j2) (.slice g3 i3 j3) ∧ Own3 V3 V2.heap.size (.slice g1 i1 j1) (.slice g2 i2 j2) (.slice g3 i3 j3) (repT (S, S, []) nm dt).1 (repT (S, S, []) nm dt).2.1 (repT (S, S, []) nm dt).2.2) := by
    have b3 : Below w3.heap.size w3 (w3.alloc (.cells #[.slice g1 i1 j1, .slice g2 i2 j2, .slice g3 i3 j3] 27)) := (Below.refl _ _).alloc (Nat.le_refl _) _
    exact ⟨_, rfl, (X2.out.kept B3).kept b3, Box3.new w3 _ _ _ 27, O3.kept b3⟩
  have HV3 : Hid (V3 = _) := hV3
  clear s0 s1 s2 sf sl
  obtain ⟨⟨s0, s1, s2⟩, sf, sl⟩ := (X2.out.kept B3).box
  clear hV3 A3 O3 B3 X2 HV2
  go_wp2_with fail
  rw [← HV3.out]
  refine (specRepl p1 p2 p3 m1 m2 m3 k1 k2 k3 S S [] nm dt _ X3.out.dk (fun o ho => by cases ho) (by have := HN.out.1; omega) (by have := HN.out.2; omega)).mono ?_
  rintro e w4 ⟨v4, rfl, A4⟩
  obtain ⟨e1, f1, l1, e2, f2, l2, e3, f3, l3, rfl, _, B4⟩ := ans_open A4
  obtain ⟨V4, hV4, X4, Y4⟩ : ∃ V4, V4 = w4.alloc (.cells #[.slice e1 f1 l1, .slice e2 f2 l2, .slice e3 f3 l3] 27) ∧ Hid (DX w w1.heap.size p1 m1 k1 p2 m2 k2 p3 m3 k3 S S [] V4) ∧ Hid (Box3 V4 w3.heap.size (.slice g1 i1 j1) (.slice g2 i2 j2) (.slice g3 i3 j3) ∧ Own3 V4 V2.heap.size (.slice g1 i1 j1) (.slice g2 i2 j2) (.slice g3 i3 j3) (repT (S, S, []) nm dt).1 (repT (S, S, []) nm dt).2.1 (repT (S, S, []) nm dt).2.2) := by
    have b4 : Below w4.heap.size w4 (w4.alloc (.cells #[.slice e1 f1 l1, .slice e2 f2 l2, .slice e3 f3 l3] 27)) := (Below.refl _ _).alloc (Nat.le_refl _) _
    have y := Y3.out.1.kept B4 Y3.out.1.2.2
    exact ⟨_, rfl, (X3.out.kept B4).kept b4, y.kept b4 y.2.2, (Y3.out.2.kept B4).kept b4⟩
  have HV4 : Hid (V4 = _) := hV4
  clear s0 s1 s2 sf sl
  clear hV4 A4 B4 X3 Y3 HV3
  have hkk : (repC (S, S, []) nm dt == repC (S, S, []) nm dt) = true := by simp
  by_cases hc : repC (S, S, []) nm dt = 0
  rotate_left
  · have hc' : (repC (S, S, []) nm dt == 0) = false := by simp [hc]
    clear hc Y4
    generalize repC (S, S, []) nm dt = kc at *
    go_wp2
    rw [← HV4.out]
    go_ret
    exact ⟨rfl, X4.out.b⟩
  have RD : Hid (∀ V s, DX w w1.heap.size p1 m1 k1 p2 m2 k2 p3 m3 k3 S S [] V → Calls Try.prog 22 #[.agg #[.slice p1 m1 k1, .slice p2 m2 k2, .slice p3 m3 k3], .string s] V fun e w' => RdOut (rdF true S s) e ∧ Below V.heap.size V w') := fun V s hV => by have := readL k1 k2 k3 hV.dk s; rwa [HS.out] at this
  have hadd := addN_run nm ⟨#[46, 110, 101, 119]⟩ (by have := HN.out.1; omega) (by show (4 : Nat) ≤ _; omega)
  rw [show nm ++ (⟨#[46, 110, 101, 119]⟩ : ByteArray) = tmpN nm from rfl] at hadd
  have HCC : Hid (repC (S, S, []) nm dt = 0) := hc
  rw [hc] at hkk ⊢
  clear hc
  cases hg : getN Fl.name (tmpN nm) S with
  | some f =>
    have RX : Hid (∀ V, DX w w1.heap.size p1 m1 k1 p2 m2 k2 p3 m3 k3 S S [] V → Calls Try.prog 22 #[.agg #[.slice p1 m1 k1, .slice p2 m2 k2, .slice p3 m3 k3], .string (tmpN nm)] V fun e w' => e = .returned (.tuple #[.string f.data, .bool true]) ∧ Below V.heap.size V w') := fun V hV => by have := RD.out V (tmpN nm) hV; rw [rdF_true, hg] at this; exact this
    clear hg Y4 RD
    generalize tmpN nm = tn at *
    obtain ⟨⟨s0, s1, s2⟩, sf, sl⟩ := X4.out.box
    go_upto_region 9 with fail
    rw [← HV4.out]
    go_wp2_with fail
    refine (RX.out _ X4.out).mono ?_
    rintro e w5 ⟨rfl, B5⟩
    have X5 : Hid (DX w w1.heap.size p1 m1 k1 p2 m2 k2 p3 m3 k3 S S [] w5) := X4.out.kept B5
    clear B5 X4 HV4 s0 s1 s2 sf sl
    go_wp2
    go_ret
    exact ⟨rfl, X5.out.b⟩
  | none =>
    have RO := repl_ok hg HCC.out
    have ROK : Hid (RepOk S nm dt) := RO
    have HG : Hid (getN Fl.name (tmpN nm) S = none) := hg
    rw [RO.t] at Y4
    have Z4 : Hid (DX w w1.heap.size p1 m1 k1 p2 m2 k2 p3 m3 k3 S S [] V4 ∧ DX w w3.heap.size g1 i1 j1 g2 i2 j2 g3 i3 j3 (file2 S nm dt) S [op1 nm dt, op2 nm] V4) := by
      refine ⟨X4.out, Y4.out.1, own_dkL Y4.out.2 RO.d (fun o ho => ?_), X4.out.b⟩
      have h3 := HN.out.2
      rcases List.mem_cons.1 ho with rfl | ho
      · show dt.size ≤ _; omega
      · rw [List.mem_singleton.1 ho]; show (0 : Nat) ≤ _; omega
    have hi3 : i3 = 2 := Z4.out.2.dk.lens.2.2.1.symm
    subst hi3
    have RX : Hid (∀ V, DX w w1.heap.size p1 m1 k1 p2 m2 k2 p3 m3 k3 S S [] V → Calls Try.prog 22 #[.agg #[.slice p1 m1 k1, .slice p2 m2 k2, .slice p3 m3 k3], .string (tmpN nm)] V fun e w' => e = .returned (.tuple #[.string ⟨#[]⟩, .bool false]) ∧ Below V.heap.size V w') := fun V hV => by have := RD.out V (tmpN nm) hV; rw [rdF_true, hg] at this; exact this
    have RA : Hid (∀ V, DX w w3.heap.size g1 i1 j1 g2 i2 j2 g3 2 j3 (file2 S nm dt) S [op1 nm dt, op2 nm] V → Calls Try.prog 22 #[.agg #[.slice g1 i1 j1, .slice g2 i2 j2, .slice g3 2 j3], .string nm] V fun e w' => e = .returned (.tuple #[.string dt, .bool true]) ∧ Below V.heap.size V w') := fun V hV => by have := readL j1 j2 j3 hV.dk nm; rw [RO.d, rd_two] at this; exact this
    have CR : Hid (∀ V (ks : List Nat) k kc (t : Int), DX w w3.heap.size g1 i1 j1 g2 i2 j2 g3 2 j3 (file2 S nm dt) S [op1 nm dt, op2 nm] V → ks.Sublist [0, 1] → Ints V k ks.length (fun i => ((ks.getD i 0 : Nat) : Int)) → 0 ≤ t → Calls Try.prog 16 #[.agg #[.slice g1 i1 j1, .slice g2 i2 j2, .slice g3 2 j3], .slice k ks.length kc, .int .i64 t] V fun e w' => ∃ X h1 x1 y1 h2 x2 y2 h3 x3 y3, e = .returned (.tuple #[.agg #[.slice h1 x1 y1, .slice h2 x2 y2, .slice h3 x3 y3], .bool true]) ∧ filesB X = true ∧ (rdF true X nm = rdF true S nm ∨ rdF true X nm = some dt) ∧ DkL w' h1 x1 h2 x2 h3 x3 X X [] ∧ Below V.heap.size V w') := fun V ks k kc t hV hs hk ht => crashR j1 j2 j3 hV.dk ROK.out HG.out hs k kc hk ht
    clear RO hg X4 Y4
    obtain ⟨⟨s0, s1, s2⟩, sf, sl⟩ := Z4.out.1.box
    go_upto_region 9 with fail
    rw [← HV4.out]
    clear HV4
    generalize tmpN nm = tn at RX hadd ⊢
    go_wp2_with fail
    refine (RX.out _ Z4.out.1).mono ?_
    rintro e w5 ⟨rfl, B5⟩
    have Z5 : Hid (DX w w1.heap.size p1 m1 k1 p2 m2 k2 p3 m3 k3 S S [] w5 ∧ DX w w3.heap.size g1 i1 j1 g2 i2 j2 g3 2 j3 (file2 S nm dt) S [op1 nm dt, op2 nm] w5) := ⟨Z4.out.1.kept B5, Z4.out.2.kept B5⟩
    clear B5 Z4 s0 s1 s2 sf sl RX hadd
    obtain ⟨⟨s0, s1, s2⟩, sf, sl⟩ := Z5.out.1.box
    go_wp2_with fail
    refine (RD.out _ nm Z5.out.1).mono ?_
    rintro e w6 ⟨h6, B6⟩
    unfold RdOut at h6
    subst h6
    have Z6 : Hid (DX w w3.heap.size g1 i1 j1 g2 i2 j2 g3 2 j3 (file2 S nm dt) S [op1 nm dt, op2 nm] w6) := Z5.out.2.kept B6
    clear B6 Z5 s0 s1 s2 sf sl RD
    obtain ⟨i0, hi0, hz0, hz1, hz2⟩ := info_parts infoIt
    have A0 : Hid ((w6.alloc (.cells #[] 2)).ownsRow w6.heap.size 2 1 (.slice (some ⟨w6.heap.size, 0, none⟩) 0 0) 0 (intL [])) := World.ownsRow_lit w6 #[] 0 (Nat.le_refl _) (Nat.zero_le _) (by simp)
    have B0 : Hid (Below w6.heap.size w6 (w6.alloc (.cells #[] 2))) := (Below.refl _ _).alloc (Nat.le_refl _) _
    obtain ⟨old, was, HOW⟩ : ∃ old was, Hid ((rdF true S nm).getD ⟨#[]⟩ = old ∧ (rdF true S nm).isSome = was) := ⟨_, _, rfl, rfl⟩
    rw [HOW.out.1, HOW.out.2]
    go_wp2
    go_loopw [14, 15] (fun s i wr => ∃ (k kn : Nat) (ks : List Nat) (va : Option Addr) (vc : Nat), k ≤ 2 ∧ kn ≤ 2 ∧ i = .int .i64 k ∧ s = .slice va kn vc ∧ Hid (kn = ks.length ∧ ks.Sublist (List.range k)) ∧ Hid (wr.ownsRow w6.heap.size 2 1 (.slice va kn vc) kn (intL ks)) ∧ Hid (Below w6.heap.size w6 wr)) (fun _ i _ => 2 - (intOf i).toNat)
    case atStart => exact ⟨0, 0, [], _, _, Nat.zero_le _, Nat.zero_le _, rfl, rfl, ⟨rfl, List.nil_sublist _⟩, A0, B0⟩
    case round =>
      obtain ⟨k, kn, ks, va, vc, hk, hkn, rfl, rfl, HK, hA, hB⟩ := hrel
      clear A0 B0
      have ZW : Hid (DX w w3.heap.size g1 i1 j1 g2 i2 j2 g3 2 j3 (file2 S nm dt) S [op1 nm dt, op2 nm] wr) := Z6.out.kept hB.out
      obtain ⟨⟨a0, a1, a2⟩, af, al⟩ := ZW.out.box
      by_cases hlt : k < 2
      · have hlt' : (k : Int) < 2 := by omega
        go_upto_region 17 with fail
        go_cut [95] (fun s wx => ∃ b, s = .bool b ∧ wx = wr)
        case first =>
          by_cases hl : len = 0
          · subst hl
            go_wp2_with fail
            go_meet
            exact ⟨false, rfl, rfl⟩
          have hl' : (0 : Int) < (len : Int) := by omega
          obtain ⟨j, hj, hr1, hr2⟩ : ∃ j : Nat, j < len ∧ (k : Int) % (len : Int) = (j : Int) ∧ (k : Int).tmod (len : Int) = (j : Int) := ⟨k % len, Nat.mod_lt _ (by omega), by omega, by rw [Int.tmod_eq_emod_of_nonneg (by omega)]; omega⟩
          obtain ⟨cb, co, z, rfl, hcb, hcz, z0, z1⟩ := HC.out.2 j hj
          have cz : wr.cell? ⟨cb, co + j, none⟩ = some (.int .u8 z) := (ZW.out.b.cell (p := ⟨cb, co + j, none⟩) hcb).trans hcz
          have hk8 : (k : Int) % 8 = (k : Int) := by omega
          have hj' : (j : Int) < (len : Int) := by omega
          clear hcz
          go_wp2_with fail
          go_meet
          exact ⟨_, rfl, rfl⟩
        case rest =>
          obtain ⟨b, rfl, hwc⟩ := hcut
          subst hwc
          cases b with
          | false =>
            go_wp2
            go_roundw
            case rel => exact ⟨k + 1, kn, ks, va, vc, by omega, hkn, by go_num, rfl, ⟨HK.out.1, HK.out.2.trans (by rw [List.range_succ]; exact List.sublist_append_left _ _)⟩, hA, hB⟩
            case measure => simp [intOf]; omega
          | true =>
            have hkn2 : kn ≤ 1 := by have h1 := HK.out.1; have h2 := sub_len HK.out.2; omega
            go_wp2_with (at_builtin; refine wpList_append_own _ rfl _ _ 30 rfl w6.heap.size 2 i0 _ 1 8 Try.underlying30 hi0 hz0 hz1 hz2 rfl (by decide) _ kn _ rfl (World.ownsRow.alloc hA.out _) ⟨_, 0, none⟩ 1 1 [.int .i64 (k : Int)] rfl rfl (news1 _ (k : Int)) (ones1 _) (by unfold maxLen; omega) (by omega) (by have := hB.out.size; simp; omega) ?_; intro v3 w7 own3 grow3 _; have H3 : Hid (w7.ownsRow w6.heap.size 2 1 v3 (kn + 1) (intL (ks ++ [k]))) := (by unfold intL; rw [List.map_append]; exact own3); have G3 : Hid (Below w6.heap.size w6 w7) := (by have g := grown_below (C := w6.heap.size) grow3 (fun x hx => (World.ownsRow.lt hA.out x hx).1) (by have := hB.out.size; simp; omega); exact (hB.out.alloc hB.out.size _).trans g); have HK3 : Hid (kn + 1 = (ks ++ [k]).length ∧ (ks ++ [k]).Sublist (List.range (k + 1))) := (by refine ⟨?_, ?_⟩; (have := HK.out.1; simp; omega); (rw [List.range_succ]; exact HK.out.2.append (List.Sublist.refl _))); obtain ⟨va', vc', hv⟩ : ∃ va' vc', v3 = .slice va' (kn + 1) vc' := (by rcases H3.out.2 with ⟨h0, h1⟩ | ⟨g, cp, cur, h0, _⟩; (omega); exact ⟨_, _, h0⟩); subst hv; clear own3 grow3)
            go_roundw
            case rel => exact ⟨k + 1, kn + 1, ks ++ [k], va', vc', by omega, by omega, by go_num, rfl, HK3, H3, G3⟩
            case measure => simp [intOf]; omega
      · obtain rfl : k = 2 := by omega
        clear hlt hk a0 a1 a2 af al Z6
        have IN : Hid (Ints wr va kn (fun i => ((ks.getD i 0 : Nat) : Int))) := by
          have e := HK.out.1
          have h := hA.out
          rw [e] at h ⊢
          exact intL_ints h (by omega)
        have CK : Hid (∀ V (t : Int), DX w w3.heap.size g1 i1 j1 g2 i2 j2 g3 2 j3 (file2 S nm dt) S [op1 nm dt, op2 nm] V → Ints V va kn (fun i => ((ks.getD i 0 : Nat) : Int)) → 0 ≤ t → Calls Try.prog 16 #[.agg #[.slice g1 i1 j1, .slice g2 i2 j2, .slice g3 2 j3], .slice va kn vc, .int .i64 t] V fun e w' => ∃ X h1 x1 y1 h2 x2 y2 h3 x3 y3, e = .returned (.tuple #[.agg #[.slice h1 x1 y1, .slice h2 x2 y2, .slice h3 x3 y3], .bool true]) ∧ filesB X = true ∧ (rdF true X nm = rdF true S nm ∨ rdF true X nm = some dt) ∧ DkL w' h1 x1 h2 x2 h3 x3 X X [] ∧ Below V.heap.size V w') := by
          intro V t hV hI ht
          have e := HK.out.1
          rw [e] at hI ⊢
          exact CR.out V ks va vc t hV HK.out.2 hI ht
        clear CR hA hB HK
        obtain ⟨⟨a0, a1, a2⟩, af, al⟩ := ZW.out.box
        go_wp2_with fail
        refine (CK.out _ _ ZW.out IN.out (by omega)).mono ?_
        rintro e w8 ⟨X, h1, x1, y1, h2, x2, y2, h3, x3, y3, rfl, fX, rX, D8, B8⟩
        obtain ⟨V8, hV8, X8⟩ : ∃ V8, V8 = w8.alloc (.cells #[.slice h1 x1 y1, .slice h2 x2 y2, .slice h3 x3 y3] 27) ∧ Hid (DX w w3.heap.size g1 i1 j1 g2 i2 j2 g3 2 j3 (file2 S nm dt) S [op1 nm dt, op2 nm] V8 ∧ DX w w8.heap.size h1 x1 y1 h2 x2 y2 h3 x3 y3 X X [] V8) := by
          have b8 : Below w8.heap.size w8 (w8.alloc (.cells #[.slice h1 x1 y1, .slice h2 x2 y2, .slice h3 x3 y3] 27)) := (Below.refl _ _).alloc (Nat.le_refl _) _
          have x := (ZW.out.kept B8).kept b8
          exact ⟨_, rfl, x, Box3.new w8 _ _ _ 27, D8.below b8, x.b⟩
        have HV8 : Hid (V8 = _) := hV8
        have RB : Hid (∀ V, DX w w8.heap.size h1 x1 y1 h2 x2 y2 h3 x3 y3 X X [] V → Calls Try.prog 22 #[.agg #[.slice h1 x1 y1, .slice h2 x2 y2, .slice h3 x3 y3], .string nm] V fun e w' => RdOut (rdF true X nm) e ∧ Below V.heap.size V w') := fun V hV => by have := readL y1 y2 y3 hV.dk nm; rwa [disk_self fX] at this
        clear hV8 D8 B8 ZW IN CK fX a0 a1 a2 af al
        obtain ⟨⟨a0, a1, a2⟩, af, al⟩ := X8.out.1.box
        obtain ⟨⟨b0, b1, b2⟩, bf, bl⟩ := X8.out.2.box
        go_upto_region 20 with fail
        rw [← HV8.out]
        clear HV8
        go_wp2_with fail
        refine (RB.out _ X8.out.2).mono ?_
        rintro e w9 ⟨h9, B9⟩
        unfold RdOut at h9
        subst h9
        have X9 : Hid (DX w w3.heap.size g1 i1 j1 g2 i2 j2 g3 2 j3 (file2 S nm dt) S [op1 nm dt, op2 nm] w9) := X8.out.1.kept B9
        clear B9 X8 RB a0 a1 a2 af al b0 b1 b2 bf bl
        obtain ⟨⟨a0, a1, a2⟩, af, al⟩ := X9.out.box
        have ey : (dt.toList == dt.toList) = true := by simp
        have eo : (old.toList == old.toList) = true := by simp
        rcases rX with rX | rX
        · rw [rX, HOW.out.1, HOW.out.2]
          have ew : (was == was) = true := by simp
          clear rX HOW
          go_wp2_with fail
          refine (RA.out _ X9.out).mono ?_
          rintro e w10 ⟨rfl, B10⟩
          have X10 : Hid (DX w w3.heap.size g1 i1 j1 g2 i2 j2 g3 2 j3 (file2 S nm dt) S [op1 nm dt, op2 nm] w10) := X9.out.kept B10
          clear B10 X9 a0 a1 a2 af al RA
          go_wp2
          go_ret
          exact ⟨rfl, X10.out.b⟩
        · rw [rX]
          simp only [Option.getD_some, Option.isSome_some]
          clear rX HOW
          go_wp2_with fail
          refine (RA.out _ X9.out).mono ?_
          rintro e w10 ⟨rfl, B10⟩
          have X10 : Hid (DX w w3.heap.size g1 i1 j1 g2 i2 j2 g3 2 j3 (file2 S nm dt) S [op1 nm dt, op2 nm] w10) := X9.out.kept B10
          clear B10 X9 a0 a1 a2 af al RA
          cases was with
          | false =>
            go_wp2
            go_ret
            exact ⟨rfl, X10.out.b⟩
          | true =>
            cases hbb : (dt.toList == old.toList) with
            | false =>
              go_wp2
              go_ret
              exact ⟨rfl, X10.out.b⟩
            | true =>
              go_wp2
              go_ret
              exact ⟨rfl, X10.out.b⟩
end Go.Proofs.Ytcalgmhpagpnnaa
