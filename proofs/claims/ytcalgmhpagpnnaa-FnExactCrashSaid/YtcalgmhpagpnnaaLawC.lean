/- The law FnExactCrash returns true, whatever the disk, the places and what is torn. Conditions: the disk's lists and the places lie in memory. -/
import Derived.Test.YtcalgmhpagpnnaaSz
import Derived.Test.YtcalgmhpagpnnaaSa
import Derived.Test.YtcalgmhpagpnnaaCrJ
import Derived.Test.YtcalgmhpagpnnaaIt
import Derived.Deep.RegionWith
import Derived.Deep.DeepCutAuto
namespace Go.Proofs.Ytcalgmhpagpnnaa
open Go.RowKit
set_option maxRecDepth 8000

theorem dk_own {w : World} {B : Nat} {a1 a2 a3 : Option Addr} {n m q c1 c2 c3 : Nat} {F G : Nat → Fl} {O : Nat → Dp} (h : Own3 w B (.slice a1 n c1) (.slice a2 m c2) (.slice a3 q c3) (lst F n) (lst G m) (lst O q)) {w0 : World} {a b d : Option Addr} (h0 : Dk w0 a n F b m G d q O) :
    Dk w a1 n F a2 m G a3 q O := by
  have f1 := (h.live.list (by rw [lst_len]; exact h0.live.1)).2
  have f2 := (h.safe.list (by rw [lst_len]; exact h0.safe.1)).2
  have f3 := (h.ops.list (by rw [lst_len]; exact h0.ops.1)).2
  have e1 : ∀ i, i < n → FlF (lst F n) i = F i := fun i hi => by rw [FlF_lt (by rw [lst_len]; exact hi)]; have := lst_get F hi; rw [List.getElem?_eq_getElem (by rw [lst_len]; exact hi)] at this; exact Option.some.inj this
  have e2 : ∀ i, i < m → FlF (lst G m) i = G i := fun i hi => by rw [FlF_lt (by rw [lst_len]; exact hi)]; have := lst_get G hi; rw [List.getElem?_eq_getElem (by rw [lst_len]; exact hi)] at this; exact Option.some.inj this
  have e3 : ∀ i, i < q → DpF (lst O q) i = O i := fun i hi => by rw [DpF_lt (by rw [lst_len]; exact hi)]; have := lst_get O hi; rw [List.getElem?_eq_getElem (by rw [lst_len]; exact hi)] at this; exact Option.some.inj this
  refine ⟨⟨f1.1, ?_⟩, ⟨f2.1, ?_⟩, ⟨f3.1, ?_⟩, h0.sl, h0.ss, h0.so⟩
  · rcases f1.2 with k | ⟨x, y, h1, h2, h3⟩
    · exact Or.inl k
    · exact Or.inr ⟨x, y, h1, h2, fun i hi => by rw [← e1 i hi]; exact h3 i hi⟩
  · rcases f2.2 with k | ⟨x, y, h1, h2, h3⟩
    · exact Or.inl k
    · exact Or.inr ⟨x, y, h1, h2, fun i hi => by rw [← e2 i hi]; exact h3 i hi⟩
  · rcases f3.2 with k | ⟨x, y, h1, h2, h3⟩
    · exact Or.inl k
    · exact Or.inr ⟨x, y, h1, h2, fun i hi => by rw [← e3 i hi]; exact h3 i hi⟩

set_option maxHeartbeats 8000000 in
theorem lawCrash (a b d : Option Addr) (n m q c c' c'' : Nat) (F G : Nat → Fl) (O : Nat → Dp) (ka : Option Addr) (kn kc : Nat) (K : Nat → Int) (t : Int) (w : World) (h : DkIn w a n F b m G d q O) (hki : kn = 0 ∨ ∃ b o, ka = some ⟨b, o, none⟩ ∧ b < w.heap.size ∧ ∀ i, i < kn → w.cell? ⟨b, o + i, none⟩ = some (.int .i64 (K i))) :
    Calls Try.prog 9 #[.agg #[.slice a n c, .slice b m c', .slice d q c''], .slice ka kn kc, .int .i64 t] w fun e w' => e = .returned (.bool true) ∧ Below w.heap.size w w' := by
  have HI : Hid (DkIn w a n F b m G d q O) := h
  clear h
  obtain ⟨W0, hW0, xb, xB⟩ : ∃ W0, W0 = w.alloc (.cells #[.slice a n c, .slice b m c', .slice d q c''] 50) ∧ Box3 W0 w.heap.size (.slice a n c) (.slice b m c') (.slice d q c'') ∧ Below w.heap.size w W0 := ⟨_, rfl, Box3.new w _ _ _ 50, (Below.refl _ _).alloc (Nat.le_refl _) _⟩
  have HW0 : Hid (W0 = _) := hW0
  have X0 : Hid (Box3 W0 w.heap.size (.slice a n c) (.slice b m c') (.slice d q c'') ∧ Below w.heap.size w W0) := ⟨xb, xB⟩
  clear hW0 xb xB
  by_cases hkn : kn ≤ 1048576
  rotate_left
  · have hkn' : (1048576 : Int) < (kn : Int) := by omega
    go_enter Try.func9, Try.ntmps9
    go_wp2
    go_ret
    rw [← HW0.out]
    exact ⟨rfl, X0.out.2⟩
  have hkn' : decide ((1048576 : Int) < (kn : Int)) = false := decide_eq_false (by omega)
  have HK : Hid (Ints w ka kn K) := ⟨hkn, hki⟩
  clear hki
  go_enter Try.func9, Try.ntmps9
  go_wp2_with fail
  rw [← HW0.out]
  refine (szDisk a b d n m q c c' c'' F G O _ (HI.out.below X0.out.2)).mono ?_
  rintro e w1 ⟨⟨r, rfl, hr⟩, D1⟩
  have X1 : Hid (Box3 w1 w.heap.size (.slice a n c) (.slice b m c') (.slice d q c'') ∧ Below w.heap.size w w1) := ⟨X0.out.1.kept D1 X0.out.1.2.2, X0.out.2.trans (D1.mono X0.out.2.size)⟩
  clear D1 X0 HW0
  rcases hr with ⟨hr, hc⟩ | ⟨rfl, hc⟩
  rotate_left
  · clear hc
    go_wp2
    go_ret
    exact ⟨rfl, X1.out.2⟩
  have r0 : 0 ≤ r := by omega
  have H : Hid (Dk w a n F b m G d q O) := HI.out.dk (by omega)
  clear hr hc HI
  obtain ⟨L1, L2, L3, rr, HSP, HIM, l1, l2, l3⟩ : ∃ (L1 L2 : List Fl) (L3 : List Dp) (rr : Bool), Hid (∀ V R1 R2 R3 B, Own3 V B (.slice (some ⟨R1, 0, none⟩) n n) (.slice (some ⟨R2, 0, none⟩) m m) (.slice (some ⟨R3, 0, none⟩) q q) (lst F n) (lst G m) (lst O q) → ∀ RK, Ints V (some ⟨RK, 0, none⟩) kn K → Calls Try.prog 34 #[.agg #[.slice (some ⟨R1, 0, none⟩) n n, .slice (some ⟨R2, 0, none⟩) m m, .slice (some ⟨R3, 0, none⟩) q q], .slice (some ⟨RK, 0, none⟩) kn kn, .int .i64 t] V fun e w' => ∃ v, e = .returned (.tuple #[v, .bool rr]) ∧ DkAns V L1 L2 L3 v w') ∧ Hid (∀ V R1 R2 R3 B, Own3 V B (.slice (some ⟨R1, 0, none⟩) n n) (.slice (some ⟨R2, 0, none⟩) m m) (.slice (some ⟨R3, 0, none⟩) q q) (lst F n) (lst G m) (lst O q) → ∀ RK, Ints V (some ⟨RK, 0, none⟩) kn K → Calls Try.prog 16 #[.agg #[.slice (some ⟨R1, 0, none⟩) n n, .slice (some ⟨R2, 0, none⟩) m m, .slice (some ⟨R3, 0, none⟩) q q], .slice (some ⟨RK, 0, none⟩) kn kn, .int .i64 t] V fun e w' => ∃ v, e = .returned (.tuple #[v, .bool rr]) ∧ DkAns V L1 L2 L3 v w') ∧ L1.length ≤ 1048576 ∧ L2.length ≤ 1048576 ∧ L3.length ≤ 1048576 := by
    refine ⟨crL (lst F n) (lst G m) O q K kn t, crL (lst F n) (lst G m) O q K kn t, [], crB (lst F n) (lst G m) O q K kn t, fun V R1 R2 R3 B hV => fun RK hk => specCr (some ⟨R1, 0, none⟩) (some ⟨R3, 0, none⟩) ⟨R2, 0, none⟩ n m q n m q F G O (some ⟨RK, 0, none⟩) kn kn K t V (dk_own hV H.out) hk, fun V R1 R2 R3 B hV => fun RK hk => implCr (some ⟨R1, 0, none⟩) (some ⟨R2, 0, none⟩) (some ⟨R3, 0, none⟩) n m q n m q F G O (some ⟨RK, 0, none⟩) kn kn K t V (dk_own hV H.out) hk, crL_len _ _ _ _ _ _ _, crL_len _ _ _ _ _ _ _, by simp⟩
  obtain ⟨n1, e1⟩ : ∃ n1, n1 = L1.length := ⟨_, rfl⟩
  obtain ⟨n2, e2⟩ : ∃ n2, n2 = L2.length := ⟨_, rfl⟩
  obtain ⟨n3, e3⟩ : ∃ n3, n3 = L3.length := ⟨_, rfl⟩
  have E1 : Hid (L1.length = n1) := e1.symm
  have E2 : Hid (L2.length = n2) := e2.symm
  have E3 : Hid (L3.length = n3) := e3.symm
  rw [← e1] at l1
  rw [← e2] at l2
  rw [← e3] at l3
  have OP : Hid (∀ V v w', DkAns V L1 L2 L3 v w' → ∃ a1 c1 a2 c2 a3 c3, v = .agg #[.slice a1 n1 c1, .slice a2 n2 c2, .slice a3 n3 c3] ∧ Own3 w' V.heap.size (.slice a1 n1 c1) (.slice a2 n2 c2) (.slice a3 n3 c3) L1 L2 L3 ∧ Below V.heap.size V w') := by
    rw [e1, e2, e3]
    exact fun V v w' hh => hh
  have LB : Hid (L1.length ≤ 1048576 ∧ L2.length ≤ 1048576 ∧ L3.length ≤ 1048576) := by rw [← e1, ← e2, ← e3]; exact ⟨l1, l2, l3⟩
  clear e1 e2 e3
  obtain ⟨⟨⟨s0, s1, s2⟩, _, _⟩, _⟩ := X1.out
  go_wp2_with fail
  refine (toDiskL a b d n m q c c' c'' F G O _ (H.out.below X1.out.2)).mono ?_
  rintro e w2 ⟨R1, R2, R3, rfl, M2, D2⟩
  have X2 : Hid (Box3 w2 w.heap.size (.slice a n c) (.slice b m c') (.slice d q c'') ∧ Below w.heap.size w w2) := ⟨X1.out.1.kept D2 X1.out.1.2.2, X1.out.2.trans (D2.mono X1.out.2.size)⟩
  have M2' : Hid (Own3 w2 w1.heap.size (.slice (some ⟨R1, 0, none⟩) n n) (.slice (some ⟨R2, 0, none⟩) m m) (.slice (some ⟨R3, 0, none⟩) q q) (lst F n) (lst G m) (lst O q)) := M2
  clear D2 X1 s0 s1 s2 M2
  go_wp2_with fail
  refine (toInts ka kn kc K _ (HK.out.below X2.out.2)).mono ?_
  rintro e u2 ⟨RK, rfl, hRK, I2', E2⟩
  have Y2 : Hid (Box3 u2 w.heap.size (.slice a n c) (.slice b m c') (.slice d q c'') ∧ Below w.heap.size w u2) := ⟨X2.out.1.kept E2 X2.out.1.2.2, X2.out.2.trans (E2.mono X2.out.2.size)⟩
  have N2 : Hid (Own3 u2 w1.heap.size (.slice (some ⟨R1, 0, none⟩) n n) (.slice (some ⟨R2, 0, none⟩) m m) (.slice (some ⟨R3, 0, none⟩) q q) (lst F n) (lst G m) (lst O q)) := M2'.out.kept E2
  have I2 : Hid (Ints u2 (some ⟨RK, 0, none⟩) kn K) := I2'.ints hkn
  clear E2 X2 M2' I2' hRK
  go_wp2_with fail
  refine (HSP.out _ _ _ _ _ N2.out _ I2.out).mono ?_
  rintro e w3 ⟨v3, rfl, A3⟩
  obtain ⟨p1, pc1, p2, pc2, p3, pc3, hv3, O3, D3⟩ := OP.out _ _ _ A3
  subst hv3
  obtain ⟨V4, hV4, S4, B4⟩ : ∃ V4, V4 = w3.alloc (.cells #[.slice p1 n1 pc1, .slice p2 n2 pc2, .slice p3 n3 pc3] 27) ∧ SA V4 u2.heap.size w3.heap.size (.slice p1 n1 pc1) (.slice p2 n2 pc2) (.slice p3 n3 pc3) L1 L2 L3 ∧ Below w3.heap.size w3 V4 := ⟨_, rfl, SA.new O3 D3.size, (Below.refl _ _).alloc (Nat.le_refl _) _⟩
  have HV4 : Hid (V4 = _) := hV4
  have X4 : Hid (Box3 V4 w.heap.size (.slice a n c) (.slice b m c') (.slice d q c'') ∧ Below w.heap.size w V4 ∧ SA V4 u2.heap.size w3.heap.size (.slice p1 n1 pc1) (.slice p2 n2 pc2) (.slice p3 n3 pc3) L1 L2 L3) := by
    have y := Y2.out.1.kept D3 Y2.out.1.2.2
    have z := Y2.out.2.trans (D3.mono Y2.out.2.size)
    exact ⟨y.kept B4 y.2.2, z.trans (B4.mono z.size), S4⟩
  have hw2 : Hid (w.heap.size < u2.heap.size) := Y2.out.1.2.2
  obtain ⟨⟨s0, s1, s2⟩, _, _⟩ := Y2.out.1.kept D3 Y2.out.1.2.2
  clear A3 O3 D3 B4 S4 hV4 Y2 N2 HSP I2
  go_wp2_with fail
  rw [← HV4.out]
  refine (toDiskL a b d n m q c c' c'' F G O _ (H.out.below X4.out.2.1)).mono ?_
  rintro e w5 ⟨Q1, Q2, Q3, rfl, M5, D5⟩
  obtain ⟨V5, hV5, S5, B5⟩ : ∃ V5, V5 = w5.alloc (.cells #[.slice (some ⟨Q1, 0, none⟩) n n, .slice (some ⟨Q2, 0, none⟩) m m, .slice (some ⟨Q3, 0, none⟩) q q] 27) ∧ SA V5 V4.heap.size w5.heap.size (.slice (some ⟨Q1, 0, none⟩) n n) (.slice (some ⟨Q2, 0, none⟩) m m) (.slice (some ⟨Q3, 0, none⟩) q q) (lst F n) (lst G m) (lst O q) ∧ Below w5.heap.size w5 V5 := ⟨_, rfl, SA.new M5 D5.size, (Below.refl _ _).alloc (Nat.le_refl _) _⟩
  have HV5 : Hid (V5 = _) := hV5
  have X5 : Hid (Box3 V5 w.heap.size (.slice a n c) (.slice b m c') (.slice d q c'') ∧ Below w.heap.size w V5 ∧ SA V5 u2.heap.size w3.heap.size (.slice p1 n1 pc1) (.slice p2 n2 pc2) (.slice p3 n3 pc3) L1 L2 L3 ∧ SA V5 V4.heap.size w5.heap.size (.slice (some ⟨Q1, 0, none⟩) n n) (.slice (some ⟨Q2, 0, none⟩) m m) (.slice (some ⟨Q3, 0, none⟩) q q) (lst F n) (lst G m) (lst O q)) := by
    have y := X4.out.1.kept D5 X4.out.1.2.2
    have z := X4.out.2.1.trans (D5.mono X4.out.2.1.size)
    exact ⟨y.kept B5 y.2.2, z.trans (B5.mono z.size), (X4.out.2.2.kept D5).kept B5, S5⟩
  have h34 : Hid (w3.heap.size < V4.heap.size) := X4.out.2.2.box.2.2
  clear D5 B5 S5 hV5 X4 M5 HV4 s0 s1 s2
  go_wp2_with fail
  rw [← HV5.out]
  refine (toInts ka kn kc K _ (HK.out.below X5.out.2.1)).mono ?_
  rintro e u5 ⟨RJ, rfl, hRJ, I5, E5⟩
  have Y5 : Hid (Box3 u5 w.heap.size (.slice a n c) (.slice b m c') (.slice d q c'') ∧ Below w.heap.size w u5 ∧ SA u5 u2.heap.size w3.heap.size (.slice p1 n1 pc1) (.slice p2 n2 pc2) (.slice p3 n3 pc3) L1 L2 L3 ∧ SA u5 V4.heap.size w5.heap.size (.slice (some ⟨Q1, 0, none⟩) n n) (.slice (some ⟨Q2, 0, none⟩) m m) (.slice (some ⟨Q3, 0, none⟩) q q) (lst F n) (lst G m) (lst O q)) := ⟨X5.out.1.kept E5 X5.out.1.2.2, X5.out.2.1.trans (E5.mono X5.out.2.1.size), X5.out.2.2.1.kept E5, X5.out.2.2.2.kept E5⟩
  have J5 : Hid (RowIt u5 RJ kn kn K) := I5
  have hJ1 : Hid (w5.heap.size < RJ) := by rw [hRJ]; exact X5.out.2.2.2.box.2.2
  have hJ2 : Hid (RJ < u5.heap.size) := I5.2.2.1
  clear E5 X5 I5 HV5 hRJ
  obtain ⟨⟨y0, y1, y2⟩, _, _⟩ := Y5.out.2.2.2.box
  go_wp2_with fail
  refine (HIM.out _ _ _ _ _ Y5.out.2.2.2.own _ (J5.out.ints hkn)).mono ?_
  rintro e w6 ⟨v6, rfl, A6⟩
  obtain ⟨g1, gc1, g2, gc2, g3, gc3, hv6, O6, D6⟩ := OP.out _ _ _ A6
  subst hv6
  obtain ⟨V6, hV6, S6, B6⟩ : ∃ V6, V6 = w6.alloc (.cells #[.slice g1 n1 gc1, .slice g2 n2 gc2, .slice g3 n3 gc3] 27) ∧ SA V6 u5.heap.size w6.heap.size (.slice g1 n1 gc1) (.slice g2 n2 gc2) (.slice g3 n3 gc3) L1 L2 L3 ∧ Below w6.heap.size w6 V6 := ⟨_, rfl, SA.new O6 D6.size, (Below.refl _ _).alloc (Nat.le_refl _) _⟩
  have HV6 : Hid (V6 = _) := hV6
  have X6 : Hid (Box3 V6 w.heap.size (.slice a n c) (.slice b m c') (.slice d q c'') ∧ Below w.heap.size w V6 ∧ SA V6 u2.heap.size w3.heap.size (.slice p1 n1 pc1) (.slice p2 n2 pc2) (.slice p3 n3 pc3) L1 L2 L3 ∧ SA V6 V4.heap.size w5.heap.size (.slice (some ⟨Q1, 0, none⟩) n n) (.slice (some ⟨Q2, 0, none⟩) m m) (.slice (some ⟨Q3, 0, none⟩) q q) (lst F n) (lst G m) (lst O q) ∧ SA V6 u5.heap.size w6.heap.size (.slice g1 n1 gc1) (.slice g2 n2 gc2) (.slice g3 n3 gc3) L1 L2 L3) := by
    have y := Y5.out.1.kept D6 Y5.out.1.2.2
    have z := Y5.out.2.1.trans (D6.mono Y5.out.2.1.size)
    exact ⟨y.kept B6 y.2.2, z.trans (B6.mono z.size), (Y5.out.2.2.1.kept D6).kept B6, (Y5.out.2.2.2.kept D6).kept B6, S6⟩
  have h55 : Hid (w5.heap.size < u5.heap.size) := Y5.out.2.2.2.box.2.2
  have Z45 : Hid (V4.heap.size ≤ w5.heap.size) := Y5.out.2.2.2.le
  obtain ⟨⟨s0, s1, s2⟩, _, _⟩ := (Y5.out.2.2.1.kept D6).box
  have J6 : Hid (RowIt V6 RJ kn kn K) := (J5.out.below D6).below B6
  clear D6 B6 S6 hV6 Y5 A6 O6 J5 y0 y1 y2
  have hrr : (rr == rr) = true := by simp
  go_wp2_with fail
  rw [← HV6.out]
  refine (eqDisk_own X6.out.2.2.2.2.own X6.out.2.2.1.own LB.out.1 LB.out.2.1 LB.out.2.2).mono ?_
  rintro e w7 ⟨rfl, D7⟩
  have X7 : Hid (Box3 w7 w.heap.size (.slice a n c) (.slice b m c') (.slice d q c'') ∧ Below w.heap.size w w7 ∧ SA w7 u2.heap.size w3.heap.size (.slice p1 n1 pc1) (.slice p2 n2 pc2) (.slice p3 n3 pc3) L1 L2 L3 ∧ SA w7 V4.heap.size w5.heap.size (.slice (some ⟨Q1, 0, none⟩) n n) (.slice (some ⟨Q2, 0, none⟩) m m) (.slice (some ⟨Q3, 0, none⟩) q q) (lst F n) (lst G m) (lst O q) ∧ SA w7 u5.heap.size w6.heap.size (.slice g1 n1 gc1) (.slice g2 n2 gc2) (.slice g3 n3 gc3) L1 L2 L3) := ⟨X6.out.1.kept D7 X6.out.1.2.2, X6.out.2.1.trans (D7.mono X6.out.2.1.size), X6.out.2.2.1.kept D7, X6.out.2.2.2.1.kept D7, X6.out.2.2.2.2.kept D7⟩
  have J7 : Hid (RowIt w7 RJ kn kn K) := J6.out.below D7
  clear D7 X6 s0 s1 s2 HV6 J6
  obtain ⟨⟨⟨s0, s1, s2⟩, _, _⟩, _, _, ⟨⟨⟨o0, o1, o2⟩, _, ol⟩, _, _, _⟩, _⟩ := X7.out
  have BD : Hid (Below w.heap.size w w7.drew) := X7.out.2.1.drew
  have ID : Hid (Below w7.heap.size w7 w7.drew) := ⟨rfl, rfl, rfl, Nat.le_refl _, fun _ _ => rfl⟩
  go_wp2_with fail
  go_cut [60] (fun sx wx => sx = .bool false ∧ Hid (Box3 wx w.heap.size (.slice a n c) (.slice b m c') (.slice d q c'') ∧ Below w.heap.size w wx ∧ SA wx u2.heap.size w3.heap.size (.slice p1 n1 pc1) (.slice p2 n2 pc2) (.slice p3 n3 pc3) L1 L2 L3 ∧ SA wx V4.heap.size w5.heap.size (.slice (some ⟨Q1, 0, none⟩) n n) (.slice (some ⟨Q2, 0, none⟩) m m) (.slice (some ⟨Q3, 0, none⟩) q q) (lst F n) (lst G m) (lst O q) ∧ SA wx u5.heap.size w6.heap.size (.slice g1 n1 gc1) (.slice g2 n2 gc2) (.slice g3 n3 gc3) L1 L2 L3) ∧ Hid (RowIt wx RJ kn kn K))
  case first =>
    go_region_with (first | (go_at_call 27; refine (toDiskL a b d n m q c c' c'' F G O w7.drew (H.out.below BD.out)).mono ?_; rintro e w8 ⟨P1, P2, P3, rfl, M8, D8⟩; have D8' : Below w7.heap.size w7 w8 := ID.out.trans (D8.mono (Nat.le_refl _)); have X8 : Hid ((Box3 w8 w.heap.size (.slice a n c) (.slice b m c') (.slice d q c'') ∧ Below w.heap.size w w8 ∧ SA w8 u2.heap.size w3.heap.size (.slice p1 n1 pc1) (.slice p2 n2 pc2) (.slice p3 n3 pc3) L1 L2 L3 ∧ SA w8 V4.heap.size w5.heap.size (.slice (some ⟨Q1, 0, none⟩) n n) (.slice (some ⟨Q2, 0, none⟩) m m) (.slice (some ⟨Q3, 0, none⟩) q q) (lst F n) (lst G m) (lst O q) ∧ SA w8 u5.heap.size w6.heap.size (.slice g1 n1 gc1) (.slice g2 n2 gc2) (.slice g3 n3 gc3) L1 L2 L3) ∧ Dk w8 (some ⟨Q1, 0, none⟩) n F (some ⟨Q2, 0, none⟩) m G (some ⟨Q3, 0, none⟩) q O ∧ Dk w8 (some ⟨P1, 0, none⟩) n F (some ⟨P2, 0, none⟩) m G (some ⟨P3, 0, none⟩) q O) := ⟨⟨X7.out.1.kept D8' X7.out.1.2.2, X7.out.2.1.trans (D8'.mono X7.out.2.1.size), X7.out.2.2.1.kept D8', X7.out.2.2.2.1.kept D8', X7.out.2.2.2.2.kept D8'⟩, dk_own (X7.out.2.2.2.1.kept D8').own H.out, dk_own M8 H.out⟩; have J8 : Hid (RowIt w8 RJ kn kn K) := J7.out.below D8'; obtain ⟨⟨j0, j1, j2⟩, _, _⟩ := X8.out.1.2.2.2.1.box; clear D8 D8' M8) | (go_at_call 28; refine (eqDisk_same _ _ _ _ _ _ n m q n m q n m q F G O _ X8.out.2.1 X8.out.2.2).mono ?_; rintro e w9 ⟨rfl, D9⟩; have X9 : Hid (Box3 w9 w.heap.size (.slice a n c) (.slice b m c') (.slice d q c'') ∧ Below w.heap.size w w9 ∧ SA w9 u2.heap.size w3.heap.size (.slice p1 n1 pc1) (.slice p2 n2 pc2) (.slice p3 n3 pc3) L1 L2 L3 ∧ SA w9 V4.heap.size w5.heap.size (.slice (some ⟨Q1, 0, none⟩) n n) (.slice (some ⟨Q2, 0, none⟩) m m) (.slice (some ⟨Q3, 0, none⟩) q q) (lst F n) (lst G m) (lst O q) ∧ SA w9 u5.heap.size w6.heap.size (.slice g1 n1 gc1) (.slice g2 n2 gc2) (.slice g3 n3 gc3) L1 L2 L3) := ⟨X8.out.1.1.kept D9 X8.out.1.1.2.2, X8.out.1.2.1.trans (D9.mono X8.out.1.2.1.size), X8.out.1.2.2.1.kept D9, X8.out.1.2.2.2.1.kept D9, X8.out.1.2.2.2.2.kept D9⟩; have J9 : Hid (RowIt w9 RJ kn kn K) := J8.out.below D9; clear D9))
    all_goals go_wp2_with fail
    all_goals go_meet
    all_goals exact ⟨rfl, X9, J9⟩
  case rest =>
    obtain ⟨rfl, X8, J8⟩ := hcut
    obtain ⟨w8, hw8⟩ : ∃ w8, w8 = wc := ⟨_, rfl⟩
    subst hw8
    have LN : Hid ((lst F n).length = n ∧ (lst G m).length = m ∧ (lst O q).length = q) := ⟨lst_len F n, lst_len G m, lst_len O q⟩
    have hn := H.out.live.1
    have hm := H.out.safe.1
    have hq := H.out.ops.1
    clear X7 BD ID s0 s1 s2 o0 o1 o2 ol J7
    go_wp2_with fail
    refine (toInts ka kn kc K _ (HK.out.below X8.out.2.1)).mono ?_
    rintro e u8 ⟨RI, rfl, hRI, I8, E8⟩
    have Y8 : Hid (Box3 u8 w.heap.size (.slice a n c) (.slice b m c') (.slice d q c'') ∧ Below w.heap.size w u8 ∧ SA u8 u2.heap.size w3.heap.size (.slice p1 n1 pc1) (.slice p2 n2 pc2) (.slice p3 n3 pc3) L1 L2 L3 ∧ SA u8 V4.heap.size w5.heap.size (.slice (some ⟨Q1, 0, none⟩) n n) (.slice (some ⟨Q2, 0, none⟩) m m) (.slice (some ⟨Q3, 0, none⟩) q q) (lst F n) (lst G m) (lst O q) ∧ SA u8 u5.heap.size w6.heap.size (.slice g1 n1 gc1) (.slice g2 n2 gc2) (.slice g3 n3 gc3) L1 L2 L3) := ⟨X8.out.1.kept E8 X8.out.1.2.2, X8.out.2.1.trans (E8.mono X8.out.2.1.size), X8.out.2.2.1.kept E8, X8.out.2.2.2.1.kept E8, X8.out.2.2.2.2.kept E8⟩
    have J8' : Hid (RowIt u8 RJ kn kn K) := J8.out.below E8
    have I8' : Hid (Ints u8 (some ⟨RI, 0, none⟩) kn K) := I8.ints hkn
    clear E8 X8 J8 I8 hRI
    go_wp2_with fail
    refine (eqInts _ _ kn kn kn K _ (J8'.out.ints hkn) I8'.out).mono ?_
    rintro e v8 ⟨rfl, E8⟩
    have X8 : Hid (Box3 v8 w.heap.size (.slice a n c) (.slice b m c') (.slice d q c'') ∧ Below w.heap.size w v8 ∧ SA v8 u2.heap.size w3.heap.size (.slice p1 n1 pc1) (.slice p2 n2 pc2) (.slice p3 n3 pc3) L1 L2 L3 ∧ SA v8 V4.heap.size w5.heap.size (.slice (some ⟨Q1, 0, none⟩) n n) (.slice (some ⟨Q2, 0, none⟩) m m) (.slice (some ⟨Q3, 0, none⟩) q q) (lst F n) (lst G m) (lst O q) ∧ SA v8 u5.heap.size w6.heap.size (.slice g1 n1 gc1) (.slice g2 n2 gc2) (.slice g3 n3 gc3) L1 L2 L3) := ⟨Y8.out.1.kept E8 Y8.out.1.2.2, Y8.out.2.1.trans (E8.mono Y8.out.2.1.size), Y8.out.2.2.1.kept E8, Y8.out.2.2.2.1.kept E8, Y8.out.2.2.2.2.kept E8⟩
    have J8 : Hid (RowIt v8 RJ kn kn K) := J8'.out.below E8
    clear E8 Y8 J8' I8'
    obtain ⟨_, _, _, ⟨⟨⟨o0, o1, o2⟩, _, _⟩, _, _, _⟩, _⟩ := X8.out
    go_wp2_with fail
    refine (markDisk _ _ _ _ n m q n m q (lst F n) (lst G m) (lst O q) _ X8.out.2.2.2.1.own LN.out.1 LN.out.2.1 LN.out.2.2 hn hm hq).mono ?_
    rintro e w9 ⟨rfl, _, K9⟩
    have X9 : Hid (Box3 w9 w.heap.size (.slice a n c) (.slice b m c') (.slice d q c'') ∧ Below w.heap.size w w9 ∧ SA w9 u2.heap.size w3.heap.size (.slice p1 n1 pc1) (.slice p2 n2 pc2) (.slice p3 n3 pc3) L1 L2 L3 ∧ SA w9 u5.heap.size w6.heap.size (.slice g1 n1 gc1) (.slice g2 n2 gc2) (.slice g3 n3 gc3) L1 L2 L3) :=
      ⟨box_keep3 X8.out.1 K9 (fun g hg e => by have := X8.out.2.2.2.1.rows g hg; have := hw2.out; have := X8.out.2.2.1.le; have := h34.out; omega), X8.out.2.1.trans (X8.out.2.2.2.1.below K9 (by have := hw2.out; have := X8.out.2.2.1.le; have := h34.out; omega)), X8.out.2.2.1.keep3 K9 X8.out.2.2.2.1.rows (Or.inr h34.out), X8.out.2.2.2.2.keep3 K9 X8.out.2.2.2.1.rows (Or.inl (Nat.le_of_lt h55.out))⟩
    have J9 : Hid (RowIt w9 RJ kn kn K) := J8.out.keep3 K9 (fun g hg e => by have := X8.out.2.2.2.1.rows g hg; have := hJ1.out; omega)
    have hc0 : 0 ≤ cnt3 n m q := by unfold cnt3; omega
    have hc1 : cnt3 n m q ≤ 100000000 := by unfold cnt3; omega
    clear K9 X8 o0 o1 o2 J8
    generalize cnt3 n m q = kz at *
    go_wp2_with fail
    refine (markInts RJ kn kn K kz _ J9.out hkn hc0 hc1).mono ?_
    rintro e u9 ⟨rfl, K9⟩
    have Y9 : Hid (Box3 u9 w.heap.size (.slice a n c) (.slice b m c') (.slice d q c'') ∧ Below w.heap.size w u9 ∧ SA u9 u2.heap.size w3.heap.size (.slice p1 n1 pc1) (.slice p2 n2 pc2) (.slice p3 n3 pc3) L1 L2 L3 ∧ SA u9 u5.heap.size w6.heap.size (.slice g1 n1 gc1) (.slice g2 n2 gc2) (.slice g3 n3 gc3) L1 L2 L3) := by
      have own : ∀ g, ((Value.slice (some ⟨RJ, 0, none⟩) kn kn).ownBlock = some g ∨ (Value.slice (some ⟨RJ, 0, none⟩) kn kn).ownBlock = some g ∨ (Value.slice (some ⟨RJ, 0, none⟩) kn kn).ownBlock = some g) → RJ = g := fun g hg => by
        rcases hg with k | k | k <;> simpa [Value.ownBlock] using k
      have rows : ∀ g, ((Value.slice (some ⟨RJ, 0, none⟩) kn kn).ownBlock = some g ∨ (Value.slice (some ⟨RJ, 0, none⟩) kn kn).ownBlock = some g ∨ (Value.slice (some ⟨RJ, 0, none⟩) kn kn).ownBlock = some g) → RJ ≤ g ∧ g < RJ + 1 := fun g hg => by have := own g hg; omega
      have q1 := hw2.out
      have q2 := X9.out.2.2.1.le
      have q3 := h34.out
      have q4 := Z45.out
      have q5 := hJ1.out
      have q6 := hJ2.out
      have q7 := J9.out.2.2.1
      have q8 := X9.out.2.1.size
      refine ⟨box_keep3 X9.out.1 K9 (fun g hg e => by have := own g hg; omega), X9.out.2.1.trans (K9.below (by omega) (fun g e => by have := own g (Or.inl e); omega) (fun g e => by have := own g (Or.inl e); omega) (fun g e => by have := own g (Or.inl e); omega)), X9.out.2.2.1.keep3 K9 rows (Or.inr (by omega)), X9.out.2.2.2.keep3 K9 rows (Or.inl (by omega))⟩
    have hk : 0 ≤ kz + (kn : Int) := by omega
    have hk' : decide (kz + (kn : Int) < 0) = false := decide_eq_false (by omega)
    clear K9 X9 J9
    obtain ⟨w9, hw9⟩ : ∃ w9, w9 = u9 := ⟨_, rfl⟩
    subst hw9
    have X9 := Y9
    clear Y9 hc0 hc1
    generalize kz + (kn : Int) = kx at *
    obtain ⟨_, _, ⟨⟨⟨s0, s1, s2⟩, _, _⟩, _, _, _⟩, ⟨⟨⟨o0, o1, o2⟩, _, _⟩, _, _, _⟩⟩ := X9.out
    go_wp2_with fail
    refine (eqDisk_own X9.out.2.2.2.own X9.out.2.2.1.own LB.out.1 LB.out.2.1 LB.out.2.2).mono ?_
    rintro e w10 ⟨rfl, D10⟩
    have X10 : Hid (Box3 w10 w.heap.size (.slice a n c) (.slice b m c') (.slice d q c'') ∧ Below w.heap.size w w10 ∧ SA w10 u2.heap.size w3.heap.size (.slice p1 n1 pc1) (.slice p2 n2 pc2) (.slice p3 n3 pc3) L1 L2 L3 ∧ SA w10 u5.heap.size w6.heap.size (.slice g1 n1 gc1) (.slice g2 n2 gc2) (.slice g3 n3 gc3) L1 L2 L3) := ⟨X9.out.1.kept D10 X9.out.1.2.2, X9.out.2.1.trans (D10.mono X9.out.2.1.size), X9.out.2.2.1.kept D10, X9.out.2.2.2.kept D10⟩
    clear D10 X9 s0 s1 s2 o0 o1 o2 hk hk'
    obtain ⟨_, _, _, ⟨⟨⟨o0, o1, o2⟩, _, _⟩, _, _, _⟩⟩ := X10.out
    go_wp2_with fail
    refine (markDisk _ _ _ _ n1 n2 n3 _ _ _ L1 L2 L3 _ X10.out.2.2.2.own E1.out E2.out E3.out l1 l2 l3).mono ?_
    rintro e w11 ⟨rfl, ⟨N1, N2, N3, hMk, O11⟩, K11⟩
    have X11 : Hid (Box3 w11 w.heap.size (.slice a n c) (.slice b m c') (.slice d q c'') ∧ Below w.heap.size w w11 ∧ SA w11 u2.heap.size w3.heap.size (.slice p1 n1 pc1) (.slice p2 n2 pc2) (.slice p3 n3 pc3) L1 L2 L3 ∧ SA w11 u5.heap.size w6.heap.size (.slice g1 n1 gc1) (.slice g2 n2 gc2) (.slice g3 n3 gc3) N1 N2 N3) :=
      ⟨box_keep3 X10.out.1 K11 (fun g hg e => by have := X10.out.2.2.2.rows g hg; have := hw2.out; have := X10.out.2.2.1.le; have := h34.out; have := h55.out; have := Z45.out; omega), X10.out.2.1.trans (X10.out.2.2.2.below K11 (by have := hw2.out; have := X10.out.2.2.1.le; have := h34.out; have := h55.out; have := Z45.out; omega)), X10.out.2.2.1.keep3 K11 X10.out.2.2.2.rows (Or.inr (by have := h34.out; have := h55.out; have := Z45.out; omega)), X10.out.2.2.2.self K11 O11⟩
    have HMK : Hid (Mk3 n1 n2 n3 N1 N2 N3) := hMk
    have hk : 0 ≤ cnt3 n1 n2 n3 := by unfold cnt3; omega
    have hk' : decide (cnt3 n1 n2 n3 < 0) = false := decide_eq_false (by omega)
    clear K11 O11 hMk X10 o0 o1 o2
    have HEL : Hid (∀ V, Own3 V u5.heap.size (.slice g1 n1 gc1) (.slice g2 n2 gc2) (.slice g3 n3 gc3) N1 N2 N3 → Calls Try.prog 32 #[.agg #[.slice g1 n1 gc1, .slice g2 n2 gc2, .slice g3 n3 gc3], .int .i64 1] V fun e w' => e = .returned (.int .i64 (cnt3 n1 n2 n3)) ∧ Below V.heap.size V w') := fun V hV => heldDisk _ _ _ _ n1 n2 n3 _ _ _ N1 N2 N3 V hV HMK.out l1 l2 l3
    generalize cnt3 n1 n2 n3 = ky at *
    have hke : (ky == ky) = true := by simp
    obtain ⟨_, _, _, ⟨⟨⟨o0, o1, o2⟩, _, _⟩, _, _, _⟩⟩ := X11.out
    go_wp2_with fail
    refine (HEL.out _ X11.out.2.2.2.own).mono ?_
    rintro e w12 ⟨rfl, D12⟩
    have X12 : Hid (Box3 w12 w.heap.size (.slice a n c) (.slice b m c') (.slice d q c'') ∧ Below w.heap.size w w12 ∧ SA w12 u2.heap.size w3.heap.size (.slice p1 n1 pc1) (.slice p2 n2 pc2) (.slice p3 n3 pc3) L1 L2 L3 ∧ SA w12 u5.heap.size w6.heap.size (.slice g1 n1 gc1) (.slice g2 n2 gc2) (.slice g3 n3 gc3) N1 N2 N3) := ⟨X11.out.1.kept D12 X11.out.1.2.2, X11.out.2.1.trans (D12.mono X11.out.2.1.size), X11.out.2.2.1.kept D12, X11.out.2.2.2.kept D12⟩
    clear D12 X11 o0 o1 o2
    obtain ⟨⟨⟨s0, s1, s2⟩, _, _⟩, _, _, _⟩ := X12.out
    go_wp2_with fail
    refine (toDiskL a b d n m q c c' c'' F G O _ (H.out.below X12.out.2.1)).mono ?_
    rintro e w13 ⟨T1, T2, T3, rfl, M13, D13⟩
    have X13 : Hid (Below w.heap.size w w13 ∧ SA w13 u2.heap.size w3.heap.size (.slice p1 n1 pc1) (.slice p2 n2 pc2) (.slice p3 n3 pc3) L1 L2 L3 ∧ SA w13 u5.heap.size w6.heap.size (.slice g1 n1 gc1) (.slice g2 n2 gc2) (.slice g3 n3 gc3) N1 N2 N3) := ⟨X12.out.2.1.trans (D13.mono X12.out.2.1.size), X12.out.2.2.1.kept D13, X12.out.2.2.2.kept D13⟩
    have M13' : Hid (Own3 w13 w12.heap.size (.slice (some ⟨T1, 0, none⟩) n n) (.slice (some ⟨T2, 0, none⟩) m m) (.slice (some ⟨T3, 0, none⟩) q q) (lst F n) (lst G m) (lst O q)) := M13
    clear D13 X12 s0 s1 s2 M13
    go_wp2_with fail
    refine (toInts ka kn kc K _ (HK.out.below X13.out.1)).mono ?_
    rintro e u13 ⟨RL, rfl, hRL, I13', E13⟩
    have Y13 : Hid (Below w.heap.size w u13 ∧ SA u13 u2.heap.size w3.heap.size (.slice p1 n1 pc1) (.slice p2 n2 pc2) (.slice p3 n3 pc3) L1 L2 L3 ∧ SA u13 u5.heap.size w6.heap.size (.slice g1 n1 gc1) (.slice g2 n2 gc2) (.slice g3 n3 gc3) N1 N2 N3) := ⟨X13.out.1.trans (E13.mono X13.out.1.size), X13.out.2.1.kept E13, X13.out.2.2.kept E13⟩
    have N13 : Hid (Own3 u13 w12.heap.size (.slice (some ⟨T1, 0, none⟩) n n) (.slice (some ⟨T2, 0, none⟩) m m) (.slice (some ⟨T3, 0, none⟩) q q) (lst F n) (lst G m) (lst O q)) := M13'.out.kept E13
    have I13 : Hid (Ints u13 (some ⟨RL, 0, none⟩) kn K) := I13'.ints hkn
    clear E13 X13 M13' I13' hRL
    go_wp2_with fail
    refine (HIM.out _ _ _ _ _ N13.out _ I13.out).mono ?_
    rintro e w14 ⟨v14, rfl, A14⟩
    obtain ⟨t1, tc1, t2, tc2, t3, tc3, hv14, O14, D14⟩ := OP.out _ _ _ A14
    subst hv14
    obtain ⟨V14, hV14, S14, B14⟩ : ∃ V14, V14 = w14.alloc (.cells #[.slice t1 n1 tc1, .slice t2 n2 tc2, .slice t3 n3 tc3] 27) ∧ SA V14 u13.heap.size w14.heap.size (.slice t1 n1 tc1) (.slice t2 n2 tc2) (.slice t3 n3 tc3) L1 L2 L3 ∧ Below w14.heap.size w14 V14 := ⟨_, rfl, SA.new O14 D14.size, (Below.refl _ _).alloc (Nat.le_refl _) _⟩
    have HV14 : Hid (V14 = _) := hV14
    have X14 : Hid (Below w.heap.size w V14 ∧ SA V14 u2.heap.size w3.heap.size (.slice p1 n1 pc1) (.slice p2 n2 pc2) (.slice p3 n3 pc3) L1 L2 L3 ∧ SA V14 u5.heap.size w6.heap.size (.slice g1 n1 gc1) (.slice g2 n2 gc2) (.slice g3 n3 gc3) N1 N2 N3 ∧ SA V14 u13.heap.size w14.heap.size (.slice t1 n1 tc1) (.slice t2 n2 tc2) (.slice t3 n3 tc3) L1 L2 L3) := by
      have z := Y13.out.1.trans (D14.mono Y13.out.1.size)
      exact ⟨z.trans (B14.mono z.size), (Y13.out.2.1.kept D14).kept B14, (Y13.out.2.2.kept D14).kept B14, S14⟩
    obtain ⟨⟨s0, s1, s2⟩, _, _⟩ := (Y13.out.2.1.kept D14).box
    clear D14 B14 S14 hV14 Y13 A14 O14 N13 I13
    go_wp2_with fail
    rw [← HV14.out]
    refine (eqDisk_own X14.out.2.2.2.own X14.out.2.1.own LB.out.1 LB.out.2.1 LB.out.2.2).mono ?_
    rintro e w15 ⟨rfl, D15⟩
    have X15 : Hid (Below w.heap.size w w15 ∧ SA w15 u5.heap.size w6.heap.size (.slice g1 n1 gc1) (.slice g2 n2 gc2) (.slice g3 n3 gc3) N1 N2 N3) := ⟨X14.out.1.trans (D15.mono X14.out.1.size), X14.out.2.2.1.kept D15⟩
    clear D15 X14 s0 s1 s2 HV14
    obtain ⟨_, ⟨⟨⟨o0, o1, o2⟩, _, _⟩, _, _, _⟩⟩ := X15.out
    go_wp2_with fail
    refine (HEL.out _ X15.out.2.own).mono ?_
    rintro e w16 ⟨rfl, D16⟩
    have X16 : Hid (Below w.heap.size w w16) := X15.out.1.trans (D16.mono X15.out.1.size)
    clear D16 X15 o0 o1 o2
    go_wp2
    go_ret
    exact ⟨rfl, X16.out⟩
end Go.Proofs.Ytcalgmhpagpnnaa
