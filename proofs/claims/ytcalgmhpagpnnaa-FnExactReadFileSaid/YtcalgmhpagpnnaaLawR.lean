/- The law FnExactReadFile returns true, whatever the disk and the name. Conditions: its lists lie in memory. -/
import Derived.Test.YtcalgmhpagpnnaaSz
import Derived.Test.YtcalgmhpagpnnaaTd
import Derived.Test.YtcalgmhpagpnnaaRf
import Derived.Deep.RegionWith
namespace Go.Proofs.Ytcalgmhpagpnnaa
open Go.RowKit
set_option maxRecDepth 8000

set_option maxHeartbeats 4000000 in
theorem lawRead (a b d : Option Addr) (n m q c c' c'' : Nat) (F G : Nat → Fl) (O : Nat → Dp) (s : ByteArray) (w : World) (h : DkIn w a n F b m G d q O) (hs : s.size ≤ maxLen) :
    Calls Try.prog 10 #[.agg #[.slice a n c, .slice b m c', .slice d q c''], .string s] w fun e w' => e = .returned (.bool true) ∧ Below w.heap.size w w' := by
  have HI : Hid (DkIn w a n F b m G d q O) := h
  clear h
  obtain ⟨W0, hW0, xb, xB⟩ : ∃ W0, W0 = w.alloc (.cells #[.slice a n c, .slice b m c', .slice d q c''] 50) ∧ Box3 W0 w.heap.size (.slice a n c) (.slice b m c') (.slice d q c'') ∧ Below w.heap.size w W0 := ⟨_, rfl, Box3.new w _ _ _ 50, (Below.refl _ _).alloc (Nat.le_refl _) _⟩
  have HW0 : Hid (W0 = _) := hW0
  have X0 : Hid (Box3 W0 w.heap.size (.slice a n c) (.slice b m c') (.slice d q c'') ∧ Below w.heap.size w W0) := ⟨xb, xB⟩
  clear hW0 xb xB
  unfold maxLen at hs
  by_cases hsz : s.size ≤ 1048576
  rotate_left
  · have hsz' : (1048576 : Int) < (s.size : Int) := by omega
    go_enter Try.func10, Try.ntmps10
    go_wp2
    go_ret
    rw [← HW0.out]
    exact ⟨rfl, X0.out.2⟩
  have hsz' : decide ((1048576 : Int) < (s.size : Int)) = false := decide_eq_false (by omega)
  go_enter Try.func10, Try.ntmps10
  go_wp2_with fail
  rw [← HW0.out]
  refine (szDisk a b d n m q c c' c'' F G O _ (HI.out.below X0.out.2)).mono ?_
  rintro e w1 ⟨⟨r, rfl, hr⟩, D1⟩
  have X1 : Hid (Box3 w1 w.heap.size (.slice a n c) (.slice b m c') (.slice d q c'') ∧ Below w.heap.size w w1) := ⟨X0.out.1.kept D1 X0.out.1.2.2, X0.out.2.trans (D1.mono X0.out.2.size)⟩
  clear D1 X0 HW0
  rcases hr with ⟨hr, hc⟩ | ⟨rfl, hc⟩
  rotate_left
  · clear hc
    go_wp2
    go_ret
    exact ⟨rfl, X1.out.2⟩
  have r0 : 0 ≤ r := by omega
  have H : Hid (Dk w a n F b m G d q O) := HI.out.dk (by omega)
  clear hr hc HI
  obtain ⟨⟨⟨s0, s1, s2⟩, _, _⟩, _⟩ := X1.out
  go_wp2_with fail
  refine (toDisk a b d n m q c c' c'' F G O _ (H.out.below X1.out.2)).mono ?_
  rintro e w2 ⟨R1, R2, R3, rfl, M2, D2⟩
  have X2 : Hid (Box3 w2 w.heap.size (.slice a n c) (.slice b m c') (.slice d q c'') ∧ Below w.heap.size w w2) := ⟨X1.out.1.kept D2 X1.out.1.2.2, X1.out.2.trans (D2.mono X1.out.2.size)⟩
  have M2' : Hid (Dk w2 (some ⟨R1, 0, none⟩) n F (some ⟨R2, 0, none⟩) m G (some ⟨R3, 0, none⟩) q O) := M2.dk H.out
  clear D2 X1 s0 s1 s2 M2
  go_wp2_with fail
  refine (specRead _ _ _ n m q n m q F G O s _ M2'.out).mono ?_
  rintro e w3 ⟨E3, D3⟩
  generalize ho : rdF (diskB (lst F n) (lst G m) (lst O q)) (lst F n) s = o at E3
  unfold RdOut at E3
  subst E3
  have HO : Hid (rdF (diskB (lst F n) (lst G m) (lst O q)) (lst F n) s = o) := ho
  clear ho
  have X3 : Hid (Box3 w3 w.heap.size (.slice a n c) (.slice b m c') (.slice d q c'') ∧ Below w.heap.size w w3) := ⟨X2.out.1.kept D3 X2.out.1.2.2, X2.out.2.trans (D3.mono X2.out.2.size)⟩
  clear D3 X2 M2'
  obtain ⟨⟨⟨s0, s1, s2⟩, _, _⟩, _⟩ := X3.out
  go_wp2_with fail
  refine (toDisk a b d n m q c c' c'' F G O _ (H.out.below X3.out.2)).mono ?_
  rintro e w4 ⟨Q1, Q2, Q3, rfl, M4, D4⟩
  obtain ⟨W5, hW5, k5, B5⟩ : ∃ W5, W5 = w4.alloc (.cells #[.slice (some ⟨Q1, 0, none⟩) n n, .slice (some ⟨Q2, 0, none⟩) m m, .slice (some ⟨Q3, 0, none⟩) q q] 27) ∧ Box3 W5 w4.heap.size (.slice (some ⟨Q1, 0, none⟩) n n) (.slice (some ⟨Q2, 0, none⟩) m m) (.slice (some ⟨Q3, 0, none⟩) q q) ∧ Below w4.heap.size w4 W5 := ⟨_, rfl, Box3.new w4 _ _ _ 27, (Below.refl _ _).alloc (Nat.le_refl _) _⟩
  have X5 : Hid (Box3 W5 w.heap.size (.slice a n c) (.slice b m c') (.slice d q c'') ∧ Below w.heap.size w W5 ∧ Box3 W5 w4.heap.size (.slice (some ⟨Q1, 0, none⟩) n n) (.slice (some ⟨Q2, 0, none⟩) m m) (.slice (some ⟨Q3, 0, none⟩) q q)) := by
    have y := X3.out.1.kept D4 X3.out.1.2.2
    have z := X3.out.2.trans (D4.mono X3.out.2.size)
    exact ⟨y.kept B5 y.2.2, z.trans (B5.mono z.size), k5⟩
  have M5 : Hid (Dk W5 (some ⟨Q1, 0, none⟩) n F (some ⟨Q2, 0, none⟩) m G (some ⟨Q3, 0, none⟩) q O) := (M4.dk H.out).below B5
  have HW5 : Hid (W5 = _) := hW5
  clear D4 X3 M4 s0 s1 s2 k5 B5 hW5
  go_wp2_with fail
  rw [← HW5.out]
  refine (implRead _ _ _ n m q n m q F G O s _ M5.out).mono ?_
  rintro e w6 ⟨E6, D6⟩
  rw [HO.out] at E6
  unfold RdOut at E6
  subst E6
  have X6 : Hid (Box3 w6 w.heap.size (.slice a n c) (.slice b m c') (.slice d q c'') ∧ Below w.heap.size w w6 ∧ Box3 w6 w4.heap.size (.slice (some ⟨Q1, 0, none⟩) n n) (.slice (some ⟨Q2, 0, none⟩) m m) (.slice (some ⟨Q3, 0, none⟩) q q)) := ⟨X5.out.1.kept D6 X5.out.1.2.2, X5.out.2.1.trans (D6.mono X5.out.2.1.size), X5.out.2.2.kept D6 X5.out.2.2.2.2⟩
  have M6 : Hid (Dk w6 (some ⟨Q1, 0, none⟩) n F (some ⟨Q2, 0, none⟩) m G (some ⟨Q3, 0, none⟩) q O) := M5.out.below D6
  clear D6 X5 M5 HW5
  generalize o.isSome = x
  generalize o.getD ⟨#[]⟩ = y
  clear HO
  have eb : (x != x) = false := by simp
  have ey : (y.toList == y.toList) = true := by simp
  obtain ⟨⟨⟨s0, s1, s2⟩, _, _⟩, _, ⟨⟨o0, o1, o2⟩, _, ol⟩⟩ := X6.out
  have BD : Hid (Below w.heap.size w w6.drew) := X6.out.2.1.drew
  have MD : Hid (Dk w6.drew (some ⟨Q1, 0, none⟩) n F (some ⟨Q2, 0, none⟩) m G (some ⟨Q3, 0, none⟩) q O) := M6.out.below ⟨rfl, rfl, rfl, Nat.le_refl _, fun _ _ => rfl⟩
  have BX : Hid (Box3 w6.drew w4.heap.size (.slice (some ⟨Q1, 0, none⟩) n n) (.slice (some ⟨Q2, 0, none⟩) m m) (.slice (some ⟨Q3, 0, none⟩) q q)) := X6.out.2.2
  clear M6
  go_wp2
  go_region_with (first | (go_at_call 27; refine (toDisk a b d n m q c c' c'' F G O w6.drew (H.out.below BD.out)).mono ?_; rintro e w7 ⟨P1, P2, P3, rfl, M7, D7⟩; have X7 : Hid (Below w.heap.size w w7 ∧ Dk w7 (some ⟨Q1, 0, none⟩) n F (some ⟨Q2, 0, none⟩) m G (some ⟨Q3, 0, none⟩) q O ∧ Dk w7 (some ⟨P1, 0, none⟩) n F (some ⟨P2, 0, none⟩) m G (some ⟨P3, 0, none⟩) q O) := ⟨BD.out.trans (D7.mono BD.out.size), MD.out.below D7, M7.dk H.out⟩; obtain ⟨⟨g0, g1, g2⟩, _, _⟩ := BX.out.kept D7 BX.out.2.2; clear D7 M7) | (go_at_call 28; refine (eqDisk_same _ _ _ _ _ _ n m q n m q n m q F G O _ X7.out.2.1 X7.out.2.2).mono ?_; rintro e w8 ⟨rfl, D8⟩; have X8 : Hid (Below w.heap.size w w8) := X7.out.1.trans (D8.mono X7.out.1.size); clear D8))
  all_goals go_wp2
  all_goals go_ret
  all_goals exact ⟨rfl, X8.out⟩
end Go.Proofs.Ytcalgmhpagpnnaa
