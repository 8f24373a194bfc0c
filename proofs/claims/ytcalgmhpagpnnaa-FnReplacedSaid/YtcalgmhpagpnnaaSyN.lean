/- Sync of both sides, of a disk whose files may be nil. Conditions: the disk's lists lie in memory, at most 1048576 of each, of at most 1048576 bytes. -/
import Derived.Test.YtcalgmhpagpnnaaSyI
import Derived.Test.YtcalgmhpagpnnaaCpLN
namespace Go.Proofs.Ytcalgmhpagpnnaa
open Go.RowKit
set_option maxRecDepth 8000

set_option maxHeartbeats 2000000 in
theorem specSyncO_some (q b d : Option Addr) (n m r c c' c'' : Nat) (F G : Nat → Fl) (O : Nat → Dp) (w : World) (h : Dk w q n F b m G d r O) (hx : diskB (lst F n) (lst G m) (lst O r) = true) :
    Calls Try.prog 33 #[.agg #[.slice q n c, .slice b m c', .slice d r c'']] w fun e w' => ∃ v, e = .returned v ∧ DkAns w (lst F n) (lst F n) [] v w' := by
  have H : Hid (Dk w q n F b m G d r O) := h
  have HX : Hid (diskB (lst F n) (lst G m) (lst O r) = true) := hx
  have hn := h.live.1
  clear h hx
  obtain ⟨W0, hW0, xb, yb, xB⟩ : ∃ W0, W0 = (w.alloc (.cells #[.slice q n c, .slice b m c', .slice d r c''] 27)).alloc (.cells #[.slice none 0 0, .slice none 0 0, .slice none 0 0] 27) ∧ Box3 W0 w.heap.size (.slice q n c) (.slice b m c') (.slice d r c'') ∧ Box3 W0 (w.heap.size + 1) (.slice none 0 0) (.slice none 0 0) (.slice none 0 0) ∧ Below w.heap.size w W0 := by
    refine ⟨_, rfl, (Box3.new w _ _ _ 27).kept ((Below.refl _ _).alloc (Nat.le_refl _) _) (by simp), ?_, ((Below.refl _ _).alloc (Nat.le_refl _) _).alloc (by simp) _⟩
    have := Box3.new (w.alloc (.cells #[.slice q n c, .slice b m c', .slice d r c''] 27)) (.slice none 0 0) (.slice none 0 0) (.slice none 0 0) 27
    rwa [World.size_alloc] at this
  have HW0 : Hid (W0 = _) := hW0
  have X0 : Hid (Box3 W0 w.heap.size (.slice q n c) (.slice b m c') (.slice d r c'') ∧ Box3 W0 (w.heap.size + 1) (.slice none 0 0) (.slice none 0 0) (.slice none 0 0) ∧ Below w.heap.size w W0) := ⟨xb, yb, xB⟩
  clear hW0 xb yb xB
  go_enter Try.func33, Try.ntmps33
  go_wp2_with fail
  rw [← HW0.out]
  refine (specDisk _ b d n m r c c' c'' F G O _ (H.out.below X0.out.2.2)).mono ?_
  rintro e w1 ⟨rfl, D1⟩
  rw [HX.out]
  have X1 : Hid (Box3 w1 w.heap.size (.slice q n c) (.slice b m c') (.slice d r c'') ∧ Box3 w1 (w.heap.size + 1) (.slice none 0 0) (.slice none 0 0) (.slice none 0 0) ∧ Below w.heap.size w w1) := ⟨X0.out.1.kept D1 X0.out.1.2.2, X0.out.2.1.kept D1 X0.out.2.1.2.2, X0.out.2.2.trans (D1.mono X0.out.2.2.size)⟩
  clear D1 X0 HW0
  obtain ⟨⟨⟨s0, s1, s2⟩, _, sl⟩, ⟨⟨o0, o1, o2⟩, of, ol⟩, _⟩ := X1.out
  have LV : Hid (∀ V, Below w.heap.size w V → Fls V q n F) := fun V hV => H.out.live.below hV
  have x0 : w1.drew.cell? ⟨w.heap.size, 0, none⟩ = some (.slice q n c) := s0
  go_wp2
  have hs1 : w.heap.size ≤ w1.heap.size := Nat.le_of_lt sl
  have BW : Hid (Below w.heap.size w w1) := X1.out.2.2
  have RB : Hid (Box3 w1 (w.heap.size + 1) (.slice none 0 0) (.slice none 0 0) (.slice none 0 0)) := X1.out.2.1
  go_region_held3 (fun V => V.cell? ⟨w.heap.size, 0, none⟩ = some (.slice q n c)) (first | with_reducible exact x0 | with_reducible exact keepA s0 sl _ | with_reducible exact keepAA s0 sl _ _ | with_reducible exact k1 | with_reducible exact keepB k1 kl1 _ | with_reducible exact k2 | with_reducible exact keepS k2 (by omega) _ _ _) (first | (refine step_appendFlO (by rfl) _ _ (by rfl) (by rfl) (B := w1.heap.size) (by omega) (by first | with_reducible exact new_at _ _ | with_reducible exact (G1.block _ (by first | (simp; done) | (simp; omega)) (by first | (simp; done) | (simp; omega))).trans (atA3 _ _ _) | with_reducible exact (G1.block _ (by first | omega | (simp; done) | (simp; omega)) (by first | (simp; done) | (simp; omega))).trans (atA2 _ _ _)) (by first | omega | (simp; done) | (simp; omega)) (by rfl) (LV.out _ (by first | with_reducible exact b1 | with_reducible exact b1.alloc (by omega) _)) ?_; intro va2 vc2 u2 A2 G2 L2; have k2 : u2.cell? ⟨w.heap.size, 0, none⟩ = some (.slice q n c) := keepG (by first | with_reducible exact k1 | with_reducible exact keepB k1 kl1 _) G2 (by first | omega | (simp; done) | (simp; omega)) (by first | omega | (simp; done) | (simp; omega)); have rb2 : Box3 u2 (w.heap.size + 1) (.slice none 0 0) (.slice none 0 0) (.slice none 0 0) := Box3.grown (by first | with_reducible exact rb1 | with_reducible exact boxB rb1 _) G2 (by first | omega | (simp; done) | (simp; omega)); obtain ⟨⟨p0, p1, p2⟩, pf, pz⟩ := rb2; have FI : Hid ((FlL u2 w1.heap.size (.slice va1 n vc1) (lst F n) ∧ ∀ g, (Value.slice va1 n vc1).ownBlock = some g → (Value.slice va2 n vc2).ownBlock ≠ some g) ∧ FlL u2 w1.heap.size (.slice va2 n vc2) (lst F n) ∧ Below w.heap.size w u2) := ⟨fin2 A1 L1 G2 L2 (by first | (refine Or.inl ⟨by omega, ?_⟩; first | (simp; done) | (simp; omega)) | with_reducible exact Or.inr (Nat.le_refl _)) (by first | with_reducible exact Below.refl _ _ | with_reducible exact (Below.refl _ _).alloc (Nat.le_refl _) _), A2, Below.grown (by first | with_reducible exact b1 | with_reducible exact b1.alloc (by omega) _) G2 (by first | omega | (simp; done) | (simp; omega)) (fun k hk => by cases hk; omega)⟩; clear A1 A2 G1 G2 L1 L2 b1) | (refine step_appendFlO (by rfl) _ _ (by rfl) (by rfl) (B := w1.heap.size) (by omega) (by first | with_reducible exact atA1 _ _ | with_reducible exact atA2 _ _ _ | with_reducible exact atA3 _ _ _) (by first | omega | (simp; done) | (simp; omega)) (by rfl) (LV.out _ (by first | with_reducible exact belA BW.out hs1 _ | with_reducible exact belAA BW.out hs1 _ _)) ?_; intro va1 vc1 u1 A1 G1 L1; have k1 : u1.cell? ⟨w.heap.size, 0, none⟩ = some (.slice q n c) := keepG (by first | with_reducible exact keepA s0 sl _ | with_reducible exact keepAA s0 sl _ _) G1 (by first | omega | (simp; done) | (simp; omega)) (by first | omega | (simp; done) | (simp; omega)); have kw1 : w1.heap.size ≤ u1.heap.size := Nat.le_trans (by first | with_reducible exact sizeA1 _ _ | with_reducible exact sizeA2 _ _ _) G1.size; have kl1 : w.heap.size < u1.heap.size := Nat.lt_of_lt_of_le (by first | omega | (simp; done) | (simp; omega)) G1.size; have b1 : Below w.heap.size w u1 := Below.grown (by first | with_reducible exact belA BW.out hs1 _ | with_reducible exact belAA BW.out hs1 _ _) G1 (by first | omega | (simp; done) | (simp; omega)) (fun k hk => by cases hk; omega); have rb1 : Box3 u1 (w.heap.size + 1) (.slice none 0 0) (.slice none 0 0) (.slice none 0 0) := Box3.grown (by first | with_reducible exact boxA RB.out _ | with_reducible exact boxAA RB.out _ _) G1 (by first | omega | (simp; done) | (simp; omega)); have kr1 : w.heap.size + 1 < u1.heap.size := rb1.2.2))
  all_goals go_wp2
  all_goals refine bodyPost_ret (v := .agg #[.slice va1 n vc1, .slice va2 n vc2, .slice none 0 0]) (by simp [results, Try.results33, go_sem, p0, p1, p2]) rfl ⟨_, rfl, syncAns FI.out.1.1 FI.out.2.1 FI.out.1.2 FI.out.2.2 ol (lst_len F n)⟩
set_option maxHeartbeats 2000000 in
theorem specSyncO_no (q b d : Option Addr) (n m r c c' c'' : Nat) (F G : Nat → Fl) (O : Nat → Dp) (w : World) (h : Dk w q n F b m G d r O) (hx : diskB (lst F n) (lst G m) (lst O r) = false) :
    Calls Try.prog 33 #[.agg #[.slice q n c, .slice b m c', .slice d r c'']] w fun e w' => ∃ v, e = .returned v ∧ DkAns w [] [] [] v w' := by
  have H : Hid (Dk w q n F b m G d r O) := h
  have HX : Hid (diskB (lst F n) (lst G m) (lst O r) = false) := hx
  have hn := h.live.1
  clear h hx
  obtain ⟨W0, hW0, xb, yb, xB⟩ : ∃ W0, W0 = (w.alloc (.cells #[.slice q n c, .slice b m c', .slice d r c''] 27)).alloc (.cells #[.slice none 0 0, .slice none 0 0, .slice none 0 0] 27) ∧ Box3 W0 w.heap.size (.slice q n c) (.slice b m c') (.slice d r c'') ∧ Box3 W0 (w.heap.size + 1) (.slice none 0 0) (.slice none 0 0) (.slice none 0 0) ∧ Below w.heap.size w W0 := by
    refine ⟨_, rfl, (Box3.new w _ _ _ 27).kept ((Below.refl _ _).alloc (Nat.le_refl _) _) (by simp), ?_, ((Below.refl _ _).alloc (Nat.le_refl _) _).alloc (by simp) _⟩
    have := Box3.new (w.alloc (.cells #[.slice q n c, .slice b m c', .slice d r c''] 27)) (.slice none 0 0) (.slice none 0 0) (.slice none 0 0) 27
    rwa [World.size_alloc] at this
  have HW0 : Hid (W0 = _) := hW0
  have X0 : Hid (Box3 W0 w.heap.size (.slice q n c) (.slice b m c') (.slice d r c'') ∧ Box3 W0 (w.heap.size + 1) (.slice none 0 0) (.slice none 0 0) (.slice none 0 0) ∧ Below w.heap.size w W0) := ⟨xb, yb, xB⟩
  clear hW0 xb yb xB
  go_enter Try.func33, Try.ntmps33
  go_wp2_with fail
  rw [← HW0.out]
  refine (specDisk _ b d n m r c c' c'' F G O _ (H.out.below X0.out.2.2)).mono ?_
  rintro e w1 ⟨rfl, D1⟩
  rw [HX.out]
  have X1 : Hid (Box3 w1 w.heap.size (.slice q n c) (.slice b m c') (.slice d r c'') ∧ Box3 w1 (w.heap.size + 1) (.slice none 0 0) (.slice none 0 0) (.slice none 0 0) ∧ Below w.heap.size w w1) := ⟨X0.out.1.kept D1 X0.out.1.2.2, X0.out.2.1.kept D1 X0.out.2.1.2.2, X0.out.2.2.trans (D1.mono X0.out.2.2.size)⟩
  clear D1 X0 HW0
  obtain ⟨⟨⟨s0, s1, s2⟩, _, sl⟩, ⟨⟨o0, o1, o2⟩, of, ol⟩, _⟩ := X1.out
  have BW : Hid (Below w.heap.size w w1) := X1.out.2.2
  go_wp2
  exact bodyPost_ret (v := .agg #[.slice none 0 0, .slice none 0 0, .slice none 0 0]) (by simp [results, Try.results33, go_sem, o0, o1, o2]) rfl ⟨_, rfl, noAns BW.out⟩
theorem specSyncO (q b d : Option Addr) (n m r c c' c'' : Nat) (F G : Nat → Fl) (O : Nat → Dp) (w : World) (h : Dk w q n F b m G d r O) :
    Calls Try.prog 33 #[.agg #[.slice q n c, .slice b m c', .slice d r c'']] w fun e w' => ∃ v, e = .returned v ∧ DkAns w (sy1 (diskB (lst F n) (lst G m) (lst O r)) (lst F n)) (sy1 (diskB (lst F n) (lst G m) (lst O r)) (lst F n)) [] v w' := by
  cases hx : diskB (lst F n) (lst G m) (lst O r)
  · exact specSyncO_no q b d n m r c c' c'' F G O w h hx
  · exact specSyncO_some q b d n m r c c' c'' F G O w h hx
set_option maxHeartbeats 2000000 in
theorem implSyncO_some (q b d : Option Addr) (n m r c c' c'' : Nat) (F G : Nat → Fl) (O : Nat → Dp) (w : World) (h : Dk w q n F b m G d r O) (hx : diskB (lst F n) (lst G m) (lst O r) = true) :
    Calls Try.prog 17 #[.agg #[.slice q n c, .slice b m c', .slice d r c'']] w fun e w' => ∃ v, e = .returned v ∧ DkAns w (lst F n) (lst F n) [] v w' := by
  have H : Hid (Dk w q n F b m G d r O) := h
  have HX : Hid (diskB (lst F n) (lst G m) (lst O r) = true) := hx
  have hn := h.live.1
  clear h hx
  obtain ⟨W0, hW0, xb, yb, xB⟩ : ∃ W0, W0 = (w.alloc (.cells #[.slice q n c, .slice b m c', .slice d r c''] 27)).alloc (.cells #[.slice none 0 0, .slice none 0 0, .slice none 0 0] 27) ∧ Box3 W0 w.heap.size (.slice q n c) (.slice b m c') (.slice d r c'') ∧ Box3 W0 (w.heap.size + 1) (.slice none 0 0) (.slice none 0 0) (.slice none 0 0) ∧ Below w.heap.size w W0 := by
    refine ⟨_, rfl, (Box3.new w _ _ _ 27).kept ((Below.refl _ _).alloc (Nat.le_refl _) _) (by simp), ?_, ((Below.refl _ _).alloc (Nat.le_refl _) _).alloc (by simp) _⟩
    have := Box3.new (w.alloc (.cells #[.slice q n c, .slice b m c', .slice d r c''] 27)) (.slice none 0 0) (.slice none 0 0) (.slice none 0 0) 27
    rwa [World.size_alloc] at this
  have HW0 : Hid (W0 = _) := hW0
  have X0 : Hid (Box3 W0 w.heap.size (.slice q n c) (.slice b m c') (.slice d r c'') ∧ Box3 W0 (w.heap.size + 1) (.slice none 0 0) (.slice none 0 0) (.slice none 0 0) ∧ Below w.heap.size w W0) := ⟨xb, yb, xB⟩
  clear hW0 xb yb xB
  go_enter Try.func17, Try.ntmps17
  go_wp2_with fail
  rw [← HW0.out]
  refine (implDisk _ b d n m r c c' c'' F G O _ (H.out.below X0.out.2.2)).mono ?_
  rintro e w1 ⟨rfl, D1⟩
  rw [HX.out]
  have X1 : Hid (Box3 w1 w.heap.size (.slice q n c) (.slice b m c') (.slice d r c'') ∧ Box3 w1 (w.heap.size + 1) (.slice none 0 0) (.slice none 0 0) (.slice none 0 0) ∧ Below w.heap.size w w1) := ⟨X0.out.1.kept D1 X0.out.1.2.2, X0.out.2.1.kept D1 X0.out.2.1.2.2, X0.out.2.2.trans (D1.mono X0.out.2.2.size)⟩
  clear D1 X0 HW0
  obtain ⟨⟨⟨s0, s1, s2⟩, _, sl⟩, ⟨⟨o0, o1, o2⟩, of, ol⟩, _⟩ := X1.out
  have LV : Hid (∀ V, Below w.heap.size w V → Fls V q n F) := fun V hV => H.out.live.below hV
  have x0 : w1.drew.cell? ⟨w.heap.size, 0, none⟩ = some (.slice q n c) := s0
  go_wp2
  have hs1 : w.heap.size ≤ w1.heap.size := Nat.le_of_lt sl
  have BW : Hid (Below w.heap.size w w1) := X1.out.2.2
  have RB : Hid (Box3 w1 (w.heap.size + 1) (.slice none 0 0) (.slice none 0 0) (.slice none 0 0)) := X1.out.2.1
  have CP : Hid (∀ V, Below w.heap.size w V → Calls Try.prog 54 #[.slice q n c] V fun e w' => (∃ va vc, e = .returned (.slice va n vc) ∧ FlL w' V.heap.size (.slice va n vc) (lst F n)) ∧ Below V.heap.size V w') := fun V hV => implCopyFl q n c F V (LV.out V hV)
  have BD : Hid (Below w.heap.size w w1.drew) := BW.out.drew
  have RD : Hid (Box3 w1.drew (w.heap.size + 1) (.slice none 0 0) (.slice none 0 0) (.slice none 0 0)) := RB.out
  have hsd : w.heap.size < w1.drew.heap.size := sl
  have hsd1 : w1.heap.size ≤ w1.drew.heap.size := Nat.le_refl _
  go_region_held3 (fun V => V.cell? ⟨w.heap.size, 0, none⟩ = some (.slice q n c)) (first | with_reducible exact x0 | with_reducible exact k1 | with_reducible exact k2 | with_reducible exact keepS k2 (by omega) _ _ _) (first | (go_at_call 54; refine (CP.out u1 b1.out).mono ?_; rintro e u2 ⟨⟨va2, vc2, rfl, A2⟩, B2⟩; have k2 : u2.cell? ⟨w.heap.size, 0, none⟩ = some (.slice q n c) := (B2.cell (p := ⟨w.heap.size, 0, none⟩) kl1).trans k1; obtain ⟨⟨p0, p1, p2⟩, pf, pz⟩ := rb1.out.kept B2 rb1.out.2.2; have FI : Hid ((FlL u2 w1.heap.size (.slice va1 n vc1) (lst F n) ∧ ∀ g, (Value.slice va1 n vc1).ownBlock = some g → (Value.slice va2 n vc2).ownBlock ≠ some g) ∧ FlL u2 w1.heap.size (.slice va2 n vc2) (lst F n) ∧ Below w.heap.size w u2) := ⟨⟨(A1.out.mono hsd1).kept B2, fun g h1 h2 => (by have e1 := (World.ownsRow.lt A1.out g h1).2; have e2 := A2.lt g h2; omega)⟩, A2.mono kw1, b1.out.trans (B2.mono b1.out.size)⟩; clear A2 B2) | (go_at_call 54; refine (CP.out w1.drew BD.out).mono ?_; rintro e u1 ⟨⟨va1, vc1, rfl, A1⟩, B1⟩; have A1 : Hid (FlL u1 w1.drew.heap.size (.slice va1 n vc1) (lst F n)) := A1; have k1 : u1.cell? ⟨w.heap.size, 0, none⟩ = some (.slice q n c) := (B1.cell (p := ⟨w.heap.size, 0, none⟩) hsd).trans x0; have kl1 : w.heap.size < u1.heap.size := Nat.lt_of_lt_of_le hsd B1.size; have kw1 : w1.heap.size ≤ u1.heap.size := Nat.le_trans hsd1 B1.size; have rb1 : Hid (Box3 u1 (w.heap.size + 1) (.slice none 0 0) (.slice none 0 0) (.slice none 0 0)) := RD.out.kept B1 RD.out.2.2; have b1 : Hid (Below w.heap.size w u1) := BD.out.trans (B1.mono BD.out.size); clear B1))
  all_goals go_wp2
  all_goals refine bodyPost_ret (v := .agg #[.slice va1 n vc1, .slice va2 n vc2, .slice none 0 0]) (by simp [results, Try.results17, go_sem, p0, p1, p2]) rfl ⟨_, rfl, syncAns FI.out.1.1 FI.out.2.1 FI.out.1.2 FI.out.2.2 ol (lst_len F n)⟩
set_option maxHeartbeats 2000000 in
theorem implSyncO_no (q b d : Option Addr) (n m r c c' c'' : Nat) (F G : Nat → Fl) (O : Nat → Dp) (w : World) (h : Dk w q n F b m G d r O) (hx : diskB (lst F n) (lst G m) (lst O r) = false) :
    Calls Try.prog 17 #[.agg #[.slice q n c, .slice b m c', .slice d r c'']] w fun e w' => ∃ v, e = .returned v ∧ DkAns w [] [] [] v w' := by
  have H : Hid (Dk w q n F b m G d r O) := h
  have HX : Hid (diskB (lst F n) (lst G m) (lst O r) = false) := hx
  have hn := h.live.1
  clear h hx
  obtain ⟨W0, hW0, xb, yb, xB⟩ : ∃ W0, W0 = (w.alloc (.cells #[.slice q n c, .slice b m c', .slice d r c''] 27)).alloc (.cells #[.slice none 0 0, .slice none 0 0, .slice none 0 0] 27) ∧ Box3 W0 w.heap.size (.slice q n c) (.slice b m c') (.slice d r c'') ∧ Box3 W0 (w.heap.size + 1) (.slice none 0 0) (.slice none 0 0) (.slice none 0 0) ∧ Below w.heap.size w W0 := by
    refine ⟨_, rfl, (Box3.new w _ _ _ 27).kept ((Below.refl _ _).alloc (Nat.le_refl _) _) (by simp), ?_, ((Below.refl _ _).alloc (Nat.le_refl _) _).alloc (by simp) _⟩
    have := Box3.new (w.alloc (.cells #[.slice q n c, .slice b m c', .slice d r c''] 27)) (.slice none 0 0) (.slice none 0 0) (.slice none 0 0) 27
    rwa [World.size_alloc] at this
  have HW0 : Hid (W0 = _) := hW0
  have X0 : Hid (Box3 W0 w.heap.size (.slice q n c) (.slice b m c') (.slice d r c'') ∧ Box3 W0 (w.heap.size + 1) (.slice none 0 0) (.slice none 0 0) (.slice none 0 0) ∧ Below w.heap.size w W0) := ⟨xb, yb, xB⟩
  clear hW0 xb yb xB
  go_enter Try.func17, Try.ntmps17
  go_wp2_with fail
  rw [← HW0.out]
  refine (implDisk _ b d n m r c c' c'' F G O _ (H.out.below X0.out.2.2)).mono ?_
  rintro e w1 ⟨rfl, D1⟩
  rw [HX.out]
  have X1 : Hid (Box3 w1 w.heap.size (.slice q n c) (.slice b m c') (.slice d r c'') ∧ Box3 w1 (w.heap.size + 1) (.slice none 0 0) (.slice none 0 0) (.slice none 0 0) ∧ Below w.heap.size w w1) := ⟨X0.out.1.kept D1 X0.out.1.2.2, X0.out.2.1.kept D1 X0.out.2.1.2.2, X0.out.2.2.trans (D1.mono X0.out.2.2.size)⟩
  clear D1 X0 HW0
  obtain ⟨⟨⟨s0, s1, s2⟩, _, sl⟩, ⟨⟨o0, o1, o2⟩, of, ol⟩, _⟩ := X1.out
  have BW : Hid (Below w.heap.size w w1) := X1.out.2.2
  go_wp2
  exact bodyPost_ret (v := .agg #[.slice none 0 0, .slice none 0 0, .slice none 0 0]) (by simp [results, Try.results17, go_sem, o0, o1, o2]) rfl ⟨_, rfl, noAns BW.out⟩
theorem implSyncO (q b d : Option Addr) (n m r c c' c'' : Nat) (F G : Nat → Fl) (O : Nat → Dp) (w : World) (h : Dk w q n F b m G d r O) :
    Calls Try.prog 17 #[.agg #[.slice q n c, .slice b m c', .slice d r c'']] w fun e w' => ∃ v, e = .returned v ∧ DkAns w (sy1 (diskB (lst F n) (lst G m) (lst O r)) (lst F n)) (sy1 (diskB (lst F n) (lst G m) (lst O r)) (lst F n)) [] v w' := by
  cases hx : diskB (lst F n) (lst G m) (lst O r)
  · exact implSyncO_no q b d n m r c c' c'' F G O w h hx
  · exact implSyncO_some q b d n m r c c' c'' F G O w h hx
end Go.Proofs.Ytcalgmhpagpnnaa
