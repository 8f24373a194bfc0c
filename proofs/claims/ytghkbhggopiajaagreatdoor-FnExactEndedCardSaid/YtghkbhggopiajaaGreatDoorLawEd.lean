/- The law FnExactEnded returns true, whatever the bank. Conditions: its accounts and orders lie in memory; the package's errors lie as they were laid. -/
import Derived.Test.YtghkbhggopiajaaGreatDoorEdm
namespace Go.Proofs.YtghkbhggopiajaaGreatDoor
open Go.RowKit
set_option maxRecDepth 8000

theorem AL.past {w w' : World} {B : Nat} {v : Value} {l : List Acc} {row : Option Nat} (h : AL w B v l) (g : w.grownBy w' row) (hne : ∀ q, v.ownBlock = some q → row = some q → False) : AL w' B v l := World.ownsRow.kept h g (by
  cases hb : v.ownBlock with
  | none => exact Or.inl rfl
  | some q => right; intro e; exact hne q hb e.symm)
theorem OrdL.past {w w' : World} {B : Nat} {v : Value} {l : List Ord} {row : Option Nat} (h : OrdL w B v l) (g : w.grownBy w' row) (hne : ∀ q, v.ownBlock = some q → row = some q → False) : OrdL w' B v l := World.ownsRow.kept h g (by
  cases hb : v.ownBlock with
  | none => exact Or.inl rfl
  | some q => right; intro e; exact hne q hb e.symm)

theorem szBank_yes (a b : Option Addr) (n c m d : Nat) (k : Bk) (w : World) (h : n + m ≤ 1048576) :
    Calls Tryz.prog 41 #[.agg #[.int .i64 k.day, .slice a n c, .slice b m d, .int .i64 k.inn, .int .i64 k.out, .int .i64 k.posted, .int .i64 k.missed], .int .i64 1048576] w fun e w' => e = .returned (.int .i64 (1048576 - (n : Int) - (m : Int))) ∧ Below w.heap.size w w' := by
  have g1 : decide (1048576 - (n : Int) < 0) = false := by simp; omega
  have g2 : decide (1048576 - (n : Int) - (m : Int) < 0) = false := by simp; omega
  go_enter Tryz.func41, Tryz.ntmps41
  go_wp2_with (first | (go_at_call 36; refine (szAccountS_yes a n c _ (by omega)).mono ?_; rintro e wz ⟨rfl, hwz⟩; subst wz) | (go_at_call 93; refine (szSOrd_yes b m d (1048576 - (n : Int)) _ (by omega) (by omega)).mono ?_; rintro e wz ⟨rfl, hwz⟩; subst wz))
  go_ret
  exact ⟨rfl, (Below.refl _ _).alloc (Nat.le_refl _) _⟩
theorem szBank_no (a b : Option Addr) (n c m d : Nat) (k : Bk) (w : World) (h : 1048576 < n + m) (hn : n ≤ 9223372036854775807) (hm : m ≤ 9223372036854775807) :
    Calls Tryz.prog 41 #[.agg #[.int .i64 k.day, .slice a n c, .slice b m d, .int .i64 k.inn, .int .i64 k.out, .int .i64 k.posted, .int .i64 k.missed], .int .i64 1048576] w fun e w' => e = .returned (.int .i64 (-1)) ∧ Below w.heap.size w w' := by
  by_cases h1 : n ≤ 1048576
  · have g1 : decide (1048576 - (n : Int) < 0) = false := by simp; omega
    go_enter Tryz.func41, Tryz.ntmps41
    go_wp2_with (first | (go_at_call 36; refine (szAccountS_yes a n c _ (by omega)).mono ?_; rintro e wz ⟨rfl, hwz⟩; subst wz) | (go_at_call 93; refine (szSOrd_no b m d (1048576 - (n : Int)) _ (by omega) (by omega) hm).mono ?_; rintro e wz ⟨rfl, hwz⟩; subst wz))
    go_ret
    exact ⟨rfl, (Below.refl _ _).alloc (Nat.le_refl _) _⟩
  · go_enter Tryz.func41, Tryz.ntmps41
    go_wp2_with (go_at_call 36; refine (szAccountS_no a n c _ (by omega) hn).mono ?_; rintro e wz ⟨rfl, hwz⟩; subst wz)
    go_ret
    exact ⟨rfl, (Below.refl _ _).alloc (Nat.le_refl _) _⟩

set_option maxHeartbeats 16000000 in
theorem lawEd_yes (a b : Option Addr) (c d : Nat) (L : List Acc) (O : List Ord) (k : Bk) (p : Nat → Addr) (w : World) (hnm : L.length + O.length ≤ 1048576) (hF : Fo w a L.length (FL L)) (hO : Ords w b O.length (OrdF O)) (hG : GE w p) :
    Calls Tryz.prog 8 #[.agg #[.int .i64 k.day, .slice a L.length c, .slice b O.length d, .int .i64 k.inn, .int .i64 k.out, .int .i64 k.posted, .int .i64 k.missed]] w fun e w' => e = .returned (.bool true) ∧ Below w.heap.size w w' := by
  have F0 : Hid (Fo w a L.length (FL L)) := hF
  have O0 : Hid (Ords w b O.length (OrdF O)) := hO
  have G0 : Hid (GE w p) := hG
  have hn' : L.length ≤ 1048576 := by omega
  have hm' : O.length ≤ 1048576 := by omega
  obtain ⟨G, hGG⟩ : ∃ G, G = gA L O k := ⟨_, rfl⟩
  obtain ⟨H, hHH⟩ : ∃ H, H = gO L O k := ⟨_, rfl⟩
  obtain ⟨K, hKK⟩ : ∃ K, K = gK L O k := ⟨_, rfl⟩
  obtain ⟨ok, hok⟩ : ∃ ok, ok = gOk L O k := ⟨_, rfl⟩
  have hGl : G.length ≤ 1048576 := by have := gA_len L O k; rw [← hGG] at this; omega
  have hHl : H.length ≤ 1048576 := by have := gO_len L O k; rw [← hHH] at this; omega
  have SP : Hid (∀ w a' b' c' d', Fo w a' L.length (FL L) → Ords w b' O.length (OrdF O) → Calls Tryz.prog 23 #[.agg #[.int .i64 k.day, .slice a' L.length c', .slice b' O.length d', .int .i64 k.inn, .int .i64 k.out, .int .i64 k.posted, .int .i64 k.missed]] w fun e w' => ∃ v u, e = .returned (.tuple #[.agg #[.int .i64 K.day, v, u, .int .i64 K.inn, .int .i64 K.out, .int .i64 K.posted, .int .i64 K.missed], .bool ok]) ∧ AL w' w.heap.size v G ∧ OrdL w' w.heap.size u H ∧ Below w.heap.size w w') := fun w a' b' c' d' h1 h2 => by
    rw [hGG, hHH, hKK, hok]; exact (specEnded a' b' c' d' L O k w h1 h2).mono fun _ _ h => h.ans
  have IM : Hid (∀ w a' b' c' d', Fo w a' L.length (FL L) → Ords w b' O.length (OrdF O) → GE w p → Calls Tryz.prog 22 #[.agg #[.int .i64 k.day, .slice a' L.length c', .slice b' O.length d', .int .i64 k.inn, .int .i64 k.out, .int .i64 k.posted, .int .i64 k.missed]] w fun e w' => ∃ v u, e = .returned (.tuple #[.agg #[.int .i64 K.day, v, u, .int .i64 K.inn, .int .i64 K.out, .int .i64 K.posted, .int .i64 K.missed], .bool ok]) ∧ AL w' w.heap.size v G ∧ OrdL w' w.heap.size u H ∧ Below w.heap.size w w') := fun w a' b' c' d' h1 h2 h3 => by
    rw [hGG, hHH, hKK, hok]; exact (implEnded a' b' c' d' L O k p w h1 h2 h3).mono fun _ _ h => h.ans
  have EQ : Hid (∀ w B1 B2 C1 C2 v1 v2 u1 u2, AL w B1 v1 G → AL w B2 v2 G → OrdL w C1 u1 H → OrdL w C2 u2 H → Calls Tryz.prog 43 #[.agg #[.int .i64 K.day, v1, u1, .int .i64 K.inn, .int .i64 K.out, .int .i64 K.posted, .int .i64 K.missed], .agg #[.int .i64 K.day, v2, u2, .int .i64 K.inn, .int .i64 K.out, .int .i64 K.posted, .int .i64 K.missed]] w fun e w' => e = .returned (.bool true) ∧ Below w.heap.size w w') := fun w B1 B2 C1 C2 v1 v2 u1 u2 h1 h2 h3 h4 => by
    obtain ⟨a1, m1, rfl, _, _⟩ := h1.shape
    obtain ⟨a2, m2, rfl, _, _⟩ := h2.shape
    obtain ⟨b1, p1, rfl, _, _⟩ := h3.shape
    obtain ⟨b2, p2, rfl, _, _⟩ := h4.shape
    exact eqBank_same a1 a2 b1 b2 G.length m1 m2 H.length p1 p2 (FL G) (OrdF H) K w (h1.fo hGl).2 (h2.fo hGl).2 (h3.list hHl).2 (h4.list hHl).2
  have hokb : (ok != ok) = false := by simp
  clear hF hO hG hGG hHH hKK hok
  have hsz : decide (1048576 - (L.length : Int) - (O.length : Int) < 0) = false := by simp; omega
  obtain ⟨W0, hW0⟩ : ∃ W0, W0 = w.alloc (.cells #[.int .i64 k.day, .slice a L.length c, .slice b O.length d, .int .i64 k.inn, .int .i64 k.out, .int .i64 k.posted, .int .i64 k.missed] 69) := ⟨_, rfl⟩
  have BBz : Hid (Below w.heap.size w W0) := by show Below _ _ _; rw [hW0]; exact (Below.refl _ _).alloc (Nat.le_refl _) _
  have Z : Hid (Box7 W0 w.heap.size (.int .i64 k.day) (.slice a L.length c) (.slice b O.length d) (.int .i64 k.inn) (.int .i64 k.out) (.int .i64 k.posted) (.int .i64 k.missed)) := by show Box7 _ _ _ _ _ _ _ _ _; rw [hW0]; exact Box7.new w _ _ _ _ _ _ _ 69
  have z0 : W0.heap.size = w.heap.size + 1 := by rw [hW0]; simp
  have HW0 : Hid (W0 = _) := hW0
  clear hW0
  go_enter Tryz.func8, Tryz.ntmps8
  go_upto_region 2 with fail
  rw [← HW0.out]
  clear HW0
  obtain ⟨⟨Zc0, Zc1, Zc2, Zc3, Zc4, Zc5, Zc6⟩, Zcf, Zcz⟩ := Z.out
  go_wp2_with fail
  refine (szBank_yes a b L.length c O.length d k _ hnm).mono ?_
  rintro e w1 ⟨rfl, E⟩
  clear Zc0 Zc1 Zc2 Zc3 Zc4 Zc5 Zc6 Zcf Zcz
  have Z' : Hid (Box7 w1 w.heap.size (.int .i64 k.day) (.slice a L.length c) (.slice b O.length d) (.int .i64 k.inn) (.int .i64 k.out) (.int .i64 k.posted) (.int .i64 k.missed)) := Z.out.kept E (by omega)
  have BB1 : Hid (Below w.heap.size w w1) := BBz.out.trans (E.mono BBz.out.size)
  have z1 : W0.heap.size ≤ w1.heap.size := E.size
  clear Z
  have Z := Z'
  clear Z'
  clear E BBz 
  obtain ⟨⟨Zc0, Zc1, Zc2, Zc3, Zc4, Zc5, Zc6⟩, Zcf, Zcz⟩ := Z.out
  go_wp2_with fail
  refine (toBank a b L.length c O.length d (FL L) (OrdF O) k _ (F0.out.below BB1.out) (O0.out.below BB1.out)).mono ?_
  rintro e w2 ⟨rT0, rT1, rfl, RA, RB, hr1, hr2, E⟩
  clear Zc0 Zc1 Zc2 Zc3 Zc4 Zc5 Zc6 Zcf Zcz
  have Z' : Hid (Box7 w2 w.heap.size (.int .i64 k.day) (.slice a L.length c) (.slice b O.length d) (.int .i64 k.inn) (.int .i64 k.out) (.int .i64 k.posted) (.int .i64 k.missed)) := Z.out.kept E (by omega)
  have BB2 : Hid (Below w.heap.size w w2) := BB1.out.trans (E.mono BB1.out.size)
  have z2 : w1.heap.size ≤ w2.heap.size := E.size
  have T0 : Hid (Row w2 rT0 L.length L.length (FL L)) := RA
  have T1 : Hid (RowOrd w2 rT1 O.length O.length (OrdF O)) := RB
  clear Z
  have Z := Z'
  clear Z'
  clear E BB1 RA RB
  have yT0 : w1.heap.size ≤ rT0 ∧ rT0 < rT1 ∧ rT1 < w2.heap.size := ⟨hr1, hr2, T1.out.2.2.1⟩
  clear hr1 hr2
  go_wp2_with fail
  refine (SP.out _ _ _ L.length O.length (T0.out.fo hn') (T1.out.list hm')).mono ?_
  rintro e w3 ⟨vv, uu, rfl, AA, AB, E⟩
  have Z' : Hid (Box7 w3 w.heap.size (.int .i64 k.day) (.slice a L.length c) (.slice b O.length d) (.int .i64 k.inn) (.int .i64 k.out) (.int .i64 k.posted) (.int .i64 k.missed)) := Z.out.kept E (by omega)
  have T0' : Hid (Row w3 rT0 L.length L.length (FL L)) := T0.out.below E
  have T1' : Hid (RowOrd w3 rT1 O.length O.length (OrdF O)) := T1.out.below E
  have BB3 : Hid (Below w.heap.size w w3) := BB2.out.trans (E.mono BB2.out.size)
  have z3 : w2.heap.size ≤ w3.heap.size := E.size
  clear Z
  have Z := Z'
  clear Z'
  clear T0
  have T0 := T0'
  clear T0'
  clear T1
  have T1 := T1'
  clear T1'
  clear E BB2 
  obtain ⟨av0, cv0, hvv⟩ := AA.len
  subst hvv
  obtain ⟨bu0, du0, huu, _⟩ := AB.shape
  subst huu
  have J0 : Hid (AL w3 w2.heap.size (.slice av0 G.length cv0) G) := AA
  have J1 : Hid (OrdL w3 w2.heap.size (.slice bu0 H.length du0) H) := AB
  have LJ0 : Hid (∀ q, (Value.slice av0 G.length cv0).ownBlock = some q → w2.heap.size ≤ q ∧ q < w3.heap.size) := fun q hq => World.ownsRow.lt J0.out q hq
  have LJ1 : Hid (∀ q, (Value.slice bu0 H.length du0).ownBlock = some q → w2.heap.size ≤ q ∧ q < w3.heap.size) := fun q hq => World.ownsRow.lt J1.out q hq
  clear AA AB
  clear T0
  clear T1
  obtain ⟨w4, hw4⟩ : ∃ w4, w4 = w3.alloc (.cells #[.int .i64 K.day, .slice av0 G.length cv0, .slice bu0 H.length du0, .int .i64 K.inn, .int .i64 K.out, .int .i64 K.posted, .int .i64 K.missed] 38) := ⟨_, rfl⟩
  have E : Below w3.heap.size w3 w4 := by rw [hw4]; exact (Below.refl _ _).alloc (Nat.le_refl _) _
  have z4 : w4.heap.size = w3.heap.size + 1 := by rw [hw4]; simp
  have Z' : Hid (Box7 w4 w.heap.size (.int .i64 k.day) (.slice a L.length c) (.slice b O.length d) (.int .i64 k.inn) (.int .i64 k.out) (.int .i64 k.posted) (.int .i64 k.missed)) := Z.out.kept E (by omega)
  have J0' : Hid (AL w4 w2.heap.size (.slice av0 G.length cv0) G) := J0.out.kept E
  have J1' : Hid (OrdL w4 w2.heap.size (.slice bu0 H.length du0) H) := J1.out.kept E
  have BB4 : Hid (Below w.heap.size w w4) := BB3.out.trans (E.mono BB3.out.size)
  have JB : Hid (Box7 w4 w3.heap.size (.int .i64 K.day) (.slice av0 G.length cv0) (.slice bu0 H.length du0) (.int .i64 K.inn) (.int .i64 K.out) (.int .i64 K.posted) (.int .i64 K.missed)) := by show Box7 _ _ _ _ _ _ _ _ _; rw [hw4]; exact Box7.new w3 _ _ _ _ _ _ _ 38
  clear Z
  have Z := Z'
  clear Z'
  clear J0
  have J0 := J0'
  clear J0'
  clear J1
  have J1 := J1'
  clear J1'
  have Hw4 : Hid (w4 = _) := hw4
  clear E BB3 hw4
  go_upto_region 6 with fail
  rw [← Hw4.out]
  clear Hw4
  obtain ⟨⟨Zc0, Zc1, Zc2, Zc3, Zc4, Zc5, Zc6⟩, Zcf, Zcz⟩ := Z.out
  go_wp2_with fail
  refine (toBank a b L.length c O.length d (FL L) (OrdF O) k _ (F0.out.below BB4.out) (O0.out.below BB4.out)).mono ?_
  rintro e w5 ⟨rX0, rX1, rfl, RA, RB, hr1, hr2, E⟩
  clear Zc0 Zc1 Zc2 Zc3 Zc4 Zc5 Zc6 Zcf Zcz
  have Z' : Hid (Box7 w5 w.heap.size (.int .i64 k.day) (.slice a L.length c) (.slice b O.length d) (.int .i64 k.inn) (.int .i64 k.out) (.int .i64 k.posted) (.int .i64 k.missed)) := Z.out.kept E (by omega)
  have J0' : Hid (AL w5 w2.heap.size (.slice av0 G.length cv0) G) := J0.out.kept E
  have J1' : Hid (OrdL w5 w2.heap.size (.slice bu0 H.length du0) H) := J1.out.kept E
  have JB' : Hid (Box7 w5 w3.heap.size (.int .i64 K.day) (.slice av0 G.length cv0) (.slice bu0 H.length du0) (.int .i64 K.inn) (.int .i64 K.out) (.int .i64 K.posted) (.int .i64 K.missed)) := JB.out.kept E (by omega)
  have BB5 : Hid (Below w.heap.size w w5) := BB4.out.trans (E.mono BB4.out.size)
  have z5 : w4.heap.size ≤ w5.heap.size := E.size
  have X0 : Hid (Row w5 rX0 L.length L.length (FL L)) := RA
  have X1 : Hid (RowOrd w5 rX1 O.length O.length (OrdF O)) := RB
  clear Z
  have Z := Z'
  clear Z'
  clear J0
  have J0 := J0'
  clear J0'
  clear J1
  have J1 := J1'
  clear J1'
  clear JB
  have JB := JB'
  clear JB'
  clear E BB4 RA RB
  have yX0 : w4.heap.size ≤ rX0 ∧ rX0 < rX1 ∧ rX1 < w5.heap.size := ⟨hr1, hr2, X1.out.2.2.1⟩
  clear hr1 hr2
  obtain ⟨w6, hw6⟩ : ∃ w6, w6 = w5.alloc (.cells #[.int .i64 k.day, .slice (some ⟨rX0, 0, none⟩) L.length L.length, .slice (some ⟨rX1, 0, none⟩) O.length O.length, .int .i64 k.inn, .int .i64 k.out, .int .i64 k.posted, .int .i64 k.missed] 38) := ⟨_, rfl⟩
  have E : Below w5.heap.size w5 w6 := by rw [hw6]; exact (Below.refl _ _).alloc (Nat.le_refl _) _
  have z6 : w6.heap.size = w5.heap.size + 1 := by rw [hw6]; simp
  have Z' : Hid (Box7 w6 w.heap.size (.int .i64 k.day) (.slice a L.length c) (.slice b O.length d) (.int .i64 k.inn) (.int .i64 k.out) (.int .i64 k.posted) (.int .i64 k.missed)) := Z.out.kept E (by omega)
  have J0' : Hid (AL w6 w2.heap.size (.slice av0 G.length cv0) G) := J0.out.kept E
  have J1' : Hid (OrdL w6 w2.heap.size (.slice bu0 H.length du0) H) := J1.out.kept E
  have JB' : Hid (Box7 w6 w3.heap.size (.int .i64 K.day) (.slice av0 G.length cv0) (.slice bu0 H.length du0) (.int .i64 K.inn) (.int .i64 K.out) (.int .i64 K.posted) (.int .i64 K.missed)) := JB.out.kept E (by omega)
  have X0' : Hid (Row w6 rX0 L.length L.length (FL L)) := X0.out.below E
  have X1' : Hid (RowOrd w6 rX1 O.length O.length (OrdF O)) := X1.out.below E
  have BB6 : Hid (Below w.heap.size w w6) := BB5.out.trans (E.mono BB5.out.size)
  have XB : Hid (Box7 w6 w5.heap.size (.int .i64 k.day) (.slice (some ⟨rX0, 0, none⟩) L.length L.length) (.slice (some ⟨rX1, 0, none⟩) O.length O.length) (.int .i64 k.inn) (.int .i64 k.out) (.int .i64 k.posted) (.int .i64 k.missed)) := by show Box7 _ _ _ _ _ _ _ _ _; rw [hw6]; exact Box7.new w5 _ _ _ _ _ _ _ 38
  clear Z
  have Z := Z'
  clear Z'
  clear J0
  have J0 := J0'
  clear J0'
  clear J1
  have J1 := J1'
  clear J1'
  clear JB
  have JB := JB'
  clear JB'
  clear X0
  have X0 := X0'
  clear X0'
  clear X1
  have X1 := X1'
  clear X1'
  have Hw6 : Hid (w6 = _) := hw6
  clear E BB5 hw6
  go_upto_region 7 with fail
  rw [← Hw6.out]
  clear Hw6
  obtain ⟨⟨XBc0, XBc1, XBc2, XBc3, XBc4, XBc5, XBc6⟩, XBcf, XBcz⟩ := XB.out
  go_wp2_with fail
  refine (IM.out _ _ _ L.length O.length (X0.out.fo hn') (X1.out.list hm') (G0.out.below BB6.out)).mono ?_
  rintro e w7 ⟨vv, uu, rfl, AA, AB, E⟩
  clear XBc0 XBc1 XBc2 XBc3 XBc4 XBc5 XBc6 XBcf XBcz
  have Z' : Hid (Box7 w7 w.heap.size (.int .i64 k.day) (.slice a L.length c) (.slice b O.length d) (.int .i64 k.inn) (.int .i64 k.out) (.int .i64 k.posted) (.int .i64 k.missed)) := Z.out.kept E (by omega)
  have J0' : Hid (AL w7 w2.heap.size (.slice av0 G.length cv0) G) := J0.out.kept E
  have J1' : Hid (OrdL w7 w2.heap.size (.slice bu0 H.length du0) H) := J1.out.kept E
  have JB' : Hid (Box7 w7 w3.heap.size (.int .i64 K.day) (.slice av0 G.length cv0) (.slice bu0 H.length du0) (.int .i64 K.inn) (.int .i64 K.out) (.int .i64 K.posted) (.int .i64 K.missed)) := JB.out.kept E (by omega)
  have X0' : Hid (Row w7 rX0 L.length L.length (FL L)) := X0.out.below E
  have X1' : Hid (RowOrd w7 rX1 O.length O.length (OrdF O)) := X1.out.below E
  have XB' : Hid (Box7 w7 w5.heap.size (.int .i64 k.day) (.slice (some ⟨rX0, 0, none⟩) L.length L.length) (.slice (some ⟨rX1, 0, none⟩) O.length O.length) (.int .i64 k.inn) (.int .i64 k.out) (.int .i64 k.posted) (.int .i64 k.missed)) := XB.out.kept E (by omega)
  have BB7 : Hid (Below w.heap.size w w7) := BB6.out.trans (E.mono BB6.out.size)
  have z7 : w6.heap.size ≤ w7.heap.size := E.size
  clear Z
  have Z := Z'
  clear Z'
  clear J0
  have J0 := J0'
  clear J0'
  clear J1
  have J1 := J1'
  clear J1'
  clear JB
  have JB := JB'
  clear JB'
  clear X0
  have X0 := X0'
  clear X0'
  clear X1
  have X1 := X1'
  clear X1'
  clear XB
  have XB := XB'
  clear XB'
  clear E BB6 
  obtain ⟨av1, cv1, hvv⟩ := AA.len
  subst hvv
  obtain ⟨bu1, du1, huu, _⟩ := AB.shape
  subst huu
  have K0 : Hid (AL w7 w6.heap.size (.slice av1 G.length cv1) G) := AA
  have K1 : Hid (OrdL w7 w6.heap.size (.slice bu1 H.length du1) H) := AB
  have LK0 : Hid (∀ q, (Value.slice av1 G.length cv1).ownBlock = some q → w6.heap.size ≤ q ∧ q < w7.heap.size) := fun q hq => World.ownsRow.lt K0.out q hq
  have LK1 : Hid (∀ q, (Value.slice bu1 H.length du1).ownBlock = some q → w6.heap.size ≤ q ∧ q < w7.heap.size) := fun q hq => World.ownsRow.lt K1.out q hq
  clear AA AB
  obtain ⟨w8, hw8⟩ : ∃ w8, w8 = w7.alloc (.cells #[.int .i64 K.day, .slice av1 G.length cv1, .slice bu1 H.length du1, .int .i64 K.inn, .int .i64 K.out, .int .i64 K.posted, .int .i64 K.missed] 38) := ⟨_, rfl⟩
  have E : Below w7.heap.size w7 w8 := by rw [hw8]; exact (Below.refl _ _).alloc (Nat.le_refl _) _
  have z8 : w8.heap.size = w7.heap.size + 1 := by rw [hw8]; simp
  have Z' : Hid (Box7 w8 w.heap.size (.int .i64 k.day) (.slice a L.length c) (.slice b O.length d) (.int .i64 k.inn) (.int .i64 k.out) (.int .i64 k.posted) (.int .i64 k.missed)) := Z.out.kept E (by omega)
  have J0' : Hid (AL w8 w2.heap.size (.slice av0 G.length cv0) G) := J0.out.kept E
  have J1' : Hid (OrdL w8 w2.heap.size (.slice bu0 H.length du0) H) := J1.out.kept E
  have JB' : Hid (Box7 w8 w3.heap.size (.int .i64 K.day) (.slice av0 G.length cv0) (.slice bu0 H.length du0) (.int .i64 K.inn) (.int .i64 K.out) (.int .i64 K.posted) (.int .i64 K.missed)) := JB.out.kept E (by omega)
  have X0' : Hid (Row w8 rX0 L.length L.length (FL L)) := X0.out.below E
  have X1' : Hid (RowOrd w8 rX1 O.length O.length (OrdF O)) := X1.out.below E
  have XB' : Hid (Box7 w8 w5.heap.size (.int .i64 k.day) (.slice (some ⟨rX0, 0, none⟩) L.length L.length) (.slice (some ⟨rX1, 0, none⟩) O.length O.length) (.int .i64 k.inn) (.int .i64 k.out) (.int .i64 k.posted) (.int .i64 k.missed)) := XB.out.kept E (by omega)
  have K0' : Hid (AL w8 w6.heap.size (.slice av1 G.length cv1) G) := K0.out.kept E
  have K1' : Hid (OrdL w8 w6.heap.size (.slice bu1 H.length du1) H) := K1.out.kept E
  have BB8 : Hid (Below w.heap.size w w8) := BB7.out.trans (E.mono BB7.out.size)
  have KB : Hid (Box7 w8 w7.heap.size (.int .i64 K.day) (.slice av1 G.length cv1) (.slice bu1 H.length du1) (.int .i64 K.inn) (.int .i64 K.out) (.int .i64 K.posted) (.int .i64 K.missed)) := by show Box7 _ _ _ _ _ _ _ _ _; rw [hw8]; exact Box7.new w7 _ _ _ _ _ _ _ 38
  clear Z
  have Z := Z'
  clear Z'
  clear J0
  have J0 := J0'
  clear J0'
  clear J1
  have J1 := J1'
  clear J1'
  clear JB
  have JB := JB'
  clear JB'
  clear X0
  have X0 := X0'
  clear X0'
  clear X1
  have X1 := X1'
  clear X1'
  clear XB
  have XB := XB'
  clear XB'
  clear K0
  have K0 := K0'
  clear K0'
  clear K1
  have K1 := K1'
  clear K1'
  have Hw8 : Hid (w8 = _) := hw8
  clear E BB7 hw8
  go_upto_region 8 with fail
  rw [← Hw8.out]
  clear Hw8
  obtain ⟨⟨KBc0, KBc1, KBc2, KBc3, KBc4, KBc5, KBc6⟩, KBcf, KBcz⟩ := KB.out
  obtain ⟨⟨JBc0, JBc1, JBc2, JBc3, JBc4, JBc5, JBc6⟩, JBcf, JBcz⟩ := JB.out
  go_wp2_with fail
  refine (EQ.out _ _ _ _ _ _ _ _ _ K0.out J0.out K1.out J1.out).mono ?_
  rintro e w9 ⟨rfl, E⟩
  clear KBc0 KBc1 KBc2 KBc3 KBc4 KBc5 KBc6 KBcf KBcz
  clear JBc0 JBc1 JBc2 JBc3 JBc4 JBc5 JBc6 JBcf JBcz
  have Z' : Hid (Box7 w9 w.heap.size (.int .i64 k.day) (.slice a L.length c) (.slice b O.length d) (.int .i64 k.inn) (.int .i64 k.out) (.int .i64 k.posted) (.int .i64 k.missed)) := Z.out.kept E (by omega)
  have J0' : Hid (AL w9 w2.heap.size (.slice av0 G.length cv0) G) := J0.out.kept E
  have J1' : Hid (OrdL w9 w2.heap.size (.slice bu0 H.length du0) H) := J1.out.kept E
  have JB' : Hid (Box7 w9 w3.heap.size (.int .i64 K.day) (.slice av0 G.length cv0) (.slice bu0 H.length du0) (.int .i64 K.inn) (.int .i64 K.out) (.int .i64 K.posted) (.int .i64 K.missed)) := JB.out.kept E (by omega)
  have X0' : Hid (Row w9 rX0 L.length L.length (FL L)) := X0.out.below E
  have X1' : Hid (RowOrd w9 rX1 O.length O.length (OrdF O)) := X1.out.below E
  have XB' : Hid (Box7 w9 w5.heap.size (.int .i64 k.day) (.slice (some ⟨rX0, 0, none⟩) L.length L.length) (.slice (some ⟨rX1, 0, none⟩) O.length O.length) (.int .i64 k.inn) (.int .i64 k.out) (.int .i64 k.posted) (.int .i64 k.missed)) := XB.out.kept E (by omega)
  have K0' : Hid (AL w9 w6.heap.size (.slice av1 G.length cv1) G) := K0.out.kept E
  have K1' : Hid (OrdL w9 w6.heap.size (.slice bu1 H.length du1) H) := K1.out.kept E
  have KB' : Hid (Box7 w9 w7.heap.size (.int .i64 K.day) (.slice av1 G.length cv1) (.slice bu1 H.length du1) (.int .i64 K.inn) (.int .i64 K.out) (.int .i64 K.posted) (.int .i64 K.missed)) := KB.out.kept E (by omega)
  have BB9 : Hid (Below w.heap.size w w9) := BB8.out.trans (E.mono BB8.out.size)
  have z9 : w8.heap.size ≤ w9.heap.size := E.size
  clear Z
  have Z := Z'
  clear Z'
  clear J0
  have J0 := J0'
  clear J0'
  clear J1
  have J1 := J1'
  clear J1'
  clear JB
  have JB := JB'
  clear JB'
  clear X0
  have X0 := X0'
  clear X0'
  clear X1
  have X1 := X1'
  clear X1'
  clear XB
  have XB := XB'
  clear XB'
  clear K0
  have K0 := K0'
  clear K0'
  clear K1
  have K1 := K1'
  clear K1'
  clear KB
  have KB := KB'
  clear KB'
  clear E BB8 
  go_upto_region 10 with fail
  obtain ⟨w10, hw10⟩ : ∃ w10, w10 = w9.drew := ⟨_, rfl⟩
  have E : Below w9.heap.size w9 w10 := by have BR := Below.refl w9.heap.size w9; rw [hw10]; exact ⟨BR.os, BR.tape, BR.output, BR.size, BR.block⟩
  have z10 : w10.heap.size = w9.heap.size := by rw [hw10]; rfl
  have SA : Hid ((w9.cell? ⟨w5.heap.size, 0, none⟩ = some (.int .i64 k.day) ∧ w9.cell? ⟨w5.heap.size, 1, none⟩ = some (.slice (some ⟨rX0, 0, none⟩) L.length L.length) ∧ w9.cell? ⟨w5.heap.size, 2, none⟩ = some (.slice (some ⟨rX1, 0, none⟩) O.length O.length) ∧ w9.cell? ⟨w5.heap.size, 3, none⟩ = some (.int .i64 k.inn) ∧ w9.cell? ⟨w5.heap.size, 4, none⟩ = some (.int .i64 k.out) ∧ w9.cell? ⟨w5.heap.size, 5, none⟩ = some (.int .i64 k.posted) ∧ w9.cell? ⟨w5.heap.size, 6, none⟩ = some (.int .i64 k.missed)) ∧ (w9.cell? ⟨w.heap.size, 0, none⟩ = some (.int .i64 k.day) ∧ w9.cell? ⟨w.heap.size, 1, none⟩ = some (.slice a L.length c) ∧ w9.cell? ⟨w.heap.size, 2, none⟩ = some (.slice b O.length d) ∧ w9.cell? ⟨w.heap.size, 3, none⟩ = some (.int .i64 k.inn) ∧ w9.cell? ⟨w.heap.size, 4, none⟩ = some (.int .i64 k.out) ∧ w9.cell? ⟨w.heap.size, 5, none⟩ = some (.int .i64 k.posted) ∧ w9.cell? ⟨w.heap.size, 6, none⟩ = some (.int .i64 k.missed))) := ⟨XB.out.1, Z.out.1⟩
  have Z' : Hid (Box7 w10 w.heap.size (.int .i64 k.day) (.slice a L.length c) (.slice b O.length d) (.int .i64 k.inn) (.int .i64 k.out) (.int .i64 k.posted) (.int .i64 k.missed)) := Z.out.kept E (by omega)
  have J0' : Hid (AL w10 w2.heap.size (.slice av0 G.length cv0) G) := J0.out.kept E
  have J1' : Hid (OrdL w10 w2.heap.size (.slice bu0 H.length du0) H) := J1.out.kept E
  have JB' : Hid (Box7 w10 w3.heap.size (.int .i64 K.day) (.slice av0 G.length cv0) (.slice bu0 H.length du0) (.int .i64 K.inn) (.int .i64 K.out) (.int .i64 K.posted) (.int .i64 K.missed)) := JB.out.kept E (by omega)
  have X0' : Hid (Row w10 rX0 L.length L.length (FL L)) := X0.out.below E
  have X1' : Hid (RowOrd w10 rX1 O.length O.length (OrdF O)) := X1.out.below E
  have XB' : Hid (Box7 w10 w5.heap.size (.int .i64 k.day) (.slice (some ⟨rX0, 0, none⟩) L.length L.length) (.slice (some ⟨rX1, 0, none⟩) O.length O.length) (.int .i64 k.inn) (.int .i64 k.out) (.int .i64 k.posted) (.int .i64 k.missed)) := XB.out.kept E (by omega)
  have K0' : Hid (AL w10 w6.heap.size (.slice av1 G.length cv1) G) := K0.out.kept E
  have K1' : Hid (OrdL w10 w6.heap.size (.slice bu1 H.length du1) H) := K1.out.kept E
  have KB' : Hid (Box7 w10 w7.heap.size (.int .i64 K.day) (.slice av1 G.length cv1) (.slice bu1 H.length du1) (.int .i64 K.inn) (.int .i64 K.out) (.int .i64 K.posted) (.int .i64 K.missed)) := KB.out.kept E (by omega)
  have BB10 : Hid (Below w.heap.size w w10) := BB9.out.trans (E.mono BB9.out.size)
  clear Z
  have Z := Z'
  clear Z'
  clear J0
  have J0 := J0'
  clear J0'
  clear J1
  have J1 := J1'
  clear J1'
  clear JB
  have JB := JB'
  clear JB'
  clear X0
  have X0 := X0'
  clear X0'
  clear X1
  have X1 := X1'
  clear X1'
  clear XB
  have XB := XB'
  clear XB'
  clear K0
  have K0 := K0'
  clear K0'
  clear K1
  have K1 := K1'
  clear K1'
  clear KB
  have KB := KB'
  clear KB'
  have Hw10 : Hid (w10 = w9.drew) := hw10
  clear E BB9 hw10
  have TB : Hid (∀ B, B = w10 → Calls Tryz.prog 42 #[.agg #[.int .i64 k.day, .slice a L.length c, .slice b O.length d, .int .i64 k.inn, .int .i64 k.out, .int .i64 k.posted, .int .i64 k.missed]] B fun e w' => ∃ R1 R2, e = .returned (.agg #[.int .i64 k.day, .slice (some ⟨R1, 0, none⟩) L.length L.length, .slice (some ⟨R2, 0, none⟩) O.length O.length, .int .i64 k.inn, .int .i64 k.out, .int .i64 k.posted, .int .i64 k.missed]) ∧ Row w' R1 L.length L.length (FL L) ∧ RowOrd w' R2 O.length O.length (OrdF O) ∧ Below w10.heap.size w10 w') := fun B hB => by subst hB; exact (toBank a b L.length c O.length d (FL L) (OrdF O) k _ (F0.out.below BB10.out) (O0.out.below BB10.out)).mono fun e w' ⟨R1, R2, h1, h2, h3, _, _, h4⟩ => ⟨R1, R2, h1, h2, h3, h4⟩
  have hXBl : w5.heap.size < w10.heap.size := by omega
  have hZl : w.heap.size < w10.heap.size := by omega
  go_region_held3 (fun V => (V.cell? ⟨w5.heap.size, 0, none⟩ = some (.int .i64 k.day) ∧ V.cell? ⟨w5.heap.size, 1, none⟩ = some (.slice (some ⟨rX0, 0, none⟩) L.length L.length) ∧ V.cell? ⟨w5.heap.size, 2, none⟩ = some (.slice (some ⟨rX1, 0, none⟩) O.length O.length) ∧ V.cell? ⟨w5.heap.size, 3, none⟩ = some (.int .i64 k.inn) ∧ V.cell? ⟨w5.heap.size, 4, none⟩ = some (.int .i64 k.out) ∧ V.cell? ⟨w5.heap.size, 5, none⟩ = some (.int .i64 k.posted) ∧ V.cell? ⟨w5.heap.size, 6, none⟩ = some (.int .i64 k.missed)) ∧ (V.cell? ⟨w.heap.size, 0, none⟩ = some (.int .i64 k.day) ∧ V.cell? ⟨w.heap.size, 1, none⟩ = some (.slice a L.length c) ∧ V.cell? ⟨w.heap.size, 2, none⟩ = some (.slice b O.length d) ∧ V.cell? ⟨w.heap.size, 3, none⟩ = some (.int .i64 k.inn) ∧ V.cell? ⟨w.heap.size, 4, none⟩ = some (.int .i64 k.out) ∧ V.cell? ⟨w.heap.size, 5, none⟩ = some (.int .i64 k.posted) ∧ V.cell? ⟨w.heap.size, 6, none⟩ = some (.int .i64 k.missed))) (first | exact SA.out | exact ⟨(XB.out.kept E hXBl).1, (Z.out.kept E hZl).1⟩ | exact ⟨((XB.out.kept E hXBl).kept E2 (Nat.lt_of_lt_of_le hXBl E.size)).1, ((Z.out.kept E hZl).kept E2 (Nat.lt_of_lt_of_le hZl E.size)).1⟩)
    (first
      | (go_at_call 42; refine (TB.out _ Hw10.out.symm).mono ?_; rintro e w11 ⟨R1, R2, rfl, RA, RB, E⟩)
      | (go_at_call 43; refine (eqBank_same _ _ _ _ L.length L.length L.length O.length O.length O.length (FL L) (OrdF O) k _ ((X0.out.below E).fo hn') (RA.fo hn') ((X1.out.below E).list hm') (RB.list hm')).mono ?_; rintro e w12 ⟨rfl, E2⟩))
  have E3 : Below w10.heap.size w10 w12 := E.trans (E2.mono E.size)
  have Z' : Hid (Box7 w12 w.heap.size (.int .i64 k.day) (.slice a L.length c) (.slice b O.length d) (.int .i64 k.inn) (.int .i64 k.out) (.int .i64 k.posted) (.int .i64 k.missed)) := Z.out.kept E3 (by omega)
  have J0' : Hid (AL w12 w2.heap.size (.slice av0 G.length cv0) G) := J0.out.kept E3
  have J1' : Hid (OrdL w12 w2.heap.size (.slice bu0 H.length du0) H) := J1.out.kept E3
  have JB' : Hid (Box7 w12 w3.heap.size (.int .i64 K.day) (.slice av0 G.length cv0) (.slice bu0 H.length du0) (.int .i64 K.inn) (.int .i64 K.out) (.int .i64 K.posted) (.int .i64 K.missed)) := JB.out.kept E3 (by omega)
  have X0' : Hid (Row w12 rX0 L.length L.length (FL L)) := X0.out.below E3
  have X1' : Hid (RowOrd w12 rX1 O.length O.length (OrdF O)) := X1.out.below E3
  have XB' : Hid (Box7 w12 w5.heap.size (.int .i64 k.day) (.slice (some ⟨rX0, 0, none⟩) L.length L.length) (.slice (some ⟨rX1, 0, none⟩) O.length O.length) (.int .i64 k.inn) (.int .i64 k.out) (.int .i64 k.posted) (.int .i64 k.missed)) := XB.out.kept E3 (by omega)
  have K0' : Hid (AL w12 w6.heap.size (.slice av1 G.length cv1) G) := K0.out.kept E3
  have K1' : Hid (OrdL w12 w6.heap.size (.slice bu1 H.length du1) H) := K1.out.kept E3
  have KB' : Hid (Box7 w12 w7.heap.size (.int .i64 K.day) (.slice av1 G.length cv1) (.slice bu1 H.length du1) (.int .i64 K.inn) (.int .i64 K.out) (.int .i64 K.posted) (.int .i64 K.missed)) := KB.out.kept E3 (by omega)
  have BB12 : Hid (Below w.heap.size w w12) := BB10.out.trans (E3.mono BB10.out.size)
  have z12 : w10.heap.size ≤ w12.heap.size := E3.size
  clear Z
  have Z := Z'
  clear Z'
  clear J0
  have J0 := J0'
  clear J0'
  clear J1
  have J1 := J1'
  clear J1'
  clear JB
  have JB := JB'
  clear JB'
  clear X0
  have X0 := X0'
  clear X0'
  clear X1
  have X1 := X1'
  clear X1'
  clear XB
  have XB := XB'
  clear XB'
  clear K0
  have K0 := K0'
  clear K0'
  clear K1
  have K1 := K1'
  clear K1'
  clear KB
  have KB := KB'
  clear KB'
  clear E E2 E3 RA RB SA TB Hw10 BB10
  have C0 : Hid (Cells8 w12 rX0 (L.length * 8)) := ⟨X0.out.1, X0.out.2.1, X0.out.2.2.1⟩
  have C1 : Hid (Cells8 w12 rX1 (O.length * 7)) := ⟨X1.out.1, X1.out.2.1, X1.out.2.2.1⟩
  clear X0
  clear X1
  obtain ⟨⟨XBc0, XBc1, XBc2, XBc3, XBc4, XBc5, XBc6⟩, XBcf, XBcz⟩ := XB.out
  go_wp2_with fail
  refine (markBankRow rX0 rX1 L.length L.length O.length O.length k _ hn' hm' C0.out C1.out (by omega)).mono ?_
  rintro e w13 ⟨rfl, wm, E1, E2⟩
  clear XBc0 XBc1 XBc2 XBc3 XBc4 XBc5 XBc6 XBcf XBcz
  have J0' : Hid (AL w13 w2.heap.size (.slice av0 G.length cv0) G) := (J0.out.past E1 (fun q h1 h2 => by have := LJ0.out q h1; simp at h2; omega)).past E2 (fun q h1 h2 => by have := LJ0.out q h1; simp at h2; omega)
  have J1' : Hid (OrdL w13 w2.heap.size (.slice bu0 H.length du0) H) := (J1.out.past E1 (fun q h1 h2 => by have := LJ1.out q h1; simp at h2; omega)).past E2 (fun q h1 h2 => by have := LJ1.out q h1; simp at h2; omega)
  have K0' : Hid (AL w13 w6.heap.size (.slice av1 G.length cv1) G) := (K0.out.past E1 (fun q h1 h2 => by have := LK0.out q h1; simp at h2; omega)).past E2 (fun q h1 h2 => by have := LK0.out q h1; simp at h2; omega)
  have K1' : Hid (OrdL w13 w6.heap.size (.slice bu1 H.length du1) H) := (K1.out.past E1 (fun q h1 h2 => by have := LK1.out q h1; simp at h2; omega)).past E2 (fun q h1 h2 => by have := LK1.out q h1; simp at h2; omega)
  have Z' : Hid (Box7 w13 w.heap.size (.int .i64 k.day) (.slice a L.length c) (.slice b O.length d) (.int .i64 k.inn) (.int .i64 k.out) (.int .i64 k.posted) (.int .i64 k.missed)) := (Z.out.same (E1.block _ Z.out.2.2 (by simp; omega))).same (E2.block _ (Nat.lt_of_lt_of_le Z.out.2.2 E1.size) (by simp; omega))
  have JB' : Hid (Box7 w13 w3.heap.size (.int .i64 K.day) (.slice av0 G.length cv0) (.slice bu0 H.length du0) (.int .i64 K.inn) (.int .i64 K.out) (.int .i64 K.posted) (.int .i64 K.missed)) := (JB.out.same (E1.block _ JB.out.2.2 (by simp; omega))).same (E2.block _ (Nat.lt_of_lt_of_le JB.out.2.2 E1.size) (by simp; omega))
  have XB' : Hid (Box7 w13 w5.heap.size (.int .i64 k.day) (.slice (some ⟨rX0, 0, none⟩) L.length L.length) (.slice (some ⟨rX1, 0, none⟩) O.length O.length) (.int .i64 k.inn) (.int .i64 k.out) (.int .i64 k.posted) (.int .i64 k.missed)) := (XB.out.same (E1.block _ XB.out.2.2 (by simp; omega))).same (E2.block _ (Nat.lt_of_lt_of_le XB.out.2.2 E1.size) (by simp; omega))
  have KB' : Hid (Box7 w13 w7.heap.size (.int .i64 K.day) (.slice av1 G.length cv1) (.slice bu1 H.length du1) (.int .i64 K.inn) (.int .i64 K.out) (.int .i64 K.posted) (.int .i64 K.missed)) := (KB.out.same (E1.block _ KB.out.2.2 (by simp; omega))).same (E2.block _ (Nat.lt_of_lt_of_le KB.out.2.2 E1.size) (by simp; omega))
  have BB13 : Hid (Below w.heap.size w w13) := (BB12.out.grown E1 BB12.out.size (fun q hq => by simp at hq; omega)).grown E2 (Nat.le_trans BB12.out.size E1.size) (fun q hq => by simp at hq; omega)
  have z13 : w12.heap.size ≤ w13.heap.size := Nat.le_trans E1.size E2.size
  clear Z
  have Z := Z'
  clear Z'
  clear J0
  have J0 := J0'
  clear J0'
  clear J1
  have J1 := J1'
  clear J1'
  clear JB
  have JB := JB'
  clear JB'
  clear XB
  have XB := XB'
  clear XB'
  clear K0
  have K0 := K0'
  clear K0'
  clear K1
  have K1 := K1'
  clear K1'
  clear KB
  have KB := KB'
  clear KB'
  clear E1 E2 BB12 C0 C1
  have hk8 : decide (1 + 8 * (L.length : Int) + 7 * (O.length : Int) < 0) = false := by simp; omega
  obtain ⟨⟨KBc0, KBc1, KBc2, KBc3, KBc4, KBc5, KBc6⟩, KBcf, KBcz⟩ := KB.out
  obtain ⟨⟨JBc0, JBc1, JBc2, JBc3, JBc4, JBc5, JBc6⟩, JBcf, JBcz⟩ := JB.out
  go_wp2_with fail
  refine (EQ.out _ _ _ _ _ _ _ _ _ K0.out J0.out K1.out J1.out).mono ?_
  rintro e w14 ⟨rfl, E⟩
  clear KBc0 KBc1 KBc2 KBc3 KBc4 KBc5 KBc6 KBcf KBcz
  clear JBc0 JBc1 JBc2 JBc3 JBc4 JBc5 JBc6 JBcf JBcz
  have Z' : Hid (Box7 w14 w.heap.size (.int .i64 k.day) (.slice a L.length c) (.slice b O.length d) (.int .i64 k.inn) (.int .i64 k.out) (.int .i64 k.posted) (.int .i64 k.missed)) := Z.out.kept E (by omega)
  have J0' : Hid (AL w14 w2.heap.size (.slice av0 G.length cv0) G) := J0.out.kept E
  have J1' : Hid (OrdL w14 w2.heap.size (.slice bu0 H.length du0) H) := J1.out.kept E
  have JB' : Hid (Box7 w14 w3.heap.size (.int .i64 K.day) (.slice av0 G.length cv0) (.slice bu0 H.length du0) (.int .i64 K.inn) (.int .i64 K.out) (.int .i64 K.posted) (.int .i64 K.missed)) := JB.out.kept E (by omega)
  have XB' : Hid (Box7 w14 w5.heap.size (.int .i64 k.day) (.slice (some ⟨rX0, 0, none⟩) L.length L.length) (.slice (some ⟨rX1, 0, none⟩) O.length O.length) (.int .i64 k.inn) (.int .i64 k.out) (.int .i64 k.posted) (.int .i64 k.missed)) := XB.out.kept E (by omega)
  have K0' : Hid (AL w14 w6.heap.size (.slice av1 G.length cv1) G) := K0.out.kept E
  have K1' : Hid (OrdL w14 w6.heap.size (.slice bu1 H.length du1) H) := K1.out.kept E
  have KB' : Hid (Box7 w14 w7.heap.size (.int .i64 K.day) (.slice av1 G.length cv1) (.slice bu1 H.length du1) (.int .i64 K.inn) (.int .i64 K.out) (.int .i64 K.posted) (.int .i64 K.missed)) := KB.out.kept E (by omega)
  have BB14 : Hid (Below w.heap.size w w14) := BB13.out.trans (E.mono BB13.out.size)
  have z14 : w13.heap.size ≤ w14.heap.size := E.size
  clear Z
  have Z := Z'
  clear Z'
  clear J0
  have J0 := J0'
  clear J0'
  clear J1
  have J1 := J1'
  clear J1'
  clear JB
  have JB := JB'
  clear JB'
  clear XB
  have XB := XB'
  clear XB'
  clear K0
  have K0 := K0'
  clear K0'
  clear K1
  have K1 := K1'
  clear K1'
  clear KB
  have KB := KB'
  clear KB'
  clear E BB13 
  obtain ⟨⟨KBc0, KBc1, KBc2, KBc3, KBc4, KBc5, KBc6⟩, KBcf, KBcz⟩ := KB.out
  go_wp2_with fail
  refine (markBankOwn _ _ (.slice av1 G.length cv1) (.slice bu1 H.length du1) G H K _ hGl hHl K0.out K1.out (fun q hq => by have := LK0.out q hq; omega)).mono ?_
  rintro e w15 ⟨rfl, ⟨M, hM1, hM2, A1⟩, ⟨P, hP1, hP2, A2⟩, wm2, E1, E2⟩
  clear KBc0 KBc1 KBc2 KBc3 KBc4 KBc5 KBc6 KBcf KBcz
  have J0' : Hid (AL w15 w2.heap.size (.slice av0 G.length cv0) G) := (J0.out.past E1 (fun q h1 h2 => by have := LJ0.out q h1; have := LK0.out q h2; omega)).past E2 (fun q h1 h2 => by have := LJ0.out q h1; have := LK1.out q h2; omega)
  have J1' : Hid (OrdL w15 w2.heap.size (.slice bu0 H.length du0) H) := (J1.out.past E1 (fun q h1 h2 => by have := LJ1.out q h1; have := LK0.out q h2; omega)).past E2 (fun q h1 h2 => by have := LJ1.out q h1; have := LK1.out q h2; omega)
  have Z' : Hid (Box7 w15 w.heap.size (.int .i64 k.day) (.slice a L.length c) (.slice b O.length d) (.int .i64 k.inn) (.int .i64 k.out) (.int .i64 k.posted) (.int .i64 k.missed)) := (Z.out.same (E1.block _ Z.out.2.2 (fun e => by have := LK0.out _ e.symm; omega))).same (E2.block _ (Nat.lt_of_lt_of_le Z.out.2.2 E1.size) (fun e => by have := LK1.out _ e.symm; omega))
  have JB' : Hid (Box7 w15 w3.heap.size (.int .i64 K.day) (.slice av0 G.length cv0) (.slice bu0 H.length du0) (.int .i64 K.inn) (.int .i64 K.out) (.int .i64 K.posted) (.int .i64 K.missed)) := (JB.out.same (E1.block _ JB.out.2.2 (fun e => by have := LK0.out _ e.symm; omega))).same (E2.block _ (Nat.lt_of_lt_of_le JB.out.2.2 E1.size) (fun e => by have := LK1.out _ e.symm; omega))
  have XB' : Hid (Box7 w15 w5.heap.size (.int .i64 k.day) (.slice (some ⟨rX0, 0, none⟩) L.length L.length) (.slice (some ⟨rX1, 0, none⟩) O.length O.length) (.int .i64 k.inn) (.int .i64 k.out) (.int .i64 k.posted) (.int .i64 k.missed)) := (XB.out.same (E1.block _ XB.out.2.2 (fun e => by have := LK0.out _ e.symm; omega))).same (E2.block _ (Nat.lt_of_lt_of_le XB.out.2.2 E1.size) (fun e => by have := LK1.out _ e.symm; omega))
  have KB' : Hid (Box7 w15 w7.heap.size (.int .i64 K.day) (.slice av1 G.length cv1) (.slice bu1 H.length du1) (.int .i64 K.inn) (.int .i64 K.out) (.int .i64 K.posted) (.int .i64 K.missed)) := (KB.out.same (E1.block _ KB.out.2.2 (fun e => by have := LK0.out _ e.symm; omega))).same (E2.block _ (Nat.lt_of_lt_of_le KB.out.2.2 E1.size) (fun e => by have := LK1.out _ e.symm; omega))
  have K0' : Hid (AL w15 w6.heap.size (.slice av1 G.length cv1) M) := A1
  have K1' : Hid (OrdL w15 w6.heap.size (.slice bu1 H.length du1) P) := A2
  have BB15 : Hid (Below w.heap.size w w15) := (BB14.out.grown E1 BB14.out.size (fun q hq => by have := LK0.out q hq; omega)).grown E2 (Nat.le_trans BB14.out.size E1.size) (fun q hq => by have := LK1.out q hq; omega)
  have z15 : w14.heap.size ≤ w15.heap.size := Nat.le_trans E1.size E2.size
  clear Z
  have Z := Z'
  clear Z'
  clear J0
  have J0 := J0'
  clear J0'
  clear J1
  have J1 := J1'
  clear J1'
  clear JB
  have JB := JB'
  clear JB'
  clear XB
  have XB := XB'
  clear XB'
  clear K0
  have K0 := K0'
  clear K0'
  clear K1
  have K1 := K1'
  clear K1'
  clear KB
  have KB := KB'
  clear KB'
  clear E1 E2 BB14 A1 A2
  have HM1 : Hid (M.length = G.length) := hM1
  have HM2 : Hid (MarkedAcc 1 M.length M) := hM2
  have HP1 : Hid (P.length = H.length) := hP1
  have HP2 : Hid (MarkedOrd (1 + 8 * (M.length : Int)) P.length P) := by show MarkedOrd _ _ _; rw [hM1]; exact hP2
  have hMl : M.length ≤ 1048576 := by omega
  have hPl : P.length ≤ 1048576 := by omega
  clear hM1 hM2 hP1 hP2
  have hk9 : decide (1 + 8 * (G.length : Int) + 7 * (H.length : Int) < 0) = false := by simp; omega
  have hk11 : (1 + 8 * (G.length : Int) + 7 * (H.length : Int) != 1 + 8 * (G.length : Int) + 7 * (H.length : Int)) = false := by simp
  obtain ⟨⟨KBc0, KBc1, KBc2, KBc3, KBc4, KBc5, KBc6⟩, KBcf, KBcz⟩ := KB.out
  go_wp2_with fail
  refine (heldBank _ _ (.slice av1 G.length cv1) (.slice bu1 H.length du1) M P K _ hMl hPl K0.out K1.out HM2.out HP2.out).mono ?_
  rintro e w16 ⟨rfl, E⟩
  clear KBc0 KBc1 KBc2 KBc3 KBc4 KBc5 KBc6 KBcf KBcz
  have Z' : Hid (Box7 w16 w.heap.size (.int .i64 k.day) (.slice a L.length c) (.slice b O.length d) (.int .i64 k.inn) (.int .i64 k.out) (.int .i64 k.posted) (.int .i64 k.missed)) := Z.out.kept E (by omega)
  have J0' : Hid (AL w16 w2.heap.size (.slice av0 G.length cv0) G) := J0.out.kept E
  have J1' : Hid (OrdL w16 w2.heap.size (.slice bu0 H.length du0) H) := J1.out.kept E
  have JB' : Hid (Box7 w16 w3.heap.size (.int .i64 K.day) (.slice av0 G.length cv0) (.slice bu0 H.length du0) (.int .i64 K.inn) (.int .i64 K.out) (.int .i64 K.posted) (.int .i64 K.missed)) := JB.out.kept E (by omega)
  have XB' : Hid (Box7 w16 w5.heap.size (.int .i64 k.day) (.slice (some ⟨rX0, 0, none⟩) L.length L.length) (.slice (some ⟨rX1, 0, none⟩) O.length O.length) (.int .i64 k.inn) (.int .i64 k.out) (.int .i64 k.posted) (.int .i64 k.missed)) := XB.out.kept E (by omega)
  have K0' : Hid (AL w16 w6.heap.size (.slice av1 G.length cv1) M) := K0.out.kept E
  have K1' : Hid (OrdL w16 w6.heap.size (.slice bu1 H.length du1) P) := K1.out.kept E
  have KB' : Hid (Box7 w16 w7.heap.size (.int .i64 K.day) (.slice av1 G.length cv1) (.slice bu1 H.length du1) (.int .i64 K.inn) (.int .i64 K.out) (.int .i64 K.posted) (.int .i64 K.missed)) := KB.out.kept E (by omega)
  have BB16 : Hid (Below w.heap.size w w16) := BB15.out.trans (E.mono BB15.out.size)
  have z16 : w15.heap.size ≤ w16.heap.size := E.size
  clear Z
  have Z := Z'
  clear Z'
  clear J0
  have J0 := J0'
  clear J0'
  clear J1
  have J1 := J1'
  clear J1'
  clear JB
  have JB := JB'
  clear JB'
  clear XB
  have XB := XB'
  clear XB'
  clear K0
  have K0 := K0'
  clear K0'
  clear K1
  have K1 := K1'
  clear K1'
  clear KB
  have KB := KB'
  clear KB'
  clear E BB15 
  rw [HM1.out, HP1.out]
  obtain ⟨⟨Zc0, Zc1, Zc2, Zc3, Zc4, Zc5, Zc6⟩, Zcf, Zcz⟩ := Z.out
  go_wp2_with fail
  refine (toBank a b L.length c O.length d (FL L) (OrdF O) k _ (F0.out.below BB16.out) (O0.out.below BB16.out)).mono ?_
  rintro e w17 ⟨rT0, rT1, rfl, RA, RB, hr1, hr2, E⟩
  clear Zc0 Zc1 Zc2 Zc3 Zc4 Zc5 Zc6 Zcf Zcz
  have Z' : Hid (Box7 w17 w.heap.size (.int .i64 k.day) (.slice a L.length c) (.slice b O.length d) (.int .i64 k.inn) (.int .i64 k.out) (.int .i64 k.posted) (.int .i64 k.missed)) := Z.out.kept E (by omega)
  have J0' : Hid (AL w17 w2.heap.size (.slice av0 G.length cv0) G) := J0.out.kept E
  have J1' : Hid (OrdL w17 w2.heap.size (.slice bu0 H.length du0) H) := J1.out.kept E
  have JB' : Hid (Box7 w17 w3.heap.size (.int .i64 K.day) (.slice av0 G.length cv0) (.slice bu0 H.length du0) (.int .i64 K.inn) (.int .i64 K.out) (.int .i64 K.posted) (.int .i64 K.missed)) := JB.out.kept E (by omega)
  have XB' : Hid (Box7 w17 w5.heap.size (.int .i64 k.day) (.slice (some ⟨rX0, 0, none⟩) L.length L.length) (.slice (some ⟨rX1, 0, none⟩) O.length O.length) (.int .i64 k.inn) (.int .i64 k.out) (.int .i64 k.posted) (.int .i64 k.missed)) := XB.out.kept E (by omega)
  have K0' : Hid (AL w17 w6.heap.size (.slice av1 G.length cv1) M) := K0.out.kept E
  have K1' : Hid (OrdL w17 w6.heap.size (.slice bu1 H.length du1) P) := K1.out.kept E
  have KB' : Hid (Box7 w17 w7.heap.size (.int .i64 K.day) (.slice av1 G.length cv1) (.slice bu1 H.length du1) (.int .i64 K.inn) (.int .i64 K.out) (.int .i64 K.posted) (.int .i64 K.missed)) := KB.out.kept E (by omega)
  have BB17 : Hid (Below w.heap.size w w17) := BB16.out.trans (E.mono BB16.out.size)
  have z17 : w16.heap.size ≤ w17.heap.size := E.size
  have T0 : Hid (Row w17 rT0 L.length L.length (FL L)) := RA
  have T1 : Hid (RowOrd w17 rT1 O.length O.length (OrdF O)) := RB
  clear Z
  have Z := Z'
  clear Z'
  clear J0
  have J0 := J0'
  clear J0'
  clear J1
  have J1 := J1'
  clear J1'
  clear JB
  have JB := JB'
  clear JB'
  clear XB
  have XB := XB'
  clear XB'
  clear K0
  have K0 := K0'
  clear K0'
  clear K1
  have K1 := K1'
  clear K1'
  clear KB
  have KB := KB'
  clear KB'
  clear E BB16 RA RB
  have yT0 : w16.heap.size ≤ rT0 ∧ rT0 < rT1 ∧ rT1 < w17.heap.size := ⟨hr1, hr2, T1.out.2.2.1⟩
  clear hr1 hr2
  go_wp2_with fail
  refine (IM.out _ _ _ L.length O.length (T0.out.fo hn') (T1.out.list hm') (G0.out.below BB17.out)).mono ?_
  rintro e w18 ⟨vv, uu, rfl, AA, AB, E⟩
  have Z' : Hid (Box7 w18 w.heap.size (.int .i64 k.day) (.slice a L.length c) (.slice b O.length d) (.int .i64 k.inn) (.int .i64 k.out) (.int .i64 k.posted) (.int .i64 k.missed)) := Z.out.kept E (by omega)
  have J0' : Hid (AL w18 w2.heap.size (.slice av0 G.length cv0) G) := J0.out.kept E
  have J1' : Hid (OrdL w18 w2.heap.size (.slice bu0 H.length du0) H) := J1.out.kept E
  have JB' : Hid (Box7 w18 w3.heap.size (.int .i64 K.day) (.slice av0 G.length cv0) (.slice bu0 H.length du0) (.int .i64 K.inn) (.int .i64 K.out) (.int .i64 K.posted) (.int .i64 K.missed)) := JB.out.kept E (by omega)
  have XB' : Hid (Box7 w18 w5.heap.size (.int .i64 k.day) (.slice (some ⟨rX0, 0, none⟩) L.length L.length) (.slice (some ⟨rX1, 0, none⟩) O.length O.length) (.int .i64 k.inn) (.int .i64 k.out) (.int .i64 k.posted) (.int .i64 k.missed)) := XB.out.kept E (by omega)
  have K0' : Hid (AL w18 w6.heap.size (.slice av1 G.length cv1) M) := K0.out.kept E
  have K1' : Hid (OrdL w18 w6.heap.size (.slice bu1 H.length du1) P) := K1.out.kept E
  have KB' : Hid (Box7 w18 w7.heap.size (.int .i64 K.day) (.slice av1 G.length cv1) (.slice bu1 H.length du1) (.int .i64 K.inn) (.int .i64 K.out) (.int .i64 K.posted) (.int .i64 K.missed)) := KB.out.kept E (by omega)
  have T0' : Hid (Row w18 rT0 L.length L.length (FL L)) := T0.out.below E
  have T1' : Hid (RowOrd w18 rT1 O.length O.length (OrdF O)) := T1.out.below E
  have BB18 : Hid (Below w.heap.size w w18) := BB17.out.trans (E.mono BB17.out.size)
  have z18 : w17.heap.size ≤ w18.heap.size := E.size
  clear Z
  have Z := Z'
  clear Z'
  clear J0
  have J0 := J0'
  clear J0'
  clear J1
  have J1 := J1'
  clear J1'
  clear JB
  have JB := JB'
  clear JB'
  clear XB
  have XB := XB'
  clear XB'
  clear K0
  have K0 := K0'
  clear K0'
  clear K1
  have K1 := K1'
  clear K1'
  clear KB
  have KB := KB'
  clear KB'
  clear T0
  have T0 := T0'
  clear T0'
  clear T1
  have T1 := T1'
  clear T1'
  clear E BB17 
  obtain ⟨av2, cv2, hvv⟩ := AA.len
  subst hvv
  obtain ⟨bu2, du2, huu, _⟩ := AB.shape
  subst huu
  have I0 : Hid (AL w18 w17.heap.size (.slice av2 G.length cv2) G) := AA
  have I1 : Hid (OrdL w18 w17.heap.size (.slice bu2 H.length du2) H) := AB
  have LI0 : Hid (∀ q, (Value.slice av2 G.length cv2).ownBlock = some q → w17.heap.size ≤ q ∧ q < w18.heap.size) := fun q hq => World.ownsRow.lt I0.out q hq
  have LI1 : Hid (∀ q, (Value.slice bu2 H.length du2).ownBlock = some q → w17.heap.size ≤ q ∧ q < w18.heap.size) := fun q hq => World.ownsRow.lt I1.out q hq
  clear AA AB
  clear T0
  clear T1
  obtain ⟨w19, hw19⟩ : ∃ w19, w19 = w18.alloc (.cells #[.int .i64 K.day, .slice av2 G.length cv2, .slice bu2 H.length du2, .int .i64 K.inn, .int .i64 K.out, .int .i64 K.posted, .int .i64 K.missed] 38) := ⟨_, rfl⟩
  have E : Below w18.heap.size w18 w19 := by rw [hw19]; exact (Below.refl _ _).alloc (Nat.le_refl _) _
  have z19 : w19.heap.size = w18.heap.size + 1 := by rw [hw19]; simp
  have Z' : Hid (Box7 w19 w.heap.size (.int .i64 k.day) (.slice a L.length c) (.slice b O.length d) (.int .i64 k.inn) (.int .i64 k.out) (.int .i64 k.posted) (.int .i64 k.missed)) := Z.out.kept E (by omega)
  have J0' : Hid (AL w19 w2.heap.size (.slice av0 G.length cv0) G) := J0.out.kept E
  have J1' : Hid (OrdL w19 w2.heap.size (.slice bu0 H.length du0) H) := J1.out.kept E
  have JB' : Hid (Box7 w19 w3.heap.size (.int .i64 K.day) (.slice av0 G.length cv0) (.slice bu0 H.length du0) (.int .i64 K.inn) (.int .i64 K.out) (.int .i64 K.posted) (.int .i64 K.missed)) := JB.out.kept E (by omega)
  have XB' : Hid (Box7 w19 w5.heap.size (.int .i64 k.day) (.slice (some ⟨rX0, 0, none⟩) L.length L.length) (.slice (some ⟨rX1, 0, none⟩) O.length O.length) (.int .i64 k.inn) (.int .i64 k.out) (.int .i64 k.posted) (.int .i64 k.missed)) := XB.out.kept E (by omega)
  have K0' : Hid (AL w19 w6.heap.size (.slice av1 G.length cv1) M) := K0.out.kept E
  have K1' : Hid (OrdL w19 w6.heap.size (.slice bu1 H.length du1) P) := K1.out.kept E
  have KB' : Hid (Box7 w19 w7.heap.size (.int .i64 K.day) (.slice av1 G.length cv1) (.slice bu1 H.length du1) (.int .i64 K.inn) (.int .i64 K.out) (.int .i64 K.posted) (.int .i64 K.missed)) := KB.out.kept E (by omega)
  have I0' : Hid (AL w19 w17.heap.size (.slice av2 G.length cv2) G) := I0.out.kept E
  have I1' : Hid (OrdL w19 w17.heap.size (.slice bu2 H.length du2) H) := I1.out.kept E
  have BB19 : Hid (Below w.heap.size w w19) := BB18.out.trans (E.mono BB18.out.size)
  have IB : Hid (Box7 w19 w18.heap.size (.int .i64 K.day) (.slice av2 G.length cv2) (.slice bu2 H.length du2) (.int .i64 K.inn) (.int .i64 K.out) (.int .i64 K.posted) (.int .i64 K.missed)) := by show Box7 _ _ _ _ _ _ _ _ _; rw [hw19]; exact Box7.new w18 _ _ _ _ _ _ _ 38
  clear Z
  have Z := Z'
  clear Z'
  clear J0
  have J0 := J0'
  clear J0'
  clear J1
  have J1 := J1'
  clear J1'
  clear JB
  have JB := JB'
  clear JB'
  clear XB
  have XB := XB'
  clear XB'
  clear K0
  have K0 := K0'
  clear K0'
  clear K1
  have K1 := K1'
  clear K1'
  clear KB
  have KB := KB'
  clear KB'
  clear I0
  have I0 := I0'
  clear I0'
  clear I1
  have I1 := I1'
  clear I1'
  have Hw19 : Hid (w19 = _) := hw19
  clear E BB18 hw19
  go_upto_region 25 with fail
  rw [← Hw19.out]
  clear Hw19
  obtain ⟨⟨IBc0, IBc1, IBc2, IBc3, IBc4, IBc5, IBc6⟩, IBcf, IBcz⟩ := IB.out
  obtain ⟨⟨JBc0, JBc1, JBc2, JBc3, JBc4, JBc5, JBc6⟩, JBcf, JBcz⟩ := JB.out
  go_wp2_with fail
  refine (EQ.out _ _ _ _ _ _ _ _ _ I0.out J0.out I1.out J1.out).mono ?_
  rintro e w20 ⟨rfl, E⟩
  clear IBc0 IBc1 IBc2 IBc3 IBc4 IBc5 IBc6 IBcf IBcz
  clear JBc0 JBc1 JBc2 JBc3 JBc4 JBc5 JBc6 JBcf JBcz
  have Z' : Hid (Box7 w20 w.heap.size (.int .i64 k.day) (.slice a L.length c) (.slice b O.length d) (.int .i64 k.inn) (.int .i64 k.out) (.int .i64 k.posted) (.int .i64 k.missed)) := Z.out.kept E (by omega)
  have J0' : Hid (AL w20 w2.heap.size (.slice av0 G.length cv0) G) := J0.out.kept E
  have J1' : Hid (OrdL w20 w2.heap.size (.slice bu0 H.length du0) H) := J1.out.kept E
  have JB' : Hid (Box7 w20 w3.heap.size (.int .i64 K.day) (.slice av0 G.length cv0) (.slice bu0 H.length du0) (.int .i64 K.inn) (.int .i64 K.out) (.int .i64 K.posted) (.int .i64 K.missed)) := JB.out.kept E (by omega)
  have XB' : Hid (Box7 w20 w5.heap.size (.int .i64 k.day) (.slice (some ⟨rX0, 0, none⟩) L.length L.length) (.slice (some ⟨rX1, 0, none⟩) O.length O.length) (.int .i64 k.inn) (.int .i64 k.out) (.int .i64 k.posted) (.int .i64 k.missed)) := XB.out.kept E (by omega)
  have K0' : Hid (AL w20 w6.heap.size (.slice av1 G.length cv1) M) := K0.out.kept E
  have K1' : Hid (OrdL w20 w6.heap.size (.slice bu1 H.length du1) P) := K1.out.kept E
  have KB' : Hid (Box7 w20 w7.heap.size (.int .i64 K.day) (.slice av1 G.length cv1) (.slice bu1 H.length du1) (.int .i64 K.inn) (.int .i64 K.out) (.int .i64 K.posted) (.int .i64 K.missed)) := KB.out.kept E (by omega)
  have I0' : Hid (AL w20 w17.heap.size (.slice av2 G.length cv2) G) := I0.out.kept E
  have I1' : Hid (OrdL w20 w17.heap.size (.slice bu2 H.length du2) H) := I1.out.kept E
  have IB' : Hid (Box7 w20 w18.heap.size (.int .i64 K.day) (.slice av2 G.length cv2) (.slice bu2 H.length du2) (.int .i64 K.inn) (.int .i64 K.out) (.int .i64 K.posted) (.int .i64 K.missed)) := IB.out.kept E (by omega)
  have BB20 : Hid (Below w.heap.size w w20) := BB19.out.trans (E.mono BB19.out.size)
  have z20 : w19.heap.size ≤ w20.heap.size := E.size
  clear Z
  have Z := Z'
  clear Z'
  clear J0
  have J0 := J0'
  clear J0'
  clear J1
  have J1 := J1'
  clear J1'
  clear JB
  have JB := JB'
  clear JB'
  clear XB
  have XB := XB'
  clear XB'
  clear K0
  have K0 := K0'
  clear K0'
  clear K1
  have K1 := K1'
  clear K1'
  clear KB
  have KB := KB'
  clear KB'
  clear I0
  have I0 := I0'
  clear I0'
  clear I1
  have I1 := I1'
  clear I1'
  clear IB
  have IB := IB'
  clear IB'
  clear E BB19 
  obtain ⟨⟨KBc0, KBc1, KBc2, KBc3, KBc4, KBc5, KBc6⟩, KBcf, KBcz⟩ := KB.out
  go_wp2_with fail
  refine (heldBank _ _ (.slice av1 G.length cv1) (.slice bu1 H.length du1) M P K _ hMl hPl K0.out K1.out HM2.out HP2.out).mono ?_
  rintro e w21 ⟨rfl, E⟩
  clear KBc0 KBc1 KBc2 KBc3 KBc4 KBc5 KBc6 KBcf KBcz
  have Z' : Hid (Box7 w21 w.heap.size (.int .i64 k.day) (.slice a L.length c) (.slice b O.length d) (.int .i64 k.inn) (.int .i64 k.out) (.int .i64 k.posted) (.int .i64 k.missed)) := Z.out.kept E (by omega)
  have J0' : Hid (AL w21 w2.heap.size (.slice av0 G.length cv0) G) := J0.out.kept E
  have J1' : Hid (OrdL w21 w2.heap.size (.slice bu0 H.length du0) H) := J1.out.kept E
  have JB' : Hid (Box7 w21 w3.heap.size (.int .i64 K.day) (.slice av0 G.length cv0) (.slice bu0 H.length du0) (.int .i64 K.inn) (.int .i64 K.out) (.int .i64 K.posted) (.int .i64 K.missed)) := JB.out.kept E (by omega)
  have XB' : Hid (Box7 w21 w5.heap.size (.int .i64 k.day) (.slice (some ⟨rX0, 0, none⟩) L.length L.length) (.slice (some ⟨rX1, 0, none⟩) O.length O.length) (.int .i64 k.inn) (.int .i64 k.out) (.int .i64 k.posted) (.int .i64 k.missed)) := XB.out.kept E (by omega)
  have K0' : Hid (AL w21 w6.heap.size (.slice av1 G.length cv1) M) := K0.out.kept E
  have K1' : Hid (OrdL w21 w6.heap.size (.slice bu1 H.length du1) P) := K1.out.kept E
  have KB' : Hid (Box7 w21 w7.heap.size (.int .i64 K.day) (.slice av1 G.length cv1) (.slice bu1 H.length du1) (.int .i64 K.inn) (.int .i64 K.out) (.int .i64 K.posted) (.int .i64 K.missed)) := KB.out.kept E (by omega)
  have I0' : Hid (AL w21 w17.heap.size (.slice av2 G.length cv2) G) := I0.out.kept E
  have I1' : Hid (OrdL w21 w17.heap.size (.slice bu2 H.length du2) H) := I1.out.kept E
  have IB' : Hid (Box7 w21 w18.heap.size (.int .i64 K.day) (.slice av2 G.length cv2) (.slice bu2 H.length du2) (.int .i64 K.inn) (.int .i64 K.out) (.int .i64 K.posted) (.int .i64 K.missed)) := IB.out.kept E (by omega)
  have BB21 : Hid (Below w.heap.size w w21) := BB20.out.trans (E.mono BB20.out.size)
  have z21 : w20.heap.size ≤ w21.heap.size := E.size
  clear Z
  have Z := Z'
  clear Z'
  clear J0
  have J0 := J0'
  clear J0'
  clear J1
  have J1 := J1'
  clear J1'
  clear JB
  have JB := JB'
  clear JB'
  clear XB
  have XB := XB'
  clear XB'
  clear K0
  have K0 := K0'
  clear K0'
  clear K1
  have K1 := K1'
  clear K1'
  clear KB
  have KB := KB'
  clear KB'
  clear I0
  have I0 := I0'
  clear I0'
  clear I1
  have I1 := I1'
  clear I1'
  clear IB
  have IB := IB'
  clear IB'
  clear E BB20 
  rw [HM1.out, HP1.out]
  go_wp2
  go_ret
  exact ⟨rfl, BB21.out⟩

/-- The law, of every bank that the reach lets in. -/
theorem lawEd (a b : Option Addr) (n c m d : Nat) (F : Nat → Acc) (Q : Nat → Ord) (k : Bk) (p : Nat → Addr) (w : World) (hn : n ≤ 9223372036854775807) (hm : m ≤ 9223372036854775807) (hF : n ≤ 1048576 → Fo w a n F) (hO : m ≤ 1048576 → Ords w b m Q) (hG : GE w p) :
    Calls Tryz.prog 8 #[.agg #[.int .i64 k.day, .slice a n c, .slice b m d, .int .i64 k.inn, .int .i64 k.out, .int .i64 k.posted, .int .i64 k.missed]] w fun e w' => e = .returned (.bool true) ∧ Below w.heap.size w w' := by
  by_cases hs : n + m ≤ 1048576
  · have h1 : (toL F n).length = n := toL_len _ _
    have h2 : ((List.range m).map Q).length = m := by simp
    have hq : ∀ j, j < m → OrdF ((List.range m).map Q) j = Q j := fun j hj => by rw [OrdF_lt (by rw [h2]; exact hj)]; simp
    have := lawEd_yes a b c d (toL F n) ((List.range m).map Q) k p w (by rw [h1, h2]; exact hs) (by rw [h1]; exact (hF (by omega)).congr (fun j hj => (FL_toL hj).symm)) (by
      rw [h2]
      refine ⟨by omega, ?_⟩
      rcases (hO (by omega)).2 with h0 | ⟨bb, oo, he, hbb, hat⟩
      · exact Or.inl h0
      · exact Or.inr ⟨bb, oo, he, hbb, fun i hi => by rw [hq i hi]; exact hat i hi⟩) hG
    rwa [h1, h2] at this
  · clear hF hO hG
    go_enter Tryz.func8, Tryz.ntmps8
    go_wp2_with (go_at_call 41; refine (szBank_no a b n c m d k _ (by omega) hn hm).mono ?_; rintro e w1 ⟨rfl, B1⟩)
    go_ret
    exact ⟨rfl, ((Below.refl _ _).alloc (Nat.le_refl _) _).trans (B1.mono (by simp))⟩
end Go.Proofs.YtghkbhggopiajaaGreatDoor
