/- Copies as the exact laws make them, as lists of one's own. Conditions: at most 1048576 of them. -/
import Derived.Test.YtcalgmhpagpnnaaMkFD
namespace Go.Proofs.Ytcalgmhpagpnnaa
open Go.RowKit
set_option maxRecDepth 8000

theorem zeroFl_flat (n : Nat) : (zerosFl n).toList = (List.replicate n (⟨⟨#[]⟩, ⟨#[]⟩⟩ : Fl)).flatMap FlC := by
  apply List.ext_getElem?
  intro i
  by_cases hi : i < n * 2
  · have hd : i = (i / 2) * 2 + i % 2 := by omega
    have hq : i / 2 < (List.replicate n (⟨⟨#[]⟩, ⟨#[]⟩⟩ : Fl)).length := by simp; omega
    have e1 : (zerosFl n).toList[i]? = some (#[.string ⟨#[]⟩, .string ⟨#[]⟩][i % 2]!) := by
      simp [zerosFl, madeCells, hi]
    have e2 : ((List.replicate n (⟨⟨#[]⟩, ⟨#[]⟩⟩ : Fl)).flatMap FlC)[i]? = (FlC (⟨⟨#[]⟩, ⟨#[]⟩⟩ : Fl))[i % 2]? := by
      conv => lhs; rw [hd]
      rw [flatFl_get _ _ _ hq (Nat.mod_lt _ (by omega))]
      simp
    rw [e1, e2]
    have hm : i % 2 < 2 := Nat.mod_lt _ (by omega)
    clear hd e1 e2
    generalize i % 2 = m at *
    match m, hm with
    | 0, _ => rfl
    | 1, _ => rfl
  · rw [List.getElem?_eq_none (by simp [zerosFl, size_madeCells]; omega), List.getElem?_eq_none (by rw [flatFl_len]; simp; omega)]
theorem FlL.zeros (w : World) (n : Nat) (hn : n ≤ 1048576) : FlL (w.alloc (.cells (zerosFl n) 75)) w.heap.size (.slice (some ⟨w.heap.size, 0, none⟩) n n) (List.replicate n (⟨⟨#[]⟩, ⟨#[]⟩⟩ : Fl)) := by
  unfold FlL
  rw [← zeroFl_flat, List.length_replicate]
  exact World.ownsRow_lit w (zerosFl n) n (Nat.le_refl _) (by unfold maxLen; omega) (by simp [zerosFl, size_madeCells])
theorem FlF_lst {L : List Fl} {F : Nat → Fl} {n : Nat} (hl : L.length = n) (h : ∀ i, i < n → FlF L i = F i) : L = lst F n := by
  subst hl
  rw [← lst_congr h]
  exact (lst_getD L _).symm
theorem FlL.put {w : World} {B g cap n : Nat} {L : List Fl} (h : FlL w B (.slice (some ⟨g, 0, none⟩) n cap) L) (hn : L.length = n) {p : Nat} (hp : p < n) (A : Fl) :
    FlL (setFl w g (p * 2) A) B (.slice (some ⟨g, 0, none⟩) n cap) (L.set p A) := by
  subst hn
  exact h.stored hp A

set_option maxHeartbeats 1000000 in
theorem toLFl (a : Option Addr) (n c : Nat) (F : Nat → Fl) (w : World) (h : Fls w a n F) :
    Calls Try.prog 66 #[.slice a n c] w fun e w' => e = .returned (.slice (some ⟨w.heap.size, 0, none⟩) n n) ∧ FlL w' w.heap.size (.slice (some ⟨w.heap.size, 0, none⟩) n n) (lst F n) ∧ Below w.heap.size w w' := by
  have H : Hid (Fls w a n F) := h
  have hn := h.1
  clear h
  have hmk := makeFl n hn
  have R0 : Hid (FlL (w.alloc (.cells (zerosFl n) 75)) w.heap.size (.slice (some ⟨w.heap.size, 0, none⟩) n n) (List.replicate n (⟨⟨#[]⟩, ⟨#[]⟩⟩ : Fl))) := FlL.zeros w n hn
  go_enter Try.func66, Try.ntmps66
  go_wp2
  go_loopw [4] (fun i wr => ∃ (k : Nat) (L : List Fl), k ≤ n ∧ i = .int .i64 k ∧ Hid (L.length = n) ∧ Hid (∀ i, i < k → FlF L i = F i) ∧ Hid (FlL wr w.heap.size (.slice (some ⟨w.heap.size, 0, none⟩) n n) L) ∧ Hid (Below w.heap.size w wr)) (fun i _ => n - (intOf i).toNat)
  case atStart => exact ⟨0, _, Nat.zero_le _, rfl, List.length_replicate, fun i hi => absurd hi (Nat.not_lt_zero _), R0, (Below.refl _ _).alloc (Nat.le_refl _) _⟩
  case round =>
    obtain ⟨k, L, hk, rfl, hL, hM, hI, hB⟩ := hrel
    clear R0 hmk
    by_cases hlt : k < n
    · obtain ⟨b, o, rfl, hb0, hA0⟩ := H.out.acc hlt
      have hA := hA0.of_cells (w' := wr) (fun q => hB.out.cell (p := ⟨b, q, none⟩) hb0)
      obtain ⟨c0, c1⟩ := hA
      clear hA0
      go_wp2_with fail
      refine (toFile (F k) _).mono ?_
      rintro e w1 ⟨rfl, B1⟩
      have R1 : Hid (FlL w1 w.heap.size (.slice (some ⟨w.heap.size, 0, none⟩) n n) L) := hI.out.kept B1
      have B1' : Hid (Below w.heap.size w w1) := hB.out.trans (B1.mono hB.out.size)
      clear B1 c0 c1 hI
      obtain ⟨⟨c0, c1⟩, cf⟩ := R1.out.at hL.out hlt
      have ST : Hid (FlL (setFl w1 w.heap.size (k * 2) (F k)) w.heap.size (.slice (some ⟨w.heap.size, 0, none⟩) n n) (L.set k (F k))) := R1.out.put hL.out hlt (F k)
      have HL : Hid ((L.set k (F k)).length = n) := (by rw [List.length_set]; exact hL.out : (L.set k (F k)).length = n)
      have HM : Hid (∀ i, i < k + 1 → FlF (L.set k (F k)) i = F i) := fun i hi => by
        by_cases e : i = k
        · subst e; exact FlF_set_at _ (by rw [hL.out]; exact hlt)
        · rw [FlF_set_ne _ e]; exact hM.out i (by omega)
      go_wp2
      go_roundw
      case rel => exact ⟨k + 1, L.set k (F k), by omega, by go_num, HL, HM, ST, setFl_below B1'.out w.heap.size (k * 2) (F k) (Nat.le_refl _)⟩
      case measure => simp [intOf]; omega
    · have hkn : k = n := by omega
      subst hkn
      go_wp2
      go_ret
      exact ⟨rfl, by rw [← FlF_lst hL.out hM.out]; exact hI.out, hB.out⟩

theorem zeroDp_flat (n : Nat) : (zerosDp n).toList = (List.replicate n (⟨0, ⟨#[]⟩, ⟨#[]⟩, ⟨#[]⟩⟩ : Dp)).flatMap DpC := by
  apply List.ext_getElem?
  intro i
  by_cases hi : i < n * 4
  · have hd : i = (i / 4) * 4 + i % 4 := by omega
    have hq : i / 4 < (List.replicate n (⟨0, ⟨#[]⟩, ⟨#[]⟩, ⟨#[]⟩⟩ : Dp)).length := by simp; omega
    have e1 : (zerosDp n).toList[i]? = some (#[.int .i64 0, .string ⟨#[]⟩, .string ⟨#[]⟩, .string ⟨#[]⟩][i % 4]!) := by
      simp [zerosDp, madeCells, hi]
    have e2 : ((List.replicate n (⟨0, ⟨#[]⟩, ⟨#[]⟩, ⟨#[]⟩⟩ : Dp)).flatMap DpC)[i]? = (DpC (⟨0, ⟨#[]⟩, ⟨#[]⟩, ⟨#[]⟩⟩ : Dp))[i % 4]? := by
      conv => lhs; rw [hd]
      rw [flatDp_get _ _ _ hq (Nat.mod_lt _ (by omega))]
      simp
    rw [e1, e2]
    have hm : i % 4 < 4 := Nat.mod_lt _ (by omega)
    clear hd e1 e2
    generalize i % 4 = m at *
    match m, hm with
    | 0, _ => rfl
    | 1, _ => rfl
    | 2, _ => rfl
    | 3, _ => rfl
  · rw [List.getElem?_eq_none (by simp [zerosDp, size_madeCells]; omega), List.getElem?_eq_none (by rw [flatDp_len]; simp; omega)]
theorem DpL.zeros (w : World) (n : Nat) (hn : n ≤ 1048576) : DpL (w.alloc (.cells (zerosDp n) 36)) w.heap.size (.slice (some ⟨w.heap.size, 0, none⟩) n n) (List.replicate n (⟨0, ⟨#[]⟩, ⟨#[]⟩, ⟨#[]⟩⟩ : Dp)) := by
  unfold DpL
  rw [← zeroDp_flat, List.length_replicate]
  exact World.ownsRow_lit w (zerosDp n) n (Nat.le_refl _) (by unfold maxLen; omega) (by simp [zerosDp, size_madeCells])
theorem DpF_lst {L : List Dp} {F : Nat → Dp} {n : Nat} (hl : L.length = n) (h : ∀ i, i < n → DpF L i = F i) : L = lst F n := by
  subst hl
  rw [← lst_congr h]
  exact (lst_getD L _).symm
theorem DpL.put {w : World} {B g cap n : Nat} {L : List Dp} (h : DpL w B (.slice (some ⟨g, 0, none⟩) n cap) L) (hn : L.length = n) {p : Nat} (hp : p < n) (A : Dp) :
    DpL (setDp w g (p * 4) A) B (.slice (some ⟨g, 0, none⟩) n cap) (L.set p A) := by
  subst hn
  exact h.stored hp A

set_option maxHeartbeats 1000000 in
theorem toLDp (a : Option Addr) (n c : Nat) (F : Nat → Dp) (w : World) (h : Dps w a n F) :
    Calls Try.prog 67 #[.slice a n c] w fun e w' => e = .returned (.slice (some ⟨w.heap.size, 0, none⟩) n n) ∧ DpL w' w.heap.size (.slice (some ⟨w.heap.size, 0, none⟩) n n) (lst F n) ∧ Below w.heap.size w w' := by
  have H : Hid (Dps w a n F) := h
  have hn := h.1
  clear h
  have hmk := makeDp n hn
  have R0 : Hid (DpL (w.alloc (.cells (zerosDp n) 36)) w.heap.size (.slice (some ⟨w.heap.size, 0, none⟩) n n) (List.replicate n (⟨0, ⟨#[]⟩, ⟨#[]⟩, ⟨#[]⟩⟩ : Dp))) := DpL.zeros w n hn
  go_enter Try.func67, Try.ntmps67
  go_wp2
  go_loopw [4] (fun i wr => ∃ (k : Nat) (L : List Dp), k ≤ n ∧ i = .int .i64 k ∧ Hid (L.length = n) ∧ Hid (∀ i, i < k → DpF L i = F i) ∧ Hid (DpL wr w.heap.size (.slice (some ⟨w.heap.size, 0, none⟩) n n) L) ∧ Hid (Below w.heap.size w wr)) (fun i _ => n - (intOf i).toNat)
  case atStart => exact ⟨0, _, Nat.zero_le _, rfl, List.length_replicate, fun i hi => absurd hi (Nat.not_lt_zero _), R0, (Below.refl _ _).alloc (Nat.le_refl _) _⟩
  case round =>
    obtain ⟨k, L, hk, rfl, hL, hM, hI, hB⟩ := hrel
    clear R0 hmk
    by_cases hlt : k < n
    · obtain ⟨b, o, rfl, hb0, hA0⟩ := H.out.acc hlt
      have hA := hA0.of_cells (w' := wr) (fun q => hB.out.cell (p := ⟨b, q, none⟩) hb0)
      obtain ⟨c0, c1, c2, c3⟩ := hA
      clear hA0
      go_wp2_with fail
      refine (toDOp (F k) _).mono ?_
      rintro e w1 ⟨rfl, B1⟩
      have R1 : Hid (DpL w1 w.heap.size (.slice (some ⟨w.heap.size, 0, none⟩) n n) L) := hI.out.kept B1
      have B1' : Hid (Below w.heap.size w w1) := hB.out.trans (B1.mono hB.out.size)
      clear B1 c0 c1 c2 c3 hI
      obtain ⟨⟨c0, c1, c2, c3⟩, cf⟩ := R1.out.at hL.out hlt
      have ST : Hid (DpL (setDp w1 w.heap.size (k * 4) (F k)) w.heap.size (.slice (some ⟨w.heap.size, 0, none⟩) n n) (L.set k (F k))) := R1.out.put hL.out hlt (F k)
      have HL : Hid ((L.set k (F k)).length = n) := (by rw [List.length_set]; exact hL.out : (L.set k (F k)).length = n)
      have HM : Hid (∀ i, i < k + 1 → DpF (L.set k (F k)) i = F i) := fun i hi => by
        by_cases e : i = k
        · subst e; exact DpF_set_at _ (by rw [hL.out]; exact hlt)
        · rw [DpF_set_ne _ e]; exact hM.out i (by omega)
      go_wp2
      go_roundw
      case rel => exact ⟨k + 1, L.set k (F k), by omega, by go_num, HL, HM, ST, setDp_below B1'.out w.heap.size (k * 4) (F k) (Nat.le_refl _)⟩
      case measure => simp [intOf]; omega
    · have hkn : k = n := by omega
      subst hkn
      go_wp2
      go_ret
      exact ⟨rfl, by rw [← DpF_lst hL.out hM.out]; exact hI.out, hB.out⟩

/-- A disk of one's own: three lists, in rows that are apart. -/
structure Own3 (w : World) (B : Nat) (v1 v2 v3 : Value) (L1 L2 : List Fl) (L3 : List Dp) : Prop where
  live : FlL w B v1 L1
  safe : FlL w B v2 L2
  ops : DpL w B v3 L3
  ne : ∀ g, v1.ownBlock = some g → v2.ownBlock ≠ some g
theorem ob_ne {R n c Q : Nat} (h : R ≠ Q) : (Value.slice (some ⟨R, 0, none⟩) n c).ownBlock ≠ some Q := fun e => h (Option.some.inj e)
theorem FlL.far {w : World} {B : Nat} {v : Value} {L : List Fl} (h : FlL w B v L) {Q : Nat} (hne : v.ownBlock ≠ some Q) (q : Nat) (u : Value) : FlL (w.setCell ⟨Q, q, none⟩ u) B v L :=
  World.ownsRow.kept (row := some Q) h (grown_set1Fl w Q q u) (Or.inr hne)
theorem DpL.far {w : World} {B : Nat} {v : Value} {L : List Dp} (h : DpL w B v L) {Q : Nat} (hne : v.ownBlock ≠ some Q) (q : Nat) (u : Value) : DpL (w.setCell ⟨Q, q, none⟩ u) B v L :=
  World.ownsRow.kept (row := some Q) h (grown_set1Fl w Q q u) (Or.inr hne)
theorem FlL.mono' {w : World} {B B' : Nat} {v : Value} {L : List Fl} (h : FlL w B v L) (hB : B' ≤ B) : FlL w B' v L := h.mono hB
theorem Own3.kept {w w' : World} {B : Nat} {v1 v2 v3 : Value} {L1 L2 : List Fl} {L3 : List Dp} (h : Own3 w B v1 v2 v3 L1 L2 L3) (hb : Below w.heap.size w w') : Own3 w' B v1 v2 v3 L1 L2 L3 :=
  ⟨h.live.kept hb, h.safe.kept hb, h.ops.kept hb, h.ne⟩

set_option maxHeartbeats 2000000 in
theorem toDiskL (a b d : Option Addr) (n m q c c' c'' : Nat) (F G : Nat → Fl) (O : Nat → Dp) (w : World) (h : Dk w a n F b m G d q O) :
    Calls Try.prog 27 #[.agg #[.slice a n c, .slice b m c', .slice d q c'']] w fun e w' => ∃ R1 R2 R3, e = .returned (.agg #[.slice (some ⟨R1, 0, none⟩) n n, .slice (some ⟨R2, 0, none⟩) m m, .slice (some ⟨R3, 0, none⟩) q q]) ∧ Own3 w' w.heap.size (.slice (some ⟨R1, 0, none⟩) n n) (.slice (some ⟨R2, 0, none⟩) m m) (.slice (some ⟨R3, 0, none⟩) q q) (lst F n) (lst G m) (lst O q) ∧ Below w.heap.size w w' := by
  have H : Hid (Dk w a n F b m G d q O) := h
  have hn := h.live.1
  have hm := h.safe.1
  have hq := h.ops.1
  clear h
  obtain ⟨W0, hW0, P1⟩ : ∃ W0, W0 = ((w.alloc (.cells #[.slice a n c, .slice b m c', .slice d q c''] 50)).alloc (.cells #[.slice none 0 0, .slice none 0 0, .slice none 0 0] 27)).alloc (.cells #[.slice none 0 0, .slice none 0 0, .slice none 0 0] 27) ∧
      Hid (TD w W0 (.slice a n c) (.slice b m c') (.slice d q c'') (.slice none 0 0) (.slice none 0 0) (.slice none 0 0) ∧ W0.heap.size = w.heap.size + 1 + 1 + 1) := by
    refine ⟨_, rfl, ⟨?_, ?_, ?_, (((Below.refl _ _).alloc (Nat.le_refl _) _).alloc (by simp) _).alloc (by simp; omega) _⟩, by simp⟩
    · exact ((Box3.new w _ _ _ 50).kept ((Below.refl _ _).alloc (Nat.le_refl _) _) (by simp)).kept ((Below.refl _ _).alloc (Nat.le_refl _) _) (by simp; omega)
    · have := Box3.new (w.alloc (.cells #[.slice a n c, .slice b m c', .slice d q c''] 50)) (.slice none 0 0) (.slice none 0 0) (.slice none 0 0) 27
      rw [World.size_alloc] at this
      exact this.kept ((Below.refl _ _).alloc (Nat.le_refl _) _) (by simp)
    · have := Box3.new ((w.alloc (.cells #[.slice a n c, .slice b m c', .slice d q c''] 50)).alloc (.cells #[.slice none 0 0, .slice none 0 0, .slice none 0 0] 27)) (.slice none 0 0) (.slice none 0 0) (.slice none 0 0) 27
      simp only [World.size_alloc] at this
      exact this
  have HW0 : Hid (W0 = _) := hW0
  clear hW0
  go_enter Try.func27, Try.ntmps27
  go_wp2_with fail
  rw [← HW0.out]
  refine (toLFl a n c F _ (H.out.live.below P1.out.1.2.2.2)).mono ?_
  rintro e w1 ⟨rfl, R1, D1⟩
  obtain ⟨q1, hq1⟩ : ∃ q1, q1 = W0.heap.size := ⟨_, rfl⟩
  have T1 := P1.out.1.kept D1
  have hq1b : w.heap.size + 1 + 1 < q1 := by rw [hq1, P1.out.2]; omega
  rw [← hq1] at R1 ⊢
  have R1 := R1.mono (B' := w.heap.size) (by omega)
  clear HW0 D1 P1 hq1
  obtain ⟨W2, hW2⟩ : ∃ W2, W2 = w1.setCell ⟨w.heap.size + 1 + 1, 0, none⟩ (.slice (some ⟨q1, 0, none⟩) n n) := ⟨_, rfl⟩
  have P2 : Hid (TD w W2 (.slice a n c) (.slice b m c') (.slice d q c'') (.slice (some ⟨q1, 0, none⟩) n n) (.slice none 0 0) (.slice none 0 0) ∧ FlL W2 w.heap.size (.slice (some ⟨q1, 0, none⟩) n n) (lst F n)) := by
    subst hW2
    exact ⟨⟨T1.1.far (by omega) _ _, T1.2.1.far (by omega) _ _, T1.2.2.1.set0 _, below_far T1.2.2.2 (by omega) _ _⟩, R1.far (ob_ne (by omega)) _ _⟩
  have HW2 : Hid (W2 = _) := hW2
  obtain ⟨⟨⟨s0, s1, s2⟩, _, _⟩, ⟨_, _, _⟩, ⟨⟨o0, o1, o2⟩, of, _⟩, _⟩ := T1
  clear R1 hW2
  go_wp2_with fail
  rw [← HW2.out]
  refine (toLFl b m c' G _ (H.out.safe.below P2.out.1.2.2.2)).mono ?_
  rintro e w2 ⟨rfl, R2, D2⟩
  obtain ⟨q2, hq2⟩ : ∃ q2, q2 = W2.heap.size := ⟨_, rfl⟩
  have T2 := P2.out.1.kept D2
  have K2 : Hid (FlL w2 w.heap.size (.slice (some ⟨q1, 0, none⟩) n n) (lst F n)) := P2.out.2.kept D2
  have hq2b : q1 < q2 := by rw [hq2]; exact (World.ownsRow.lt P2.out.2 q1 rfl).2
  rw [← hq2] at R2 ⊢
  have R2 := R2.mono (B' := w.heap.size) (by omega)
  clear HW2 D2 P2 hq2 s0 s1 s2 o0 o1 o2 of
  obtain ⟨W3, hW3⟩ : ∃ W3, W3 = w2.setCell ⟨w.heap.size + 1 + 1, 1, none⟩ (.slice (some ⟨q2, 0, none⟩) m m) := ⟨_, rfl⟩
  have P3 : Hid (TD w W3 (.slice a n c) (.slice b m c') (.slice d q c'') (.slice (some ⟨q1, 0, none⟩) n n) (.slice (some ⟨q2, 0, none⟩) m m) (.slice none 0 0) ∧ FlL W3 w.heap.size (.slice (some ⟨q1, 0, none⟩) n n) (lst F n) ∧ FlL W3 w.heap.size (.slice (some ⟨q2, 0, none⟩) m m) (lst G m)) := by
    subst hW3
    exact ⟨⟨T2.1.far (by omega) _ _, T2.2.1.far (by omega) _ _, T2.2.2.1.set1 _, below_far T2.2.2.2 (by omega) _ _⟩, K2.out.far (ob_ne (by omega)) _ _, R2.far (ob_ne (by omega)) _ _⟩
  have HW3 : Hid (W3 = _) := hW3
  obtain ⟨⟨⟨s0, s1, s2⟩, _, _⟩, ⟨_, _, _⟩, ⟨⟨o0, o1, o2⟩, of, _⟩, _⟩ := T2
  clear R2 K2 hW3
  go_wp2_with fail
  rw [← HW3.out]
  refine (toLDp d q c'' O _ (H.out.ops.below P3.out.1.2.2.2)).mono ?_
  rintro e w3 ⟨rfl, R3, D3⟩
  obtain ⟨q3, hq3⟩ : ∃ q3, q3 = W3.heap.size := ⟨_, rfl⟩
  have T3 : Hid (TD w w3 (.slice a n c) (.slice b m c') (.slice d q c'') (.slice (some ⟨q1, 0, none⟩) n n) (.slice (some ⟨q2, 0, none⟩) m m) (.slice none 0 0)) := P3.out.1.kept D3
  have hq3b : q2 < q3 := by rw [hq3]; exact (World.ownsRow.lt P3.out.2.2 q2 rfl).2
  have K3 : Hid (FlL w3 w.heap.size (.slice (some ⟨q1, 0, none⟩) n n) (lst F n) ∧ FlL w3 w.heap.size (.slice (some ⟨q2, 0, none⟩) m m) (lst G m)) := ⟨P3.out.2.1.kept D3, P3.out.2.2.kept D3⟩
  rw [← hq3] at R3 ⊢
  have R3 := R3.mono (B' := w.heap.size) (by omega)
  have R3' : Hid (DpL w3 w.heap.size (.slice (some ⟨q3, 0, none⟩) q q) (lst O q)) := R3
  clear HW3 D3 P3 hq3 s0 s1 s2 o0 o1 o2 of R3
  obtain ⟨⟨⟨s0, s1, s2⟩, _, _⟩, ⟨⟨r0, r1, r2⟩, rf, _⟩, ⟨⟨o0, o1, o2⟩, of, _⟩, _⟩ := T3.out
  go_wp2
  refine bodyPost_ret (v := .agg #[.slice (some ⟨q1, 0, none⟩) n n, .slice (some ⟨q2, 0, none⟩) m m, .slice (some ⟨q3, 0, none⟩) q q]) (by simp [results, Try.results27, go_sem, r0, r1, r2]) rfl ⟨_, _, _, rfl, ⟨?_, ?_, ?_, fun g h1 h2 => by have e1 : q1 = g := Option.some.inj h1; have e2 : q2 = g := Option.some.inj h2; omega⟩, ?_⟩
  · repeat (refine FlL.far ?_ (ob_ne (by omega)) _ _)
    exact K3.out.1
  · repeat (refine FlL.far ?_ (ob_ne (by omega)) _ _)
    exact K3.out.2
  · repeat (refine DpL.far ?_ (ob_ne (by omega)) _ _)
    exact R3'.out
  · repeat (refine below_far ?_ (by omega) _ _)
    exact T3.out.2.2.2
end Go.Proofs.Ytcalgmhpagpnnaa
