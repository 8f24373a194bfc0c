/- ReadBank of the specification. Conditions: texts of at most 1048576 bytes. -/
import Derived.Test.YtedhlmipcfdldaaGreatDoorRbn
import Derived.Test.YtedhlmipcfdldaaGreatDoorRbr
import Derived.Test.YtedhlmipcfdldaaGreatDoorNuw
import Derived.Test.YtedhlmipcfdldaaGreatDoorBw
import Derived.Deep.RegionHeld3
namespace Go.Proofs.YtedhlmipcfdldaaGreatDoor
open Go.RowKit Go.Shelf
set_option maxRecDepth 8000

/-- The specification's memory and what it has read. -/
def SrS (s : ByteArray) (w : World) (H : Nat) (r : ByteArray) (k : Bk) (L : List Acc) (O : List Ord) (v u : Value) (W : World) : Prop := L.length + O.length + r.size ≤ s.size ∧ Inv s.data.toList r.data.toList k L O ∧ BkS H v u k L O W ∧ Below H w W
theorem BkS.below {H : Nat} {v u : Value} {k : Bk} {L : List Acc} {O : List Ord} {w w' : World} (h : BkS H v u k L O w) (hb : Below w.heap.size w w') : BkS H v u k L O w' :=
  h.grown (grown_stp (Stp.ofBelow (B := w.heap.size) hb)) (by have := h.2.1.2.2; omega) (fun e => by have := (h.blk.1 _ e).2; omega) (fun e => by have := (h.blk.2 _ e).2; omega)
theorem neLit {x : ByteArray} {l : List UInt8} (h : x ≠ ⟨l.toArray⟩) : ¬ x.toList = l := by
  intro e
  rw [Lib.toList_data] at e
  exact h (ext_ofD (by rw [e]))
theorem Ints.num {w : World} {B g m c : Nat} {l : List Int} (h : Ints w B (.slice (some ⟨g, 0, none⟩) m c) l) (i : Nat) (hi : i < l.length) : w.cell? ⟨g, i, none⟩ = some (.int .i64 l[i]) := by
  obtain ⟨g', c', e, _⟩ := h.shape
  obtain ⟨e1, e2, e3⟩ : g = g' ∧ m = l.length ∧ c = c' := by simpa using e
  have h1 := h.1
  rw [e2] at h1
  rw [World.ownsRow.cellAt h1 i (by omega)]
  simp [List.getElem?_eq_getElem hi]
/-- The numbers of a line lie there. -/
def Nms (g : Nat) (l : List Value) (V : World) : Prop := g < V.heap.size ∧ ∀ j x, l[j]? = some x → V.cell? ⟨g, j, none⟩ = some x
theorem Nms.alloc {g : Nat} {l : List Value} {V : World} (h : Nms g l V) (o : Obj) : Nms g l (V.alloc o) := ⟨by have := h.1; simp; omega, fun j x hj => (World.cell?_alloc_lt _ _ _ h.1).trans (h.2 j x hj)⟩
theorem Nms.grown {g : Nat} {l : List Value} {V W : World} {q : Option Nat} (h : Nms g l V) (hg : V.grownBy W q) (hq : q ≠ some g) : Nms g l W := ⟨Nat.lt_of_lt_of_le h.1 hg.size, fun j x hj => (World.cell?_of_block (w := V) (hg.block g h.1 (fun e => hq e.symm))).trans (h.2 j x hj)⟩
theorem Nms.set {g : Nat} {l : List Value} {V : World} (h : Nms g l V) {Q : Nat} (hne : Q ≠ g) (q : Nat) (u : Value) : Nms g l (V.setCell ⟨Q, q, none⟩ u) := ⟨by simpa [World.setCell] using h.1, fun j x hj => (World.cell?_setCell_other _ _ _ _ (by intro e; exact hne (congrArg Addr.block e))).trans (h.2 j x hj)⟩
theorem SrS.below {s : ByteArray} {w w1 w2 : World} {H : Nat} {r : ByteArray} {k : Bk} {L : List Acc} {O : List Ord} {v u : Value} (h : SrS s w H r k L O v u w1) (hb : Below w1.heap.size w1 w2) : SrS s w H r k L O v u w2 := ⟨h.1, h.2.1, h.2.2.1.below hb, h.2.2.2.trans (hb.mono (by have := h.2.2.1.2.1.2.2; omega))⟩
set_option maxHeartbeats 8000000 in
theorem specReadW (s : ByteArray) (hs : s.size ≤ 1048576) (w : World) : Calls Tryz.prog 4 #[.string s] w fun e w' => WOut w s e w' := by
  obtain ⟨H, hh⟩ : ∃ H, w.heap.size = H := ⟨_, rfl⟩
  have HH : Hid (w.heap.size = H) := hh
  obtain ⟨W0, hW0, X0⟩ : ∃ W0, W0 = (w.alloc (.cells zBk.toArray 25)).alloc (.cells zBk.toArray 25) ∧ Hid (SrS s w H s ⟨0, 0, 0, 0, 0⟩ [] [] (.slice none 0 0) (.slice none 0 0) W0) := by
    have b1 : ∀ (V : World) (o : Obj), Below V.heap.size V (V.alloc o) := fun V o => (Below.refl _ _).alloc (Nat.le_refl _) _
    have v0 := (Vals.new w zBk 25).kept (b1 _ (.cells zBk.toArray 25)) (by simp)
    have v1 := Vals.new (w.alloc (.cells zBk.toArray 25)) zBk 25
    simp only [World.size_alloc] at v1
    rw [hh] at v0 v1
    have bb : Below w.heap.size w ((w.alloc (.cells zBk.toArray 25)).alloc (.cells zBk.toArray 25)) := ((Below.refl _ _).alloc (Nat.le_refl _) _).alloc (by simp) _
    rw [hh] at bb
    exact ⟨_, rfl, by simp, Inv.start _ _, ⟨v0, ⟨⟨v1.1 0 _ rfl, v1.1 1 _ rfl, v1.1 2 _ rfl, v1.1 3 _ rfl, v1.1 4 _ rfl, v1.1 5 _ rfl, v1.1 6 _ rfl⟩, v1.2.1, v1.2.2⟩, AL.nil' _ _, OrdL.nil _ _⟩, bb⟩
  have HW0 : Hid (W0 = (w.alloc (.cells #[.int .i64 0, .slice none 0 0, .slice none 0 0, .int .i64 0, .int .i64 0, .int .i64 0, .int .i64 0] 25)).alloc (.cells #[.int .i64 0, .slice none 0 0, .slice none 0 0, .int .i64 0, .int .i64 0, .int .i64 0, .int .i64 0] 25)) := hW0
  clear hW0
  go_enter Tryz.func4, Tryz.ntmps4
  go_upto_region 2 with fail
  rw [← HW0.out]
  clear HW0 hh
  go_wp2
  go_loopw [5] (fun rv wr => ∃ (r : ByteArray) (k : Bk) (L : List Acc) (O : List Ord) (v u : Value), rv = .string r ∧ r.size ≤ 1048576 ∧ Hid (SrS s w H r k L O v u wr)) (fun rv _ => strOf rv)
  case atStart => exact ⟨s, _, [], [], _, _, rfl, hs, X0⟩
  case round =>
    clear X0
    obtain ⟨r, k, L, O, v, u, rfl, hr, X⟩ := hrel
    by_cases he : r.toList.isEmpty = true
    · have HE : Hid (∀ k' L' O', RdB s.data.toList k' L' O' [] → k = k' ∧ L = L' ∧ O = O') := by
        have h := X.out.2.1
        rw [Lib.toList_data, List.isEmpty_iff] at he
        rw [he] at h
        exact h.over
      go_upto_region 20 with fail
      have hL1 : L.length ≤ 1048576 := by have := X.out.1; omega
      have hO1 : O.length ≤ 1048576 := by have := X.out.1; omega
      obtain ⟨a1, c1, hv⟩ := X.out.2.2.1.2.2.1.len
      obtain ⟨a2, c2, hu, _⟩ := X.out.2.2.1.2.2.2.shape
      subst hv
      subst hu
      have HFo : Hid (Fo wr a1 L.length (FL L) ∧ Ords wr a2 O.length (OrdF O)) := ⟨(X.out.2.2.1.2.2.1.fo hL1).2, (X.out.2.2.1.2.2.2.list hO1).2⟩
      clear hL1 hO1
      obtain ⟨t, HT⟩ : ∃ t : ByteArray, Hid ((bankOk (FL L) L.length (OrdF O) O.length k → t = bankB (FL L) L.length (OrdF O) O.length k) ∧ (¬ bankOk (FL L) L.length (OrdF O) O.length k → t = ⟨#[]⟩)) := by
        by_cases hb : bankOk (FL L) L.length (OrdF O) O.length k
        · exact ⟨_, fun _ => rfl, fun h => absurd hb h⟩
        · exact ⟨_, fun h => absurd h hb, fun _ => rfl⟩
      have HY : Hid (t = s → s.toList.isEmpty = false → RdB s.data.toList k L O []) := fun e he => by
        by_cases hb : bankOk (FL L) L.length (OrdF O) O.length k
        · exact (rdb_iff s k L O).2 ⟨hb, e.symm.trans (HT.out.1 hb)⟩
        · rw [← e, HT.out.2 hb, Lib.toList_data] at he
          simp at he
      have HN : Hid (t ≠ s → ∀ k' L' O', ¬ RdB s.data.toList k' L' O' []) := fun hne k' L' O' hh => by
        obtain ⟨rfl, rfl, rfl⟩ := HE.out k' L' O' hh
        obtain ⟨h1, h2⟩ := (rdb_iff _ _ _ _).1 hh
        exact hne ((HT.out.1 h1).trans h2.symm)
      obtain ⟨m1, hm1⟩ : ∃ m, L.length = m := ⟨_, rfl⟩
      obtain ⟨m2, hm2⟩ : ∃ m, O.length = m := ⟨_, rfl⟩
      have X' : Hid (SrS s w H r k L O (.slice a1 m1 c1) (.slice a2 m2 c2) wr) := by rw [← hm1, ← hm2]; exact X.out
      rw [hm1, hm2] at HFo HT
      clear X hm1 hm2 HE
      by_cases hse : s.toList.isEmpty = true
      · have FNO : Hid (∀ W, Below H w W → WOut w s (.returned (.tuple #[.agg zBk.toArray, .bool false])) W) := fun W hb => ⟨by rw [HH.out]; exact hb, Or.inr ⟨fun k' L' O' hh => by
          obtain ⟨h1, h2⟩ := (rdb_iff _ _ _ _).1 hh
          have h3 := (bankB_size h1).2
          rw [← h2, ← lenD] at h3
          rw [Lib.toList_data, List.isEmpty_iff] at hse
          rw [hse] at h3
          simp at h3, rfl⟩⟩
        clear HY HN HT HFo
        have r0 := X'.out.2.2.1.1.1 0 _ rfl
        have r1 := X'.out.2.2.1.1.1 1 _ rfl
        have r2 := X'.out.2.2.1.1.1 2 _ rfl
        have r3 := X'.out.2.2.1.1.1 3 _ rfl
        have r4 := X'.out.2.2.1.1.1 4 _ rfl
        have r5 := X'.out.2.2.1.1.1 5 _ rfl
        have r6 := X'.out.2.2.1.1.1 6 _ rfl
        have fz := X'.out.2.2.1.1.2.1
        have FI : Hid (WOut w s (.returned (.tuple #[.agg zBk.toArray, .bool false])) ((((((((wr).setCell ⟨H, 0, none⟩ (.int .i64 0)).setCell ⟨H, 1, none⟩ (.slice none 0 0)).setCell ⟨H, 2, none⟩ (.slice none 0 0)).setCell ⟨H, 3, none⟩ (.int .i64 0)).setCell ⟨H, 4, none⟩ (.int .i64 0)).setCell ⟨H, 5, none⟩ (.int .i64 0)).setCell ⟨H, 6, none⟩ (.int .i64 0))) := FNO.out _ ((((((((X'.out.2.2.2).setCell (p := ⟨H, 0, none⟩) (Nat.le_refl _) (.int .i64 0)).setCell (p := ⟨H, 1, none⟩) (Nat.le_refl _) (.slice none 0 0)).setCell (p := ⟨H, 2, none⟩) (Nat.le_refl _) (.slice none 0 0)).setCell (p := ⟨H, 3, none⟩) (Nat.le_refl _) (.int .i64 0)).setCell (p := ⟨H, 4, none⟩) (Nat.le_refl _) (.int .i64 0)).setCell (p := ⟨H, 5, none⟩) (Nat.le_refl _) (.int .i64 0)).setCell (p := ⟨H, 6, none⟩) (Nat.le_refl _) (.int .i64 0))
        clear FNO X'
        go_wp2
        refine bodyPost_ret (v := .tuple #[.agg zBk.toArray, .bool false]) (by simp [results, Tryz.results4, go_sem, zBk, r0, r1, r2, r3, r4, r5, r6]) rfl ?_
        exact FI.out
      · have hse' : s.toList.isEmpty = false := by simpa using hse
        obtain ⟨⟨s0, s1', s2', s3, s4, s5, s6⟩, sf, sz⟩ := X'.out.2.2.1.2.1
        have HY2 : Hid (t = s → RdB s.data.toList k L O []) := fun e => HY.out e hse'
        clear HY hse
        go_wp2_with fail
        refine (specBT a1 a2 m1 c1 m2 c2 (FL L) (OrdF O) k wr HFo.out.1 HFo.out.2 t HT.out).mono ?_
        rintro e w5 ⟨rfl, B5⟩
        have X5 : Hid (SrS s w H r k L O (.slice a1 m1 c1) (.slice a2 m2 c2) w5) := ⟨X'.out.1, X'.out.2.1, X'.out.2.2.1.below B5, X'.out.2.2.2.trans (B5.mono (by have := X'.out.2.2.1.2.1.2.2; omega))⟩
        clear X' B5 HT HFo s0 s1' s2' s3 s4 s5 s6 sf sz
        by_cases hts : t = s
        · have HR : Hid (RdB s.data.toList k L O []) := HY2.out hts
          clear HY2 HN
          subst hts
          obtain ⟨⟨s0, s1', s2', s3, s4, s5, s6⟩, sf, sz⟩ := X5.out.2.2.1.2.1
          have r0 := X5.out.2.2.1.1.1 0 _ rfl
          have r1 := X5.out.2.2.1.1.1 1 _ rfl
          have r2 := X5.out.2.2.1.1.1 2 _ rfl
          have r3 := X5.out.2.2.1.1.1 3 _ rfl
          have r4 := X5.out.2.2.1.1.1 4 _ rfl
          have r5 := X5.out.2.2.1.1.1 5 _ rfl
          have r6 := X5.out.2.2.1.1.1 6 _ rfl
          have fz := X5.out.2.2.1.1.2.1
          have nh : ¬ H = H + 1 := by omega
          have FI : Hid (WOut w t (.returned (.tuple #[.agg (bkC k (.slice a1 m1 c1) (.slice a2 m2 c2)).toArray, .bool true])) ((((((((w5).setCell ⟨H, 0, none⟩ (.int .i64 k.day)).setCell ⟨H, 1, none⟩ (.slice a1 m1 c1)).setCell ⟨H, 2, none⟩ (.slice a2 m2 c2)).setCell ⟨H, 3, none⟩ (.int .i64 k.inn)).setCell ⟨H, 4, none⟩ (.int .i64 k.out)).setCell ⟨H, 5, none⟩ (.int .i64 k.posted)).setCell ⟨H, 6, none⟩ (.int .i64 k.missed))) := ⟨by rw [HH.out]; exact (((((((X5.out.2.2.2).setCell (p := ⟨H, 0, none⟩) (Nat.le_refl _) (.int .i64 k.day)).setCell (p := ⟨H, 1, none⟩) (Nat.le_refl _) (.slice a1 m1 c1)).setCell (p := ⟨H, 2, none⟩) (Nat.le_refl _) (.slice a2 m2 c2)).setCell (p := ⟨H, 3, none⟩) (Nat.le_refl _) (.int .i64 k.inn)).setCell (p := ⟨H, 4, none⟩) (Nat.le_refl _) (.int .i64 k.out)).setCell (p := ⟨H, 5, none⟩) (Nat.le_refl _) (.int .i64 k.posted)).setCell (p := ⟨H, 6, none⟩) (Nat.le_refl _) (.int .i64 k.missed), Or.inl ⟨k, L, O, _, _, HR.out, rfl, AL.mono ((((((((X5.out.2.2.1.2.2.1).put (q := H) (by omega) 0 (.int .i64 k.day)).put (q := H) (by omega) 1 (.slice a1 m1 c1)).put (q := H) (by omega) 2 (.slice a2 m2 c2)).put (q := H) (by omega) 3 (.int .i64 k.inn)).put (q := H) (by omega) 4 (.int .i64 k.out)).put (q := H) (by omega) 5 (.int .i64 k.posted)).put (q := H) (by omega) 6 (.int .i64 k.missed)) (by rw [HH.out]; omega), OrdL.mono ((((((((X5.out.2.2.1.2.2.2).put (q := H) (by omega) 0 (.int .i64 k.day)).put (q := H) (by omega) 1 (.slice a1 m1 c1)).put (q := H) (by omega) 2 (.slice a2 m2 c2)).put (q := H) (by omega) 3 (.int .i64 k.inn)).put (q := H) (by omega) 4 (.int .i64 k.out)).put (q := H) (by omega) 5 (.int .i64 k.posted)).put (q := H) (by omega) 6 (.int .i64 k.missed)) (by rw [HH.out]; omega)⟩⟩
          clear X5 HR
          have hq : (t.toList == t.toList) = true := by simp
          go_wp2
          refine bodyPost_ret (v := .tuple #[.agg (bkC k (.slice a1 m1 c1) (.slice a2 m2 c2)).toArray, .bool true]) (by simp [results, Tryz.results4, go_sem, bkC, r0, r1, r2, r3, r4, r5, r6]) rfl ?_
          exact FI.out
        · have FNO : Hid (∀ W, Below H w W → WOut w s (.returned (.tuple #[.agg zBk.toArray, .bool false])) W) := fun W hb => ⟨by rw [HH.out]; exact hb, Or.inr ⟨HN.out hts, rfl⟩⟩
          have hq : (t.toList == s.toList) = false := by
            rw [beq_eq_false_iff_ne]
            intro e
            exact hts (ext_ofD (by rw [Lib.toList_data, Lib.toList_data] at e; exact e))
          clear HY2 HN hts
          have r0 := X5.out.2.2.1.1.1 0 _ rfl
          have r1 := X5.out.2.2.1.1.1 1 _ rfl
          have r2 := X5.out.2.2.1.1.1 2 _ rfl
          have r3 := X5.out.2.2.1.1.1 3 _ rfl
          have r4 := X5.out.2.2.1.1.1 4 _ rfl
          have r5 := X5.out.2.2.1.1.1 5 _ rfl
          have r6 := X5.out.2.2.1.1.1 6 _ rfl
          have fz := X5.out.2.2.1.1.2.1
          have FI : Hid (WOut w s (.returned (.tuple #[.agg zBk.toArray, .bool false])) ((((((((w5).setCell ⟨H, 0, none⟩ (.int .i64 0)).setCell ⟨H, 1, none⟩ (.slice none 0 0)).setCell ⟨H, 2, none⟩ (.slice none 0 0)).setCell ⟨H, 3, none⟩ (.int .i64 0)).setCell ⟨H, 4, none⟩ (.int .i64 0)).setCell ⟨H, 5, none⟩ (.int .i64 0)).setCell ⟨H, 6, none⟩ (.int .i64 0))) := FNO.out _ ((((((((X5.out.2.2.2).setCell (p := ⟨H, 0, none⟩) (Nat.le_refl _) (.int .i64 0)).setCell (p := ⟨H, 1, none⟩) (Nat.le_refl _) (.slice none 0 0)).setCell (p := ⟨H, 2, none⟩) (Nat.le_refl _) (.slice none 0 0)).setCell (p := ⟨H, 3, none⟩) (Nat.le_refl _) (.int .i64 0)).setCell (p := ⟨H, 4, none⟩) (Nat.le_refl _) (.int .i64 0)).setCell (p := ⟨H, 5, none⟩) (Nat.le_refl _) (.int .i64 0)).setCell (p := ⟨H, 6, none⟩) (Nat.le_refl _) (.int .i64 0))
          clear FNO X5
          go_wp2
          refine bodyPost_ret (v := .tuple #[.agg zBk.toArray, .bool false]) (by simp [results, Tryz.results4, go_sem, zBk, r0, r1, r2, r3, r4, r5, r6]) rfl ?_
          exact FI.out
    · have he' : r.toList.isEmpty = false := by simpa using he
      by_cases hl : s.size ≤ 10000
      · go_wp2_with fail
        refine (specCut 10 r wr hr).mono ?_
        rintro e w1 ⟨x, y, b, rfl, hc1, hx, hy, hyb, B1⟩
        have HC1 : Hid (cutL 10 r.data.toList = (x.data.toList, y.data.toList, b) ∧ (b = true → y.size < r.size)) := ⟨hc1, hyb⟩
        have HR0 : Hid (r.data.toList ≠ []) := fun e => he (by rw [Lib.toList_data, e]; rfl)
        have X1 : Hid (SrS s w H r k L O v u w1) := X.out.below B1
        have hx' : x.size ≤ 1048576 := Nat.le_trans hx hr
        have hy' : y.size ≤ 1048576 := Nat.le_trans hy hr
        clear hc1 hyb B1 hx hy X he he'
        go_wp2_with fail
        refine (specCut 32 x w1 hx').mono ?_
        rintro e w2 ⟨z, q, c, rfl, hc2, _, hq, _, B2⟩
        have HC2 : Hid (cutL 32 x.data.toList = (z.data.toList, q.data.toList, c)) := hc2
        have X2 : Hid (SrS s w H r k L O v u w2) := X1.out.below B2
        have hq' : q.size ≤ 1048576 := Nat.le_trans hq hx'
        clear hc2 B2 hq hx' X1
        go_wp2_with fail
        refine (specNums q w2 hq').mono ?_
        rintro e w3 ⟨B3, hor⟩
        have X3 : Hid (SrS s w H r k L O v u w3) := X2.out.below B3
        rcases hor with ⟨ns, v3, hns, hnl, rfl, I3⟩ | ⟨hns, rfl⟩
        rotate_left
        · have FNO : Hid (∀ W, Below H w W → WOut w s (.returned (.tuple #[.agg zBk.toArray, .bool false])) W) := fun W hb => ⟨by rw [HH.out]; exact hb, Or.inr ⟨X3.out.2.1.bad2 HR0.out HC1.out.1 HC2.out hns, rfl⟩⟩
          clear B3 X2 HC1 HC2 HR0 hns
          cases b with
          | true =>
            have r0 := X3.out.2.2.1.1.1 0 _ rfl
            have r1 := X3.out.2.2.1.1.1 1 _ rfl
            have r2 := X3.out.2.2.1.1.1 2 _ rfl
            have r3 := X3.out.2.2.1.1.1 3 _ rfl
            have r4 := X3.out.2.2.1.1.1 4 _ rfl
            have r5 := X3.out.2.2.1.1.1 5 _ rfl
            have r6 := X3.out.2.2.1.1.1 6 _ rfl
            have fz := X3.out.2.2.1.1.2.1
            have FI : Hid (WOut w s (.returned (.tuple #[.agg zBk.toArray, .bool false])) ((((((((w3).setCell ⟨H, 0, none⟩ (.int .i64 0)).setCell ⟨H, 1, none⟩ (.slice none 0 0)).setCell ⟨H, 2, none⟩ (.slice none 0 0)).setCell ⟨H, 3, none⟩ (.int .i64 0)).setCell ⟨H, 4, none⟩ (.int .i64 0)).setCell ⟨H, 5, none⟩ (.int .i64 0)).setCell ⟨H, 6, none⟩ (.int .i64 0))) := FNO.out _ ((((((((X3.out.2.2.2).setCell (p := ⟨H, 0, none⟩) (Nat.le_refl _) (.int .i64 0)).setCell (p := ⟨H, 1, none⟩) (Nat.le_refl _) (.slice none 0 0)).setCell (p := ⟨H, 2, none⟩) (Nat.le_refl _) (.slice none 0 0)).setCell (p := ⟨H, 3, none⟩) (Nat.le_refl _) (.int .i64 0)).setCell (p := ⟨H, 4, none⟩) (Nat.le_refl _) (.int .i64 0)).setCell (p := ⟨H, 5, none⟩) (Nat.le_refl _) (.int .i64 0)).setCell (p := ⟨H, 6, none⟩) (Nat.le_refl _) (.int .i64 0))
            clear FNO X3
            go_wp2
            refine bodyPost_ret (v := .tuple #[.agg zBk.toArray, .bool false]) (by simp [results, Tryz.results4, go_sem, zBk, r0, r1, r2, r3, r4, r5, r6]) rfl ?_
            exact FI.out
          | false =>
            have r0 := X3.out.2.2.1.1.1 0 _ rfl
            have r1 := X3.out.2.2.1.1.1 1 _ rfl
            have r2 := X3.out.2.2.1.1.1 2 _ rfl
            have r3 := X3.out.2.2.1.1.1 3 _ rfl
            have r4 := X3.out.2.2.1.1.1 4 _ rfl
            have r5 := X3.out.2.2.1.1.1 5 _ rfl
            have r6 := X3.out.2.2.1.1.1 6 _ rfl
            have fz := X3.out.2.2.1.1.2.1
            have FI : Hid (WOut w s (.returned (.tuple #[.agg zBk.toArray, .bool false])) ((((((((w3).setCell ⟨H, 0, none⟩ (.int .i64 0)).setCell ⟨H, 1, none⟩ (.slice none 0 0)).setCell ⟨H, 2, none⟩ (.slice none 0 0)).setCell ⟨H, 3, none⟩ (.int .i64 0)).setCell ⟨H, 4, none⟩ (.int .i64 0)).setCell ⟨H, 5, none⟩ (.int .i64 0)).setCell ⟨H, 6, none⟩ (.int .i64 0))) := FNO.out _ ((((((((X3.out.2.2.2).setCell (p := ⟨H, 0, none⟩) (Nat.le_refl _) (.int .i64 0)).setCell (p := ⟨H, 1, none⟩) (Nat.le_refl _) (.slice none 0 0)).setCell (p := ⟨H, 2, none⟩) (Nat.le_refl _) (.slice none 0 0)).setCell (p := ⟨H, 3, none⟩) (Nat.le_refl _) (.int .i64 0)).setCell (p := ⟨H, 4, none⟩) (Nat.le_refl _) (.int .i64 0)).setCell (p := ⟨H, 5, none⟩) (Nat.le_refl _) (.int .i64 0)).setCell (p := ⟨H, 6, none⟩) (Nat.le_refl _) (.int .i64 0))
            clear FNO X3
            go_wp2
            refine bodyPost_ret (v := .tuple #[.agg zBk.toArray, .bool false]) (by simp [results, Tryz.results4, go_sem, zBk, r0, r1, r2, r3, r4, r5, r6]) rfl ?_
            exact FI.out
        cases b with
        | false =>
          have FNO : Hid (∀ W, Below H w W → WOut w s (.returned (.tuple #[.agg zBk.toArray, .bool false])) W) := fun W hb => ⟨by rw [HH.out]; exact hb, Or.inr ⟨X3.out.2.1.bad HR0.out HC1.out.1, rfl⟩⟩
          obtain ⟨g3, cap3, rfl, hg31, hg32⟩ := I3.shape
          clear B3 X2 HC1 HC2 HR0 hns I3 hnl hg31 hg32
          generalize ns.length = l3
          have r0 := X3.out.2.2.1.1.1 0 _ rfl
          have r1 := X3.out.2.2.1.1.1 1 _ rfl
          have r2 := X3.out.2.2.1.1.1 2 _ rfl
          have r3 := X3.out.2.2.1.1.1 3 _ rfl
          have r4 := X3.out.2.2.1.1.1 4 _ rfl
          have r5 := X3.out.2.2.1.1.1 5 _ rfl
          have r6 := X3.out.2.2.1.1.1 6 _ rfl
          have fz := X3.out.2.2.1.1.2.1
          have FI : Hid (WOut w s (.returned (.tuple #[.agg zBk.toArray, .bool false])) ((((((((w3).setCell ⟨H, 0, none⟩ (.int .i64 0)).setCell ⟨H, 1, none⟩ (.slice none 0 0)).setCell ⟨H, 2, none⟩ (.slice none 0 0)).setCell ⟨H, 3, none⟩ (.int .i64 0)).setCell ⟨H, 4, none⟩ (.int .i64 0)).setCell ⟨H, 5, none⟩ (.int .i64 0)).setCell ⟨H, 6, none⟩ (.int .i64 0))) := FNO.out _ ((((((((X3.out.2.2.2).setCell (p := ⟨H, 0, none⟩) (Nat.le_refl _) (.int .i64 0)).setCell (p := ⟨H, 1, none⟩) (Nat.le_refl _) (.slice none 0 0)).setCell (p := ⟨H, 2, none⟩) (Nat.le_refl _) (.slice none 0 0)).setCell (p := ⟨H, 3, none⟩) (Nat.le_refl _) (.int .i64 0)).setCell (p := ⟨H, 4, none⟩) (Nat.le_refl _) (.int .i64 0)).setCell (p := ⟨H, 5, none⟩) (Nat.le_refl _) (.int .i64 0)).setCell (p := ⟨H, 6, none⟩) (Nat.le_refl _) (.int .i64 0))
          clear FNO X3
          go_wp2
          refine bodyPost_ret (v := .tuple #[.agg zBk.toArray, .bool false]) (by simp [results, Tryz.results4, go_sem, zBk, r0, r1, r2, r3, r4, r5, r6]) rfl ?_
          exact FI.out
        | true =>
          obtain ⟨g3, cap3, rfl, hg31, hg32⟩ := I3.shape
          have HNS : Hid (numsOf q.data.toList = some ns) := hns
          have HI3 : Hid (Ints w3 w2.heap.size (.slice (some ⟨g3, 0, none⟩) ns.length cap3) ns) := I3
          have hgH : H + 1 < g3 := by have := X2.out.2.2.1.2.1.2.2; omega
          have HAP : Hid ((∀ q, v.ownBlock = some q → q ≠ g3) ∧ (∀ q, u.ownBlock = some q → q ≠ g3)) := ⟨fun q hq => by have := (X2.out.2.2.1.blk.1 q hq).2; omega, fun q hq => by have := (X2.out.2.2.1.blk.2 q hq).2; omega⟩
          clear hns I3 B3 X2 hg31
          obtain ⟨l3, hl3⟩ : ∃ l, ns.length = l := ⟨_, rfl⟩
          have HL3 : Hid (ns.length = l3) := hl3
          rw [hl3] at HI3
          simp only [hl3]
          have hl3' : l3 ≤ 1048577 := by omega
          clear hl3 hnl hq'
          go_upto_region 10 with fail
          by_cases zb : z = ⟨#[98, 97, 110, 107]⟩
          · have q1 : z.toList = [98, 97, 110, 107] := by rw [zb, Lib.toList_data]
            have q2 : ¬ z.toList = [97, 99, 99, 111, 117, 110, 116] := neLit (by rw [zb]; decide)
            have q3 : ¬ z.toList = [111, 114, 100, 101, 114] := neLit (by rw [zb]; decide)
            by_cases l5 : l3 = 5
            · subst l5
              have hyr : y.size < r.size := HC1.out.2 rfl
              obtain ⟨k2, hk2⟩ := bk_of5 HL3.out
              have HX : Hid (Inv s.data.toList y.data.toList k2 L O) := X3.out.2.1.bank HR0.out HC1.out.1 HC2.out HNS.out (by rw [zb]; rfl) hk2
              subst hk2
              have c0 := HI3.out.num 0 (by simp [bkN])
              have c1 := HI3.out.num 1 (by simp [bkN])
              have c2 := HI3.out.num 2 (by simp [bkN])
              have c3 := HI3.out.num 3 (by simp [bkN])
              have c4 := HI3.out.num 4 (by simp [bkN])
              simp only [bkN, List.getElem_cons_zero, List.getElem_cons_succ] at c0 c1 c2 c3 c4
              obtain ⟨⟨s0, s1', s2', s3, s4, s5, s6⟩, sf, sz⟩ := X3.out.2.2.1.2.1
              have ng : ¬ g3 = H + 1 := by omega
              have ng' : ¬ H + 1 = g3 := by omega
              have X9 : Hid (SrS s w H y k2 L O v u ((((((w3).setCell ⟨H + 1, 0, none⟩ (.int .i64 k2.day)).setCell ⟨H + 1, 3, none⟩ (.int .i64 k2.inn)).setCell ⟨H + 1, 4, none⟩ (.int .i64 k2.out)).setCell ⟨H + 1, 5, none⟩ (.int .i64 k2.posted)).setCell ⟨H + 1, 6, none⟩ (.int .i64 k2.missed))) := ⟨by have := X3.out.1; omega, HX.out, ⟨(((((X3.out.2.2.1.1).far (by omega) 0 (.int .i64 k2.day)).far (by omega) 3 (.int .i64 k2.inn)).far (by omega) 4 (.int .i64 k2.out)).far (by omega) 5 (.int .i64 k2.posted)).far (by omega) 6 (.int .i64 k2.missed), (((((X3.out.2.2.1.2.1).set0 (.int .i64 k2.day)).set3 (.int .i64 k2.inn)).set4 (.int .i64 k2.out)).set5 (.int .i64 k2.posted)).set6 (.int .i64 k2.missed), (((((X3.out.2.2.1.2.2.1).put (q := H + 1) (by omega) 0 (.int .i64 k2.day)).put (q := H + 1) (by omega) 3 (.int .i64 k2.inn)).put (q := H + 1) (by omega) 4 (.int .i64 k2.out)).put (q := H + 1) (by omega) 5 (.int .i64 k2.posted)).put (q := H + 1) (by omega) 6 (.int .i64 k2.missed), (((((X3.out.2.2.1.2.2.2).put (q := H + 1) (by omega) 0 (.int .i64 k2.day)).put (q := H + 1) (by omega) 3 (.int .i64 k2.inn)).put (q := H + 1) (by omega) 4 (.int .i64 k2.out)).put (q := H + 1) (by omega) 5 (.int .i64 k2.posted)).put (q := H + 1) (by omega) 6 (.int .i64 k2.missed)⟩, (((((X3.out.2.2.2).setCell (p := ⟨H + 1, 0, none⟩) (by show H ≤ H + 1; omega) (.int .i64 k2.day)).setCell (p := ⟨H + 1, 3, none⟩) (by show H ≤ H + 1; omega) (.int .i64 k2.inn)).setCell (p := ⟨H + 1, 4, none⟩) (by show H ≤ H + 1; omega) (.int .i64 k2.out)).setCell (p := ⟨H + 1, 5, none⟩) (by show H ≤ H + 1; omega) (.int .i64 k2.posted)).setCell (p := ⟨H + 1, 6, none⟩) (by show H ≤ H + 1; omega) (.int .i64 k2.missed)⟩
              clear HX X3 HC1 HC2 HR0 HNS HI3 HL3 zb s1' s2'
              go_wp2
              go_roundw
              case rel => exact ⟨y, k2, L, O, v, u, rfl, hy', X9⟩
              case measure => simpa [strOf] using hyr
            · have l5' : ((l3 : Int) == 5) = false := by simp; omega
              have HX : Hid (Inv s.data.toList y.data.toList k L O) := X3.out.2.1.other HR0.out HC1.out.1 HC2.out HNS.out (fun e => l5 (HL3.out.symm.trans e.2)) (fun e => by rw [zb] at e; exact absurd e.1 (by decide)) (fun e => by rw [zb] at e; exact absurd e.1 (by decide))
              clear zb
              have hyr : y.size < r.size := HC1.out.2 rfl
              have X9 : Hid (SrS s w H y k L O v u w3) := ⟨by have := X3.out.1; omega, HX.out, X3.out.2.2.1, X3.out.2.2.2⟩
              clear HX X3 HC1 HC2 HR0 HNS HI3 HL3
              go_wp2
              go_roundw
              case rel => exact ⟨y, k, L, O, v, u, rfl, hy', X9⟩
              case measure => simpa [strOf] using hyr
          · have q1 : ¬ z.toList = [98, 97, 110, 107] := neLit zb
            by_cases za : z = ⟨#[97, 99, 99, 111, 117, 110, 116]⟩
            · have q2 : z.toList = [97, 99, 99, 111, 117, 110, 116] := by rw [za, Lib.toList_data]
              have q3 : ¬ z.toList = [111, 114, 100, 101, 114] := neLit (by rw [za]; decide)
              by_cases l8 : l3 = 8
              · skip
                subst l8
                have hyr : y.size < r.size := HC1.out.2 rfl
                obtain ⟨n0, n1, n2, n3, n4, n5, n6, n7, hnl, hk⟩ := accS_of8 HL3.out
                have HX : Hid (Inv s.data.toList y.data.toList k (L ++ [(⟨n0, n1, n2, n3, n4, n5 == 1, n6, n7⟩ : Acc)]) O) := X3.out.2.1.acc HR0.out HC1.out.1 HC2.out HNS.out (by rw [za]; rfl) hk
                have hNm : Nms g3 [.int .i64 n0, .int .i64 n1, .int .i64 n2, .int .i64 n3, .int .i64 n4, .int .i64 n5, .int .i64 n6, .int .i64 n7] w3.drew := by
                  rw [hnl] at HI3
                  refine ⟨hg32, fun j q hj => ?_⟩
                  match j, hj with
                  | 0, hj => simp at hj; subst hj; exact HI3.out.num 0 (by simp)
                  | 1, hj => simp at hj; subst hj; exact HI3.out.num 1 (by simp)
                  | 2, hj => simp at hj; subst hj; exact HI3.out.num 2 (by simp)
                  | 3, hj => simp at hj; subst hj; exact HI3.out.num 3 (by simp)
                  | 4, hj => simp at hj; subst hj; exact HI3.out.num 4 (by simp)
                  | 5, hj => simp at hj; subst hj; exact HI3.out.num 5 (by simp)
                  | 6, hj => simp at hj; subst hj; exact HI3.out.num 6 (by simp)
                  | 7, hj => simp at hj; subst hj; exact HI3.out.num 7 (by simp)
                have hll : L.length ≤ 1048576 := by have := X3.out.1; omega
                obtain ⟨aa, cc, hv⟩ : ∃ aa cc, v = .slice aa L.length cc := X3.out.2.2.1.2.2.1.len
                subst hv
                have SS : w3.drew.cell? ⟨H + 1, 1, none⟩ = some (.slice aa L.length cc) := X3.out.2.2.1.2.1.1.2.1
                have XD : Hid (BkS H (.slice aa L.length cc) u k L O w3.drew ∧ Below H w w3.drew) := ⟨X3.out.2.2.1, X3.out.2.2.2.drew⟩
                have HZ : Hid ((L ++ [(⟨n0, n1, n2, n3, n4, n5 == 1, n6, n7⟩ : Acc)]).length + O.length + y.size ≤ s.size) := by show _ ≤ _; have := X3.out.1; simp; omega
                have hbv : Hid (∀ q, (Value.slice aa L.length cc).ownBlock = some q → H + 1 + 1 ≤ q ∧ q ≠ g3) := fun q hq => ⟨(X3.out.2.2.1.blk.1 q hq).1, HAP.out.1 q hq⟩
                clear hnl hk X3 HI3 HL3 HNS HC1 HC2 HR0 zb za  HAP
                go_upto_region 17 with fail
                refine wp_region_held_drew (S := Nms g3 [.int .i64 n0, .int .i64 n1, .int .i64 n2, .int .i64 n3, .int .i64 n4, .int .i64 n5, .int .i64 n6, .int .i64 n7]) (by kernel_rfl) hNm (fun hHeld => ?_)
                clear hNm
                generalize w3.drew = W3 at hHeld SS XD ⊢
                obtain ⟨iA, hA, zA0, zA1, zA2⟩ := info_parts infoA
                refine wpAnyH_take (i := 0) (oi := { dst := some 85, op := Op.fieldAddr 25 (Operand.tmp 4) 1, type := 0, pos := "l06_texts.go:76", after := #[], guard := none }) (v := ?_) rfl (by kernel_rfl) (by kernel_rfl) (by kernel_rfl) (fun _ _ _ h => h) (Or.inl ⟨by rfl, ?_⟩) hHeld ?_
                rotate_left
                · intro wq hSw
                  go_simp
                  all_goals (with_reducible rfl)
                (try simp only [Act.put, List.setIfInBounds_toArray, List.set_cons_zero, List.set_cons_succ])
                refine wpAnyH_take (i := 2) (oi := { dst := some 87, op := Op.move (Operand.tmp 12), type := 33, pos := "l06_texts.go:76", after := #[], guard := none }) (v := ?_) rfl (by kernel_rfl) (by kernel_rfl) (by kernel_rfl) (fun _ _ _ h => h) (Or.inl ⟨by rfl, ?_⟩) hHeld ?_
                rotate_left
                · intro wq hSw
                  go_simp
                  all_goals (with_reducible rfl)
                (try simp only [Act.put, List.setIfInBounds_toArray, List.set_cons_zero, List.set_cons_succ])
                refine wpAnyH_take (i := 3) (oi := { dst := some 88, op := Op.indexAddr 33 (Operand.tmp 87) (Operand.const (Value.int IntKind.i64 0)), type := 0, pos := "l06_texts.go:76", after := #[{ on := 2, ground := Ground.data }], guard := none }) (v := ?_) rfl (by kernel_rfl) (by kernel_rfl) (by kernel_rfl) (fun _ _ _ h => h) (Or.inl ⟨by rfl, ?_⟩) hHeld ?_
                rotate_left
                · intro wq hSw
                  go_simp
                  all_goals (with_reducible rfl)
                (try simp only [Act.put, List.setIfInBounds_toArray, List.set_cons_zero, List.set_cons_succ])
                refine wpAnyH_take (i := 4) (oi := { dst := some 89, op := Op.load 2 (Operand.tmp 88), type := 2, pos := "l06_texts.go:76", after := #[{ on := 3, ground := Ground.data }], guard := none }) (v := ?_) rfl (by kernel_rfl) (by kernel_rfl) (by kernel_rfl) (fun _ _ _ h => h) (Or.inl ⟨by rfl, ?_⟩) hHeld ?_
                rotate_left
                · intro wq hSw
                  have yy := hSw.2 0 _ rfl
                  go_simp
                  all_goals (with_reducible rfl)
                (try simp only [Act.put, List.setIfInBounds_toArray, List.set_cons_zero, List.set_cons_succ])
                refine wpAnyH_take (i := 5) (oi := { dst := some 90, op := Op.move (Operand.tmp 12), type := 33, pos := "l06_texts.go:76", after := #[], guard := none }) (v := ?_) rfl (by kernel_rfl) (by kernel_rfl) (by kernel_rfl) (fun _ _ _ h => h) (Or.inl ⟨by rfl, ?_⟩) hHeld ?_
                rotate_left
                · intro wq hSw
                  go_simp
                  all_goals (with_reducible rfl)
                (try simp only [Act.put, List.setIfInBounds_toArray, List.set_cons_zero, List.set_cons_succ])
                refine wpAnyH_take (i := 6) (oi := { dst := some 91, op := Op.indexAddr 33 (Operand.tmp 90) (Operand.const (Value.int IntKind.i64 1)), type := 0, pos := "l06_texts.go:76", after := #[{ on := 5, ground := Ground.data }], guard := none }) (v := ?_) rfl (by kernel_rfl) (by kernel_rfl) (by kernel_rfl) (fun _ _ _ h => h) (Or.inl ⟨by rfl, ?_⟩) hHeld ?_
                rotate_left
                · intro wq hSw
                  go_simp
                  all_goals (with_reducible rfl)
                (try simp only [Act.put, List.setIfInBounds_toArray, List.set_cons_zero, List.set_cons_succ])
                refine wpAnyH_take (i := 7) (oi := { dst := some 92, op := Op.load 2 (Operand.tmp 91), type := 2, pos := "l06_texts.go:76", after := #[{ on := 6, ground := Ground.data }], guard := none }) (v := ?_) rfl (by kernel_rfl) (by kernel_rfl) (by kernel_rfl) (fun _ _ _ h => h) (Or.inl ⟨by rfl, ?_⟩) hHeld ?_
                rotate_left
                · intro wq hSw
                  have yy := hSw.2 1 _ rfl
                  go_simp
                  all_goals (with_reducible rfl)
                (try simp only [Act.put, List.setIfInBounds_toArray, List.set_cons_zero, List.set_cons_succ])
                refine wpAnyH_take (i := 8) (oi := { dst := some 93, op := Op.move (Operand.tmp 12), type := 33, pos := "l06_texts.go:76", after := #[], guard := none }) (v := ?_) rfl (by kernel_rfl) (by kernel_rfl) (by kernel_rfl) (fun _ _ _ h => h) (Or.inl ⟨by rfl, ?_⟩) hHeld ?_
                rotate_left
                · intro wq hSw
                  go_simp
                  all_goals (with_reducible rfl)
                (try simp only [Act.put, List.setIfInBounds_toArray, List.set_cons_zero, List.set_cons_succ])
                refine wpAnyH_take (i := 9) (oi := { dst := some 94, op := Op.indexAddr 33 (Operand.tmp 93) (Operand.const (Value.int IntKind.i64 2)), type := 0, pos := "l06_texts.go:76", after := #[{ on := 8, ground := Ground.data }], guard := none }) (v := ?_) rfl (by kernel_rfl) (by kernel_rfl) (by kernel_rfl) (fun _ _ _ h => h) (Or.inl ⟨by rfl, ?_⟩) hHeld ?_
                rotate_left
                · intro wq hSw
                  go_simp
                  all_goals (with_reducible rfl)
                (try simp only [Act.put, List.setIfInBounds_toArray, List.set_cons_zero, List.set_cons_succ])
                refine wpAnyH_take (i := 10) (oi := { dst := some 95, op := Op.load 2 (Operand.tmp 94), type := 2, pos := "l06_texts.go:76", after := #[{ on := 9, ground := Ground.data }], guard := none }) (v := ?_) rfl (by kernel_rfl) (by kernel_rfl) (by kernel_rfl) (fun _ _ _ h => h) (Or.inl ⟨by rfl, ?_⟩) hHeld ?_
                rotate_left
                · intro wq hSw
                  have yy := hSw.2 2 _ rfl
                  go_simp
                  all_goals (with_reducible rfl)
                (try simp only [Act.put, List.setIfInBounds_toArray, List.set_cons_zero, List.set_cons_succ])
                refine wpAnyH_take (i := 11) (oi := { dst := some 96, op := Op.move (Operand.tmp 12), type := 33, pos := "l06_texts.go:76", after := #[], guard := none }) (v := ?_) rfl (by kernel_rfl) (by kernel_rfl) (by kernel_rfl) (fun _ _ _ h => h) (Or.inl ⟨by rfl, ?_⟩) hHeld ?_
                rotate_left
                · intro wq hSw
                  go_simp
                  all_goals (with_reducible rfl)
                (try simp only [Act.put, List.setIfInBounds_toArray, List.set_cons_zero, List.set_cons_succ])
                refine wpAnyH_take (i := 12) (oi := { dst := some 97, op := Op.indexAddr 33 (Operand.tmp 96) (Operand.const (Value.int IntKind.i64 3)), type := 0, pos := "l06_texts.go:76", after := #[{ on := 11, ground := Ground.data }], guard := none }) (v := ?_) rfl (by kernel_rfl) (by kernel_rfl) (by kernel_rfl) (fun _ _ _ h => h) (Or.inl ⟨by rfl, ?_⟩) hHeld ?_
                rotate_left
                · intro wq hSw
                  go_simp
                  all_goals (with_reducible rfl)
                (try simp only [Act.put, List.setIfInBounds_toArray, List.set_cons_zero, List.set_cons_succ])
                refine wpAnyH_take (i := 13) (oi := { dst := some 98, op := Op.load 2 (Operand.tmp 97), type := 2, pos := "l06_texts.go:76", after := #[{ on := 12, ground := Ground.data }], guard := none }) (v := ?_) rfl (by kernel_rfl) (by kernel_rfl) (by kernel_rfl) (fun _ _ _ h => h) (Or.inl ⟨by rfl, ?_⟩) hHeld ?_
                rotate_left
                · intro wq hSw
                  have yy := hSw.2 3 _ rfl
                  go_simp
                  all_goals (with_reducible rfl)
                (try simp only [Act.put, List.setIfInBounds_toArray, List.set_cons_zero, List.set_cons_succ])
                refine wpAnyH_take (i := 14) (oi := { dst := some 99, op := Op.move (Operand.tmp 12), type := 33, pos := "l06_texts.go:76", after := #[], guard := none }) (v := ?_) rfl (by kernel_rfl) (by kernel_rfl) (by kernel_rfl) (fun _ _ _ h => h) (Or.inl ⟨by rfl, ?_⟩) hHeld ?_
                rotate_left
                · intro wq hSw
                  go_simp
                  all_goals (with_reducible rfl)
                (try simp only [Act.put, List.setIfInBounds_toArray, List.set_cons_zero, List.set_cons_succ])
                refine wpAnyH_take (i := 15) (oi := { dst := some 100, op := Op.indexAddr 33 (Operand.tmp 99) (Operand.const (Value.int IntKind.i64 4)), type := 0, pos := "l06_texts.go:76", after := #[{ on := 14, ground := Ground.data }], guard := none }) (v := ?_) rfl (by kernel_rfl) (by kernel_rfl) (by kernel_rfl) (fun _ _ _ h => h) (Or.inl ⟨by rfl, ?_⟩) hHeld ?_
                rotate_left
                · intro wq hSw
                  go_simp
                  all_goals (with_reducible rfl)
                (try simp only [Act.put, List.setIfInBounds_toArray, List.set_cons_zero, List.set_cons_succ])
                refine wpAnyH_take (i := 16) (oi := { dst := some 101, op := Op.load 2 (Operand.tmp 100), type := 2, pos := "l06_texts.go:76", after := #[{ on := 15, ground := Ground.data }], guard := none }) (v := ?_) rfl (by kernel_rfl) (by kernel_rfl) (by kernel_rfl) (fun _ _ _ h => h) (Or.inl ⟨by rfl, ?_⟩) hHeld ?_
                rotate_left
                · intro wq hSw
                  have yy := hSw.2 4 _ rfl
                  go_simp
                  all_goals (with_reducible rfl)
                (try simp only [Act.put, List.setIfInBounds_toArray, List.set_cons_zero, List.set_cons_succ])
                refine wpAnyH_take (i := 17) (oi := { dst := some 102, op := Op.move (Operand.tmp 12), type := 33, pos := "l06_texts.go:76", after := #[], guard := none }) (v := ?_) rfl (by kernel_rfl) (by kernel_rfl) (by kernel_rfl) (fun _ _ _ h => h) (Or.inl ⟨by rfl, ?_⟩) hHeld ?_
                rotate_left
                · intro wq hSw
                  go_simp
                  all_goals (with_reducible rfl)
                (try simp only [Act.put, List.setIfInBounds_toArray, List.set_cons_zero, List.set_cons_succ])
                refine wpAnyH_take (i := 18) (oi := { dst := some 103, op := Op.indexAddr 33 (Operand.tmp 102) (Operand.const (Value.int IntKind.i64 5)), type := 0, pos := "l06_texts.go:76", after := #[{ on := 17, ground := Ground.data }], guard := none }) (v := ?_) rfl (by kernel_rfl) (by kernel_rfl) (by kernel_rfl) (fun _ _ _ h => h) (Or.inl ⟨by rfl, ?_⟩) hHeld ?_
                rotate_left
                · intro wq hSw
                  go_simp
                  all_goals (with_reducible rfl)
                (try simp only [Act.put, List.setIfInBounds_toArray, List.set_cons_zero, List.set_cons_succ])
                refine wpAnyH_take (i := 19) (oi := { dst := some 104, op := Op.load 2 (Operand.tmp 103), type := 2, pos := "l06_texts.go:76", after := #[{ on := 18, ground := Ground.data }], guard := none }) (v := ?_) rfl (by kernel_rfl) (by kernel_rfl) (by kernel_rfl) (fun _ _ _ h => h) (Or.inl ⟨by rfl, ?_⟩) hHeld ?_
                rotate_left
                · intro wq hSw
                  have yy := hSw.2 5 _ rfl
                  go_simp
                  all_goals (with_reducible rfl)
                (try simp only [Act.put, List.setIfInBounds_toArray, List.set_cons_zero, List.set_cons_succ])
                refine wpAnyH_take (i := 20) (oi := { dst := some 105, op := Op.binOp BinOp.eql 2 (Operand.tmp 104) (Operand.const (Value.int IntKind.i64 1)) 2, type := 4, pos := "l06_texts.go:76", after := #[{ on := 19, ground := Ground.data }], guard := none }) (v := ?_) rfl (by kernel_rfl) (by kernel_rfl) (by kernel_rfl) (fun _ _ _ h => h) (Or.inl ⟨by rfl, ?_⟩) hHeld ?_
                rotate_left
                · intro wq hSw
                  go_simp
                  all_goals (with_reducible rfl)
                (try simp only [Act.put, List.setIfInBounds_toArray, List.set_cons_zero, List.set_cons_succ])
                refine wpAnyH_take (i := 21) (oi := { dst := some 106, op := Op.move (Operand.tmp 12), type := 33, pos := "l06_texts.go:76", after := #[], guard := none }) (v := ?_) rfl (by kernel_rfl) (by kernel_rfl) (by kernel_rfl) (fun _ _ _ h => h) (Or.inl ⟨by rfl, ?_⟩) hHeld ?_
                rotate_left
                · intro wq hSw
                  go_simp
                  all_goals (with_reducible rfl)
                (try simp only [Act.put, List.setIfInBounds_toArray, List.set_cons_zero, List.set_cons_succ])
                refine wpAnyH_take (i := 22) (oi := { dst := some 107, op := Op.indexAddr 33 (Operand.tmp 106) (Operand.const (Value.int IntKind.i64 6)), type := 0, pos := "l06_texts.go:76", after := #[{ on := 21, ground := Ground.data }], guard := none }) (v := ?_) rfl (by kernel_rfl) (by kernel_rfl) (by kernel_rfl) (fun _ _ _ h => h) (Or.inl ⟨by rfl, ?_⟩) hHeld ?_
                rotate_left
                · intro wq hSw
                  go_simp
                  all_goals (with_reducible rfl)
                (try simp only [Act.put, List.setIfInBounds_toArray, List.set_cons_zero, List.set_cons_succ])
                refine wpAnyH_take (i := 23) (oi := { dst := some 108, op := Op.load 2 (Operand.tmp 107), type := 2, pos := "l06_texts.go:76", after := #[{ on := 22, ground := Ground.data }], guard := none }) (v := ?_) rfl (by kernel_rfl) (by kernel_rfl) (by kernel_rfl) (fun _ _ _ h => h) (Or.inl ⟨by rfl, ?_⟩) hHeld ?_
                rotate_left
                · intro wq hSw
                  have yy := hSw.2 6 _ rfl
                  go_simp
                  all_goals (with_reducible rfl)
                (try simp only [Act.put, List.setIfInBounds_toArray, List.set_cons_zero, List.set_cons_succ])
                refine wpAnyH_take (i := 24) (oi := { dst := some 109, op := Op.move (Operand.tmp 12), type := 33, pos := "l06_texts.go:76", after := #[], guard := none }) (v := ?_) rfl (by kernel_rfl) (by kernel_rfl) (by kernel_rfl) (fun _ _ _ h => h) (Or.inl ⟨by rfl, ?_⟩) hHeld ?_
                rotate_left
                · intro wq hSw
                  go_simp
                  all_goals (with_reducible rfl)
                (try simp only [Act.put, List.setIfInBounds_toArray, List.set_cons_zero, List.set_cons_succ])
                refine wpAnyH_take (i := 25) (oi := { dst := some 110, op := Op.indexAddr 33 (Operand.tmp 109) (Operand.const (Value.int IntKind.i64 7)), type := 0, pos := "l06_texts.go:76", after := #[{ on := 24, ground := Ground.data }], guard := none }) (v := ?_) rfl (by kernel_rfl) (by kernel_rfl) (by kernel_rfl) (fun _ _ _ h => h) (Or.inl ⟨by rfl, ?_⟩) hHeld ?_
                rotate_left
                · intro wq hSw
                  go_simp
                  all_goals (with_reducible rfl)
                (try simp only [Act.put, List.setIfInBounds_toArray, List.set_cons_zero, List.set_cons_succ])
                refine wpAnyH_take (i := 26) (oi := { dst := some 111, op := Op.load 2 (Operand.tmp 110), type := 2, pos := "l06_texts.go:76", after := #[{ on := 25, ground := Ground.data }], guard := none }) (v := ?_) rfl (by kernel_rfl) (by kernel_rfl) (by kernel_rfl) (fun _ _ _ h => h) (Or.inl ⟨by rfl, ?_⟩) hHeld ?_
                rotate_left
                · intro wq hSw
                  have yy := hSw.2 7 _ rfl
                  go_simp
                  all_goals (with_reducible rfl)
                (try simp only [Act.put, List.setIfInBounds_toArray, List.set_cons_zero, List.set_cons_succ])
                refine wpAnyH_take (i := 27) (oi := { dst := some 112, op := Op.build 37 #[(0, Operand.tmp 89), (1, Operand.tmp 92), (2, Operand.tmp 95), (3, Operand.tmp 98), (4, Operand.tmp 101), (5, Operand.tmp 105), (6, Operand.tmp 108), (7, Operand.tmp 111)], type := 37, pos := "l06_texts.go:76", after := #[{ on := 4, ground := Ground.data }, { on := 7, ground := Ground.data }, { on := 10, ground := Ground.data }, { on := 13, ground := Ground.data }, { on := 16, ground := Ground.data }, { on := 20, ground := Ground.data }, { on := 23, ground := Ground.data }, { on := 26, ground := Ground.data }], guard := none }) (v := ?_) rfl (by kernel_rfl) (by kernel_rfl) (by kernel_rfl) (fun _ _ _ h => h) (Or.inl ⟨by rfl, ?_⟩) hHeld ?_
                rotate_left
                · intro wq hSw
                  go_simp
                  all_goals (with_reducible rfl)
                (try simp only [Act.put, List.setIfInBounds_toArray, List.set_cons_zero, List.set_cons_succ])
                refine wpAnyH_ready (rs := [1, 28]) (by kernel_rfl) (by simp) ?_
                refine AllReadyH.cons (o := { dst := some 86, op := Op.load 22 (Operand.tmp 85), type := 22, pos := "l06_texts.go:76", after := #[{ on := 0, ground := Ground.data }], guard := none }) rfl (fun K hK => ?_) ?_
                · skip
                  go_simp
                  refine hK.out _ _ hHeld (fun hHeld => ?_)
                  clear hK
                  (try simp only [Act.put, List.setIfInBounds_toArray, List.set_cons_zero, List.set_cons_succ])
                  refine wpAnyH_ready (rs := [28]) (by kernel_rfl) (by simp) ?_
                  refine AllReadyH.cons (o := { dst := some 113, op := Op.buildSlice 22 1 #[(0, Operand.tmp 112)], type := 22, pos := "l06_texts.go:76", after := #[{ on := 27, ground := Ground.data }], guard := none }) rfl (fun K hK => ?_) AllReadyH.nil
                  go_simp
                  obtain ⟨V5, hV5, X5⟩ : ∃ V, V = W3.alloc (.cells (accCells (⟨n0, n1, n2, n3, n4, n5 == 1, n6, n7⟩ : Acc)).toArray 37) ∧ Hid (BkS H (.slice aa L.length cc) u k L O V ∧ Below H w V ∧ Vals V W3.heap.size (accCells (⟨n0, n1, n2, n3, n4, n5 == 1, n6, n7⟩ : Acc)) ∧ H + 1 + 1 ≤ V.heap.size ∧ Nms g3 [.int .i64 n0, .int .i64 n1, .int .i64 n2, .int .i64 n3, .int .i64 n4, .int .i64 n5, .int .i64 n6, .int .i64 n7] V) :=
                    ⟨_, rfl, XD.out.1.alloc _, XD.out.2.alloc (by have := XD.out.1.2.1.2.2; omega) _, Vals.new _ _ _, by have := XD.out.1.2.1.2.2; simp; omega, hHeld.alloc _⟩
                  have SS5 : V5.cell? ⟨H + 1, 1, none⟩ = some (.slice aa L.length cc) := X5.out.1.2.1.1.2.1
                  have HV5 : Hid (V5 = W3.alloc (.cells #[.int .i64 n0, .int .i64 n1, .int .i64 n2, .int .i64 n3, .int .i64 n4, .bool (n5 == 1), .int .i64 n6, .int .i64 n7] 37)) := hV5
                  clear hV5 SS hHeld
                  refine hK.out _ _ (by rw [← HV5.out]; exact X5.out.2.2.2.2) (fun hHeld => ?_)
                  rw [← HV5.out] at hHeld
                  rw [← HV5.out]
                  clear hK
                  obtain ⟨r5, hr5⟩ : ∃ r, W3.heap.size = r := ⟨_, rfl⟩
                  try rw [hr5]
                  rw [hr5] at X5
                  clear XD HV5 hr5
                  have NW : Hid (∀ j y, (accCells (⟨n0, n1, n2, n3, n4, n5 == 1, n6, n7⟩ : Acc))[j]? = some y → V5.cell? ((⟨r5, 0, none⟩ : Addr).add j) = some y) := fun j y hj => by
                    have e : (⟨r5, 0, none⟩ : Addr).add j = ⟨r5, j, none⟩ := by cases j <;> simp [Addr.add]
                    rw [e]
                    exact X5.out.2.2.1.1 j y hj
                  have ONE : Hid (∀ y ∈ accCells (⟨n0, n1, n2, n3, n4, n5 == 1, n6, n7⟩ : Acc), y.oneCell' = true) := fun y hy => by
                    simp only [accCells, List.mem_cons, List.not_mem_nil, or_false] at hy
                    rcases hy with e | e | e | e | e | e | e | e <;> subst e <;> rfl
                  (try simp only [Act.put, List.setIfInBounds_toArray, List.set_cons_zero, List.set_cons_succ])
                  refine wpAnyH_ready (rs := [29]) (by kernel_rfl) (by simp) ?_
                  refine AllReadyH.cons (o := { dst := some 114, op := Op.call { callee := Callee.builtin Builtin.append, args := #[Operand.tmp 86, Operand.tmp 113], argTypes := #[22, 22] }, type := 22, pos := "l06_texts.go:76", after := #[{ on := 1, ground := Ground.data }, { on := 28, ground := Ground.data }], guard := none }) rfl (fun K hK => ?_) AllReadyH.nil
                  refine step_append_own _ (by rfl) _ _ 22 (by rfl) (H + 1 + 1) 37 iA _ 8 64 Tryz.underlying22 hA zA0 zA1 zA2 rfl (by decide) _ _ _ (by rfl) X5.out.1.2.2.1 ⟨r5, 0, none⟩ 1 1 (accCells (⟨n0, n1, n2, n3, n4, n5 == 1, n6, n7⟩ : Acc)) (by rfl) rfl NW.out ONE.out (by unfold maxLen; omega) (by omega) X5.out.2.2.2.1 ?_
                  intro v6 w6 hown hgrow
                  have X6 : Hid (BkS H v6 u k (L ++ [(⟨n0, n1, n2, n3, n4, n5 == 1, n6, n7⟩ : Acc)]) O (w6.setCell ⟨H + 1, 1, none⟩ v6)) := X5.out.1.addA hown hgrow
                  have B6 : Hid (Below H w w6) := X5.out.2.1.grown hgrow (by have := X5.out.2.2.2.1; omega) (fun q hq => by have := (hbv.out q hq).1; omega)
                  have N6 : Hid (Nms g3 [.int .i64 n0, .int .i64 n1, .int .i64 n2, .int .i64 n3, .int .i64 n4, .int .i64 n5, .int .i64 n6, .int .i64 n7] w6) := X5.out.2.2.2.2.grown hgrow (fun e => (hbv.out g3 e).2 rfl)
                  have hz6 : w6.cell? ⟨H + 1, 1, none⟩ = some (.slice aa L.length cc) := (World.cell?_of_block (w := V5) (hgrow.block (H + 1) X5.out.1.2.1.2.2 (fun e => by have := (hbv.out _ e.symm).1; omega))).trans SS5
                  have hf6 : w6.frozen? ⟨H + 1, 1, none⟩ = false := (World.frozen?_of_block (w := V5) (hgrow.block (H + 1) X5.out.1.2.1.2.2 (fun e => by have := (hbv.out _ e.symm).1; omega))).trans (X5.out.1.2.1.2.1 1)
                  clear hown hgrow hHeld
                  refine hK.out _ _ N6.out (fun hHeld => ?_)
                  clear hK X5 SS5 hbv NW ONE
                  (try simp only [Act.put, List.setIfInBounds_toArray, List.set_cons_zero, List.set_cons_succ])
                  refine wpAnyH_take (i := 30) (oi := { dst := some 115, op := Op.fieldAddr 25 (Operand.tmp 4) 1, type := 0, pos := "l06_texts.go:76", after := #[{ on := 0, ground := Ground.phase }, { on := 1, ground := Ground.phase }, { on := 2, ground := Ground.phase }, { on := 3, ground := Ground.phase }, { on := 4, ground := Ground.phase }, { on := 5, ground := Ground.phase }, { on := 6, ground := Ground.phase }, { on := 7, ground := Ground.phase }, { on := 8, ground := Ground.phase }, { on := 9, ground := Ground.phase }, { on := 10, ground := Ground.phase }, { on := 11, ground := Ground.phase }, { on := 12, ground := Ground.phase }, { on := 13, ground := Ground.phase }, { on := 14, ground := Ground.phase }, { on := 15, ground := Ground.phase }, { on := 16, ground := Ground.phase }, { on := 17, ground := Ground.phase }, { on := 18, ground := Ground.phase }, { on := 19, ground := Ground.phase }, { on := 20, ground := Ground.phase }, { on := 21, ground := Ground.phase }, { on := 22, ground := Ground.phase }, { on := 23, ground := Ground.phase }, { on := 24, ground := Ground.phase }, { on := 25, ground := Ground.phase }, { on := 26, ground := Ground.phase }, { on := 27, ground := Ground.phase }, { on := 28, ground := Ground.phase }, { on := 29, ground := Ground.phase }], guard := none }) (v := ?_) rfl (by kernel_rfl) (by kernel_rfl) (by kernel_rfl) (fun _ _ _ h => h) (Or.inl ⟨by rfl, ?_⟩) hHeld ?_
                  rotate_left
                  · intro wq hSw
                    go_simp
                    all_goals (with_reducible rfl)
                  (try simp only [Act.put, List.setIfInBounds_toArray, List.set_cons_zero, List.set_cons_succ])
                  refine wpAnyH_ready (rs := [31]) (by kernel_rfl) (by simp) ?_
                  refine AllReadyH.cons (o := { dst := none, op := Op.store 22 (Operand.tmp 115) (Operand.tmp 114), type := 0, pos := "l06_texts.go:76", after := #[{ on := 30, ground := Ground.data }, { on := 29, ground := Ground.data }, { on := 29, ground := Ground.chain }, { on := 0, ground := Ground.phase }, { on := 1, ground := Ground.phase }, { on := 2, ground := Ground.phase }, { on := 3, ground := Ground.phase }, { on := 4, ground := Ground.phase }, { on := 5, ground := Ground.phase }, { on := 6, ground := Ground.phase }, { on := 7, ground := Ground.phase }, { on := 8, ground := Ground.phase }, { on := 9, ground := Ground.phase }, { on := 10, ground := Ground.phase }, { on := 11, ground := Ground.phase }, { on := 12, ground := Ground.phase }, { on := 13, ground := Ground.phase }, { on := 14, ground := Ground.phase }, { on := 15, ground := Ground.phase }, { on := 16, ground := Ground.phase }, { on := 17, ground := Ground.phase }, { on := 18, ground := Ground.phase }, { on := 19, ground := Ground.phase }, { on := 20, ground := Ground.phase }, { on := 21, ground := Ground.phase }, { on := 22, ground := Ground.phase }, { on := 23, ground := Ground.phase }, { on := 24, ground := Ground.phase }, { on := 25, ground := Ground.phase }, { on := 26, ground := Ground.phase }, { on := 27, ground := Ground.phase }, { on := 28, ground := Ground.phase }, { on := 29, ground := Ground.phase }], guard := none }) rfl (fun K hK => ?_) AllReadyH.nil
                  obtain ⟨a6, c6, hv6⟩ : ∃ a6 c6, v6 = .slice a6 (L ++ [(⟨n0, n1, n2, n3, n4, n5 == 1, n6, n7⟩ : Acc)]).length c6 := X6.out.2.2.1.len
                  subst hv6
                  obtain ⟨m6, hm6⟩ : ∃ m, (L ++ [(⟨n0, n1, n2, n3, n4, n5 == 1, n6, n7⟩ : Acc)]).length = m := ⟨_, rfl⟩
                  rw [hm6] at X6
                  simp only [hm6]
                  clear hm6
                  go_simp
                  refine hK.out _ _ (Nms.set (Q := H + 1) N6.out (by omega) _ _) (fun hHeld => ?_)
                  clear hK
                  (try simp only [Act.put, List.setIfInBounds_toArray, List.set_cons_zero, List.set_cons_succ])
                  refine wpAnyH_done (by kernel_rfl) ?_ _
                  have X9 : Hid (SrS s w H y k (L ++ [(⟨n0, n1, n2, n3, n4, n5 == 1, n6, n7⟩ : Acc)]) O (.slice a6 m6 c6) u (w6.setCell ⟨H + 1, 1, none⟩ (.slice a6 m6 c6))) := ⟨HZ.out, HX.out, X6.out, B6.out.setCell (p := ⟨H + 1, 1, none⟩) (by show H ≤ H + 1; omega) _⟩
                  clear X6 B6 N6 hHeld hz6 hf6 HZ HX
                  go_wp2
                  go_roundw
                  case rel => exact ⟨y, k, _, _, _, _, rfl, hy', X9⟩
                  case measure => simpa [strOf] using hyr
                refine AllReadyH.cons (o := { dst := some 113, op := Op.buildSlice 22 1 #[(0, Operand.tmp 112)], type := 22, pos := "l06_texts.go:76", after := #[{ on := 27, ground := Ground.data }], guard := none }) rfl (fun K hK => ?_) AllReadyH.nil
                go_simp
                obtain ⟨V5, hV5, X5⟩ : ∃ V, V = W3.alloc (.cells (accCells (⟨n0, n1, n2, n3, n4, n5 == 1, n6, n7⟩ : Acc)).toArray 37) ∧ Hid (BkS H (.slice aa L.length cc) u k L O V ∧ Below H w V ∧ Vals V W3.heap.size (accCells (⟨n0, n1, n2, n3, n4, n5 == 1, n6, n7⟩ : Acc)) ∧ H + 1 + 1 ≤ V.heap.size ∧ Nms g3 [.int .i64 n0, .int .i64 n1, .int .i64 n2, .int .i64 n3, .int .i64 n4, .int .i64 n5, .int .i64 n6, .int .i64 n7] V) :=
                  ⟨_, rfl, XD.out.1.alloc _, XD.out.2.alloc (by have := XD.out.1.2.1.2.2; omega) _, Vals.new _ _ _, by have := XD.out.1.2.1.2.2; simp; omega, hHeld.alloc _⟩
                have SS5 : V5.cell? ⟨H + 1, 1, none⟩ = some (.slice aa L.length cc) := X5.out.1.2.1.1.2.1
                have HV5 : Hid (V5 = W3.alloc (.cells #[.int .i64 n0, .int .i64 n1, .int .i64 n2, .int .i64 n3, .int .i64 n4, .bool (n5 == 1), .int .i64 n6, .int .i64 n7] 37)) := hV5
                clear hV5 SS hHeld
                refine hK.out _ _ (by rw [← HV5.out]; exact X5.out.2.2.2.2) (fun hHeld => ?_)
                rw [← HV5.out] at hHeld
                rw [← HV5.out]
                clear hK
                obtain ⟨r5, hr5⟩ : ∃ r, W3.heap.size = r := ⟨_, rfl⟩
                try rw [hr5]
                rw [hr5] at X5
                clear XD HV5 hr5
                have NW : Hid (∀ j y, (accCells (⟨n0, n1, n2, n3, n4, n5 == 1, n6, n7⟩ : Acc))[j]? = some y → V5.cell? ((⟨r5, 0, none⟩ : Addr).add j) = some y) := fun j y hj => by
                  have e : (⟨r5, 0, none⟩ : Addr).add j = ⟨r5, j, none⟩ := by cases j <;> simp [Addr.add]
                  rw [e]
                  exact X5.out.2.2.1.1 j y hj
                have ONE : Hid (∀ y ∈ accCells (⟨n0, n1, n2, n3, n4, n5 == 1, n6, n7⟩ : Acc), y.oneCell' = true) := fun y hy => by
                  simp only [accCells, List.mem_cons, List.not_mem_nil, or_false] at hy
                  rcases hy with e | e | e | e | e | e | e | e <;> subst e <;> rfl
                (try simp only [Act.put, List.setIfInBounds_toArray, List.set_cons_zero, List.set_cons_succ])
                refine wpAnyH_ready (rs := [1]) (by kernel_rfl) (by simp) ?_
                refine AllReadyH.cons (o := { dst := some 86, op := Op.load 22 (Operand.tmp 85), type := 22, pos := "l06_texts.go:76", after := #[{ on := 0, ground := Ground.data }], guard := none }) rfl (fun K hK => ?_) AllReadyH.nil
                go_simp
                refine hK.out _ _ hHeld (fun hHeld => ?_)
                clear hK
                (try simp only [Act.put, List.setIfInBounds_toArray, List.set_cons_zero, List.set_cons_succ])
                refine wpAnyH_ready (rs := [29]) (by kernel_rfl) (by simp) ?_
                refine AllReadyH.cons (o := { dst := some 114, op := Op.call { callee := Callee.builtin Builtin.append, args := #[Operand.tmp 86, Operand.tmp 113], argTypes := #[22, 22] }, type := 22, pos := "l06_texts.go:76", after := #[{ on := 1, ground := Ground.data }, { on := 28, ground := Ground.data }], guard := none }) rfl (fun K hK => ?_) AllReadyH.nil
                refine step_append_own _ (by rfl) _ _ 22 (by rfl) (H + 1 + 1) 37 iA _ 8 64 Tryz.underlying22 hA zA0 zA1 zA2 rfl (by decide) _ _ _ (by rfl) X5.out.1.2.2.1 ⟨r5, 0, none⟩ 1 1 (accCells (⟨n0, n1, n2, n3, n4, n5 == 1, n6, n7⟩ : Acc)) (by rfl) rfl NW.out ONE.out (by unfold maxLen; omega) (by omega) X5.out.2.2.2.1 ?_
                intro v6 w6 hown hgrow
                have X6 : Hid (BkS H v6 u k (L ++ [(⟨n0, n1, n2, n3, n4, n5 == 1, n6, n7⟩ : Acc)]) O (w6.setCell ⟨H + 1, 1, none⟩ v6)) := X5.out.1.addA hown hgrow
                have B6 : Hid (Below H w w6) := X5.out.2.1.grown hgrow (by have := X5.out.2.2.2.1; omega) (fun q hq => by have := (hbv.out q hq).1; omega)
                have N6 : Hid (Nms g3 [.int .i64 n0, .int .i64 n1, .int .i64 n2, .int .i64 n3, .int .i64 n4, .int .i64 n5, .int .i64 n6, .int .i64 n7] w6) := X5.out.2.2.2.2.grown hgrow (fun e => (hbv.out g3 e).2 rfl)
                have hz6 : w6.cell? ⟨H + 1, 1, none⟩ = some (.slice aa L.length cc) := (World.cell?_of_block (w := V5) (hgrow.block (H + 1) X5.out.1.2.1.2.2 (fun e => by have := (hbv.out _ e.symm).1; omega))).trans SS5
                have hf6 : w6.frozen? ⟨H + 1, 1, none⟩ = false := (World.frozen?_of_block (w := V5) (hgrow.block (H + 1) X5.out.1.2.1.2.2 (fun e => by have := (hbv.out _ e.symm).1; omega))).trans (X5.out.1.2.1.2.1 1)
                clear hown hgrow hHeld
                refine hK.out _ _ N6.out (fun hHeld => ?_)
                clear hK X5 SS5 hbv NW ONE
                (try simp only [Act.put, List.setIfInBounds_toArray, List.set_cons_zero, List.set_cons_succ])
                refine wpAnyH_take (i := 30) (oi := { dst := some 115, op := Op.fieldAddr 25 (Operand.tmp 4) 1, type := 0, pos := "l06_texts.go:76", after := #[{ on := 0, ground := Ground.phase }, { on := 1, ground := Ground.phase }, { on := 2, ground := Ground.phase }, { on := 3, ground := Ground.phase }, { on := 4, ground := Ground.phase }, { on := 5, ground := Ground.phase }, { on := 6, ground := Ground.phase }, { on := 7, ground := Ground.phase }, { on := 8, ground := Ground.phase }, { on := 9, ground := Ground.phase }, { on := 10, ground := Ground.phase }, { on := 11, ground := Ground.phase }, { on := 12, ground := Ground.phase }, { on := 13, ground := Ground.phase }, { on := 14, ground := Ground.phase }, { on := 15, ground := Ground.phase }, { on := 16, ground := Ground.phase }, { on := 17, ground := Ground.phase }, { on := 18, ground := Ground.phase }, { on := 19, ground := Ground.phase }, { on := 20, ground := Ground.phase }, { on := 21, ground := Ground.phase }, { on := 22, ground := Ground.phase }, { on := 23, ground := Ground.phase }, { on := 24, ground := Ground.phase }, { on := 25, ground := Ground.phase }, { on := 26, ground := Ground.phase }, { on := 27, ground := Ground.phase }, { on := 28, ground := Ground.phase }, { on := 29, ground := Ground.phase }], guard := none }) (v := ?_) rfl (by kernel_rfl) (by kernel_rfl) (by kernel_rfl) (fun _ _ _ h => h) (Or.inl ⟨by rfl, ?_⟩) hHeld ?_
                rotate_left
                · intro wq hSw
                  go_simp
                  all_goals (with_reducible rfl)
                (try simp only [Act.put, List.setIfInBounds_toArray, List.set_cons_zero, List.set_cons_succ])
                refine wpAnyH_ready (rs := [31]) (by kernel_rfl) (by simp) ?_
                refine AllReadyH.cons (o := { dst := none, op := Op.store 22 (Operand.tmp 115) (Operand.tmp 114), type := 0, pos := "l06_texts.go:76", after := #[{ on := 30, ground := Ground.data }, { on := 29, ground := Ground.data }, { on := 29, ground := Ground.chain }, { on := 0, ground := Ground.phase }, { on := 1, ground := Ground.phase }, { on := 2, ground := Ground.phase }, { on := 3, ground := Ground.phase }, { on := 4, ground := Ground.phase }, { on := 5, ground := Ground.phase }, { on := 6, ground := Ground.phase }, { on := 7, ground := Ground.phase }, { on := 8, ground := Ground.phase }, { on := 9, ground := Ground.phase }, { on := 10, ground := Ground.phase }, { on := 11, ground := Ground.phase }, { on := 12, ground := Ground.phase }, { on := 13, ground := Ground.phase }, { on := 14, ground := Ground.phase }, { on := 15, ground := Ground.phase }, { on := 16, ground := Ground.phase }, { on := 17, ground := Ground.phase }, { on := 18, ground := Ground.phase }, { on := 19, ground := Ground.phase }, { on := 20, ground := Ground.phase }, { on := 21, ground := Ground.phase }, { on := 22, ground := Ground.phase }, { on := 23, ground := Ground.phase }, { on := 24, ground := Ground.phase }, { on := 25, ground := Ground.phase }, { on := 26, ground := Ground.phase }, { on := 27, ground := Ground.phase }, { on := 28, ground := Ground.phase }, { on := 29, ground := Ground.phase }], guard := none }) rfl (fun K hK => ?_) AllReadyH.nil
                obtain ⟨a6, c6, hv6⟩ : ∃ a6 c6, v6 = .slice a6 (L ++ [(⟨n0, n1, n2, n3, n4, n5 == 1, n6, n7⟩ : Acc)]).length c6 := X6.out.2.2.1.len
                subst hv6
                obtain ⟨m6, hm6⟩ : ∃ m, (L ++ [(⟨n0, n1, n2, n3, n4, n5 == 1, n6, n7⟩ : Acc)]).length = m := ⟨_, rfl⟩
                rw [hm6] at X6
                simp only [hm6]
                clear hm6
                go_simp
                refine hK.out _ _ (Nms.set (Q := H + 1) N6.out (by omega) _ _) (fun hHeld => ?_)
                clear hK
                (try simp only [Act.put, List.setIfInBounds_toArray, List.set_cons_zero, List.set_cons_succ])
                refine wpAnyH_done (by kernel_rfl) ?_ _
                have X9 : Hid (SrS s w H y k (L ++ [(⟨n0, n1, n2, n3, n4, n5 == 1, n6, n7⟩ : Acc)]) O (.slice a6 m6 c6) u (w6.setCell ⟨H + 1, 1, none⟩ (.slice a6 m6 c6))) := ⟨HZ.out, HX.out, X6.out, B6.out.setCell (p := ⟨H + 1, 1, none⟩) (by show H ≤ H + 1; omega) _⟩
                clear X6 B6 N6 hHeld hz6 hf6 HZ HX
                go_wp2
                go_roundw
                case rel => exact ⟨y, k, _, _, _, _, rfl, hy', X9⟩
                case measure => simpa [strOf] using hyr
              · have l8' : ((l3 : Int) == 8) = false := by simp; omega
                have HX : Hid (Inv s.data.toList y.data.toList k L O) := X3.out.2.1.other HR0.out HC1.out.1 HC2.out HNS.out (fun e => zb (ext_ofD e.1)) (fun e => l8 (HL3.out.symm.trans e.2)) (fun e => by rw [za] at e; exact absurd e.1 (by decide))
                clear zb za
                have hyr : y.size < r.size := HC1.out.2 rfl
                have X9 : Hid (SrS s w H y k L O v u w3) := ⟨by have := X3.out.1; omega, HX.out, X3.out.2.2.1, X3.out.2.2.2⟩
                clear HX X3 HC1 HC2 HR0 HNS HI3 HL3
                go_wp2
                go_roundw
                case rel => exact ⟨y, k, L, O, v, u, rfl, hy', X9⟩
                case measure => simpa [strOf] using hyr
            · have q2 : ¬ z.toList = [97, 99, 99, 111, 117, 110, 116] := neLit za
              by_cases zo : z = ⟨#[111, 114, 100, 101, 114]⟩
              · have q3 : z.toList = [111, 114, 100, 101, 114] := by rw [zo, Lib.toList_data]
                by_cases l7 : l3 = 7
                · skip
                  subst l7
                  have hyr : y.size < r.size := HC1.out.2 rfl
                  obtain ⟨n0, n1, n2, n3, n4, n5, n6, hnl, hk⟩ := ordS_of7 HL3.out
                  have HX : Hid (Inv s.data.toList y.data.toList k L (O ++ [(⟨n0, n1, n2, n3, n4, n5, n6⟩ : Ord)])) := X3.out.2.1.ord HR0.out HC1.out.1 HC2.out HNS.out (by rw [zo]; rfl) hk
                  have hNm : Nms g3 [.int .i64 n0, .int .i64 n1, .int .i64 n2, .int .i64 n3, .int .i64 n4, .int .i64 n5, .int .i64 n6] w3.drew := by
                    rw [hnl] at HI3
                    refine ⟨hg32, fun j q hj => ?_⟩
                    match j, hj with
                    | 0, hj => simp at hj; subst hj; exact HI3.out.num 0 (by simp)
                    | 1, hj => simp at hj; subst hj; exact HI3.out.num 1 (by simp)
                    | 2, hj => simp at hj; subst hj; exact HI3.out.num 2 (by simp)
                    | 3, hj => simp at hj; subst hj; exact HI3.out.num 3 (by simp)
                    | 4, hj => simp at hj; subst hj; exact HI3.out.num 4 (by simp)
                    | 5, hj => simp at hj; subst hj; exact HI3.out.num 5 (by simp)
                    | 6, hj => simp at hj; subst hj; exact HI3.out.num 6 (by simp)
                  have hll : O.length ≤ 1048576 := by have := X3.out.1; omega
                  obtain ⟨aa, cc, hv⟩ : ∃ aa cc, u = .slice aa O.length cc := (by obtain ⟨a', c', hv, _⟩ := X3.out.2.2.1.2.2.2.shape; exact ⟨a', c', hv⟩)
                  subst hv
                  have SS : w3.drew.cell? ⟨H + 1, 2, none⟩ = some (.slice aa O.length cc) := X3.out.2.2.1.2.1.1.2.2.1
                  have XD : Hid (BkS H v (.slice aa O.length cc) k L O w3.drew ∧ Below H w w3.drew) := ⟨X3.out.2.2.1, X3.out.2.2.2.drew⟩
                  have HZ : Hid (L.length + (O ++ [(⟨n0, n1, n2, n3, n4, n5, n6⟩ : Ord)]).length + y.size ≤ s.size) := by show _ ≤ _; have := X3.out.1; simp; omega
                  have hbv : Hid (∀ q, (Value.slice aa O.length cc).ownBlock = some q → H + 1 + 1 ≤ q ∧ q ≠ g3) := fun q hq => ⟨(X3.out.2.2.1.blk.2 q hq).1, HAP.out.2 q hq⟩
                  clear hnl hk X3 HI3 HL3 HNS HC1 HC2 HR0 zb za zo HAP
                  go_upto_region 19 with fail
                  refine wp_region_held_drew (S := Nms g3 [.int .i64 n0, .int .i64 n1, .int .i64 n2, .int .i64 n3, .int .i64 n4, .int .i64 n5, .int .i64 n6]) (by kernel_rfl) hNm (fun hHeld => ?_)
                  clear hNm
                  generalize w3.drew = W3 at hHeld SS XD ⊢
                  obtain ⟨iA, hA, zA0, zA1, zA2⟩ := info_parts infoO
                  refine wpAnyH_take (i := 0) (oi := { dst := some 124, op := Op.fieldAddr 25 (Operand.tmp 4) 2, type := 0, pos := "l06_texts.go:78", after := #[], guard := none }) (v := ?_) rfl (by kernel_rfl) (by kernel_rfl) (by kernel_rfl) (fun _ _ _ h => h) (Or.inl ⟨by rfl, ?_⟩) hHeld ?_
                  rotate_left
                  · intro wq hSw
                    go_simp
                    all_goals (with_reducible rfl)
                  (try simp only [Act.put, List.setIfInBounds_toArray, List.set_cons_zero, List.set_cons_succ])
                  refine wpAnyH_take (i := 2) (oi := { dst := some 126, op := Op.move (Operand.tmp 12), type := 33, pos := "l06_texts.go:78", after := #[], guard := none }) (v := ?_) rfl (by kernel_rfl) (by kernel_rfl) (by kernel_rfl) (fun _ _ _ h => h) (Or.inl ⟨by rfl, ?_⟩) hHeld ?_
                  rotate_left
                  · intro wq hSw
                    go_simp
                    all_goals (with_reducible rfl)
                  (try simp only [Act.put, List.setIfInBounds_toArray, List.set_cons_zero, List.set_cons_succ])
                  refine wpAnyH_take (i := 3) (oi := { dst := some 127, op := Op.indexAddr 33 (Operand.tmp 126) (Operand.const (Value.int IntKind.i64 0)), type := 0, pos := "l06_texts.go:78", after := #[{ on := 2, ground := Ground.data }], guard := none }) (v := ?_) rfl (by kernel_rfl) (by kernel_rfl) (by kernel_rfl) (fun _ _ _ h => h) (Or.inl ⟨by rfl, ?_⟩) hHeld ?_
                  rotate_left
                  · intro wq hSw
                    go_simp
                    all_goals (with_reducible rfl)
                  (try simp only [Act.put, List.setIfInBounds_toArray, List.set_cons_zero, List.set_cons_succ])
                  refine wpAnyH_take (i := 4) (oi := { dst := some 128, op := Op.load 2 (Operand.tmp 127), type := 2, pos := "l06_texts.go:78", after := #[{ on := 3, ground := Ground.data }], guard := none }) (v := ?_) rfl (by kernel_rfl) (by kernel_rfl) (by kernel_rfl) (fun _ _ _ h => h) (Or.inl ⟨by rfl, ?_⟩) hHeld ?_
                  rotate_left
                  · intro wq hSw
                    have yy := hSw.2 0 _ rfl
                    go_simp
                    all_goals (with_reducible rfl)
                  (try simp only [Act.put, List.setIfInBounds_toArray, List.set_cons_zero, List.set_cons_succ])
                  refine wpAnyH_take (i := 5) (oi := { dst := some 129, op := Op.move (Operand.tmp 12), type := 33, pos := "l06_texts.go:78", after := #[], guard := none }) (v := ?_) rfl (by kernel_rfl) (by kernel_rfl) (by kernel_rfl) (fun _ _ _ h => h) (Or.inl ⟨by rfl, ?_⟩) hHeld ?_
                  rotate_left
                  · intro wq hSw
                    go_simp
                    all_goals (with_reducible rfl)
                  (try simp only [Act.put, List.setIfInBounds_toArray, List.set_cons_zero, List.set_cons_succ])
                  refine wpAnyH_take (i := 6) (oi := { dst := some 130, op := Op.indexAddr 33 (Operand.tmp 129) (Operand.const (Value.int IntKind.i64 1)), type := 0, pos := "l06_texts.go:78", after := #[{ on := 5, ground := Ground.data }], guard := none }) (v := ?_) rfl (by kernel_rfl) (by kernel_rfl) (by kernel_rfl) (fun _ _ _ h => h) (Or.inl ⟨by rfl, ?_⟩) hHeld ?_
                  rotate_left
                  · intro wq hSw
                    go_simp
                    all_goals (with_reducible rfl)
                  (try simp only [Act.put, List.setIfInBounds_toArray, List.set_cons_zero, List.set_cons_succ])
                  refine wpAnyH_take (i := 7) (oi := { dst := some 131, op := Op.load 2 (Operand.tmp 130), type := 2, pos := "l06_texts.go:78", after := #[{ on := 6, ground := Ground.data }], guard := none }) (v := ?_) rfl (by kernel_rfl) (by kernel_rfl) (by kernel_rfl) (fun _ _ _ h => h) (Or.inl ⟨by rfl, ?_⟩) hHeld ?_
                  rotate_left
                  · intro wq hSw
                    have yy := hSw.2 1 _ rfl
                    go_simp
                    all_goals (with_reducible rfl)
                  (try simp only [Act.put, List.setIfInBounds_toArray, List.set_cons_zero, List.set_cons_succ])
                  refine wpAnyH_take (i := 8) (oi := { dst := some 132, op := Op.move (Operand.tmp 12), type := 33, pos := "l06_texts.go:78", after := #[], guard := none }) (v := ?_) rfl (by kernel_rfl) (by kernel_rfl) (by kernel_rfl) (fun _ _ _ h => h) (Or.inl ⟨by rfl, ?_⟩) hHeld ?_
                  rotate_left
                  · intro wq hSw
                    go_simp
                    all_goals (with_reducible rfl)
                  (try simp only [Act.put, List.setIfInBounds_toArray, List.set_cons_zero, List.set_cons_succ])
                  refine wpAnyH_take (i := 9) (oi := { dst := some 133, op := Op.indexAddr 33 (Operand.tmp 132) (Operand.const (Value.int IntKind.i64 2)), type := 0, pos := "l06_texts.go:78", after := #[{ on := 8, ground := Ground.data }], guard := none }) (v := ?_) rfl (by kernel_rfl) (by kernel_rfl) (by kernel_rfl) (fun _ _ _ h => h) (Or.inl ⟨by rfl, ?_⟩) hHeld ?_
                  rotate_left
                  · intro wq hSw
                    go_simp
                    all_goals (with_reducible rfl)
                  (try simp only [Act.put, List.setIfInBounds_toArray, List.set_cons_zero, List.set_cons_succ])
                  refine wpAnyH_take (i := 10) (oi := { dst := some 134, op := Op.load 2 (Operand.tmp 133), type := 2, pos := "l06_texts.go:78", after := #[{ on := 9, ground := Ground.data }], guard := none }) (v := ?_) rfl (by kernel_rfl) (by kernel_rfl) (by kernel_rfl) (fun _ _ _ h => h) (Or.inl ⟨by rfl, ?_⟩) hHeld ?_
                  rotate_left
                  · intro wq hSw
                    have yy := hSw.2 2 _ rfl
                    go_simp
                    all_goals (with_reducible rfl)
                  (try simp only [Act.put, List.setIfInBounds_toArray, List.set_cons_zero, List.set_cons_succ])
                  refine wpAnyH_take (i := 11) (oi := { dst := some 135, op := Op.move (Operand.tmp 12), type := 33, pos := "l06_texts.go:78", after := #[], guard := none }) (v := ?_) rfl (by kernel_rfl) (by kernel_rfl) (by kernel_rfl) (fun _ _ _ h => h) (Or.inl ⟨by rfl, ?_⟩) hHeld ?_
                  rotate_left
                  · intro wq hSw
                    go_simp
                    all_goals (with_reducible rfl)
                  (try simp only [Act.put, List.setIfInBounds_toArray, List.set_cons_zero, List.set_cons_succ])
                  refine wpAnyH_take (i := 12) (oi := { dst := some 136, op := Op.indexAddr 33 (Operand.tmp 135) (Operand.const (Value.int IntKind.i64 3)), type := 0, pos := "l06_texts.go:78", after := #[{ on := 11, ground := Ground.data }], guard := none }) (v := ?_) rfl (by kernel_rfl) (by kernel_rfl) (by kernel_rfl) (fun _ _ _ h => h) (Or.inl ⟨by rfl, ?_⟩) hHeld ?_
                  rotate_left
                  · intro wq hSw
                    go_simp
                    all_goals (with_reducible rfl)
                  (try simp only [Act.put, List.setIfInBounds_toArray, List.set_cons_zero, List.set_cons_succ])
                  refine wpAnyH_take (i := 13) (oi := { dst := some 137, op := Op.load 2 (Operand.tmp 136), type := 2, pos := "l06_texts.go:78", after := #[{ on := 12, ground := Ground.data }], guard := none }) (v := ?_) rfl (by kernel_rfl) (by kernel_rfl) (by kernel_rfl) (fun _ _ _ h => h) (Or.inl ⟨by rfl, ?_⟩) hHeld ?_
                  rotate_left
                  · intro wq hSw
                    have yy := hSw.2 3 _ rfl
                    go_simp
                    all_goals (with_reducible rfl)
                  (try simp only [Act.put, List.setIfInBounds_toArray, List.set_cons_zero, List.set_cons_succ])
                  refine wpAnyH_take (i := 14) (oi := { dst := some 138, op := Op.move (Operand.tmp 12), type := 33, pos := "l06_texts.go:78", after := #[], guard := none }) (v := ?_) rfl (by kernel_rfl) (by kernel_rfl) (by kernel_rfl) (fun _ _ _ h => h) (Or.inl ⟨by rfl, ?_⟩) hHeld ?_
                  rotate_left
                  · intro wq hSw
                    go_simp
                    all_goals (with_reducible rfl)
                  (try simp only [Act.put, List.setIfInBounds_toArray, List.set_cons_zero, List.set_cons_succ])
                  refine wpAnyH_take (i := 15) (oi := { dst := some 139, op := Op.indexAddr 33 (Operand.tmp 138) (Operand.const (Value.int IntKind.i64 4)), type := 0, pos := "l06_texts.go:78", after := #[{ on := 14, ground := Ground.data }], guard := none }) (v := ?_) rfl (by kernel_rfl) (by kernel_rfl) (by kernel_rfl) (fun _ _ _ h => h) (Or.inl ⟨by rfl, ?_⟩) hHeld ?_
                  rotate_left
                  · intro wq hSw
                    go_simp
                    all_goals (with_reducible rfl)
                  (try simp only [Act.put, List.setIfInBounds_toArray, List.set_cons_zero, List.set_cons_succ])
                  refine wpAnyH_take (i := 16) (oi := { dst := some 140, op := Op.load 2 (Operand.tmp 139), type := 2, pos := "l06_texts.go:78", after := #[{ on := 15, ground := Ground.data }], guard := none }) (v := ?_) rfl (by kernel_rfl) (by kernel_rfl) (by kernel_rfl) (fun _ _ _ h => h) (Or.inl ⟨by rfl, ?_⟩) hHeld ?_
                  rotate_left
                  · intro wq hSw
                    have yy := hSw.2 4 _ rfl
                    go_simp
                    all_goals (with_reducible rfl)
                  (try simp only [Act.put, List.setIfInBounds_toArray, List.set_cons_zero, List.set_cons_succ])
                  refine wpAnyH_take (i := 17) (oi := { dst := some 141, op := Op.move (Operand.tmp 12), type := 33, pos := "l06_texts.go:78", after := #[], guard := none }) (v := ?_) rfl (by kernel_rfl) (by kernel_rfl) (by kernel_rfl) (fun _ _ _ h => h) (Or.inl ⟨by rfl, ?_⟩) hHeld ?_
                  rotate_left
                  · intro wq hSw
                    go_simp
                    all_goals (with_reducible rfl)
                  (try simp only [Act.put, List.setIfInBounds_toArray, List.set_cons_zero, List.set_cons_succ])
                  refine wpAnyH_take (i := 18) (oi := { dst := some 142, op := Op.indexAddr 33 (Operand.tmp 141) (Operand.const (Value.int IntKind.i64 5)), type := 0, pos := "l06_texts.go:78", after := #[{ on := 17, ground := Ground.data }], guard := none }) (v := ?_) rfl (by kernel_rfl) (by kernel_rfl) (by kernel_rfl) (fun _ _ _ h => h) (Or.inl ⟨by rfl, ?_⟩) hHeld ?_
                  rotate_left
                  · intro wq hSw
                    go_simp
                    all_goals (with_reducible rfl)
                  (try simp only [Act.put, List.setIfInBounds_toArray, List.set_cons_zero, List.set_cons_succ])
                  refine wpAnyH_take (i := 19) (oi := { dst := some 143, op := Op.load 2 (Operand.tmp 142), type := 2, pos := "l06_texts.go:78", after := #[{ on := 18, ground := Ground.data }], guard := none }) (v := ?_) rfl (by kernel_rfl) (by kernel_rfl) (by kernel_rfl) (fun _ _ _ h => h) (Or.inl ⟨by rfl, ?_⟩) hHeld ?_
                  rotate_left
                  · intro wq hSw
                    have yy := hSw.2 5 _ rfl
                    go_simp
                    all_goals (with_reducible rfl)
                  (try simp only [Act.put, List.setIfInBounds_toArray, List.set_cons_zero, List.set_cons_succ])
                  refine wpAnyH_take (i := 20) (oi := { dst := some 144, op := Op.move (Operand.tmp 12), type := 33, pos := "l06_texts.go:78", after := #[], guard := none }) (v := ?_) rfl (by kernel_rfl) (by kernel_rfl) (by kernel_rfl) (fun _ _ _ h => h) (Or.inl ⟨by rfl, ?_⟩) hHeld ?_
                  rotate_left
                  · intro wq hSw
                    go_simp
                    all_goals (with_reducible rfl)
                  (try simp only [Act.put, List.setIfInBounds_toArray, List.set_cons_zero, List.set_cons_succ])
                  refine wpAnyH_take (i := 21) (oi := { dst := some 145, op := Op.indexAddr 33 (Operand.tmp 144) (Operand.const (Value.int IntKind.i64 6)), type := 0, pos := "l06_texts.go:78", after := #[{ on := 20, ground := Ground.data }], guard := none }) (v := ?_) rfl (by kernel_rfl) (by kernel_rfl) (by kernel_rfl) (fun _ _ _ h => h) (Or.inl ⟨by rfl, ?_⟩) hHeld ?_
                  rotate_left
                  · intro wq hSw
                    go_simp
                    all_goals (with_reducible rfl)
                  (try simp only [Act.put, List.setIfInBounds_toArray, List.set_cons_zero, List.set_cons_succ])
                  refine wpAnyH_take (i := 22) (oi := { dst := some 146, op := Op.load 2 (Operand.tmp 145), type := 2, pos := "l06_texts.go:78", after := #[{ on := 21, ground := Ground.data }], guard := none }) (v := ?_) rfl (by kernel_rfl) (by kernel_rfl) (by kernel_rfl) (fun _ _ _ h => h) (Or.inl ⟨by rfl, ?_⟩) hHeld ?_
                  rotate_left
                  · intro wq hSw
                    have yy := hSw.2 6 _ rfl
                    go_simp
                    all_goals (with_reducible rfl)
                  (try simp only [Act.put, List.setIfInBounds_toArray, List.set_cons_zero, List.set_cons_succ])
                  refine wpAnyH_take (i := 23) (oi := { dst := some 147, op := Op.build 39 #[(0, Operand.tmp 128), (1, Operand.tmp 131), (2, Operand.tmp 134), (3, Operand.tmp 137), (4, Operand.tmp 140), (5, Operand.tmp 143), (6, Operand.tmp 146)], type := 39, pos := "l06_texts.go:78", after := #[{ on := 4, ground := Ground.data }, { on := 7, ground := Ground.data }, { on := 10, ground := Ground.data }, { on := 13, ground := Ground.data }, { on := 16, ground := Ground.data }, { on := 19, ground := Ground.data }, { on := 22, ground := Ground.data }], guard := none }) (v := ?_) rfl (by kernel_rfl) (by kernel_rfl) (by kernel_rfl) (fun _ _ _ h => h) (Or.inl ⟨by rfl, ?_⟩) hHeld ?_
                  rotate_left
                  · intro wq hSw
                    go_simp
                    all_goals (with_reducible rfl)
                  (try simp only [Act.put, List.setIfInBounds_toArray, List.set_cons_zero, List.set_cons_succ])
                  refine wpAnyH_ready (rs := [1, 24]) (by kernel_rfl) (by simp) ?_
                  refine AllReadyH.cons (o := { dst := some 125, op := Op.load 23 (Operand.tmp 124), type := 23, pos := "l06_texts.go:78", after := #[{ on := 0, ground := Ground.data }], guard := none }) rfl (fun K hK => ?_) ?_
                  · skip
                    go_simp
                    refine hK.out _ _ hHeld (fun hHeld => ?_)
                    clear hK
                    (try simp only [Act.put, List.setIfInBounds_toArray, List.set_cons_zero, List.set_cons_succ])
                    refine wpAnyH_ready (rs := [24]) (by kernel_rfl) (by simp) ?_
                    refine AllReadyH.cons (o := { dst := some 148, op := Op.buildSlice 23 1 #[(0, Operand.tmp 147)], type := 23, pos := "l06_texts.go:78", after := #[{ on := 23, ground := Ground.data }], guard := none }) rfl (fun K hK => ?_) AllReadyH.nil
                    go_simp
                    obtain ⟨V5, hV5, X5⟩ : ∃ V, V = W3.alloc (.cells (OrdC (⟨n0, n1, n2, n3, n4, n5, n6⟩ : Ord)).toArray 39) ∧ Hid (BkS H v (.slice aa O.length cc) k L O V ∧ Below H w V ∧ Vals V W3.heap.size (OrdC (⟨n0, n1, n2, n3, n4, n5, n6⟩ : Ord)) ∧ H + 1 + 1 ≤ V.heap.size ∧ Nms g3 [.int .i64 n0, .int .i64 n1, .int .i64 n2, .int .i64 n3, .int .i64 n4, .int .i64 n5, .int .i64 n6] V) :=
                      ⟨_, rfl, XD.out.1.alloc _, XD.out.2.alloc (by have := XD.out.1.2.1.2.2; omega) _, Vals.new _ _ _, by have := XD.out.1.2.1.2.2; simp; omega, hHeld.alloc _⟩
                    have SS5 : V5.cell? ⟨H + 1, 2, none⟩ = some (.slice aa O.length cc) := X5.out.1.2.1.1.2.2.1
                    have HV5 : Hid (V5 = W3.alloc (.cells #[.int .i64 n0, .int .i64 n1, .int .i64 n2, .int .i64 n3, .int .i64 n4, .int .i64 n5, .int .i64 n6] 39)) := hV5
                    clear hV5 SS hHeld
                    refine hK.out _ _ (by rw [← HV5.out]; exact X5.out.2.2.2.2) (fun hHeld => ?_)
                    rw [← HV5.out] at hHeld
                    rw [← HV5.out]
                    clear hK
                    obtain ⟨r5, hr5⟩ : ∃ r, W3.heap.size = r := ⟨_, rfl⟩
                    try rw [hr5]
                    rw [hr5] at X5
                    clear XD HV5 hr5
                    have NW : Hid (∀ j y, (OrdC (⟨n0, n1, n2, n3, n4, n5, n6⟩ : Ord))[j]? = some y → V5.cell? ((⟨r5, 0, none⟩ : Addr).add j) = some y) := fun j y hj => by
                      have e : (⟨r5, 0, none⟩ : Addr).add j = ⟨r5, j, none⟩ := by cases j <;> simp [Addr.add]
                      rw [e]
                      exact X5.out.2.2.1.1 j y hj
                    have ONE : Hid (∀ y ∈ OrdC (⟨n0, n1, n2, n3, n4, n5, n6⟩ : Ord), y.oneCell' = true) := fun y hy => by
                      simp only [OrdC, List.mem_cons, List.not_mem_nil, or_false] at hy
                      rcases hy with e | e | e | e | e | e | e <;> subst e <;> rfl
                    (try simp only [Act.put, List.setIfInBounds_toArray, List.set_cons_zero, List.set_cons_succ])
                    refine wpAnyH_ready (rs := [25]) (by kernel_rfl) (by simp) ?_
                    refine AllReadyH.cons (o := { dst := some 149, op := Op.call { callee := Callee.builtin Builtin.append, args := #[Operand.tmp 125, Operand.tmp 148], argTypes := #[23, 23] }, type := 23, pos := "l06_texts.go:78", after := #[{ on := 1, ground := Ground.data }, { on := 24, ground := Ground.data }], guard := none }) rfl (fun K hK => ?_) AllReadyH.nil
                    refine step_append_own _ (by rfl) _ _ 23 (by rfl) (H + 1 + 1) 39 iA _ 7 56 Tryz.underlying23 hA zA0 zA1 zA2 rfl (by decide) _ _ _ (by rfl) X5.out.1.2.2.2 ⟨r5, 0, none⟩ 1 1 (OrdC (⟨n0, n1, n2, n3, n4, n5, n6⟩ : Ord)) (by rfl) rfl NW.out ONE.out (by unfold maxLen; omega) (by omega) X5.out.2.2.2.1 ?_
                    intro v6 w6 hown hgrow
                    have X6 : Hid (BkS H v v6 k L (O ++ [(⟨n0, n1, n2, n3, n4, n5, n6⟩ : Ord)]) (w6.setCell ⟨H + 1, 2, none⟩ v6)) := X5.out.1.addO hown hgrow
                    have B6 : Hid (Below H w w6) := X5.out.2.1.grown hgrow (by have := X5.out.2.2.2.1; omega) (fun q hq => by have := (hbv.out q hq).1; omega)
                    have N6 : Hid (Nms g3 [.int .i64 n0, .int .i64 n1, .int .i64 n2, .int .i64 n3, .int .i64 n4, .int .i64 n5, .int .i64 n6] w6) := X5.out.2.2.2.2.grown hgrow (fun e => (hbv.out g3 e).2 rfl)
                    have hz6 : w6.cell? ⟨H + 1, 2, none⟩ = some (.slice aa O.length cc) := (World.cell?_of_block (w := V5) (hgrow.block (H + 1) X5.out.1.2.1.2.2 (fun e => by have := (hbv.out _ e.symm).1; omega))).trans SS5
                    have hf6 : w6.frozen? ⟨H + 1, 2, none⟩ = false := (World.frozen?_of_block (w := V5) (hgrow.block (H + 1) X5.out.1.2.1.2.2 (fun e => by have := (hbv.out _ e.symm).1; omega))).trans (X5.out.1.2.1.2.1 2)
                    clear hown hgrow hHeld
                    refine hK.out _ _ N6.out (fun hHeld => ?_)
                    clear hK X5 SS5 hbv NW ONE
                    (try simp only [Act.put, List.setIfInBounds_toArray, List.set_cons_zero, List.set_cons_succ])
                    refine wpAnyH_take (i := 26) (oi := { dst := some 150, op := Op.fieldAddr 25 (Operand.tmp 4) 2, type := 0, pos := "l06_texts.go:78", after := #[{ on := 0, ground := Ground.phase }, { on := 1, ground := Ground.phase }, { on := 2, ground := Ground.phase }, { on := 3, ground := Ground.phase }, { on := 4, ground := Ground.phase }, { on := 5, ground := Ground.phase }, { on := 6, ground := Ground.phase }, { on := 7, ground := Ground.phase }, { on := 8, ground := Ground.phase }, { on := 9, ground := Ground.phase }, { on := 10, ground := Ground.phase }, { on := 11, ground := Ground.phase }, { on := 12, ground := Ground.phase }, { on := 13, ground := Ground.phase }, { on := 14, ground := Ground.phase }, { on := 15, ground := Ground.phase }, { on := 16, ground := Ground.phase }, { on := 17, ground := Ground.phase }, { on := 18, ground := Ground.phase }, { on := 19, ground := Ground.phase }, { on := 20, ground := Ground.phase }, { on := 21, ground := Ground.phase }, { on := 22, ground := Ground.phase }, { on := 23, ground := Ground.phase }, { on := 24, ground := Ground.phase }, { on := 25, ground := Ground.phase }], guard := none }) (v := ?_) rfl (by kernel_rfl) (by kernel_rfl) (by kernel_rfl) (fun _ _ _ h => h) (Or.inl ⟨by rfl, ?_⟩) hHeld ?_
                    rotate_left
                    · intro wq hSw
                      go_simp
                      all_goals (with_reducible rfl)
                    (try simp only [Act.put, List.setIfInBounds_toArray, List.set_cons_zero, List.set_cons_succ])
                    refine wpAnyH_ready (rs := [27]) (by kernel_rfl) (by simp) ?_
                    refine AllReadyH.cons (o := { dst := none, op := Op.store 23 (Operand.tmp 150) (Operand.tmp 149), type := 0, pos := "l06_texts.go:78", after := #[{ on := 26, ground := Ground.data }, { on := 25, ground := Ground.data }, { on := 25, ground := Ground.chain }, { on := 0, ground := Ground.phase }, { on := 1, ground := Ground.phase }, { on := 2, ground := Ground.phase }, { on := 3, ground := Ground.phase }, { on := 4, ground := Ground.phase }, { on := 5, ground := Ground.phase }, { on := 6, ground := Ground.phase }, { on := 7, ground := Ground.phase }, { on := 8, ground := Ground.phase }, { on := 9, ground := Ground.phase }, { on := 10, ground := Ground.phase }, { on := 11, ground := Ground.phase }, { on := 12, ground := Ground.phase }, { on := 13, ground := Ground.phase }, { on := 14, ground := Ground.phase }, { on := 15, ground := Ground.phase }, { on := 16, ground := Ground.phase }, { on := 17, ground := Ground.phase }, { on := 18, ground := Ground.phase }, { on := 19, ground := Ground.phase }, { on := 20, ground := Ground.phase }, { on := 21, ground := Ground.phase }, { on := 22, ground := Ground.phase }, { on := 23, ground := Ground.phase }, { on := 24, ground := Ground.phase }, { on := 25, ground := Ground.phase }], guard := none }) rfl (fun K hK => ?_) AllReadyH.nil
                    obtain ⟨a6, c6, hv6⟩ : ∃ a6 c6, v6 = .slice a6 (O ++ [(⟨n0, n1, n2, n3, n4, n5, n6⟩ : Ord)]).length c6 := (by obtain ⟨a', c', hv, _⟩ := X6.out.2.2.2.shape; exact ⟨a', c', hv⟩)
                    subst hv6
                    obtain ⟨m6, hm6⟩ : ∃ m, (O ++ [(⟨n0, n1, n2, n3, n4, n5, n6⟩ : Ord)]).length = m := ⟨_, rfl⟩
                    rw [hm6] at X6
                    simp only [hm6]
                    clear hm6
                    go_simp
                    refine hK.out _ _ (Nms.set (Q := H + 1) N6.out (by omega) _ _) (fun hHeld => ?_)
                    clear hK
                    (try simp only [Act.put, List.setIfInBounds_toArray, List.set_cons_zero, List.set_cons_succ])
                    refine wpAnyH_done (by kernel_rfl) ?_ _
                    have X9 : Hid (SrS s w H y k L (O ++ [(⟨n0, n1, n2, n3, n4, n5, n6⟩ : Ord)]) v (.slice a6 m6 c6) (w6.setCell ⟨H + 1, 2, none⟩ (.slice a6 m6 c6))) := ⟨HZ.out, HX.out, X6.out, B6.out.setCell (p := ⟨H + 1, 2, none⟩) (by show H ≤ H + 1; omega) _⟩
                    clear X6 B6 N6 hHeld hz6 hf6 HZ HX
                    go_wp2
                    go_roundw
                    case rel => exact ⟨y, k, _, _, _, _, rfl, hy', X9⟩
                    case measure => simpa [strOf] using hyr
                  refine AllReadyH.cons (o := { dst := some 148, op := Op.buildSlice 23 1 #[(0, Operand.tmp 147)], type := 23, pos := "l06_texts.go:78", after := #[{ on := 23, ground := Ground.data }], guard := none }) rfl (fun K hK => ?_) AllReadyH.nil
                  go_simp
                  obtain ⟨V5, hV5, X5⟩ : ∃ V, V = W3.alloc (.cells (OrdC (⟨n0, n1, n2, n3, n4, n5, n6⟩ : Ord)).toArray 39) ∧ Hid (BkS H v (.slice aa O.length cc) k L O V ∧ Below H w V ∧ Vals V W3.heap.size (OrdC (⟨n0, n1, n2, n3, n4, n5, n6⟩ : Ord)) ∧ H + 1 + 1 ≤ V.heap.size ∧ Nms g3 [.int .i64 n0, .int .i64 n1, .int .i64 n2, .int .i64 n3, .int .i64 n4, .int .i64 n5, .int .i64 n6] V) :=
                    ⟨_, rfl, XD.out.1.alloc _, XD.out.2.alloc (by have := XD.out.1.2.1.2.2; omega) _, Vals.new _ _ _, by have := XD.out.1.2.1.2.2; simp; omega, hHeld.alloc _⟩
                  have SS5 : V5.cell? ⟨H + 1, 2, none⟩ = some (.slice aa O.length cc) := X5.out.1.2.1.1.2.2.1
                  have HV5 : Hid (V5 = W3.alloc (.cells #[.int .i64 n0, .int .i64 n1, .int .i64 n2, .int .i64 n3, .int .i64 n4, .int .i64 n5, .int .i64 n6] 39)) := hV5
                  clear hV5 SS hHeld
                  refine hK.out _ _ (by rw [← HV5.out]; exact X5.out.2.2.2.2) (fun hHeld => ?_)
                  rw [← HV5.out] at hHeld
                  rw [← HV5.out]
                  clear hK
                  obtain ⟨r5, hr5⟩ : ∃ r, W3.heap.size = r := ⟨_, rfl⟩
                  try rw [hr5]
                  rw [hr5] at X5
                  clear XD HV5 hr5
                  have NW : Hid (∀ j y, (OrdC (⟨n0, n1, n2, n3, n4, n5, n6⟩ : Ord))[j]? = some y → V5.cell? ((⟨r5, 0, none⟩ : Addr).add j) = some y) := fun j y hj => by
                    have e : (⟨r5, 0, none⟩ : Addr).add j = ⟨r5, j, none⟩ := by cases j <;> simp [Addr.add]
                    rw [e]
                    exact X5.out.2.2.1.1 j y hj
                  have ONE : Hid (∀ y ∈ OrdC (⟨n0, n1, n2, n3, n4, n5, n6⟩ : Ord), y.oneCell' = true) := fun y hy => by
                    simp only [OrdC, List.mem_cons, List.not_mem_nil, or_false] at hy
                    rcases hy with e | e | e | e | e | e | e <;> subst e <;> rfl
                  (try simp only [Act.put, List.setIfInBounds_toArray, List.set_cons_zero, List.set_cons_succ])
                  refine wpAnyH_ready (rs := [1]) (by kernel_rfl) (by simp) ?_
                  refine AllReadyH.cons (o := { dst := some 125, op := Op.load 23 (Operand.tmp 124), type := 23, pos := "l06_texts.go:78", after := #[{ on := 0, ground := Ground.data }], guard := none }) rfl (fun K hK => ?_) AllReadyH.nil
                  go_simp
                  refine hK.out _ _ hHeld (fun hHeld => ?_)
                  clear hK
                  (try simp only [Act.put, List.setIfInBounds_toArray, List.set_cons_zero, List.set_cons_succ])
                  refine wpAnyH_ready (rs := [25]) (by kernel_rfl) (by simp) ?_
                  refine AllReadyH.cons (o := { dst := some 149, op := Op.call { callee := Callee.builtin Builtin.append, args := #[Operand.tmp 125, Operand.tmp 148], argTypes := #[23, 23] }, type := 23, pos := "l06_texts.go:78", after := #[{ on := 1, ground := Ground.data }, { on := 24, ground := Ground.data }], guard := none }) rfl (fun K hK => ?_) AllReadyH.nil
                  refine step_append_own _ (by rfl) _ _ 23 (by rfl) (H + 1 + 1) 39 iA _ 7 56 Tryz.underlying23 hA zA0 zA1 zA2 rfl (by decide) _ _ _ (by rfl) X5.out.1.2.2.2 ⟨r5, 0, none⟩ 1 1 (OrdC (⟨n0, n1, n2, n3, n4, n5, n6⟩ : Ord)) (by rfl) rfl NW.out ONE.out (by unfold maxLen; omega) (by omega) X5.out.2.2.2.1 ?_
                  intro v6 w6 hown hgrow
                  have X6 : Hid (BkS H v v6 k L (O ++ [(⟨n0, n1, n2, n3, n4, n5, n6⟩ : Ord)]) (w6.setCell ⟨H + 1, 2, none⟩ v6)) := X5.out.1.addO hown hgrow
                  have B6 : Hid (Below H w w6) := X5.out.2.1.grown hgrow (by have := X5.out.2.2.2.1; omega) (fun q hq => by have := (hbv.out q hq).1; omega)
                  have N6 : Hid (Nms g3 [.int .i64 n0, .int .i64 n1, .int .i64 n2, .int .i64 n3, .int .i64 n4, .int .i64 n5, .int .i64 n6] w6) := X5.out.2.2.2.2.grown hgrow (fun e => (hbv.out g3 e).2 rfl)
                  have hz6 : w6.cell? ⟨H + 1, 2, none⟩ = some (.slice aa O.length cc) := (World.cell?_of_block (w := V5) (hgrow.block (H + 1) X5.out.1.2.1.2.2 (fun e => by have := (hbv.out _ e.symm).1; omega))).trans SS5
                  have hf6 : w6.frozen? ⟨H + 1, 2, none⟩ = false := (World.frozen?_of_block (w := V5) (hgrow.block (H + 1) X5.out.1.2.1.2.2 (fun e => by have := (hbv.out _ e.symm).1; omega))).trans (X5.out.1.2.1.2.1 2)
                  clear hown hgrow hHeld
                  refine hK.out _ _ N6.out (fun hHeld => ?_)
                  clear hK X5 SS5 hbv NW ONE
                  (try simp only [Act.put, List.setIfInBounds_toArray, List.set_cons_zero, List.set_cons_succ])
                  refine wpAnyH_take (i := 26) (oi := { dst := some 150, op := Op.fieldAddr 25 (Operand.tmp 4) 2, type := 0, pos := "l06_texts.go:78", after := #[{ on := 0, ground := Ground.phase }, { on := 1, ground := Ground.phase }, { on := 2, ground := Ground.phase }, { on := 3, ground := Ground.phase }, { on := 4, ground := Ground.phase }, { on := 5, ground := Ground.phase }, { on := 6, ground := Ground.phase }, { on := 7, ground := Ground.phase }, { on := 8, ground := Ground.phase }, { on := 9, ground := Ground.phase }, { on := 10, ground := Ground.phase }, { on := 11, ground := Ground.phase }, { on := 12, ground := Ground.phase }, { on := 13, ground := Ground.phase }, { on := 14, ground := Ground.phase }, { on := 15, ground := Ground.phase }, { on := 16, ground := Ground.phase }, { on := 17, ground := Ground.phase }, { on := 18, ground := Ground.phase }, { on := 19, ground := Ground.phase }, { on := 20, ground := Ground.phase }, { on := 21, ground := Ground.phase }, { on := 22, ground := Ground.phase }, { on := 23, ground := Ground.phase }, { on := 24, ground := Ground.phase }, { on := 25, ground := Ground.phase }], guard := none }) (v := ?_) rfl (by kernel_rfl) (by kernel_rfl) (by kernel_rfl) (fun _ _ _ h => h) (Or.inl ⟨by rfl, ?_⟩) hHeld ?_
                  rotate_left
                  · intro wq hSw
                    go_simp
                    all_goals (with_reducible rfl)
                  (try simp only [Act.put, List.setIfInBounds_toArray, List.set_cons_zero, List.set_cons_succ])
                  refine wpAnyH_ready (rs := [27]) (by kernel_rfl) (by simp) ?_
                  refine AllReadyH.cons (o := { dst := none, op := Op.store 23 (Operand.tmp 150) (Operand.tmp 149), type := 0, pos := "l06_texts.go:78", after := #[{ on := 26, ground := Ground.data }, { on := 25, ground := Ground.data }, { on := 25, ground := Ground.chain }, { on := 0, ground := Ground.phase }, { on := 1, ground := Ground.phase }, { on := 2, ground := Ground.phase }, { on := 3, ground := Ground.phase }, { on := 4, ground := Ground.phase }, { on := 5, ground := Ground.phase }, { on := 6, ground := Ground.phase }, { on := 7, ground := Ground.phase }, { on := 8, ground := Ground.phase }, { on := 9, ground := Ground.phase }, { on := 10, ground := Ground.phase }, { on := 11, ground := Ground.phase }, { on := 12, ground := Ground.phase }, { on := 13, ground := Ground.phase }, { on := 14, ground := Ground.phase }, { on := 15, ground := Ground.phase }, { on := 16, ground := Ground.phase }, { on := 17, ground := Ground.phase }, { on := 18, ground := Ground.phase }, { on := 19, ground := Ground.phase }, { on := 20, ground := Ground.phase }, { on := 21, ground := Ground.phase }, { on := 22, ground := Ground.phase }, { on := 23, ground := Ground.phase }, { on := 24, ground := Ground.phase }, { on := 25, ground := Ground.phase }], guard := none }) rfl (fun K hK => ?_) AllReadyH.nil
                  obtain ⟨a6, c6, hv6⟩ : ∃ a6 c6, v6 = .slice a6 (O ++ [(⟨n0, n1, n2, n3, n4, n5, n6⟩ : Ord)]).length c6 := (by obtain ⟨a', c', hv, _⟩ := X6.out.2.2.2.shape; exact ⟨a', c', hv⟩)
                  subst hv6
                  obtain ⟨m6, hm6⟩ : ∃ m, (O ++ [(⟨n0, n1, n2, n3, n4, n5, n6⟩ : Ord)]).length = m := ⟨_, rfl⟩
                  rw [hm6] at X6
                  simp only [hm6]
                  clear hm6
                  go_simp
                  refine hK.out _ _ (Nms.set (Q := H + 1) N6.out (by omega) _ _) (fun hHeld => ?_)
                  clear hK
                  (try simp only [Act.put, List.setIfInBounds_toArray, List.set_cons_zero, List.set_cons_succ])
                  refine wpAnyH_done (by kernel_rfl) ?_ _
                  have X9 : Hid (SrS s w H y k L (O ++ [(⟨n0, n1, n2, n3, n4, n5, n6⟩ : Ord)]) v (.slice a6 m6 c6) (w6.setCell ⟨H + 1, 2, none⟩ (.slice a6 m6 c6))) := ⟨HZ.out, HX.out, X6.out, B6.out.setCell (p := ⟨H + 1, 2, none⟩) (by show H ≤ H + 1; omega) _⟩
                  clear X6 B6 N6 hHeld hz6 hf6 HZ HX
                  go_wp2
                  go_roundw
                  case rel => exact ⟨y, k, _, _, _, _, rfl, hy', X9⟩
                  case measure => simpa [strOf] using hyr
                · have l7' : ((l3 : Int) == 7) = false := by simp; omega
                  have HX : Hid (Inv s.data.toList y.data.toList k L O) := X3.out.2.1.other HR0.out HC1.out.1 HC2.out HNS.out (fun e => zb (ext_ofD e.1)) (fun e => za (ext_ofD e.1)) (fun e => l7 (HL3.out.symm.trans e.2))
                  clear zb za zo
                  have hyr : y.size < r.size := HC1.out.2 rfl
                  have X9 : Hid (SrS s w H y k L O v u w3) := ⟨by have := X3.out.1; omega, HX.out, X3.out.2.2.1, X3.out.2.2.2⟩
                  clear HX X3 HC1 HC2 HR0 HNS HI3 HL3
                  go_wp2
                  go_roundw
                  case rel => exact ⟨y, k, L, O, v, u, rfl, hy', X9⟩
                  case measure => simpa [strOf] using hyr
              · have q3 : ¬ z.toList = [111, 114, 100, 101, 114] := neLit zo
                have HX : Hid (Inv s.data.toList y.data.toList k L O) := X3.out.2.1.other HR0.out HC1.out.1 HC2.out HNS.out (fun e => zb (ext_ofD e.1)) (fun e => za (ext_ofD e.1)) (fun e => zo (ext_ofD e.1))
                clear zb za zo
                have hyr : y.size < r.size := HC1.out.2 rfl
                have X9 : Hid (SrS s w H y k L O v u w3) := ⟨by have := X3.out.1; omega, HX.out, X3.out.2.2.1, X3.out.2.2.2⟩
                clear HX X3 HC1 HC2 HR0 HNS HI3 HL3
                go_wp2
                go_roundw
                case rel => exact ⟨y, k, L, O, v, u, rfl, hy', X9⟩
                case measure => simpa [strOf] using hyr
      · have HE : Hid (∀ k' L' O', RdB s.data.toList k' L' O' [] → k = k' ∧ L = L' ∧ O = O') := fun k' L' O' hh => by
          obtain ⟨h1, h2⟩ := (rdb_iff _ _ _ _).1 hh
          have := (bankB_size h1).1
          rw [← h2] at this
          omega
        go_upto_region 20 with fail
        have hL1 : L.length ≤ 1048576 := by have := X.out.1; omega
        have hO1 : O.length ≤ 1048576 := by have := X.out.1; omega
        obtain ⟨a1, c1, hv⟩ := X.out.2.2.1.2.2.1.len
        obtain ⟨a2, c2, hu, _⟩ := X.out.2.2.1.2.2.2.shape
        subst hv
        subst hu
        have HFo : Hid (Fo wr a1 L.length (FL L) ∧ Ords wr a2 O.length (OrdF O)) := ⟨(X.out.2.2.1.2.2.1.fo hL1).2, (X.out.2.2.1.2.2.2.list hO1).2⟩
        clear hL1 hO1
        obtain ⟨t, HT⟩ : ∃ t : ByteArray, Hid ((bankOk (FL L) L.length (OrdF O) O.length k → t = bankB (FL L) L.length (OrdF O) O.length k) ∧ (¬ bankOk (FL L) L.length (OrdF O) O.length k → t = ⟨#[]⟩)) := by
          by_cases hb : bankOk (FL L) L.length (OrdF O) O.length k
          · exact ⟨_, fun _ => rfl, fun h => absurd hb h⟩
          · exact ⟨_, fun h => absurd h hb, fun _ => rfl⟩
        have HY : Hid (t = s → s.toList.isEmpty = false → RdB s.data.toList k L O []) := fun e he => by
          by_cases hb : bankOk (FL L) L.length (OrdF O) O.length k
          · exact (rdb_iff s k L O).2 ⟨hb, e.symm.trans (HT.out.1 hb)⟩
          · rw [← e, HT.out.2 hb, Lib.toList_data] at he
            simp at he
        have HN : Hid (t ≠ s → ∀ k' L' O', ¬ RdB s.data.toList k' L' O' []) := fun hne k' L' O' hh => by
          obtain ⟨rfl, rfl, rfl⟩ := HE.out k' L' O' hh
          obtain ⟨h1, h2⟩ := (rdb_iff _ _ _ _).1 hh
          exact hne ((HT.out.1 h1).trans h2.symm)
        obtain ⟨m1, hm1⟩ : ∃ m, L.length = m := ⟨_, rfl⟩
        obtain ⟨m2, hm2⟩ : ∃ m, O.length = m := ⟨_, rfl⟩
        have X' : Hid (SrS s w H r k L O (.slice a1 m1 c1) (.slice a2 m2 c2) wr) := by rw [← hm1, ← hm2]; exact X.out
        rw [hm1, hm2] at HFo HT
        clear X hm1 hm2 HE
        by_cases hse : s.toList.isEmpty = true
        · have FNO : Hid (∀ W, Below H w W → WOut w s (.returned (.tuple #[.agg zBk.toArray, .bool false])) W) := fun W hb => ⟨by rw [HH.out]; exact hb, Or.inr ⟨fun k' L' O' hh => by
            obtain ⟨h1, h2⟩ := (rdb_iff _ _ _ _).1 hh
            have h3 := (bankB_size h1).2
            rw [← h2, ← lenD] at h3
            rw [Lib.toList_data, List.isEmpty_iff] at hse
            rw [hse] at h3
            simp at h3, rfl⟩⟩
          clear HY HN HT HFo
          have r0 := X'.out.2.2.1.1.1 0 _ rfl
          have r1 := X'.out.2.2.1.1.1 1 _ rfl
          have r2 := X'.out.2.2.1.1.1 2 _ rfl
          have r3 := X'.out.2.2.1.1.1 3 _ rfl
          have r4 := X'.out.2.2.1.1.1 4 _ rfl
          have r5 := X'.out.2.2.1.1.1 5 _ rfl
          have r6 := X'.out.2.2.1.1.1 6 _ rfl
          have fz := X'.out.2.2.1.1.2.1
          have FI : Hid (WOut w s (.returned (.tuple #[.agg zBk.toArray, .bool false])) ((((((((wr).setCell ⟨H, 0, none⟩ (.int .i64 0)).setCell ⟨H, 1, none⟩ (.slice none 0 0)).setCell ⟨H, 2, none⟩ (.slice none 0 0)).setCell ⟨H, 3, none⟩ (.int .i64 0)).setCell ⟨H, 4, none⟩ (.int .i64 0)).setCell ⟨H, 5, none⟩ (.int .i64 0)).setCell ⟨H, 6, none⟩ (.int .i64 0))) := FNO.out _ ((((((((X'.out.2.2.2).setCell (p := ⟨H, 0, none⟩) (Nat.le_refl _) (.int .i64 0)).setCell (p := ⟨H, 1, none⟩) (Nat.le_refl _) (.slice none 0 0)).setCell (p := ⟨H, 2, none⟩) (Nat.le_refl _) (.slice none 0 0)).setCell (p := ⟨H, 3, none⟩) (Nat.le_refl _) (.int .i64 0)).setCell (p := ⟨H, 4, none⟩) (Nat.le_refl _) (.int .i64 0)).setCell (p := ⟨H, 5, none⟩) (Nat.le_refl _) (.int .i64 0)).setCell (p := ⟨H, 6, none⟩) (Nat.le_refl _) (.int .i64 0))
          clear FNO X'
          go_wp2
          refine bodyPost_ret (v := .tuple #[.agg zBk.toArray, .bool false]) (by simp [results, Tryz.results4, go_sem, zBk, r0, r1, r2, r3, r4, r5, r6]) rfl ?_
          exact FI.out
        · have hse' : s.toList.isEmpty = false := by simpa using hse
          obtain ⟨⟨s0, s1', s2', s3, s4, s5, s6⟩, sf, sz⟩ := X'.out.2.2.1.2.1
          have HY2 : Hid (t = s → RdB s.data.toList k L O []) := fun e => HY.out e hse'
          clear HY hse
          go_wp2_with fail
          refine (specBT a1 a2 m1 c1 m2 c2 (FL L) (OrdF O) k wr HFo.out.1 HFo.out.2 t HT.out).mono ?_
          rintro e w5 ⟨rfl, B5⟩
          have X5 : Hid (SrS s w H r k L O (.slice a1 m1 c1) (.slice a2 m2 c2) w5) := ⟨X'.out.1, X'.out.2.1, X'.out.2.2.1.below B5, X'.out.2.2.2.trans (B5.mono (by have := X'.out.2.2.1.2.1.2.2; omega))⟩
          clear X' B5 HT HFo s0 s1' s2' s3 s4 s5 s6 sf sz
          by_cases hts : t = s
          · have HR : Hid (RdB s.data.toList k L O []) := HY2.out hts
            clear HY2 HN
            subst hts
            obtain ⟨⟨s0, s1', s2', s3, s4, s5, s6⟩, sf, sz⟩ := X5.out.2.2.1.2.1
            have r0 := X5.out.2.2.1.1.1 0 _ rfl
            have r1 := X5.out.2.2.1.1.1 1 _ rfl
            have r2 := X5.out.2.2.1.1.1 2 _ rfl
            have r3 := X5.out.2.2.1.1.1 3 _ rfl
            have r4 := X5.out.2.2.1.1.1 4 _ rfl
            have r5 := X5.out.2.2.1.1.1 5 _ rfl
            have r6 := X5.out.2.2.1.1.1 6 _ rfl
            have fz := X5.out.2.2.1.1.2.1
            have nh : ¬ H = H + 1 := by omega
            have FI : Hid (WOut w t (.returned (.tuple #[.agg (bkC k (.slice a1 m1 c1) (.slice a2 m2 c2)).toArray, .bool true])) ((((((((w5).setCell ⟨H, 0, none⟩ (.int .i64 k.day)).setCell ⟨H, 1, none⟩ (.slice a1 m1 c1)).setCell ⟨H, 2, none⟩ (.slice a2 m2 c2)).setCell ⟨H, 3, none⟩ (.int .i64 k.inn)).setCell ⟨H, 4, none⟩ (.int .i64 k.out)).setCell ⟨H, 5, none⟩ (.int .i64 k.posted)).setCell ⟨H, 6, none⟩ (.int .i64 k.missed))) := ⟨by rw [HH.out]; exact (((((((X5.out.2.2.2).setCell (p := ⟨H, 0, none⟩) (Nat.le_refl _) (.int .i64 k.day)).setCell (p := ⟨H, 1, none⟩) (Nat.le_refl _) (.slice a1 m1 c1)).setCell (p := ⟨H, 2, none⟩) (Nat.le_refl _) (.slice a2 m2 c2)).setCell (p := ⟨H, 3, none⟩) (Nat.le_refl _) (.int .i64 k.inn)).setCell (p := ⟨H, 4, none⟩) (Nat.le_refl _) (.int .i64 k.out)).setCell (p := ⟨H, 5, none⟩) (Nat.le_refl _) (.int .i64 k.posted)).setCell (p := ⟨H, 6, none⟩) (Nat.le_refl _) (.int .i64 k.missed), Or.inl ⟨k, L, O, _, _, HR.out, rfl, AL.mono ((((((((X5.out.2.2.1.2.2.1).put (q := H) (by omega) 0 (.int .i64 k.day)).put (q := H) (by omega) 1 (.slice a1 m1 c1)).put (q := H) (by omega) 2 (.slice a2 m2 c2)).put (q := H) (by omega) 3 (.int .i64 k.inn)).put (q := H) (by omega) 4 (.int .i64 k.out)).put (q := H) (by omega) 5 (.int .i64 k.posted)).put (q := H) (by omega) 6 (.int .i64 k.missed)) (by rw [HH.out]; omega), OrdL.mono ((((((((X5.out.2.2.1.2.2.2).put (q := H) (by omega) 0 (.int .i64 k.day)).put (q := H) (by omega) 1 (.slice a1 m1 c1)).put (q := H) (by omega) 2 (.slice a2 m2 c2)).put (q := H) (by omega) 3 (.int .i64 k.inn)).put (q := H) (by omega) 4 (.int .i64 k.out)).put (q := H) (by omega) 5 (.int .i64 k.posted)).put (q := H) (by omega) 6 (.int .i64 k.missed)) (by rw [HH.out]; omega)⟩⟩
            clear X5 HR
            have hq : (t.toList == t.toList) = true := by simp
            go_wp2
            refine bodyPost_ret (v := .tuple #[.agg (bkC k (.slice a1 m1 c1) (.slice a2 m2 c2)).toArray, .bool true]) (by simp [results, Tryz.results4, go_sem, bkC, r0, r1, r2, r3, r4, r5, r6]) rfl ?_
            exact FI.out
          · have FNO : Hid (∀ W, Below H w W → WOut w s (.returned (.tuple #[.agg zBk.toArray, .bool false])) W) := fun W hb => ⟨by rw [HH.out]; exact hb, Or.inr ⟨HN.out hts, rfl⟩⟩
            have hq : (t.toList == s.toList) = false := by
              rw [beq_eq_false_iff_ne]
              intro e
              exact hts (ext_ofD (by rw [Lib.toList_data, Lib.toList_data] at e; exact e))
            clear HY2 HN hts
            have r0 := X5.out.2.2.1.1.1 0 _ rfl
            have r1 := X5.out.2.2.1.1.1 1 _ rfl
            have r2 := X5.out.2.2.1.1.1 2 _ rfl
            have r3 := X5.out.2.2.1.1.1 3 _ rfl
            have r4 := X5.out.2.2.1.1.1 4 _ rfl
            have r5 := X5.out.2.2.1.1.1 5 _ rfl
            have r6 := X5.out.2.2.1.1.1 6 _ rfl
            have fz := X5.out.2.2.1.1.2.1
            have FI : Hid (WOut w s (.returned (.tuple #[.agg zBk.toArray, .bool false])) ((((((((w5).setCell ⟨H, 0, none⟩ (.int .i64 0)).setCell ⟨H, 1, none⟩ (.slice none 0 0)).setCell ⟨H, 2, none⟩ (.slice none 0 0)).setCell ⟨H, 3, none⟩ (.int .i64 0)).setCell ⟨H, 4, none⟩ (.int .i64 0)).setCell ⟨H, 5, none⟩ (.int .i64 0)).setCell ⟨H, 6, none⟩ (.int .i64 0))) := FNO.out _ ((((((((X5.out.2.2.2).setCell (p := ⟨H, 0, none⟩) (Nat.le_refl _) (.int .i64 0)).setCell (p := ⟨H, 1, none⟩) (Nat.le_refl _) (.slice none 0 0)).setCell (p := ⟨H, 2, none⟩) (Nat.le_refl _) (.slice none 0 0)).setCell (p := ⟨H, 3, none⟩) (Nat.le_refl _) (.int .i64 0)).setCell (p := ⟨H, 4, none⟩) (Nat.le_refl _) (.int .i64 0)).setCell (p := ⟨H, 5, none⟩) (Nat.le_refl _) (.int .i64 0)).setCell (p := ⟨H, 6, none⟩) (Nat.le_refl _) (.int .i64 0))
            clear FNO X5
            go_wp2
            refine bodyPost_ret (v := .tuple #[.agg zBk.toArray, .bool false]) (by simp [results, Tryz.results4, go_sem, zBk, r0, r1, r2, r3, r4, r5, r6]) rfl ?_
            exact FI.out
end Go.Proofs.YtedhlmipcfdldaaGreatDoor
