/- The reader's numbers, one behind the other, into places. Conditions: as of the reader; the places lie in a block of their own. -/
import Derived.Test.YtedhlmipcfdldaaDoorRdn
import Derived.Test.YtedhlmipcfdldaaDoorOpx
namespace Go.Proofs.YtedhlmipcfdldaaDoor
open Go.RowKit Go.Shelf
set_option maxRecDepth 8000

/-- What steps of the reader in block p leave that write into block R. -/
structure Stq (p R : Nat) (w w' : World) : Prop where
  os : w'.os = w.os
  tape : w'.tape = w.tape
  output : w'.output = w.output
  size : w.heap.size ≤ w'.heap.size
  block : ∀ k, k < w.heap.size → k ≠ p → k ≠ R → w'.heap[k]? = w.heap[k]?
theorem Stq.refl (p R : Nat) (w : World) : Stq p R w w := ⟨rfl, rfl, rfl, Nat.le_refl _, fun _ _ _ _ => rfl⟩
theorem Stq.trans {p R : Nat} {a b c : World} (h : Stq p R a b) (k : Stq p R b c) : Stq p R a c :=
  ⟨k.os.trans h.os, k.tape.trans h.tape, k.output.trans h.output, Nat.le_trans h.size k.size, fun j hj h1 h2 => (k.block j (Nat.lt_of_lt_of_le hj h.size) h1 h2).trans (h.block j hj h1 h2)⟩
theorem Stq.ofStp {p R : Nat} {w w' : World} (h : Stp p w w') : Stq p R w w' := ⟨h.os, h.tape, h.output, h.size, fun k hk h1 _ => h.block k hk h1⟩
theorem Stq.setCell {p R : Nat} {a w : World} (h : Stq p R a w) (off : Nat) (u : Value) : Stq p R a (w.setCell ⟨R, off, none⟩ u) :=
  h.trans ((Stp.refl R w).setCell off u |> fun k => ⟨k.os, k.tape, k.output, k.size, fun j hj _ h2 => k.block j hj h2⟩)
theorem Stq.below {p R n : Nat} {w w' : World} (h : Stq p R w w') (hn : n ≤ w.heap.size) (hp : n ≤ p) (hR : n ≤ R) : Below n w w' :=
  ⟨h.os, h.tape, h.output, Nat.le_trans hn h.size |> fun _ => h.size, fun k hk => h.block k (by omega) (by omega) (by omega)⟩
theorem Vals.stp {w w' : World} {p R : Nat} {vs : List Value} (h : Vals w R vs) (hs : Stp p w w') (hne : R ≠ p) : Vals w' R vs :=
  ⟨fun j v hj => (hs.cell (p := ⟨R, j, none⟩) h.2.2 hne).trans (h.1 j v hj), fun o => (hs.frozen (p := ⟨R, o, none⟩) h.2.2 hne).trans (h.2.1 o), Nat.lt_of_lt_of_le h.2.2 hs.size⟩
theorem Rst.far {w : World} {p R : Nat} {s : ByteArray} (h : Rst w p s) (hne : p ≠ R) (o : Nat) (u : Value) : Rst (w.setCell ⟨R, o, none⟩ u) p s :=
  ⟨(World.cell?_setCell_other _ _ _ _ (by intro e; exact hne (congrArg Addr.block e).symm)).trans h.1, by rw [World.frozen?_setCell]; exact h.2.1, h.2.2.1, by simpa [World.setCell] using h.2.2.2.1, h.2.2.2.2⟩
theorem Glo.far {w : World} {R : Nat} (h : Glo w) (hR : 7 ≤ R) (o : Nat) (u : Value) : Glo (w.setCell ⟨R, o, none⟩ u) := h.stp ((Stp.refl R w).setCell o u) hR
/-- Numbers laid into places. -/
def setAll (vs : List Value) : List Nat → List Int → List Value
  | q :: qs, n :: ns => setAll (vs.set q (.int .i64 n)) qs ns
  | _, _ => vs
theorem setAll_snoc : ∀ (qs : List Nat) (ns : List Int) (vs : List Value) (q : Nat) (n : Int), qs.length = ns.length → setAll vs (qs ++ [q]) (ns ++ [n]) = (setAll vs qs ns).set q (.int .i64 n)
  | [], [], vs, q, n, _ => rfl
  | [], _ :: _, _, _, _, h => by simp at h
  | _ :: _, [], _, _, _, h => by simp at h
  | a :: qs, b :: ns, vs, q, n, h => by simpa [setAll] using setAll_snoc qs ns (vs.set a (.int .i64 b)) q n (by simpa using h)
theorem setAll_len : ∀ (qs : List Nat) (ns : List Int) (vs : List Value), (setAll vs qs ns).length = vs.length
  | [], _, vs => by simp [setAll]
  | _ :: _, [], vs => by simp [setAll]
  | q :: qs, n :: ns, vs => by simp [setAll, setAll_len qs ns]
/-- How far the numbers are read. -/
def NTo (n : Nat) (S : List UInt8) (k : Nat) (pre : List Int) (t : List UInt8) : Prop := pre.length = k ∧ readNums n S = (readNums (n - k) t).map (fun x => (pre ++ x.1, x.2))
theorem NTo.start (n : Nat) (S : List UInt8) : NTo n S 0 [] S := ⟨rfl, by simp⟩
theorem NTo.over {n : Nat} {S t : List UInt8} {pre : List Int} (h : NTo n S n pre t) : readNums n S = some (pre, t) := by
  rw [h.2, Nat.sub_self]
  simp [readNums]
theorem blank_cons {t : List UInt8} (h : Lib.hasPrefix t [32] = true) : t = 32 :: t.drop 1 := by
  unfold Lib.hasPrefix at h
  cases t with
  | nil => simp at h
  | cons b l => simp at h; simp [h]
theorem NTo.step {n k : Nat} {S t : List UInt8} {pre : List Int} (h : NTo n S k pre t) (hk : k < n) (hp : Lib.hasPrefix t [32] = true) {m : Int} (hm : intL (wordOf (t.drop 1)) = some m) : NTo n S (k + 1) (pre ++ [m]) (restOf (t.drop 1)) := by
  refine ⟨by simp [h.1], ?_⟩
  rw [h.2, blank_cons hp, show n - k = (n - (k + 1)) + 1 by omega]
  simp only [readNums, List.drop_succ_cons, List.drop_zero, if_true, hm]
  cases readNums (n - (k + 1)) (restOf (t.drop 1)) with
  | none => rfl
  | some x => simp
theorem NTo.noBlank {n k : Nat} {S t : List UInt8} {pre : List Int} (h : NTo n S k pre t) (hk : k < n) (hp : Lib.hasPrefix t [32] = false) : readNums n S = none := by
  rw [h.2, show n - k = (n - (k + 1)) + 1 by omega]
  cases t with
  | nil => rfl
  | cons b l =>
    have : ¬ b = 32 := by
      unfold Lib.hasPrefix at hp
      intro e
      subst e
      simp at hp
    simp [readNums, this]
theorem NTo.noNum {n k : Nat} {S t : List UInt8} {pre : List Int} (h : NTo n S k pre t) (hk : k < n) (hp : Lib.hasPrefix t [32] = true) (hm : intL (wordOf (t.drop 1)) = none) : readNums n S = none := by
  rw [h.2, blank_cons hp, show n - k = (n - (k + 1)) + 1 by omega]
  simp only [readNums, if_true, hm]
  rfl
/-- What the numbers come to. -/
def NumsO (w : World) (p R : Nat) (s : ByteArray) (vs : List Value) (ps : List Nat) (e : Ending) (w' : World) : Prop := Stq p R w w' ∧ ((∃ (ns : List Int) (t : ByteArray), readNums ps.length s.data.toList = some (ns, t.data.toList) ∧ e = .returned (.tuple #[]) ∧ Rst w' p t ∧ Glo w' ∧ Vals w' R (setAll vs ps ns)) ∨ (readNums ps.length s.data.toList = none ∧ Pan e))
theorem PtrP.stq {w w' : World} {a : Option Addr} {p R : Nat} {ps : List Nat} (h : PtrP w a R ps) (hs : Stq p R w w') (hp : p < R) : PtrP w' a R ps := by
  rcases h with e | ⟨b, h1, h2, h3, h4⟩
  · exact Or.inl e
  · exact Or.inr ⟨b, h1, Nat.lt_of_lt_of_le h2 hs.size, h3, fun i hi => (World.cell?_of_block (w := w) (hs.block b h2 (by omega) (by omega))).trans (h4 i hi)⟩
theorem snoc_take {ps : List Nat} {k : Nat} (h : k < ps.length) : ps.take (k + 1) = ps.take k ++ [ps[k]] := by rw [List.take_succ_eq_append_getElem h]
set_option maxHeartbeats 2000000 in
theorem numbersL (p R : Nat) (a : Option Addr) (c : Nat) (s : ByteArray) (vs : List Value) (ps : List Nat) (w : World) (h : Rst w p s) (g : Glo w) (hP : PtrP w a R ps) (hV : Vals w R vs) (hpR : p < R) (hps : ∀ q ∈ ps, q < vs.length) (hl : ps.length ≤ 100) :
    Calls Tryd.prog 26 #[.pointer (some ⟨p, 0, none⟩), .slice a ps.length c] w fun e w' => NumsO w p R s vs ps e w' := by
  obtain ⟨m, hm⟩ : ∃ m, ps.length = m := ⟨_, rfl⟩
  have HM : Hid (ps.length = m ∧ ∀ q ∈ ps, q < vs.length) := ⟨hm, hps⟩
  have H0 : Hid (Rst w p s ∧ Glo w ∧ Vals w R vs ∧ PtrP w a R ps) := ⟨h, g, hV, hP⟩
  have h7 : 7 ≤ p := h.2.2.1
  rw [hm] at hl ⊢
  clear hm h g hP hV hps
  go_enter Tryd.func26, Tryd.ntmps26
  go_wp2
  go_loopw [8] (fun i wr => ∃ (k : Nat) (t : ByteArray) (pre : List Int), k ≤ m ∧ i = .int .i64 k ∧ Hid (NTo m s.data.toList k pre t.data.toList) ∧ Hid (Rst wr p t ∧ Glo wr ∧ Vals wr R (setAll vs (ps.take k) pre) ∧ Stq p R w wr)) (fun i _ => m - (intOf i).toNat)
  case atStart => exact ⟨0, s, [], Nat.zero_le _, rfl, NTo.start _ _, (⟨H0.out.1, H0.out.2.1, by simpa [setAll] using H0.out.2.2.1, Stq.refl _ _ _⟩ : Rst w p s ∧ Glo w ∧ Vals w R (setAll vs (ps.take 0) []) ∧ Stq p R w w)⟩
  case round =>
    obtain ⟨k, t, pre, hk, rfl, HN, H1⟩ := hrel
    by_cases hlt : k < m
    · have hkl : k < ps.length := by rw [HM.out.1]; exact hlt
      obtain ⟨q, hq⟩ : ∃ q, ps[k] = q := ⟨_, rfl⟩
      obtain ⟨b, ha, hb, hRb, hc⟩ : ∃ b, a = some ⟨b, 0, none⟩ ∧ b < wr.heap.size ∧ R < b ∧ wr.cell? ⟨b, k, none⟩ = some (.pointer (some ⟨R, q, none⟩)) := by
        rcases H0.out.2.2.2.stq H1.out.2.2.2 hpR with e | ⟨b, h1, h2, h3, h4⟩
        · rw [e] at hkl; simp at hkl
        · exact ⟨b, h1, h2, h3, by rw [h4 k hkl, hq]⟩
      subst ha
      have hqv : Hid (q < vs.length) := by show q < vs.length; rw [← hq]; exact HM.out.2 _ (List.getElem_mem _)
      have HQ : Hid (ps.take (k + 1) = ps.take k ++ [q]) := by show _ = _; rw [snoc_take hkl, hq]
      clear hq hkl
      go_wp2_with fail
      refine (takeL p t ⟨#[32]⟩ wr H1.out.1 H1.out.2.1 (fun hh => by
        have := blank_cons hh
        have hl := congrArg List.length this
        rw [lenD] at hl
        simp at hl
        show 1 ≤ _
        omega)).mono ?_
      rintro e w1 ⟨S1, hor⟩
      rcases hor with ⟨hp1, rfl, R1⟩ | ⟨hp1, t9, p9, rfl⟩
      · obtain ⟨u, hu⟩ : ∃ u, t.extract 1 t.size = u := ⟨_, rfl⟩
        have HU : Hid (u.data.toList = t.data.toList.drop 1) := by show _ = _; rw [← hu, extLD, List.take_of_length_le (by simp)]
        have hu' : t.extract (⟨#[32]⟩ : ByteArray).size t.size = u := hu
        rw [hu'] at R1
        have H2 : Hid (Rst w1 p u ∧ Glo w1 ∧ Vals w1 R (setAll vs (ps.take k) pre) ∧ Stq p R w w1 ∧ Lib.hasPrefix t.data.toList [32] = true) := ⟨R1, H1.out.2.1.stp S1 h7, H1.out.2.2.1.stp S1 (by omega), H1.out.2.2.2.trans (Stq.ofStp S1), hp1⟩
        clear S1 R1 H1 hp1 hu hu'
        go_wp2_with fail
        refine (numberL p u w1 H2.out.1 H2.out.2.1).mono ?_
        rintro e w2 ⟨S2, hor⟩
        rcases hor with ⟨n, v, hn, hv, rfl, R2⟩ | ⟨hn, t9, p9, rfl⟩
        · have V2 := H2.out.2.2.1.stp S2 (by omega)
          have HN2 : Hid (NTo m s.data.toList (k + 1) (pre ++ [n]) v.data.toList) := by
            have := HN.out.step hlt H2.out.2.2.2.2 (m := n) (by rw [← HU.out]; exact intL_of_num hn)
            rw [hv, HU.out]
            exact this
          obtain ⟨z, hz⟩ : ∃ z, w2.cell? ⟨R, q, none⟩ = some z := ⟨_, V2.1 q _ (List.getElem?_eq_getElem (by rw [setAll_len]; exact hqv.out))⟩
          have hfz := V2.2.1 q
          have H3 : Hid (Rst (w2.setCell ⟨R, q, none⟩ (.int .i64 n)) p v ∧ Glo (w2.setCell ⟨R, q, none⟩ (.int .i64 n)) ∧ Vals (w2.setCell ⟨R, q, none⟩ (.int .i64 n)) R (setAll vs (ps.take (k + 1)) (pre ++ [n])) ∧ Stq p R w (w2.setCell ⟨R, q, none⟩ (.int .i64 n))) := by
            refine ⟨R2.far (by omega) _ _, (H2.out.2.1.stp S2 h7).far (by omega) _ _, ?_, (H2.out.2.2.2.1.trans (Stq.ofStp S2)).setCell _ _⟩
            have := V2.set q (.int .i64 n)
            rw [HQ.out, setAll_snoc _ _ _ _ _ (by rw [List.length_take, HM.out.1, HN.out.1]; omega)]
            exact this
          clear S2 R2 V2 H2 hn hv HN HU
          go_wp2
          go_roundw
          case rel => exact ⟨k + 1, v, pre ++ [n], by omega, by go_num, HN2, H3⟩
          case measure => simp [intOf]; omega
        · have FI : Hid (NumsO w p R s vs ps (.panicked [{ v := .iface t9 p9, recovered := false }]) w2) := ⟨H2.out.2.2.2.1.trans (Stq.ofStp S2), Or.inr ⟨by
            rw [HM.out.1]
            refine HN.out.noNum hlt H2.out.2.2.2.2 ?_
            rw [← HU.out]
            cases hi : intL (wordOf u.data.toList) with
            | none => rfl
            | some y => exact absurd (intL_num hi) (hn y), t9, p9, rfl⟩⟩
          exact ⟨rfl, FI.out⟩
      · have FI : Hid (NumsO w p R s vs ps (.panicked [{ v := .iface t9 p9, recovered := false }]) w1) := ⟨H1.out.2.2.2.trans (Stq.ofStp S1), Or.inr ⟨by rw [HM.out.1]; exact HN.out.noBlank hlt hp1, t9, p9, rfl⟩⟩
        exact ⟨rfl, FI.out⟩
    · obtain rfl : k = m := by omega
      have FI : Hid (NumsO w p R s vs ps (.returned (.tuple #[])) wr) := ⟨H1.out.2.2.2, Or.inl ⟨pre, t, by rw [HM.out.1]; exact HN.out.over, rfl, H1.out.1, H1.out.2.1, by have := H1.out.2.2.1; rwa [List.take_of_length_le (by rw [HM.out.1]; exact Nat.le_refl _)] at this⟩⟩
      clear HN H1 H0
      go_wp2
      refine bodyPost_end (results_none rfl _ _ _) rfl ?_
      exact FI.out
end Go.Proofs.YtedhlmipcfdldaaDoor
