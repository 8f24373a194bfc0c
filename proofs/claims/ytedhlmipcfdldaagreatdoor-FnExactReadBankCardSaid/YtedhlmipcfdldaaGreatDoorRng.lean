/- The reader's numbers, one behind the other, into whatever places; and a line of them. Conditions: as of the reader; the places lie in memory of the call's own. -/
import Derived.Test.YtedhlmipcfdldaaGreatDoorRdn
namespace Go.Proofs.YtedhlmipcfdldaaGreatDoor
open Go.RowKit Go.Shelf
set_option maxRecDepth 8000

/-- What steps of the reader in block p leave that write into blocks from lo on. -/
structure Stn (p lo : Nat) (w w' : World) : Prop where
  os : w'.os = w.os
  tape : w'.tape = w.tape
  output : w'.output = w.output
  size : w.heap.size ≤ w'.heap.size
  block : ∀ k, k < w.heap.size → k ≠ p → k < lo → w'.heap[k]? = w.heap[k]?
theorem Stn.refl (p lo : Nat) (w : World) : Stn p lo w w := ⟨rfl, rfl, rfl, Nat.le_refl _, fun _ _ _ _ => rfl⟩
theorem Stn.trans {p lo : Nat} {a b c : World} (h : Stn p lo a b) (k : Stn p lo b c) : Stn p lo a c :=
  ⟨k.os.trans h.os, k.tape.trans h.tape, k.output.trans h.output, Nat.le_trans h.size k.size, fun j hj h1 h2 => (k.block j (Nat.lt_of_lt_of_le hj h.size) h1 h2).trans (h.block j hj h1 h2)⟩
theorem Stn.ofStp {p lo : Nat} {w w' : World} (h : Stp p w w') : Stn p lo w w' := ⟨h.os, h.tape, h.output, h.size, fun k hk h1 _ => h.block k hk h1⟩
theorem Stn.ofBelow {p lo : Nat} {w w' : World} (h : Below w.heap.size w w') : Stn p lo w w' := Stn.ofStp (Stp.ofBelow h)
theorem Stn.setCell {p lo : Nat} {a w : World} (h : Stn p lo a w) {R : Nat} (hR : lo ≤ R) (off : Nat) (u : Value) : Stn p lo a (w.setCell ⟨R, off, none⟩ u) :=
  h.trans ((Stp.refl R w).setCell off u |> fun k => ⟨k.os, k.tape, k.output, k.size, fun j hj _ h2 => k.block j hj (by omega)⟩)
theorem Stn.stp {p lo : Nat} {w0 w w' : World} (h : Stp p w0 w) (k : Stn p lo w w') (hlo : w0.heap.size ≤ lo) : Stp p w0 w' :=
  ⟨k.os.trans h.os, k.tape.trans h.tape, k.output.trans h.output, Nat.le_trans h.size k.size, fun j hj hp => (k.block j (Nat.lt_of_lt_of_le hj h.size) hp (by omega)).trans (h.block j hj hp)⟩
theorem Rst.far {w : World} {p R : Nat} {s : ByteArray} (h : Rst w p s) (hne : p ≠ R) (o : Nat) (u : Value) : Rst (w.setCell ⟨R, o, none⟩ u) p s :=
  ⟨(World.cell?_setCell_other _ _ _ _ (by intro e; exact hne (congrArg Addr.block e).symm)).trans h.1, by rw [World.frozen?_setCell]; exact h.2.1, h.2.2.1, by simpa [World.setCell] using h.2.2.2.1, h.2.2.2.2⟩
theorem Glo.far {w : World} {R : Nat} (h : Glo w) (hR : 7 ≤ R) (o : Nat) (u : Value) : Glo (w.setCell ⟨R, o, none⟩ u) := h.stp ((Stp.refl R w).setCell o u) hR
/-- Places for n numbers, and what they hold as they are filled: Q. -/
structure Plc (p lo : Nat) (a : Option Addr) (n : Nat) (T : Nat → Nat × Nat) (Q : List Int → World → Prop) : Prop where
  keep : ∀ pre w w', Q pre w → Stp p w w' → Q pre w'
  place : ∀ pre w, Q pre w → pre.length < n → ∃ b z, a = some ⟨b, 0, none⟩ ∧ w.cell? ⟨b, pre.length, none⟩ = some (.pointer (some ⟨(T pre.length).1, (T pre.length).2, none⟩)) ∧ lo ≤ (T pre.length).1 ∧ w.cell? ⟨(T pre.length).1, (T pre.length).2, none⟩ = some z ∧ w.frozen? ⟨(T pre.length).1, (T pre.length).2, none⟩ = false ∧ ∀ m : Int, Q (pre ++ [m]) (w.setCell ⟨(T pre.length).1, (T pre.length).2, none⟩ (.int .i64 m))
/-- How far the numbers are read. -/
def NTo (n : Nat) (S : List UInt8) (k : Nat) (pre : List Int) (t : List UInt8) : Prop := pre.length = k ∧ readNums n S = (readNums (n - k) t).map (fun x => (pre ++ x.1, x.2))
theorem NTo.start (n : Nat) (S : List UInt8) : NTo n S 0 [] S := ⟨rfl, by simp⟩
theorem NTo.over {n : Nat} {S t : List UInt8} {pre : List Int} (h : NTo n S n pre t) : readNums n S = some (pre, t) := by
  rw [h.2, Nat.sub_self]
  simp [readNums]
theorem blank_cons {t : List UInt8} (h : Lib.hasPrefix t [32] = true) : t = 32 :: t.drop 1 := by
  unfold Lib.hasPrefix at h
  cases t with
  | nil => simp at h
  | cons b l => simp at h; simp [h]
theorem NTo.step {n k : Nat} {S t : List UInt8} {pre : List Int} (h : NTo n S k pre t) (hk : k < n) (hp : Lib.hasPrefix t [32] = true) {m : Int} (hm : intL (wordOf (t.drop 1)) = some m) : NTo n S (k + 1) (pre ++ [m]) (restOf (t.drop 1)) := by
  refine ⟨by simp [h.1], ?_⟩
  rw [h.2, blank_cons hp, show n - k = (n - (k + 1)) + 1 by omega]
  simp only [readNums, List.drop_succ_cons, List.drop_zero, if_true, hm]
  cases readNums (n - (k + 1)) (restOf (t.drop 1)) with
  | none => rfl
  | some x => simp
theorem NTo.noBlank {n k : Nat} {S t : List UInt8} {pre : List Int} (h : NTo n S k pre t) (hk : k < n) (hp : Lib.hasPrefix t [32] = false) : readNums n S = none := by
  rw [h.2, show n - k = (n - (k + 1)) + 1 by omega]
  cases t with
  | nil => rfl
  | cons b l =>
    have : ¬ b = 32 := by
      unfold Lib.hasPrefix at hp
      intro e
      subst e
      simp at hp
    simp [readNums, this]
theorem NTo.noNum {n k : Nat} {S t : List UInt8} {pre : List Int} (h : NTo n S k pre t) (hk : k < n) (hp : Lib.hasPrefix t [32] = true) (hm : intL (wordOf (t.drop 1)) = none) : readNums n S = none := by
  rw [h.2, blank_cons hp, show n - k = (n - (k + 1)) + 1 by omega]
  simp only [readNums, if_true, hm]
  rfl
/-- What the numbers come to. -/
def NumG (w : World) (p lo : Nat) (s : ByteArray) (n : Nat) (Q : List Int → World → Prop) (e : Ending) (w' : World) : Prop := Stn p lo w w' ∧ ((∃ (ns : List Int) (t : ByteArray), readNums n s.data.toList = some (ns, t.data.toList) ∧ e = .returned (.tuple #[]) ∧ Rst w' p t ∧ Glo w' ∧ Q ns w') ∨ (readNums n s.data.toList = none ∧ Pan e))
set_option maxHeartbeats 2000000 in
theorem numbersG (p lo : Nat) (a : Option Addr) (n c : Nat) (s : ByteArray) (T : Nat → Nat × Nat) (Q : List Int → World → Prop) (w : World) (h : Rst w p s) (g : Glo w) (hP : Plc p lo a n T Q) (hQ : Q [] w) (hpl : p < lo) (hn : n ≤ 100) :
    Calls Tryz.prog 41 #[.pointer (some ⟨p, 0, none⟩), .slice a n c] w fun e w' => NumG w p lo s n Q e w' := by
  have H0 : Hid (Rst w p s ∧ Glo w ∧ Q [] w) := ⟨h, g, hQ⟩
  have HP : Hid (Plc p lo a n T Q) := hP
  have h7 : 7 ≤ p := h.2.2.1
  clear h g hP hQ
  go_enter Tryz.func41, Tryz.ntmps41
  go_wp2
  go_loopw [8] (fun i wr => ∃ (k : Nat) (t : ByteArray) (pre : List Int), k ≤ n ∧ i = .int .i64 k ∧ Hid (NTo n s.data.toList k pre t.data.toList) ∧ Hid (Rst wr p t ∧ Glo wr ∧ Q pre wr ∧ Stn p lo w wr)) (fun i _ => n - (intOf i).toNat)
  case atStart => exact ⟨0, s, [], Nat.zero_le _, rfl, NTo.start _ _, (⟨H0.out.1, H0.out.2.1, H0.out.2.2, Stn.refl _ _ _⟩ : Rst w p s ∧ Glo w ∧ Q [] w ∧ Stn p lo w w)⟩
  case round =>
    obtain ⟨k, t, pre, hk, rfl, HN, H1⟩ := hrel
    by_cases hlt : k < n
    · have hpk : Hid (pre.length = k) := HN.out.1
      obtain ⟨b, z0, ha, hc, _⟩ := HP.out.place pre wr H1.out.2.2.1 (by rw [hpk.out]; exact hlt)
      subst ha
      obtain ⟨R, hR⟩ : ∃ R, (T pre.length).1 = R := ⟨_, rfl⟩
      obtain ⟨q, hq⟩ : ∃ q, (T pre.length).2 = q := ⟨_, rfl⟩
      have HRQ : Hid ((T pre.length).1 = R ∧ (T pre.length).2 = q) := ⟨hR, hq⟩
      rw [hR, hq, hpk.out] at hc
      clear hR hq
      go_wp2_with fail
      refine (takeL p t ⟨#[32]⟩ wr H1.out.1 H1.out.2.1 (fun hh => by
        have := blank_cons hh
        have hl := congrArg List.length this
        rw [lenD] at hl
        simp at hl
        show 1 ≤ _
        omega)).mono ?_
      rintro e w1 ⟨S1, hor⟩
      rcases hor with ⟨hp1, rfl, R1⟩ | ⟨hp1, t9, p9, rfl⟩
      · obtain ⟨u, hu⟩ : ∃ u, t.extract 1 t.size = u := ⟨_, rfl⟩
        have HU : Hid (u.data.toList = t.data.toList.drop 1) := by show _ = _; rw [← hu, extLD, List.take_of_length_le (by simp)]
        have hu' : t.extract (⟨#[32]⟩ : ByteArray).size t.size = u := hu
        rw [hu'] at R1
        have H2 : Hid (Rst w1 p u ∧ Glo w1 ∧ Q pre w1 ∧ Stn p lo w w1 ∧ Lib.hasPrefix t.data.toList [32] = true) := ⟨R1, H1.out.2.1.stp S1 h7, HP.out.keep _ _ _ H1.out.2.2.1 S1, H1.out.2.2.2.trans (Stn.ofStp S1), hp1⟩
        have S1' : Hid (Stp p wr w1) := S1
        clear S1 R1 hp1 hu hu'
        go_wp2_with fail
        refine (numberL p u w1 H2.out.1 H2.out.2.1).mono ?_
        rintro e w2 ⟨S2, hor⟩
        rcases hor with ⟨m, v, hm, hv, rfl, R2⟩ | ⟨hm, t9, p9, rfl⟩
        · have HN2 : Hid (NTo n s.data.toList (k + 1) (pre ++ [m]) v.data.toList) := by
            have := HN.out.step hlt H2.out.2.2.2.2 (m := m) (by rw [← HU.out]; exact intL_of_num hm)
            rw [hv, HU.out]
            exact this
          have Q2 := HP.out.keep _ _ _ H2.out.2.2.1 S2
          obtain ⟨b', z, ha', hc', hlo, hz, hfz, hQ⟩ := HP.out.place pre w2 Q2 (by rw [hpk.out]; exact hlt)
          clear ha' hc'
          rw [HRQ.out.1, HRQ.out.2] at hz hfz hQ
          rw [HRQ.out.1] at hlo
          have H3 : Hid (Rst (w2.setCell ⟨R, q, none⟩ (.int .i64 m)) p v ∧ Glo (w2.setCell ⟨R, q, none⟩ (.int .i64 m)) ∧ Q (pre ++ [m]) (w2.setCell ⟨R, q, none⟩ (.int .i64 m)) ∧ Stn p lo w (w2.setCell ⟨R, q, none⟩ (.int .i64 m))) := ⟨R2.far (by omega) _ _, (H2.out.2.1.stp S2 h7).far (by omega) _ _, hQ m, (H2.out.2.2.2.1.trans (Stn.ofStp S2)).setCell hlo _ _⟩
          clear S2 R2 H2 hm hv HN HU Q2 hQ H1 HRQ hpk S1'
          go_wp2
          go_roundw
          case rel => exact ⟨k + 1, v, pre ++ [m], by omega, by go_num, HN2, H3⟩
          case measure => simp [intOf]; omega
        · have FI : Hid (NumG w p lo s n Q (.panicked [{ v := .iface t9 p9, recovered := false }]) w2) := ⟨H2.out.2.2.2.1.trans (Stn.ofStp S2), Or.inr ⟨by
            refine HN.out.noNum hlt H2.out.2.2.2.2 ?_
            rw [← HU.out]
            cases hi : intL (wordOf u.data.toList) with
            | none => rfl
            | some y => exact absurd (intL_num hi) (hm y), t9, p9, rfl⟩⟩
          exact ⟨rfl, FI.out⟩
      · have FI : Hid (NumG w p lo s n Q (.panicked [{ v := .iface t9 p9, recovered := false }]) w1) := ⟨H1.out.2.2.2.trans (Stn.ofStp S1), Or.inr ⟨HN.out.noBlank hlt hp1, t9, p9, rfl⟩⟩
        exact ⟨rfl, FI.out⟩
    · obtain rfl : k = n := by omega
      have FI : Hid (NumG w p lo s k Q (.returned (.tuple #[])) wr) := ⟨H1.out.2.2.2, Or.inl ⟨pre, t, HN.out.over, rfl, H1.out.1, H1.out.2.1, H1.out.2.2.1⟩⟩
      clear HN H1 H0
      go_wp2
      refine bodyPost_end (results_none rfl _ _ _) rfl ?_
      exact FI.out
end Go.Proofs.YtedhlmipcfdldaaGreatDoor
