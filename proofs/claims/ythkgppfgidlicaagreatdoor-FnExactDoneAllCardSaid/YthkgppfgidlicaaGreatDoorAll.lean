/- DoneAll, of the program and of the specification: both do each op on what the one ahead of it left. Conditions: the accounts and the ops lie in memory; the package's errors lie as they were laid. -/
import Derived.Test.YthkgppfgidlicaaGreatDoorOpL
import Derived.Test.YthkgppfgidlicaaGreatDoorKeep
namespace Go.Proofs.YthkgppfgidlicaaGreatDoor
open Go.RowKit
set_option maxRecDepth 8000

/-- The cells of a record. -/
def OpRC (a : OpR) : List Value := [.int .i64 a.k, .int .i64 a.i, .int .i64 a.t, .int .i64 a.m, .int .i64 a.r]
/-- Records in memory of a call's own. -/
def OpRL (w : World) (B : Nat) (v : Value) (l : List OpR) : Prop := w.ownsRow B 26 5 v l.length (l.flatMap OpRC)
theorem flatOpR_len (l : List OpR) : (l.flatMap OpRC).length = l.length * 5 := by
  induction l with
  | nil => rfl
  | cons a l ih => simp only [List.flatMap_cons, List.length_append, ih, List.length_cons, OpRC, List.length_nil]; omega
theorem flatOpR_get (l : List OpR) : ∀ (i j : Nat) (hi : i < l.length) (_ : j < 5), (l.flatMap OpRC)[i * 5 + j]? = (OpRC l[i])[j]? := by
  induction l with
  | nil => intro i j hi; simp at hi
  | cons a l ih =>
    intro i j hi hj
    rw [List.flatMap_cons]
    cases i with
    | zero =>
      rw [List.getElem?_append_left (by simp [OpRC]; omega)]
      simp
    | succ i =>
      have hl : (OpRC a).length = 5 := rfl
      rw [List.getElem?_append_right (by rw [hl]; omega), hl]
      have e : (i + 1) * 5 + j - 5 = i * 5 + j := by omega
      rw [e, ih i j (by simpa using hi) hj]
      simp
theorem OpRL.kept {w w' : World} {B : Nat} {v : Value} {l : List OpR} (h : OpRL w B v l) (hb : Below w.heap.size w w') : OpRL w' B v l :=
  World.ownsRow.kept (row := none) h ⟨hb.os, hb.tape, hb.output, hb.size, fun k hk _ => hb.block k hk⟩ (by cases hv : v.ownBlock <;> simp)
theorem OpRL.shape {w : World} {B : Nat} {v : Value} {l : List OpR} (h : OpRL w B v l) :
    ∃ a cap, v = .slice a l.length cap ∧ (∀ g, v.ownBlock = some g → B ≤ g ∧ g < w.heap.size) ∧
      ∀ i (hi : i < l.length), ∃ g, a = some ⟨g, 0, none⟩ ∧ B ≤ g ∧ g < w.heap.size ∧ OpRAt w g (i * 5) l[i] := by
  have hlt := World.ownsRow.lt h
  rcases h.2 with ⟨hv, hn⟩ | ⟨g, cap, cur, hv, hg, r⟩
  · refine ⟨none, 0, by rw [hv, hn], fun g hg => hlt g hg, fun i hi => ?_⟩
    omega
  · refine ⟨some ⟨g, 0, none⟩, cap, hv, fun g hg => hlt g hg, fun i hi => ?_⟩
    have ho : v.ownBlock = some g := by rw [hv]; rfl
    have hs : w.ownsRow B 26 5 (.slice (some ⟨g, 0, none⟩) l.length cap) l.length (l.flatMap OpRC) := by rw [← hv]; exact h
    have hc : ∀ j, j < 5 → w.cell? ⟨g, i * 5 + j, none⟩ = (OpRC l[i])[j]? := fun j hj => by
      rw [World.ownsRow.cellAt hs (i * 5 + j) (by omega), flatOpR_get l i j hi hj]
    exact ⟨g, rfl, hg, (hlt g ho).2, hc 0 (by omega), hc 1 (by omega), hc 2 (by omega), hc 3 (by omega), hc 4 (by omega)⟩
theorem OpRL.mono {w : World} {B B' : Nat} {v : Value} {l : List OpR} (h : OpRL w B v l) (hB : B' ≤ B) : OpRL w B' v l :=
  ⟨h.1, h.2.elim Or.inl (fun ⟨g, cap, cur, hv, hg, r⟩ => Or.inr ⟨g, cap, cur, hv, Nat.le_trans hB hg, r⟩)⟩
theorem OpRL.nil (w : World) (B : Nat) : OpRL w B (.slice none 0 0) [] := World.ownsRow_nil w B 26 5
theorem OpRL.empty (w : World) (B : Nat) (hB : B ≤ w.heap.size) : OpRL (w.alloc (.cells #[] 26)) B (.slice (some ⟨w.heap.size, 0, none⟩) 0 0) [] := World.ownsRow_lit w #[] 0 hB (Nat.zero_le _) (by simp)
/-- A list as places. -/
def OpRF (L : List OpR) : Nat → OpR := fun j => L.getD j ⟨0, 0, 0, 0, 0⟩
theorem OpRF_lt {L : List OpR} {j : Nat} (h : j < L.length) : OpRF L j = L[j] := by simp [OpRF, List.getD, List.getElem?_eq_getElem h]
theorem OpRF_set_at {L : List OpR} {p : Nat} (x : OpR) (h : p < L.length) : OpRF (L.set p x) p = x := by
  rw [OpRF_lt (by simpa using h)]; simp
theorem OpRF_set_ne {L : List OpR} {p j : Nat} (x : OpR) (h : j ≠ p) : OpRF (L.set p x) j = OpRF L j := by
  simp only [OpRF, List.getD]
  rw [List.getElem?_set_ne (by omega)]
theorem OpRL.list {w : World} {B : Nat} {a : Option Addr} {c m : Nat} {L : List OpR} (h : OpRL w B (.slice a m c) L) (hl : L.length ≤ 1048576) : m = L.length ∧ OpRs w a m (OpRF L) := by
  obtain ⟨a', c', hv, _, hs⟩ := h.shape
  obtain ⟨rfl, rfl, rfl⟩ : a = a' ∧ m = L.length ∧ c = c' := by simpa using hv
  refine ⟨rfl, hl, ?_⟩
  by_cases h0 : L.length = 0
  · exact Or.inl h0
  · obtain ⟨g, ea, _, hg, _⟩ := hs 0 (by omega)
    refine Or.inr ⟨g, 0, ea, hg, fun i hi => ?_⟩
    obtain ⟨g', ea', _, _, hA⟩ := hs i hi
    rw [ea] at ea'
    have : g = g' := by simpa using ea'
    subst this
    rw [OpRF_lt hi]
    simpa using hA
/-- One cell of one record is written. -/
theorem flatOpR_set : ∀ (L : List OpR) (p j : Nat) (u : Value) (A : OpR), p < L.length → j < 5 → (OpRC (OpRF L p)).set j u = OpRC A → (L.flatMap OpRC).set (p * 5 + j) u = (L.set p A).flatMap OpRC
  | [], p, j, u, A, hp, _, _ => by simp at hp
  | x :: L, 0, j, u, A, _, hj, h => by
    have hl : (OpRC x).length = 5 := rfl
    have h' : (OpRC x).set j u = OpRC A := h
    simp only [List.flatMap_cons, List.set_cons_zero, Nat.zero_mul, Nat.zero_add]
    rw [List.set_append_left _ _ (by rw [hl]; omega), h']
  | x :: L, p + 1, j, u, A, hp, hj, h => by
    have hl : (OpRC x).length = 5 := rfl
    have ih := flatOpR_set L p j u A (by simpa using hp) hj (by simpa [OpRF, List.getD] using h)
    simp only [List.flatMap_cons, List.set_cons_succ]
    rw [List.set_append_right _ _ (by rw [hl]; omega), hl]
    have e : (p + 1) * 5 + j - 5 = p * 5 + j := by omega
    rw [e, ih]
theorem OpRL.stored1 {w : World} {B g cap : Nat} {L : List OpR} (h : OpRL w B (.slice (some ⟨g, 0, none⟩) L.length cap) L) {p : Nat} (hp : p < L.length) (j : Nat) (hj : j < 5) (u : Value) (A : OpR) (hA : (OpRC (OpRF L p)).set j u = OpRC A) :
    OpRL (w.setCell ⟨g, p * 5 + j, none⟩ u) B (.slice (some ⟨g, 0, none⟩) (L.set p A).length cap) (L.set p A) := by
  obtain ⟨h1, _⟩ := World.ownsRow.stored h (p * 5 + j) u
  unfold OpRL
  rw [← flatOpR_set L p j u A hp hj hA, List.length_set]
  exact h1
theorem OpRL.stored {w : World} {B g cap : Nat} {L : List OpR} (h : OpRL w B (.slice (some ⟨g, 0, none⟩) L.length cap) L) {p : Nat} (hp : p < L.length) (A : OpR) :
    OpRL (setOpR w g (p * 5) A) B (.slice (some ⟨g, 0, none⟩) L.length cap) (L.set p A) := by
  have s0 := h.stored1 hp 0 (by omega) (.int .i64 A.k) { OpRF L p with k := A.k } rfl
  have s1 := s0.stored1 (p := p) (by simpa using hp) 1 (by omega) (.int .i64 A.i) { OpRF L p with k := A.k, i := A.i } (by rw [OpRF_set_at _ hp]; rfl)
  simp only [List.set_set] at s1
  have s2 := s1.stored1 (p := p) (by simpa using hp) 2 (by omega) (.int .i64 A.t) { OpRF L p with k := A.k, i := A.i, t := A.t } (by rw [OpRF_set_at _ hp]; rfl)
  simp only [List.set_set] at s2
  have s3 := s2.stored1 (p := p) (by simpa using hp) 3 (by omega) (.int .i64 A.m) { OpRF L p with k := A.k, i := A.i, t := A.t, m := A.m } (by rw [OpRF_set_at _ hp]; rfl)
  simp only [List.set_set] at s3
  have s4 := s3.stored1 (p := p) (by simpa using hp) 4 (by omega) (.int .i64 A.r) A (by rw [OpRF_set_at _ hp]; rfl)
  simp only [List.set_set, List.length_set, Nat.add_zero] at s4
  exact s4
theorem grown_transOpR {a b c : World} {row : Option Nat} (h : a.grownBy b row) (k : b.grownBy c row) : a.grownBy c row :=
  ⟨k.os.trans h.os, k.tape.trans h.tape, k.output.trans h.output, Nat.le_trans h.size k.size, fun i hi hn => (k.block i (Nat.lt_of_lt_of_le hi h.size) hn).trans (h.block i hi hn)⟩
theorem grown_set1OpR (w : World) (R o : Nat) (u : Value) : w.grownBy (w.setCell ⟨R, o, none⟩ u) (some R) :=
  ⟨rfl, rfl, rfl, by simp [World.setCell], fun k _ hn => Below.heap_setCell _ _ _ _ (fun e => hn (by rw [e]))⟩
theorem grown_setOpR (w : World) (R p : Nat) (A : OpR) : w.grownBy (setOpR w R p A) (some R) := by
  unfold setOpR
  exact grown_transOpR (grown_transOpR (grown_transOpR (grown_transOpR (grown_set1OpR w R p _) (grown_set1OpR _ R (p + 1) _)) (grown_set1OpR _ R (p + 2) _)) (grown_set1OpR _ R (p + 3) _)) (grown_set1OpR _ R (p + 4) _)
/-- The record that the laws' marks make of the one at a place. -/
def markOpR (k0 : Int) (i : Nat) : OpR := ⟨k0 + 5 * (i : Int), k0 + 5 * (i : Int) + 1, k0 + 5 * (i : Int) + 1 + 1, k0 + 5 * (i : Int) + 1 + 1 + 1, k0 + 5 * (i : Int) + 1 + 1 + 1 + 1⟩
/-- The first j bear their marks. -/
def MarkedOpR (k0 : Int) (j : Nat) (L : List OpR) : Prop := ∀ i, i < j → OpRF L i = markOpR k0 i


/-- One op more. -/
noncomputable def stepAll (s : List Int × List Acc) (o : OpR) : List Int × List Acc := (s.1 ++ [(doneAny s.2 o.k o.i o.t o.m o.r).1], (doneAny s.2 o.k o.i o.t o.m o.r).2)
/-- Ops one by one. -/
noncomputable def runAll (s : List Int × List Acc) (l : List OpR) : List Int × List Acc := l.foldl stepAll s
theorem runAll_take (s : List Int × List Acc) (l : List OpR) (k : Nat) (hk : k < l.length) : runAll s (l.take (k + 1)) = stepAll (runAll s (l.take k)) (OpRF l k) := by
  unfold runAll
  rw [List.take_succ_eq_append_getElem hk, List.foldl_append, OpRF_lt hk]
  rfl
theorem doneAny_right {L : List Acc} (hR : Right (FL L) L.length) (k i t m r : Int) : Right (FL (doneAny L k i t m r).2) (doneAny L k i t m r).2.length := by
  have e : doneAny L k i t m r = doneS L k i t m r := by unfold doneAny; rw [if_pos hR]
  rw [e]
  by_cases h0 : (doneS L k i t m r).1 = 0
  · have h : doneS L k i t m r = (0, (doneS L k i t m r).2) := by rw [← h0]
    exact (doneS_zero h).2.2
  · rw [fin_same h0]; exact hR
theorem runAll_right : ∀ (l : List OpR) (s : List Int × List Acc), Right (FL s.2) s.2.length → Right (FL (runAll s l).2) (runAll s l).2.length
  | [], _, h => h
  | o :: l, s, h => runAll_right l (stepAll s o) (doneAny_right h _ _ _ _ _)
theorem runAll_len : ∀ (l : List OpR) (s : List Int × List Acc), (runAll s l).1.length = s.1.length + l.length
  | [], _ => rfl
  | o :: l, s => by
    have := runAll_len l (stepAll s o)
    show (runAll (stepAll s o) l).1.length = _
    rw [this]
    simp [stepAll]; omega
theorem runAll_codes : ∀ (l : List OpR) (c : List Int) (M : List Acc), runAll (c, M) l = (c ++ (runAll ([], M) l).1, (runAll ([], M) l).2)
  | [], c, M => by simp [runAll]
  | o :: l, c, M => by
    show runAll (stepAll (c, M) o) l = (c ++ (runAll (stepAll ([], M) o) l).1, (runAll (stepAll ([], M) o) l).2)
    rw [show stepAll (c, M) o = (c ++ [(doneAny M o.k o.i o.t o.m o.r).1], (doneAny M o.k o.i o.t o.m o.r).2) from rfl, show stepAll ([], M) o = ([(doneAny M o.k o.i o.t o.m o.r).1], (doneAny M o.k o.i o.t o.m o.r).2) from rfl]
    rw [runAll_codes l (c ++ _), runAll_codes l [_]]
    simp
open Classical in
/-- What ops come to, whatever the forest and however many there are. -/
noncomputable def allAny (L : List Acc) (l : List OpR) : List Int × List Acc := if Right (FL L) L.length ∧ l.length ≤ 100 then runAll ([], L) l else ([], [])

set_option maxHeartbeats 4000000 in
theorem implOne (B : Nat) (v : Value) (L : List Acc) (oa : Option Addr) (oc : Nat) (O : List OpR) (p : Nat → Addr) (w : World) (hA : AL w B v L) (hBw : B ≤ w.heap.size) (hR : Right (FL L) L.length) (ho : OpRs w oa O.length (OpRF O)) (hG : GE w p) :
    Calls Tryz.prog 57 #[v, .slice oa O.length oc, .func (.func 11) #[] #[]] w fun e w' => ∃ v' u, e = .returned (.tuple #[v', u]) ∧ AL w' B v' (runAll ([], L) O).2 ∧ IL w' w.heap.size u (runAll ([], L) O).1 ∧ Below w.heap.size w w' := by
  have HO : Hid (OpRs w oa O.length (OpRF O)) := ho
  have HG : Hid (GE w p) := hG
  have HR : Hid (∀ k, Right (FL (runAll ([], L) (O.take k)).2) (runAll ([], L) (O.take k)).2.length) := fun k => runAll_right _ _ hR
  have HT : Hid (∀ k, k < O.length → runAll ([], L) (O.take (k + 1)) = stepAll (runAll ([], L) (O.take k)) (OpRF O k)) := fun k hk => runAll_take _ O k hk
  have HLN : Hid (∀ k, k ≤ O.length → (runAll ([], L) (O.take k)).1.length = k) := fun k hk => by rw [runAll_len]; simp; omega
  have HE : Hid (O.take O.length = O) := List.take_length
  have A0 : Hid (AL w B v (runAll ([], L) (O.take 0)).2) := hA
  have I0 : Hid (IL w w.heap.size (.slice none 0 0) (runAll ([], L) (O.take 0)).1) := IL.nil w w.heap.size
  have hn := ho.1
  obtain ⟨i0, hi, hz0, hz1, hz2⟩ := info_parts info2
  clear ho hG hA hR
  generalize hnn : O.length = n at *
  clear hnn
  generalize runAll ([], L) = f at *
  go_enter Tryz.func57, Tryz.ntmps57
  go_wp2
  go_loopw [0, 8, 15] (fun s c q wr => ∃ k : Nat, k ≤ n ∧ q = .int .i64 k ∧ Hid (AL wr B s (f (O.take k)).2) ∧ Hid (IL wr w.heap.size c (f (O.take k)).1) ∧ Hid (Below w.heap.size w wr)) (fun _ _ q _ => n - (intOf q).toNat)
  case atStart => exact ⟨0, Nat.zero_le _, rfl, A0, I0, Below.refl _ _⟩
  case round =>
    obtain ⟨k, hk, rfl, A1, I1, B1⟩ := hrel
    clear A0 I0
    by_cases hlt : k < n
    · obtain ⟨b, o, rfl, hb0, hA0⟩ := HO.out.acc hlt
      have hT := HT.out k hlt
      have hRk := HR.out k
      have hLk := HLN.out k hk
      cases hx : OpRF O k with
      | mk xk xi xt xm xr =>
      rw [hx] at hA0 hT
      obtain ⟨d0, d1, d2, d3, d4⟩ := hA0.of_cells (w' := wr) (fun q => B1.out.cell (p := ⟨b, q, none⟩) hb0)
      have HX : Hid (OpRF O k = ⟨xk, xi, xt, xm, xr⟩) := hx
      clear hA0 hx
      obtain ⟨M, hM⟩ : ∃ M, M = (f (O.take k)).2 := ⟨_, rfl⟩
      obtain ⟨c, hc⟩ : ∃ c, c = (f (O.take k)).1 := ⟨_, rfl⟩
      rw [← hM] at A1 hRk
      rw [← hc] at I1 hLk
      obtain ⟨D, hD⟩ : ∃ D, D = doneAny M xk xi xt xm xr := ⟨_, rfl⟩
      have HT1 : Hid (f (O.take (k + 1)) = (c ++ [D.1], D.2)) := by
        show f (O.take (k + 1)) = (c ++ [D.1], D.2)
        rw [hT, hc, hD, hM]
        rfl
      have hml : M.length ≤ 12 := hRk.1
      have DI : Hid (∀ w a cc, Fo w a M.length (FL M) → GE w p → Calls Tryz.prog 11 #[.slice a M.length cc, .agg #[.int .i64 xk, .int .i64 xi, .int .i64 xt, .int .i64 xm, .int .i64 xr]] w fun e w' => Out D w.heap.size w e w') := fun w a cc h hg => by rw [hD]; exact implDone a cc M xk xi xt xm xr p w h hg
      obtain ⟨cd, G⟩ := D
      clear hT hD hM hc hRk
      obtain ⟨sa, sc, hv⟩ := A1.out.len
      subst hv
      obtain ⟨a', m', hv2, hlt', _⟩ := I1.out.shape
      subst hv2
      obtain ⟨mn, hmn⟩ : ∃ mn, mn = M.length := ⟨_, rfl⟩
      rw [← hmn] at A1 DI
      rw [hLk] at I1 hlt'
      have HMN : Hid (mn = M.length) := hmn
      have HCN : Hid (k = c.length) := hLk.symm
      rw [← hmn, hLk]
      clear hmn hLk
      have FA : Hid (Fo wr sa mn (FL M)) := (A1.out.fo (by omega)).2
      obtain ⟨W, hW⟩ : ∃ W, W = wr.alloc (.cells #[.int .i64 xk, .int .i64 xi, .int .i64 xt, .int .i64 xm, .int .i64 xr] 26) := ⟨_, rfl⟩
      have OW : Hid (OpBox W wr.heap.size xk xi xt xm xr) := by rw [hW]; exact OpBox.new wr _ _ _ _ _ 26
      have BW : Hid (Below w.heap.size w W) := by rw [hW]; exact B1.out.alloc B1.out.size _
      have IW : Hid (IL W w.heap.size (.slice a' k m') c) := by rw [hW]; exact World.ownsRow.alloc I1.out _
      have FW : Hid (Fo W sa mn (FL M)) := by rw [hW]; exact FA.out.alloc _
      have GW : Hid (GE W p) := HG.out.below BW.out
      obtain ⟨o0, o1, o2, o3, o4, oz⟩ := OW.out
      go_upto_region 5 with fail
      rw [← hW]
      clear hW FA A1 I1 B1 d0 d1 d2 d3 d4
      go_wp2_with fail
      refine (DI.out _ _ _ FW.out GW.out).mono ?_
      rintro e w5 ⟨v5, rfl, A5, B5⟩
      have hq5 : ∀ q, v5.ownBlock = some q → W.heap.size ≤ q := fun q hq => (World.ownsRow.lt A5 q hq).1
      have HL : Hid (∀ q, (Value.slice a' k m').ownBlock = some q → w.heap.size ≤ q ∧ q < W.heap.size) := fun q hq => World.ownsRow.lt IW.out q hq
      have A6 : Hid (AL w5 B v5 G ∧ ∀ q, v5.ownBlock = some q → W.heap.size ≤ q) := ⟨A5.mono (Nat.le_trans hBw (Nat.le_trans BW.out.size (Nat.le_refl _))), hq5⟩
      have I6 : Hid (IL w5 w.heap.size (.slice a' k m') c) := IW.out.kept B5
      have B6 : Hid (Below w.heap.size w w5) := BW.out.trans (B5.mono BW.out.size)
      obtain ⟨ga, gc, hv5⟩ := A5.len
      obtain ⟨gn, hgn⟩ : ∃ gn, gn = G.length := ⟨_, rfl⟩
      rw [← hgn] at hv5
      subst hv5
      clear hgn A5 B5 hq5 OW BW IW FW GW o0 o1 o2 o3 o4 oz hlt'
      have hb6 := B6.out.size
      go_wp2_with (at_builtin; refine wpList_append_own _ rfl _ _ 41 rfl w.heap.size 2 i0 (.int .i64 0) 1 8 Tryz.underlying41 hi hz0 hz1 hz2 rfl (by decide) _ _ _ rfl (World.ownsRow.alloc I6.out _) ⟨_, 0, none⟩ 1 1 [.int .i64 cd] rfl rfl ?_ ?_ ?_ ?_ ?_ ?_)
      · intro j u hj
        match j, hj with
        | 0, hj => simp at hj; subst hj; simp [Addr.add, go_sem]
      · intro u hu; simp at hu; subst hu; rfl
      · unfold maxLen; have := HCN.out; omega
      · have := HCN.out; omega
      · simp; omega
      · intro v' w7 hown hgrow _
        have I7 : Hid (IL w7 w.heap.size v' (c ++ [cd])) := by
          show IL w7 w.heap.size v' (c ++ [cd])
          unfold IL
          have e := HCN.out
          subst e
          simpa using hown
        have A7 : Hid (AL w7 B (.slice ga gn gc) G) := World.ownsRow.kept (World.ownsRow.alloc A6.out.1 _) hgrow (by
          cases hb : (Value.slice ga gn gc).ownBlock with
          | none => exact Or.inl rfl
          | some q =>
            right
            intro e
            have h1 := A6.out.2 q hb
            have h2 := HL.out q e.symm
            omega)
        have B7 : Hid (Below w.heap.size w w7) := (B6.out.alloc B6.out.size _).grown hgrow (by simp; omega) (fun q hq => (HL.out q hq).1)
        clear hown hgrow
        go_wp2
        go_roundw
        case rel => exact ⟨k + 1, by omega, by go_num, (by rw [HT1.out]; exact A7), (by rw [HT1.out]; exact I7), B7⟩
        case measure => simp [intOf]; omega
    · have hkn : k = n := by omega
      subst hkn
      rw [HE.out] at A1 I1
      obtain ⟨sa, sc, hv⟩ := A1.out.len
      obtain ⟨a', m', hv2, _, _⟩ := I1.out.shape
      obtain ⟨g1, hg1⟩ : ∃ g1, g1 = (f O).2.length := ⟨_, rfl⟩
      obtain ⟨g2, hg2⟩ : ∃ g2, g2 = (f O).1.length := ⟨_, rfl⟩
      rw [← hg1] at hv
      rw [← hg2] at hv2
      subst hv
      subst hv2
      clear hg1 hg2
      go_wp2
      go_ret2
      exact ⟨_, _, rfl, A1.out, I1.out, B1.out⟩

set_option maxHeartbeats 2000000 in
theorem implAll (a : Option Addr) (c : Nat) (L : List Acc) (oa : Option Addr) (oc : Nat) (O : List OpR) (p : Nat → Addr) (w : World) (h : Fo w a L.length (FL L)) (ho : OpRs w oa O.length (OpRF O)) (hG : GE w p) :
    Calls Tryz.prog 21 #[.slice a L.length c, .slice oa O.length oc] w fun e w' => ∃ v u, e = .returned (.tuple #[v, u]) ∧ AL w' w.heap.size v (allAny L O).2 ∧ IL w' w.heap.size u (allAny L O).1 ∧ Below w.heap.size w w' := by
  have H : Hid (Fo w a L.length (FL L)) := h
  have HO : Hid (OpRs w oa O.length (OpRF O)) := ho
  have HG : Hid (GE w p) := hG
  have hon := ho.1
  obtain ⟨n, hn⟩ : ∃ n, n = L.length := ⟨_, rfl⟩
  obtain ⟨on, honn⟩ : ∃ on, on = O.length := ⟨_, rfl⟩
  have HN : Hid (n = L.length) := hn
  have HON : Hid (on = O.length) := honn
  clear h ho hG
  by_cases hR : Right (FL L) L.length
  · have HR : Hid (Right (FL L) L.length) := hR
    by_cases h100 : O.length ≤ 100
    · have hE : allAny L O = runAll ([], L) O := by unfold allAny; rw [if_pos ⟨hR, h100⟩]
      rw [hE]
      have g1 : decide ((on : Int) > 100) = false := by simp; omega
      have g1' : decide (100 < (on : Int)) = false := by simp; omega
      have C1 : Hid (∀ w, Fo w a n (FL L) → Calls Tryz.prog 15 #[.slice a n c] w fun e w' => e = .returned (.bool true) ∧ Below w.heap.size w w') := fun w h => by rw [hn] at h ⊢; exact implOk_yes a L.length c (FL L) w h HR.out
      have C2 : Hid (∀ w, Fo w a n (FL L) → Calls Tryz.prog 43 #[.slice a n c] w fun e w' => ∃ v, e = .returned v ∧ AL w' w.heap.size v L ∧ Below w.heap.size w w') := fun w h => implCopied a n c L w HN.out h
      have C3 : Hid (∀ w B v, AL w B v L → B ≤ w.heap.size → OpRs w oa on (OpRF O) → GE w p → Calls Tryz.prog 57 #[v, .slice oa on oc, .func (.func 11) #[] #[]] w fun e w' => ∃ v' u, e = .returned (.tuple #[v', u]) ∧ AL w' B v' (runAll ([], L) O).2 ∧ IL w' w.heap.size u (runAll ([], L) O).1 ∧ Below w.heap.size w w') := fun w B v hA hB ho hg => by rw [honn] at ho ⊢; exact implOne B v L oa oc O p w hA hB HR.out ho hg
      rw [← hn] at H
      rw [← honn] at HO
      rw [← hn, ← honn]
      clear hE hn honn hR h100 hon
      go_enter Tryz.func21, Tryz.ntmps21
      go_wp2_with fail
      refine (C1.out _ H.out).mono ?_
      rintro e w1 ⟨rfl, B1⟩
      have BB1 : Hid (Below w.heap.size w w1) := B1
      clear B1
      go_wp2_with fail
      refine (C2.out _ (H.out.below BB1.out)).mono ?_
      rintro e w2 ⟨v, rfl, A2, B2⟩
      have BB2 : Hid (Below w.heap.size w w2) := BB1.out.trans (B2.mono BB1.out.size)
      have AA2 : Hid (AL w2 w.heap.size v L) := A2.mono BB1.out.size
      obtain ⟨va, vc, hv⟩ := A2.len
      rw [← HN.out] at hv
      subst hv
      clear A2 B2
      go_wp2_with fail
      refine (C3.out _ _ _ AA2.out BB2.out.size (HO.out.below BB2.out) (HG.out.below BB2.out)).mono ?_
      rintro e w3 ⟨v3, u3, rfl, A3, I3, B3⟩
      have AA3 : Hid (AL w3 w.heap.size v3 (runAll ([], L) O).2) := A3
      have II3 : Hid (IL w3 w.heap.size u3 (runAll ([], L) O).1) := I3.mono BB2.out.size
      have BB3 : Hid (Below w.heap.size w w3) := BB2.out.trans (B3.mono BB2.out.size)
      obtain ⟨sa, sc, hv⟩ := A3.len
      obtain ⟨a', m', hv2, _, _⟩ := I3.shape
      obtain ⟨g1, hg1⟩ : ∃ g1, g1 = (runAll ([], L) O).2.length := ⟨_, rfl⟩
      obtain ⟨g2, hg2⟩ : ∃ g2, g2 = (runAll ([], L) O).1.length := ⟨_, rfl⟩
      rw [← hg1] at hv
      rw [← hg2] at hv2
      subst hv
      subst hv2
      clear hg1 hg2 A3 I3 B3
      go_wp2
      go_ret2
      exact ⟨_, _, rfl, AA3.out, II3.out, BB3.out⟩
    · have hE : allAny L O = ([], []) := by unfold allAny; rw [if_neg (fun h => h100 h.2)]
      rw [hE]
      have g1 : decide ((on : Int) > 100) = true := by simp; omega
      have g1' : decide (100 < (on : Int)) = true := by simp; omega
      have C1 : Hid (∀ w, Fo w a n (FL L) → Calls Tryz.prog 15 #[.slice a n c] w fun e w' => e = .returned (.bool true) ∧ Below w.heap.size w w') := fun w h => by rw [hn] at h ⊢; exact implOk_yes a L.length c (FL L) w h HR.out
      rw [← hn] at H
      rw [← hn, ← honn]
      clear hE hn honn hR h100 hon
      go_enter Tryz.func21, Tryz.ntmps21
      go_wp2_with fail
      refine (C1.out _ H.out).mono ?_
      rintro e w1 ⟨rfl, B1⟩
      have BB1 : Hid (Below w.heap.size w w1) := B1
      clear B1
      go_wp2
      go_ret2
      exact ⟨_, _, rfl, World.ownsRow_nil _ _ 38 8, IL.nil _ _, BB1.out⟩
  · have hE : allAny L O = ([], []) := by unfold allAny; rw [if_neg (fun h => hR h.1)]
    rw [hE]
    have C1 : Hid (∀ w, Fo w a n (FL L) → Calls Tryz.prog 15 #[.slice a n c] w fun e w' => e = .returned (.bool false) ∧ Below w.heap.size w w') := fun w h => by rw [hn] at h ⊢; exact implOk_no a L.length c (FL L) w h hR
    rw [← hn] at H
    rw [← hn, ← honn]
    clear hE hn honn hR hon
    go_enter Tryz.func21, Tryz.ntmps21
    go_wp2_with fail
    refine (C1.out _ H.out).mono ?_
    rintro e w1 ⟨rfl, B1⟩
    have BB1 : Hid (Below w.heap.size w w1) := B1
    clear B1
    go_wp2
    go_ret2
    exact ⟨_, _, rfl, World.ownsRow_nil _ _ 38 8, IL.nil _ _, BB1.out⟩
end Go.Proofs.YthkgppfgidlicaaGreatDoor
