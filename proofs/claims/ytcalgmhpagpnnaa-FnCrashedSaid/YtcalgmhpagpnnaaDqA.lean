/- When power is lost: all ops kept, or none (mathematics). No conditions. -/
import Derived.Test.YtcalgmhpagpnnaaCrJ
import Derived.Test.YtcalgmhpagpnnaaRdk
import Derived.Test.YtcalgmhpagpnnaaRdA
namespace Go.Proofs.Ytcalgmhpagpnnaa
open Go.RowKit
set_option maxRecDepth 8000

theorem kp_all (r : Nat) : kpB r (fun i => (i : Int)) r = true := kpB_yes.2 fun i hi => ⟨by show (0 : Int) ≤ (i : Int); omega, by show (i : Int) < (r : Int); omega, fun h => by show ((i - 1 : Nat) : Int) < (i : Int); omega⟩
theorem kp_nil (r : Nat) (K : Nat → Int) : kpB r K 0 = true := kpB_yes.2 fun _ hi => absurd hi (Nat.not_lt_zero _)
theorem stepF_do {M M' : List Fl} {o : Dp} (h : stepF M o = some M') : doF M o = some M' := by
  unfold stepF at h
  split at h
  · cases hd : doF M o with
    | none => rw [hd] at h; cases h
    | some X =>
      rw [hd] at h
      simp only [Option.bind_some] at h
      split at h
      · exact h
      · cases h
  · cases h
theorem crOp_all {O : Nat → Dp} {r : Nat} {t : Int} {k : Nat} (hk : k < r) (hf : ∀ i, i < r → formB (O i) = true) (hs : ∀ i, i < r → ((O i).data.size : Int) ≤ t) : crOp O (fun i => (i : Int)) r t k = O k := by
  have h0 := hs k hk
  unfold crOp
  simp only [Int.toNat_natCast]
  split
  · exact torn_same (hf k hk) (by omega) (Or.inr h0)
  · rfl
theorem crF_all {O : Nat → Dp} {r : Nat} {t : Int} {Sf Lv : List Fl} (hr : runF Sf (lst O r) = some Lv) (hs : ∀ i, i < r → ((O i).data.size : Int) ≤ t) : crF O (fun i => (i : Int)) r t Sf r = Lv := by
  have hf : ∀ i, i < r → formB (O i) = true := fun i hi => run_forms _ _ _ hr _ (lst_mem.2 ⟨i, hi, rfl⟩)
  have key : ∀ k, k ≤ r → runF Sf (lst O k) = some (crF O (fun i => (i : Int)) r t Sf k) := by
    intro k
    induction k with
    | zero => intro _; rfl
    | succ k ih =>
      intro hk
      have h1 := ih (by omega)
      obtain ⟨ys, hy⟩ := lst_split O hk
      rw [hy, runF_append] at hr
      have h2 : ∃ M, runF Sf (lst O (k + 1)) = some M := by
        cases h : runF Sf (lst O (k + 1)) with
        | none => rw [h] at hr; cases hr
        | some M => exact ⟨M, rfl⟩
      obtain ⟨M, hM⟩ := h2
      have h3 := hM
      rw [lst_succ, runF_snoc, h1] at h3
      have h4 := stepF_do (by simpa using h3)
      have h5 : crF O (fun i => (i : Int)) r t Sf (k + 1) = M := by
        show (doF (crF O (fun i => (i : Int)) r t Sf k) (crOp O (fun i => (i : Int)) r t k)).getD _ = M
        rw [crOp_all (by omega) hf hs, h4]
        rfl
      rw [hM, h5]
  have := key r (Nat.le_refl _)
  rw [hr] at this
  exact (Option.some.inj this).symm
theorem disk_parts {Lv Sf : List Fl} {Os : List Dp} (h : diskB Lv Sf Os = true) : filesB Lv = true ∧ filesB Sf = true ∧ Os.length ≤ 200 ∧ runF Sf Os = some Lv := by
  simp only [diskB, Bool.and_eq_true, decide_eq_true_eq] at h
  exact ⟨h.1.1.1, h.1.1.2, h.1.2, h.2⟩
/-- All ops kept, whole. -/
theorem cr_all {Lv Sf : List Fl} {O : Nat → Dp} {r : Nat} (hs : ∀ i, i < r → (O i).data.size ≤ 1048576) :
    crB Lv Sf O r (fun i => (i : Int)) r 1099511627776 = diskB Lv Sf (lst O r) ∧ crL Lv Sf O r (fun i => (i : Int)) r 1099511627776 = sy1 (diskB Lv Sf (lst O r)) Lv := by
  cases hx : diskB Lv Sf (lst O r)
  · exact ⟨(cr_no (Or.inl hx)).1, (cr_no (Or.inl hx)).2⟩
  · obtain ⟨h1, h2, h3, h4⟩ := disk_parts hx
    have e := crF_all (t := 1099511627776) h4 (fun i hi => by have := hs i hi; omega)
    obtain ⟨y1, y2⟩ := cr_yes (t := 1099511627776) hx (kp_all r) (by omega)
    rw [e] at y1 y2
    rw [y1, y2, h1]
    exact ⟨rfl, rfl⟩
/-- None kept. -/
theorem cr_nil {Lv Sf : List Fl} {O : Nat → Dp} {r : Nat} (K : Nat → Int) :
    crB Lv Sf O r K 0 0 = diskB Lv Sf (lst O r) ∧ crL Lv Sf O r K 0 0 = sy1 (diskB Lv Sf (lst O r)) Sf := by
  cases hx : diskB Lv Sf (lst O r)
  · exact ⟨(cr_no (Or.inl hx)).1, (cr_no (Or.inl hx)).2⟩
  · obtain ⟨h1, h2, h3, h4⟩ := disk_parts hx
    obtain ⟨y1, y2⟩ := cr_yes (t := 0) hx (kp_nil r K) (by omega)
    have e : crF O K 0 0 Sf 0 = Sf := rfl
    rw [e, h2] at y1 y2
    rw [y1, y2]
    exact ⟨rfl, rfl⟩
end Go.Proofs.Ytcalgmhpagpnnaa

/- The drawn laws of disks: a disk is drawn, disks in boxes. Conditions: the code's bytes lie in memory. -/
namespace Go.Proofs.Ytcalgmhpagpnnaa
open Go.RowKit
set_option maxRecDepth 8000

/-- A disk that is drawn. -/
def DrawOut (w : World) (e : Ending) (w' : World) : Prop :=
  ∃ a1 n1 c1 a2 n2 c2 a3 n3 c3 L1 L2 L3, e = .returned (.agg #[.slice a1 n1 c1, .slice a2 n2 c2, .slice a3 n3 c3]) ∧ DkL w' a1 n1 a2 n2 a3 n3 L1 L2 L3 ∧ Below w.heap.size w w'

set_option maxHeartbeats 1000000 in
theorem drawDisk (a : Option Addr) (len cap : Nat) (w : World) (hc : Code w a len) :
    Calls Try.prog 13 #[.slice a len cap] w fun e w' => DrawOut w e w' := by
  obtain ⟨W0, hW0, X0, xb, hs0⟩ : ∃ W0, W0 = w.alloc (.cells #[.slice none 0 0, .slice none 0 0, .slice none 0 0] 27) ∧ Hid (Box3 W0 w.heap.size (.slice none 0 0) (.slice none 0 0) (.slice none 0 0)) ∧ Hid (Below w.heap.size w W0) ∧ Hid (W0.heap.size = w.heap.size + 1) := ⟨_, rfl, Box3.new w _ _ _ 27, (Below.refl _ _).alloc (Nat.le_refl _) _, World.size_alloc _ _⟩
  have HW0 : Hid (W0 = _) := hW0
  have HC : Hid (Code w a len) := hc
  clear hW0 hc
  go_enter Try.func13, Try.ntmps13
  go_wp2_with fail
  rw [← HW0.out]
  refine (rd_open a len cap _ HC.out.1 (fun i hi => by obtain ⟨b, off, z, h1, h2, h3, h4⟩ := HC.out.2 i hi; exact ⟨b, off, z, h1, by have := hs0.out; omega, (xb.out.cell (p := ⟨b, off + i, none⟩) h2).trans h3, h4⟩)).mono ?_
  rintro e w1 ⟨rfl, R1, B1⟩
  have X1 : Hid (Box3 w1 w.heap.size (.slice none 0 0) (.slice none 0 0) (.slice none 0 0) ∧ Below w.heap.size w w1 ∧ Rd w1 W0.heap.size a len cap) := ⟨X0.out.kept B1 (by have := hs0.out; omega), xb.out.trans (B1.mono (by have := hs0.out; omega)), R1⟩
  clear R1 B1 X0 xb HW0
  go_wp2_with fail
  refine (rd_disk _ a len cap _ X1.out.2.2).mono ?_
  rintro e w2 ⟨a1, n1, c1, a2, n2, c2, a3, n3, c3, L1, L2, L3, rfl, D2, Bh, R2, S2⟩
  have hlt : w.heap.size < w1.heap.size := X1.out.1.2.2
  have FI : Hid (DrawOut w (.returned (.agg #[.slice a1 n1 c1, .slice a2 n2 c2, .slice a3 n3 c3])) (set3 w2 w.heap.size (.slice a1 n1 c1) (.slice a2 n2 c2) (.slice a3 n3 c3))) := by
    have B2 : Below w.heap.size w w2 := X1.out.2.1.trans ((S2.below (Nat.le_of_lt X1.out.2.2.2.2.2.1)).mono (by have := hs0.out; omega))
    have Bh' : Beh w.heap.size a1 a2 a3 := Bh.mono (by omega)
    exact ⟨a1, n1, c1, a2, n2, c2, a3, n3, c3, L1, L2, L3, rfl, ((D2.set Bh' (Nat.le_refl _) _ _).set Bh' (Nat.le_refl _) _ _).set Bh' (Nat.le_refl _) _ _, below_far (below_far (below_far B2 (Nat.le_refl _) _ _) (Nat.le_refl _) _ _) (Nat.le_refl _) _ _⟩
  obtain ⟨⟨r0, r1, r2⟩, rf, rl⟩ := X1.out.1.stp S2 (by have := hs0.out; omega)
  clear hlt D2 Bh R2 S2 X1
  go_wp2
  exact bodyPost_ret (v := .agg #[.slice a1 n1 c1, .slice a2 n2 c2, .slice a3 n3 c3]) (by simp [results, Try.results13, go_sem, r0, r1, r2]) rfl FI.out

/-- Files in memory, by their list. -/
def FlsL (V : World) (q : Option Addr) (n : Nat) (L : List Fl) : Prop := ∃ F, Fls V q n F ∧ lst F n = L
theorem FlsL.below {V V' : World} {q : Option Addr} {n : Nat} {L : List Fl} (h : FlsL V q n L) (hb : Below V.heap.size V V') : FlsL V' q n L := by
  obtain ⟨F, h1, h2⟩ := h
  exact ⟨F, h1.below hb, h2⟩
theorem FlsL.of {V : World} {B : Nat} {q : Option Addr} {n c : Nat} {L : List Fl} (h : FlL V B (.slice q n c) L) (hl : L.length ≤ 1048576) : FlsL V q n L := by
  obtain ⟨e, f⟩ := h.list hl
  subst e
  exact ⟨_, f, lst_FlF _⟩
theorem same_yes {V : World} {q q' : Option Addr} {n m : Nat} (c c' : Nat) {L : List Fl} (h1 : FlsL V q n L) (h2 : FlsL V q' m L) :
    Calls Try.prog 18 #[.slice q n c, .slice q' m c'] V fun e w' => e = .returned (.bool true) ∧ Below V.heap.size V w' := by
  obtain ⟨F, h1, e1⟩ := h1
  obtain ⟨G, h2, e2⟩ := h2
  exact lawSameL h1 h2 (by rw [e1, e2])
theorem implDiskL {V : World} {q q' q'' : Option Addr} {n m r : Nat} (c c' c'' : Nat) {L1 L2 : List Fl} {L3 : List Dp} (h : DkL V q n q' m q'' r L1 L2 L3) :
    Calls Try.prog 14 #[.agg #[.slice q n c, .slice q' m c', .slice q'' r c'']] V fun e w' => e = .returned (.bool (diskB L1 L2 L3)) ∧ Below V.heap.size V w' := by
  obtain ⟨F, G, O, hd, rfl, rfl, rfl⟩ := h
  exact implDisk q q' q'' n m r c c' c'' F G O V hd
theorem specDiskL {V : World} {q q' q'' : Option Addr} {n m r : Nat} (c c' c'' : Nat) {L1 L2 : List Fl} {L3 : List Dp} (h : DkL V q n q' m q'' r L1 L2 L3) :
    Calls Try.prog 15 #[.agg #[.slice q n c, .slice q' m c', .slice q'' r c'']] V fun e w' => e = .returned (.bool (diskB L1 L2 L3)) ∧ Below V.heap.size V w' := by
  obtain ⟨F, G, O, hd, rfl, rfl, rfl⟩ := h
  exact specDisk q q' q'' n m r c c' c'' F G O V hd
/-- A disk as an answer: its two lists of files, no ops. -/
def AnsQ (V0 : World) (M1 M2 : List Fl) (v : Value) (w' : World) : Prop :=
  ∃ a1 n1 c1 a2 n2 c2 a3 c3, v = .agg #[.slice a1 n1 c1, .slice a2 n2 c2, .slice a3 0 c3] ∧ n1 = M1.length ∧ FlsL w' a1 n1 M1 ∧ FlsL w' a2 n2 M2 ∧ Below V0.heap.size V0 w'
theorem ansQ {V0 : World} {M1 M2 : List Fl} {v : Value} {w' : World} (h : DkAns V0 M1 M2 [] v w') (l1 : M1.length ≤ 1048576) (l2 : M2.length ≤ 1048576) : AnsQ V0 M1 M2 v w' := by
  obtain ⟨a1, c1, a2, c2, a3, c3, rfl, O, D⟩ := h
  exact ⟨a1, _, c1, a2, _, c2, a3, c3, rfl, rfl, FlsL.of O.live l1, FlsL.of O.safe l2, D⟩
theorem copyQ {V0 : World} {M1 M2 : List Fl} {e : Ending} {w' : World} (h : CopyOut V0 M1 M2 [] e w') (l1 : M1.length ≤ 1048576) (l2 : M2.length ≤ 1048576) : ∃ v, e = .returned v ∧ AnsQ V0 M1 M2 v w' := by
  obtain ⟨a1, n1, c1, a2, n2, c2, a3, n3, c3, rfl, O, D⟩ := h
  obtain ⟨e1, _⟩ := O.live.list l1
  obtain ⟨e3, _⟩ := O.ops.list (by simp)
  subst e1
  refine ⟨_, rfl, a1, _, c1, a2, n2, c2, a3, c3, ?_, rfl, FlsL.of O.live l1, FlsL.of O.safe l2, D⟩
  rw [e3]; rfl
theorem sy1_len {x : Bool} {L : List Fl} (h : L.length ≤ 1048576) : (sy1 x L).length ≤ 1048576 := by
  unfold sy1
  split
  · exact h
  · simp
theorem DkL.lens {V : World} {q q' q'' : Option Addr} {n m r : Nat} {L1 L2 : List Fl} {L3 : List Dp} (h : DkL V q n q' m q'' r L1 L2 L3) : L1.length ≤ 1048576 ∧ L2.length ≤ 1048576 ∧ L3.length = r ∧ r ≤ 1048576 ∧ L1.length = n ∧ L2.length = m := by
  obtain ⟨F, G, O, hd, rfl, rfl, rfl⟩ := h
  simp only [lst_len]
  exact ⟨hd.live.1, hd.safe.1, trivial, hd.ops.1, trivial, trivial⟩
theorem DkL.files {V : World} {q q' q'' : Option Addr} {n m r : Nat} {L1 L2 : List Fl} {L3 : List Dp} (h : DkL V q n q' m q'' r L1 L2 L3) : FlsL V q n L1 ∧ FlsL V q' m L2 := by
  obtain ⟨F, G, O, hd, rfl, rfl, rfl⟩ := h
  exact ⟨⟨F, hd.live, rfl⟩, ⟨G, hd.safe, rfl⟩⟩
/-- Crash, all ops kept. -/
theorem crashAll {V : World} {q q' q'' : Option Addr} {n m r : Nat} (c c' c'' : Nat) {L1 L2 : List Fl} {L3 : List Dp} (h : DkL V q n q' m q'' r L1 L2 L3) (k : Option Addr) (kc : Nat) (hk : Ints V k r (fun i => (i : Int))) :
    Calls Try.prog 16 #[.agg #[.slice q n c, .slice q' m c', .slice q'' r c''], .slice k r kc, .int .i64 1099511627776] V fun e w' => ∃ v, e = .returned (.tuple #[v, .bool (diskB L1 L2 L3)]) ∧ AnsQ V (sy1 (diskB L1 L2 L3) L1) (sy1 (diskB L1 L2 L3) L1) v w' := by
  obtain ⟨l1, l2, _⟩ := h.lens
  obtain ⟨F, G, O, hd, rfl, rfl, rfl⟩ := h
  have := implCr q q' q'' n m r c c' c'' F G O k r kc (fun i => (i : Int)) 1099511627776 V hd hk
  rw [(cr_all hd.so).1, (cr_all hd.so).2] at this
  exact this.mono (by rintro e w' ⟨v, h1, h2⟩; exact ⟨v, h1, ansQ h2 (sy1_len l1) (sy1_len l1)⟩)
/-- Crash, none kept. -/
theorem crashNone {V : World} {q q' q'' : Option Addr} {n m r : Nat} (c c' c'' : Nat) {L1 L2 : List Fl} {L3 : List Dp} (h : DkL V q n q' m q'' r L1 L2 L3) :
    Calls Try.prog 16 #[.agg #[.slice q n c, .slice q' m c', .slice q'' r c''], .slice none 0 0, .int .i64 0] V fun e w' => ∃ v, e = .returned (.tuple #[v, .bool (diskB L1 L2 L3)]) ∧ AnsQ V (sy1 (diskB L1 L2 L3) L2) (sy1 (diskB L1 L2 L3) L2) v w' := by
  obtain ⟨l1, l2, _⟩ := h.lens
  obtain ⟨F, G, O, hd, rfl, rfl, rfl⟩ := h
  have := implCr q q' q'' n m r c c' c'' F G O none 0 0 (fun _ => 0) 0 V hd ⟨by omega, Or.inl rfl⟩
  rw [(cr_nil _).1, (cr_nil _).2] at this
  exact this.mono (by rintro e w' ⟨v, h1, h2⟩; exact ⟨v, h1, ansQ h2 (sy1_len l2) (sy1_len l2)⟩)
theorem syncQ {V : World} {q q' q'' : Option Addr} {n m r : Nat} (c c' c'' : Nat) {L1 L2 : List Fl} {L3 : List Dp} (h : DkL V q n q' m q'' r L1 L2 L3) :
    Calls Try.prog 17 #[.agg #[.slice q n c, .slice q' m c', .slice q'' r c'']] V fun e w' => ∃ v, e = .returned v ∧ AnsQ V (sy1 (diskB L1 L2 L3) L1) (sy1 (diskB L1 L2 L3) L1) v w' :=
  (implSyncL c c' c'' h).mono fun _ _ hh => copyQ hh (sy1_len h.lens.1) (sy1_len h.lens.1)
end Go.Proofs.Ytcalgmhpagpnnaa
