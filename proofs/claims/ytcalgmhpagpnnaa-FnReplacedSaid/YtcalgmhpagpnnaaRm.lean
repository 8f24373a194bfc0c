/- What a loss of power leaves of a file that is replaced (mathematics). No conditions. -/
import Derived.Test.YtcalgmhpagpnnaaDdA
namespace Go.Proofs.Ytcalgmhpagpnnaa
open Go.RowKit
set_option maxRecDepth 8000

theorem ris_inj : ∀ {l : List Fl}, Ris Fl.name l → ∀ {y z : Fl}, y ∈ l → z ∈ l → y.name = z.name → y = z
  | x :: r, h, y, z, hy, hz, e => by
    obtain ⟨h1, h2⟩ := List.pairwise_cons.1 h
    rcases List.mem_cons.1 hy with ey | hy'
    · rcases List.mem_cons.1 hz with ez | hz'
      · rw [ey, ez]
      · subst ey; exact absurd e (lt_ne (h1 z hz'))
    · rcases List.mem_cons.1 hz with ez | hz'
      · subst ez; exact absurd e.symm (lt_ne (h1 y hy'))
      · exact ris_inj h2 hy' hz' e
theorem getN_put_ne {x : Fl} {l : List Fl} (hR : Ris Fl.name l) {n : ByteArray} (hn : n ≠ x.name) : getN Fl.name n (putN Fl.name x l) = getN Fl.name n l := by
  cases hg : getN Fl.name n l with
  | none =>
    refine getN_nomem fun y hy => ?_
    rcases putN_mem.1 hy with rfl | ⟨h1, _⟩
    · exact fun e => hn e.symm
    · exact getN_none hg y h1
  | some f =>
    obtain ⟨f1, f2⟩ := getN_some hg
    cases hp : getN Fl.name n (putN Fl.name x l) with
    | none => exact absurd f2 (getN_none hp f (putN_mem.2 (Or.inr ⟨f1, fun e => hn (f2.symm.trans e)⟩)))
    | some y =>
      obtain ⟨y1, y2⟩ := getN_some hp
      rcases putN_mem.1 y1 with rfl | ⟨h1, _⟩
      · exact absurd y2.symm hn
      · rw [ris_inj hR h1 f1 (y2.trans f2.symm)]
theorem tmp_ne (nm : ByteArray) : nm ≠ tmpN nm := fun e => by
  have := congrArg ByteArray.size e
  rw [tmpN, ByteArray.size_append] at this
  have h4 : (⟨#[46, 110, 101, 119]⟩ : ByteArray).size = 4 := rfl
  omega
theorem empty_add (d : ByteArray) : ByteArray.empty ++ d = d := by simp
abbrev op1 (nm dt : ByteArray) : Dp := ⟨1, tmpN nm, ⟨#[]⟩, dt⟩
abbrev op2 (nm : ByteArray) : Dp := ⟨2, tmpN nm, nm, ⟨#[]⟩⟩
theorem doF_one {S : List Fl} {nm : ByteArray} (hg : getN Fl.name (tmpN nm) S = none) (d : ByteArray) : doF S (op1 nm d) = some (putN Fl.name ⟨tmpN nm, d⟩ S) := by
  unfold doF
  rw [if_pos rfl, hg]
  simp
theorem doF_two_none {S : List Fl} {nm : ByteArray} (hg : getN Fl.name (tmpN nm) S = none) : doF S (op2 nm) = none := by
  unfold doF
  rw [if_neg (by show ¬ (2 : Int) = 1; decide), hg]
theorem doF_two {S : List Fl} {nm d : ByteArray} : doF (putN Fl.name ⟨tmpN nm, d⟩ S) (op2 nm) = some (putN Fl.name ⟨nm, d⟩ (cutN Fl.name (tmpN nm) (putN Fl.name ⟨tmpN nm, d⟩ S))) := by
  unfold doF
  rw [if_neg (by show ¬ (2 : Int) = 1; decide)]
  have := getN_put (nm := Fl.name) (⟨tmpN nm, d⟩ : Fl) S
  rw [show (⟨tmpN nm, d⟩ : Fl).name = tmpN nm from rfl] at this
  rw [this]
  rfl
/-- The files behind both ops. -/
abbrev file1 (S : List Fl) (nm dt : ByteArray) : List Fl := putN Fl.name ⟨tmpN nm, dt⟩ S
abbrev file2 (S : List Fl) (nm dt : ByteArray) : List Fl := putN Fl.name ⟨nm, dt⟩ (cutN Fl.name (tmpN nm) (file1 S nm dt))
theorem rd_two (S : List Fl) (nm dt : ByteArray) : rdF true (file2 S nm dt) nm = some dt := by
  rw [rdF_true]
  have := getN_put (nm := Fl.name) (⟨nm, dt⟩ : Fl) (cutN Fl.name (tmpN nm) (file1 S nm dt))
  rw [show (⟨nm, dt⟩ : Fl).name = nm from rfl] at this
  rw [this]
  rfl
structure RepOk (S : List Fl) (nm dt : ByteArray) : Prop where
  t : repT (S, S, []) nm dt = (file2 S nm dt, S, [op1 nm dt, op2 nm])
  s : filesB S = true
  one : filesB (file1 S nm dt) = true
  two : filesB (file2 S nm dt) = true
  f1 : formB (op1 nm dt) = true
  f2 : formB (op2 nm) = true
  d : diskB (file2 S nm dt) S [op1 nm dt, op2 nm] = true
theorem repl_ok {S : List Fl} {nm dt : ByteArray} (hg : getN Fl.name (tmpN nm) S = none) (hc : repC (S, S, []) nm dt = 0) : RepOk S nm dt := by
  have ho : rOps (S, S, []) nm dt = [op1 nm dt, op2 nm] := by simp [rOps, hg]
  have hc' := hc
  unfold repC at hc'
  rw [ho] at hc'
  unfold rep at hc'
  by_cases h1 : cod (S, S, []) (op1 nm dt) = 0
  · rw [if_pos h1] at hc'
    unfold rep at hc'
    by_cases h2 : cod (nxt (S, S, []) (op1 nm dt)) (op2 nm) = 0
    · have c1 : doC S S [] (op1 nm dt) = 0 := h1
      obtain ⟨x1, x2, M, x3, x4, x5⟩ := doC_zero c1
      have e1 : M = file1 S nm dt := Option.some.inj (x3.symm.trans (doF_one hg dt))
      subst e1
      have n1 : nxt (S, S, []) (op1 nm dt) = (file1 S nm dt, S, [op1 nm dt]) := by
        simp only [nxt, doLv_zero c1 x3, act_z c1]
        rfl
      rw [n1] at h2
      have c2 : doC (file1 S nm dt) S [op1 nm dt] (op2 nm) = 0 := h2
      obtain ⟨y1, y2, M2, y3, y4, y5⟩ := doC_zero c2
      have e2 : M2 = file2 S nm dt := Option.some.inj (y3.symm.trans doF_two)
      subst e2
      have n2 : nxt (file1 S nm dt, S, [op1 nm dt]) (op2 nm) = (file2 S nm dt, S, [op1 nm dt, op2 nm]) := by
        simp only [nxt, doLv_zero c2 y3, act_z c2]
        rfl
      refine ⟨?_, (disk_parts x1).1, x5, y5, x2, y2, ?_⟩
      · unfold repT
        rw [if_pos hc, ho]
        unfold rep
        rw [if_pos h1, n1]
        unfold rep
        rw [if_pos h2, n2]
        rfl
      · have := next_ok c2
        rw [doLv_zero c2 y3, (act_z c2).1, (act_z c2).2] at this
        exact this
    · rw [if_neg h2] at hc'
      exact absurd hc' h2
  · rw [if_neg h1] at hc'
    exact absurd hc' h1
where act_z {L1 L2 : List Fl} {L3 : List Dp} {o : Dp} (hc : doC L1 L2 L3 o = 0) : doSf L1 L2 L3 o = L2 ∧ doOs L1 L2 L3 o = L3 ++ [o] := by simp [doSf, doOs, hc]
theorem torn_fits {S : List Fl} {nm dt : ByteArray} (h : RepOk S nm dt) (hg : getN Fl.name (tmpN nm) S = none) (d : ByteArray) (hd : d.size ≤ dt.size) : filesB (file1 S nm d) = true := by
  have hf : formB (op1 nm d) = true := by
    have := h.f1
    simp only [formB, if_true] at this ⊢
    exact this
  rw [step_files h.s hf (doF_one hg d)]
  obtain ⟨⟨b1, b2⟩, _⟩ := filesB_iff.1 h.one
  unfold fitsB
  refine decide_eq_true ⟨?_, ?_⟩
  · simp only [file1, putN, ins_len] at b1 ⊢
    exact b1
  · simp only [file1, putN, byt_ins] at b2 ⊢
    omega
theorem sub_four {ks : List Nat} (hk : ks.Sublist [0, 1]) : ks = [] ∨ ks = [0] ∨ ks = [1] ∨ ks = [0, 1] := by
  cases hk with
  | cons _ h =>
    cases h with
    | cons _ h => exact Or.inl (List.sublist_nil.1 h)
    | cons_cons _ h => rw [List.sublist_nil.1 h]; exact Or.inr (Or.inr (Or.inl rfl))
  | cons_cons _ h =>
    cases h with
    | cons _ h => rw [List.sublist_nil.1 h]; exact Or.inr (Or.inl rfl)
    | cons_cons _ h => rw [List.sublist_nil.1 h]; exact Or.inr (Or.inr (Or.inr rfl))
/-- What is read behind a loss of power. -/
def CrashOk (S : List Fl) (nm dt : ByteArray) (b : Bool) (X : List Fl) : Prop := b = true ∧ filesB X = true ∧ (rdF true X nm = rdF true S nm ∨ rdF true X nm = some dt)
theorem crash_ok {S : List Fl} {nm dt : ByteArray} (h : RepOk S nm dt) (hg : getN Fl.name (tmpN nm) S = none) {O : Nat → Dp} (h0 : O 0 = op1 nm dt) (h1 : O 1 = op2 nm) {ks : List Nat} (hk : ks.Sublist [0, 1]) {t : Int} (ht : 0 ≤ t) :
    CrashOk S nm dt (crB (file2 S nm dt) S O 2 (fun i => ((ks.getD i 0 : Nat) : Int)) ks.length t) (crL (file2 S nm dt) S O 2 (fun i => ((ks.getD i 0 : Nat) : Int)) ks.length t) := by
  have hd : diskB (file2 S nm dt) S (lst O 2) = true := by
    have : lst O 2 = [op1 nm dt, op2 nm] := by simp [lst, List.range, List.range.loop, h0, h1]
    rw [this]
    exact h.d
  have hR := (filesB_iff.1 h.s).2.2
  have tn : tornD (op2 nm) t = op2 nm := torn_same h.f2 ht (Or.inl (by show (2 : Int) ≠ 1; decide))
  have key : ∀ (K : Nat → Int) (n : Nat) (X : List Fl), kpB 2 K n = true → crF O K n t S n = X → filesB X = true → (rdF true X nm = rdF true S nm ∨ rdF true X nm = some dt) → CrashOk S nm dt (crB (file2 S nm dt) S O 2 K n t) (crL (file2 S nm dt) S O 2 K n t) := by
    intro K n X hy hX hf hr
    obtain ⟨y1, y2⟩ := cr_yes hd hy ht
    rw [hX, hf] at y1 y2
    rw [y1, y2]
    exact ⟨rfl, hf, hr⟩
  have four : ks = [] ∨ ks = [0] ∨ ks = [1] ∨ ks = [0, 1] := sub_four hk
  rcases four with rfl | rfl | rfl | rfl
  · exact key _ _ S (kp_nil 2 _) rfl h.s (Or.inl rfl)
  · refine key _ 1 (file1 S nm (tornD (op1 nm dt) t).data) (by decide) ?_ (torn_fits h hg _ ?_) (Or.inl ?_)
    · show (doF S (crOp O _ 1 t 0)).getD S = _
      have : crOp O (fun i => (([0].getD i 0 : Nat) : Int)) 1 t 0 = op1 nm (tornD (op1 nm dt) t).data := by
        simp [crOp, h0, tornD]
      rw [this, doF_one hg]
      rfl
    · simp [tornD, ByteArray.size_extract]
      omega
    · rw [rdF_true, rdF_true, getN_put_ne hR (tmp_ne nm)]
  · refine key _ 1 S (by decide) ?_ h.s (Or.inl rfl)
    show (doF S (crOp O _ 1 t 0)).getD S = _
    have : crOp O (fun i => (([1].getD i 0 : Nat) : Int)) 1 t 0 = op2 nm := by
      simp [crOp, h1, tn]
    rw [this, doF_two_none hg]
    rfl
  · refine key _ 2 (file2 S nm dt) (by decide) ?_ h.two (Or.inr (rd_two S nm dt))
    show (doF ((doF S (crOp O _ 2 t 0)).getD S) (crOp O _ 2 t 1)).getD _ = _
    have e0 : crOp O (fun i => (([0, 1].getD i 0 : Nat) : Int)) 2 t 0 = op1 nm dt := by
      simp [crOp, h0]
    have e1 : crOp O (fun i => (([0, 1].getD i 0 : Nat) : Int)) 2 t 1 = op2 nm := by
      simp [crOp, h1, tn]
    rw [e0, e1, doF_one hg, Option.getD_some, doF_two]
    rfl
end Go.Proofs.Ytcalgmhpagpnnaa
