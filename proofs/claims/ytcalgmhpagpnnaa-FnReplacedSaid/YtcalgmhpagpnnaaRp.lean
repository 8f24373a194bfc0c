/- What Replace wants of both sides: ops one after another. No conditions. -/
import Derived.Test.YtcalgmhpagpnnaaDoI
import Derived.Test.YtcalgmhpagpnnaaRf
import Derived.Test.YtcalgmhpagpnnaaSg
namespace Go.Proofs.Ytcalgmhpagpnnaa
open Go.RowKit
set_option maxRecDepth 8000

theorem doC_zero {Lv Sf : List Fl} {Os : List Dp} {o : Dp} (h : doC Lv Sf Os o = 0) : diskB Lv Sf Os = true ∧ formB o = true ∧ ∃ M, doF Lv o = some M ∧ Os.length ≠ 200 ∧ filesB M = true := by
  unfold doC at h
  split at h
  · cases h
  rename_i h1
  split at h
  · cases h
  rename_i h2
  cases hd : doF Lv o with
  | none => rw [hd] at h; cases h
  | some M =>
    rw [hd] at h
    simp only at h
    split at h
    · cases h
    · rename_i k
      refine ⟨by simpa using h1, by simpa using h2, M, rfl, fun e => k (Or.inl e), ?_⟩
      cases hf : filesB M
      · exact absurd (Or.inr hf) k
      · rfl
theorem next_ok {Lv Sf : List Fl} {Os : List Dp} {o : Dp} (h : doC Lv Sf Os o = 0) : diskB (doLv Lv Sf Os o) (doSf Lv Sf Os o) (doOs Lv Sf Os o) = true := by
  obtain ⟨hx, hf, M, hd, hl, hM⟩ := doC_zero h
  simp only [doLv, doSf, doOs, h, hd]
  have hx' := hx
  simp only [diskB, Bool.and_eq_true, decide_eq_true_eq] at hx'
  obtain ⟨⟨⟨h1, h2⟩, h3⟩, h4⟩ := hx'
  have e : runF Sf (Os ++ [o]) = some M := by
    rw [runF_snoc, h4]
    exact step_yes hd hf (by rw [← step_files h1 hf hd]; exact hM)
  have hl' : Os.length + 1 ≤ 200 := by omega
  simp [diskB, hM, h2, e]
  omega
/-- A disk in memory, by its lists. -/
def DkL (V : World) (q : Option Addr) (n : Nat) (q' : Option Addr) (m : Nat) (q'' : Option Addr) (r : Nat) (L1 L2 : List Fl) (L3 : List Dp) : Prop :=
  ∃ F G O, Dk V q n F q' m G q'' r O ∧ lst F n = L1 ∧ lst G m = L2 ∧ lst O r = L3
theorem DkL.below {V V' : World} {q q' q'' : Option Addr} {n m r : Nat} {L1 L2 : List Fl} {L3 : List Dp} (h : DkL V q n q' m q'' r L1 L2 L3) (hb : Below V.heap.size V V') : DkL V' q n q' m q'' r L1 L2 L3 := by
  obtain ⟨F, G, O, hd, e⟩ := h
  exact ⟨F, G, O, hd.below hb, e⟩
theorem lst_DpF (M : List Dp) : lst (DpF M) M.length = M := by
  refine List.ext_getElem? fun i => ?_
  by_cases hi : i < M.length
  · rw [lst_get _ hi, List.getElem?_eq_getElem hi, DpF_lt hi]
  · rw [List.getElem?_eq_none (by rw [lst_len]; omega), List.getElem?_eq_none (by omega)]
theorem own_dkL {V : World} {B : Nat} {q q' q'' : Option Addr} {n m r c c' c'' : Nat} {L1 L2 : List Fl} {L3 : List Dp} (h : Own3 V B (.slice q n c) (.slice q' m c') (.slice q'' r c'') L1 L2 L3) (hx : diskB L1 L2 L3 = true) (hs : ∀ o ∈ L3, o.data.size ≤ 1048576) :
    DkL V q n q' m q'' r L1 L2 L3 := by
  simp only [diskB, Bool.and_eq_true, decide_eq_true_eq] at hx
  obtain ⟨⟨⟨h1, h2⟩, h3⟩, h4⟩ := hx
  obtain ⟨⟨b1, b2⟩, _⟩ := filesB_iff.1 h1
  obtain ⟨⟨b3, b4⟩, _⟩ := filesB_iff.1 h2
  obtain ⟨e1, f1⟩ := h.live.list (by omega)
  obtain ⟨e2, f2⟩ := h.safe.list (by omega)
  obtain ⟨e3, f3⟩ := h.ops.list (by omega)
  subst e1 e2 e3
  refine ⟨_, _, _, ⟨f1, f2, f3, by rw [lst_FlF]; omega, by rw [lst_FlF]; omega, fun i hi => ?_⟩, lst_FlF _, lst_FlF _, lst_DpF _⟩
  rw [DpF_lt hi]
  exact hs _ (List.getElem_mem _)
/-- What an act comes to, the shapes laid open. -/
def ActOut (V : World) (k : Int) (M1 M2 : List Fl) (M3 : List Dp) (e : Ending) (w' : World) : Prop :=
  ∃ a1 n1 c1 a2 n2 c2 a3 n3 c3, e = .returned (.tuple #[.agg #[.slice a1 n1 c1, .slice a2 n2 c2, .slice a3 n3 c3], .int .i64 k]) ∧ Own3 w' V.heap.size (.slice a1 n1 c1) (.slice a2 n2 c2) (.slice a3 n3 c3) M1 M2 M3 ∧ Below V.heap.size V w'
theorem act_open {f : Nat} {args : Array Value} {V : World} {k : Int} {M1 M2 : List Fl} {M3 : List Dp} (h : Calls Try.prog f args V fun e w' => ∃ v, e = .returned (.tuple #[v, .int .i64 k]) ∧ DkAns V M1 M2 M3 v w') : Calls Try.prog f args V fun e w' => ActOut V k M1 M2 M3 e w' := by
  refine h.mono ?_
  rintro e w' ⟨v, rfl, a1, c1, a2, c2, a3, c3, rfl, O, D⟩
  exact ⟨a1, _, c1, a2, _, c2, a3, _, c3, rfl, O, D⟩
theorem actL {V : World} {q q' q'' : Option Addr} {n m r : Nat} (c c' c'' : Nat) {L1 L2 : List Fl} {L3 : List Dp} (h : DkL V q n q' m q'' r L1 L2 L3) (hx : diskB L1 L2 L3 = true) (o : Dp) (ho : o.data.size ≤ 1048576) :
    Calls Try.prog 59 #[.agg #[.slice q n c, .slice q' m c', .slice q'' r c''], .agg #[.int .i64 o.kind, .string o.name, .string o.dst, .string o.data]] V fun e w' => ActOut V (doC L1 L2 L3 o) (doLv L1 L2 L3 o) (doSf L1 L2 L3 o) (doOs L1 L2 L3 o) e w' := by
  obtain ⟨F, G, O, hd, rfl, rfl, rfl⟩ := h
  exact act_open (act_all q q' q'' n m r c c' c'' F G O o V hd ho hx)
theorem doL {V : World} {q q' q'' : Option Addr} {n m r : Nat} (c c' c'' : Nat) {L1 L2 : List Fl} {L3 : List Dp} (h : DkL V q n q' m q'' r L1 L2 L3) (o : Dp) (ho : o.data.size ≤ 1048576) :
    Calls Try.prog 20 #[.agg #[.slice q n c, .slice q' m c', .slice q'' r c''], .agg #[.int .i64 o.kind, .string o.name, .string o.dst, .string o.data]] V fun e w' => ActOut V (doC L1 L2 L3 o) (doLv L1 L2 L3 o) (doSf L1 L2 L3 o) (doOs L1 L2 L3 o) e w' := by
  obtain ⟨F, G, O, hd, rfl, rfl, rfl⟩ := h
  exact act_open (implDoDisk q q' q'' n m r c c' c'' F G O o V hd ho)
/-- What a copy comes to. -/
def CopyOut (V : World) (M1 M2 : List Fl) (M3 : List Dp) (e : Ending) (w' : World) : Prop :=
  ∃ a1 n1 c1 a2 n2 c2 a3 n3 c3, e = .returned (.agg #[.slice a1 n1 c1, .slice a2 n2 c2, .slice a3 n3 c3]) ∧ Own3 w' V.heap.size (.slice a1 n1 c1) (.slice a2 n2 c2) (.slice a3 n3 c3) M1 M2 M3 ∧ Below V.heap.size V w'
theorem copy_o {f : Nat} {args : Array Value} {V : World} {M1 M2 : List Fl} {M3 : List Dp} (h : Calls Try.prog f args V fun e w' => ∃ v, e = .returned v ∧ DkAns V M1 M2 M3 v w') : Calls Try.prog f args V fun e w' => CopyOut V M1 M2 M3 e w' := by
  refine h.mono ?_
  rintro e w' ⟨v, rfl, a1, c1, a2, c2, a3, c3, rfl, O, D⟩
  exact ⟨a1, _, c1, a2, _, c2, a3, _, c3, rfl, O, D⟩
theorem copyL63 {V : World} {q q' q'' : Option Addr} {n m r : Nat} (c c' c'' : Nat) {L1 L2 : List Fl} {L3 : List Dp} (h : DkL V q n q' m q'' r L1 L2 L3) : Calls Try.prog 63 #[.agg #[.slice q n c, .slice q' m c', .slice q'' r c'']] V fun e w' => CopyOut V L1 L2 L3 e w' := by
  obtain ⟨F, G, O, hd, rfl, rfl, rfl⟩ := h
  exact copy_o (specCopyD q q' q'' n m r c c' c'' F G O V hd.live hd.safe hd.ops)
theorem copyL58 {V : World} {q q' q'' : Option Addr} {n m r : Nat} (c c' c'' : Nat) {L1 L2 : List Fl} {L3 : List Dp} (h : DkL V q n q' m q'' r L1 L2 L3) : Calls Try.prog 58 #[.agg #[.slice q n c, .slice q' m c', .slice q'' r c'']] V fun e w' => CopyOut V L1 L2 L3 e w' := by
  obtain ⟨F, G, O, hd, rfl, rfl, rfl⟩ := h
  exact copy_o (implCopyD q q' q'' n m r c c' c'' F G O V hd.live hd.safe hd.ops)

/-- A disk, one op after another, up to the first that is refused. -/
abbrev T3 := List Fl × List Fl × List Dp
def cod (t : T3) (o : Dp) : Int := doC t.1 t.2.1 t.2.2 o
def nxt (t : T3) (o : Dp) : T3 := (doLv t.1 t.2.1 t.2.2 o, doSf t.1 t.2.1 t.2.2 o, doOs t.1 t.2.1 t.2.2 o)
def rep (t : T3) : List Dp → Int × T3
  | [] => (0, t)
  | o :: r => if cod t o = 0 then rep (nxt t o) r else (cod t o, t)
def tmpN (nm : ByteArray) : ByteArray := nm ++ ⟨#[46, 110, 101, 119]⟩
def rOps (t : T3) (nm dt : ByteArray) : List Dp :=
  (if (getN Fl.name (tmpN nm) t.1).isSome then [⟨3, tmpN nm, ⟨#[]⟩, ⟨#[]⟩⟩] else []) ++ [⟨1, tmpN nm, ⟨#[]⟩, dt⟩, ⟨2, tmpN nm, nm, ⟨#[]⟩⟩]
def repC (t : T3) (nm dt : ByteArray) : Int := (rep t (rOps t nm dt)).1
def repT (t : T3) (nm dt : ByteArray) : T3 := if repC t nm dt = 0 then (rep t (rOps t nm dt)).2 else if repC t nm dt = 1 then ([], [], []) else t
theorem doC_ne1 {Lv Sf : List Fl} {Os : List Dp} (o : Dp) (h : diskB Lv Sf Os = true) : doC Lv Sf Os o ≠ 1 := by
  unfold doC
  rw [if_neg (by rw [h]; simp)]
  split
  · decide
  cases doF Lv o with
  | none => show (3 : Int) ≠ 1; decide
  | some M =>
    simp only
    split <;> decide
theorem diskL15 {V : World} {q q' q'' : Option Addr} {n m r : Nat} (c c' c'' : Nat) {L1 L2 : List Fl} {L3 : List Dp} (h : DkL V q n q' m q'' r L1 L2 L3) : Calls Try.prog 15 #[.agg #[.slice q n c, .slice q' m c', .slice q'' r c'']] V fun e w' => e = .returned (.bool (diskB L1 L2 L3)) ∧ Below V.heap.size V w' := by
  obtain ⟨F, G, O, hd, rfl, rfl, rfl⟩ := h
  exact specDisk q q' q'' n m r c c' c'' F G O V hd
theorem atL {V : World} {q q' q'' : Option Addr} {n m r : Nat} (c : Nat) {L1 L2 : List Fl} {L3 : List Dp} (h : DkL V q n q' m q'' r L1 L2 L3) (s : ByteArray) : Calls Try.prog 62 #[.slice q n c, .string s] V fun e w' => (∃ x : Int, e = .returned (.int .i64 x) ∧ ((0 ≤ x ∧ (getN Fl.name s L1).isSome = true) ∨ (x < 0 ∧ (getN Fl.name s L1).isSome = false))) ∧ w' = V := by
  obtain ⟨F, G, O, hd, rfl, rfl, rfl⟩ := h
  refine (specAt q n c F s V hd.live).mono ?_
  rintro e w' ⟨⟨x, rfl, hA⟩, rfl⟩
  refine ⟨⟨x, rfl, ?_⟩, rfl⟩
  rcases hA with ⟨rfl, hg⟩ | ⟨p, rfl, _, _, hg⟩
  · exact Or.inr ⟨by omega, by rw [hg]; rfl⟩
  · exact Or.inl ⟨by omega, by rw [hg]; rfl⟩
theorem so_next {Lv Sf : List Fl} {Os : List Dp} {o : Dp} (h : ∀ x ∈ Os, x.data.size ≤ 1048576) (ho : o.data.size ≤ 1048576) : ∀ x ∈ doOs Lv Sf Os o, x.data.size ≤ 1048576 := by
  unfold doOs
  split
  · intro x hx; cases hx
  split
  · intro x hx
    rcases List.mem_append.1 hx with k | k
    · exact h x k
    · rw [List.mem_singleton.1 k]; exact ho
  · exact h

/-- The boxes of Replace. -/
structure RBx (w V : World) (v0 v1 v2 : Value) : Prop where
  d : Box3 V w.heap.size v0 v1 v2
  z : Box3 V (w.heap.size + 1) (.slice none 0 0) (.slice none 0 0) (.slice none 0 0)
  b : Below w.heap.size w V
theorem RBx.low {w V V' : World} {v0 v1 v2 : Value} {C : Nat} (h : RBx w V v0 v1 v2) (hb : Below C V V') (hC : w.heap.size + 1 < C) : RBx w V' v0 v1 v2 :=
  ⟨h.d.kept hb (by omega), h.z.kept hb hC, h.b.trans (hb.mono (by omega))⟩
theorem RBx.kept {w V V' : World} {v0 v1 v2 : Value} (h : RBx w V v0 v1 v2) (hb : Below V.heap.size V V') : RBx w V' v0 v1 v2 := h.low hb h.z.2.2
theorem RBx.new (w : World) (v0 v1 v2 : Value) : RBx w ((w.alloc (.cells #[v0, v1, v2] 27)).alloc (.cells #[.slice none 0 0, .slice none 0 0, .slice none 0 0] 27)) v0 v1 v2 := by
  refine ⟨(Box3.new w _ _ _ 27).kept ((Below.refl _ _).alloc (Nat.le_refl _) _) (by simp), ?_, ((Below.refl _ _).alloc (Nat.le_refl _) _).alloc (by simp) _⟩
  have := Box3.new (w.alloc (.cells #[v0, v1, v2] 27)) (.slice none 0 0) (.slice none 0 0) (.slice none 0 0) 27
  rwa [World.size_alloc] at this
/-- Behind an act: x is laid into its box. -/
theorem afterAct {w V u : World} {P : Nat} {x0 x1 x2 y0 y1 y2 v1 v2 v3 : Value} {M1 M2 : List Fl} {M3 : List Dp} (h : RBx w V y0 y1 y2) (X : Box3 V P x0 x1 x2) (hP : w.heap.size + 1 < P) (D : Below V.heap.size V u) (O : Own3 u V.heap.size v1 v2 v3 M1 M2 M3) :
    RBx w (((u.setCell ⟨P, 0, none⟩ v1).setCell ⟨P, 1, none⟩ v2).setCell ⟨P, 2, none⟩ v3) y0 y1 y2 ∧ Box3 (((u.setCell ⟨P, 0, none⟩ v1).setCell ⟨P, 1, none⟩ v2).setCell ⟨P, 2, none⟩ v3) P v1 v2 v3 ∧ Own3 (((u.setCell ⟨P, 0, none⟩ v1).setCell ⟨P, 1, none⟩ v2).setCell ⟨P, 2, none⟩ v3) V.heap.size v1 v2 v3 M1 M2 M3 := by
  have bl := X.2.2
  have k1 : v1.ownBlock ≠ some P := fun e => by have := O.live.lt _ e; omega
  have k2 : v2.ownBlock ≠ some P := fun e => by have := O.safe.lt _ e; omega
  have k3 : v3.ownBlock ≠ some P := fun e => by have := O.ops.lt _ e; omega
  exact ⟨(h.kept D).low (below_far (below_far (below_far (Below.refl P u) (Nat.le_refl _) _ _) (Nat.le_refl _) _ _) (Nat.le_refl _) _ _) hP, (((X.kept D bl).set0 v1).set1 v2).set2 v3, ⟨((O.live.far k1 _ _).far k1 _ _).far k1 _ _, ((O.safe.far k2 _ _).far k2 _ _).far k2 _ _, ((O.ops.far k3 _ _).far k3 _ _).far k3 _ _, O.ne⟩⟩
end Go.Proofs.Ytcalgmhpagpnnaa
