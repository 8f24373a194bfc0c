/- What Do does to what is read (mathematics), and ReadFile by lists. No conditions. -/
import Derived.Test.YtcalgmhpagpnnaaRp
import Derived.Test.YtcalgmhpagpnnaaRdQ
import Derived.Deep.RegionWith
import Derived.Deep.DeepCutAuto
namespace Go.Proofs.Ytcalgmhpagpnnaa
open Go.RowKit
set_option maxRecDepth 8000

theorem getN_nomem {α : Type} {nm : α → ByteArray} {n : ByteArray} {l : List α} (h : ∀ y ∈ l, nm y ≠ n) : getN nm n l = none := by
  unfold getN
  rw [List.find?_eq_none]
  intro y hy
  simp [h y hy]
theorem getN_put {α : Type} {nm : α → ByteArray} (x : α) (l : List α) : getN nm (nm x) (putN nm x l) = some x := by
  cases hg : getN nm (nm x) (putN nm x l) with
  | none => exact absurd rfl (getN_none hg x (putN_mem.2 (Or.inl rfl)))
  | some y =>
    obtain ⟨h1, h2⟩ := getN_some hg
    rcases putN_mem.1 h1 with k | ⟨_, k⟩
    · rw [k]
    · exact absurd h2 k
theorem getN_cut {α : Type} {nm : α → ByteArray} (n : ByteArray) (l : List α) : getN nm n (cutN nm n l) = none := getN_nomem fun _ hy => (cutN_mem.1 hy).2
theorem rdF_true (L : List Fl) (s : ByteArray) : rdF true L s = (getN Fl.name s L).map Fl.data := rfl
theorem doLv_zero {L1 L2 : List Fl} {L3 : List Dp} {o : Dp} {M : List Fl} (hc : doC L1 L2 L3 o = 0) (hd : doF L1 o = some M) : doLv L1 L2 L3 o = M := by
  unfold doLv
  rw [hc, hd]
  rfl
theorem done_append {L1 L2 : List Fl} {L3 : List Dp} {o : Dp} (hc : doC L1 L2 L3 o = 0) (hk : o.kind = 1) : rdF true (doLv L1 L2 L3 o) o.name = some (((rdF true L1 o.name).getD ⟨#[]⟩) ++ o.data) := by
  have hd : doF L1 o = some (putN Fl.name ⟨o.name, (((getN Fl.name o.name L1).map Fl.data).getD ByteArray.empty) ++ o.data⟩ L1) := by
    unfold doF
    rw [if_pos hk]
  rw [doLv_zero hc hd, rdF_true]
  have := getN_put (nm := Fl.name) (⟨o.name, (((getN Fl.name o.name L1).map Fl.data).getD ByteArray.empty) ++ o.data⟩ : Fl) L1
  rw [show (⟨o.name, (((getN Fl.name o.name L1).map Fl.data).getD ByteArray.empty) ++ o.data⟩ : Fl).name = o.name from rfl] at this
  rw [this]
  rfl
theorem done_rename {L1 L2 : List Fl} {L3 : List Dp} {o : Dp} (hc : doC L1 L2 L3 o = 0) (hk : o.kind = 2) : ∃ d, rdF true L1 o.name = some d ∧ rdF true (doLv L1 L2 L3 o) o.dst = some d ∧ (o.dst ≠ o.name → rdF true (doLv L1 L2 L3 o) o.name = none) := by
  obtain ⟨_, _, M, hd, _, _⟩ := doC_zero hc
  have hd' := hd
  unfold doF at hd'
  rw [if_neg (by omega)] at hd'
  cases hg : getN Fl.name o.name L1 with
  | none => rw [hg] at hd'; cases hd'
  | some f =>
    rw [hg] at hd'
    simp only [hk, if_true] at hd'
    have e : M = putN Fl.name ⟨o.dst, f.data⟩ (cutN Fl.name o.name L1) := (Option.some.inj hd').symm
    rw [doLv_zero hc hd, e]
    refine ⟨f.data, by rw [rdF_true, hg]; rfl, ?_, fun hne => ?_⟩
    · rw [rdF_true]
      have := getN_put (nm := Fl.name) (⟨o.dst, f.data⟩ : Fl) (cutN Fl.name o.name L1)
      rw [show (⟨o.dst, f.data⟩ : Fl).name = o.dst from rfl] at this
      rw [this]
      rfl
    · rw [rdF_true, getN_nomem]
      · rfl
      · intro y hy
        rcases putN_mem.1 hy with rfl | ⟨h1, _⟩
        · exact hne
        · exact (cutN_mem.1 h1).2
theorem done_remove {L1 L2 : List Fl} {L3 : List Dp} {o : Dp} (hc : doC L1 L2 L3 o = 0) (hk : o.kind = 3) : rdF true (doLv L1 L2 L3 o) o.name = none := by
  obtain ⟨_, _, M, hd, _, _⟩ := doC_zero hc
  have hd' := hd
  unfold doF at hd'
  rw [if_neg (by omega)] at hd'
  cases hg : getN Fl.name o.name L1 with
  | none => rw [hg] at hd'; cases hd'
  | some f =>
    rw [hg] at hd'
    simp only [hk] at hd'
    have e : M = cutN Fl.name o.name L1 := (Option.some.inj hd').symm
    rw [doLv_zero hc hd, e, rdF_true, getN_cut]
    rfl
theorem done_kinds {L1 L2 : List Fl} {L3 : List Dp} {o : Dp} (hc : doC L1 L2 L3 o = 0) : o.kind = 1 ∨ o.kind = 2 ∨ o.kind = 3 := by
  obtain ⟨_, hf, _⟩ := doC_zero hc
  unfold formB at hf
  by_cases h1 : o.kind = 1
  · exact Or.inl h1
  by_cases h2 : o.kind = 2
  · exact Or.inr (Or.inl h2)
  by_cases h3 : o.kind = 3
  · exact Or.inr (Or.inr h3)
  rw [if_neg h1, if_neg h2, if_neg h3] at hf
  simp at hf
theorem byt_mem4 : ∀ {L : List Fl} {f : Fl}, f ∈ L → f.data.size ≤ byt L
  | x :: r, f, h => by
    rcases List.mem_cons.1 h with rfl | k
    · simp [byt]
    · have := byt_mem4 k
      simp only [byt, List.map_cons, List.sum_cons] at this ⊢
      omega
theorem rd_size_le {L : List Fl} (hb : byt L ≤ 1048576) (s : ByteArray) : ((rdF true L s).getD ⟨#[]⟩).size ≤ 1048576 := by
  rw [rdF_true]
  cases hg : getN Fl.name s L with
  | none => exact Nat.zero_le _
  | some f =>
    have hm := (getN_some hg).1
    have : f.data.size ≤ byt L := byt_mem4 hm
    show f.data.size ≤ _
    omega
theorem DkL.byts {V : World} {q q' q'' : Option Addr} {n m r : Nat} {L1 L2 : List Fl} {L3 : List Dp} (h : DkL V q n q' m q'' r L1 L2 L3) : byt L1 ≤ 1048576 := by
  obtain ⟨F, G, O, hd, rfl, rfl, rfl⟩ := h
  exact hd.sl
end Go.Proofs.Ytcalgmhpagpnnaa

/- A disk and an op are drawn (DrawDo). Conditions: the code's bytes lie in memory. -/
namespace Go.Proofs.Ytcalgmhpagpnnaa
open Go.RowKit
set_option maxRecDepth 8000

theorem Fls.stp {B : Nat} {w w' : World} {a : Option Addr} {n : Nat} {F : Nat → Fl} (h : Fls w a n F) (s : Stp B w w') (hn : ∀ x, a = some x → B < x.block) : Fls w' a n F := by
  refine ⟨h.1, ?_⟩
  rcases h.2 with h0 | ⟨b, o, ha, hb, hA⟩
  · exact Or.inl h0
  · exact Or.inr ⟨b, o, ha, Nat.lt_of_lt_of_le hb s.size, fun i hi => (hA i hi).of_cells (fun q => s.cell (p := ⟨b, q, none⟩) hb (by have : B < b := hn _ ha; show b ≠ B; omega))⟩
theorem Dps.stp {B : Nat} {w w' : World} {a : Option Addr} {n : Nat} {F : Nat → Dp} (h : Dps w a n F) (s : Stp B w w') (hn : ∀ x, a = some x → B < x.block) : Dps w' a n F := by
  refine ⟨h.1, ?_⟩
  rcases h.2 with h0 | ⟨b, o, ha, hb, hA⟩
  · exact Or.inl h0
  · exact Or.inr ⟨b, o, ha, Nat.lt_of_lt_of_le hb s.size, fun i hi => (hA i hi).of_cells (fun q => s.cell (p := ⟨b, q, none⟩) hb (by have : B < b := hn _ ha; show b ≠ B; omega))⟩
theorem DkL.stp {B : Nat} {V V' : World} {q q' q'' : Option Addr} {n m r : Nat} {L1 L2 : List Fl} {L3 : List Dp} (h : DkL V q n q' m q'' r L1 L2 L3) (s : Stp B V V') (hb : Beh B q q' q'') : DkL V' q n q' m q'' r L1 L2 L3 := by
  obtain ⟨F, G, O, hd, e⟩ := h
  exact ⟨F, G, O, ⟨hd.live.stp s (fun x hx => hb x (Or.inl hx)), hd.safe.stp s (fun x hx => hb x (Or.inr (Or.inl hx))), hd.ops.stp s (fun x hx => hb x (Or.inr (Or.inr hx))), hd.sl, hd.ss, hd.so⟩, e⟩
theorem Cel4.set {w : World} {R : Nat} {v0 v1 v2 v3 : Value} (h : Cel4 w R v0 v1 v2 v3) {Q : Nat} (hne : Q ≠ R) (i : Nat) (u : Value) : Cel4 (w.setCell ⟨Q, i, none⟩ u) R v0 v1 v2 v3 := by
  obtain ⟨⟨h0, h1, h2, h3⟩, hf, hz⟩ := h
  have o : ∀ j, (w.setCell ⟨Q, i, none⟩ u).cell? ⟨R, j, none⟩ = w.cell? ⟨R, j, none⟩ := fun j => World.cell?_setCell_other _ _ _ _ (by intro e; exact hne (congrArg Addr.block e))
  exact ⟨⟨by rw [o]; exact h0, by rw [o]; exact h1, by rw [o]; exact h2, by rw [o]; exact h3⟩, fun o => by rw [World.frozen?_setCell]; exact hf o, by simpa [World.setCell] using hz⟩

/-- The reader, the boxes of the answers, a disk in its box and an op in its box. -/
structure DW (w : World) (a : Option Addr) (len cap D P : Nat) (q : Option Addr) (n c : Nat) (q' : Option Addr) (m c' : Nat) (q'' : Option Addr) (r c'' : Nat) (L1 L2 : List Fl) (L3 : List Dp) (o : Dp) (V : World) : Prop where
  rd : Rd V (w.heap.size + 1 + 1) a len cap
  b : Below w.heap.size w V
  r0 : Box3 V w.heap.size (.slice none 0 0) (.slice none 0 0) (.slice none 0 0)
  r1 : Cel4 V (w.heap.size + 1) (.int .i64 0) (.string ⟨#[]⟩) (.string ⟨#[]⟩) (.string ⟨#[]⟩)
  d : Box3 V D (.slice q n c) (.slice q' m c') (.slice q'' r c'')
  p : Cel4 V P (.int .i64 o.kind) (.string o.name) (.string o.dst) (.string o.data)
  dk : DkL V q n q' m q'' r L1 L2 L3
  beh : Beh (w.heap.size + 1 + 1) q q' q''
  dp : w.heap.size + 1 + 1 < D ∧ D < P
theorem DW.step {w V V' : World} {a : Option Addr} {len cap D P : Nat} {q q' q'' : Option Addr} {n c m c' r c'' : Nat} {L1 L2 : List Fl} {L3 : List Dp} {o : Dp} (h : DW w a len cap D P q n c q' m c' q'' r c'' L1 L2 L3 o V) (hr : Rd V' (w.heap.size + 1 + 1) a len cap) (s : Stp (w.heap.size + 1 + 1) V V') : DW w a len cap D P q n c q' m c' q'' r c'' L1 L2 L3 o V' := by
  have q1 := h.dp
  have q2 : w.heap.size + 1 + 1 ≤ V.heap.size := Nat.le_of_lt h.rd.2.2.2.1
  exact ⟨hr, h.b.trans ((s.below q2).mono (by omega)), h.r0.stp s (by omega), h.r1.stp s (by omega), h.d.stp s (by omega), h.p.stp s (by omega), h.dk.stp s h.beh, h.beh, h.dp⟩
theorem DW.kept {w V V' : World} {a : Option Addr} {len cap D P : Nat} {q q' q'' : Option Addr} {n c m c' r c'' : Nat} {L1 L2 : List Fl} {L3 : List Dp} {o : Dp} (h : DW w a len cap D P q n c q' m c' q'' r c'' L1 L2 L3 o V) (hb : Below V.heap.size V V') : DW w a len cap D P q n c q' m c' q'' r c'' L1 L2 L3 o V' :=
  h.step (h.rd.same (hb.mono h.rd.2.2.2.1)) (Stp.ofBelow hb)
/-- What is drawn: a disk and an op. -/
def DoDraw (w : World) (e : Ending) (w' : World) : Prop :=
  ∃ a1 n1 c1 a2 n2 c2 a3 n3 c3 L1 L2 L3, ∃ o : Dp, e = .returned (.tuple #[.agg #[.slice a1 n1 c1, .slice a2 n2 c2, .slice a3 n3 c3], .agg #[.int .i64 o.kind, .string o.name, .string o.dst, .string o.data]]) ∧ DkL w' a1 n1 a2 n2 a3 n3 L1 L2 L3 ∧ o.data.size ≤ 3 ∧ Below w.heap.size w w'
theorem DW.setOp {w V : World} {a : Option Addr} {len cap D P : Nat} {q q' q'' : Option Addr} {n c m c' r c'' : Nat} {L1 L2 : List Fl} {L3 : List Dp} {o o' : Dp} (h : DW w a len cap D P q n c q' m c' q'' r c'' L1 L2 L3 o V) (i : Nat) (u : Value) (hp : Cel4 (V.setCell ⟨P, i, none⟩ u) P (.int .i64 o'.kind) (.string o'.name) (.string o'.dst) (.string o'.data)) (dk : DkL (V.setCell ⟨P, i, none⟩ u) q n q' m q'' r L1 L2 L3) : DW w a len cap D P q n c q' m c' q'' r c'' L1 L2 L3 o' (V.setCell ⟨P, i, none⟩ u) := by
  have q1 := h.dp
  exact ⟨h.rd.setFar (by omega) _, below_far h.b (by omega) _ _, h.r0.far (by omega) _ _, h.r1.set (by omega) _ _, h.d.far (by omega) _ _, hp, dk, h.beh, h.dp⟩
theorem Cel4.put0 {w : World} {R : Nat} {v0 v1 v2 v3 : Value} (h : Cel4 w R v0 v1 v2 v3) (u : Value) : Cel4 (w.setCell ⟨R, 0, none⟩ u) R u v1 v2 v3 := by
  obtain ⟨⟨h0, h1, h2, h3⟩, hf, hz⟩ := h
  have o : ∀ j, j ≠ 0 → (w.setCell ⟨R, 0, none⟩ u).cell? ⟨R, j, none⟩ = w.cell? ⟨R, j, none⟩ := fun j hj => World.cell?_setCell_other _ _ _ _ (by intro e; exact hj (congrArg Addr.off e).symm)
  exact ⟨⟨World.cell?_setCell_same' _ _ _ (by rw [h0]; rfl), by rw [o 1 (by omega)]; exact h1, by rw [o 2 (by omega)]; exact h2, by rw [o 3 (by omega)]; exact h3⟩, fun o => by rw [World.frozen?_setCell]; exact hf o, by simpa [World.setCell] using hz⟩
theorem Cel4.put1 {w : World} {R : Nat} {v0 v1 v2 v3 : Value} (h : Cel4 w R v0 v1 v2 v3) (u : Value) : Cel4 (w.setCell ⟨R, 1, none⟩ u) R v0 u v2 v3 := by
  obtain ⟨⟨h0, h1, h2, h3⟩, hf, hz⟩ := h
  have o : ∀ j, j ≠ 1 → (w.setCell ⟨R, 1, none⟩ u).cell? ⟨R, j, none⟩ = w.cell? ⟨R, j, none⟩ := fun j hj => World.cell?_setCell_other _ _ _ _ (by intro e; exact hj (congrArg Addr.off e).symm)
  exact ⟨⟨by rw [o 0 (by omega)]; exact h0, World.cell?_setCell_same' _ _ _ (by rw [h1]; rfl), by rw [o 2 (by omega)]; exact h2, by rw [o 3 (by omega)]; exact h3⟩, fun o => by rw [World.frozen?_setCell]; exact hf o, by simpa [World.setCell] using hz⟩
theorem Cel4.put2 {w : World} {R : Nat} {v0 v1 v2 v3 : Value} (h : Cel4 w R v0 v1 v2 v3) (u : Value) : Cel4 (w.setCell ⟨R, 2, none⟩ u) R v0 v1 u v3 := by
  obtain ⟨⟨h0, h1, h2, h3⟩, hf, hz⟩ := h
  have o : ∀ j, j ≠ 2 → (w.setCell ⟨R, 2, none⟩ u).cell? ⟨R, j, none⟩ = w.cell? ⟨R, j, none⟩ := fun j hj => World.cell?_setCell_other _ _ _ _ (by intro e; exact hj (congrArg Addr.off e).symm)
  exact ⟨⟨by rw [o 0 (by omega)]; exact h0, by rw [o 1 (by omega)]; exact h1, World.cell?_setCell_same' _ _ _ (by rw [h2]; rfl), by rw [o 3 (by omega)]; exact h3⟩, fun o => by rw [World.frozen?_setCell]; exact hf o, by simpa [World.setCell] using hz⟩
/-- The answers' boxes are written. -/
theorem DW.fin {w V : World} {a : Option Addr} {len cap D P : Nat} {q q' q'' : Option Addr} {n c m c' r c'' : Nat} {L1 L2 : List Fl} {L3 : List Dp} {o : Dp} (h : DW w a len cap D P q n c q' m c' q'' r c'' L1 L2 L3 o V) (ho : o.data.size ≤ 3) :
    DoDraw w (.returned (.tuple #[.agg #[.slice q n c, .slice q' m c', .slice q'' r c''], .agg #[.int .i64 o.kind, .string o.name, .string o.dst, .string o.data]])) ((((set3 V w.heap.size (.slice q n c) (.slice q' m c') (.slice q'' r c'')).setCell ⟨w.heap.size + 1, 0, none⟩ (.int .i64 o.kind)).setCell ⟨w.heap.size + 1, 1, none⟩ (.string o.name)).setCell ⟨w.heap.size + 1, 2, none⟩ (.string o.dst) |>.setCell ⟨w.heap.size + 1, 3, none⟩ (.string o.data)) := by
  have bh := h.beh
  have z0 : w.heap.size ≤ w.heap.size + 1 + 1 := by omega
  have z1 : w.heap.size + 1 ≤ w.heap.size + 1 + 1 := by omega
  exact ⟨q, n, c, q', m, c', q'', r, c'', L1, L2, L3, o, rfl, ((((((h.dk.set bh z0 _ _).set bh z0 _ _).set bh z0 _ _).set bh z1 _ _).set bh z1 _ _).set bh z1 _ _).set bh z1 _ _, ho, below_far (below_far (below_far (below_far (below_far (below_far (below_far h.b (by omega) _ _) (by omega) _ _) (by omega) _ _) (by omega) _ _) (by omega) _ _) (by omega) _ _) (by omega) _ _⟩
theorem DoDraw.drew {w V : World} {e : Ending} (h : DoDraw w e V) : DoDraw w e V.drew := by
  obtain ⟨a1, n1, c1, a2, n2, c2, a3, n3, c3, L1, L2, L3, o, h1, h2, h3, h4⟩ := h
  exact ⟨a1, n1, c1, a2, n2, c2, a3, n3, c3, L1, L2, L3, o, h1, h2.below (Below.refl _ _).drew, h3, h4.drew⟩
theorem do_next {V w' : World} {q q' q'' p1 p2 p3 : Option Addr} {n m r m1 m2 m3 k1 k2 k3 : Nat} {L1 L2 : List Fl} {L3 : List Dp} {o : Dp} (h : DkL V q n q' m q'' r L1 L2 L3) (hc : doC L1 L2 L3 o = 0) (ho : o.data.size ≤ 1048576) (O : Own3 w' V.heap.size (.slice p1 m1 k1) (.slice p2 m2 k2) (.slice p3 m3 k3) (doLv L1 L2 L3 o) (doSf L1 L2 L3 o) (doOs L1 L2 L3 o)) :
    DkL w' p1 m1 p2 m2 p3 m3 (doLv L1 L2 L3 o) (doSf L1 L2 L3 o) (doOs L1 L2 L3 o) := by
  refine own_dkL O (next_ok hc) (fun p hp => ?_)
  simp only [doOs, hc] at hp
  obtain ⟨F, G, Q, hd, rfl, rfl, rfl⟩ := h
  rcases List.mem_append.1 hp with k | k
  · obtain ⟨i, hi, rfl⟩ := lst_mem.1 k
    exact hd.so i hi
  · rw [List.mem_singleton.1 k]; exact ho
/-- The next disk is laid into the box. -/
theorem DW.next {w V w' : World} {a : Option Addr} {len cap D P : Nat} {q q' q'' : Option Addr} {n c m c' r c'' : Nat} {L1 L2 M1 M2 : List Fl} {L3 M3 : List Dp} {o : Dp} {p1 p2 p3 : Option Addr} {m1 k1 m2 k2 m3 k3 C : Nat} (h : DW w a len cap D P q n c q' m c' q'' r c'' L1 L2 L3 o V) (hb : Below V.heap.size V w') (O : Own3 w' C (.slice p1 m1 k1) (.slice p2 m2 k2) (.slice p3 m3 k3) M1 M2 M3) (hC : V.heap.size ≤ C) (dk : DkL w' p1 m1 p2 m2 p3 m3 M1 M2 M3) :
    DW w a len cap D P p1 m1 k1 p2 m2 k2 p3 m3 k3 M1 M2 M3 o (set3 w' D (.slice p1 m1 k1) (.slice p2 m2 k2) (.slice p3 m3 k3)) := by
  have q1 := h.dp
  have hD : D < V.heap.size := h.d.2.2
  have h' := h.kept hb
  have bh : Beh D p1 p2 p3 := Own3.beh O.live O.safe O.ops (by omega)
  exact ⟨((h'.rd.setFar (by omega) _).setFar (by omega) _).setFar (by omega) _, below_far (below_far (below_far h'.b (by omega) _ _) (by omega) _ _) (by omega) _ _, ((h'.r0.far (by omega) _ _).far (by omega) _ _).far (by omega) _ _, ((h'.r1.set (by omega) _ _).set (by omega) _ _).set (by omega) _ _, ((h'.d.set0 _).set1 _).set2 _, ((h'.p.set (by omega) _ _).set (by omega) _ _).set (by omega) _ _, ((dk.set bh (Nat.le_refl _) _ _).set bh (Nat.le_refl _) _ _).set bh (Nat.le_refl _) _ _, bh.mono (by omega), h.dp⟩

set_option maxHeartbeats 8000000 in
theorem drawDo (a : Option Addr) (len cap : Nat) (w : World) (hc : Code w a len) :
    Calls Try.prog 19 #[.slice a len cap] w fun e w' => DoDraw w e w' := by
  obtain ⟨W0, hW0, X0, xb, hs0⟩ : ∃ W0, W0 = (w.alloc (.cells #[.slice none 0 0, .slice none 0 0, .slice none 0 0] 27)).alloc (.cells #[.int .i64 0, .string ⟨#[]⟩, .string ⟨#[]⟩, .string ⟨#[]⟩] 36) ∧ Hid (Box3 W0 w.heap.size (.slice none 0 0) (.slice none 0 0) (.slice none 0 0) ∧ Cel4 W0 (w.heap.size + 1) (.int .i64 0) (.string ⟨#[]⟩) (.string ⟨#[]⟩) (.string ⟨#[]⟩)) ∧ Hid (Below w.heap.size w W0) ∧ Hid (W0.heap.size = w.heap.size + 1 + 1) := by
    have x1 := Box3.new w (.slice none 0 0) (.slice none 0 0) (.slice none 0 0) 27
    have x2 := Cel4.new (w.alloc (.cells #[.slice none 0 0, .slice none 0 0, .slice none 0 0] 27)) (.int .i64 0) (.string ⟨#[]⟩) (.string ⟨#[]⟩) (.string ⟨#[]⟩) 36
    rw [World.size_alloc] at x2
    exact ⟨_, rfl, ⟨x1.kept ((Below.refl _ _).alloc (Nat.le_refl _) _) x1.2.2, x2⟩, ((Below.refl _ _).alloc (Nat.le_refl _) _).alloc (by simp) _, (by simp : ((w.alloc (.cells #[.slice none 0 0, .slice none 0 0, .slice none 0 0] 27)).alloc (.cells #[.int .i64 0, .string ⟨#[]⟩, .string ⟨#[]⟩, .string ⟨#[]⟩] 36)).heap.size = w.heap.size + 1 + 1)⟩
  have HW0 : Hid (W0 = _) := hW0
  have HC : Hid (Code w a len) := hc
  clear hW0 hc
  go_enter Try.func19, Try.ntmps19
  go_wp2_with fail
  rw [← HW0.out]
  refine (rd_open a len cap _ HC.out.1 (fun i hi => by obtain ⟨b, off, z, h1, h2, h3, h4⟩ := HC.out.2 i hi; exact ⟨b, off, z, h1, by have := hs0.out; omega, (xb.out.cell (p := ⟨b, off + i, none⟩) h2).trans h3, h4⟩)).mono ?_
  rintro e w1 ⟨rfl, R1, B1⟩
  rw [hs0.out] at R1 B1 ⊢
  have X1 : Hid ((Box3 w1 w.heap.size (.slice none 0 0) (.slice none 0 0) (.slice none 0 0) ∧ Cel4 w1 (w.heap.size + 1) (.int .i64 0) (.string ⟨#[]⟩) (.string ⟨#[]⟩) (.string ⟨#[]⟩)) ∧ Below w.heap.size w w1 ∧ Rd w1 (w.heap.size + 1 + 1) a len cap) := by
    have s : Stp w1.heap.size W0 w1 := ⟨B1.os, B1.tape, B1.output, B1.size, fun k hk _ => B1.block k (by have := hs0.out; omega)⟩
    have hz := R1.2.2.2.1
    exact ⟨⟨X0.out.1.stp s (by omega), X0.out.2.stp s (by omega)⟩, xb.out.trans (B1.mono (by omega)), R1⟩
  clear R1 B1 X0 xb HW0 HC hs0
  go_wp2_with fail
  refine (rd_disk _ a len cap _ X1.out.2.2).mono ?_
  rintro e w2 ⟨q, n, c, q', m, c', q'', r, c'', L1, L2, L3, rfl, D2, Bh, R2, S2⟩
  have hlt : w.heap.size + 1 + 1 < w1.heap.size := X1.out.2.2.2.2.2.1
  have hlt2 : w1.heap.size ≤ w2.heap.size := S2.size
  obtain ⟨V3, hV3, X3⟩ : ∃ V3, V3 = w2.alloc (.cells #[.slice q n c, .slice q' m c', .slice q'' r c''] 27) ∧ Hid ((Box3 V3 w.heap.size (.slice none 0 0) (.slice none 0 0) (.slice none 0 0) ∧ Cel4 V3 (w.heap.size + 1) (.int .i64 0) (.string ⟨#[]⟩) (.string ⟨#[]⟩) (.string ⟨#[]⟩)) ∧ Below w.heap.size w V3 ∧ Rd V3 (w.heap.size + 1 + 1) a len cap ∧ Box3 V3 w2.heap.size (.slice q n c) (.slice q' m c') (.slice q'' r c'') ∧ DkL V3 q n q' m q'' r L1 L2 L3 ∧ Beh (w.heap.size + 1 + 1) q q' q'') := by
    have s3 : Stp (w.heap.size + 1 + 1) w2 (w2.alloc (.cells #[.slice q n c, .slice q' m c', .slice q'' r c''] 27)) := (Stp.refl _ _).alloc _
    have b3 : Below w2.heap.size w2 (w2.alloc (.cells #[.slice q n c, .slice q' m c', .slice q'' r c''] 27)) := (Below.refl _ _).alloc (Nat.le_refl _) _
    have bw : Below w.heap.size w w2 := X1.out.2.1.trans ((S2.below (by omega)).mono (by omega))
    exact ⟨_, rfl, ⟨(X1.out.1.1.stp S2 (by omega)).stp s3 (by omega), (X1.out.1.2.stp S2 (by omega)).stp s3 (by omega)⟩, bw.trans (b3.mono (by omega)), R2.alloc _, Box3.new w2 _ _ _ 27, D2.below b3, Bh.mono (by omega)⟩
  have K2 : Hid (DkL w2 q n q' m q'' r L1 L2 L3 ∧ Beh (w.heap.size + 1 + 1) q q' q'') := ⟨D2, Bh.mono (by omega)⟩
  have T3 : Hid (Stp (w.heap.size + 1 + 1) w2 V3) := by rw [hV3]; exact (Stp.refl _ _).alloc _
  have HV3 : Hid (V3 = _) := hV3
  clear hV3 D2 Bh R2 S2 X1
  go_wp2_with fail
  rw [← HV3.out]
  refine (rd_dop _ a len cap _ X3.out.2.2.1).mono ?_
  rintro e w4 ⟨o, rfl, ho, R4, S4⟩
  have hw3 : w2.heap.size < V3.heap.size := X3.out.2.2.2.1.2.2
  have hw4 : V3.heap.size ≤ w4.heap.size := S4.size
  have HO : Hid (o.data.size ≤ 3) := ho
  obtain ⟨V5, hV5, X5⟩ : ∃ V5, V5 = w4.alloc (.cells #[.int .i64 o.kind, .string o.name, .string o.dst, .string o.data] 36) ∧ Hid (DW w a len cap w2.heap.size w4.heap.size q n c q' m c' q'' r c'' L1 L2 L3 o V5) := by
    have s5 : Stp (w.heap.size + 1 + 1) w4 (w4.alloc (.cells #[.int .i64 o.kind, .string o.name, .string o.dst, .string o.data] 36)) := (Stp.refl _ _).alloc _
    have b5 : Below w4.heap.size w4 (w4.alloc (.cells #[.int .i64 o.kind, .string o.name, .string o.dst, .string o.data] 36)) := (Below.refl _ _).alloc (Nat.le_refl _) _
    have x := X3.out
    have bw : Below w.heap.size w w4 := x.2.1.trans ((S4.below (by omega)).mono (by omega))
    exact ⟨_, rfl, ⟨R4.alloc _, bw.trans (b5.mono (by omega)), (x.1.1.stp S4 (by omega)).stp s5 (by omega), (x.1.2.stp S4 (by omega)).stp s5 (by omega), (x.2.2.2.1.stp S4 (by omega)).stp s5 (by omega), Cel4.new w4 _ _ _ _ 36, (x.2.2.2.2.1.stp S4 x.2.2.2.2.2).below b5, x.2.2.2.2.2, by omega⟩⟩
  have T5 : Hid (Stp (w.heap.size + 1 + 1) w2 V5) := by rw [hV5]; exact (T3.out.trans S4).alloc _
  have hw24 : w2.heap.size ≤ w4.heap.size := by omega
  have HV5 : Hid (V5 = _) := hV5
  clear hV5 X3 R4 S4 HV3 ho hlt hlt2 hw3 hw4
  go_wp2_with fail
  rw [← HV5.out]
  refine (rd_below _ a len cap 20 _ X5.out.rd (by omega) (by omega)).mono ?_
  rintro e w6 ⟨k, rfl, k1, k2, R6, S6⟩
  have X6 : Hid (DW w a len cap w2.heap.size w4.heap.size q n c q' m c' q'' r c'' L1 L2 L3 o w6) := X5.out.step R6 S6
  have T6 : Hid (Stp (w.heap.size + 1 + 1) w2 w6) := T5.out.trans S6
  have H24 : Hid (w2.heap.size ≤ w4.heap.size) := hw24
  clear R6 S6 X5 HV5 T5 T3 hw24
  by_cases h0 : k = 0
  · subst h0
    go_wp2_with fail
    refine (rd_off _ a len cap 1 3 _ X6.out.rd (by omega) (by omega) (by omega)).mono ?_
    rintro e w7 ⟨v, rfl, R7, S7⟩
    have X7 : Hid (DW w a len cap w2.heap.size w4.heap.size q n c q' m c' q'' r c'' L1 L2 L3 o w7) := X6.out.step R7 S7
    have S7' := S7
    clear R7 S7 X6 k1 k2
    obtain ⟨⟨p0, p1, p2, p3⟩, pf, pl⟩ := X7.out.p
    have X8 : Hid (DW w a len cap w2.heap.size w4.heap.size q n c q' m c' q'' r c'' L1 L2 L3 (⟨v, o.name, o.dst, o.data⟩ : Dp) (w7.setCell ⟨w4.heap.size, 0, none⟩ (.int .i64 v))) := X7.out.setOp 0 _ (X7.out.p.put0 _) (K2.out.1.stp ((T6.out.trans S7').setNew H24.out _) K2.out.2)
    clear S7'
    go_upto_region 18 with fail
    generalize w7.setCell ⟨w4.heap.size, 0, none⟩ (.int .i64 v) = w8 at *
    clear X7 p0 p1 p2 p3 pf pl
    obtain ⟨o', ho'⟩ : ∃ o' : Dp, o' = (⟨v, o.name, o.dst, o.data⟩ : Dp) := ⟨_, rfl⟩
    rw [← ho'] at X8
    have HO' : Hid (o'.data.size ≤ 3) := by rw [ho']; exact HO.out
    clear ho' HO
    have HO := HO'
    clear HO'
    have FI : Hid (DoDraw w (.returned (.tuple #[.agg #[.slice q n c, .slice q' m c', .slice q'' r c''], .agg #[.int .i64 o'.kind, .string o'.name, .string o'.dst, .string o'.data]])) (((((set3 w8 w.heap.size (.slice q n c) (.slice q' m c') (.slice q'' r c'')).setCell ⟨w.heap.size + 1, 0, none⟩ (.int .i64 o'.kind)).setCell ⟨w.heap.size + 1, 1, none⟩ (.string o'.name)).setCell ⟨w.heap.size + 1, 2, none⟩ (.string o'.dst) |>.setCell ⟨w.heap.size + 1, 3, none⟩ (.string o'.data))).drew) := (X8.out.fin HO.out).drew
    obtain ⟨⟨⟨s0, s1, s2⟩, sf, sl⟩, ⟨⟨t0, t1, t2, t3⟩, tf, tl⟩, ⟨⟨d0, d1, d2⟩, df, dl⟩, ⟨⟨p0, p1, p2, p3⟩, pf, pl⟩⟩ := (⟨X8.out.r0, X8.out.r1, X8.out.d, X8.out.p⟩ : Box3 w8 w.heap.size (.slice none 0 0) (.slice none 0 0) (.slice none 0 0) ∧ Cel4 w8 (w.heap.size + 1) (.int .i64 0) (.string ⟨#[]⟩) (.string ⟨#[]⟩) (.string ⟨#[]⟩) ∧ Box3 w8 w2.heap.size (.slice q n c) (.slice q' m c') (.slice q'' r c'') ∧ Cel4 w8 w4.heap.size (.int .i64 o'.kind) (.string o'.name) (.string o'.dst) (.string o'.data))
    have dpx := X8.out.dp
    have hn1 : w4.heap.size ≠ w.heap.size := by omega
    have hn2 : w.heap.size ≠ w4.heap.size := by omega
    have hn3 : w2.heap.size ≠ w.heap.size + 1 := by omega
    have hn4 : w.heap.size + 1 ≠ w2.heap.size := by omega
    have hn5 : w2.heap.size ≠ w.heap.size := by omega
    have hn6 : w4.heap.size ≠ w.heap.size + 1 := by omega
    clear dpx
    go_region
    all_goals go_wp2
    all_goals refine bodyPost_ret (v := .tuple #[.agg #[.slice q n c, .slice q' m c', .slice q'' r c''], .agg #[.int .i64 o'.kind, .string o'.name, .string o'.dst, .string o'.data]]) (by simp [results, Try.results19, go_sem, s0, s1, s2, t0, t1, t2, t3]) rfl ?_
    all_goals exact FI.out
  have b0 : (k == 0) = false := by simp [h0]
  by_cases h1 : k = 1
  · subst h1
    obtain ⟨⟨p0, p1, p2, p3⟩, pf, pl⟩ := X6.out.p
    have X8 : Hid (DW w a len cap w2.heap.size w4.heap.size q n c q' m c' q'' r c'' L1 L2 L3 (⟨o.kind, ⟨#[]⟩, o.dst, o.data⟩ : Dp) (w6.setCell ⟨w4.heap.size, 1, none⟩ (.string ⟨#[]⟩))) := X6.out.setOp 1 _ (X6.out.p.put1 _) (K2.out.1.stp (T6.out.setNew H24.out _) K2.out.2)
    clear k1 k2
    go_upto_region 18 with fail
    generalize w6.setCell ⟨w4.heap.size, 1, none⟩ (.string ⟨#[]⟩) = w8 at *
    clear X6 p0 p1 p2 p3 pf pl
    obtain ⟨o', ho'⟩ : ∃ o' : Dp, o' = (⟨o.kind, ⟨#[]⟩, o.dst, o.data⟩ : Dp) := ⟨_, rfl⟩
    rw [← ho'] at X8
    have HO' : Hid (o'.data.size ≤ 3) := by rw [ho']; exact HO.out
    clear ho' HO
    have HO := HO'
    clear HO'
    have FI : Hid (DoDraw w (.returned (.tuple #[.agg #[.slice q n c, .slice q' m c', .slice q'' r c''], .agg #[.int .i64 o'.kind, .string o'.name, .string o'.dst, .string o'.data]])) (((((set3 w8 w.heap.size (.slice q n c) (.slice q' m c') (.slice q'' r c'')).setCell ⟨w.heap.size + 1, 0, none⟩ (.int .i64 o'.kind)).setCell ⟨w.heap.size + 1, 1, none⟩ (.string o'.name)).setCell ⟨w.heap.size + 1, 2, none⟩ (.string o'.dst) |>.setCell ⟨w.heap.size + 1, 3, none⟩ (.string o'.data))).drew) := (X8.out.fin HO.out).drew
    obtain ⟨⟨⟨s0, s1, s2⟩, sf, sl⟩, ⟨⟨t0, t1, t2, t3⟩, tf, tl⟩, ⟨⟨d0, d1, d2⟩, df, dl⟩, ⟨⟨p0, p1, p2, p3⟩, pf, pl⟩⟩ := (⟨X8.out.r0, X8.out.r1, X8.out.d, X8.out.p⟩ : Box3 w8 w.heap.size (.slice none 0 0) (.slice none 0 0) (.slice none 0 0) ∧ Cel4 w8 (w.heap.size + 1) (.int .i64 0) (.string ⟨#[]⟩) (.string ⟨#[]⟩) (.string ⟨#[]⟩) ∧ Box3 w8 w2.heap.size (.slice q n c) (.slice q' m c') (.slice q'' r c'') ∧ Cel4 w8 w4.heap.size (.int .i64 o'.kind) (.string o'.name) (.string o'.dst) (.string o'.data))
    have dpx := X8.out.dp
    have hn1 : w4.heap.size ≠ w.heap.size := by omega
    have hn2 : w.heap.size ≠ w4.heap.size := by omega
    have hn3 : w2.heap.size ≠ w.heap.size + 1 := by omega
    have hn4 : w.heap.size + 1 ≠ w2.heap.size := by omega
    have hn5 : w2.heap.size ≠ w.heap.size := by omega
    have hn6 : w4.heap.size ≠ w.heap.size + 1 := by omega
    clear dpx
    go_region
    all_goals go_wp2
    all_goals refine bodyPost_ret (v := .tuple #[.agg #[.slice q n c, .slice q' m c', .slice q'' r c''], .agg #[.int .i64 o'.kind, .string o'.name, .string o'.dst, .string o'.data]]) (by simp [results, Try.results19, go_sem, s0, s1, s2, t0, t1, t2, t3]) rfl ?_
    all_goals exact FI.out
  have b1 : (k == 1) = false := by simp [h1]
  by_cases h2 : k = 2
  · subst h2
    obtain ⟨⟨p0, p1, p2, p3⟩, pf, pl⟩ := X6.out.p
    have X8 : Hid (DW w a len cap w2.heap.size w4.heap.size q n c q' m c' q'' r c'' L1 L2 L3 (⟨o.kind, o.name, ⟨#[120]⟩, o.data⟩ : Dp) (w6.setCell ⟨w4.heap.size, 2, none⟩ (.string ⟨#[120]⟩))) := X6.out.setOp 2 _ (X6.out.p.put2 _) (K2.out.1.stp (T6.out.setNew H24.out _) K2.out.2)
    clear k1 k2
    go_upto_region 18 with fail
    generalize w6.setCell ⟨w4.heap.size, 2, none⟩ (.string ⟨#[120]⟩) = w8 at *
    clear X6 p0 p1 p2 p3 pf pl
    obtain ⟨o', ho'⟩ : ∃ o' : Dp, o' = (⟨o.kind, o.name, ⟨#[120]⟩, o.data⟩ : Dp) := ⟨_, rfl⟩
    rw [← ho'] at X8
    have HO' : Hid (o'.data.size ≤ 3) := by rw [ho']; exact HO.out
    clear ho' HO
    have HO := HO'
    clear HO'
    have FI : Hid (DoDraw w (.returned (.tuple #[.agg #[.slice q n c, .slice q' m c', .slice q'' r c''], .agg #[.int .i64 o'.kind, .string o'.name, .string o'.dst, .string o'.data]])) (((((set3 w8 w.heap.size (.slice q n c) (.slice q' m c') (.slice q'' r c'')).setCell ⟨w.heap.size + 1, 0, none⟩ (.int .i64 o'.kind)).setCell ⟨w.heap.size + 1, 1, none⟩ (.string o'.name)).setCell ⟨w.heap.size + 1, 2, none⟩ (.string o'.dst) |>.setCell ⟨w.heap.size + 1, 3, none⟩ (.string o'.data))).drew) := (X8.out.fin HO.out).drew
    obtain ⟨⟨⟨s0, s1, s2⟩, sf, sl⟩, ⟨⟨t0, t1, t2, t3⟩, tf, tl⟩, ⟨⟨d0, d1, d2⟩, df, dl⟩, ⟨⟨p0, p1, p2, p3⟩, pf, pl⟩⟩ := (⟨X8.out.r0, X8.out.r1, X8.out.d, X8.out.p⟩ : Box3 w8 w.heap.size (.slice none 0 0) (.slice none 0 0) (.slice none 0 0) ∧ Cel4 w8 (w.heap.size + 1) (.int .i64 0) (.string ⟨#[]⟩) (.string ⟨#[]⟩) (.string ⟨#[]⟩) ∧ Box3 w8 w2.heap.size (.slice q n c) (.slice q' m c') (.slice q'' r c'') ∧ Cel4 w8 w4.heap.size (.int .i64 o'.kind) (.string o'.name) (.string o'.dst) (.string o'.data))
    have dpx := X8.out.dp
    have hn1 : w4.heap.size ≠ w.heap.size := by omega
    have hn2 : w.heap.size ≠ w4.heap.size := by omega
    have hn3 : w2.heap.size ≠ w.heap.size + 1 := by omega
    have hn4 : w.heap.size + 1 ≠ w2.heap.size := by omega
    have hn5 : w2.heap.size ≠ w.heap.size := by omega
    have hn6 : w4.heap.size ≠ w.heap.size + 1 := by omega
    clear dpx
    go_region
    all_goals go_wp2
    all_goals refine bodyPost_ret (v := .tuple #[.agg #[.slice q n c, .slice q' m c', .slice q'' r c''], .agg #[.int .i64 o'.kind, .string o'.name, .string o'.dst, .string o'.data]]) (by simp [results, Try.results19, go_sem, s0, s1, s2, t0, t1, t2, t3]) rfl ?_
    all_goals exact FI.out
  have b2 : (k == 2) = false := by simp [h2]
  by_cases h3 : k = 3
  rotate_left
  · have b3 : (k == 3) = false := by simp [h3]
    clear h0 h1 h2 h3 k1 k2
    go_upto_region 18 with fail
    have FI : Hid (DoDraw w (.returned (.tuple #[.agg #[.slice q n c, .slice q' m c', .slice q'' r c''], .agg #[.int .i64 o.kind, .string o.name, .string o.dst, .string o.data]])) (((((set3 w6 w.heap.size (.slice q n c) (.slice q' m c') (.slice q'' r c'')).setCell ⟨w.heap.size + 1, 0, none⟩ (.int .i64 o.kind)).setCell ⟨w.heap.size + 1, 1, none⟩ (.string o.name)).setCell ⟨w.heap.size + 1, 2, none⟩ (.string o.dst) |>.setCell ⟨w.heap.size + 1, 3, none⟩ (.string o.data))).drew) := (X6.out.fin HO.out).drew
    obtain ⟨⟨⟨s0, s1, s2⟩, sf, sl⟩, ⟨⟨t0, t1, t2, t3⟩, tf, tl⟩, ⟨⟨d0, d1, d2⟩, df, dl⟩, ⟨⟨p0, p1, p2, p3⟩, pf, pl⟩⟩ := (⟨X6.out.r0, X6.out.r1, X6.out.d, X6.out.p⟩ : Box3 w6 w.heap.size (.slice none 0 0) (.slice none 0 0) (.slice none 0 0) ∧ Cel4 w6 (w.heap.size + 1) (.int .i64 0) (.string ⟨#[]⟩) (.string ⟨#[]⟩) (.string ⟨#[]⟩) ∧ Box3 w6 w2.heap.size (.slice q n c) (.slice q' m c') (.slice q'' r c'') ∧ Cel4 w6 w4.heap.size (.int .i64 o.kind) (.string o.name) (.string o.dst) (.string o.data))
    have dpx := X6.out.dp
    have hn1 : w4.heap.size ≠ w.heap.size := by omega
    have hn2 : w.heap.size ≠ w4.heap.size := by omega
    have hn3 : w2.heap.size ≠ w.heap.size + 1 := by omega
    have hn4 : w.heap.size + 1 ≠ w2.heap.size := by omega
    have hn5 : w2.heap.size ≠ w.heap.size := by omega
    have hn6 : w4.heap.size ≠ w.heap.size + 1 := by omega
    clear dpx
    go_region
    all_goals go_wp2
    all_goals refine bodyPost_ret (v := .tuple #[.agg #[.slice q n c, .slice q' m c', .slice q'' r c''], .agg #[.int .i64 o.kind, .string o.name, .string o.dst, .string o.data]]) (by simp [results, Try.results19, go_sem, s0, s1, s2, t0, t1, t2, t3]) rfl ?_
    all_goals exact FI.out
  subst h3
  clear h0 h1 h2 k1 k2 b0 b1 b2
  clear K2 T6 H24
  go_wp2
  go_loopw [7] (fun i wr => ∃ (j : Nat) (q : Option Addr) (n c : Nat) (q' : Option Addr) (m c' : Nat) (q'' : Option Addr) (r c'' : Nat) (L1 L2 : List Fl) (L3 : List Dp), j ≤ 200 ∧ i = .int .i64 j ∧ Hid (DW w a len cap w2.heap.size w4.heap.size q n c q' m c' q'' r c'' L1 L2 L3 o wr)) (fun i _ => 200 - (intOf i).toNat)
  case atStart => exact ⟨0, _, _, _, _, _, _, _, _, _, _, _, _, Nat.zero_le _, rfl, X6⟩
  case round =>
    clear X6
    obtain ⟨j, q, n, c, q', m, c', q'', r, c'', L1, L2, L3, hj, rfl, X⟩ := hrel
    have XD : Hid (DW w a len cap w2.heap.size w4.heap.size q n c q' m c' q'' r c'' L1 L2 L3 o wr.drew) := X.out.kept ((Below.refl _ _).drew)
    have RB : Hid (Calls Try.prog 56 #[.pointer (some ⟨w.heap.size + 1 + 1, 0, none⟩), .int .i64 2] wr.drew fun e w' => ∃ v : Int, e = .returned (.int .i64 v) ∧ 0 ≤ v ∧ v < 2 ∧ DW w a len cap w2.heap.size w4.heap.size q n c q' m c' q'' r c'' L1 L2 L3 o w') := (rd_below _ a len cap 2 _ XD.out.rd (by omega) (by omega)).mono (by rintro e w' ⟨v, h1, h2, h3, h4, h5⟩; exact ⟨v, h1, h2, h3, XD.out.step h4 h5⟩)
    have lr : r ≤ 1048576 := X.out.dk.lens.2.2.2.1
    obtain ⟨⟨d0, d1, d2⟩, df, dl⟩ := XD.out.d
    go_wp2_with fail
    go_cut [41] (fun s wx => ∃ b, s = .bool b ∧ (b = true → j < 200) ∧ Hid (DW w a len cap w2.heap.size w4.heap.size q n c q' m c' q'' r c'' L1 L2 L3 o wx))
    case first =>
      by_cases hlt : j < 200
      · have hlt' : (j : Int) < 200 := by omega
        go_region_with (go_at_call 56; refine RB.out.mono ?_; rintro e u1 ⟨v, rfl, v1, v2, X1⟩; have XX : Hid _ := X1; obtain ⟨⟨e0, e1, e2⟩, ef, el⟩ := X1.d; clear X1)
        all_goals go_wp2_with fail
        all_goals go_meet
        all_goals exact ⟨_, rfl, fun _ => hlt, XX⟩
      · have hlt' : (200 : Int) ≤ (j : Int) := by omega
        have hlt2 : decide ((j : Int) < 200) = false := decide_eq_false (by omega)
        go_region
        all_goals go_wp2_with fail
        all_goals go_meet
        all_goals exact ⟨false, rfl, fun h => (by cases h), XD⟩
    case rest =>
      obtain ⟨b, rfl, hbj, X1⟩ := hcut
      obtain ⟨w7, hw7⟩ : ∃ w7, w7 = wc := ⟨_, rfl⟩
      subst hw7
      clear X XD RB d0 d1 d2 df dl lr
      cases b with
      | false =>
        clear hbj hj
        go_upto_region 18 with fail
        have FI : Hid (DoDraw w (.returned (.tuple #[.agg #[.slice q n c, .slice q' m c', .slice q'' r c''], .agg #[.int .i64 o.kind, .string o.name, .string o.dst, .string o.data]])) (((((set3 w7 w.heap.size (.slice q n c) (.slice q' m c') (.slice q'' r c'')).setCell ⟨w.heap.size + 1, 0, none⟩ (.int .i64 o.kind)).setCell ⟨w.heap.size + 1, 1, none⟩ (.string o.name)).setCell ⟨w.heap.size + 1, 2, none⟩ (.string o.dst) |>.setCell ⟨w.heap.size + 1, 3, none⟩ (.string o.data))).drew) := (X1.out.fin HO.out).drew
        obtain ⟨⟨⟨s0, s1, s2⟩, sf, sl⟩, ⟨⟨t0, t1, t2, t3⟩, tf, tl⟩, ⟨⟨d0, d1, d2⟩, df, dl⟩, ⟨⟨p0, p1, p2, p3⟩, pf, pl⟩⟩ := (⟨X1.out.r0, X1.out.r1, X1.out.d, X1.out.p⟩ : Box3 w7 w.heap.size (.slice none 0 0) (.slice none 0 0) (.slice none 0 0) ∧ Cel4 w7 (w.heap.size + 1) (.int .i64 0) (.string ⟨#[]⟩) (.string ⟨#[]⟩) (.string ⟨#[]⟩) ∧ Box3 w7 w2.heap.size (.slice q n c) (.slice q' m c') (.slice q'' r c'') ∧ Cel4 w7 w4.heap.size (.int .i64 o.kind) (.string o.name) (.string o.dst) (.string o.data))
        have dpx := X1.out.dp
        have hn1 : w4.heap.size ≠ w.heap.size := by omega
        have hn2 : w.heap.size ≠ w4.heap.size := by omega
        have hn3 : w2.heap.size ≠ w.heap.size + 1 := by omega
        have hn4 : w.heap.size + 1 ≠ w2.heap.size := by omega
        have hn5 : w2.heap.size ≠ w.heap.size := by omega
        have hn6 : w4.heap.size ≠ w.heap.size + 1 := by omega
        clear dpx
        go_region
        all_goals go_wp2
        all_goals refine bodyPost_ret (v := .tuple #[.agg #[.slice q n c, .slice q' m c', .slice q'' r c''], .agg #[.int .i64 o.kind, .string o.name, .string o.dst, .string o.data]]) (by simp [results, Try.results19, go_sem, s0, s1, s2, t0, t1, t2, t3]) rfl ?_
        all_goals exact FI.out
      | true =>
        have hlt : j < 200 := hbj rfl
        clear hbj
        obtain ⟨⟨d0, d1, d2⟩, df, dl⟩ := X1.out.d
        go_wp2_with fail
        refine (specDoL c c' c'' X1.out.dk (⟨1, ⟨#[98]⟩, ⟨#[]⟩, ⟨#[]⟩⟩ : Dp) (by show (⟨#[]⟩ : ByteArray).size ≤ 1048576; decide)).mono ?_
        rintro e w8 ⟨p1, m1, k1, p2, m2, k2, p3, m3, k3, rfl, O8, B8⟩
        obtain ⟨V8, hV8, X8, Y8, OV⟩ : ∃ V8, V8 = w8.alloc (.cells #[.slice p1 m1 k1, .slice p2 m2 k2, .slice p3 m3 k3] 27) ∧ Hid (DW w a len cap w2.heap.size w4.heap.size q n c q' m c' q'' r c'' L1 L2 L3 o V8) ∧ Hid (Box3 V8 w8.heap.size (.slice p1 m1 k1) (.slice p2 m2 k2) (.slice p3 m3 k3)) ∧ Hid (Below w7.heap.size w7 V8 ∧ Own3 V8 w7.heap.size (.slice p1 m1 k1) (.slice p2 m2 k2) (.slice p3 m3 k3) (doLv L1 L2 L3 (⟨1, ⟨#[98]⟩, ⟨#[]⟩, ⟨#[]⟩⟩ : Dp)) (doSf L1 L2 L3 (⟨1, ⟨#[98]⟩, ⟨#[]⟩, ⟨#[]⟩⟩ : Dp)) (doOs L1 L2 L3 (⟨1, ⟨#[98]⟩, ⟨#[]⟩, ⟨#[]⟩⟩ : Dp))) := by
          have b8 : Below w8.heap.size w8 (w8.alloc (.cells #[.slice p1 m1 k1, .slice p2 m2 k2, .slice p3 m3 k3] 27)) := (Below.refl _ _).alloc (Nat.le_refl _) _
          exact ⟨_, rfl, (X1.out.kept B8).kept b8, Box3.new w8 _ _ _ 27, B8.trans (b8.mono B8.size), O8.kept b8⟩
        have HV8 : Hid (V8 = _) := hV8
        clear hV8 O8 B8 d0 d1 d2 df dl
        by_cases hc : doC L1 L2 L3 (⟨1, ⟨#[98]⟩, ⟨#[]⟩, ⟨#[]⟩⟩ : Dp) = 0
        · have NX : Hid (DW w a len cap w2.heap.size w4.heap.size p1 m1 k1 p2 m2 k2 p3 m3 k3 (doLv L1 L2 L3 (⟨1, ⟨#[98]⟩, ⟨#[]⟩, ⟨#[]⟩⟩ : Dp)) (doSf L1 L2 L3 (⟨1, ⟨#[98]⟩, ⟨#[]⟩, ⟨#[]⟩⟩ : Dp)) (doOs L1 L2 L3 (⟨1, ⟨#[98]⟩, ⟨#[]⟩, ⟨#[]⟩⟩ : Dp)) o (set3 V8 w2.heap.size (.slice p1 m1 k1) (.slice p2 m2 k2) (.slice p3 m3 k3))) := X1.out.next OV.out.1 OV.out.2 (Nat.le_refl _) (do_next X1.out.dk hc (by show (⟨#[]⟩ : ByteArray).size ≤ 1048576; decide) OV.out.2)
          have hc' : (doC L1 L2 L3 (⟨1, ⟨#[98]⟩, ⟨#[]⟩, ⟨#[]⟩⟩ : Dp) == 0) = true := by simp [hc]
          clear hc OV X1
          generalize doC L1 L2 L3 (⟨1, ⟨#[98]⟩, ⟨#[]⟩, ⟨#[]⟩⟩ : Dp) = kc at *
          go_upto_region 17 with fail
          rw [← HV8.out]
          obtain ⟨⟨d0, d1, d2⟩, df, dl⟩ := X8.out.d
          obtain ⟨⟨y0, y1, y2⟩, _, _⟩ := Y8.out
          clear HV8 X8 Y8
          go_wp2
          go_roundw
          case rel => exact ⟨j + 1, _, _, _, _, _, _, _, _, _, _, _, _, by omega, by go_num, NX⟩
          case measure => simp [intOf]; omega
        · have hc' : (doC L1 L2 L3 (⟨1, ⟨#[98]⟩, ⟨#[]⟩, ⟨#[]⟩⟩ : Dp) == 0) = false := by simp [hc]
          clear hc OV X1 Y8
          generalize doC L1 L2 L3 (⟨1, ⟨#[98]⟩, ⟨#[]⟩, ⟨#[]⟩⟩ : Dp) = kc at *
          go_wp2
          rw [← HV8.out]
          go_roundw
          case rel => exact ⟨j + 1, _, _, _, _, _, _, _, _, _, _, _, _, by omega, by go_num, X8⟩
          case measure => simp [intOf]; omega
end Go.Proofs.Ytcalgmhpagpnnaa
