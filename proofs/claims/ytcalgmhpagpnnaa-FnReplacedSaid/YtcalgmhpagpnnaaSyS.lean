/- Sync of the specification. Conditions: the disk's lists lie in memory, at most 1048576 of each, of at most 1048576 bytes. -/
import Derived.Test.YtcalgmhpagpnnaaCpf
import Derived.Test.YtcalgmhpagpnnaaSpZ
import Derived.Deep.RegionHeld3
import Derived.Maps.AppendAt
namespace Go.Proofs.Ytcalgmhpagpnnaa
open Go.RowKit
set_option maxRecDepth 8000

/-- A disk that is an answer. -/
def DkAns (w : World) (L1 L2 : List Fl) (L3 : List Dp) (v : Value) (w' : World) : Prop :=
  ∃ a1 c1 a2 c2 a3 c3, v = .agg #[.slice a1 L1.length c1, .slice a2 L2.length c2, .slice a3 L3.length c3] ∧ Own3 w' w.heap.size (.slice a1 L1.length c1) (.slice a2 L2.length c2) (.slice a3 L3.length c3) L1 L2 L3 ∧ Below w.heap.size w w'
theorem FlL.emptyAt {V : World} {B p : Nat} (hB : B ≤ p) (h : V.heap[p]? = some (.cells #[] 75)) : FlL V B (.slice (some ⟨p, 0, none⟩) 0 0) [] :=
  ⟨rfl, Or.inr ⟨p, 0, #[], rfl, hB, h, Nat.le_refl _, Nat.zero_le _, rfl, rfl⟩⟩
theorem DpL.emptyAt {V : World} {B p : Nat} (hB : B ≤ p) (h : V.heap[p]? = some (.cells #[] 36)) : DpL V B (.slice (some ⟨p, 0, none⟩) 0 0) [] :=
  ⟨rfl, Or.inr ⟨p, 0, #[], rfl, hB, h, Nat.le_refl _, Nat.zero_le _, rfl, rfl⟩⟩
theorem new_at (w : World) (o : Obj) : (w.alloc o).heap[w.heap.size]? = some o := (MapKept.heap_alloc w o).1

/-- append of files at its place in a region that draws its order. -/
theorem step_appendFl {w : World} {ops : Array Oper} {o : Oper} {a : Act} {K : Act → World → Prop} {Q : Exit → Act → World → Prop} {E : Prop} (hgd : o.guard = none) (s x : Operand)
    (ho : o.op = .call { callee := .builtin .append, args := #[s, x], argTypes := #[24, 24] }) {B p : Nat} (hs : a.eval s = .slice (some ⟨p, 0, none⟩) 0 0) (hB : B ≤ p) (hp : w.heap[p]? = some (.cells #[] 75)) (hBw : B ≤ w.heap.size)
    {q : Addr} {n c : Nat} {F : Nat → Fl} (hx : a.eval x = .slice (some q) n c) (hF : Fls w (some q) n F)
    (h : ∀ va vc w', FlL w' B (.slice va n vc) (lst F n) → w.grownBy w' (some p) → ((Value.slice va n vc).ownBlock = some p ∨ ∀ g, (Value.slice va n vc).ownBlock = some g → w.heap.size ≤ g) → K (a.put o.dst (.slice va n vc)) w') :
    if Region.wanted o (yielded ops a.tmps) = true then Oper.wp Try.prog o a w K Q else E := by
  have hw : Region.wanted o (yielded ops a.tmps) = true := by simp [Region.wanted, hgd]
  rw [if_pos hw]
  obtain ⟨i0, hi, hz0, hz1, hz2⟩ := info_parts infoFl
  have hn := hF.1
  obtain ⟨v', w', hr, h2, h3, _, h5⟩ := run_append_own_at (P := Try.prog) w B 24 o.type 75 i0 _ 2 32 Try.underlying24 hi hz0 hz1 hz2 rfl (by decide) _ 0 [] (FlL.emptyAt hB hp) q n c ((lst F n).flatMap FlC) (by rw [flatFl_len, lst_len]) hF.news (Fls.ones _) (by unfold maxLen; omega) (by omega) hBw
  have A : FlL w' B v' (lst F n) := by
    unfold FlL
    rw [lst_len]
    simpa using h2
  obtain ⟨va, vc, hv, _, _⟩ := A.shape
  rw [lst_len] at hv
  subst hv
  unfold Oper.wp execOp
  simp only [ho, resolve, invoke, builtin, Sem.run_bind, Sem.run_pure, Result.andThen_ok, List.map_toArray, List.map_cons, List.map_nil, hs, hx, hr]
  refine h va vc w' A h3 ?_
  rcases h5 with h5 | h5
  · exact Or.inl h5
  · exact Or.inr fun g hg => by rw [h5] at hg; cases hg; exact Nat.le_refl _

theorem atA1 (w : World) (o : Obj) : (w.alloc o).drew.heap[w.heap.size]? = some o := new_at w o
theorem atA2 (w : World) (o o' : Obj) : ((w.alloc o).alloc o').drew.heap[w.heap.size]? = some o := (Below.heap_alloc _ o' _ (by simp)).trans (new_at w o)
theorem atA3 (w : World) (o o' : Obj) : ((w.alloc o).alloc o').drew.heap[w.heap.size + 1]? = some o' := by
  have := new_at (w.alloc o) o'
  rwa [World.size_alloc] at this
theorem keepA {w : World} {p : Addr} {x : Value} (h : w.cell? p = some x) (hp : p.block < w.heap.size) (o : Obj) : (w.alloc o).drew.cell? p = some x := (World.cell?_alloc_lt _ _ _ hp).trans h
theorem keepAA {w : World} {p : Addr} {x : Value} (h : w.cell? p = some x) (hp : p.block < w.heap.size) (o o' : Obj) : ((w.alloc o).alloc o').drew.cell? p = some x := (World.cell?_alloc_lt _ _ _ (by simp; omega)).trans ((World.cell?_alloc_lt _ _ _ hp).trans h)
theorem keepB {w : World} {p : Addr} {x : Value} (h : w.cell? p = some x) (hp : p.block < w.heap.size) (o : Obj) : (w.alloc o).cell? p = some x := (World.cell?_alloc_lt _ _ _ hp).trans h
theorem keepG {w w' : World} {g : Nat} {o : Nat} {x : Value} {row : Option Nat} (h : w.cell? ⟨g, o, none⟩ = some x) (hg : w.grownBy w' row) (hlt : g < w.heap.size) (hne : some g ≠ row) : w'.cell? ⟨g, o, none⟩ = some x :=
  (World.cell?_of_block (w := w) (a := ⟨g, o, none⟩) (hg.block g hlt hne)).trans h
theorem keepS {w : World} {h Q : Nat} {x : Value} (hs : w.cell? ⟨h, 0, none⟩ = some x) (hne : Q ≠ h) (a b c : Value) : (((w.setCell ⟨Q, 0, none⟩ a).setCell ⟨Q, 1, none⟩ b).setCell ⟨Q, 2, none⟩ c).cell? ⟨h, 0, none⟩ = some x := by
  have o : ∀ (v : World) (j : Nat) (u : Value), (v.setCell ⟨Q, j, none⟩ u).cell? ⟨h, 0, none⟩ = v.cell? ⟨h, 0, none⟩ := fun v j u => World.cell?_setCell_other _ _ _ _ (by intro e; exact hne (congrArg Addr.block e))
  rw [o, o, o]
  exact hs
theorem belA {B : Nat} {w w1 : World} (h : Below B w w1) (hB : B ≤ w1.heap.size) (o : Obj) : Below B w (w1.alloc o).drew := (h.alloc hB o).drew
theorem belAA {B : Nat} {w w1 : World} (h : Below B w w1) (hB : B ≤ w1.heap.size) (o o' : Obj) : Below B w ((w1.alloc o).alloc o').drew := ((h.alloc hB o).alloc (by simp; omega) o').drew
theorem Box3.grown {w w' : World} {R : Nat} {v0 v1 v2 : Value} {row : Option Nat} (h : Box3 w R v0 v1 v2) (hg : w.grownBy w' row) (hne : some R ≠ row) : Box3 w' R v0 v1 v2 := by
  have hb := hg.block R h.2.2 hne
  obtain ⟨⟨h0, h1, h2⟩, hf, hz⟩ := h
  exact ⟨⟨(World.cell?_of_block (w := w) (a := ⟨R, 0, none⟩) hb).trans h0, (World.cell?_of_block (w := w) (a := ⟨R, 1, none⟩) hb).trans h1, (World.cell?_of_block (w := w) (a := ⟨R, 2, none⟩) hb).trans h2⟩, fun o => (World.frozen?_of_block (w := w) (a := ⟨R, o, none⟩) hb).trans (hf o), Nat.lt_of_lt_of_le hz hg.size⟩
theorem boxA {w : World} {R : Nat} {v0 v1 v2 : Value} (h : Box3 w R v0 v1 v2) (o : Obj) : Box3 (w.alloc o).drew R v0 v1 v2 := h.kept (w' := (w.alloc o).drew) (((Below.refl _ _).alloc (Nat.le_refl _) o).drew) h.2.2
theorem sizeA1 (w : World) (o : Obj) : w.heap.size ≤ (w.alloc o).drew.heap.size := by show _ ≤ (w.alloc o).heap.size; simp
theorem sizeA2 (w : World) (o o' : Obj) : w.heap.size ≤ ((w.alloc o).alloc o').drew.heap.size := by show _ ≤ ((w.alloc o).alloc o').heap.size; simp; omega
theorem boxB {w : World} {R : Nat} {v0 v1 v2 : Value} (h : Box3 w R v0 v1 v2) (o : Obj) : Box3 (w.alloc o) R v0 v1 v2 := h.kept ((Below.refl _ _).alloc (Nat.le_refl _) o) h.2.2
theorem boxAA {w : World} {R : Nat} {v0 v1 v2 : Value} (h : Box3 w R v0 v1 v2) (o o' : Obj) : Box3 ((w.alloc o).alloc o').drew R v0 v1 v2 := h.kept (w' := ((w.alloc o).alloc o').drew) ((((Below.refl _ _).alloc (Nat.le_refl _) o).alloc (by simp) o').drew) h.2.2

theorem syncAns {w u : World} {B : Nat} {a1 a2 : Option Addr} {n c1 c2 : Nat} {L : List Fl} (h1 : FlL u B (.slice a1 n c1) L) (h2 : FlL u B (.slice a2 n c2) L) (hne : ∀ g, (Value.slice a1 n c1).ownBlock = some g → (Value.slice a2 n c2).ownBlock ≠ some g) (hb : Below w.heap.size w u) (hB : w.heap.size + 1 < B) (hl : L.length = n) :
    DkAns w L L [] (.agg #[.slice a1 n c1, .slice a2 n c2, .slice none 0 0]) (((u.setCell ⟨w.heap.size + 1, 0, none⟩ (.slice a1 n c1)).setCell ⟨w.heap.size + 1, 1, none⟩ (.slice a2 n c2)).setCell ⟨w.heap.size + 1, 2, none⟩ (.slice none 0 0)) := by
  subst hl
  have k1 : (Value.slice a1 L.length c1).ownBlock ≠ some (w.heap.size + 1) := fun e => by have := h1.lt _ e; omega
  have k2 : (Value.slice a2 L.length c2).ownBlock ≠ some (w.heap.size + 1) := fun e => by have := h2.lt _ e; omega
  refine ⟨a1, c1, a2, c2, none, 0, rfl, ⟨?_, ?_, DpL.nil _ _, hne⟩, ?_⟩
  · exact ((((h1.mono (by omega)).far k1 _ _).far k1 _ _).far k1 _ _)
  · exact ((((h2.mono (by omega)).far k2 _ _).far k2 _ _).far k2 _ _)
  · exact below_far (below_far (below_far hb (by omega) _ _) (by omega) _ _) (by omega) _ _
/-- Two copies, one behind the other: the first is as it was, in another row than the second. -/
theorem fin2 {B p7 p11 : Nat} {U0 u1 U1 u2 : World} {v1 v2 : Value} {L : List Fl} (A1 : FlL u1 B v1 L) (L1 : v1.ownBlock = some p7 ∨ ∀ g, v1.ownBlock = some g → U0.heap.size ≤ g) (G2 : U1.grownBy u2 (some p11)) (L2 : v2.ownBlock = some p11 ∨ ∀ g, v2.ownBlock = some g → U1.heap.size ≤ g)
    (hp : (p11 ≠ p7 ∧ p11 < U0.heap.size) ∨ u1.heap.size ≤ p11) (hU : Below u1.heap.size u1 U1) : FlL u2 B v1 L ∧ ∀ g, v1.ownBlock = some g → v2.ownBlock ≠ some g := by
  have n1 : v1.ownBlock ≠ some p11 := fun e => by
    rcases hp with ⟨h1, h2⟩ | h1
    · rcases L1 with k | k
      · rw [k] at e; exact h1 (Option.some.inj e).symm
      · have := k _ e; omega
    · have := (World.ownsRow.lt A1 _ e).2; omega
  refine ⟨(A1.kept hU).grown G2 (Or.inr n1), fun g h1 h2 => ?_⟩
  rcases L2 with k | k
  · rw [k] at h2
    cases h2
    exact n1 h1
  · have h3 := k _ h2
    have h4 := (World.ownsRow.lt A1 _ h1).2
    have := hU.size
    omega

set_option maxHeartbeats 2000000 in
theorem specSync_some (q : Addr) (b d : Option Addr) (n m r c c' c'' : Nat) (F G : Nat → Fl) (O : Nat → Dp) (w : World) (h : Dk w (some q) n F b m G d r O) (hx : diskB (lst F n) (lst G m) (lst O r) = true) :
    Calls Try.prog 33 #[.agg #[.slice (some q) n c, .slice b m c', .slice d r c'']] w fun e w' => ∃ v, e = .returned v ∧ DkAns w (lst F n) (lst F n) [] v w' := by
  have H : Hid (Dk w (some q) n F b m G d r O) := h
  have HX : Hid (diskB (lst F n) (lst G m) (lst O r) = true) := hx
  have hn := h.live.1
  clear h hx
  obtain ⟨W0, hW0, xb, yb, xB⟩ : ∃ W0, W0 = (w.alloc (.cells #[.slice (some q) n c, .slice b m c', .slice d r c''] 27)).alloc (.cells #[.slice none 0 0, .slice none 0 0, .slice none 0 0] 27) ∧ Box3 W0 w.heap.size (.slice (some q) n c) (.slice b m c') (.slice d r c'') ∧ Box3 W0 (w.heap.size + 1) (.slice none 0 0) (.slice none 0 0) (.slice none 0 0) ∧ Below w.heap.size w W0 := by
    refine ⟨_, rfl, (Box3.new w _ _ _ 27).kept ((Below.refl _ _).alloc (Nat.le_refl _) _) (by simp), ?_, ((Below.refl _ _).alloc (Nat.le_refl _) _).alloc (by simp) _⟩
    have := Box3.new (w.alloc (.cells #[.slice (some q) n c, .slice b m c', .slice d r c''] 27)) (.slice none 0 0) (.slice none 0 0) (.slice none 0 0) 27
    rwa [World.size_alloc] at this
  have HW0 : Hid (W0 = _) := hW0
  have X0 : Hid (Box3 W0 w.heap.size (.slice (some q) n c) (.slice b m c') (.slice d r c'') ∧ Box3 W0 (w.heap.size + 1) (.slice none 0 0) (.slice none 0 0) (.slice none 0 0) ∧ Below w.heap.size w W0) := ⟨xb, yb, xB⟩
  clear hW0 xb yb xB
  go_enter Try.func33, Try.ntmps33
  go_wp2_with fail
  rw [← HW0.out]
  refine (specDisk _ b d n m r c c' c'' F G O _ (H.out.below X0.out.2.2)).mono ?_
  rintro e w1 ⟨rfl, D1⟩
  rw [HX.out]
  have X1 : Hid (Box3 w1 w.heap.size (.slice (some q) n c) (.slice b m c') (.slice d r c'') ∧ Box3 w1 (w.heap.size + 1) (.slice none 0 0) (.slice none 0 0) (.slice none 0 0) ∧ Below w.heap.size w w1) := ⟨X0.out.1.kept D1 X0.out.1.2.2, X0.out.2.1.kept D1 X0.out.2.1.2.2, X0.out.2.2.trans (D1.mono X0.out.2.2.size)⟩
  clear D1 X0 HW0
  obtain ⟨⟨⟨s0, s1, s2⟩, _, sl⟩, ⟨⟨o0, o1, o2⟩, of, ol⟩, _⟩ := X1.out
  have LV : Hid (∀ V, Below w.heap.size w V → Fls V (some q) n F) := fun V hV => H.out.live.below hV
  have x0 : w1.drew.cell? ⟨w.heap.size, 0, none⟩ = some (.slice (some q) n c) := s0
  go_wp2
  have hs1 : w.heap.size ≤ w1.heap.size := Nat.le_of_lt sl
  have BW : Hid (Below w.heap.size w w1) := X1.out.2.2
  have RB : Hid (Box3 w1 (w.heap.size + 1) (.slice none 0 0) (.slice none 0 0) (.slice none 0 0)) := X1.out.2.1
  go_region_held3 (fun V => V.cell? ⟨w.heap.size, 0, none⟩ = some (.slice (some q) n c)) (first | with_reducible exact x0 | with_reducible exact keepA s0 sl _ | with_reducible exact keepAA s0 sl _ _ | with_reducible exact k1 | with_reducible exact keepB k1 kl1 _ | with_reducible exact k2 | with_reducible exact keepS k2 (by omega) _ _ _) (first | (refine step_appendFl (by rfl) _ _ (by rfl) (by rfl) (B := w1.heap.size) (by omega) (by first | with_reducible exact new_at _ _ | with_reducible exact (G1.block _ (by first | (simp; done) | (simp; omega)) (by first | (simp; done) | (simp; omega))).trans (atA3 _ _ _) | with_reducible exact (G1.block _ (by first | omega | (simp; done) | (simp; omega)) (by first | (simp; done) | (simp; omega))).trans (atA2 _ _ _)) (by first | omega | (simp; done) | (simp; omega)) (by rfl) (LV.out _ (by first | with_reducible exact b1 | with_reducible exact b1.alloc (by omega) _)) ?_; intro va2 vc2 u2 A2 G2 L2; have k2 : u2.cell? ⟨w.heap.size, 0, none⟩ = some (.slice (some q) n c) := keepG (by first | with_reducible exact k1 | with_reducible exact keepB k1 kl1 _) G2 (by first | omega | (simp; done) | (simp; omega)) (by first | omega | (simp; done) | (simp; omega)); have rb2 : Box3 u2 (w.heap.size + 1) (.slice none 0 0) (.slice none 0 0) (.slice none 0 0) := Box3.grown (by first | with_reducible exact rb1 | with_reducible exact boxB rb1 _) G2 (by first | omega | (simp; done) | (simp; omega)); obtain ⟨⟨p0, p1, p2⟩, pf, pz⟩ := rb2; have FI : Hid ((FlL u2 w1.heap.size (.slice va1 n vc1) (lst F n) ∧ ∀ g, (Value.slice va1 n vc1).ownBlock = some g → (Value.slice va2 n vc2).ownBlock ≠ some g) ∧ FlL u2 w1.heap.size (.slice va2 n vc2) (lst F n) ∧ Below w.heap.size w u2) := ⟨fin2 A1 L1 G2 L2 (by first | (refine Or.inl ⟨by omega, ?_⟩; first | (simp; done) | (simp; omega)) | with_reducible exact Or.inr (Nat.le_refl _)) (by first | with_reducible exact Below.refl _ _ | with_reducible exact (Below.refl _ _).alloc (Nat.le_refl _) _), A2, Below.grown (by first | with_reducible exact b1 | with_reducible exact b1.alloc (by omega) _) G2 (by first | omega | (simp; done) | (simp; omega)) (fun k hk => by cases hk; omega)⟩; clear A1 A2 G1 G2 L1 L2 b1) | (refine step_appendFl (by rfl) _ _ (by rfl) (by rfl) (B := w1.heap.size) (by omega) (by first | with_reducible exact atA1 _ _ | with_reducible exact atA2 _ _ _ | with_reducible exact atA3 _ _ _) (by first | omega | (simp; done) | (simp; omega)) (by rfl) (LV.out _ (by first | with_reducible exact belA BW.out hs1 _ | with_reducible exact belAA BW.out hs1 _ _)) ?_; intro va1 vc1 u1 A1 G1 L1; have k1 : u1.cell? ⟨w.heap.size, 0, none⟩ = some (.slice (some q) n c) := keepG (by first | with_reducible exact keepA s0 sl _ | with_reducible exact keepAA s0 sl _ _) G1 (by first | omega | (simp; done) | (simp; omega)) (by first | omega | (simp; done) | (simp; omega)); have kw1 : w1.heap.size ≤ u1.heap.size := Nat.le_trans (by first | with_reducible exact sizeA1 _ _ | with_reducible exact sizeA2 _ _ _) G1.size; have kl1 : w.heap.size < u1.heap.size := Nat.lt_of_lt_of_le (by first | omega | (simp; done) | (simp; omega)) G1.size; have b1 : Below w.heap.size w u1 := Below.grown (by first | with_reducible exact belA BW.out hs1 _ | with_reducible exact belAA BW.out hs1 _ _) G1 (by first | omega | (simp; done) | (simp; omega)) (fun k hk => by cases hk; omega); have rb1 : Box3 u1 (w.heap.size + 1) (.slice none 0 0) (.slice none 0 0) (.slice none 0 0) := Box3.grown (by first | with_reducible exact boxA RB.out _ | with_reducible exact boxAA RB.out _ _) G1 (by first | omega | (simp; done) | (simp; omega)); have kr1 : w.heap.size + 1 < u1.heap.size := rb1.2.2))
  all_goals go_wp2
  all_goals refine bodyPost_ret (v := .agg #[.slice va1 n vc1, .slice va2 n vc2, .slice none 0 0]) (by simp [results, Try.results33, go_sem, p0, p1, p2]) rfl ⟨_, rfl, syncAns FI.out.1.1 FI.out.2.1 FI.out.1.2 FI.out.2.2 ol (lst_len F n)⟩
theorem noAns {w u : World} (hb : Below w.heap.size w u) : DkAns w [] [] [] (.agg #[.slice none 0 0, .slice none 0 0, .slice none 0 0]) (((u.setCell ⟨w.heap.size + 1, 0, none⟩ (.slice none 0 0)).setCell ⟨w.heap.size + 1, 1, none⟩ (.slice none 0 0)).setCell ⟨w.heap.size + 1, 2, none⟩ (.slice none 0 0)) :=
  ⟨none, 0, none, 0, none, 0, rfl, ⟨FlL.nil _ _, FlL.nil _ _, DpL.nil _ _, fun g h => by cases h⟩, below_far (below_far (below_far hb (by omega) _ _) (by omega) _ _) (by omega) _ _⟩
set_option maxHeartbeats 2000000 in
theorem specSync_no (q : Addr) (b d : Option Addr) (n m r c c' c'' : Nat) (F G : Nat → Fl) (O : Nat → Dp) (w : World) (h : Dk w (some q) n F b m G d r O) (hx : diskB (lst F n) (lst G m) (lst O r) = false) :
    Calls Try.prog 33 #[.agg #[.slice (some q) n c, .slice b m c', .slice d r c'']] w fun e w' => ∃ v, e = .returned v ∧ DkAns w [] [] [] v w' := by
  have H : Hid (Dk w (some q) n F b m G d r O) := h
  have HX : Hid (diskB (lst F n) (lst G m) (lst O r) = false) := hx
  have hn := h.live.1
  clear h hx
  obtain ⟨W0, hW0, xb, yb, xB⟩ : ∃ W0, W0 = (w.alloc (.cells #[.slice (some q) n c, .slice b m c', .slice d r c''] 27)).alloc (.cells #[.slice none 0 0, .slice none 0 0, .slice none 0 0] 27) ∧ Box3 W0 w.heap.size (.slice (some q) n c) (.slice b m c') (.slice d r c'') ∧ Box3 W0 (w.heap.size + 1) (.slice none 0 0) (.slice none 0 0) (.slice none 0 0) ∧ Below w.heap.size w W0 := by
    refine ⟨_, rfl, (Box3.new w _ _ _ 27).kept ((Below.refl _ _).alloc (Nat.le_refl _) _) (by simp), ?_, ((Below.refl _ _).alloc (Nat.le_refl _) _).alloc (by simp) _⟩
    have := Box3.new (w.alloc (.cells #[.slice (some q) n c, .slice b m c', .slice d r c''] 27)) (.slice none 0 0) (.slice none 0 0) (.slice none 0 0) 27
    rwa [World.size_alloc] at this
  have HW0 : Hid (W0 = _) := hW0
  have X0 : Hid (Box3 W0 w.heap.size (.slice (some q) n c) (.slice b m c') (.slice d r c'') ∧ Box3 W0 (w.heap.size + 1) (.slice none 0 0) (.slice none 0 0) (.slice none 0 0) ∧ Below w.heap.size w W0) := ⟨xb, yb, xB⟩
  clear hW0 xb yb xB
  go_enter Try.func33, Try.ntmps33
  go_wp2_with fail
  rw [← HW0.out]
  refine (specDisk _ b d n m r c c' c'' F G O _ (H.out.below X0.out.2.2)).mono ?_
  rintro e w1 ⟨rfl, D1⟩
  rw [HX.out]
  have X1 : Hid (Box3 w1 w.heap.size (.slice (some q) n c) (.slice b m c') (.slice d r c'') ∧ Box3 w1 (w.heap.size + 1) (.slice none 0 0) (.slice none 0 0) (.slice none 0 0) ∧ Below w.heap.size w w1) := ⟨X0.out.1.kept D1 X0.out.1.2.2, X0.out.2.1.kept D1 X0.out.2.1.2.2, X0.out.2.2.trans (D1.mono X0.out.2.2.size)⟩
  clear D1 X0 HW0
  obtain ⟨⟨⟨s0, s1, s2⟩, _, sl⟩, ⟨⟨o0, o1, o2⟩, of, ol⟩, _⟩ := X1.out
  have BW : Hid (Below w.heap.size w w1) := X1.out.2.2
  go_wp2
  exact bodyPost_ret (v := .agg #[.slice none 0 0, .slice none 0 0, .slice none 0 0]) (by simp [results, Try.results33, go_sem, o0, o1, o2]) rfl ⟨_, rfl, noAns BW.out⟩
/-- What Sync comes to. -/
def sy1 (x : Bool) (L : List Fl) : List Fl := if x then L else []
theorem specSync (q : Addr) (b d : Option Addr) (n m r c c' c'' : Nat) (F G : Nat → Fl) (O : Nat → Dp) (w : World) (h : Dk w (some q) n F b m G d r O) :
    Calls Try.prog 33 #[.agg #[.slice (some q) n c, .slice b m c', .slice d r c'']] w fun e w' => ∃ v, e = .returned v ∧ DkAns w (sy1 (diskB (lst F n) (lst G m) (lst O r)) (lst F n)) (sy1 (diskB (lst F n) (lst G m) (lst O r)) (lst F n)) [] v w' := by
  cases hx : diskB (lst F n) (lst G m) (lst O r)
  · exact specSync_no q b d n m r c c' c'' F G O w h hx
  · exact specSync_some q b d n m r c c' c'' F G O w h hx
end Go.Proofs.Ytcalgmhpagpnnaa
