/- What the copies of a disk want: lists that are laid empty and filled. Conditions: at most 1048576 of each. -/
import Derived.Test.YtcalgmhpagpnnaaSyS
namespace Go.Proofs.Ytcalgmhpagpnnaa
open Go.RowKit
set_option maxRecDepth 8000

/-- append of ops at its place in a region that draws its order. -/
theorem step_appendDp {w : World} {ops : Array Oper} {o : Oper} {a : Act} {K : Act → World → Prop} {Q : Exit → Act → World → Prop} {E : Prop} (hgd : o.guard = none) (s x : Operand)
    (ho : o.op = .call { callee := .builtin .append, args := #[s, x], argTypes := #[25, 25] }) {B p : Nat} (hs : a.eval s = .slice (some ⟨p, 0, none⟩) 0 0) (hB : B ≤ p) (hp : w.heap[p]? = some (.cells #[] 36)) (hBw : B ≤ w.heap.size)
    {q : Addr} {n c : Nat} {F : Nat → Dp} (hx : a.eval x = .slice (some q) n c) (hF : Dps w (some q) n F)
    (h : ∀ va vc w', DpL w' B (.slice va n vc) (lst F n) → w.grownBy w' (some p) → ((Value.slice va n vc).ownBlock = some p ∨ ∀ g, (Value.slice va n vc).ownBlock = some g → w.heap.size ≤ g) → K (a.put o.dst (.slice va n vc)) w') :
    if Region.wanted o (yielded ops a.tmps) = true then Oper.wp Try.prog o a w K Q else E := by
  have hw : Region.wanted o (yielded ops a.tmps) = true := by simp [Region.wanted, hgd]
  rw [if_pos hw]
  obtain ⟨i0, hi, hz0, hz1, hz2⟩ := info_parts infoDp
  have hn := hF.1
  obtain ⟨v', w', hr, h2, h3, _, h5⟩ := run_append_own_at (P := Try.prog) w B 25 o.type 36 i0 _ 4 56 Try.underlying25 hi hz0 hz1 hz2 rfl (by decide) _ 0 [] (DpL.emptyAt hB hp) q n c ((lst F n).flatMap DpC) (by rw [flatDp_len, lst_len]) hF.news (Dps.ones _) (by unfold maxLen; omega) (by omega) hBw
  have A : DpL w' B v' (lst F n) := by
    unfold DpL
    rw [lst_len]
    simpa using h2
  obtain ⟨va, vc, hv, _, _⟩ := A.shape
  rw [lst_len] at hv
  subst hv
  unfold Oper.wp execOp
  simp only [ho, resolve, invoke, builtin, Sem.run_bind, Sem.run_pure, Result.andThen_ok, List.map_toArray, List.map_cons, List.map_nil, hs, hx, hr]
  refine h va vc w' A h3 ?_
  rcases h5 with h5 | h5
  · exact Or.inl h5
  · exact Or.inr fun g hg => by rw [h5] at hg; cases hg; exact Nat.le_refl _

theorem at30 (w : World) (o o' o'' : Obj) : (((w.alloc o).alloc o').alloc o'').drew.heap[w.heap.size]? = some o := (Below.heap_alloc _ o'' _ (by simp; omega)).trans (atA2 w o o')
theorem at31 (w : World) (o o' o'' : Obj) : (((w.alloc o).alloc o').alloc o'').drew.heap[w.heap.size + 1]? = some o' := (Below.heap_alloc _ o'' _ (by simp)).trans (atA3 w o o')
theorem at32 (w : World) (o o' o'' : Obj) : (((w.alloc o).alloc o').alloc o'').drew.heap[w.heap.size + 1 + 1]? = some o'' := by
  show (((w.alloc o).alloc o').alloc o'').heap[w.heap.size + 1 + 1]? = some o''
  have := new_at ((w.alloc o).alloc o') o''
  simpa using this
theorem atB20 (w : World) (o o' : Obj) : ((w.alloc o).alloc o').heap[w.heap.size]? = some o := atA2 w o o'
theorem atB21 (w : World) (o o' : Obj) : ((w.alloc o).alloc o').heap[w.heap.size + 1]? = some o' := atA3 w o o'
theorem keepA3 {w : World} {p : Addr} {x : Value} (h : w.cell? p = some x) (hp : p.block < w.heap.size) (o o' o'' : Obj) : (((w.alloc o).alloc o').alloc o'').drew.cell? p = some x := (World.cell?_alloc_lt _ _ _ (by simp; omega)).trans (keepAA h hp o o')
theorem keepBB {w : World} {p : Addr} {x : Value} (h : w.cell? p = some x) (hp : p.block < w.heap.size) (o o' : Obj) : ((w.alloc o).alloc o').cell? p = some x := keepAA h hp o o'
theorem belA3 {B : Nat} {w w1 : World} (h : Below B w w1) (hB : B ≤ w1.heap.size) (o o' o'' : Obj) : Below B w (((w1.alloc o).alloc o').alloc o'').drew := (((h.alloc hB o).alloc (by simp; omega) o').alloc (by simp; omega) o'').drew
theorem boxA3 {w : World} {R : Nat} {v0 v1 v2 : Value} (h : Box3 w R v0 v1 v2) (o o' o'' : Obj) : Box3 (((w.alloc o).alloc o').alloc o'').drew R v0 v1 v2 := boxB (boxB (boxB h o) o') o''
theorem sizeA3 (w : World) (o o' o'' : Obj) : w.heap.size ≤ (((w.alloc o).alloc o').alloc o'').drew.heap.size := by show _ ≤ (((w.alloc o).alloc o').alloc o'').heap.size; simp; omega
theorem keepSj {w : World} {h j Q : Nat} {x : Value} (hs : w.cell? ⟨h, j, none⟩ = some x) (hne : Q ≠ h) (a b c : Value) : (((w.setCell ⟨Q, 0, none⟩ a).setCell ⟨Q, 1, none⟩ b).setCell ⟨Q, 2, none⟩ c).cell? ⟨h, j, none⟩ = some x := by
  have o : ∀ (v : World) (i : Nat) (u : Value), (v.setCell ⟨Q, i, none⟩ u).cell? ⟨h, j, none⟩ = v.cell? ⟨h, j, none⟩ := fun v i u => World.cell?_setCell_other _ _ _ _ (by intro e; exact hne (congrArg Addr.block e))
  rw [o, o, o]
  exact hs
theorem apartP {B p p' : Nat} {V u : World} {v : Value} {L : List Fl} (A : FlL u B v L) (Lo : v.ownBlock = some p ∨ ∀ g, v.ownBlock = some g → V.heap.size ≤ g) (hp : u.heap.size ≤ p' ∨ (p' ≠ p ∧ p' < V.heap.size)) : v.ownBlock ≠ some p' := fun e => by
  rcases hp with h1 | ⟨h1, h2⟩
  · have := (World.ownsRow.lt A _ e).2; omega
  · rcases Lo with k | k
    · rw [k] at e; exact h1 (Option.some.inj e).symm
    · have := k _ e; omega
theorem apartG {B p p' : Nat} {V u V2 u2 : World} {v : Value} {L : List Fl} (A : FlL u B v L) (Lo : v.ownBlock = some p ∨ ∀ g, v.ownBlock = some g → V.heap.size ≤ g) (_ : V2.grownBy u2 (some p')) (hp : u.heap.size ≤ p' ∨ (p' ≠ p ∧ p' < V.heap.size)) : v.ownBlock ≠ some p' := apartP A Lo hp

theorem apart12 {B p' : Nat} {u V2 : World} {v v2 : Value} {L : List Fl} (A : FlL u B v L) (N12 : v.ownBlock ≠ some p') (L2 : v2.ownBlock = some p' ∨ ∀ g, v2.ownBlock = some g → V2.heap.size ≤ g) (hV : u.heap.size ≤ V2.heap.size) : ∀ g, v.ownBlock = some g → v2.ownBlock ≠ some g := fun g h1 h2 => by
  rcases L2 with k | k
  · rw [k] at h2
    cases h2
    exact N12 h1
  · have h3 := k _ h2
    have h4 := (World.ownsRow.lt A _ h1).2
    omega
theorem copyAns {w u : World} {B : Nat} {a1 a2 a3 : Option Addr} {n m r c1 c2 c3 : Nat} {L1 L2 : List Fl} {L3 : List Dp} (h1 : FlL u B (.slice a1 n c1) L1) (h2 : FlL u B (.slice a2 m c2) L2) (h3 : DpL u B (.slice a3 r c3) L3) (hne : ∀ g, (Value.slice a1 n c1).ownBlock = some g → (Value.slice a2 m c2).ownBlock ≠ some g) (hb : Below w.heap.size w u) (hB : w.heap.size + 1 < B) (l1 : L1.length = n) (l2 : L2.length = m) (l3 : L3.length = r) :
    DkAns w L1 L2 L3 (.agg #[.slice a1 n c1, .slice a2 m c2, .slice a3 r c3]) (((u.setCell ⟨w.heap.size + 1, 0, none⟩ (.slice a1 n c1)).setCell ⟨w.heap.size + 1, 1, none⟩ (.slice a2 m c2)).setCell ⟨w.heap.size + 1, 2, none⟩ (.slice a3 r c3)) := by
  subst l1 l2 l3
  have k1 : (Value.slice a1 L1.length c1).ownBlock ≠ some (w.heap.size + 1) := fun e => by have := h1.lt _ e; omega
  have k2 : (Value.slice a2 L2.length c2).ownBlock ≠ some (w.heap.size + 1) := fun e => by have := h2.lt _ e; omega
  have k3 : (Value.slice a3 L3.length c3).ownBlock ≠ some (w.heap.size + 1) := fun e => by have := h3.lt _ e; omega
  refine ⟨a1, c1, a2, c2, a3, c3, rfl, ⟨?_, ?_, ?_, hne⟩, ?_⟩
  · exact ((((h1.mono (by omega)).far k1 _ _).far k1 _ _).far k1 _ _)
  · exact ((((h2.mono (by omega)).far k2 _ _).far k2 _ _).far k2 _ _)
  · exact ((((h3.mono (by omega)).far k3 _ _).far k3 _ _).far k3 _ _)
  · exact below_far (below_far (below_far hb (by omega) _ _) (by omega) _ _) (by omega) _ _

end Go.Proofs.Ytcalgmhpagpnnaa

/- append of a list that may be nil. Conditions: at most 1048576 of each. -/
namespace Go.Proofs.Ytcalgmhpagpnnaa
open Go.RowKit
set_option maxRecDepth 8000

theorem app_nilFl (ty : TypeId) (p c : Nat) (w : World) : (Builtin.append_ #[24, 24] ty #[.slice (some ⟨p, 0, none⟩) 0 0, .slice none 0 c]).run Try.prog w = .ok (.slice (some ⟨p, 0, none⟩) 0 0) w := by kernel_rfl
theorem app_nilDp (ty : TypeId) (p c : Nat) (w : World) : (Builtin.append_ #[25, 25] ty #[.slice (some ⟨p, 0, none⟩) 0 0, .slice none 0 c]).run Try.prog w = .ok (.slice (some ⟨p, 0, none⟩) 0 0) w := by kernel_rfl
theorem step_appendFlO {w : World} {ops : Array Oper} {o : Oper} {a : Act} {K : Act → World → Prop} {Q : Exit → Act → World → Prop} {E : Prop} (hgd : o.guard = none) (s x : Operand)
    (ho : o.op = .call { callee := .builtin .append, args := #[s, x], argTypes := #[24, 24] }) {B p : Nat} (hs : a.eval s = .slice (some ⟨p, 0, none⟩) 0 0) (hB : B ≤ p) (hp : w.heap[p]? = some (.cells #[] 75)) (hBw : B ≤ w.heap.size)
    {q : Option Addr} {n c : Nat} {F : Nat → Fl} (hx : a.eval x = .slice q n c) (hF : Fls w q n F)
    (h : ∀ va vc w', FlL w' B (.slice va n vc) (lst F n) → w.grownBy w' (some p) → ((Value.slice va n vc).ownBlock = some p ∨ ∀ g, (Value.slice va n vc).ownBlock = some g → w.heap.size ≤ g) → K (a.put o.dst (.slice va n vc)) w') :
    if Region.wanted o (yielded ops a.tmps) = true then Oper.wp Try.prog o a w K Q else E := by
  cases q with
  | some q => exact step_appendFl hgd s x ho hs hB hp hBw hx hF h
  | none =>
    have hw : Region.wanted o (yielded ops a.tmps) = true := by simp [Region.wanted, hgd]
    rw [if_pos hw]
    have hn : n = 0 := by
      rcases hF.2 with k | ⟨_, _, k, _⟩
      · exact k
      · cases k
    subst hn
    unfold Oper.wp execOp
    simp only [ho, resolve, invoke, builtin, Sem.run_bind, Sem.run_pure, Result.andThen_ok, List.map_toArray, List.map_cons, List.map_nil, hs, hx, app_nilFl]
    exact h (some ⟨p, 0, none⟩) 0 w (FlL.emptyAt hB hp) ⟨rfl, rfl, rfl, Nat.le_refl _, fun _ _ _ => rfl⟩ (Or.inl rfl)
theorem step_appendDpO {w : World} {ops : Array Oper} {o : Oper} {a : Act} {K : Act → World → Prop} {Q : Exit → Act → World → Prop} {E : Prop} (hgd : o.guard = none) (s x : Operand)
    (ho : o.op = .call { callee := .builtin .append, args := #[s, x], argTypes := #[25, 25] }) {B p : Nat} (hs : a.eval s = .slice (some ⟨p, 0, none⟩) 0 0) (hB : B ≤ p) (hp : w.heap[p]? = some (.cells #[] 36)) (hBw : B ≤ w.heap.size)
    {q : Option Addr} {n c : Nat} {F : Nat → Dp} (hx : a.eval x = .slice q n c) (hF : Dps w q n F)
    (h : ∀ va vc w', DpL w' B (.slice va n vc) (lst F n) → w.grownBy w' (some p) → ((Value.slice va n vc).ownBlock = some p ∨ ∀ g, (Value.slice va n vc).ownBlock = some g → w.heap.size ≤ g) → K (a.put o.dst (.slice va n vc)) w') :
    if Region.wanted o (yielded ops a.tmps) = true then Oper.wp Try.prog o a w K Q else E := by
  cases q with
  | some q => exact step_appendDp hgd s x ho hs hB hp hBw hx hF h
  | none =>
    have hw : Region.wanted o (yielded ops a.tmps) = true := by simp [Region.wanted, hgd]
    rw [if_pos hw]
    have hn : n = 0 := by
      rcases hF.2 with k | ⟨_, _, k, _⟩
      · exact k
      · cases k
    subst hn
    unfold Oper.wp execOp
    simp only [ho, resolve, invoke, builtin, Sem.run_bind, Sem.run_pure, Result.andThen_ok, List.map_toArray, List.map_cons, List.map_nil, hs, hx, app_nilDp]
    exact h (some ⟨p, 0, none⟩) 0 w (DpL.emptyAt hB hp) ⟨rfl, rfl, rfl, Nat.le_refl _, fun _ _ _ => rfl⟩ (Or.inl rfl)
end Go.Proofs.Ytcalgmhpagpnnaa
