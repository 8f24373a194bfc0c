/- append of a list that may be nil. Conditions: at most 1048576 of each. -/
import Derived.Test.YtcalgmhpagpnnaaCpL
namespace Go.Proofs.Ytcalgmhpagpnnaa
open Go.RowKit
set_option maxRecDepth 8000

theorem app_nilFl (ty : TypeId) (p c : Nat) (w : World) : (Builtin.append_ #[24, 24] ty #[.slice (some ⟨p, 0, none⟩) 0 0, .slice none 0 c]).run Try.prog w = .ok (.slice (some ⟨p, 0, none⟩) 0 0) w := by kernel_rfl
theorem app_nilDp (ty : TypeId) (p c : Nat) (w : World) : (Builtin.append_ #[25, 25] ty #[.slice (some ⟨p, 0, none⟩) 0 0, .slice none 0 c]).run Try.prog w = .ok (.slice (some ⟨p, 0, none⟩) 0 0) w := by kernel_rfl
theorem step_appendFlO {w : World} {ops : Array Oper} {o : Oper} {a : Act} {K : Act → World → Prop} {Q : Exit → Act → World → Prop} {E : Prop} (hgd : o.guard = none) (s x : Operand)
    (ho : o.op = .call { callee := .builtin .append, args := #[s, x], argTypes := #[24, 24] }) {B p : Nat} (hs : a.eval s = .slice (some ⟨p, 0, none⟩) 0 0) (hB : B ≤ p) (hp : w.heap[p]? = some (.cells #[] 75)) (hBw : B ≤ w.heap.size)
    {q : Option Addr} {n c : Nat} {F : Nat → Fl} (hx : a.eval x = .slice q n c) (hF : Fls w q n F)
    (h : ∀ va vc w', FlL w' B (.slice va n vc) (lst F n) → w.grownBy w' (some p) → ((Value.slice va n vc).ownBlock = some p ∨ ∀ g, (Value.slice va n vc).ownBlock = some g → w.heap.size ≤ g) → K (a.put o.dst (.slice va n vc)) w') :
    if Region.wanted o (yielded ops a.tmps) = true then Oper.wp Try.prog o a w K Q else E := by
  cases q with
  | some q => exact step_appendFl hgd s x ho hs hB hp hBw hx hF h
  | none =>
    have hw : Region.wanted o (yielded ops a.tmps) = true := by simp [Region.wanted, hgd]
    rw [if_pos hw]
    have hn : n = 0 := by
      rcases hF.2 with k | ⟨_, _, k, _⟩
      · exact k
      · cases k
    subst hn
    unfold Oper.wp execOp
    simp only [ho, resolve, invoke, builtin, Sem.run_bind, Sem.run_pure, Result.andThen_ok, List.map_toArray, List.map_cons, List.map_nil, hs, hx, app_nilFl]
    exact h (some ⟨p, 0, none⟩) 0 w (FlL.emptyAt hB hp) ⟨rfl, rfl, rfl, Nat.le_refl _, fun _ _ _ => rfl⟩ (Or.inl rfl)
theorem step_appendDpO {w : World} {ops : Array Oper} {o : Oper} {a : Act} {K : Act → World → Prop} {Q : Exit → Act → World → Prop} {E : Prop} (hgd : o.guard = none) (s x : Operand)
    (ho : o.op = .call { callee := .builtin .append, args := #[s, x], argTypes := #[25, 25] }) {B p : Nat} (hs : a.eval s = .slice (some ⟨p, 0, none⟩) 0 0) (hB : B ≤ p) (hp : w.heap[p]? = some (.cells #[] 36)) (hBw : B ≤ w.heap.size)
    {q : Option Addr} {n c : Nat} {F : Nat → Dp} (hx : a.eval x = .slice q n c) (hF : Dps w q n F)
    (h : ∀ va vc w', DpL w' B (.slice va n vc) (lst F n) → w.grownBy w' (some p) → ((Value.slice va n vc).ownBlock = some p ∨ ∀ g, (Value.slice va n vc).ownBlock = some g → w.heap.size ≤ g) → K (a.put o.dst (.slice va n vc)) w') :
    if Region.wanted o (yielded ops a.tmps) = true then Oper.wp Try.prog o a w K Q else E := by
  cases q with
  | some q => exact step_appendDp hgd s x ho hs hB hp hBw hx hF h
  | none =>
    have hw : Region.wanted o (yielded ops a.tmps) = true := by simp [Region.wanted, hgd]
    rw [if_pos hw]
    have hn : n = 0 := by
      rcases hF.2 with k | ⟨_, _, k, _⟩
      · exact k
      · cases k
    subst hn
    unfold Oper.wp execOp
    simp only [ho, resolve, invoke, builtin, Sem.run_bind, Sem.run_pure, Result.andThen_ok, List.map_toArray, List.map_cons, List.map_nil, hs, hx, app_nilDp]
    exact h (some ⟨p, 0, none⟩) 0 w (DpL.emptyAt hB hp) ⟨rfl, rfl, rfl, Nat.le_refl _, fun _ _ _ => rfl⟩ (Or.inl rfl)
end Go.Proofs.Ytcalgmhpagpnnaa
