/- The deferred function of readWhole at banks: where nothing is amiss it does nothing; where the reader gave up it lays nothing and false. -/
import Derived.Test.YtedhlmipcfdldaaGreatDoorRbk
import Derived.Defers
import Derived.Recover
namespace Go.Proofs.YtedhlmipcfdldaaGreatDoor
open Go.RowKit
set_option maxRecDepth 8000

theorem catch_idle (p q : Addr) (w : World) :
    CallsD Tryz.prog 23 #[.pointer (some p), .pointer (some q)] .returning w fun e u' w' => e = .returned (.tuple #[]) ∧ u' = .returning ∧ w' = w := by
  refine callsD_of_wpS Tryz.func23 rfl fun c₀ cs hu => ?_
  apply wpS_seq
  apply wpS_region
  simp [wpOpsS, go_sem, recoverD, hu, Tryz.ntmps23, Exit.thenS]
  refine wpS_cond (t := false) (by simp [Act.eval, Array.replicate]) ?_
  simp only [Bool.false_eq_true, if_false]
  refine wpS_of_wp (wp_skip ?_)
  cases c₀
  simp_all [bodyPostS, results, Tryz.results23]
theorem lst7v {vs : List Value} (h : vs.length = 7) : ∃ a0 a1 a2 a3 a4 a5 a6, vs = [a0, a1, a2, a3, a4, a5, a6] := by
  match vs, h with
  | [a0, a1, a2, a3, a4, a5, a6], _ => exact ⟨a0, a1, a2, a3, a4, a5, a6, rfl⟩
set_option maxHeartbeats 4000000 in
theorem catch_panicking (p q : Nat) (u : TypeId) (pv : Value) (older : List PanicEntry) (vs : List Value) (b : Bool) (w : World) (hp : Vals w p vs) (hv : vs.length = 7) (hq : Vals w q [.bool b]) (hpq : p ≠ q) :
    CallsD Tryz.prog 23 #[.pointer (some ⟨p, 0, none⟩), .pointer (some ⟨q, 0, none⟩)] (.panicking ({ v := .iface u pv, recovered := false } :: older)) w fun e u' w' =>
      e = .returned (.tuple #[]) ∧ u' = .panicking ({ v := .iface u pv, recovered := true } :: older) ∧ Vals w' p zBk ∧ Vals w' q [.bool false] ∧ (∀ n, n ≤ p → n ≤ q → n ≤ w.heap.size → Below n w w') := by
  obtain ⟨a0, a1, a2, a3, a4, a5, a6, rfl⟩ := lst7v hv
  have hc := hq.1 0 _ rfl
  have hz := hq.2.1
  have hz2 := hp.2.1
  refine callsD_of_wpS Tryz.func23 rfl fun c₀ cs hu => ?_
  apply wpS_seq
  apply wpS_region
  simp [wpOpsS, go_sem, recoverD, hu, Tryz.ntmps23, Exit.thenS]
  refine wpS_cond (t := true) (by simp [Act.eval, Array.replicate]) ?_
  simp only [if_true]
  obtain ⟨V, hV, XV⟩ : ∃ V, V = w.alloc (.cells zBk.toArray 25) ∧ Hid (Vals V w.heap.size zBk ∧ Vals V p [a0, a1, a2, a3, a4, a5, a6] ∧ Vals V q [.bool b] ∧ ∀ n, n ≤ w.heap.size → Below n w V) := by
    have hb : Below w.heap.size w (w.alloc (.cells zBk.toArray 25)) := (Below.refl _ _).alloc (Nat.le_refl _) _
    exact ⟨_, rfl, Vals.new _ _ _, hp.kept hb hp.2.2, hq.kept hb hq.2.2, fun n hn => hb.mono hn⟩
  have hV' : V = w.alloc (.cells #[.int .i64 0, .slice none 0 0, .slice none 0 0, .int .i64 0, .int .i64 0, .int .i64 0, .int .i64 0] 25) := hV
  clear hV
  refine wpS_of_wp ?_
  have ea : (#[Value.pointer (some ⟨p, 0, none⟩), Value.pointer (some ⟨q, 0, none⟩)] ++ ((Array.replicate 4 undef).setIfInBounds 1 (Value.iface u pv)).setIfInBounds 2 (Value.bool true)) = #[Value.pointer (some ⟨p, 0, none⟩), Value.pointer (some ⟨q, 0, none⟩), undef, .iface u pv, .bool true, undef] := rfl
  rw [ea]
  clear hc hz hz2
  go_upto_region 2 with fail
  rw [← hV']
  clear hV'
  have z0 := XV.out.1.1 0 _ rfl
  have z1 := XV.out.1.1 1 _ rfl
  have z2 := XV.out.1.1 2 _ rfl
  have z3 := XV.out.1.1 3 _ rfl
  have z4 := XV.out.1.1 4 _ rfl
  have z5 := XV.out.1.1 5 _ rfl
  have z6 := XV.out.1.1 6 _ rfl
  have r0 := XV.out.2.1.1 0 _ rfl
  have r1 := XV.out.2.1.1 1 _ rfl
  have r2 := XV.out.2.1.1 2 _ rfl
  have r3 := XV.out.2.1.1 3 _ rfl
  have r4 := XV.out.2.1.1 4 _ rfl
  have r5 := XV.out.2.1.1 5 _ rfl
  have r6 := XV.out.2.1.1 6 _ rfl
  have fp := XV.out.2.1.2.1
  have fq := XV.out.2.2.1.2.1
  have cq := XV.out.2.2.1.1 0 _ rfl
  have hpq' : ¬ q = p := fun e => hpq e.symm
  have hnp : ¬ w.heap.size = p := by have := hp.2.2; omega
  have hnq : ¬ w.heap.size = q := by have := hq.2.2; omega
  clear hp hq hv
  obtain ⟨W, hW, FIN⟩ : ∃ W, W = ((((((((V).setCell ⟨p, 0, none⟩ (.int .i64 0)).setCell ⟨p, 1, none⟩ (.slice none 0 0)).setCell ⟨p, 2, none⟩ (.slice none 0 0)).setCell ⟨p, 3, none⟩ (.int .i64 0)).setCell ⟨p, 4, none⟩ (.int .i64 0)).setCell ⟨p, 5, none⟩ (.int .i64 0)).setCell ⟨p, 6, none⟩ (.int .i64 0)).setCell ⟨q, 0, none⟩ (.bool false) ∧ Hid (Vals W p zBk ∧ Vals W q [.bool false] ∧ ∀ n, n ≤ p → n ≤ q → n ≤ w.heap.size → Below n w W) :=
    ⟨_, rfl, ((((((((XV.out.2.1).set 0 (.int .i64 0)).set 1 (.slice none 0 0)).set 2 (.slice none 0 0)).set 3 (.int .i64 0)).set 4 (.int .i64 0)).set 5 (.int .i64 0)).set 6 (.int .i64 0)).far hpq' 0 (.bool false), ((((((((XV.out.2.2.1).far hpq 0 (.int .i64 0)).far hpq 1 (.slice none 0 0)).far hpq 2 (.slice none 0 0)).far hpq 3 (.int .i64 0)).far hpq 4 (.int .i64 0)).far hpq 5 (.int .i64 0)).far hpq 6 (.int .i64 0)).set 0 (.bool false), fun n hp' hq' hn => ((((((((XV.out.2.2.2 n hn).setCell (p := ⟨p, 0, none⟩) hp' (.int .i64 0)).setCell (p := ⟨p, 1, none⟩) hp' (.slice none 0 0)).setCell (p := ⟨p, 2, none⟩) hp' (.slice none 0 0)).setCell (p := ⟨p, 3, none⟩) hp' (.int .i64 0)).setCell (p := ⟨p, 4, none⟩) hp' (.int .i64 0)).setCell (p := ⟨p, 5, none⟩) hp' (.int .i64 0)).setCell (p := ⟨p, 6, none⟩) hp' (.int .i64 0)).setCell (p := ⟨q, 0, none⟩) hq' (.bool false)⟩
  go_wp2
  rw [← hW]
  clear hW
  simp [bodyPostS, results, Tryz.results23]
  exact FIN.out
end Go.Proofs.YtedhlmipcfdldaaGreatDoor
