/- The program's iterator over the days on which an order is due. Conditions: the order is right and lies in memory. -/
import Derived.Test.YtlndklendejjdaaDays
import Derived.RangeFuncFrom
import Derived.RangeFuncLeaves
import Derived.Shelf.Abstract
import Derived.WalkKit
import Derived.OwnWalkIn
import Derived.TacticsInMore
import Derived.LoopNIn
import Derived.LoopIn
namespace Go.Proofs.Ytlndklendejjdaa
open Go.RowKit Go.Shelf

attribute [local go_sem] Oper.semAt_some

theorem OrdBox.kept {n₀ : Nat} {w w' : World} {R : Nat} {o : Ord} (h : OrdBox w R o) (hb : Below n₀ w w') (hR : R < n₀) : OrdBox w' R o := by
  obtain ⟨h0, h1, h2, h3, h4, h5, h6, h7⟩ := h
  exact ⟨by rw [hb.cell (p := ⟨R, 0, none⟩) hR]; exact h0, by rw [hb.cell (p := ⟨R, 1, none⟩) hR]; exact h1, by rw [hb.cell (p := ⟨R, 2, none⟩) hR]; exact h2, by rw [hb.cell (p := ⟨R, 3, none⟩) hR]; exact h3, by rw [hb.cell (p := ⟨R, 4, none⟩) hR]; exact h4, by rw [hb.cell (p := ⟨R, 5, none⟩) hR]; exact h5, by rw [hb.cell (p := ⟨R, 6, none⟩) hR]; exact h6, Nat.lt_of_lt_of_le h7 hb.size⟩

/-- All of them. -/
def AllDays (o : Ord) (ys : List Int) : Prop := ∃ k : Nat, (k : Int) ≤ o.times ∧ ys = upto o k ∧ ((k : Int) = o.times ∨ 3000000 < o.first + (k : Int) * o.every)
/-- Some of them. -/
def SomeDays (o : Ord) (ys : List Int) : Prop := ∃ k : Nat, (k : Int) < o.times ∧ ys = upto o (k + 1) ∧ o.first + (k : Int) * o.every ≤ 3000000

set_option maxRecDepth 100000 in
set_option maxHeartbeats 1000000 in
theorem days1_in (F : Fence) (n : Nat) (hf : F.fn 68) (hro : F.round = none) (hn : 1 ≤ n) (l Bo n₀ : Nat) (o : Ord) (ho : ordOk o) (J Jx : List Int → World → Prop)
    (hY : ∀ pre x W, J pre W → pre.length < 1000 → YieldAt F (n - 1) Try.prog l #[.int .i64 x] W fun e W' =>
      (e = .returned (.bool true) ∧ J (pre ++ [x]) W' ∧ Below n₀ W W') ∨ (e = .returned (.bool false) ∧ Jx (pre ++ [x]) W'))
    (W : World) (hBo : Bo < n₀) (hL : OrdBox W Bo o) (h0 : J [] W) :
    CallsIn F n Try.prog 68 #[.func (.yield l) #[] #[], .pointer (some ⟨Bo, 0, none⟩)] W fun e W' => (∃ v, e = .returned v) ∧
      ((∃ ys, AllDays o ys ∧ J ys W') ∨ (∃ pre, SomeDays o pre ∧ Jx pre W')) := by
  obtain ⟨_, _, _, _, _, ⟨f1, f2⟩, ⟨e1, e2⟩, t1, t2⟩ := ho
  have HL : Hid (OrdBox W Bo o) := hL
  obtain ⟨c0, c1, c2, c3, c4, c5, c6, _⟩ := hL
  refine callsIn_of_wp Try.func68 rfl hf ?_ hro
  simp only [Try.ntmps68, List.size_toArray, List.length_cons, List.length_nil, Nat.reduceAdd, Nat.reduceSub, Array.replicate_succ, Array.replicate_zero, List.push_toArray, List.append_toArray, List.nil_append, List.cons_append]
  gi_wp2
  clear c0 c1 c2 c3 c4 c5 c6
  gi_loopw [7] (fun i wr => ∃ k : Nat, i = .int .i64 k ∧ (k : Int) ≤ o.times ∧ Hid (OrdBox wr Bo o) ∧ J (upto o k) wr) (fun i _ => o.times.toNat - (intOf i).toNat)
  case atStart => exact ⟨0, rfl, by omega, HL, h0⟩
  case round =>
    obtain ⟨k, rfl, hk, hB, hJs⟩ := hrel
    by_cases hlt : (k : Int) < o.times
    · obtain ⟨m1, m2⟩ := mul_bd (k : Int) o.every (by omega) (by omega) e1 e2
      obtain ⟨c0, c1, c2, c3, c4, c5, c6, _⟩ := hB.out
      by_cases hgt : 3000000 < o.first + (k : Int) * o.every
      · gi_wp2
        refine ⟨fun _ h => (by cases h), ?_⟩
        gi_wp2
        refine bodyPost_ret (results_none rfl _ _ _) rfl ?_
        exact ⟨⟨_, rfl⟩, .inl ⟨_, ⟨k, hk, rfl, .inr hgt⟩, hJs⟩⟩
      · obtain ⟨fn, tmps, assign, body, hy, hR⟩ := hY (upto o k) (o.first + (k : Int) * o.every) wr hJs (by rw [upto_len]; omega)
        gi_wp2
        refine hR.mono ?_
        rintro e W3 (⟨rfl, hJ3, hk3⟩ | ⟨rfl, hJx3⟩)
        · have hB3 : Hid (OrdBox W3 Bo o) := hB.out.kept hk3 hBo
          rw [← upto_succ] at hJ3
          gi_wp2
          go_roundw
          case rel => exact ⟨k + 1, by go_num, by omega, hB3, hJ3⟩
          case measure => simp [intOf]; omega
        · rw [← upto_succ] at hJx3
          gi_wp2
          refine bodyPost_ret (results_none rfl _ _ _) rfl ?_
          exact ⟨⟨_, rfl⟩, .inr ⟨_, ⟨k, hlt, rfl, by omega⟩, hJx3⟩⟩
    · gi_wp2
      go_end0
      exact ⟨⟨_, rfl⟩, .inl ⟨_, ⟨k, hk, rfl, .inl (by omega)⟩, hJs⟩⟩

theorem days_stops (F : Fence) (n : Nat) (hf : F.fn 68) (hro : F.round = none) (hn : 1 ≤ n) (Bo n₀ : Nat) (o : Ord) (ho : ordOk o) (w : World) (hBo : Bo < n₀) (hn₀ : n₀ ≤ w.heap.size) (hL : OrdBox w Bo o) :
    SeqStopsK F n Try.prog 68 #[.pointer (some ⟨Bo, 0, none⟩)] (fun x : Int => #[Value.int .i64 x]) (Below n₀) (AllDays o) (SomeDays o) 1000 w := fun l J Jx W hW _ _ hY h0 =>
  days1_in F n hf hro hn l Bo n₀ o ho J Jx hY W hBo (hL.kept (hW.mono hn₀) hBo) h0

theorem dueDays (o : Ord) (w : World) :
    Calls Try.prog 50 #[.agg #[.int .i64 o.id, .int .i64 o.src, .int .i64 o.dst, .int .i64 o.amount, .int .i64 o.first, .int .i64 o.every, .int .i64 o.times]] w fun e w' => e = .returned (.func (.func 68) #[] #[.pointer (some ⟨w.heap.size, 0, none⟩)]) ∧ w' = w.alloc (.cells #[.int .i64 o.id, .int .i64 o.src, .int .i64 o.dst, .int .i64 o.amount, .int .i64 o.first, .int .i64 o.every, .int .i64 o.times] 25) := by
  go_enter Try.func50, Try.ntmps50
  go_wp2
  go_ret
  exact ⟨rfl, rfl⟩

theorem cell_of_box {W : World} {B : Nat} {v : Value} {t : TypeId} (h : W.heap[B]? = some (.cells #[v] t (0, 0))) : W.cell? ⟨B, 0, none⟩ = some v ∧ W.frozen? ⟨B, 0, none⟩ = false := by
  constructor <;> simp [World.cell?, World.frozen?, h]
theorem cell_new (W : World) (v : Value) (t : TypeId) : (W.alloc (.cells #[v] t)).cell? ⟨W.heap.size, 0, none⟩ = some v ∧ (W.alloc (.cells #[v] t)).frozen? ⟨W.heap.size, 0, none⟩ = false :=
  cell_of_box (World.alloc_heap_new W _)
theorem cell_alloc' {W : World} {a : Addr} {v : Value} (o : Obj) (h : W.cell? a = some v) : (W.alloc o).cell? a = some v := cell_kept h (World.grownBy_alloc W o none) (fun r e => by cases e)
theorem frozen_alloc' {W : World} {a : Addr} {v : Value} (o : Obj) (h : W.cell? a = some v) (hf : W.frozen? a = false) : (W.alloc o).frozen? a = false := (frozen_kept h (World.grownBy_alloc W o none) (fun r e => by cases e)).trans hf
/-- A box of one cell of the call's own. -/
def OneBox (w : World) (R : Nat) (v : Value) : Prop := w.cell? ⟨R, 0, none⟩ = some v ∧ w.frozen? ⟨R, 0, none⟩ = false ∧ R < w.heap.size
theorem OneBox.new (w : World) (v : Value) (t : TypeId) : OneBox (w.alloc (.cells #[v] t)) w.heap.size v := ⟨(cell_new w v t).1, (cell_new w v t).2, by simp⟩
theorem OneBox.kept {n₀ : Nat} {w w' : World} {R : Nat} {v : Value} (h : OneBox w R v) (hb : Below n₀ w w') (hR : R < n₀) : OneBox w' R v :=
  ⟨by rw [hb.cell (p := ⟨R, 0, none⟩) hR]; exact h.1, by rw [hb.frozen (p := ⟨R, 0, none⟩) hR]; exact h.2.1, Nat.lt_of_lt_of_le h.2.2 hb.size⟩
end Go.Proofs.Ytlndklendejjdaa
