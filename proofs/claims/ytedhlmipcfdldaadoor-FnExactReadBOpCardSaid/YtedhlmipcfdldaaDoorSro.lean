/- l6Op of the specification at any word and numbers; a right op comes back from its word and numbers. Conditions: the numbers lie in memory of the call's own. -/
import Derived.Test.YtedhlmipcfdldaaDoorOq1
import Derived.Test.YtedhlmipcfdldaaDoorOq29
import Derived.Test.YtedhlmipcfdldaaDoorOq2x
import Derived.Test.YtedhlmipcfdldaaDoorOq3
import Derived.Test.YtedhlmipcfdldaaDoorOq4
import Derived.Test.YtedhlmipcfdldaaDoorOqc
import Derived.Test.YtedhlmipcfdldaaDoorOqd
import Derived.Test.YtedhlmipcfdldaaDoorOqo
import Derived.Test.YtedhlmipcfdldaaDoorOqx
import Derived.Test.YtedhlmipcfdldaaDoorTc
import Derived.Test.YtedhlmipcfdldaaDoorTb
import Derived.Test.YtedhlmipcfdldaaDoorTa
import Derived.Test.YtedhlmipcfdldaaDoorRwh
namespace Go.Proofs.YtedhlmipcfdldaaDoor
open Go.RowKit
set_option maxRecDepth 8000

abbrev X0 : OpF := ⟨0, 0, 0, 0, 0⟩
abbrev O0 : Ord := ⟨0, 0, 0, 0, 0, 0, 0⟩
/-- The op that a word and numbers are. -/
def OpIs (wd : ByteArray) (ns : List Int) (K : Int) (x : OpF) (o : Ord) (n : Int) : Prop :=
  (wd.toList = [100, 97, 121] ∧ ns = [] ∧ K = 22 ∧ x = X0 ∧ o = O0 ∧ n = 0) ∨
  (wd.toList = [99, 97, 110, 99, 101, 108] ∧ ns = [n] ∧ K = 21 ∧ x = X0 ∧ o = O0) ∨
  (wd.toList = [111, 114, 100, 101, 114] ∧ ns = [o.id, o.src, o.dst, o.amount, o.first, o.every, o.times] ∧ K = 20 ∧ x = X0 ∧ n = 0) ∨
  (¬ (wd.toList = [100, 97, 121] ∧ ns.length = 0) ∧ ¬ (wd.toList = [99, 97, 110, 99, 101, 108] ∧ ns.length = 1) ∧ ¬ (wd.toList = [111, 114, 100, 101, 114] ∧ ns.length = 7) ∧ ∃ k : Nat, KindIs wd k ∧ K = 19 ∧ x = opOf k ns ∧ o = O0 ∧ n = 0)
def OpAny (w : World) (wd : ByteArray) (ns : List Int) (e : Ending) (w' : World) : Prop := ∃ K x o n, OpIs wd ns K x o n ∧ OpOut w K x o n e w'
theorem OpAny.rest {w : World} {wd : ByteArray} {ns : List Int} {x : Nat → OpF} (h1 : ¬ (wd.toList = [100, 97, 121] ∧ ns.length = 0)) (h2 : ¬ (wd.toList = [99, 97, 110, 99, 101, 108] ∧ ns.length = 1)) (h3 : ¬ (wd.toList = [111, 114, 100, 101, 114] ∧ ns.length = 7)) (hx : ∀ k : Nat, KindIs wd k → x k = opOf k ns) {e : Ending} {w' : World} (h : ∃ k : Nat, KindIs wd k ∧ OpOut w 19 (x k) O0 0 e w') : OpAny w wd ns e w' := by
  obtain ⟨k, hk, ho⟩ := h
  exact ⟨19, x k, O0, 0, Or.inr (Or.inr (Or.inr ⟨h1, h2, h3, k, hk, rfl, hx k hk, rfl, rfl⟩)), ho⟩
theorem specOpAny (wd : ByteArray) (a : Option Addr) (c : Nat) (ns : List Int) (w : World) (hI : ns = [] ∨ ∃ b, a = some ⟨b, 0, none⟩ ∧ b < w.heap.size ∧ ∀ i (hi : i < ns.length), w.cell? ⟨b, i, none⟩ = some (.int .i64 ns[i])) :
    Calls Tryd.prog 9 #[.string wd, .slice a ns.length c] w fun e w' => OpAny w wd ns e w' := by
  by_cases hx : ns.length = 0 ∨ 5 ≤ ns.length
  · by_cases h1 : wd.toList = [100, 97, 121] ∧ ns.length = 0
    · obtain rfl := List.length_eq_zero_iff.1 h1.2
      exact (specOp_day wd a c w h1.1).mono fun e w' h => ⟨22, X0, O0, 0, Or.inl ⟨h1.1, rfl, rfl, rfl, rfl, rfl⟩, h⟩
    by_cases h3 : wd.toList = [111, 114, 100, 101, 114] ∧ ns.length = 7
    · obtain ⟨p0, p1, p2, p3, p4, p5, p6, rfl⟩ := lis7 h3.2
      rcases hI with e | ⟨b, rfl, hb, hc⟩
      · cases e
      · exact (specOp_order wd b c p0 p1 p2 p3 p4 p5 p6 w h3.1 hb (hc 0 (by simp)) (hc 1 (by simp)) (hc 2 (by simp)) (hc 3 (by simp)) (hc 4 (by simp)) (hc 5 (by simp)) (hc 6 (by simp))).mono fun e w' h => ⟨20, X0, ⟨p0, p1, p2, p3, p4, p5, p6⟩, 0, Or.inr (Or.inr (Or.inl ⟨h3.1, rfl, rfl, rfl, rfl⟩)), h⟩
    · refine (specOp_x wd a ns.length c w hx (fun e h => h1 ⟨e, h⟩) (fun e h => h3 ⟨e, h⟩)).mono fun e w' h => OpAny.rest (x := fun k => ⟨k, 0, 0, 0, 0⟩) h1 (fun e => by omega) h3 (fun k _ => ?_) h
      match ns, hx with
      | [], _ => rfl
      | [_], h => simp at h
      | [_, _], h => simp at h
      | [_, _, _], h => simp at h
      | [_, _, _, _], h => simp at h
      | _ :: _ :: _ :: _ :: _ :: _, _ => rfl
  · obtain ⟨b, rfl, hb, hc⟩ : ∃ b, a = some ⟨b, 0, none⟩ ∧ b < w.heap.size ∧ ∀ i (hi : i < ns.length), w.cell? ⟨b, i, none⟩ = some (.int .i64 ns[i]) := by
      rcases hI with e | h
      · rw [e] at hx; simp at hx
      · exact h
    have hl : ns.length = 1 ∨ ns.length = 2 ∨ ns.length = 3 ∨ ns.length = 4 := by omega
    rcases hl with hl | hl | hl | hl
    · obtain ⟨p, rfl⟩ := lis1 hl
      by_cases h2 : wd.toList = [99, 97, 110, 99, 101, 108]
      · exact (specOp_cancel wd b c p w h2 hb (hc 0 (by simp))).mono fun e w' h => ⟨21, X0, O0, p, Or.inr (Or.inl ⟨h2, rfl, rfl, rfl, rfl⟩), h⟩
      · exact (specOp_1 wd b c p w h2 hb (hc 0 (by simp))).mono fun e w' h => OpAny.rest (x := fun k => ⟨k, p, 0, 0, 0⟩) (by simp) (fun e => h2 e.1) (by simp) (fun k _ => rfl) h
    · obtain ⟨p, q, rfl⟩ := lis2 hl
      by_cases h9 : KindIs wd 9
      · exact (specOp_29 wd b c p q w h9 hb (hc 0 (by simp)) (hc 1 (by simp))).mono fun e w' h => OpAny.rest (x := fun k => ⟨k, p, q, 0, 0⟩) (by simp) (by simp) (by simp) (fun k hk => by
          obtain rfl := kind_uniq hk h9
          rfl) h
      · exact (specOp_2x wd b c p q w h9 hb (hc 0 (by simp)) (hc 1 (by simp))).mono fun e w' h => OpAny.rest (x := fun k => ⟨k, p, 0, q, 0⟩) (by simp) (by simp) (by simp) (fun k hk => by
          have : ¬ (k : Int) = 9 := fun e => h9 (by have : k = 9 := by omega
                                                    exact this ▸ hk)
          simp [opOf, this]) h
    · obtain ⟨p, q, r, rfl⟩ := lis3 hl
      exact (specOp_3 wd b c p q r w hb (hc 0 (by simp)) (hc 1 (by simp)) (hc 2 (by simp))).mono fun e w' h => OpAny.rest (x := fun k => ⟨k, p, q, r, 0⟩) (by simp) (by simp) (by simp) (fun k _ => rfl) h
    · obtain ⟨p, q, r, s, rfl⟩ := lis4 hl
      exact (specOp_4 wd b c p q r s w hb (hc 0 (by simp)) (hc 1 (by simp)) (hc 2 (by simp)) (hc 3 (by simp))).mono fun e w' h => OpAny.rest (x := fun k => ⟨k, p, q, r, s⟩) (by simp) (by simp) (by simp) (fun k _ => rfl) h
end Go.Proofs.YtedhlmipcfdldaaDoor
