/- PathOf, of the program and of the specification: both answer the same path. Conditions: the accounts lie in memory. -/
import Derived.Test.YtcmjndcpffodgaaPathI
namespace Go.Proofs.Ytcmjndcpffodgaa
open Go.RowKit

theorem chain_len (F : Nat → Acc) (n : Nat) : ∀ (m : Nat) (id : Int) (l : List Int), chain F n m id = some l → l.length ≤ m
  | 0, id, l, h => by
    by_cases h0 : id = 0
    · simp [chain, h0] at h; simp [h]
    · simp [chain, h0] at h
  | m + 1, id, l, h => by
    by_cases h0 : id = 0
    · simp [chain, h0] at h; simp [h]
    · simp only [chain, if_neg h0] at h
      cases hp : place F n id with
      | none => rw [hp] at h; cases h
      | some i =>
        rw [hp] at h
        simp only [Option.map_eq_some_iff] at h
        obtain ⟨l', h1, rfl⟩ := h
        have := chain_len F n m _ l' h1
        simp
        exact this

theorem implPathFrom_none (a : Option Addr) (n c : Nat) (F : Nat → Acc) (id : Int) (w : World) (h : Fo w a n F) (hp : place F n id = none) :
    Calls Try.prog 46 #[.slice a n c, .int .i64 id] w fun e w' => ∃ v P, e = .returned v ∧ AL w' w.heap.size v P ∧ P.map (·.id) = [] ∧ P.length ≤ n ∧ Below w.heap.size w w' := by
  have H : Hid (Fo w a n F) := h
  have HP : Hid (placeI F n id = -1) := placeI_none hp
  clear h hp
  go_enter Try.func46, Try.ntmps46
  go_wp2_with fail
  refine (implAt a n c F id _ H.out).mono ?_
  rintro e w0 ⟨rfl, B0⟩
  rw [HP.out]
  have B0' : Hid (Below w.heap.size w w0) := B0
  clear B0
  go_wp2
  refine wp_loop_rounds 1 ?_
  rw [rounds_succ]
  go_wp2
  go_ret
  exact ⟨_, [], rfl, World.ownsRow_nil _ _ 41 8, rfl, Nat.zero_le _, B0'.out⟩

theorem implPathOf_no (a : Option Addr) (n c : Nat) (F : Nat → Acc) (id : Int) (w : World) (h : Fo w a n F) (hR : ¬ Right F n) :
    Calls Try.prog 23 #[.slice a n c, .int .i64 id] w fun e w' => ∃ v, e = .returned v ∧ IL w' w.heap.size v [] ∧ Below w.heap.size w w' := by
  have H : Hid (Fo w a n F) := h
  have HR : Hid (¬ Right F n) := hR
  clear h hR
  go_enter Try.func23, Try.ntmps23
  go_wp2_with fail
  refine (implOk_no a n c F _ H.out HR.out).mono ?_
  rintro e w1 ⟨rfl, B1⟩
  go_wp2
  go_ret
  exact ⟨_, rfl, IL.nil _ _, B1⟩

theorem both_path (n : Nat) (F : Nat → Acc) (id : Int) (hn : n ≤ 1048576) : ∃ l : List Int, l.length ≤ 1048576 ∧ (∀ w a' c', Fo w a' n F → Calls Try.prog 26 #[.slice a' n c', .int .i64 id] w fun e w' => ∃ v, e = .returned v ∧ IL w' w.heap.size v l ∧ Below w.heap.size w w') ∧
    ∀ w a' c', Fo w a' n F → Calls Try.prog 23 #[.slice a' n c', .int .i64 id] w fun e w' => ∃ v, e = .returned v ∧ IL w' w.heap.size v l ∧ Below w.heap.size w w' := by
  by_cases hR : Right F n
  · cases hp : place F n id with
    | some i =>
      obtain ⟨hin, hid⟩ := place_some hp
      have hs := hR.2.2.2 i hin
      rw [hid] at hs
      obtain ⟨l, hl⟩ := Option.isSome_iff_exists.1 hs
      exact ⟨l, Nat.le_trans (chain_len F n n id l hl) hn, fun w a' c' h => specPathOf_yes a' n c' F id i l w h hR hp hl,
        fun w a' c' h => implPathOf_of a' n c' F id l w h hR (fun w' h' => implPathFrom a' n c' F id l w' h' hR hl)⟩
    | none =>
      exact ⟨[], by simp, fun w a' c' h => specPathOf_no a' n c' F id w h (fun k => by obtain ⟨_, i, hi⟩ := k; rw [hp] at hi; cases hi),
        fun w a' c' h => implPathOf_of a' n c' F id [] w h hR (fun w' h' => implPathFrom_none a' n c' F id w' h' hp)⟩
  · exact ⟨[], by simp, fun w a' c' h => specPathOf_no a' n c' F id w h (fun k => hR k.1), fun w a' c' h => implPathOf_no a' n c' F id w h hR⟩
end Go.Proofs.Ytcmjndcpffodgaa
