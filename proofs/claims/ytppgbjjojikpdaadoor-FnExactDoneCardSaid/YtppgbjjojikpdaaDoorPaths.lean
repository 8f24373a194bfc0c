/- PathOf, of the program and of the specification: both answer the same path. Conditions: the accounts lie in memory. -/
import Derived.Test.YtppgbjjojikpdaaDoorPathI
namespace Go.Proofs.YtppgbjjojikpdaaDoor
open Go.RowKit

theorem chain_len (F : Nat → Acc) (n : Nat) : ∀ (m : Nat) (id : Int) (l : List Int), chain F n m id = some l → l.length ≤ m
  | 0, id, l, h => by
    by_cases h0 : id = 0
    · simp [chain, h0] at h; simp [h]
    · simp [chain, h0] at h
  | m + 1, id, l, h => by
    by_cases h0 : id = 0
    · simp [chain, h0] at h; simp [h]
    · simp only [chain, if_neg h0] at h
      cases hp : place F n id with
      | none => rw [hp] at h; cases h
      | some i =>
        rw [hp] at h
        simp only [Option.map_eq_some_iff] at h
        obtain ⟨l', h1, rfl⟩ := h
        have := chain_len F n m _ l' h1
        simp
        exact this

theorem implPathFrom_none (a : Option Addr) (n c : Nat) (F : Nat → Acc) (id : Int) (w : World) (h : Fo w a n F) (hp : place F n id = none) :
    Calls Tryd.prog 91 #[.slice a n c, .int .i64 id] w fun e w' => ∃ v P, e = .returned v ∧ AL w' w.heap.size v P ∧ P.map (·.id) = [] ∧ P.length ≤ n ∧ Below w.heap.size w w' := by
  have H : Hid (Fo w a n F) := h
  have HP : Hid (placeI F n id = -1) := placeI_none hp
  clear h hp
  go_enter Tryd.func91, Tryd.ntmps91
  go_wp2_with fail
  refine (implAt a n c F id _ H.out).mono ?_
  rintro e w0 ⟨rfl, B0⟩
  rw [HP.out]
  have B0' : Hid (Below w.heap.size w w0) := B0
  clear B0
  go_wp2
  refine wp_loop_rounds 1 ?_
  rw [rounds_succ]
  go_wp2
  go_ret
  exact ⟨_, [], rfl, World.ownsRow_nil _ _ 37 8, rfl, Nat.zero_le _, B0'.out⟩

end Go.Proofs.YtppgbjjojikpdaaDoor
