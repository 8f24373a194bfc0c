/- Contracts of the look-ups of an account by its id, of the program and of the specification. Conditions: the accounts lie in memory, at most 1048576 of them. -/
import Derived.Test.YtedhlmipcfdldaaGreatDoorFMath
import Derived.Test.YtedhlmipcfdldaaGreatDoorRows
import Derived.Test.YtedhlmipcfdldaaGreatDoorChecked
import Derived.WalkKit
import Derived.WalkLawsBesides
import Derived.Below
import Derived.Deep.QuietTactic
import Derived.BigQuiet
namespace Go.Proofs.YtedhlmipcfdldaaGreatDoor
open Go.RowKit
set_option maxRecDepth 8000

/-- An account in memory: eight cells. -/
def AccAt (w : World) (b p : Nat) (a : Acc) : Prop :=
  w.cell? ⟨b, p, none⟩ = some (.int .i64 a.id) ∧ w.cell? ⟨b, p + 1, none⟩ = some (.int .i64 a.up) ∧ w.cell? ⟨b, p + 2, none⟩ = some (.int .i64 a.limit) ∧ w.cell? ⟨b, p + 3, none⟩ = some (.int .i64 a.rate) ∧
  w.cell? ⟨b, p + 4, none⟩ = some (.int .i64 a.target) ∧ w.cell? ⟨b, p + 5, none⟩ = some (.bool a.frozen) ∧ w.cell? ⟨b, p + 6, none⟩ = some (.int .i64 a.balance) ∧ w.cell? ⟨b, p + 7, none⟩ = some (.int .i64 a.carry)
/-- Accounts in memory, one behind the other. -/
def Fo (w : World) (a : Option Addr) (n : Nat) (F : Nat → Acc) : Prop :=
  n ≤ 1048576 ∧ (n = 0 ∨ ∃ b o, a = some ⟨b, o, none⟩ ∧ b < w.heap.size ∧ ∀ i, i < n → AccAt w b (o + i * 8) (F i))

theorem AccAt.of_cells {w w' : World} {b p : Nat} {a : Acc} (h : AccAt w b p a) (hc : ∀ o, w'.cell? ⟨b, o, none⟩ = w.cell? ⟨b, o, none⟩) : AccAt w' b p a := by
  unfold AccAt at h ⊢
  simp only [hc]
  exact h
theorem Fo.below {w w' : World} {a : Option Addr} {n : Nat} {F : Nat → Acc} (h : Fo w a n F) (hb : Below w.heap.size w w') : Fo w' a n F := by
  refine ⟨h.1, ?_⟩
  rcases h.2 with h0 | ⟨b, o, ha, hlt, hall⟩
  · exact Or.inl h0
  · exact Or.inr ⟨b, o, ha, Nat.lt_of_lt_of_le hlt hb.size, fun i hi => (hall i hi).of_cells (fun q => hb.cell (p := ⟨b, q, none⟩) hlt)⟩
theorem Fo.drewN {w : World} {a : Option Addr} {n : Nat} {F : Nat → Acc} (h : Fo w a n F) (m : Nat) : Fo (w.drewN m) a n F := h
theorem Fo.alloc {w : World} {a : Option Addr} {n : Nat} {F : Nat → Acc} (h : Fo w a n F) (x : Obj) : Fo (w.alloc x) a n F := h.below ((Below.refl _ _).alloc (Nat.le_refl _) x)
/-- The account at a place. -/
theorem Fo.acc {w : World} {a : Option Addr} {n : Nat} {F : Nat → Acc} (h : Fo w a n F) {i : Nat} (hi : i < n) : ∃ b o, a = some ⟨b, o, none⟩ ∧ b < w.heap.size ∧ AccAt w b (o + i * 8) (F i) := by
  rcases h.2 with h0 | ⟨b, o, ha, hlt, hall⟩
  · omega
  · exact ⟨b, o, ha, hlt, hall i hi⟩

set_option maxHeartbeats 400000 in
theorem specAt (a : Option Addr) (n c : Nat) (F : Nat → Acc) (id : Int) (w : World) (h : Fo w a n F) :
    Calls Tryz.prog 60 #[.slice a n c, .int .i64 id] w fun e w' => e = .returned (.int .i64 (placeI F n id)) ∧ w' = w := by
  have H : Hid (Fo w a n F) := h
  have hn := h.1
  clear h
  go_enter Tryz.func60, Tryz.ntmps60
  go_wp2
  go_loop [5] (fun i => ∃ k : Nat, k ≤ n ∧ i = .int .i64 k ∧ Hid (∀ j, j < k → (F j).id ≠ id)) (fun i => n - (intOf i).toNat)
  case atStart => exact ⟨0, Nat.zero_le _, rfl, fun j hj => absurd hj (Nat.not_lt_zero _)⟩
  case round =>
    obtain ⟨k, hk, rfl, hno⟩ := hrel
    by_cases hlt : k < n
    · obtain ⟨b, o, rfl, hb, hA⟩ := H.out.acc hlt
      have c0 := hA.1
      clear hA
      by_cases hid : (F k).id = id
      · have e : Hid (placeI F n id = k) := placeI_some (place_hit hlt hid hno.out)
        have hid' : ((F k).id == id) = true := by simp [hid]
        clear hid
        go_wp2
        go_ret
        rw [e.out]
        exact ⟨rfl, rfl⟩
      · have hid' : ((F k).id == id) = false := by simp [hid]
        have HN : Hid (∀ j, j < k + 1 → (F j).id ≠ id) := fun j hj => by
          by_cases e : j = k
          · subst e; exact hid
          · exact hno.out j (by omega)
        clear hid
        go_wp2
        go_round
        case rel => exact ⟨k + 1, by omega, by go_num, HN⟩
        case measure => simp [intOf]; omega
    · have e : Hid (placeI F n id = -1) := placeI_none (place_miss (fun j hj => hno.out j (by omega)))
      go_wp2
      go_ret
      rw [e.out]
      exact ⟨rfl, rfl⟩

set_option maxHeartbeats 400000 in
theorem implAt (a : Option Addr) (n c : Nat) (F : Nat → Acc) (id : Int) (w : World) (h : Fo w a n F) :
    Calls Tryz.prog 66 #[.slice a n c, .int .i64 id] w fun e w' => e = .returned (.int .i64 (placeI F n id)) ∧ Below w.heap.size w w' := by
  have H : Hid (Fo w a n F) := h
  have hn := h.1
  clear h
  go_enter Tryz.func66, Tryz.ntmps66
  go_wp2
  go_loopw [9] (fun i wr => ∃ k : Nat, k ≤ n ∧ i = .int .i64 k ∧ Hid (∀ j, j < k → (F j).id ≠ id) ∧ Hid (Below w.heap.size w wr)) (fun i _ => n - (intOf i).toNat)
  case atStart => exact ⟨0, Nat.zero_le _, rfl, fun j hj => absurd hj (Nat.not_lt_zero _), Below.refl _ _⟩
  case round =>
    obtain ⟨k, hk, rfl, hno, hB⟩ := hrel
    by_cases hlt : k < n
    · obtain ⟨b, o, rfl, hb, hA⟩ := (H.out.below hB.out).acc hlt
      obtain ⟨c0, c1, c2, c3, c4, c5, c6, c7⟩ := hA
      by_cases hid : (F k).id = id
      · have e : Hid (placeI F n id = k) := placeI_some (place_hit hlt hid hno.out)
        have hid' : ((F k).id == id) = true := by simp [hid]
        clear hid
        go_wp2
        go_ret
        rw [e.out]
        exact ⟨rfl, hB.out.alloc hB.out.size _⟩
      · have hid' : ((F k).id == id) = false := by simp [hid]
        have HN : Hid (∀ j, j < k + 1 → (F j).id ≠ id) := fun j hj => by
          by_cases e : j = k
          · subst e; exact hid
          · exact hno.out j (by omega)
        clear hid
        go_wp2
        go_roundw
        case rel => exact ⟨k + 1, by omega, by go_num, HN, hB.out.alloc hB.out.size _⟩
        case measure => simp [intOf]; omega
    · have e : Hid (placeI F n id = -1) := placeI_none (place_miss (fun j hj => hno.out j (by omega)))
      go_wp2
      go_ret
      rw [e.out]
      exact ⟨rfl, hB.out⟩

theorem eqAccount_same (a : Acc) (w : World) :
    Calls Tryz.prog 31 #[.agg #[.int .i64 a.id, .int .i64 a.up, .int .i64 a.limit, .int .i64 a.rate, .int .i64 a.target, .bool a.frozen, .int .i64 a.balance, .int .i64 a.carry], .agg #[.int .i64 a.id, .int .i64 a.up, .int .i64 a.limit, .int .i64 a.rate, .int .i64 a.target, .bool a.frozen, .int .i64 a.balance, .int .i64 a.carry]] w fun e w' => e = .returned (.bool true) ∧ Below w.heap.size w w' := by
  go_enter Tryz.func31, Tryz.ntmps31
  go_wp2
  go_ret
  exact ⟨rfl, ((Below.refl _ _).alloc (Nat.le_refl _) _).alloc (by simp) _⟩
end Go.Proofs.YtedhlmipcfdldaaGreatDoor
