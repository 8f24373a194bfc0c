/- The laws' own comparison of two forests, and of two lists of numbers: two of the same are the same. Conditions: they lie in memory, at most 1048576 of them. -/
import Derived.Test.YtghkbhggopiajaaGreatDoorLists
namespace Go.Proofs.YtghkbhggopiajaaGreatDoor
open Go.RowKit
set_option maxRecDepth 8000

theorem below_drewQ {B : Nat} {w w' : World} (h : Below B w w') (q : Nat) : Below B w (w'.drewN q) := ⟨h.os, h.tape, h.output, h.size, h.block⟩
set_option maxHeartbeats 2000000 in
theorem sameForest_same (a b : Option Addr) (n c d : Nat) (F : Nat → Acc) (w : World) (ha : Fo w a n F) (hb : Fo w b n F) :
    Calls Tryz.prog 14 #[.slice a n c, .slice b n d] w fun e w' => e = .returned (.bool true) ∧ Below w.heap.size w w' := by
  have HA : Hid (Fo w a n F) := ha
  have HB : Hid (Fo w b n F) := hb
  have hn := ha.1
  clear ha hb
  go_enter Tryz.func14, Tryz.ntmps14
  go_wp2
  go_loopw [5] (fun i wr => ∃ (k q : Nat), k ≤ n ∧ i = .int .i64 k ∧ wr = w.drewN q) (fun i _ => n - (intOf i).toNat)
  case atStart => exact ⟨0, 0, Nat.zero_le _, rfl, rfl⟩
  case round =>
    obtain ⟨k, q, hk, rfl, rfl⟩ := hrel
    by_cases hlt : k < n
    · obtain ⟨b1, o1, rfl, hz1, c0, c1, c2, c3, c4, c5, c6, c7⟩ := HA.out.acc hlt
      obtain ⟨b2, o2, rfl, hz2, d0, d1, d2, d3, d4, d5, d6, d7⟩ := HB.out.acc hlt
      generalize F k = x at c0 c1 c2 c3 c4 c5 c6 c7 d0 d1 d2 d3 d4 d5 d6 d7
      go_wp2
      go_quiet (fail)
      go_wp2
      go_roundw
      case rel => exact ⟨k + 1, _, by omega, by go_num, rfl⟩
      case measure => simp [intOf]; omega
    · go_wp2
      go_ret
      exact ⟨rfl, below_drewQ (Below.refl _ _) _⟩
set_option maxHeartbeats 1000000 in
theorem sameInts_same (B1 B2 : Nat) (v1 v2 : Value) (l : List Int) (w : World) (hl : l.length ≤ 1048576) (h1 : IL w B1 v1 l) (h2 : IL w B2 v2 l) :
    Calls Tryz.prog 35 #[v1, v2] w fun e w' => e = .returned (.bool true) ∧ Below w.heap.size w w' := by
  obtain ⟨a1, m1, rfl, _, s1⟩ := h1.shape
  obtain ⟨a2, m2, rfl, _, s2⟩ := h2.shape
  have S1 : Hid (∀ i, i < l.length → ∃ g, a1 = some ⟨g, 0, none⟩ ∧ w.cell? ⟨g, i, none⟩ = some (.int .i64 (l.getD i 0))) := fun i hi => by obtain ⟨g, e, _, _, _, hc, _⟩ := s1 i hi; exact ⟨g, e, hc⟩
  have S2 : Hid (∀ i, i < l.length → ∃ g, a2 = some ⟨g, 0, none⟩ ∧ w.cell? ⟨g, i, none⟩ = some (.int .i64 (l.getD i 0))) := fun i hi => by obtain ⟨g, e, _, _, _, hc, _⟩ := s2 i hi; exact ⟨g, e, hc⟩
  clear s1 s2 h1 h2
  generalize hn : l.length = n at *
  go_enter Tryz.func35, Tryz.ntmps35
  go_wp2
  go_loopw [5] (fun i wr => ∃ (k q : Nat), k ≤ n ∧ i = .int .i64 k ∧ wr = w.drewN q) (fun i _ => n - (intOf i).toNat)
  case atStart => exact ⟨0, 0, Nat.zero_le _, rfl, rfl⟩
  case round =>
    obtain ⟨k, q, hk, rfl, rfl⟩ := hrel
    by_cases hlt : k < n
    · obtain ⟨g, rfl, c1⟩ := S1.out k hlt
      obtain ⟨g', rfl, c2⟩ := S2.out k hlt
      generalize l.getD k 0 = z at c1 c2
      have hk0 : (k : Int) < (n : Int) := by omega
      go_wp2
      go_quiet (fail)
      go_wp2
      go_roundw
      case rel => exact ⟨k + 1, _, by omega, by go_num, rfl⟩
      case measure => simp [intOf]; omega
    · go_wp2
      go_ret
      exact ⟨rfl, below_drewQ (Below.refl _ _) _⟩
end Go.Proofs.YtghkbhggopiajaaGreatDoor
