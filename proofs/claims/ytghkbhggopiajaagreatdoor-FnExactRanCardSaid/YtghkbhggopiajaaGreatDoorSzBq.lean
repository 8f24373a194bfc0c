/- The size of a bank as the laws take it. -/
import Derived.Test.YtghkbhggopiajaaGreatDoorEdmq
namespace Go.Proofs.YtghkbhggopiajaaGreatDoor
open Go.RowKit
set_option maxRecDepth 8000
theorem AL.past {w w' : World} {B : Nat} {v : Value} {l : List Acc} {row : Option Nat} (h : AL w B v l) (g : w.grownBy w' row) (hne : ∀ q, v.ownBlock = some q -> row = some q -> False) : AL w' B v l := World.ownsRow.kept h g (by
 cases hb : v.ownBlock with
 | none => exact Or.inl rfl
 | some q => right; intro e; exact hne q hb e.symm)
theorem OrdL.past {w w' : World} {B : Nat} {v : Value} {l : List Ord} {row : Option Nat} (h : OrdL w B v l) (g : w.grownBy w' row) (hne : ∀ q, v.ownBlock = some q -> row = some q -> False) : OrdL w' B v l := World.ownsRow.kept h g (by
 cases hb : v.ownBlock with
 | none => exact Or.inl rfl
 | some q => right; intro e; exact hne q hb e.symm)
theorem szBank_yes (a b : Option Addr) (n c m d : Nat) (k : Bk) (w : World) (h : n + m <= 1048576) :
  Calls Tryz.prog 41 #[.agg #[.int .i64 k.day, .slice a n c, .slice b m d, .int .i64 k.inn, .int .i64 k.out, .int .i64 k.posted, .int .i64 k.missed], .int .i64 1048576] w fun e w' => e = .returned (.int .i64 (1048576 - (n : Int) - (m : Int))) /\ Below w.heap.size w w' := by
 have g1 : decide (1048576 - (n : Int) < 0) = false := by simp; omega
 have g2 : decide (1048576 - (n : Int) - (m : Int) < 0) = false := by simp; omega
 go_enter Tryz.func41, Tryz.ntmps41
 go_wp2_with (first | (go_at_call 36; refine (szAccountS_yes a n c _ (by omega)).mono ?_; rintro e wz ⟨rfl, hwz⟩; subst wz) | (go_at_call 93; refine (szSOrd_yes b m d (1048576 - (n : Int)) _ (by omega) (by omega)).mono ?_; rintro e wz ⟨rfl, hwz⟩; subst wz))
 go_ret
 exact ⟨rfl, (Below.refl _ _).alloc (Nat.le_refl _) _⟩
theorem szBank_no (a b : Option Addr) (n c m d : Nat) (k : Bk) (w : World) (h : 1048576 < n + m) (hn : n <= 9223372036854775807) (hm : m <= 9223372036854775807) :
  Calls Tryz.prog 41 #[.agg #[.int .i64 k.day, .slice a n c, .slice b m d, .int .i64 k.inn, .int .i64 k.out, .int .i64 k.posted, .int .i64 k.missed], .int .i64 1048576] w fun e w' => e = .returned (.int .i64 (-1)) /\ Below w.heap.size w w' := by
 by_cases h1 : n <= 1048576
 ·have g1 : decide (1048576 - (n : Int) < 0) = false := by simp; omega
  go_enter Tryz.func41, Tryz.ntmps41
  go_wp2_with (first | (go_at_call 36; refine (szAccountS_yes a n c _ (by omega)).mono ?_; rintro e wz ⟨rfl, hwz⟩; subst wz) | (go_at_call 93; refine (szSOrd_no b m d (1048576 - (n : Int)) _ (by omega) (by omega) hm).mono ?_; rintro e wz ⟨rfl, hwz⟩; subst wz))
  go_ret
  exact ⟨rfl, (Below.refl _ _).alloc (Nat.le_refl _) _⟩
 ·go_enter Tryz.func41, Tryz.ntmps41
  go_wp2_with (go_at_call 36; refine (szAccountS_no a n c _ (by omega) hn).mono ?_; rintro e wz ⟨rfl, hwz⟩; subst wz)
  go_ret
  exact ⟨rfl, (Below.refl _ _).alloc (Nat.le_refl _) _⟩
end Go.Proofs.YtghkbhggopiajaaGreatDoor
