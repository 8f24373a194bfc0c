/- Ops of a bank: which are right, of both. -/
import Derived.Test.YtedhlmipcfdldaaDoorBop
namespace Go.Proofs.YtedhlmipcfdldaaDoor
open Go.RowKit
set_option maxRecDepth 8000

theorem Tells.iff {e : Ending} {P Q : Prop} (h : Tells e P) (k : P ↔ Q) : Tells e Q := by
  obtain ⟨b, he, h1, h2⟩ := h
  exact ⟨b, he, fun hb => k.1 (h1 hb), fun hb hq => h2 hb (k.2 hq)⟩

theorem implBop (K n : Int) (x : OpF) (o : Ord) (w : World) :
    Calls Tryd.prog 27 #[.agg #[.int .i64 K, .int .i64 x.k, .int .i64 x.i, .int .i64 x.t, .int .i64 x.m, .int .i64 x.r, .int .i64 o.id, .int .i64 o.src, .int .i64 o.dst, .int .i64 o.amount, .int .i64 o.first, .int .i64 o.every, .int .i64 o.times, .int .i64 n]] w fun e w' => Tells e (bopOk K x o n) ∧ Below w.heap.size w w' := by
  by_cases h19 : K = 19
  · subst h19
    refine (implBop_op n x o w).mono fun e w' h => ⟨h.1.iff ?_, h.2⟩
    unfold bopOk zeroX zeroO
    constructor
    · rintro ⟨h1, h2, h3⟩; exact Or.inl ⟨rfl, h1, h2, h3⟩
    · rintro (⟨_, h1, h2, h3⟩ | ⟨h1, _⟩ | ⟨h1, _⟩ | ⟨h1, _⟩)
      · exact ⟨h1, h2, h3⟩
      all_goals omega
  by_cases h20 : K = 20
  · subst h20
    refine (implBop_order n x o w).mono fun e w' h => ⟨h.1.iff ?_, h.2⟩
    unfold bopOk zeroX zeroO
    constructor
    · rintro ⟨h1, h2, h3⟩; exact Or.inr (Or.inl ⟨rfl, h2, h1, h3⟩)
    · rintro (⟨h1, _⟩ | ⟨_, h1, h2, h3⟩ | ⟨h1, _⟩ | ⟨h1, _⟩)
      · omega
      · exact ⟨h2, h1, h3⟩
      all_goals omega
  by_cases h21 : K = 21
  · subst h21
    refine (implBop_cancel n x o w).mono fun e w' h => ⟨h.1.iff ?_, h.2⟩
    unfold bopOk zeroX zeroO
    constructor
    · rintro ⟨h1, h2, h3⟩; exact Or.inr (Or.inr (Or.inl ⟨rfl, h2, h3, h1⟩))
    · rintro (⟨h1, _⟩ | ⟨h1, _⟩ | ⟨_, h1, h2, h3⟩ | ⟨h1, _⟩)
      · omega
      · omega
      · exact ⟨h3, h1, h2⟩
      · omega
  refine (implBop_day K n x o w h19 h20 h21).mono fun e w' h => ⟨h.1.iff ?_, h.2⟩
  unfold bopOk zeroX zeroO
  constructor
  · rintro ⟨h1, h2, h3, h4⟩; exact Or.inr (Or.inr (Or.inr ⟨h1, h2, h3, h4⟩))
  · rintro (⟨h1, _⟩ | ⟨h1, _⟩ | ⟨h1, _⟩ | h1)
    · exact absurd h1 h19
    · exact absurd h1 h20
    · exact absurd h1 h21
    · exact h1

end Go.Proofs.YtedhlmipcfdldaaDoor
