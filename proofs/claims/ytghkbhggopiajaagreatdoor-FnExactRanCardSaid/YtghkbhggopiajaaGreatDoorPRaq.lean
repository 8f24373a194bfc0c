/- FnExactRan. -/
import Derived.Test.YtghkbhggopiajaaGreatDoorFrameXq
import Derived.Test.YtghkbhggopiajaaGreatDoorLawRbq
namespace Go.Proofs.YtghkbhggopiajaaGreatDoor
open Go.ChangeShapes Go.WideShapes Go.ChangeAt Go.RowKit
set_option linter.unusedVariables false
set_option maxRecDepth 100000 in
theorem fnExactRan_lifted (os : Os) (started : os.Started) (H : Type) (enc : TypeId × Value -> H) :
  ReturnsInHanded {} Tryz.checked os 9 .any (fun w args => (Rows.fnExactRanSpec.pre enc Tryz.prog Tryz.f9 [] false w args /\ laidMetH Tryz.prog Rows.fnExactRanRow.laid w) /\ sizedMet enc Tryz.prog Tryz.f9 (OpenSpec.ofChange Rows.fnExactRanSpec) false w args)
   (Rows.fnExactRanSpec.post enc Tryz.prog Tryz.f9 false true false false) := by
 refine returnsInHanded_of_change_and (C := Tryz.checked) (X := fun w _ => laidMetH Tryz.prog Rows.fnExactRanRow.laid w) (fun _ _ _ hh h => h.of_heap hh) own started (by kernel_rfl) Tryz.func9
  (ChangeSpec.witness_shaped (enc := enc) (C := Tryz.checked) (os := os) (X := fun w _ => laidMetH Tryz.prog Rows.fnExactRanRow.laid w) false (World.doorLaid Tryz.prog 4000 os) #[.agg #[.int .i64 0, .slice none 0 0, .slice none 0 0, .int .i64 0, .int .i64 0, .int .i64 0, .int .i64 0], .agg #[.int .i64 0, .int .i64 0, .int .i64 0, .int .i64 0, .int .i64 0, .int .i64 0, .int .i64 0, .int .i64 0, .int .i64 0, .int .i64 0, .int .i64 0, .int .i64 0, .int .i64 0, .int .i64 0]] 8 rfl (World.shaped_of_RefB (by kernel_rfl) (by kernel_rfl)) (by kernel_rfl) (by kernel_rfl) (by kernel_rfl) (door_met os _)) ?_
 intro W base args ds gs before hval0 hW _ _ hL _
 have hval : ∀ (j : Nat) t v, Tryz.f9.params[j]? = some t -> args[j]? = some v -> Value.okWide Tryz.prog W .any base t v := hval0
 have hW' := hW
 obtain ⟨p, q, hA0, hV0, rfl, hfz, hnd⟩ := hW
 have hA : DataW.TrodAll enc Tryz.prog W 0 (fun _ => true) true Tryz.f9.params.toList args.toList ds p := hA0
 have hV : DataW.TrodVars enc Tryz.prog W (fun _ => true) vars7 gs q := hV0
 rw [Tryz.params9] at hA hval
 obtain ⟨v0, v1, d0, d1, p0, p1, rfl, rfl, rfl, h0, h1⟩ := trodAll_two hA
 obtain ⟨g1, g2, g3, g4, g5, g6, g7, rfl⟩ := list7 (trodVars_len vars7 gs q hV)
 have k0 := h0
 have k1 := h1
 have lt0 : ∀ x ∈ p0, x.block < W.heap.size := by obtain ⟨m, hm⟩ := k0; exact DataW.trod_lt m _ _ _ hm
 have lt1 : ∀ x ∈ p1, x.block < W.heap.size := by obtain ⟨m, hm⟩ := k1; exact DataW.trod_lt m _ _ _ hm
 obtain ⟨cs1, rfl, _⟩ := okWide_struct Tryz.underlying77 (hval 1 77 v1 rfl rfl)
 obtain ⟨fuel1, hf1⟩ := h1
 obtain ⟨zK, zn, zx, zo, ecs1⟩ := bop_of_trod hf1
 obtain ⟨l1⟩ := cs1
 simp [Value.cells] at ecs1
 subst ecs1
 obtain ⟨cs0, rfl, _⟩ := okWide_struct Tryz.underlying69 (hval 0 69 v0 rfl rfl)
 obtain ⟨fuel0, hf0⟩ := h0
 obtain ⟨y0, y3, y4, y5, y6, a0, n0, c0, b0, m0, d0x, ecs, hn0, hm0, F0, O0, hF0, hO0⟩ := bank_of_trod hf0
 obtain ⟨l0⟩ := cs0
 simp [Value.cells] at ecs
 subst ecs
 obtain ⟨pe, hG⟩ := ge_of_laid hL
 clear hA0 hV0 hval0
 refine (lawRan a0 b0 n0 c0 m0 d0x F0 O0 ⟨y0, y3, y4, y5, y6⟩ zK zn zx zo pe W hn0 hm0 hF0 hO0 hG).mono fun e W' ⟨he, bel⟩ => ?_
 subst he
 exact ⟨_, rfl, _, _, _, [], _, _, hW', trodAll_mk1 (shut_bool Tryz.underlying4 _), trodAll_mk2 (Below.trod laidOut (by kernel_rfl) (of_decide_eq_true (by kernel_rfl)) k0 bel lt0) (Below.trod laidOut (by kernel_rfl) (of_decide_eq_true (by kernel_rfl)) k1 bel lt1), Below.trodVars laidOut bel rowed hV, bel.frame _, fun h => by cases h⟩
end Go.Proofs.YtghkbhggopiajaaGreatDoor
