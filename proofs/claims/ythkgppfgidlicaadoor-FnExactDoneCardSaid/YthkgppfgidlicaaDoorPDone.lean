/-
  FnExactDone: the law returns true, whatever the accounts and the op; the input reads as it did.
  The frame is the guide's way; the walk is ours.
-/
import Derived.Test.YthkgppfgidlicaaDoorRows
import Derived.Test.YthkgppfgidlicaaDoorCards
import Derived.Test.YthkgppfgidlicaaDoorTie
import Derived.Test.YthkgppfgidlicaaDoorLawDone
import Derived.Test.YthkgppfgidlicaaDoorGe
import Derived.Test.YthkgppfgidlicaaDoorOpen
import Derived.WalkKit
import Derived.ProofKit
import Derived.OpenShut
import Derived.OpenVars
import Derived.LaidMore
import Derived.MakeChecks
import Derived.SevenTiedAt
namespace Go.Proofs.YthkgppfgidlicaaDoor
open Go.ChangeShapes Go.WideShapes Go.ChangeAt Go.RowKit
set_option linter.unusedVariables false

theorem own : ownKnob Tryd.prog.godebug = none := by kernel_rfl
theorem laidOut : laidOutB Tryd.prog = true := by kernel_rfl
def vars7 : List String := ["loop.example/g00362/impl.errForm", "loop.example/g00362/impl.errFull", "loop.example/g00362/impl.errNone", "loop.example/g00362/impl.errThere", "loop.example/g00362/impl.errFrozen", "loop.example/g00362/impl.errShort", "loop.example/g00362/impl.errBusy"]
theorem rowed : varsRowed Tryd.prog vars7 = true := by kernel_rfl

set_option maxRecDepth 8000 in
set_option maxHeartbeats 1000000 in
theorem lawDone_big (a : Option Addr) (n c : Nat) (k i t m r : Int) (w : World) (hn : 1048576 < n) (hm : n ≤ 9223372036854775807) :
    Calls Tryd.prog 3 #[.slice a n c, .agg #[.int .i64 k, .int .i64 i, .int .i64 t, .int .i64 m, .int .i64 r]] w fun e w' => e = .returned (.bool true) ∧ Below w.heap.size w w' := by
  go_enter Tryd.func3, Tryd.ntmps3
  go_wp2_with (go_at_call 4; refine (szAccountS_no _ _ _ _ hn hm).mono ?_; rintro e w' ⟨rfl, rfl⟩)
  go_ret
  exact ⟨rfl, (Below.refl _ _).alloc (Nat.le_refl _) _⟩
theorem lawDoneF (a : Option Addr) (n c : Nat) (F : Nat → Acc) (k i t m r : Int) (p : Nat → Addr) (w : World) (hm : n ≤ 9223372036854775807) (h : n ≤ 1048576 → Fo w a n F) (hG : GE w p) :
    Calls Tryd.prog 3 #[.slice a n c, .agg #[.int .i64 k, .int .i64 i, .int .i64 t, .int .i64 m, .int .i64 r]] w fun e w' => e = .returned (.bool true) ∧ Below w.heap.size w w' := by
  by_cases hn : n ≤ 1048576
  · have hl := toL_len F n
    have hF : Fo w a (toL F n).length (FL (toL F n)) := by rw [hl]; exact (h hn).congr (fun j hj => (FL_toL hj).symm)
    have := lawDone a c (toL F n) k i t m r p w (by rw [hl]; exact hn) hF hG
    rw [hl] at this
    exact this
  · exact lawDone_big a n c k i t m r w (by omega) hm
theorem door_met (os : Os) (args : Array Value) : laidMetH Tryd.prog Rows.fnExactDoneRow.laid ((World.doorLaid Tryd.prog 4000 os).forCall (fun _ _ => 0) ⟨#[], args, []⟩).memory :=
  laidMetH_of_parts3 (fuel := 8) (laidMet_of_run' 8 (by kernel_rfl) (by kernel_rfl)) (by kernel_rfl) (by kernel_rfl)

theorem trodVars_len {H : Type} {enc : TypeId × Value → H} {W : World} {sp : Nat → Bool} : ∀ (names : List String) (gs : List (DataW H)) (q : List MemPlace), DataW.TrodVars enc Tryd.prog W sp names gs q → gs.length = names.length
  | [], [], _, _ => rfl
  | [], _ :: _, _, h => by cases h
  | _ :: _, [], _, h => by cases h
  | _ :: ns, _ :: gs, _, h => by
    obtain ⟨_, _, _, _, _, q', _, _, _, _, h', _⟩ := h
    simp [trodVars_len ns gs q' h']
theorem list7 {A : Type} {l : List A} (h : l.length = 7) : ∃ a b c d e f g, l = [a, b, c, d, e, f, g] := by
  match l, h with
  | [a, b, c, d, e, f, g], _ => exact ⟨a, b, c, d, e, f, g, rfl⟩

set_option maxRecDepth 100000 in
theorem fnExactDone_lifted (os : Os) (started : os.Started) (H : Type) (enc : TypeId × Value → H) :
    ReturnsInHanded {} Tryd.checked os 3 .any (fun w args => (Rows.fnExactDoneSpec.pre enc Tryd.prog Tryd.f3 [] false w args ∧ laidMetH Tryd.prog Rows.fnExactDoneRow.laid w) ∧ sizedMet enc Tryd.prog Tryd.f3 (OpenSpec.ofChange Rows.fnExactDoneSpec) false w args)
      (Rows.fnExactDoneSpec.post enc Tryd.prog Tryd.f3 false true false false) := by
  refine returnsInHanded_of_change_and (C := Tryd.checked) (X := fun w _ => laidMetH Tryd.prog Rows.fnExactDoneRow.laid w) (fun _ _ _ hh h => h.of_heap hh) own started (by kernel_rfl) Tryd.func3
    (ChangeSpec.witness_shaped (enc := enc) (C := Tryd.checked) (os := os) (X := fun w _ => laidMetH Tryd.prog Rows.fnExactDoneRow.laid w) false (World.doorLaid Tryd.prog 4000 os) #[.slice none 0 0, .agg #[.int .i64 0, .int .i64 0, .int .i64 0, .int .i64 0, .int .i64 0]] 8 rfl (World.shaped_of_RefB (by kernel_rfl) (by kernel_rfl)) (by kernel_rfl) (by kernel_rfl) (by kernel_rfl) (door_met os _)) ?_
  intro W base args ds gs before hval0 hW _ _ hL _
  have hval : ∀ (j : Nat) t v, Tryd.f3.params[j]? = some t → args[j]? = some v → Value.okWide Tryd.prog W .any base t v := hval0
  have hW' := hW
  obtain ⟨p, q, hA0, hV0, rfl, hfz, hnd⟩ := hW
  have hA : DataW.TrodAll enc Tryd.prog W 0 (fun _ => true) true Tryd.f3.params.toList args.toList ds p := hA0
  have hV : DataW.TrodVars enc Tryd.prog W (fun _ => true) vars7 gs q := hV0
  rw [Tryd.params3] at hA hval
  obtain ⟨v0, v1, d0, d1, p0, p1, rfl, rfl, rfl, h0, h1⟩ := trodAll_two hA
  obtain ⟨g1, g2, g3, g4, g5, g6, g7, rfl⟩ := list7 (trodVars_len vars7 gs q hV)
  obtain ⟨a0, len0, cap0, rfl⟩ := okWide_slice Tryd.underlying22 (hval 0 22 v0 rfl rfl)
  have k0 := h0
  have k1 := h1
  have lt0 : ∀ x ∈ p0, x.block < W.heap.size := by obtain ⟨m, hm⟩ := k0; exact DataW.trod_lt m _ _ _ hm
  have lt1 : ∀ x ∈ p1, x.block < W.heap.size := by obtain ⟨m, hm⟩ := k1; exact DataW.trod_lt m _ _ _ hm
  obtain ⟨hm, F, hF⟩ := fo_of_trod h0
  obtain ⟨xk, xi, xt, xm, xr, rfl⟩ := op_open (hval 1 24 v1 rfl rfl) h1
  obtain ⟨pe, hG⟩ := ge_of_laid hL
  clear hA0 hV0 hval0
  refine (lawDoneF a0 len0 cap0 F xk xi xt xm xr pe W hm hF hG).mono fun e W' ⟨he, bel⟩ => ?_
  subst he
  exact ⟨_, rfl, _, _, _, [], _, _, hW', trodAll_mk1 (shut_bool Tryd.underlying4 _), trodAll_mk2 (Below.trod laidOut (by kernel_rfl) (of_decide_eq_true (by kernel_rfl)) k0 bel lt0) (Below.trod laidOut (by kernel_rfl) (of_decide_eq_true (by kernel_rfl)) k1 bel lt1), Below.trodVars laidOut bel rowed hV, bel.frame _, fun h => by cases h⟩

theorem fnExactDone_row : Rows.fnExactDoneRow.holds Tryd.pinned (OpenSpec.ofChange Rows.fnExactDoneSpec) :=
  OpenClaim.holds_of_wide 3 Tryd.f3 rfl rfl rfl rfl rfl rfl rfl ⟨rfl, rfl, rfl, rfl, rfl⟩ rfl rfl rfl rfl rfl (by kernel_rfl) Tryd.func3 (by kernel_rfl)
    (of_decide_eq_true (by kernel_rfl)) (by unfold Func.isWrapper; first | (rw [if_pos (by decide +kernel)]; kernel_rfl) | (rw [if_neg (by decide +kernel)]; exact ⟨rfl, rfl⟩))
    (fun os started H enc _ => fnExactDone_lifted os started H enc)

/-- The card, tied to the program's text. -/
theorem fnExactDone_card : Rows.FnExactDoneCardSaid :=
  Claim7.holds_tied_plain_at .later [] [.handle, .sentinel, .sentinel, .sentinel, .sentinel, .sentinel, .sentinel, .sentinel] true (true, "9aa9804a3955026f7cd2dbea6fcbaaa20bd4b97f9d0f1a98d905b0bafa068a4c") true
    fnExactDone_row (fun _ h => by cases h) (by kernel_rfl) (fun _ h => by cases h) fnExactDone_row_tie rfl ⟨rfl, rfl⟩ (by kernel_rfl) rfl
    (fun f fn hf hfn => by
      obtain rfl : f = 3 := Option.some.inj ((show Tryd.prog.funcNamed "loop.example/g00362/laws.FnExactDone" = some 3 by kernel_rfl).symm.trans hf) |>.symm
      obtain rfl : fn = Tryd.f3 := (Option.some.inj (Tryd.func3.symm.trans hfn)).symm
      exact ⟨by kernel_rfl, fun j t ht => by
        rw [Tryd.params3] at ht
        have hm : t ∈ [22, 24] := by simpa using Array.mem_of_getElem? ht
        have hall : ([22, 24].all fun u => !Tryd.prog.wantsStandIn u) = true := by kernel_rfl
        exact (show Tryd.prog.wantsStandIn t = false by simpa using List.all_eq_true.1 hall t hm)⟩)
    (by kernel_rfl)
#print axioms fnExactDone_card
end Go.Proofs.YthkgppfgidlicaaDoor
