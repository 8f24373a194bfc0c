/-
  FnExactDoneAll: for all accounts and ops the law returns true and leaves its arguments as they were: the program's DoneAll answers as the specification's. The package's errors start as the program's text lays them.
  The frame is the guide's way; the walk is ours.
-/
import Derived.Test.YthkgppfgidlicaaGreatDoorChA
import Derived.ProofKit
import Derived.OpenShut
import Derived.Deep.Slices
import Derived.Test.YthkgppfgidlicaaGreatDoorFrame
import Derived.Test.YthkgppfgidlicaaGreatDoorLawAll
namespace Go.Proofs.YthkgppfgidlicaaGreatDoor
open Go.ChangeShapes Go.WideShapes Go.ChangeAt Go.RowKit

theorem list8 {l : List Value} (h : l.length = 8) : ∃ a b c d e f g i, l = [a, b, c, d, e, f, g, i] := by
  match l, h with
  | [a, b, c, d, e, f, g, i], _ => exact ⟨a, b, c, d, e, f, g, i, rfl⟩
theorem cells39o : Tryz.prog.cellsOf 84 = 8 := by kernel_rfl
theorem cells2o : Tryz.prog.cellsOf 2 = 1 := by kernel_rfl
theorem cells4o : Tryz.prog.cellsOf 4 = 1 := by kernel_rfl

theorem acc_of_trod {H : Type} {enc : TypeId × Value → H} {W : World} {base : Nat} {spare : Nat → Bool} {held : Bool} {fuel : Nat} {cs : List Value} {x : DataW H × List MemPlace}
    (h : DataW.trod enc Tryz.prog W base spare held fuel 84 cs = some x) : ∃ A : Acc, cs = [.int .i64 A.id, .int .i64 A.up, .int .i64 A.limit, .int .i64 A.rate, .int .i64 A.target, .bool A.frozen, .int .i64 A.balance, .int .i64 A.carry] := by
  obtain ⟨xs, n, _, _, hl, hlen, hf⟩ := DataW.trod_struct Tryz.underlying84 h
  rw [cells39o] at hl
  obtain ⟨c0, c1, c2, c3, c4, c5, c6, c7, rfl⟩ := list8 hl
  have hx : xs.length = 8 := by simpa using hlen
  have g0 : DataW.trod enc Tryz.prog W base spare held n 2 [c0] = xs[0]? := by have := hf 0 _ rfl; simpa [cells2o] using this
  have g1 : DataW.trod enc Tryz.prog W base spare held n 2 [c1] = xs[1]? := by have := hf 1 _ rfl; simpa [cells2o] using this
  have g2 : DataW.trod enc Tryz.prog W base spare held n 2 [c2] = xs[2]? := by have := hf 2 _ rfl; simpa [cells2o] using this
  have g3 : DataW.trod enc Tryz.prog W base spare held n 2 [c3] = xs[3]? := by have := hf 3 _ rfl; simpa [cells2o] using this
  have g4 : DataW.trod enc Tryz.prog W base spare held n 2 [c4] = xs[4]? := by have := hf 4 _ rfl; simpa [cells2o] using this
  have g5 : DataW.trod enc Tryz.prog W base spare held n 4 [c5] = xs[5]? := by have := hf 5 _ rfl; simpa [cells4o] using this
  have g6 : DataW.trod enc Tryz.prog W base spare held n 2 [c6] = xs[6]? := by have := hf 6 _ rfl; simpa [cells2o] using this
  have g7 : DataW.trod enc Tryz.prog W base spare held n 2 [c7] = xs[7]? := by have := hf 7 _ rfl; simpa [cells2o] using this
  rw [List.getElem?_eq_getElem (by omega)] at g0 g1 g2 g3 g4 g5 g6 g7
  obtain ⟨x0, e0, _, _⟩ := DataW.trod_int Tryz.underlying2 g0
  obtain ⟨x1, e1, _, _⟩ := DataW.trod_int Tryz.underlying2 g1
  obtain ⟨x2, e2, _, _⟩ := DataW.trod_int Tryz.underlying2 g2
  obtain ⟨x3, e3, _, _⟩ := DataW.trod_int Tryz.underlying2 g3
  obtain ⟨x4, e4, _, _⟩ := DataW.trod_int Tryz.underlying2 g4
  obtain ⟨x5, e5, _⟩ := DataW.trod_bool Tryz.underlying4 g5
  obtain ⟨x6, e6, _, _⟩ := DataW.trod_int Tryz.underlying2 g6
  obtain ⟨x7, e7, _, _⟩ := DataW.trod_int Tryz.underlying2 g7
  simp at e0 e1 e2 e3 e4 e5 e6 e7
  exact ⟨⟨x0, x1, x2, x3, x4, x5, x6, x7⟩, by rw [e0, e1, e2, e3, e4, e5, e6, e7]⟩

/-- The slice as the walks want it. -/
theorem fo_of_trod {H : Type} {enc : TypeId × Value → H} {W : World} {a : Option Addr} {len cap : Nat} {d : DataW H} {p : List MemPlace}
    (h : DataW.Trod enc Tryz.prog W 0 (fun _ => true) true 49 (.slice a len cap) d p) : len ≤ 9223372036854775807 ∧ ∃ F : Nat → Acc, len ≤ 1048576 → Fo W a len F := by
  obtain ⟨fuel, hf⟩ := h
  rcases Go.Deep.open_slice Tryz.underlying49 hf with ⟨hcs, _⟩ | ⟨x, l, c, m, n, D, Pl, hcs, _, hlc, hm, hmm, _, hel⟩
  · simp [Value.cells] at hcs
    obtain ⟨rfl, rfl, rfl⟩ := hcs
    exact ⟨by omega, fun _ => ⟨0, 0, 0, 0, 0, false, 0, 0⟩, fun _ => ⟨by omega, Or.inl rfl⟩⟩
  · simp [Value.cells] at hcs
    obtain ⟨rfl, rfl, rfl⟩ := hcs
    unfold maxLen at hm
    refine ⟨by omega, ?_⟩
    have hex : ∀ i, i < len → ∃ A : Acc, ∀ j, j < 8 → W.cell? ((x.add (i * 8)).add j) = [Value.int .i64 A.id, .int .i64 A.up, .int .i64 A.limit, .int .i64 A.rate, .int .i64 A.target, .bool A.frozen, .int .i64 A.balance, .int .i64 A.carry][j]? := by
      intro i hi
      obtain ⟨cs', hc, ht⟩ := hel i (by rw [hmm]; simp; omega)
      obtain ⟨A, rfl⟩ := acc_of_trod ht
      rw [cells39o] at hc
      obtain ⟨_, _, hall⟩ := World.cells?_some hc
      exact ⟨A, fun j hj => hall j hj⟩
    haveI : Inhabited Acc := ⟨⟨0, 0, 0, 0, 0, false, 0, 0⟩⟩
    obtain ⟨F, hF⟩ := Go.Deep.choose_lt hex
    refine ⟨F, fun hle => ⟨hle, ?_⟩⟩
    by_cases h0 : len = 0
    · exact Or.inl h0
    right
    obtain ⟨b, off, spot⟩ := x
    have c00 := hF 0 (by omega) 0 (by omega)
    have hspot : spot = none := by simpa [Addr.add] using World.cell?_spot c00
    subst hspot
    have hadd : ∀ q, (⟨b, off, none⟩ : Addr).add q = ⟨b, off + q, none⟩ := fun q => by
      by_cases e : q = 0
      · subst e; simp [Addr.add]
      · simp [Addr.add, e]
    have hadd2 : ∀ q r, ((⟨b, off, none⟩ : Addr).add q).add r = ⟨b, off + q + r, none⟩ := fun q r => by
      rw [Go.Deep.add_add, hadd, Nat.add_assoc]
    refine ⟨b, off, rfl, World.block_lt_of_cell? W _ c00, fun i hi => ?_⟩
    have g := hF i hi
    simp only [hadd2] at g
    exact ⟨g 0 (by omega), g 1 (by omega), g 2 (by omega), g 3 (by omega), g 4 (by omega), g 5 (by omega), g 6 (by omega), g 7 (by omega)⟩
end Go.Proofs.YthkgppfgidlicaaGreatDoor

namespace Go.Proofs.YthkgppfgidlicaaGreatDoor
open Go.ChangeShapes Go.WideShapes Go.ChangeAt Go.RowKit
set_option linter.unusedVariables false

theorem cellsOpT : Tryz.prog.cellsOf 86 = 5 := by kernel_rfl
theorem opr_of_trod {H : Type} {enc : TypeId × Value → H} {W : World} {base : Nat} {spare : Nat → Bool} {held : Bool} {fuel : Nat} {cs : List Value} {x : DataW H × List MemPlace}
    (h : DataW.trod enc Tryz.prog W base spare held fuel 86 cs = some x) : ∃ A : OpR, cs = [.int .i64 A.k, .int .i64 A.i, .int .i64 A.t, .int .i64 A.m, .int .i64 A.r] := by
  obtain ⟨k, i, t, m, r, e⟩ := op_of_trod h
  exact ⟨⟨k, i, t, m, r⟩, e⟩
/-- The slice as the walks want it. -/
theorem OpRs_of_trod {H : Type} {enc : TypeId × Value → H} {W : World} {a : Option Addr} {len cap : Nat} {d : DataW H} {p : List MemPlace}
    (h : DataW.Trod enc Tryz.prog W 0 (fun _ => true) true 50 (.slice a len cap) d p) : len ≤ 9223372036854775807 ∧ ∃ F : Nat → OpR, len ≤ 1048576 → OpRs W a len F := by
  obtain ⟨fuel, hf⟩ := h
  rcases Go.Deep.open_slice Tryz.underlying50 hf with ⟨hcs, _⟩ | ⟨x, l, c, m, n, D, Pl, hcs, _, hlc, hm, hmm, _, hel⟩
  · simp [Value.cells] at hcs
    obtain ⟨rfl, rfl, rfl⟩ := hcs
    exact ⟨by omega, fun _ => ⟨0, 0, 0, 0, 0⟩, fun _ => ⟨by omega, Or.inl rfl⟩⟩
  · simp [Value.cells] at hcs
    obtain ⟨rfl, rfl, rfl⟩ := hcs
    unfold maxLen at hm
    refine ⟨by omega, ?_⟩
    have hex : ∀ i, i < len → ∃ A : OpR, ∀ j, j < 5 → W.cell? ((x.add (i * 5)).add j) = [Value.int .i64 A.k, .int .i64 A.i, .int .i64 A.t, .int .i64 A.m, .int .i64 A.r][j]? := by
      intro i hi
      obtain ⟨cs', hc, ht⟩ := hel i (by rw [hmm]; simp; omega)
      obtain ⟨A, rfl⟩ := opr_of_trod ht
      rw [cellsOpT] at hc
      obtain ⟨_, _, hall⟩ := World.cells?_some hc
      exact ⟨A, fun j hj => hall j hj⟩
    haveI : Inhabited OpR := ⟨⟨0, 0, 0, 0, 0⟩⟩
    obtain ⟨F, hF⟩ := Go.Deep.choose_lt hex
    refine ⟨F, fun hle => ⟨hle, ?_⟩⟩
    by_cases h0 : len = 0
    · exact Or.inl h0
    right
    obtain ⟨b, off, spot⟩ := x
    have c00 := hF 0 (by omega) 0 (by omega)
    have hspot : spot = none := by simpa [Addr.add] using World.cell?_spot c00
    subst hspot
    have hadd : ∀ q, (⟨b, off, none⟩ : Addr).add q = ⟨b, off + q, none⟩ := fun q => by
      by_cases e : q = 0
      · subst e; simp [Addr.add]
      · simp [Addr.add, e]
    have hadd2 : ∀ q r, ((⟨b, off, none⟩ : Addr).add q).add r = ⟨b, off + q + r, none⟩ := fun q r => by
      rw [Go.Deep.add_add, hadd, Nat.add_assoc]
    refine ⟨b, off, rfl, World.block_lt_of_cell? W _ c00, fun i hi => ?_⟩
    have g := hF i hi
    simp only [hadd2] at g
    exact ⟨g 0 (by omega), g 1 (by omega), g 2 (by omega), g 3 (by omega), g 4 (by omega)⟩

def toO (F : Nat → OpR) (n : Nat) : List OpR := (List.range n).map F
theorem toO_len (F : Nat → OpR) (n : Nat) : (toO F n).length = n := by simp [toO]
theorem OpRF_toO {F : Nat → OpR} {n j : Nat} (h : j < n) : OpRF (toO F n) j = F j := by
  rw [OpRF_lt (by rw [toO_len]; exact h)]
  simp [toO]
theorem OpRs.congr {w : World} {a : Option Addr} {n : Nat} {F G : Nat → OpR} (h : OpRs w a n F) (e : ∀ j, j < n → F j = G j) : OpRs w a n G := by
  refine ⟨h.1, ?_⟩
  rcases h.2 with h0 | ⟨b, o, ha, hlt, hall⟩
  · exact Or.inl h0
  · exact Or.inr ⟨b, o, ha, hlt, fun i hi => by rw [← e i hi]; exact hall i hi⟩

set_option maxRecDepth 8000 in
set_option maxHeartbeats 1000000 in
theorem lawAll_big (a : Option Addr) (n c : Nat) (oa : Option Addr) (on oc : Nat) (w : World) (hn : 1048576 < n) (hm : n ≤ 9223372036854775807) :
    Calls Tryz.prog 8 #[.slice a n c, .slice oa on oc] w fun e w' => e = .returned (.bool true) ∧ Below w.heap.size w w' := by
  go_enter Tryz.func8, Tryz.ntmps8
  go_wp2_with (go_at_call 25; refine (szAccountS_no _ _ _ _ hn hm).mono ?_; rintro e w' ⟨rfl, rfl⟩)
  go_ret
  exact ⟨rfl, Below.refl _ _⟩
set_option maxRecDepth 8000 in
set_option maxHeartbeats 1000000 in
theorem lawAll_big2 (a : Option Addr) (n c : Nat) (oa : Option Addr) (on oc : Nat) (w : World) (hn : n ≤ 1048576) (hon : 1048576 - (n : Int) < (on : Int)) (hm : on ≤ 9223372036854775807) :
    Calls Tryz.prog 8 #[.slice a n c, .slice oa on oc] w fun e w' => e = .returned (.bool true) ∧ Below w.heap.size w w' := by
  have hsz : decide (1048576 - (n : Int) < 0) = false := by simp; omega
  go_enter Tryz.func8, Tryz.ntmps8
  go_wp2_with fail
  refine (szAccountS_yes _ _ _ _ hn).mono ?_
  rintro e wz ⟨rfl, hwz⟩
  subst wz
  go_wp2_with fail
  refine (szSOpR_no _ _ _ _ _ hon (by omega) hm).mono ?_
  rintro e wz ⟨rfl, hwz⟩
  subst wz
  go_wp2
  go_ret
  exact ⟨rfl, Below.refl _ _⟩
theorem lawAllF (a : Option Addr) (n c : Nat) (F : Nat → Acc) (oa : Option Addr) (on oc : Nat) (OF : Nat → OpR) (p : Nat → Addr) (w : World) (hm : n ≤ 9223372036854775807) (h : n ≤ 1048576 → Fo w a n F) (hm2 : on ≤ 9223372036854775807) (h2 : on ≤ 1048576 → OpRs w oa on OF) (hG : GE w p) :
    Calls Tryz.prog 8 #[.slice a n c, .slice oa on oc] w fun e w' => e = .returned (.bool true) ∧ Below w.heap.size w w' := by
  by_cases hn : n ≤ 1048576
  · by_cases hon : (on : Int) ≤ 1048576 - (n : Int)
    · have hl := toL_len F n
      have hF : Fo w a (toL F n).length (FL (toL F n)) := by rw [hl]; exact (h hn).congr (fun j hj => (FL_toL hj).symm)
      have hl2 := toO_len OF on
      have hO : OpRs w oa (toO OF on).length (OpRF (toO OF on)) := by rw [hl2]; exact (h2 (by omega)).congr (fun j hj => (OpRF_toO hj).symm)
      have := lawAll a c (toL F n) oa oc (toO OF on) p w (by rw [hl]; omega) (by rw [hl, hl2]; exact hon) hF hO hG
      rw [hl, hl2] at this
      exact this
    · exact lawAll_big2 a n c oa on oc w hn (by omega) hm2
  · exact lawAll_big a n c oa on oc w (by omega) hm

set_option maxRecDepth 100000 in
theorem fnExactDoneAll_lifted (os : Os) (started : os.Started) (H : Type) (enc : TypeId × Value → H) :
    ReturnsInHanded {} Tryz.checked os 8 .any (fun w args => (Rows.fnExactDoneAllSpec.pre enc Tryz.prog Tryz.f8 [] false w args ∧ laidMetH Tryz.prog Rows.fnExactDoneAllRow.laid w) ∧ sizedMet enc Tryz.prog Tryz.f8 (OpenSpec.ofChange Rows.fnExactDoneAllSpec) false w args)
      (Rows.fnExactDoneAllSpec.post enc Tryz.prog Tryz.f8 false true false false) := by
  refine returnsInHanded_of_change_and (C := Tryz.checked) (X := fun w _ => laidMetH Tryz.prog Rows.fnExactDoneAllRow.laid w) (fun _ _ _ hh h => h.of_heap hh) own started (by kernel_rfl) Tryz.func8
    (ChangeSpec.witness_shaped (enc := enc) (C := Tryz.checked) (os := os) (X := fun w _ => laidMetH Tryz.prog Rows.fnExactDoneAllRow.laid w) false (World.doorLaid Tryz.prog 4000 os) #[.slice none 0 0, .slice none 0 0] 8 rfl (World.shaped_of_RefB (by kernel_rfl) (by kernel_rfl)) (by kernel_rfl) (by kernel_rfl) (by kernel_rfl) (door_met os _)) ?_
  intro W base args ds gs before hval0 hW _ _ hL _
  have hval : ∀ (j : Nat) t v, Tryz.f8.params[j]? = some t → args[j]? = some v → Value.okWide Tryz.prog W .any base t v := hval0
  have hW' := hW
  obtain ⟨p, q, hA0, hV0, rfl, hfz, hnd⟩ := hW
  have hA : DataW.TrodAll enc Tryz.prog W 0 (fun _ => true) true Tryz.f8.params.toList args.toList ds p := hA0
  have hV : DataW.TrodVars enc Tryz.prog W (fun _ => true) vars7 gs q := hV0
  rw [Tryz.params8] at hA hval
  obtain ⟨v0, v1, d0, d1, p0, p1, rfl, rfl, rfl, h0, h1⟩ := trodAll_two hA
  obtain ⟨g1, g2, g3, g4, g5, g6, g7, rfl⟩ := list7 (trodVars_len vars7 gs q hV)
  obtain ⟨a0, len0, cap0, rfl⟩ := okWide_slice Tryz.underlying49 (hval 0 49 v0 rfl rfl)
  obtain ⟨a1, len1, cap1, rfl⟩ := okWide_slice Tryz.underlying50 (hval 1 50 v1 rfl rfl)
  have k0 := h0
  have k1 := h1
  have lt0 : ∀ x ∈ p0, x.block < W.heap.size := by obtain ⟨m, hm⟩ := k0; exact DataW.trod_lt m _ _ _ hm
  have lt1 : ∀ x ∈ p1, x.block < W.heap.size := by obtain ⟨m, hm⟩ := k1; exact DataW.trod_lt m _ _ _ hm
  obtain ⟨hm, F, hF⟩ := fo_of_trod h0
  obtain ⟨hm2, OF, hO⟩ := OpRs_of_trod h1
  obtain ⟨pe, hG⟩ := ge_of_laid hL
  clear hA0 hV0 hval0
  refine (lawAllF a0 len0 cap0 F a1 len1 cap1 OF pe W hm hF hm2 hO hG).mono fun e W' ⟨he, bel⟩ => ?_
  subst he
  exact ⟨_, rfl, _, _, _, [], _, _, hW', trodAll_mk1 (shut_bool Tryz.underlying4 _), trodAll_mk2 (Below.trod laidOut (by kernel_rfl) (of_decide_eq_true (by kernel_rfl)) k0 bel lt0) (Below.trod laidOut (by kernel_rfl) (of_decide_eq_true (by kernel_rfl)) k1 bel lt1), Below.trodVars laidOut bel rowed hV, bel.frame _, fun h => by cases h⟩

theorem fnExactDoneAll_row : Rows.fnExactDoneAllRow.holds Tryz.pinned (OpenSpec.ofChange Rows.fnExactDoneAllSpec) :=
  OpenClaim.holds_of_wide 8 Tryz.f8 rfl rfl rfl rfl rfl rfl rfl ⟨rfl, rfl, rfl, rfl, rfl⟩ rfl rfl rfl rfl rfl (by kernel_rfl) Tryz.func8 (by kernel_rfl)
    (of_decide_eq_true (by kernel_rfl)) (by unfold Func.isWrapper; first | (rw [if_pos (by decide +kernel)]; kernel_rfl) | (rw [if_neg (by decide +kernel)]; exact ⟨rfl, rfl⟩))
    (fun os started H enc _ => fnExactDoneAll_lifted os started H enc)

/-- The card, tied to the program's text. -/
theorem fnExactDoneAll_card : Rows.FnExactDoneAllCardSaid :=
  Claim7.holds_tied_plain_at .later [] [.handle, .sentinel, .sentinel, .sentinel, .sentinel, .sentinel, .sentinel, .sentinel] true (true, "5a48bb24fc7f9b88ac1c4c3dfb25038ba38510fc076ee2ae50b1481e0011f4bf") true
    fnExactDoneAll_row (fun _ h => by cases h) (by kernel_rfl) (fun _ h => by cases h) fnExactDoneAll_row_tie rfl ⟨rfl, rfl⟩ (by kernel_rfl) rfl
    (fun f fn hf hfn => by
      obtain rfl : f = 8 := Option.some.inj ((show Tryz.prog.funcNamed "loop.example/g00362/laws.FnExactDoneAll" = some 8 by kernel_rfl).symm.trans hf) |>.symm
      obtain rfl : fn = Tryz.f8 := (Option.some.inj (Tryz.func8.symm.trans hfn)).symm
      exact ⟨by kernel_rfl, fun j t ht => by
        rw [Tryz.params8] at ht
        have hm : t ∈ [49, 50] := by simpa using Array.mem_of_getElem? ht
        have hall : ([49, 50].all fun u => !Tryz.prog.wantsStandIn u) = true := by kernel_rfl
        exact (show Tryz.prog.wantsStandIn t = false by simpa using List.all_eq_true.1 hall t hm)⟩)
    (by kernel_rfl)
#print axioms fnExactDoneAll_card
end Go.Proofs.YthkgppfgidlicaaGreatDoor
