/- The law FnExactDoneAll returns true, whatever the accounts and the ops. Conditions: they lie in memory; the package's errors lie as they were laid. -/
import Derived.Test.YthkgppfgidlicaaGreatDoorLawM
import Derived.Test.YthkgppfgidlicaaGreatDoorOpL
import Derived.Test.YthkgppfgidlicaaGreatDoorSame
import Derived.Test.YthkgppfgidlicaaGreatDoorAllS
namespace Go.Proofs.YthkgppfgidlicaaGreatDoor
open Go.RowKit

def MarkI (k0 : Int) (n : Nat) (L : List Int) : Prop := ∀ i, i < n → L.getD i 0 = k0 + (i : Int)
set_option maxHeartbeats 1000000 in
theorem eqI_same (B1 B2 : Nat) (v1 v2 : Value) (l : List Int) (w : World) (hl : l.length ≤ 1048576) (h1 : IL w B1 v1 l) (h2 : IL w B2 v2 l) :
    Calls Tryz.prog 30 #[v1, v2] w fun e w' => e = .returned (.bool true) ∧ Below w.heap.size w w' := by
  obtain ⟨a1, m1, rfl, _, s1⟩ := h1.shape
  obtain ⟨a2, m2, rfl, _, s2⟩ := h2.shape
  have S1 : Hid (∀ i, i < l.length → ∃ g, a1 = some ⟨g, 0, none⟩ ∧ w.cell? ⟨g, i, none⟩ = some (.int .i64 (l.getD i 0))) := fun i hi => by obtain ⟨g, e, _, _, _, hc, _⟩ := s1 i hi; exact ⟨g, e, hc⟩
  have S2 : Hid (∀ i, i < l.length → ∃ g, a2 = some ⟨g, 0, none⟩ ∧ w.cell? ⟨g, i, none⟩ = some (.int .i64 (l.getD i 0))) := fun i hi => by obtain ⟨g, e, _, _, _, hc, _⟩ := s2 i hi; exact ⟨g, e, hc⟩
  clear s1 s2 h1 h2
  generalize hn : l.length = n at *
  go_enter Tryz.func30, Tryz.ntmps30
  go_wp2
  go_loopw [5] (fun i wr => ∃ (k q : Nat), k ≤ n ∧ i = .int .i64 k ∧ wr = w.drewN q) (fun i _ => n - (intOf i).toNat)
  case atStart => exact ⟨0, 0, Nat.zero_le _, rfl, rfl⟩
  case round =>
    obtain ⟨k, q, hk, rfl, rfl⟩ := hrel
    by_cases hlt : k < n
    · obtain ⟨g, rfl, c1⟩ := S1.out k hlt
      obtain ⟨g', rfl, c2⟩ := S2.out k hlt
      generalize l.getD k 0 = z at c1 c2
      have hk0 : (k : Int) < (n : Int) := by omega
      go_wp2
      go_quiet (fail)
      go_wp2
      go_roundw
      case rel => exact ⟨k + 1, _, by omega, by go_num, rfl⟩
      case measure => simp [intOf]; omega
    · go_wp2
      go_ret
      exact ⟨rfl, below_drewQ (Below.refl _ _) _⟩

set_option maxHeartbeats 1000000 in
theorem markI (B : Nat) (v : Value) (l : List Int) (k0 : Int) (w : World) (k1 : 0 ≤ k0) (k2 : k0 ≤ 100000000) (hl : l.length ≤ 1048576) (h : IL w B v l) :
    Calls Tryz.prog 34 #[v, .int .i64 k0] w fun e w' => e = .returned (.int .i64 (k0 + (l.length : Int))) ∧ (∃ L, L.length = l.length ∧ MarkI k0 l.length L ∧ IL w' B v L) ∧ w.grownBy w' v.ownBlock := by
  obtain ⟨a, m, hv, _, sh⟩ := h.shape
  by_cases h0 : l.length = 0
  · have hl0 : l = [] := List.length_eq_zero_iff.1 h0
    subst hl0
    subst hv
    have H : Hid (IL w B (.slice a [].length m) []) := h
    clear h sh
    simp only [List.length_nil]
    go_enter Tryz.func34, Tryz.ntmps34
    go_wp2
    refine wp_loop_rounds 1 ?_
    rw [rounds_succ]
    go_wp2
    go_ret
    exact ⟨by simp, ⟨[], rfl, fun i hi => absurd hi (Nat.not_lt_zero _), H.out⟩, World.grownBy.refl _ _⟩
  · obtain ⟨g, rfl, _, hg1, hg2, _, _⟩ := sh 0 (by omega)
    subst hv
    have H : Hid (IL w B (.slice (some ⟨g, 0, none⟩) l.length m) l) := h
    clear h sh
    generalize hn : l.length = n at *
    have HN : Hid (l.length = n) := hn
    clear hn
    go_enter Tryz.func34, Tryz.ntmps34
    go_wp2
    go_loopw [1, 5] (fun t i wr => ∃ (k : Nat) (L : List Int), k ≤ n ∧ i = .int .i64 k ∧ t = .int .i64 (k0 + (k : Int)) ∧ Hid (L.length = n) ∧ Hid (MarkI k0 k L) ∧ Hid (IL wr B (.slice (some ⟨g, 0, none⟩) n m) L) ∧ Hid (w.grownBy wr (some g))) (fun _ i _ => n - (intOf i).toNat)
    case atStart => exact ⟨0, l, Nat.zero_le _, rfl, by simp, HN, fun i hi => absurd hi (Nat.not_lt_zero _), H, World.grownBy.refl _ _⟩
    case round =>
      obtain ⟨k, L, hk, rfl, rfl, hL, hM, hI, hG⟩ := hrel
      by_cases hlt : k < n
      · obtain ⟨a', m', e', _, sh⟩ := hI.out.shape
        obtain ⟨g', ea, _, _, _, cc, cf⟩ := sh k (by rw [hL.out]; exact hlt)
        have eg : g = g' := by
          have := congrArg Value.ownBlock e'
          rw [ea] at this
          simpa [Value.ownBlock] using this
        subst eg
        clear e' sh ea
        generalize L.getD k 0 = z at cc
        have hi' : IL wr B (.slice (some ⟨g, 0, none⟩) L.length m) L := by rw [hL.out]; exact hI.out
        obtain ⟨st, gr⟩ := hi'.stored k (k0 + (k : Int))
        have ST : Hid (IL (wr.setCell ⟨g, k, none⟩ (.int .i64 (k0 + (k : Int)))) B (.slice (some ⟨g, 0, none⟩) n m) (L.set k (k0 + (k : Int)))) := by
          rw [hL.out] at st; exact st
        have GR : Hid (w.grownBy (wr.setCell ⟨g, k, none⟩ (.int .i64 (k0 + (k : Int)))) (some g)) := grown_trans hG.out gr
        have HM : Hid (MarkI k0 (k + 1) (L.set k (k0 + (k : Int)))) := fun i hi => by
          by_cases e : i = k
          · subst e
            have hlen : i < L.length := by rw [hL.out]; exact hlt
            simp [List.getD, hlen]
          · have := hM.out i (by omega)
            simp only [List.getD] at this ⊢
            rw [List.getElem?_set_ne (by omega)]
            exact this
        have HL : Hid ((L.set k (k0 + (k : Int))).length = n) := (by rw [List.length_set, hL.out] : (L.set k (k0 + (k : Int))).length = n)
        clear st gr hi'
        go_wp2
        go_roundw
        case rel => exact ⟨k + 1, L.set k (k0 + (k : Int)), by omega, by go_num, by go_num, HL, HM, ST, GR⟩
        case measure => simp [intOf]; omega
      · have hkn : k = n := by omega
        subst hkn
        go_wp2
        go_ret
        exact ⟨rfl, ⟨L, hL.out, hM.out, hI.out⟩, hG.out⟩


set_option maxHeartbeats 1000000 in
theorem heldI (B : Nat) (v : Value) (L : List Int) (k0 : Int) (w : World) (k1 : 0 ≤ k0) (k2 : k0 ≤ 100000000) (hl : L.length ≤ 1048576) (h : IL w B v L) (hM : MarkI k0 L.length L) :
    Calls Tryz.prog 36 #[v, .int .i64 k0] w fun e w' => e = .returned (.int .i64 (k0 + (L.length : Int))) ∧ w' = w := by
  obtain ⟨a, m, rfl, _, sh⟩ := h.shape
  have S : Hid (∀ i, i < L.length → ∃ g, a = some ⟨g, 0, none⟩ ∧ w.cell? ⟨g, i, none⟩ = some (.int .i64 (k0 + (i : Int)))) := fun i hi => by
    obtain ⟨g, e, _, _, _, hc, _⟩ := sh i hi
    rw [hM i hi] at hc
    exact ⟨g, e, hc⟩
  clear sh h hM
  generalize hn : L.length = n at *
  clear hn
  go_enter Tryz.func36, Tryz.ntmps36
  go_wp2
  go_loop [1, 5] (fun t i => ∃ k : Nat, k ≤ n ∧ i = .int .i64 k ∧ t = .int .i64 (k0 + (k : Int))) (fun _ i => n - (intOf i).toNat)
  case atStart => exact ⟨0, Nat.zero_le _, rfl, by simp⟩
  case round =>
    obtain ⟨k, hk, rfl, rfl⟩ := hrel
    by_cases hlt : k < n
    · obtain ⟨g, rfl, cc⟩ := S.out k hlt
      go_wp2
      go_round
      case rel => exact ⟨k + 1, by omega, by go_num, by go_num⟩
      case measure => simp [intOf]; omega
    · have hkn : k = n := by omega
      subst hkn
      go_wp2
      go_ret
      exact ⟨rfl, rfl⟩

set_option maxRecDepth 8000 in
set_option maxHeartbeats 2000000 in
theorem markOps (R n m : Nat) (k0 : Int) (w : World) (hn : n ≤ 1048576) (k1 : 0 ≤ k0) (k2 : k0 ≤ 100000000) (h : Cells8 w R (n * 5)) :
    Calls Tryz.prog 33 #[.slice (some ⟨R, 0, none⟩) n m, .int .i64 k0] w fun e w' => e = .returned (.int .i64 (k0 + 5 * (n : Int))) ∧ w.grownBy w' (some R) := by
  have H : Hid (Cells8 w R (n * 5)) := h
  clear h
  go_enter Tryz.func33, Tryz.ntmps33
  go_wp2
  go_loopw [1, 5] (fun t i wr => ∃ k : Nat, k ≤ n ∧ i = .int .i64 k ∧ t = .int .i64 (k0 + 5 * (k : Int)) ∧ Hid (Cells8 wr R (n * 5)) ∧ Hid (w.grownBy wr (some R))) (fun _ i _ => n - (intOf i).toNat)
  case atStart => exact ⟨0, Nat.zero_le _, rfl, by simp, H, World.grownBy.refl _ _⟩
  case round =>
    obtain ⟨k, hk, rfl, rfl, hC, hG⟩ := hrel
    by_cases hlt : k < n
    · obtain ⟨s1, s2, s3⟩ := hC.out
      obtain ⟨v0, e0⟩ := Option.isSome_iff_exists.1 (s1 (k * 5) (by omega))
      obtain ⟨v1, e1⟩ := Option.isSome_iff_exists.1 (s1 (k * 5 + 1) (by omega))
      obtain ⟨v2, e2⟩ := Option.isSome_iff_exists.1 (s1 (k * 5 + 2) (by omega))
      obtain ⟨v3, e3⟩ := Option.isSome_iff_exists.1 (s1 (k * 5 + 3) (by omega))
      obtain ⟨v4, e4⟩ := Option.isSome_iff_exists.1 (s1 (k * 5 + 4) (by omega))
      clear s1
      go_wp2
      go_roundw
      case rel =>
        refine ⟨k + 1, by omega, by go_num, by go_num, ?_, ?_⟩
        · exact (((((hC.out.set _ _).set _ _).set _ _).set _ _).set _ _)
        · exact grown_transAcc (grown_transAcc (grown_transAcc (grown_transAcc (grown_transAcc (hG.out) (grown_set1Acc _ _ _ _)) (grown_set1Acc _ _ _ _)) (grown_set1Acc _ _ _ _)) (grown_set1Acc _ _ _ _)) (grown_set1Acc _ _ _ _)
      case measure => simp [intOf]; omega
    · have hkn : k = n := by omega
      subst hkn
      go_wp2
      go_ret
      exact ⟨rfl, hG.out⟩


/-- Rows of two kinds are two rows. -/
theorem rows_apart {w : World} {B1 B2 e1 e2 s1 s2 n1 n2 : Nat} {v1 v2 : Value} {x1 x2 : List Value} (h1 : w.ownsRow B1 e1 s1 v1 n1 x1) (h2 : w.ownsRow B2 e2 s2 v2 n2 x2) (he : e1 ≠ e2) : v1.ownBlock = none ∨ v1.ownBlock ≠ v2.ownBlock := by
  rcases h1.2 with ⟨hv, _⟩ | ⟨g, cap, cur, hv, _, hb, _⟩
  · left; rw [hv]; rfl
  · right
    rcases h2.2 with ⟨hv2, _⟩ | ⟨g2, cap2, cur2, hv2, _, hb2, _⟩
    · rw [hv, hv2]; simp [Value.ownBlock]
    · rw [hv, hv2]
      intro e
      have : g = g2 := by simpa [Value.ownBlock] using e
      subst this
      rw [hb] at hb2
      simp at hb2
      exact he hb2.2
end Go.Proofs.YthkgppfgidlicaaGreatDoor

namespace Go.Proofs.YthkgppfgidlicaaGreatDoor
open Go.RowKit

theorem Cells8.grown {w w' : World} {R Q m : Nat} (h : Cells8 w R m) (g : w.grownBy w' (some Q)) (hne : R ≠ Q) : Cells8 w' R m := by
  have hb : w'.heap[R]? = w.heap[R]? := g.block R h.2.2 (fun e => hne (by simpa using e))
  exact ⟨fun o ho => by rw [World.cell?_of_block (a := ⟨R, o, none⟩) hb]; exact h.1 o ho, fun o => by rw [World.frozen?_of_block (a := ⟨R, o, none⟩) hb]; exact h.2.1 o, Nat.lt_of_lt_of_le h.2.2 g.size⟩
theorem allAny_len (L : List Acc) (O : List OpR) (hO : O.length ≤ 1048576) : (allAny L O).2.length ≤ 1048576 ∧ (allAny L O).1.length ≤ 1048576 := by
  unfold allAny
  split
  · rename_i hh
    have := (runAll_right O ([], L) hh.1).1
    exact ⟨by omega, by rw [runAll_len]; simp; omega⟩
  · simp

set_option maxRecDepth 8000 in
set_option maxHeartbeats 8000000 in
theorem lawAll (a : Option Addr) (c : Nat) (L : List Acc) (oa : Option Addr) (oc : Nat) (O : List OpR) (p : Nat → Addr) (w : World) (hn : (L.length : Int) ≤ 1048576) (hon : (O.length : Int) ≤ 1048576 - (L.length : Int)) (h : Fo w a L.length (FL L)) (ho : OpRs w oa O.length (OpRF O)) (hG : GE w p) :
    Calls Tryz.prog 8 #[.slice a L.length c, .slice oa O.length oc] w fun e w' => e = .returned (.bool true) ∧ Below w.heap.size w w' := by
  have F0 : Hid (Fo w a L.length (FL L)) := h
  have O0 : Hid (OpRs w oa O.length (OpRF O)) := ho
  have G0 : Hid (GE w p) := hG
  have hn' : L.length ≤ 1048576 := by omega
  have hon' : O.length ≤ 1048576 := by omega
  obtain ⟨C, G, hR⟩ : ∃ C G, allAny L O = (C, G) := ⟨_, _, rfl⟩
  have hlen := allAny_len L O hon'
  rw [hR] at hlen
  obtain ⟨hGl, hCl⟩ := hlen
  simp only at hGl hCl
  have SP : Hid (∀ w a' c' oa' oc', Fo w a' L.length (FL L) → OpRs w oa' O.length (OpRF O) → Calls Tryz.prog 22 #[.slice a' L.length c', .slice oa' O.length oc'] w fun e w' => ∃ v u, e = .returned (.tuple #[v, u]) ∧ AL w' w.heap.size v G ∧ IL w' w.heap.size u C ∧ Below w.heap.size w w') := fun w a' c' oa' oc' h1 h2 => by
    have := specAll a' c' L oa' oc' O w h1 h2
    rw [hR] at this
    exact this
  have IM : Hid (∀ w a' c' oa' oc', Fo w a' L.length (FL L) → OpRs w oa' O.length (OpRF O) → GE w p → Calls Tryz.prog 21 #[.slice a' L.length c', .slice oa' O.length oc'] w fun e w' => ∃ v u, e = .returned (.tuple #[v, u]) ∧ AL w' w.heap.size v G ∧ IL w' w.heap.size u C ∧ Below w.heap.size w w') := fun w a' c' oa' oc' h1 h2 h3 => by
    have := implAll a' c' L oa' oc' O p w h1 h2 h3
    rw [hR] at this
    exact this
  clear h ho hG hR
  have BB0 : Hid (Below w.heap.size w w) := Below.refl _ _
  go_enter Tryz.func8, Tryz.ntmps8
  go_wp2_with fail
  refine (szAccountS_yes _ _ _ _ hn').mono ?_
  rintro e wz ⟨rfl, hwz⟩
  subst wz
  have hsz : decide (1048576 - (L.length : Int) < 0) = false := by simp; omega
  go_wp2_with fail
  refine (szSOpR_yes _ _ _ _ _ hon (by omega)).mono ?_
  rintro e wz ⟨rfl, hwz⟩
  subst wz
  have hsz2 : decide (1048576 - (L.length : Int) - (O.length : Int) < 0) = false := by simp; omega
  go_wp2_with fail
  refine (toAccountS a L.length c (FL L) _ (F0.out.below BB0.out)).mono ?_
  rintro e w1 ⟨rfl, R, E⟩
  have BB1 : Hid (Below w.heap.size w w1) := BB0.out.trans (E.mono BB0.out.size)
  have z1 : w.heap.size ≤ w1.heap.size := E.size
  have T0 : Hid (Row w1 w.heap.size L.length L.length (FL L)) := R
  clear E BB0 R
  go_wp2_with fail
  refine (toSOpR oa O.length oc (OpRF O) _ (O0.out.below BB1.out)).mono ?_
  rintro e w2 ⟨rfl, R, E⟩
  have T0' : Hid (Row w2 w.heap.size L.length L.length (FL L)) := T0.out.below E
  have BB2 : Hid (Below w.heap.size w w2) := BB1.out.trans (E.mono BB1.out.size)
  have z2 : w1.heap.size ≤ w2.heap.size := E.size
  have T1 : Hid (RowOpR w2 w1.heap.size O.length O.length (OpRF O)) := R
  clear T0
  have T0 := T0'
  clear T0'
  clear E BB1 R
  go_wp2_with fail
  refine (SP.out _ _ L.length _ O.length (T0.out.fo hn') (T1.out.list hon')).mono ?_
  rintro e w3 ⟨v0, v1, rfl, A, I, E⟩
  have T0' : Hid (Row w3 w.heap.size L.length L.length (FL L)) := T0.out.below E
  have T1' : Hid (RowOpR w3 w1.heap.size O.length O.length (OpRF O)) := T1.out.below E
  have BB3 : Hid (Below w.heap.size w w3) := BB2.out.trans (E.mono BB2.out.size)
  have z3 : w2.heap.size ≤ w3.heap.size := E.size
  have J0 : Hid (AL w3 w2.heap.size v0 G) := A
  have J1 : Hid (IL w3 w2.heap.size v1 C) := I
  clear T0
  have T0 := T0'
  clear T0'
  clear T1
  have T1 := T1'
  clear T1'
  clear E BB2 A I
  have LJ0 : Hid (∀ q, v0.ownBlock = some q → q < w3.heap.size) := fun q hq => (World.ownsRow.lt J0.out q hq).2
  have LJ1 : Hid (∀ q, v1.ownBlock = some q → q < w3.heap.size) := fun q hq => (World.ownsRow.lt J1.out q hq).2
  clear T0
  clear T1
  go_wp2_with fail
  refine (toAccountS a L.length c (FL L) _ (F0.out.below BB3.out)).mono ?_
  rintro e w4 ⟨rfl, R, E⟩
  have J0' : Hid (AL w4 w2.heap.size v0 G) := J0.out.kept E
  have J1' : Hid (IL w4 w2.heap.size v1 C) := J1.out.kept E
  have BB4 : Hid (Below w.heap.size w w4) := BB3.out.trans (E.mono BB3.out.size)
  have z4 : w3.heap.size ≤ w4.heap.size := E.size
  have X0 : Hid (Row w4 w3.heap.size L.length L.length (FL L)) := R
  clear J0
  have J0 := J0'
  clear J0'
  clear J1
  have J1 := J1'
  clear J1'
  clear E BB3 R
  have y6 : w3.heap.size < w4.heap.size := X0.out.2.2.1
  go_wp2_with fail
  refine (toSOpR oa O.length oc (OpRF O) _ (O0.out.below BB4.out)).mono ?_
  rintro e w5 ⟨rfl, R, E⟩
  have J0' : Hid (AL w5 w2.heap.size v0 G) := J0.out.kept E
  have J1' : Hid (IL w5 w2.heap.size v1 C) := J1.out.kept E
  have X0' : Hid (Row w5 w3.heap.size L.length L.length (FL L)) := X0.out.below E
  have BB5 : Hid (Below w.heap.size w w5) := BB4.out.trans (E.mono BB4.out.size)
  have z5 : w4.heap.size ≤ w5.heap.size := E.size
  have X1 : Hid (RowOpR w5 w4.heap.size O.length O.length (OpRF O)) := R
  clear J0
  have J0 := J0'
  clear J0'
  clear J1
  have J1 := J1'
  clear J1'
  clear X0
  have X0 := X0'
  clear X0'
  clear E BB4 R
  have y7 : w4.heap.size < w5.heap.size := X1.out.2.2.1
  go_wp2_with fail
  refine (IM.out _ _ L.length _ O.length (X0.out.fo hn') (X1.out.list hon') (G0.out.below BB5.out)).mono ?_
  rintro e w6 ⟨u0, u1, rfl, A, I, E⟩
  have J0' : Hid (AL w6 w2.heap.size v0 G) := J0.out.kept E
  have J1' : Hid (IL w6 w2.heap.size v1 C) := J1.out.kept E
  have X0' : Hid (Row w6 w3.heap.size L.length L.length (FL L)) := X0.out.below E
  have X1' : Hid (RowOpR w6 w4.heap.size O.length O.length (OpRF O)) := X1.out.below E
  have BB6 : Hid (Below w.heap.size w w6) := BB5.out.trans (E.mono BB5.out.size)
  have z6 : w5.heap.size ≤ w6.heap.size := E.size
  have K0 : Hid (AL w6 w5.heap.size u0 G) := A
  have K1 : Hid (IL w6 w5.heap.size u1 C) := I
  clear J0
  have J0 := J0'
  clear J0'
  clear J1
  have J1 := J1'
  clear J1'
  clear X0
  have X0 := X0'
  clear X0'
  clear X1
  have X1 := X1'
  clear X1'
  clear E BB5 A I
  have LK0 : Hid (∀ q, u0.ownBlock = some q → w5.heap.size ≤ q) := fun q hq => (World.ownsRow.lt K0.out q hq).1
  have LK1 : Hid (∀ q, u1.ownBlock = some q → w5.heap.size ≤ q) := fun q hq => (World.ownsRow.lt K1.out q hq).1
  have AP : Hid (u0.ownBlock = none ∨ u0.ownBlock ≠ u1.ownBlock) := rows_apart K0.out K1.out (by decide)
  have AP2 : Hid (u1.ownBlock = none ∨ u1.ownBlock ≠ u0.ownBlock) := rows_apart K1.out K0.out (by decide)
  go_wp2_with fail
  refine (eqAL_same _ _ _ _ G _ hGl K0.out J0.out).mono ?_
  rintro e w7 ⟨rfl, E⟩
  have J0' : Hid (AL w7 w2.heap.size v0 G) := J0.out.kept E
  have J1' : Hid (IL w7 w2.heap.size v1 C) := J1.out.kept E
  have X0' : Hid (Row w7 w3.heap.size L.length L.length (FL L)) := X0.out.below E
  have X1' : Hid (RowOpR w7 w4.heap.size O.length O.length (OpRF O)) := X1.out.below E
  have K0' : Hid (AL w7 w5.heap.size u0 G) := K0.out.kept E
  have K1' : Hid (IL w7 w5.heap.size u1 C) := K1.out.kept E
  have BB7 : Hid (Below w.heap.size w w7) := BB6.out.trans (E.mono BB6.out.size)
  have z7 : w6.heap.size ≤ w7.heap.size := E.size
  clear J0
  have J0 := J0'
  clear J0'
  clear J1
  have J1 := J1'
  clear J1'
  clear X0
  have X0 := X0'
  clear X0'
  clear X1
  have X1 := X1'
  clear X1'
  clear K0
  have K0 := K0'
  clear K0'
  clear K1
  have K1 := K1'
  clear K1'
  clear E BB6 
  go_wp2_with fail
  refine (eqI_same _ _ _ _ C _ hCl K1.out J1.out).mono ?_
  rintro e w8 ⟨rfl, E⟩
  have J0' : Hid (AL w8 w2.heap.size v0 G) := J0.out.kept E
  have J1' : Hid (IL w8 w2.heap.size v1 C) := J1.out.kept E
  have X0' : Hid (Row w8 w3.heap.size L.length L.length (FL L)) := X0.out.below E
  have X1' : Hid (RowOpR w8 w4.heap.size O.length O.length (OpRF O)) := X1.out.below E
  have K0' : Hid (AL w8 w5.heap.size u0 G) := K0.out.kept E
  have K1' : Hid (IL w8 w5.heap.size u1 C) := K1.out.kept E
  have BB8 : Hid (Below w.heap.size w w8) := BB7.out.trans (E.mono BB7.out.size)
  have z8 : w7.heap.size ≤ w8.heap.size := E.size
  clear J0
  have J0 := J0'
  clear J0'
  clear J1
  have J1 := J1'
  clear J1'
  clear X0
  have X0 := X0'
  clear X0'
  clear X1
  have X1 := X1'
  clear X1'
  clear K0
  have K0 := K0'
  clear K0'
  clear K1
  have K1 := K1'
  clear K1'
  clear E BB7 
  go_wp2_with fail
  refine (toAccountS a L.length c (FL L) _ (F0.out.below BB8.out)).mono ?_
  rintro e w9 ⟨rfl, R, E⟩
  have J0' : Hid (AL w9 w2.heap.size v0 G) := J0.out.kept E
  have J1' : Hid (IL w9 w2.heap.size v1 C) := J1.out.kept E
  have X0' : Hid (Row w9 w3.heap.size L.length L.length (FL L)) := X0.out.below E
  have X1' : Hid (RowOpR w9 w4.heap.size O.length O.length (OpRF O)) := X1.out.below E
  have K0' : Hid (AL w9 w5.heap.size u0 G) := K0.out.kept E
  have K1' : Hid (IL w9 w5.heap.size u1 C) := K1.out.kept E
  have BB9 : Hid (Below w.heap.size w w9) := BB8.out.trans (E.mono BB8.out.size)
  have z9 : w8.heap.size ≤ w9.heap.size := E.size
  have T0 : Hid (Row w9 w8.heap.size L.length L.length (FL L)) := R
  clear J0
  have J0 := J0'
  clear J0'
  clear J1
  have J1 := J1'
  clear J1'
  clear X0
  have X0 := X0'
  clear X0'
  clear X1
  have X1 := X1'
  clear X1'
  clear K0
  have K0 := K0'
  clear K0'
  clear K1
  have K1 := K1'
  clear K1'
  clear E BB8 R
  go_wp2_with fail
  refine (eqAccountS_same _ _ L.length L.length L.length (FL L) _ (X0.out.fo hn') (T0.out.fo hn')).mono ?_
  rintro e w10 ⟨rfl, E⟩
  have J0' : Hid (AL w10 w2.heap.size v0 G) := J0.out.kept E
  have J1' : Hid (IL w10 w2.heap.size v1 C) := J1.out.kept E
  have X0' : Hid (Row w10 w3.heap.size L.length L.length (FL L)) := X0.out.below E
  have X1' : Hid (RowOpR w10 w4.heap.size O.length O.length (OpRF O)) := X1.out.below E
  have K0' : Hid (AL w10 w5.heap.size u0 G) := K0.out.kept E
  have K1' : Hid (IL w10 w5.heap.size u1 C) := K1.out.kept E
  have T0' : Hid (Row w10 w8.heap.size L.length L.length (FL L)) := T0.out.below E
  have BB10 : Hid (Below w.heap.size w w10) := BB9.out.trans (E.mono BB9.out.size)
  have z10 : w9.heap.size ≤ w10.heap.size := E.size
  clear J0
  have J0 := J0'
  clear J0'
  clear J1
  have J1 := J1'
  clear J1'
  clear X0
  have X0 := X0'
  clear X0'
  clear X1
  have X1 := X1'
  clear X1'
  clear K0
  have K0 := K0'
  clear K0'
  clear K1
  have K1 := K1'
  clear K1'
  clear T0
  have T0 := T0'
  clear T0'
  clear E BB9 
  clear T0
  go_wp2_with fail
  refine (toSOpR oa O.length oc (OpRF O) _ (O0.out.below BB10.out)).mono ?_
  rintro e w11 ⟨rfl, R, E⟩
  have J0' : Hid (AL w11 w2.heap.size v0 G) := J0.out.kept E
  have J1' : Hid (IL w11 w2.heap.size v1 C) := J1.out.kept E
  have X0' : Hid (Row w11 w3.heap.size L.length L.length (FL L)) := X0.out.below E
  have X1' : Hid (RowOpR w11 w4.heap.size O.length O.length (OpRF O)) := X1.out.below E
  have K0' : Hid (AL w11 w5.heap.size u0 G) := K0.out.kept E
  have K1' : Hid (IL w11 w5.heap.size u1 C) := K1.out.kept E
  have BB11 : Hid (Below w.heap.size w w11) := BB10.out.trans (E.mono BB10.out.size)
  have z11 : w10.heap.size ≤ w11.heap.size := E.size
  have T1 : Hid (RowOpR w11 w10.heap.size O.length O.length (OpRF O)) := R
  clear J0
  have J0 := J0'
  clear J0'
  clear J1
  have J1 := J1'
  clear J1'
  clear X0
  have X0 := X0'
  clear X0'
  clear X1
  have X1 := X1'
  clear X1'
  clear K0
  have K0 := K0'
  clear K0'
  clear K1
  have K1 := K1'
  clear K1'
  clear E BB10 R
  go_wp2_with fail
  refine (eqSOpR_same _ _ O.length O.length O.length (OpRF O) _ (X1.out.list hon') (T1.out.list hon')).mono ?_
  rintro e w12 ⟨rfl, E⟩
  have J0' : Hid (AL w12 w2.heap.size v0 G) := J0.out.kept E
  have J1' : Hid (IL w12 w2.heap.size v1 C) := J1.out.kept E
  have X0' : Hid (Row w12 w3.heap.size L.length L.length (FL L)) := X0.out.below E
  have X1' : Hid (RowOpR w12 w4.heap.size O.length O.length (OpRF O)) := X1.out.below E
  have K0' : Hid (AL w12 w5.heap.size u0 G) := K0.out.kept E
  have K1' : Hid (IL w12 w5.heap.size u1 C) := K1.out.kept E
  have T1' : Hid (RowOpR w12 w10.heap.size O.length O.length (OpRF O)) := T1.out.below E
  have BB12 : Hid (Below w.heap.size w w12) := BB11.out.trans (E.mono BB11.out.size)
  have z12 : w11.heap.size ≤ w12.heap.size := E.size
  clear J0
  have J0 := J0'
  clear J0'
  clear J1
  have J1 := J1'
  clear J1'
  clear X0
  have X0 := X0'
  clear X0'
  clear X1
  have X1 := X1'
  clear X1'
  clear K0
  have K0 := K0'
  clear K0'
  clear K1
  have K1 := K1'
  clear K1'
  clear T1
  have T1 := T1'
  clear T1'
  clear E BB11 
  clear T1
  have Y1 : Hid (Cells8 w12 w4.heap.size (O.length * 5)) := ⟨X1.out.1, X1.out.2.1, X1.out.2.2.1⟩
  clear X1
  have Y0 : Hid (Cells8 w12 w3.heap.size (L.length * 8)) := ⟨X0.out.1, X0.out.2.1, X0.out.2.2.1⟩
  clear X0
  go_wp2_with fail
  refine (markRow w3.heap.size L.length L.length 1 _ hn' (by omega) (by omega) Y0.out).mono ?_
  rintro e w13 ⟨rfl, E⟩
  have J0' : Hid (AL w13 w2.heap.size v0 G) := World.ownsRow.kept J0.out E (by
    cases hb : v0.ownBlock with
    | none => exact Or.inl rfl
    | some q => right; intro e; have := LJ0.out q hb; simp at e; omega)
  have J1' : Hid (IL w13 w2.heap.size v1 C) := World.ownsRow.kept J1.out E (by
    cases hb : v1.ownBlock with
    | none => exact Or.inl rfl
    | some q => right; intro e; have := LJ1.out q hb; simp at e; omega)
  have K0' : Hid (AL w13 w5.heap.size u0 G) := World.ownsRow.kept K0.out E (by
    cases hb : u0.ownBlock with
    | none => exact Or.inl rfl
    | some q => right; intro e; have := LK0.out q hb; simp at e; omega)
  have K1' : Hid (IL w13 w5.heap.size u1 C) := World.ownsRow.kept K1.out E (by
    cases hb : u1.ownBlock with
    | none => exact Or.inl rfl
    | some q => right; intro e; have := LK1.out q hb; simp at e; omega)
  have Y1' : Hid (Cells8 w13 w4.heap.size (O.length * 5)) := Y1.out.grown E (by omega)
  have BB13 : Hid (Below w.heap.size w w13) := BB12.out.grown E BB12.out.size (fun q hq => by simp at hq; omega)
  have z13 : w12.heap.size ≤ w13.heap.size := E.size
  clear J0
  have J0 := J0'
  clear J0'
  clear J1
  have J1 := J1'
  clear J1'
  clear K0
  have K0 := K0'
  clear K0'
  clear K1
  have K1 := K1'
  clear K1'
  clear Y1
  have Y1 := Y1'
  clear Y1'
  clear E BB12 Y0
  go_wp2_with fail
  refine (markOps w4.heap.size O.length O.length _ _ hon' (by omega) (by omega) Y1.out).mono ?_
  rintro e w14 ⟨rfl, E⟩
  clear Y1
  have J0' : Hid (AL w14 w2.heap.size v0 G) := World.ownsRow.kept J0.out E (by
    cases hb : v0.ownBlock with
    | none => exact Or.inl rfl
    | some q => right; intro e; have := LJ0.out q hb; simp at e; omega)
  have J1' : Hid (IL w14 w2.heap.size v1 C) := World.ownsRow.kept J1.out E (by
    cases hb : v1.ownBlock with
    | none => exact Or.inl rfl
    | some q => right; intro e; have := LJ1.out q hb; simp at e; omega)
  have K0' : Hid (AL w14 w5.heap.size u0 G) := World.ownsRow.kept K0.out E (by
    cases hb : u0.ownBlock with
    | none => exact Or.inl rfl
    | some q => right; intro e; have := LK0.out q hb; simp at e; omega)
  have K1' : Hid (IL w14 w5.heap.size u1 C) := World.ownsRow.kept K1.out E (by
    cases hb : u1.ownBlock with
    | none => exact Or.inl rfl
    | some q => right; intro e; have := LK1.out q hb; simp at e; omega)
  have BB14 : Hid (Below w.heap.size w w14) := BB13.out.grown E BB13.out.size (fun q hq => by simp at hq; omega)
  have z14 : w13.heap.size ≤ w14.heap.size := E.size
  clear J0
  have J0 := J0'
  clear J0'
  clear J1
  have J1 := J1'
  clear J1'
  clear K0
  have K0 := K0'
  clear K0'
  clear K1
  have K1 := K1'
  clear K1'
  clear E BB13
  have hk8 : decide (1 + 8 * (L.length : Int) + 5 * (O.length : Int) < 0) = false := by simp; omega
  go_wp2_with fail
  refine (eqAL_same _ _ _ _ G _ hGl K0.out J0.out).mono ?_
  rintro e w15 ⟨rfl, E⟩
  have J0' : Hid (AL w15 w2.heap.size v0 G) := J0.out.kept E
  have J1' : Hid (IL w15 w2.heap.size v1 C) := J1.out.kept E
  have K0' : Hid (AL w15 w5.heap.size u0 G) := K0.out.kept E
  have K1' : Hid (IL w15 w5.heap.size u1 C) := K1.out.kept E
  have BB15 : Hid (Below w.heap.size w w15) := BB14.out.trans (E.mono BB14.out.size)
  have z15 : w14.heap.size ≤ w15.heap.size := E.size
  clear J0
  have J0 := J0'
  clear J0'
  clear J1
  have J1 := J1'
  clear J1'
  clear K0
  have K0 := K0'
  clear K0'
  clear K1
  have K1 := K1'
  clear K1'
  clear E BB14 
  go_wp2_with fail
  refine (eqI_same _ _ _ _ C _ hCl K1.out J1.out).mono ?_
  rintro e w16 ⟨rfl, E⟩
  have J0' : Hid (AL w16 w2.heap.size v0 G) := J0.out.kept E
  have J1' : Hid (IL w16 w2.heap.size v1 C) := J1.out.kept E
  have K0' : Hid (AL w16 w5.heap.size u0 G) := K0.out.kept E
  have K1' : Hid (IL w16 w5.heap.size u1 C) := K1.out.kept E
  have BB16 : Hid (Below w.heap.size w w16) := BB15.out.trans (E.mono BB15.out.size)
  have z16 : w15.heap.size ≤ w16.heap.size := E.size
  clear J0
  have J0 := J0'
  clear J0'
  clear J1
  have J1 := J1'
  clear J1'
  clear K0
  have K0 := K0'
  clear K0'
  clear K1
  have K1 := K1'
  clear K1'
  clear E BB15 
  go_wp2_with fail
  refine (markAccs _ _ G 1 _ hGl (by omega) (by omega) K0.out).mono ?_
  rintro e w17 ⟨rfl, ⟨M, hlM, hmM, A⟩, E⟩
  have J0' : Hid (AL w17 w2.heap.size v0 G) := World.ownsRow.kept J0.out E (by
    cases hb : v0.ownBlock with
    | none => exact Or.inl rfl
    | some q =>
      right
      intro e
      have h1 := LJ0.out q hb
      have h2 := LK0.out q e.symm
      omega)
  have J1' : Hid (IL w17 w2.heap.size v1 C) := World.ownsRow.kept J1.out E (by
    cases hb : v1.ownBlock with
    | none => exact Or.inl rfl
    | some q =>
      right
      intro e
      have h1 := LJ1.out q hb
      have h2 := LK0.out q e.symm
      omega)
  have K1' : Hid (IL w17 w5.heap.size u1 C) := World.ownsRow.kept K1.out E AP2.out
  have K0' : Hid (AL w17 w5.heap.size u0 M) := A
  have BB17 : Hid (Below w.heap.size w w17) := BB16.out.grown E BB16.out.size (fun q hq => by have := LK0.out q hq; omega)
  have z17 : w16.heap.size ≤ w17.heap.size := E.size
  clear J0
  have J0 := J0'
  clear J0'
  clear J1
  have J1 := J1'
  clear J1'
  clear K0
  have K0 := K0'
  clear K0'
  clear K1
  have K1 := K1'
  clear K1'
  clear E A BB16
  have HLM : Hid (M.length = G.length) := hlM
  have HMM : Hid (MarkedAcc 1 M.length M) := by rw [hlM]; exact hmM
  have hM2 : M.length ≤ 1048576 := by omega
  clear hlM hmM
  go_wp2_with fail
  refine (markI _ _ C _ _ (by omega) (by omega) hCl K1.out).mono ?_
  rintro e w18 ⟨rfl, ⟨D, hlD, hmD, A⟩, E⟩
  have J0' : Hid (AL w18 w2.heap.size v0 G) := World.ownsRow.kept J0.out E (by
    cases hb : v0.ownBlock with
    | none => exact Or.inl rfl
    | some q =>
      right
      intro e
      have h1 := LJ0.out q hb
      have h2 := LK1.out q e.symm
      omega)
  have J1' : Hid (IL w18 w2.heap.size v1 C) := World.ownsRow.kept J1.out E (by
    cases hb : v1.ownBlock with
    | none => exact Or.inl rfl
    | some q =>
      right
      intro e
      have h1 := LJ1.out q hb
      have h2 := LK1.out q e.symm
      omega)
  have K0' : Hid (AL w18 w5.heap.size u0 M) := World.ownsRow.kept K0.out E AP.out
  have K1' : Hid (IL w18 w5.heap.size u1 D) := A
  have BB18 : Hid (Below w.heap.size w w18) := BB17.out.grown E BB17.out.size (fun q hq => by have := LK1.out q hq; omega)
  have z18 : w17.heap.size ≤ w18.heap.size := E.size
  clear J0
  have J0 := J0'
  clear J0'
  clear J1
  have J1 := J1'
  clear J1'
  clear K0
  have K0 := K0'
  clear K0'
  clear K1
  have K1 := K1'
  clear K1'
  clear E A BB17
  have HLD : Hid (D.length = C.length) := hlD
  have HMD : Hid (MarkI (1 + 8 * (G.length : Int)) D.length D) := by rw [hlD]; exact hmD
  have hD2 : D.length ≤ 1048576 := by omega
  clear hlD hmD
  have hk9 : decide (1 + 8 * (G.length : Int) < 0) = false := by simp; omega
  have hk10 : decide (1 + 8 * (G.length : Int) + (C.length : Int) < 0) = false := by simp; omega
  have hk11 : (1 + 8 * (G.length : Int) + (C.length : Int) != 1 + 8 * (G.length : Int) + (C.length : Int)) = false := by simp
  go_wp2_with fail
  refine (heldAccs _ _ M 1 _ hM2 (by omega) (by omega) K0.out HMM.out).mono ?_
  rintro e wz ⟨rfl, hwz⟩
  subst wz
  rw [HLM.out]
  go_wp2_with fail
  refine (heldI _ _ D (1 + 8 * (G.length : Int)) _ (by omega) (by omega) hD2 K1.out HMD.out).mono ?_
  rintro e wz ⟨rfl, hwz⟩
  subst wz
  rw [HLD.out]
  go_wp2_with fail
  refine (toAccountS a L.length c (FL L) _ (F0.out.below BB18.out)).mono ?_
  rintro e w19 ⟨rfl, R, E⟩
  have J0' : Hid (AL w19 w2.heap.size v0 G) := J0.out.kept E
  have J1' : Hid (IL w19 w2.heap.size v1 C) := J1.out.kept E
  have K0' : Hid (AL w19 w5.heap.size u0 M) := K0.out.kept E
  have K1' : Hid (IL w19 w5.heap.size u1 D) := K1.out.kept E
  have BB19 : Hid (Below w.heap.size w w19) := BB18.out.trans (E.mono BB18.out.size)
  have z19 : w18.heap.size ≤ w19.heap.size := E.size
  have T0 : Hid (Row w19 w18.heap.size L.length L.length (FL L)) := R
  clear J0
  have J0 := J0'
  clear J0'
  clear J1
  have J1 := J1'
  clear J1'
  clear K0
  have K0 := K0'
  clear K0'
  clear K1
  have K1 := K1'
  clear K1'
  clear E BB18 R
  go_wp2_with fail
  refine (toSOpR oa O.length oc (OpRF O) _ (O0.out.below BB19.out)).mono ?_
  rintro e w20 ⟨rfl, R, E⟩
  have J0' : Hid (AL w20 w2.heap.size v0 G) := J0.out.kept E
  have J1' : Hid (IL w20 w2.heap.size v1 C) := J1.out.kept E
  have K0' : Hid (AL w20 w5.heap.size u0 M) := K0.out.kept E
  have K1' : Hid (IL w20 w5.heap.size u1 D) := K1.out.kept E
  have T0' : Hid (Row w20 w18.heap.size L.length L.length (FL L)) := T0.out.below E
  have BB20 : Hid (Below w.heap.size w w20) := BB19.out.trans (E.mono BB19.out.size)
  have z20 : w19.heap.size ≤ w20.heap.size := E.size
  have T1 : Hid (RowOpR w20 w19.heap.size O.length O.length (OpRF O)) := R
  clear J0
  have J0 := J0'
  clear J0'
  clear J1
  have J1 := J1'
  clear J1'
  clear K0
  have K0 := K0'
  clear K0'
  clear K1
  have K1 := K1'
  clear K1'
  clear T0
  have T0 := T0'
  clear T0'
  clear E BB19 R
  go_wp2_with fail
  refine (IM.out _ _ L.length _ O.length (T0.out.fo hn') (T1.out.list hon') (G0.out.below BB20.out)).mono ?_
  rintro e w21 ⟨t0, t1, rfl, A, I, E⟩
  have J0' : Hid (AL w21 w2.heap.size v0 G) := J0.out.kept E
  have J1' : Hid (IL w21 w2.heap.size v1 C) := J1.out.kept E
  have K0' : Hid (AL w21 w5.heap.size u0 M) := K0.out.kept E
  have K1' : Hid (IL w21 w5.heap.size u1 D) := K1.out.kept E
  have T0' : Hid (Row w21 w18.heap.size L.length L.length (FL L)) := T0.out.below E
  have T1' : Hid (RowOpR w21 w19.heap.size O.length O.length (OpRF O)) := T1.out.below E
  have BB21 : Hid (Below w.heap.size w w21) := BB20.out.trans (E.mono BB20.out.size)
  have z21 : w20.heap.size ≤ w21.heap.size := E.size
  have H0 : Hid (AL w21 w20.heap.size t0 G) := A
  have H1 : Hid (IL w21 w20.heap.size t1 C) := I
  clear J0
  have J0 := J0'
  clear J0'
  clear J1
  have J1 := J1'
  clear J1'
  clear K0
  have K0 := K0'
  clear K0'
  clear K1
  have K1 := K1'
  clear K1'
  clear T0
  have T0 := T0'
  clear T0'
  clear T1
  have T1 := T1'
  clear T1'
  clear E BB20 A I
  clear T0
  clear T1
  go_wp2_with fail
  refine (eqAL_same _ _ _ _ G _ hGl H0.out J0.out).mono ?_
  rintro e w22 ⟨rfl, E⟩
  have J0' : Hid (AL w22 w2.heap.size v0 G) := J0.out.kept E
  have J1' : Hid (IL w22 w2.heap.size v1 C) := J1.out.kept E
  have K0' : Hid (AL w22 w5.heap.size u0 M) := K0.out.kept E
  have K1' : Hid (IL w22 w5.heap.size u1 D) := K1.out.kept E
  have H0' : Hid (AL w22 w20.heap.size t0 G) := H0.out.kept E
  have H1' : Hid (IL w22 w20.heap.size t1 C) := H1.out.kept E
  have BB22 : Hid (Below w.heap.size w w22) := BB21.out.trans (E.mono BB21.out.size)
  have z22 : w21.heap.size ≤ w22.heap.size := E.size
  clear J0
  have J0 := J0'
  clear J0'
  clear J1
  have J1 := J1'
  clear J1'
  clear K0
  have K0 := K0'
  clear K0'
  clear K1
  have K1 := K1'
  clear K1'
  clear H0
  have H0 := H0'
  clear H0'
  clear H1
  have H1 := H1'
  clear H1'
  clear E BB21 
  go_wp2_with fail
  refine (eqI_same _ _ _ _ C _ hCl H1.out J1.out).mono ?_
  rintro e w23 ⟨rfl, E⟩
  have J0' : Hid (AL w23 w2.heap.size v0 G) := J0.out.kept E
  have J1' : Hid (IL w23 w2.heap.size v1 C) := J1.out.kept E
  have K0' : Hid (AL w23 w5.heap.size u0 M) := K0.out.kept E
  have K1' : Hid (IL w23 w5.heap.size u1 D) := K1.out.kept E
  have H0' : Hid (AL w23 w20.heap.size t0 G) := H0.out.kept E
  have H1' : Hid (IL w23 w20.heap.size t1 C) := H1.out.kept E
  have BB23 : Hid (Below w.heap.size w w23) := BB22.out.trans (E.mono BB22.out.size)
  have z23 : w22.heap.size ≤ w23.heap.size := E.size
  clear J0
  have J0 := J0'
  clear J0'
  clear J1
  have J1 := J1'
  clear J1'
  clear K0
  have K0 := K0'
  clear K0'
  clear K1
  have K1 := K1'
  clear K1'
  clear H0
  have H0 := H0'
  clear H0'
  clear H1
  have H1 := H1'
  clear H1'
  clear E BB22 
  go_wp2_with fail
  refine (heldAccs _ _ M 1 _ hM2 (by omega) (by omega) K0.out HMM.out).mono ?_
  rintro e wz ⟨rfl, hwz⟩
  subst wz
  rw [HLM.out]
  go_wp2_with fail
  refine (heldI _ _ D (1 + 8 * (G.length : Int)) _ (by omega) (by omega) hD2 K1.out HMD.out).mono ?_
  rintro e wz ⟨rfl, hwz⟩
  subst wz
  rw [HLD.out]
  go_wp2
  go_ret
  exact ⟨rfl, BB23.out⟩
end Go.Proofs.YthkgppfgidlicaaGreatDoor
