/- Lists of numbers that the calls make: compared, marked and looked at. Conditions: they lie in memory, at most 1048576 of them. -/
import Derived.Test.YtggnlojlhgenlaaFind
namespace Go.Proofs.Ytggnlojlhgenlaa
open Go.RowKit

/-- Numbers in memory of a call's own from block B on; none of them may be nil. -/
def IL (w : World) (B : Nat) (v : Value) (l : List Int) : Prop := w.ownsRow B 2 1 v l.length (l.map (Value.int .i64))
theorem IL.nil (w : World) (B : Nat) : IL w B (.slice none 0 0) [] := World.ownsRow_nil w B 2 1
theorem IL.empty (w : World) (B : Nat) (hB : B ≤ w.heap.size) : IL (w.alloc (.cells #[] 2)) B (.slice (some ⟨w.heap.size, 0, none⟩) 0 0) [] := World.ownsRow_lit w #[] 0 hB (Nat.zero_le _) (by simp)
theorem IL.mono {w : World} {B B' : Nat} {v : Value} {l : List Int} (h : IL w B v l) (hB : B' ≤ B) : IL w B' v l := by
  refine ⟨h.1, ?_⟩
  rcases h.2 with h0 | ⟨g, cap, cur, hv, hg, r⟩
  · exact Or.inl h0
  · exact Or.inr ⟨g, cap, cur, hv, Nat.le_trans hB hg, r⟩
theorem IL.kept {w w' : World} {B : Nat} {v : Value} {l : List Int} (h : IL w B v l) (hb : Below w.heap.size w w') : IL w' B v l :=
  World.ownsRow.kept (row := none) h ⟨hb.os, hb.tape, hb.output, hb.size, fun k hk _ => hb.block k hk⟩ (by cases hv : v.ownBlock <;> simp)
/-- The shape of the slice: nil, or its block. -/
theorem IL.shape {w : World} {B : Nat} {v : Value} {l : List Int} (h : IL w B v l) :
    ∃ a cap, v = .slice a l.length cap ∧ (∀ g, v.ownBlock = some g → B ≤ g ∧ g < w.heap.size) ∧
      ∀ i, i < l.length → ∃ g, a = some ⟨g, 0, none⟩ ∧ v.ownBlock = some g ∧ B ≤ g ∧ g < w.heap.size ∧ w.cell? ⟨g, i, none⟩ = some (.int .i64 (l.getD i 0)) ∧ w.frozen? ⟨g, i, none⟩ = false := by
  have hlt := World.ownsRow.lt h
  rcases h.2 with ⟨hv, hn⟩ | ⟨g, cap, cur, hv, hg, r⟩
  · refine ⟨none, 0, by rw [hv, hn], fun g hg => hlt g hg, fun i hi => ?_⟩
    omega
  · refine ⟨some ⟨g, 0, none⟩, cap, hv, fun g hg => hlt g hg, fun i hi => ?_⟩
    have ho : v.ownBlock = some g := by rw [hv]; rfl
    have hs : w.ownsRow B 2 1 (.slice (some ⟨g, 0, none⟩) l.length cap) l.length (l.map (Value.int .i64)) := by rw [← hv]; exact h
    have hc := World.ownsRow.cellAt hs i (by omega)
    refine ⟨g, rfl, ho, hg, (hlt g ho).2, ?_, World.ownsRow.frozenAt hs i⟩
    rw [hc]
    simp [List.getD, List.getElem?_eq_getElem hi]

set_option maxHeartbeats 1000000 in
theorem eqInts_same (B1 B2 : Nat) (v1 v2 : Value) (l : List Int) (w : World) (hl : l.length ≤ 1048576) (h1 : IL w B1 v1 l) (h2 : IL w B2 v2 l) :
    Calls Try.prog 20 #[v1, v2] w fun e w' => e = .returned (.bool true) ∧ Below w.heap.size w w' := by
  obtain ⟨a1, m1, rfl, _, s1⟩ := h1.shape
  obtain ⟨a2, m2, rfl, _, s2⟩ := h2.shape
  have S1 : Hid (∀ i, i < l.length → ∃ g, a1 = some ⟨g, 0, none⟩ ∧ w.cell? ⟨g, i, none⟩ = some (.int .i64 (l.getD i 0))) := fun i hi => by obtain ⟨g, e, _, _, _, hc, _⟩ := s1 i hi; exact ⟨g, e, hc⟩
  have S2 : Hid (∀ i, i < l.length → ∃ g, a2 = some ⟨g, 0, none⟩ ∧ w.cell? ⟨g, i, none⟩ = some (.int .i64 (l.getD i 0))) := fun i hi => by obtain ⟨g, e, _, _, _, hc, _⟩ := s2 i hi; exact ⟨g, e, hc⟩
  clear s1 s2 h1 h2
  generalize hn : l.length = n at *
  go_enter Try.func20, Try.ntmps20
  go_wp2
  go_loopw [5] (fun i wr => ∃ (k q : Nat), k ≤ n ∧ i = .int .i64 k ∧ wr = w.drewN q) (fun i _ => n - (intOf i).toNat)
  case atStart => exact ⟨0, 0, Nat.zero_le _, rfl, rfl⟩
  case round =>
    obtain ⟨k, q, hk, rfl, rfl⟩ := hrel
    by_cases hlt : k < n
    · obtain ⟨g, rfl, c1⟩ := S1.out k hlt
      obtain ⟨g', rfl, c2⟩ := S2.out k hlt
      generalize l.getD k 0 = z at c1 c2
      have hk0 : (k : Int) < (n : Int) := by omega
      go_wp2
      go_quiet (fail)
      go_wp2
      go_roundw
      case rel => exact ⟨k + 1, _, by omega, by go_num, rfl⟩
      case measure => simp [intOf]; omega
    · go_wp2
      go_ret
      exact ⟨rfl, below_drewN (Below.refl _ _) _⟩

theorem grown_trans {a b c : World} {row : Option Nat} (h : a.grownBy b row) (k : b.grownBy c row) : a.grownBy c row :=
  ⟨k.os.trans h.os, k.tape.trans h.tape, k.output.trans h.output, Nat.le_trans h.size k.size, fun i hi hn => (k.block i (Nat.lt_of_lt_of_le hi h.size) hn).trans (h.block i hi hn)⟩
theorem grown_set (w : World) (R o : Nat) (u : Value) : w.grownBy (w.setCell ⟨R, o, none⟩ u) (some R) :=
  ⟨rfl, rfl, rfl, by simp [World.setCell], fun k _ hn => Below.heap_setCell _ _ _ _ (fun e => hn (by rw [e]))⟩
/-- Numbers that rise by one from k on. -/
def Marked (k : Int) (j : Nat) (L : List Int) : Prop := ∀ i, i < j → L.getD i 0 = k + i
theorem IL.stored {w : World} {B g cap : Nat} {l : List Int} (h : IL w B (.slice (some ⟨g, 0, none⟩) l.length cap) l) (j : Nat) (x : Int) :
    IL (w.setCell ⟨g, j, none⟩ (.int .i64 x)) B (.slice (some ⟨g, 0, none⟩) l.length cap) (l.set j x) ∧ w.grownBy (w.setCell ⟨g, j, none⟩ (.int .i64 x)) (some g) := by
  obtain ⟨h1, h2⟩ := World.ownsRow.stored h j (.int .i64 x)
  refine ⟨?_, h2⟩
  unfold IL
  rw [List.length_set, List.map_set]
  exact h1

set_option maxHeartbeats 1000000 in
theorem markInts (B : Nat) (v : Value) (l : List Int) (w : World) (hl : l.length ≤ 1048576) (h : IL w B v l) :
    Calls Try.prog 22 #[v, .int .i64 1] w fun e w' => e = .returned (.int .i64 (1 + (l.length : Int))) ∧ (∃ L, L.length = l.length ∧ Marked 1 l.length L ∧ IL w' B v L) ∧ w.grownBy w' v.ownBlock := by
  obtain ⟨a, m, hv, _, sh⟩ := h.shape
  by_cases h0 : l.length = 0
  · have hl0 : l = [] := List.length_eq_zero_iff.1 h0
    subst hl0
    subst hv
    have H : Hid (IL w B (.slice a [].length m) []) := h
    clear h sh
    simp only [List.length_nil]
    go_enter Try.func22, Try.ntmps22
    go_wp2
    refine wp_loop_rounds 1 ?_
    rw [rounds_succ]
    go_wp2
    go_ret
    exact ⟨rfl, ⟨[], rfl, fun i hi => absurd hi (Nat.not_lt_zero _), H.out⟩, World.grownBy.refl _ _⟩
  · obtain ⟨g, rfl, _, hg1, hg2, _, _⟩ := sh 0 (by omega)
    subst hv
    have H : Hid (IL w B (.slice (some ⟨g, 0, none⟩) l.length m) l) := h
    clear h sh
    generalize hn : l.length = n at *
    have HN : Hid (l.length = n) := hn
    clear hn
    go_enter Try.func22, Try.ntmps22
    go_wp2
    go_loopw [1, 5] (fun t i wr => ∃ (k : Nat) (L : List Int), k ≤ n ∧ i = .int .i64 k ∧ t = .int .i64 (1 + (k : Int)) ∧ Hid (L.length = n) ∧ Hid (Marked 1 k L) ∧ Hid (IL wr B (.slice (some ⟨g, 0, none⟩) n m) L) ∧ Hid (w.grownBy wr (some g))) (fun _ i _ => n - (intOf i).toNat)
    case atStart => exact ⟨0, l, Nat.zero_le _, rfl, rfl, HN, fun i hi => absurd hi (Nat.not_lt_zero _), H, World.grownBy.refl _ _⟩
    case round =>
      obtain ⟨k, L, hk, rfl, rfl, hL, hM, hI, hG⟩ := hrel
      by_cases hlt : k < n
      · obtain ⟨a', m', e', _, sh⟩ := hI.out.shape
        obtain ⟨g', ea, _, _, _, cc, cf⟩ := sh k (by rw [hL.out]; exact hlt)
        have eg : g = g' := by
          have := congrArg Value.ownBlock e'
          rw [ea] at this
          simpa [Value.ownBlock] using this
        subst eg
        clear e' sh ea
        generalize L.getD k 0 = z at cc
        have hi' : IL wr B (.slice (some ⟨g, 0, none⟩) L.length m) L := by rw [hL.out]; exact hI.out
        obtain ⟨st, gr⟩ := hi'.stored k (1 + (k : Int))
        have ST : Hid (IL (wr.setCell ⟨g, k, none⟩ (.int .i64 (1 + (k : Int)))) B (.slice (some ⟨g, 0, none⟩) n m) (L.set k (1 + (k : Int)))) := by
          rw [hL.out] at st; exact st
        have GR : Hid (w.grownBy (wr.setCell ⟨g, k, none⟩ (.int .i64 (1 + (k : Int)))) (some g)) := grown_trans hG.out gr
        have HM : Hid (Marked 1 (k + 1) (L.set k (1 + (k : Int)))) := fun i hi => by
          by_cases e : i = k
          · subst e
            have hlen : i < L.length := by rw [hL.out]; exact hlt
            simp [List.getD, hlen]
          · have := hM.out i (by omega)
            simp only [List.getD] at this ⊢
            rw [List.getElem?_set_ne (by omega)]
            exact this
        have HL : Hid ((L.set k (1 + (k : Int))).length = n) := (by rw [List.length_set, hL.out] : (L.set k (1 + (k : Int))).length = n)
        clear st gr hi'
        go_wp2
        go_roundw
        case rel => exact ⟨k + 1, L.set k (1 + (k : Int)), by omega, by go_num, by go_num, HL, HM, ST, GR⟩
        case measure => simp [intOf]; omega
      · have hkn : k = n := by omega
        subst hkn
        go_wp2
        go_ret
        exact ⟨rfl, ⟨L, hL.out, hM.out, hI.out⟩, hG.out⟩

set_option maxHeartbeats 1000000 in
theorem heldInts (B : Nat) (v : Value) (L : List Int) (w : World) (hl : L.length ≤ 1048576) (h : IL w B v L) (hM : Marked 1 L.length L) :
    Calls Try.prog 23 #[v, .int .i64 1] w fun e w' => e = .returned (.int .i64 (1 + (L.length : Int))) ∧ w' = w := by
  obtain ⟨a, m, rfl, _, sh⟩ := h.shape
  have S : Hid (∀ i, i < L.length → ∃ g, a = some ⟨g, 0, none⟩ ∧ w.cell? ⟨g, i, none⟩ = some (.int .i64 (1 + (i : Int)))) := fun i hi => by
    obtain ⟨g, e, _, _, _, hc, _⟩ := sh i hi
    rw [hM i hi] at hc
    exact ⟨g, e, hc⟩
  clear sh h hM
  generalize hn : L.length = n at *
  clear hn
  go_enter Try.func23, Try.ntmps23
  go_wp2
  go_loop [1, 5] (fun t i => ∃ k : Nat, k ≤ n ∧ i = .int .i64 k ∧ t = .int .i64 (1 + (k : Int))) (fun _ i => n - (intOf i).toNat)
  case atStart => exact ⟨0, Nat.zero_le _, rfl, rfl⟩
  case round =>
    obtain ⟨k, hk, rfl, rfl⟩ := hrel
    by_cases hlt : k < n
    · obtain ⟨g, rfl, cc⟩ := S.out k hlt
      go_wp2
      go_round
      case rel => exact ⟨k + 1, by omega, by go_num, by go_num⟩
      case measure => simp [intOf]; omega
    · have hkn : k = n := by omega
      subst hkn
      go_wp2
      go_ret
      exact ⟨rfl, rfl⟩

/-- A row of cells of a call's own, whatever they hold. -/
def Cells (w : World) (R m : Nat) : Prop := (∀ o, o < m → (w.cell? ⟨R, o, none⟩).isSome = true) ∧ (∀ o, w.frozen? ⟨R, o, none⟩ = false) ∧ R < w.heap.size
theorem Cells.set {w : World} {R m : Nat} (h : Cells w R m) (o : Nat) (u : Value) : Cells (w.setCell ⟨R, o, none⟩ u) R m := by
  refine ⟨fun q hq => ?_, fun q => by rw [World.frozen?_setCell]; exact h.2.1 q, by simpa [World.setCell] using h.2.2⟩
  obtain ⟨v, hv⟩ := Option.isSome_iff_exists.1 (h.1 q hq)
  obtain ⟨v', hv'⟩ := cell?_setCell_some (p := ⟨R, o, none⟩) (x := u) hv
  rw [hv']; rfl

set_option maxHeartbeats 2000000 in
theorem markAccs (R n m : Nat) (w : World) (hn : n ≤ 1048576) (h : Cells w R (n * 8)) :
    Calls Try.prog 21 #[.slice (some ⟨R, 0, none⟩) n m, .int .i64 1] w fun e w' => e = .returned (.int .i64 (1 + 8 * (n : Int))) ∧ w.grownBy w' (some R) := by
  have H : Hid (Cells w R (n * 8)) := h
  clear h
  go_enter Try.func21, Try.ntmps21
  go_wp2
  go_loopw [1, 5] (fun t i wr => ∃ k : Nat, k ≤ n ∧ i = .int .i64 k ∧ t = .int .i64 (1 + 8 * (k : Int)) ∧ Hid (Cells wr R (n * 8)) ∧ Hid (w.grownBy wr (some R))) (fun _ i _ => n - (intOf i).toNat)
  case atStart => exact ⟨0, Nat.zero_le _, rfl, rfl, H, World.grownBy.refl _ _⟩
  case round =>
    obtain ⟨k, hk, rfl, rfl, hC, hG⟩ := hrel
    by_cases hlt : k < n
    · obtain ⟨s1, s2, s3⟩ := hC.out
      obtain ⟨v0, e0⟩ := Option.isSome_iff_exists.1 (s1 (k * 8) (by omega))
      obtain ⟨v1, e1⟩ := Option.isSome_iff_exists.1 (s1 (k * 8 + 1) (by omega))
      obtain ⟨v2, e2⟩ := Option.isSome_iff_exists.1 (s1 (k * 8 + 2) (by omega))
      obtain ⟨v3, e3⟩ := Option.isSome_iff_exists.1 (s1 (k * 8 + 3) (by omega))
      obtain ⟨v4, e4⟩ := Option.isSome_iff_exists.1 (s1 (k * 8 + 4) (by omega))
      obtain ⟨v5, e5⟩ := Option.isSome_iff_exists.1 (s1 (k * 8 + 5) (by omega))
      obtain ⟨v6, e6⟩ := Option.isSome_iff_exists.1 (s1 (k * 8 + 6) (by omega))
      obtain ⟨v7, e7⟩ := Option.isSome_iff_exists.1 (s1 (k * 8 + 7) (by omega))
      clear s1
      go_wp2
      go_roundw
      case rel =>
        refine ⟨k + 1, by omega, by go_num, by go_num, ?_, ?_⟩
        · exact (((((((hC.out.set _ _).set _ _).set _ _).set _ _).set _ _).set _ _).set _ _).set _ _
        · exact grown_trans (grown_trans (grown_trans (grown_trans (grown_trans (grown_trans (grown_trans (grown_trans hG.out (grown_set _ _ _ _)) (grown_set _ _ _ _)) (grown_set _ _ _ _)) (grown_set _ _ _ _)) (grown_set _ _ _ _)) (grown_set _ _ _ _)) (grown_set _ _ _ _)) (grown_set _ _ _ _)
      case measure => simp [intOf]; omega
    · have hkn : k = n := by omega
      subst hkn
      go_wp2
      go_ret
      exact ⟨rfl, hG.out⟩
end Go.Proofs.Ytggnlojlhgenlaa
