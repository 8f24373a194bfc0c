/- Lists of orders of a call's own: read, marked, looked at. Conditions: they lie in memory, at most 1048576 of them. -/
import Derived.Test.YtlndklendejjdaaOrds
namespace Go.Proofs.Ytlndklendejjdaa
open Go.RowKit

/-- The cells of a record. -/
def OrdC (a : Ord) : List Value := [.int .i64 a.id, .int .i64 a.src, .int .i64 a.dst, .int .i64 a.amount, .int .i64 a.first, .int .i64 a.every, .int .i64 a.times]
/-- Records in memory of a call's own. -/
def OrdL (w : World) (B : Nat) (v : Value) (l : List Ord) : Prop := w.ownsRow B 25 7 v l.length (l.flatMap OrdC)
theorem flatOrd_len (l : List Ord) : (l.flatMap OrdC).length = l.length * 7 := by
  induction l with
  | nil => rfl
  | cons a l ih => simp only [List.flatMap_cons, List.length_append, ih, List.length_cons, OrdC, List.length_nil]; omega
theorem flatOrd_get (l : List Ord) : ∀ (i j : Nat) (hi : i < l.length) (_ : j < 7), (l.flatMap OrdC)[i * 7 + j]? = (OrdC l[i])[j]? := by
  induction l with
  | nil => intro i j hi; simp at hi
  | cons a l ih =>
    intro i j hi hj
    rw [List.flatMap_cons]
    cases i with
    | zero =>
      rw [List.getElem?_append_left (by simp [OrdC]; omega)]
      simp
    | succ i =>
      have hl : (OrdC a).length = 7 := rfl
      rw [List.getElem?_append_right (by rw [hl]; omega), hl]
      have e : (i + 1) * 7 + j - 7 = i * 7 + j := by omega
      rw [e, ih i j (by simpa using hi) hj]
      simp
theorem OrdL.kept {w w' : World} {B : Nat} {v : Value} {l : List Ord} (h : OrdL w B v l) (hb : Below w.heap.size w w') : OrdL w' B v l :=
  World.ownsRow.kept (row := none) h ⟨hb.os, hb.tape, hb.output, hb.size, fun k hk _ => hb.block k hk⟩ (by cases hv : v.ownBlock <;> simp)
theorem OrdL.shape {w : World} {B : Nat} {v : Value} {l : List Ord} (h : OrdL w B v l) :
    ∃ a cap, v = .slice a l.length cap ∧ (∀ g, v.ownBlock = some g → B ≤ g ∧ g < w.heap.size) ∧
      ∀ i (hi : i < l.length), ∃ g, a = some ⟨g, 0, none⟩ ∧ B ≤ g ∧ g < w.heap.size ∧ OrdAt w g (i * 7) l[i] := by
  have hlt := World.ownsRow.lt h
  rcases h.2 with ⟨hv, hn⟩ | ⟨g, cap, cur, hv, hg, r⟩
  · refine ⟨none, 0, by rw [hv, hn], fun g hg => hlt g hg, fun i hi => ?_⟩
    omega
  · refine ⟨some ⟨g, 0, none⟩, cap, hv, fun g hg => hlt g hg, fun i hi => ?_⟩
    have ho : v.ownBlock = some g := by rw [hv]; rfl
    have hs : w.ownsRow B 25 7 (.slice (some ⟨g, 0, none⟩) l.length cap) l.length (l.flatMap OrdC) := by rw [← hv]; exact h
    have hc : ∀ j, j < 7 → w.cell? ⟨g, i * 7 + j, none⟩ = (OrdC l[i])[j]? := fun j hj => by
      rw [World.ownsRow.cellAt hs (i * 7 + j) (by omega), flatOrd_get l i j hi hj]
    exact ⟨g, rfl, hg, (hlt g ho).2, hc 0 (by omega), hc 1 (by omega), hc 2 (by omega), hc 3 (by omega), hc 4 (by omega), hc 5 (by omega), hc 6 (by omega)⟩
theorem OrdL.mono {w : World} {B B' : Nat} {v : Value} {l : List Ord} (h : OrdL w B v l) (hB : B' ≤ B) : OrdL w B' v l :=
  ⟨h.1, h.2.elim Or.inl (fun ⟨g, cap, cur, hv, hg, r⟩ => Or.inr ⟨g, cap, cur, hv, Nat.le_trans hB hg, r⟩)⟩
theorem OrdL.nil (w : World) (B : Nat) : OrdL w B (.slice none 0 0) [] := World.ownsRow_nil w B 25 7
theorem OrdL.empty (w : World) (B : Nat) (hB : B ≤ w.heap.size) : OrdL (w.alloc (.cells #[] 25)) B (.slice (some ⟨w.heap.size, 0, none⟩) 0 0) [] := World.ownsRow_lit w #[] 0 hB (Nat.zero_le _) (by simp)
/-- A list as places. -/
def OrdF (L : List Ord) : Nat → Ord := fun j => L.getD j ⟨0, 0, 0, 0, 0, 0, 0⟩
theorem OrdF_lt {L : List Ord} {j : Nat} (h : j < L.length) : OrdF L j = L[j] := by simp [OrdF, List.getD, List.getElem?_eq_getElem h]
theorem OrdF_set_at {L : List Ord} {p : Nat} (x : Ord) (h : p < L.length) : OrdF (L.set p x) p = x := by
  rw [OrdF_lt (by simpa using h)]; simp
theorem OrdF_set_ne {L : List Ord} {p j : Nat} (x : Ord) (h : j ≠ p) : OrdF (L.set p x) j = OrdF L j := by
  simp only [OrdF, List.getD]
  rw [List.getElem?_set_ne (by omega)]
theorem OrdL.list {w : World} {B : Nat} {a : Option Addr} {c m : Nat} {L : List Ord} (h : OrdL w B (.slice a m c) L) (hl : L.length ≤ 1048576) : m = L.length ∧ Ords w a m (OrdF L) := by
  obtain ⟨a', c', hv, _, hs⟩ := h.shape
  obtain ⟨rfl, rfl, rfl⟩ : a = a' ∧ m = L.length ∧ c = c' := by simpa using hv
  refine ⟨rfl, hl, ?_⟩
  by_cases h0 : L.length = 0
  · exact Or.inl h0
  · obtain ⟨g, ea, _, hg, _⟩ := hs 0 (by omega)
    refine Or.inr ⟨g, 0, ea, hg, fun i hi => ?_⟩
    obtain ⟨g', ea', _, _, hA⟩ := hs i hi
    rw [ea] at ea'
    have : g = g' := by simpa using ea'
    subst this
    rw [OrdF_lt hi]
    simpa using hA
/-- One cell of one record is written. -/
theorem flatOrd_set : ∀ (L : List Ord) (p j : Nat) (u : Value) (A : Ord), p < L.length → j < 7 → (OrdC (OrdF L p)).set j u = OrdC A → (L.flatMap OrdC).set (p * 7 + j) u = (L.set p A).flatMap OrdC
  | [], p, j, u, A, hp, _, _ => by simp at hp
  | x :: L, 0, j, u, A, _, hj, h => by
    have hl : (OrdC x).length = 7 := rfl
    have h' : (OrdC x).set j u = OrdC A := h
    simp only [List.flatMap_cons, List.set_cons_zero, Nat.zero_mul, Nat.zero_add]
    rw [List.set_append_left _ _ (by rw [hl]; omega), h']
  | x :: L, p + 1, j, u, A, hp, hj, h => by
    have hl : (OrdC x).length = 7 := rfl
    have ih := flatOrd_set L p j u A (by simpa using hp) hj (by simpa [OrdF, List.getD] using h)
    simp only [List.flatMap_cons, List.set_cons_succ]
    rw [List.set_append_right _ _ (by rw [hl]; omega), hl]
    have e : (p + 1) * 7 + j - 7 = p * 7 + j := by omega
    rw [e, ih]
theorem OrdL.stored1 {w : World} {B g cap : Nat} {L : List Ord} (h : OrdL w B (.slice (some ⟨g, 0, none⟩) L.length cap) L) {p : Nat} (hp : p < L.length) (j : Nat) (hj : j < 7) (u : Value) (A : Ord) (hA : (OrdC (OrdF L p)).set j u = OrdC A) :
    OrdL (w.setCell ⟨g, p * 7 + j, none⟩ u) B (.slice (some ⟨g, 0, none⟩) (L.set p A).length cap) (L.set p A) := by
  obtain ⟨h1, _⟩ := World.ownsRow.stored h (p * 7 + j) u
  unfold OrdL
  rw [← flatOrd_set L p j u A hp hj hA, List.length_set]
  exact h1
theorem OrdL.stored {w : World} {B g cap : Nat} {L : List Ord} (h : OrdL w B (.slice (some ⟨g, 0, none⟩) L.length cap) L) {p : Nat} (hp : p < L.length) (A : Ord) :
    OrdL (setOrd w g (p * 7) A) B (.slice (some ⟨g, 0, none⟩) L.length cap) (L.set p A) := by
  have s0 := h.stored1 hp 0 (by omega) (.int .i64 A.id) { OrdF L p with id := A.id } rfl
  have s1 := s0.stored1 (p := p) (by simpa using hp) 1 (by omega) (.int .i64 A.src) { OrdF L p with id := A.id, src := A.src } (by rw [OrdF_set_at _ hp]; rfl)
  simp only [List.set_set] at s1
  have s2 := s1.stored1 (p := p) (by simpa using hp) 2 (by omega) (.int .i64 A.dst) { OrdF L p with id := A.id, src := A.src, dst := A.dst } (by rw [OrdF_set_at _ hp]; rfl)
  simp only [List.set_set] at s2
  have s3 := s2.stored1 (p := p) (by simpa using hp) 3 (by omega) (.int .i64 A.amount) { OrdF L p with id := A.id, src := A.src, dst := A.dst, amount := A.amount } (by rw [OrdF_set_at _ hp]; rfl)
  simp only [List.set_set] at s3
  have s4 := s3.stored1 (p := p) (by simpa using hp) 4 (by omega) (.int .i64 A.first) { OrdF L p with id := A.id, src := A.src, dst := A.dst, amount := A.amount, first := A.first } (by rw [OrdF_set_at _ hp]; rfl)
  simp only [List.set_set] at s4
  have s5 := s4.stored1 (p := p) (by simpa using hp) 5 (by omega) (.int .i64 A.every) { OrdF L p with id := A.id, src := A.src, dst := A.dst, amount := A.amount, first := A.first, every := A.every } (by rw [OrdF_set_at _ hp]; rfl)
  simp only [List.set_set] at s5
  have s6 := s5.stored1 (p := p) (by simpa using hp) 6 (by omega) (.int .i64 A.times) A (by rw [OrdF_set_at _ hp]; rfl)
  simp only [List.set_set, List.length_set, Nat.add_zero] at s6
  exact s6
theorem grown_transOrd {a b c : World} {row : Option Nat} (h : a.grownBy b row) (k : b.grownBy c row) : a.grownBy c row :=
  ⟨k.os.trans h.os, k.tape.trans h.tape, k.output.trans h.output, Nat.le_trans h.size k.size, fun i hi hn => (k.block i (Nat.lt_of_lt_of_le hi h.size) hn).trans (h.block i hi hn)⟩
theorem grown_set1Ord (w : World) (R o : Nat) (u : Value) : w.grownBy (w.setCell ⟨R, o, none⟩ u) (some R) :=
  ⟨rfl, rfl, rfl, by simp [World.setCell], fun k _ hn => Below.heap_setCell _ _ _ _ (fun e => hn (by rw [e]))⟩
theorem grown_setOrd (w : World) (R p : Nat) (A : Ord) : w.grownBy (setOrd w R p A) (some R) := by
  unfold setOrd
  exact grown_transOrd (grown_transOrd (grown_transOrd (grown_transOrd (grown_transOrd (grown_transOrd (grown_set1Ord w R p _) (grown_set1Ord _ R (p + 1) _)) (grown_set1Ord _ R (p + 2) _)) (grown_set1Ord _ R (p + 3) _)) (grown_set1Ord _ R (p + 4) _)) (grown_set1Ord _ R (p + 5) _)) (grown_set1Ord _ R (p + 6) _)
/-- The record that the laws' marks make of the one at a place. -/
def markOrd (k0 : Int) (i : Nat) : Ord := ⟨k0 + 7 * (i : Int), k0 + 7 * (i : Int) + 1, k0 + 7 * (i : Int) + 1 + 1, k0 + 7 * (i : Int) + 1 + 1 + 1, k0 + 7 * (i : Int) + 1 + 1 + 1 + 1, k0 + 7 * (i : Int) + 1 + 1 + 1 + 1 + 1, k0 + 7 * (i : Int) + 1 + 1 + 1 + 1 + 1 + 1⟩
/-- The first j bear their marks. -/
def MarkedOrd (k0 : Int) (j : Nat) (L : List Ord) : Prop := ∀ i, i < j → OrdF L i = markOrd k0 i

set_option maxHeartbeats 1000000 in
theorem markOrds (B : Nat) (v : Value) (l : List Ord) (k0 : Int) (w : World) (hl : l.length ≤ 1048576) (k1 : 0 ≤ k0) (k2 : k0 ≤ 100000000) (h : OrdL w B v l) :
    Calls Try.prog 25 #[v, .int .i64 k0] w fun e w' => e = .returned (.int .i64 (k0 + 7 * (l.length : Int))) ∧ (∃ L, L.length = l.length ∧ MarkedOrd k0 l.length L ∧ OrdL w' B v L) ∧ w.grownBy w' v.ownBlock := by
  obtain ⟨a, m, hv, _, sh⟩ := h.shape
  by_cases h0 : l.length = 0
  · have hl0 : l = [] := List.length_eq_zero_iff.1 h0
    subst hl0
    subst hv
    have H : Hid (OrdL w B (.slice a [].length m) []) := h
    clear h sh
    simp only [List.length_nil]
    go_enter Try.func25, Try.ntmps25
    go_wp2
    refine wp_loop_rounds 1 ?_
    rw [rounds_succ]
    go_wp2
    go_ret
    exact ⟨congrArg (fun x => Ending.returned (.int .i64 x)) (by simp), ⟨[], rfl, fun i hi => absurd hi (Nat.not_lt_zero _), H.out⟩, World.grownBy.refl _ _⟩
  · obtain ⟨g, rfl, hg1, hg2, hx0⟩ := sh 0 (by omega)
    clear hx0
    subst hv
    have H : Hid (OrdL w B (.slice (some ⟨g, 0, none⟩) l.length m) l) := h
    clear h sh
    generalize hn : l.length = n at *
    have HN : Hid (l.length = n) := hn
    clear hn
    go_enter Try.func25, Try.ntmps25
    go_wp2
    go_loopw [1, 5] (fun t i wr => ∃ (k : Nat) (L : List Ord), k ≤ n ∧ i = .int .i64 k ∧ t = .int .i64 (k0 + 7 * (k : Int)) ∧ Hid (L.length = n) ∧ Hid (MarkedOrd k0 k L) ∧ Hid (OrdL wr B (.slice (some ⟨g, 0, none⟩) n m) L) ∧ Hid (w.grownBy wr (some g))) (fun _ i _ => n - (intOf i).toNat)
    case atStart => exact ⟨0, l, Nat.zero_le _, rfl, by simp, HN, fun i hi => absurd hi (Nat.not_lt_zero _), H, World.grownBy.refl _ _⟩
    case round =>
      obtain ⟨k, L, hk, rfl, rfl, hL, hM, hI, hG⟩ := hrel
      by_cases hlt : k < n
      · obtain ⟨a', m', e', _, sh⟩ := hI.out.shape
        obtain ⟨g', ea, _, _, cc⟩ := sh k (by rw [hL.out]; exact hlt)
        have eg : g = g' := by
          have := congrArg Value.ownBlock e'
          rw [ea] at this
          simpa [Value.ownBlock] using this
        subst eg
        clear e' sh ea
        have hi' : OrdL wr B (.slice (some ⟨g, 0, none⟩) L.length m) L := by rw [hL.out]; exact hI.out
        have fz : ∀ j, wr.frozen? ⟨g, j, none⟩ = false := fun j => World.ownsRow.frozenAt hi' j
        have st := hi'.stored (p := k) (by rw [hL.out]; exact hlt) (markOrd k0 k)
        have ST : Hid (OrdL (setOrd wr g (k * 7) (markOrd k0 k)) B (.slice (some ⟨g, 0, none⟩) n m) (L.set k (markOrd k0 k))) := by
          rw [hL.out] at st; exact st
        have GR : Hid (w.grownBy (setOrd wr g (k * 7) (markOrd k0 k)) (some g)) := grown_transOrd hG.out (grown_setOrd _ _ _ _)
        have HM : Hid (MarkedOrd k0 (k + 1) (L.set k (markOrd k0 k))) := fun i hi => by
          by_cases e : i = k
          · subst e
            exact OrdF_set_at _ (by rw [hL.out]; exact hlt)
          · rw [OrdF_set_ne _ e]
            exact hM.out i (by omega)
        have HL : Hid ((L.set k (markOrd k0 k)).length = n) := (by rw [List.length_set, hL.out] : (L.set k (markOrd k0 k)).length = n)
        clear st hi'
        obtain ⟨c0, c1, c2, c3, c4, c5, c6⟩ := cc
        have ES : Hid (setOrd wr g (k * 7) (markOrd k0 k) = setOrd wr g (k * 7) (markOrd k0 k)) := rfl
        unfold setOrd markOrd at ST GR
        simp only at ST GR
        go_wp2
        go_roundw
        case rel => exact ⟨k + 1, L.set k (markOrd k0 k), by omega, by go_num, by go_num, HL, HM, ST, GR⟩
        case measure => simp [intOf]; omega
      · have hkn : k = n := by omega
        subst hkn
        go_wp2
        go_ret
        exact ⟨rfl, ⟨L, hL.out, hM.out, hI.out⟩, hG.out⟩

set_option maxHeartbeats 1000000 in
theorem heldOrds (B : Nat) (v : Value) (L : List Ord) (k0 : Int) (w : World) (hl : L.length ≤ 1048576) (k1 : 0 ≤ k0) (k2 : k0 ≤ 100000000) (h : OrdL w B v L) (hM : MarkedOrd k0 L.length L) :
    Calls Try.prog 26 #[v, .int .i64 k0] w fun e w' => e = .returned (.int .i64 (k0 + 7 * (L.length : Int))) ∧ w' = w := by
  obtain ⟨a, m, rfl, _, sh⟩ := h.shape
  have S : Hid (∀ i, i < L.length → ∃ g, a = some ⟨g, 0, none⟩ ∧ OrdAt w g (i * 7) (markOrd k0 i)) := fun i hi => by
    obtain ⟨g, e, _, _, hc⟩ := sh i hi
    have := hM i hi
    rw [OrdF_lt hi] at this
    rw [this] at hc
    exact ⟨g, e, hc⟩
  clear sh h hM
  generalize hn : L.length = n at *
  clear hn
  go_enter Try.func26, Try.ntmps26
  go_wp2
  go_loop [1, 5] (fun t i => ∃ k : Nat, k ≤ n ∧ i = .int .i64 k ∧ t = .int .i64 (k0 + 7 * (k : Int))) (fun _ i => n - (intOf i).toNat)
  case atStart => exact ⟨0, Nat.zero_le _, rfl, by simp⟩
  case round =>
    obtain ⟨k, hk, rfl, rfl⟩ := hrel
    by_cases hlt : k < n
    · obtain ⟨g, rfl, cc⟩ := S.out k hlt
      obtain ⟨c0, c1, c2, c3, c4, c5, c6⟩ := cc
      simp only [markOrd] at c0 c1 c2 c3 c4 c5 c6
      go_wp2
      go_round
      case rel => exact ⟨k + 1, by omega, by go_num, by go_num⟩
      case measure => simp [intOf]; omega
    · have hkn : k = n := by omega
      subst hkn
      go_wp2
      go_ret
      exact ⟨rfl, rfl⟩
end Go.Proofs.Ytlndklendejjdaa
