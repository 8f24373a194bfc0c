/- Accounts and orders in memory of a call's own; marks in them and in a bank. Conditions: at most 1048576 of each. -/
import Derived.Test.YtedhlmipcfdldaaGreatDoorFBanks
import Derived.Test.YtedhlmipcfdldaaGreatDoorFCopy
import Derived.OwnWalk
import Derived.Deep.DeepCutAuto
import Derived.Deep.RegionWith
namespace Go.Proofs.YtedhlmipcfdldaaGreatDoor
open Go.RowKit
set_option maxRecDepth 8000

/-- The eight cells of an account. -/
def accCells (a : Acc) : List Value := [.int .i64 a.id, .int .i64 a.up, .int .i64 a.limit, .int .i64 a.rate, .int .i64 a.target, .bool a.frozen, .int .i64 a.balance, .int .i64 a.carry]
/-- Accounts in memory of a call's own. -/
def AL (w : World) (B : Nat) (v : Value) (l : List Acc) : Prop := w.ownsRow B 37 8 v l.length (l.flatMap accCells)
theorem flat_len (l : List Acc) : (l.flatMap accCells).length = l.length * 8 := by
  induction l with
  | nil => rfl
  | cons a l ih => simp only [List.flatMap_cons, List.length_append, ih, List.length_cons, accCells, List.length_nil]; omega
theorem flat_get (l : List Acc) : ∀ (i j : Nat) (hi : i < l.length) (_ : j < 8), (l.flatMap accCells)[i * 8 + j]? = (accCells l[i])[j]? := by
  induction l with
  | nil => intro i j hi; simp at hi
  | cons a l ih =>
    intro i j hi hj
    rw [List.flatMap_cons]
    cases i with
    | zero =>
      rw [List.getElem?_append_left (by simp [accCells]; omega)]
      simp
    | succ i =>
      have hl : (accCells a).length = 8 := rfl
      rw [List.getElem?_append_right (by rw [hl]; omega), hl]
      have e : (i + 1) * 8 + j - 8 = i * 8 + j := by omega
      rw [e, ih i j (by simpa using hi) hj]
      simp
theorem AL.kept {w w' : World} {B : Nat} {v : Value} {l : List Acc} (h : AL w B v l) (hb : Below w.heap.size w w') : AL w' B v l :=
  World.ownsRow.kept (row := none) h ⟨hb.os, hb.tape, hb.output, hb.size, fun k hk _ => hb.block k hk⟩ (by cases hv : v.ownBlock <;> simp)
theorem AL.shape {w : World} {B : Nat} {v : Value} {l : List Acc} (h : AL w B v l) :
    ∃ a cap, v = .slice a l.length cap ∧ (∀ g, v.ownBlock = some g → B ≤ g ∧ g < w.heap.size) ∧
      ∀ i (hi : i < l.length), ∃ g, a = some ⟨g, 0, none⟩ ∧ B ≤ g ∧ g < w.heap.size ∧ AccAt w g (i * 8) l[i] := by
  have hlt := World.ownsRow.lt h
  rcases h.2 with ⟨hv, hn⟩ | ⟨g, cap, cur, hv, hg, r⟩
  · refine ⟨none, 0, by rw [hv, hn], fun g hg => hlt g hg, fun i hi => ?_⟩
    omega
  · refine ⟨some ⟨g, 0, none⟩, cap, hv, fun g hg => hlt g hg, fun i hi => ?_⟩
    have ho : v.ownBlock = some g := by rw [hv]; rfl
    have hs : w.ownsRow B 37 8 (.slice (some ⟨g, 0, none⟩) l.length cap) l.length (l.flatMap accCells) := by rw [← hv]; exact h
    have hc : ∀ j, j < 8 → w.cell? ⟨g, i * 8 + j, none⟩ = (accCells l[i])[j]? := fun j hj => by
      rw [World.ownsRow.cellAt hs (i * 8 + j) (by omega), flat_get l i j hi hj]
    exact ⟨g, rfl, hg, (hlt g ho).2, hc 0 (by omega), hc 1 (by omega), hc 2 (by omega), hc 3 (by omega), hc 4 (by omega), hc 5 (by omega), hc 6 (by omega), hc 7 (by omega)⟩

set_option maxRecDepth 8000

/-- A list as places. -/
def noAcc : Acc := ⟨0, 0, 0, 0, 0, false, 0, 0⟩
def FL (L : List Acc) : Nat → Acc := fun j => L.getD j noAcc
/-- Places as a list. -/
def toL (F : Nat → Acc) (n : Nat) : List Acc := (List.range n).map F
theorem toL_len (F : Nat → Acc) (n : Nat) : (toL F n).length = n := by simp [toL]
theorem FL_lt {L : List Acc} {j : Nat} (h : j < L.length) : FL L j = L[j] := by simp [FL, List.getD, List.getElem?_eq_getElem h]
theorem FL_toL {F : Nat → Acc} {n j : Nat} (h : j < n) : FL (toL F n) j = F j := by
  rw [FL_lt (by rw [toL_len]; exact h)]
  simp [toL]
theorem toL_FL (L : List Acc) : toL (FL L) L.length = L := by
  apply List.ext_getElem
  · rw [toL_len]
  · intro i h1 h2
    simp [toL, FL_lt h2]
theorem FL_set_at {L : List Acc} {p : Nat} (x : Acc) (h : p < L.length) : FL (L.set p x) p = x := by
  rw [FL_lt (by simpa using h)]; simp
theorem FL_set_ne {L : List Acc} {p j : Nat} (x : Acc) (h : j ≠ p) : FL (L.set p x) j = FL L j := by
  simp only [FL, List.getD]
  rw [List.getElem?_set_ne (by omega)]
theorem Fo.congr {w : World} {a : Option Addr} {n : Nat} {F G : Nat → Acc} (h : Fo w a n F) (e : ∀ j, j < n → F j = G j) : Fo w a n G := by
  refine ⟨h.1, ?_⟩
  rcases h.2 with h0 | ⟨b, o, ha, hb, hall⟩
  · exact Or.inl h0
  · exact Or.inr ⟨b, o, ha, hb, fun i hi => by rw [← e i hi]; exact hall i hi⟩

theorem AL.len {w : World} {B : Nat} {v : Value} {L : List Acc} (h : AL w B v L) : ∃ a c, v = .slice a L.length c := by
  obtain ⟨a, c, hv, _⟩ := h.shape
  exact ⟨a, c, hv⟩
theorem AL.fo {w : World} {B : Nat} {a : Option Addr} {c m : Nat} {L : List Acc} (h : AL w B (.slice a m c) L) (hl : L.length ≤ 1048576) : m = L.length ∧ Fo w a m (FL L) := by
  obtain ⟨a', c', hv, _, hs⟩ := h.shape
  obtain ⟨rfl, rfl, rfl⟩ : a = a' ∧ m = L.length ∧ c = c' := by simpa using hv
  refine ⟨rfl, hl, ?_⟩
  by_cases h0 : L.length = 0
  · exact Or.inl h0
  · obtain ⟨g, ea, _, hg, _⟩ := hs 0 (by omega)
    refine Or.inr ⟨g, 0, ea, hg, fun i hi => ?_⟩
    obtain ⟨g', ea', _, _, hA⟩ := hs i hi
    rw [ea] at ea'
    have : g = g' := by simpa using ea'
    subst this
    rw [FL_lt hi]
    simpa using hA
theorem AL.mono {w : World} {B B' : Nat} {v : Value} {l : List Acc} (h : AL w B v l) (hB : B' ≤ B) : AL w B' v l :=
  ⟨h.1, h.2.elim Or.inl (fun ⟨g, cap, cur, hv, hg, r⟩ => Or.inr ⟨g, cap, cur, hv, Nat.le_trans hB hg, r⟩)⟩
theorem AL.empty (w : World) (B : Nat) (hB : B ≤ w.heap.size) : AL (w.alloc (.cells #[] 37)) B (.slice (some ⟨w.heap.size, 0, none⟩) 0 0) [] := World.ownsRow_lit w #[] 0 hB (Nat.zero_le _) (by simp)

/-- One cell of one account is written. -/
theorem flat_set : ∀ (L : List Acc) (p j : Nat) (u : Value) (A : Acc), p < L.length → j < 8 → (accCells (FL L p)).set j u = accCells A → (L.flatMap accCells).set (p * 8 + j) u = (L.set p A).flatMap accCells
  | [], p, j, u, A, hp, _, _ => by simp at hp
  | x :: L, 0, j, u, A, _, hj, h => by
    have hl : (accCells x).length = 8 := rfl
    have h' : (accCells x).set j u = accCells A := h
    simp only [List.flatMap_cons, List.set_cons_zero, Nat.zero_mul, Nat.zero_add]
    rw [List.set_append_left _ _ (by rw [hl]; omega), h']
  | x :: L, p + 1, j, u, A, hp, hj, h => by
    have hl : (accCells x).length = 8 := rfl
    have ih := flat_set L p j u A (by simpa using hp) hj (by simpa [FL, List.getD] using h)
    simp only [List.flatMap_cons, List.set_cons_succ]
    rw [List.set_append_right _ _ (by rw [hl]; omega), hl]
    have e : (p + 1) * 8 + j - 8 = p * 8 + j := by omega
    rw [e, ih]
theorem AL.stored {w : World} {B g cap : Nat} {L : List Acc} (h : AL w B (.slice (some ⟨g, 0, none⟩) L.length cap) L) {p : Nat} (hp : p < L.length) (j : Nat) (hj : j < 8) (u : Value) (A : Acc) (hA : (accCells (FL L p)).set j u = accCells A) :
    AL (w.setCell ⟨g, p * 8 + j, none⟩ u) B (.slice (some ⟨g, 0, none⟩) (L.set p A).length cap) (L.set p A) := by
  obtain ⟨h1, _⟩ := World.ownsRow.stored h (p * 8 + j) u
  unfold AL
  rw [← flat_set L p j u A hp hj hA, List.length_set]
  exact h1
theorem AL.block {w : World} {B g cap m : Nat} {L : List Acc} (h : AL w B (.slice (some ⟨g, 0, none⟩) m cap) L) : B ≤ g ∧ g < w.heap.size := World.ownsRow.lt h g rfl
theorem AL.frozen {w : World} {B g cap : Nat} {L : List Acc} (h : AL w B (.slice (some ⟨g, 0, none⟩) L.length cap) L) (j : Nat) : w.frozen? ⟨g, j, none⟩ = false := World.ownsRow.frozenAt h j
theorem below_set {B : Nat} {w w' : World} (h : Below B w w') {g : Nat} (hg : B ≤ g) (o : Nat) (u : Value) : Below B w (w'.setCell ⟨g, o, none⟩ u) :=
  ⟨h.os, h.tape, h.output, by simpa [World.setCell] using h.size, fun k hk => by rw [Below.heap_setCell _ _ _ _ (show k ≠ g by omega)]; exact h.block k hk⟩

/-- The cells of a record. -/
def OrdC (a : Ord) : List Value := [.int .i64 a.id, .int .i64 a.src, .int .i64 a.dst, .int .i64 a.amount, .int .i64 a.first, .int .i64 a.every, .int .i64 a.times]
/-- Records in memory of a call's own. -/
def OrdL (w : World) (B : Nat) (v : Value) (l : List Ord) : Prop := w.ownsRow B 39 7 v l.length (l.flatMap OrdC)
theorem flatOrd_len (l : List Ord) : (l.flatMap OrdC).length = l.length * 7 := by
  induction l with
  | nil => rfl
  | cons a l ih => simp only [List.flatMap_cons, List.length_append, ih, List.length_cons, OrdC, List.length_nil]; omega
theorem flatOrd_get (l : List Ord) : ∀ (i j : Nat) (hi : i < l.length) (_ : j < 7), (l.flatMap OrdC)[i * 7 + j]? = (OrdC l[i])[j]? := by
  induction l with
  | nil => intro i j hi; simp at hi
  | cons a l ih =>
    intro i j hi hj
    rw [List.flatMap_cons]
    cases i with
    | zero =>
      rw [List.getElem?_append_left (by simp [OrdC]; omega)]
      simp
    | succ i =>
      have hl : (OrdC a).length = 7 := rfl
      rw [List.getElem?_append_right (by rw [hl]; omega), hl]
      have e : (i + 1) * 7 + j - 7 = i * 7 + j := by omega
      rw [e, ih i j (by simpa using hi) hj]
      simp
theorem OrdL.kept {w w' : World} {B : Nat} {v : Value} {l : List Ord} (h : OrdL w B v l) (hb : Below w.heap.size w w') : OrdL w' B v l :=
  World.ownsRow.kept (row := none) h ⟨hb.os, hb.tape, hb.output, hb.size, fun k hk _ => hb.block k hk⟩ (by cases hv : v.ownBlock <;> simp)
theorem OrdL.shape {w : World} {B : Nat} {v : Value} {l : List Ord} (h : OrdL w B v l) :
    ∃ a cap, v = .slice a l.length cap ∧ (∀ g, v.ownBlock = some g → B ≤ g ∧ g < w.heap.size) ∧
      ∀ i (hi : i < l.length), ∃ g, a = some ⟨g, 0, none⟩ ∧ B ≤ g ∧ g < w.heap.size ∧ OrdAt w g (i * 7) l[i] := by
  have hlt := World.ownsRow.lt h
  rcases h.2 with ⟨hv, hn⟩ | ⟨g, cap, cur, hv, hg, r⟩
  · refine ⟨none, 0, by rw [hv, hn], fun g hg => hlt g hg, fun i hi => ?_⟩
    omega
  · refine ⟨some ⟨g, 0, none⟩, cap, hv, fun g hg => hlt g hg, fun i hi => ?_⟩
    have ho : v.ownBlock = some g := by rw [hv]; rfl
    have hs : w.ownsRow B 39 7 (.slice (some ⟨g, 0, none⟩) l.length cap) l.length (l.flatMap OrdC) := by rw [← hv]; exact h
    have hc : ∀ j, j < 7 → w.cell? ⟨g, i * 7 + j, none⟩ = (OrdC l[i])[j]? := fun j hj => by
      rw [World.ownsRow.cellAt hs (i * 7 + j) (by omega), flatOrd_get l i j hi hj]
    exact ⟨g, rfl, hg, (hlt g ho).2, hc 0 (by omega), hc 1 (by omega), hc 2 (by omega), hc 3 (by omega), hc 4 (by omega), hc 5 (by omega), hc 6 (by omega)⟩
theorem OrdL.mono {w : World} {B B' : Nat} {v : Value} {l : List Ord} (h : OrdL w B v l) (hB : B' ≤ B) : OrdL w B' v l :=
  ⟨h.1, h.2.elim Or.inl (fun ⟨g, cap, cur, hv, hg, r⟩ => Or.inr ⟨g, cap, cur, hv, Nat.le_trans hB hg, r⟩)⟩
theorem OrdL.nil (w : World) (B : Nat) : OrdL w B (.slice none 0 0) [] := World.ownsRow_nil w B 39 7
theorem OrdL.empty (w : World) (B : Nat) (hB : B ≤ w.heap.size) : OrdL (w.alloc (.cells #[] 39)) B (.slice (some ⟨w.heap.size, 0, none⟩) 0 0) [] := World.ownsRow_lit w #[] 0 hB (Nat.zero_le _) (by simp)
/-- A list as places. -/
def OrdF (L : List Ord) : Nat → Ord := fun j => L.getD j ⟨0, 0, 0, 0, 0, 0, 0⟩
theorem OrdF_lt {L : List Ord} {j : Nat} (h : j < L.length) : OrdF L j = L[j] := by simp [OrdF, List.getD, List.getElem?_eq_getElem h]
theorem OrdF_set_at {L : List Ord} {p : Nat} (x : Ord) (h : p < L.length) : OrdF (L.set p x) p = x := by
  rw [OrdF_lt (by simpa using h)]; simp
theorem OrdF_set_ne {L : List Ord} {p j : Nat} (x : Ord) (h : j ≠ p) : OrdF (L.set p x) j = OrdF L j := by
  simp only [OrdF, List.getD]
  rw [List.getElem?_set_ne (by omega)]
theorem OrdL.list {w : World} {B : Nat} {a : Option Addr} {c m : Nat} {L : List Ord} (h : OrdL w B (.slice a m c) L) (hl : L.length ≤ 1048576) : m = L.length ∧ Ords w a m (OrdF L) := by
  obtain ⟨a', c', hv, _, hs⟩ := h.shape
  obtain ⟨rfl, rfl, rfl⟩ : a = a' ∧ m = L.length ∧ c = c' := by simpa using hv
  refine ⟨rfl, hl, ?_⟩
  by_cases h0 : L.length = 0
  · exact Or.inl h0
  · obtain ⟨g, ea, _, hg, _⟩ := hs 0 (by omega)
    refine Or.inr ⟨g, 0, ea, hg, fun i hi => ?_⟩
    obtain ⟨g', ea', _, _, hA⟩ := hs i hi
    rw [ea] at ea'
    have : g = g' := by simpa using ea'
    subst this
    rw [OrdF_lt hi]
    simpa using hA
/-- One cell of one record is written. -/
theorem flatOrd_set : ∀ (L : List Ord) (p j : Nat) (u : Value) (A : Ord), p < L.length → j < 7 → (OrdC (OrdF L p)).set j u = OrdC A → (L.flatMap OrdC).set (p * 7 + j) u = (L.set p A).flatMap OrdC
  | [], p, j, u, A, hp, _, _ => by simp at hp
  | x :: L, 0, j, u, A, _, hj, h => by
    have hl : (OrdC x).length = 7 := rfl
    have h' : (OrdC x).set j u = OrdC A := h
    simp only [List.flatMap_cons, List.set_cons_zero, Nat.zero_mul, Nat.zero_add]
    rw [List.set_append_left _ _ (by rw [hl]; omega), h']
  | x :: L, p + 1, j, u, A, hp, hj, h => by
    have hl : (OrdC x).length = 7 := rfl
    have ih := flatOrd_set L p j u A (by simpa using hp) hj (by simpa [OrdF, List.getD] using h)
    simp only [List.flatMap_cons, List.set_cons_succ]
    rw [List.set_append_right _ _ (by rw [hl]; omega), hl]
    have e : (p + 1) * 7 + j - 7 = p * 7 + j := by omega
    rw [e, ih]
theorem OrdL.stored1 {w : World} {B g cap : Nat} {L : List Ord} (h : OrdL w B (.slice (some ⟨g, 0, none⟩) L.length cap) L) {p : Nat} (hp : p < L.length) (j : Nat) (hj : j < 7) (u : Value) (A : Ord) (hA : (OrdC (OrdF L p)).set j u = OrdC A) :
    OrdL (w.setCell ⟨g, p * 7 + j, none⟩ u) B (.slice (some ⟨g, 0, none⟩) (L.set p A).length cap) (L.set p A) := by
  obtain ⟨h1, _⟩ := World.ownsRow.stored h (p * 7 + j) u
  unfold OrdL
  rw [← flatOrd_set L p j u A hp hj hA, List.length_set]
  exact h1
theorem OrdL.stored {w : World} {B g cap : Nat} {L : List Ord} (h : OrdL w B (.slice (some ⟨g, 0, none⟩) L.length cap) L) {p : Nat} (hp : p < L.length) (A : Ord) :
    OrdL (setOrd w g (p * 7) A) B (.slice (some ⟨g, 0, none⟩) L.length cap) (L.set p A) := by
  have s0 := h.stored1 hp 0 (by omega) (.int .i64 A.id) { OrdF L p with id := A.id } rfl
  have s1 := s0.stored1 (p := p) (by simpa using hp) 1 (by omega) (.int .i64 A.src) { OrdF L p with id := A.id, src := A.src } (by rw [OrdF_set_at _ hp]; rfl)
  simp only [List.set_set] at s1
  have s2 := s1.stored1 (p := p) (by simpa using hp) 2 (by omega) (.int .i64 A.dst) { OrdF L p with id := A.id, src := A.src, dst := A.dst } (by rw [OrdF_set_at _ hp]; rfl)
  simp only [List.set_set] at s2
  have s3 := s2.stored1 (p := p) (by simpa using hp) 3 (by omega) (.int .i64 A.amount) { OrdF L p with id := A.id, src := A.src, dst := A.dst, amount := A.amount } (by rw [OrdF_set_at _ hp]; rfl)
  simp only [List.set_set] at s3
  have s4 := s3.stored1 (p := p) (by simpa using hp) 4 (by omega) (.int .i64 A.first) { OrdF L p with id := A.id, src := A.src, dst := A.dst, amount := A.amount, first := A.first } (by rw [OrdF_set_at _ hp]; rfl)
  simp only [List.set_set] at s4
  have s5 := s4.stored1 (p := p) (by simpa using hp) 5 (by omega) (.int .i64 A.every) { OrdF L p with id := A.id, src := A.src, dst := A.dst, amount := A.amount, first := A.first, every := A.every } (by rw [OrdF_set_at _ hp]; rfl)
  simp only [List.set_set] at s5
  have s6 := s5.stored1 (p := p) (by simpa using hp) 6 (by omega) (.int .i64 A.times) A (by rw [OrdF_set_at _ hp]; rfl)
  simp only [List.set_set, List.length_set, Nat.add_zero] at s6
  exact s6
theorem grown_transOrd {a b c : World} {row : Option Nat} (h : a.grownBy b row) (k : b.grownBy c row) : a.grownBy c row :=
  ⟨k.os.trans h.os, k.tape.trans h.tape, k.output.trans h.output, Nat.le_trans h.size k.size, fun i hi hn => (k.block i (Nat.lt_of_lt_of_le hi h.size) hn).trans (h.block i hi hn)⟩
theorem grown_set1Ord (w : World) (R o : Nat) (u : Value) : w.grownBy (w.setCell ⟨R, o, none⟩ u) (some R) :=
  ⟨rfl, rfl, rfl, by simp [World.setCell], fun k _ hn => Below.heap_setCell _ _ _ _ (fun e => hn (by rw [e]))⟩
theorem grown_setOrd (w : World) (R p : Nat) (A : Ord) : w.grownBy (setOrd w R p A) (some R) := by
  unfold setOrd
  exact grown_transOrd (grown_transOrd (grown_transOrd (grown_transOrd (grown_transOrd (grown_transOrd (grown_set1Ord w R p _) (grown_set1Ord _ R (p + 1) _)) (grown_set1Ord _ R (p + 2) _)) (grown_set1Ord _ R (p + 3) _)) (grown_set1Ord _ R (p + 4) _)) (grown_set1Ord _ R (p + 5) _)) (grown_set1Ord _ R (p + 6) _)
/-- The record that the laws' marks make of the one at a place. -/
def markOrd (k0 : Int) (i : Nat) : Ord := ⟨k0 + 7 * (i : Int), k0 + 7 * (i : Int) + 1, k0 + 7 * (i : Int) + 1 + 1, k0 + 7 * (i : Int) + 1 + 1 + 1, k0 + 7 * (i : Int) + 1 + 1 + 1 + 1, k0 + 7 * (i : Int) + 1 + 1 + 1 + 1 + 1, k0 + 7 * (i : Int) + 1 + 1 + 1 + 1 + 1 + 1⟩
/-- The first j bear their marks. -/
def MarkedOrd (k0 : Int) (j : Nat) (L : List Ord) : Prop := ∀ i, i < j → OrdF L i = markOrd k0 i

set_option maxHeartbeats 1000000 in
theorem markOrds (B : Nat) (v : Value) (l : List Ord) (k0 : Int) (w : World) (hl : l.length ≤ 1048576) (k1 : 0 ≤ k0) (k2 : k0 ≤ 100000000) (h : OrdL w B v l) :
    Calls Tryz.prog 17 #[v, .int .i64 k0] w fun e w' => e = .returned (.int .i64 (k0 + 7 * (l.length : Int))) ∧ (∃ L, L.length = l.length ∧ MarkedOrd k0 l.length L ∧ OrdL w' B v L) ∧ w.grownBy w' v.ownBlock := by
  obtain ⟨a, m, hv, _, sh⟩ := h.shape
  by_cases h0 : l.length = 0
  · have hl0 : l = [] := List.length_eq_zero_iff.1 h0
    subst hl0
    subst hv
    have H : Hid (OrdL w B (.slice a [].length m) []) := h
    clear h sh
    simp only [List.length_nil]
    go_enter Tryz.func17, Tryz.ntmps17
    go_wp2
    refine wp_loop_rounds 1 ?_
    rw [rounds_succ]
    go_wp2
    go_ret
    exact ⟨congrArg (fun x => Ending.returned (.int .i64 x)) (by simp), ⟨[], rfl, fun i hi => absurd hi (Nat.not_lt_zero _), H.out⟩, World.grownBy.refl _ _⟩
  · obtain ⟨g, rfl, hg1, hg2, hx0⟩ := sh 0 (by omega)
    clear hx0
    subst hv
    have H : Hid (OrdL w B (.slice (some ⟨g, 0, none⟩) l.length m) l) := h
    clear h sh
    generalize hn : l.length = n at *
    have HN : Hid (l.length = n) := hn
    clear hn
    go_enter Tryz.func17, Tryz.ntmps17
    go_wp2
    go_loopw [1, 5] (fun t i wr => ∃ (k : Nat) (L : List Ord), k ≤ n ∧ i = .int .i64 k ∧ t = .int .i64 (k0 + 7 * (k : Int)) ∧ Hid (L.length = n) ∧ Hid (MarkedOrd k0 k L) ∧ Hid (OrdL wr B (.slice (some ⟨g, 0, none⟩) n m) L) ∧ Hid (w.grownBy wr (some g))) (fun _ i _ => n - (intOf i).toNat)
    case atStart => exact ⟨0, l, Nat.zero_le _, rfl, by simp, HN, fun i hi => absurd hi (Nat.not_lt_zero _), H, World.grownBy.refl _ _⟩
    case round =>
      obtain ⟨k, L, hk, rfl, rfl, hL, hM, hI, hG⟩ := hrel
      by_cases hlt : k < n
      · obtain ⟨a', m', e', _, sh⟩ := hI.out.shape
        obtain ⟨g', ea, _, _, cc⟩ := sh k (by rw [hL.out]; exact hlt)
        have eg : g = g' := by
          have := congrArg Value.ownBlock e'
          rw [ea] at this
          simpa [Value.ownBlock] using this
        subst eg
        clear e' sh ea
        have hi' : OrdL wr B (.slice (some ⟨g, 0, none⟩) L.length m) L := by rw [hL.out]; exact hI.out
        have fz : ∀ j, wr.frozen? ⟨g, j, none⟩ = false := fun j => World.ownsRow.frozenAt hi' j
        have st := hi'.stored (p := k) (by rw [hL.out]; exact hlt) (markOrd k0 k)
        have ST : Hid (OrdL (setOrd wr g (k * 7) (markOrd k0 k)) B (.slice (some ⟨g, 0, none⟩) n m) (L.set k (markOrd k0 k))) := by
          rw [hL.out] at st; exact st
        have GR : Hid (w.grownBy (setOrd wr g (k * 7) (markOrd k0 k)) (some g)) := grown_transOrd hG.out (grown_setOrd _ _ _ _)
        have HM : Hid (MarkedOrd k0 (k + 1) (L.set k (markOrd k0 k))) := fun i hi => by
          by_cases e : i = k
          · subst e
            exact OrdF_set_at _ (by rw [hL.out]; exact hlt)
          · rw [OrdF_set_ne _ e]
            exact hM.out i (by omega)
        have HL : Hid ((L.set k (markOrd k0 k)).length = n) := (by rw [List.length_set, hL.out] : (L.set k (markOrd k0 k)).length = n)
        clear st hi'
        obtain ⟨c0, c1, c2, c3, c4, c5, c6⟩ := cc
        have ES : Hid (setOrd wr g (k * 7) (markOrd k0 k) = setOrd wr g (k * 7) (markOrd k0 k)) := rfl
        unfold setOrd markOrd at ST GR
        simp only at ST GR
        go_wp2
        go_roundw
        case rel => exact ⟨k + 1, L.set k (markOrd k0 k), by omega, by go_num, by go_num, HL, HM, ST, GR⟩
        case measure => simp [intOf]; omega
      · have hkn : k = n := by omega
        subst hkn
        go_wp2
        go_ret
        exact ⟨rfl, ⟨L, hL.out, hM.out, hI.out⟩, hG.out⟩

set_option maxHeartbeats 1000000 in
theorem heldOrds (B : Nat) (v : Value) (L : List Ord) (k0 : Int) (w : World) (hl : L.length ≤ 1048576) (k1 : 0 ≤ k0) (k2 : k0 ≤ 100000000) (h : OrdL w B v L) (hM : MarkedOrd k0 L.length L) :
    Calls Tryz.prog 19 #[v, .int .i64 k0] w fun e w' => e = .returned (.int .i64 (k0 + 7 * (L.length : Int))) ∧ w' = w := by
  obtain ⟨a, m, rfl, _, sh⟩ := h.shape
  have S : Hid (∀ i, i < L.length → ∃ g, a = some ⟨g, 0, none⟩ ∧ OrdAt w g (i * 7) (markOrd k0 i)) := fun i hi => by
    obtain ⟨g, e, _, _, hc⟩ := sh i hi
    have := hM i hi
    rw [OrdF_lt hi] at this
    rw [this] at hc
    exact ⟨g, e, hc⟩
  clear sh h hM
  generalize hn : L.length = n at *
  clear hn
  go_enter Tryz.func19, Tryz.ntmps19
  go_wp2
  go_loop [1, 5] (fun t i => ∃ k : Nat, k ≤ n ∧ i = .int .i64 k ∧ t = .int .i64 (k0 + 7 * (k : Int))) (fun _ i => n - (intOf i).toNat)
  case atStart => exact ⟨0, Nat.zero_le _, rfl, by simp⟩
  case round =>
    obtain ⟨k, hk, rfl, rfl⟩ := hrel
    by_cases hlt : k < n
    · obtain ⟨g, rfl, cc⟩ := S.out k hlt
      obtain ⟨c0, c1, c2, c3, c4, c5, c6⟩ := cc
      simp only [markOrd] at c0 c1 c2 c3 c4 c5 c6
      go_wp2
      go_round
      case rel => exact ⟨k + 1, by omega, by go_num, by go_num⟩
      case measure => simp [intOf]; omega
    · have hkn : k = n := by omega
      subst hkn
      go_wp2
      go_ret
      exact ⟨rfl, rfl⟩
theorem AL.acc {w : World} {B g c : Nat} {L : List Acc} (h : AL w B (.slice (some ⟨g, 0, none⟩) L.length c) L) {i : Nat} (hi : i < L.length) : AccAt w g (i * 8) (FL L i) := by
  obtain ⟨a', c', hv, _, hs⟩ := h.shape
  obtain ⟨g', ea, _, _, hA⟩ := hs i hi
  rw [ea] at hv
  have : g = g' := by simpa using (Value.slice.inj hv).1
  subst this
  rw [FL_lt hi]
  exact hA

theorem AL.stored8 {w : World} {B g cap : Nat} {L : List Acc} (h : AL w B (.slice (some ⟨g, 0, none⟩) L.length cap) L) {p : Nat} (hp : p < L.length) (A : Acc) :
    AL (set8 w g (p * 8) A) B (.slice (some ⟨g, 0, none⟩) L.length cap) (L.set p A) := by
  have s0 := h.stored hp 0 (by omega) (.int .i64 A.id) { FL L p with id := A.id } rfl
  have s1 := s0.stored (p := p) (by simpa using hp) 1 (by omega) (.int .i64 A.up) { FL L p with id := A.id, up := A.up } (by rw [FL_set_at _ hp]; rfl)
  simp only [List.set_set] at s1
  have s2 := s1.stored (p := p) (by simpa using hp) 2 (by omega) (.int .i64 A.limit) { FL L p with id := A.id, up := A.up, limit := A.limit } (by rw [FL_set_at _ hp]; rfl)
  simp only [List.set_set] at s2
  have s3 := s2.stored (p := p) (by simpa using hp) 3 (by omega) (.int .i64 A.rate) { FL L p with id := A.id, up := A.up, limit := A.limit, rate := A.rate } (by rw [FL_set_at _ hp]; rfl)
  simp only [List.set_set] at s3
  have s4 := s3.stored (p := p) (by simpa using hp) 4 (by omega) (.int .i64 A.target) { FL L p with id := A.id, up := A.up, limit := A.limit, rate := A.rate, target := A.target } (by rw [FL_set_at _ hp]; rfl)
  simp only [List.set_set] at s4
  have s5 := s4.stored (p := p) (by simpa using hp) 5 (by omega) (.bool A.frozen) { FL L p with id := A.id, up := A.up, limit := A.limit, rate := A.rate, target := A.target, frozen := A.frozen } (by rw [FL_set_at _ hp]; rfl)
  simp only [List.set_set] at s5
  have s6 := s5.stored (p := p) (by simpa using hp) 6 (by omega) (.int .i64 A.balance) { FL L p with id := A.id, up := A.up, limit := A.limit, rate := A.rate, target := A.target, frozen := A.frozen, balance := A.balance } (by rw [FL_set_at _ hp]; rfl)
  simp only [List.set_set] at s6
  have s7 := s6.stored (p := p) (by simpa using hp) 7 (by omega) (.int .i64 A.carry) A (by rw [FL_set_at _ hp]; rfl)
  simp only [List.set_set, List.length_set, Nat.add_zero] at s7
  exact s7


theorem grown_transAcc {a b c : World} {row : Option Nat} (h : a.grownBy b row) (k : b.grownBy c row) : a.grownBy c row :=
  ⟨k.os.trans h.os, k.tape.trans h.tape, k.output.trans h.output, Nat.le_trans h.size k.size, fun i hi hn => (k.block i (Nat.lt_of_lt_of_le hi h.size) hn).trans (h.block i hi hn)⟩
theorem grown_set1Acc (w : World) (R o : Nat) (u : Value) : w.grownBy (w.setCell ⟨R, o, none⟩ u) (some R) :=
  ⟨rfl, rfl, rfl, by simp [World.setCell], fun k _ hn => Below.heap_setCell _ _ _ _ (fun e => hn (by rw [e]))⟩
theorem grown_set8 (w : World) (R p : Nat) (A : Acc) : w.grownBy (set8 w R p A) (some R) := by
  unfold set8
  exact grown_transAcc (grown_transAcc (grown_transAcc (grown_transAcc (grown_transAcc (grown_transAcc (grown_transAcc (grown_set1Acc w R p _) (grown_set1Acc _ R (p + 1) _)) (grown_set1Acc _ R (p + 2) _)) (grown_set1Acc _ R (p + 3) _)) (grown_set1Acc _ R (p + 4) _)) (grown_set1Acc _ R (p + 5) _)) (grown_set1Acc _ R (p + 6) _)) (grown_set1Acc _ R (p + 7) _)
/-- The record that the laws' marks make of the one at a place. -/
def markAcc (k0 : Int) (i : Nat) : Acc := ⟨k0 + 8 * (i : Int), k0 + 8 * (i : Int) + 1, k0 + 8 * (i : Int) + 1 + 1, k0 + 8 * (i : Int) + 1 + 1 + 1, k0 + 8 * (i : Int) + 1 + 1 + 1 + 1, (k0 + 8 * (i : Int) + 1 + 1 + 1 + 1 + 1) % 3 == 0, k0 + 8 * (i : Int) + 1 + 1 + 1 + 1 + 1 + 1, k0 + 8 * (i : Int) + 1 + 1 + 1 + 1 + 1 + 1 + 1⟩
/-- The first j bear their marks. -/
def MarkedAcc (k0 : Int) (j : Nat) (L : List Acc) : Prop := ∀ i, i < j → FL L i = markAcc k0 i

set_option maxRecDepth 8000 in
set_option maxHeartbeats 2000000 in
theorem markAccs (B : Nat) (v : Value) (l : List Acc) (k0 : Int) (w : World) (hl : l.length ≤ 1048576) (k1 : 0 ≤ k0) (k2 : k0 ≤ 100000000) (h : AL w B v l) :
    Calls Tryz.prog 16 #[v, .int .i64 k0] w fun e w' => e = .returned (.int .i64 (k0 + 8 * (l.length : Int))) ∧ (∃ L, L.length = l.length ∧ MarkedAcc k0 l.length L ∧ AL w' B v L) ∧ w.grownBy w' v.ownBlock := by
  obtain ⟨a, m, hv, _, sh⟩ := h.shape
  by_cases h0 : l.length = 0
  · have hl0 : l = [] := List.length_eq_zero_iff.1 h0
    subst hl0
    subst hv
    have H : Hid (AL w B (.slice a [].length m) []) := h
    clear h sh
    simp only [List.length_nil]
    go_enter Tryz.func16, Tryz.ntmps16
    go_wp2
    refine wp_loop_rounds 1 ?_
    rw [rounds_succ]
    go_wp2
    go_ret
    exact ⟨congrArg (fun x => Ending.returned (.int .i64 x)) (by simp), ⟨[], rfl, fun i hi => absurd hi (Nat.not_lt_zero _), H.out⟩, World.grownBy.refl _ _⟩
  · obtain ⟨g, rfl, hg1, hg2, hx0⟩ := sh 0 (by omega)
    clear hx0
    subst hv
    have H : Hid (AL w B (.slice (some ⟨g, 0, none⟩) l.length m) l) := h
    clear h sh
    generalize hn : l.length = n at *
    have HN : Hid (l.length = n) := hn
    clear hn
    go_enter Tryz.func16, Tryz.ntmps16
    go_wp2
    go_loopw [1, 5] (fun t i wr => ∃ (k : Nat) (L : List Acc), k ≤ n ∧ i = .int .i64 k ∧ t = .int .i64 (k0 + 8 * (k : Int)) ∧ Hid (L.length = n) ∧ Hid (MarkedAcc k0 k L) ∧ Hid (AL wr B (.slice (some ⟨g, 0, none⟩) n m) L) ∧ Hid (w.grownBy wr (some g))) (fun _ i _ => n - (intOf i).toNat)
    case atStart => exact ⟨0, l, Nat.zero_le _, rfl, by simp, HN, fun i hi => absurd hi (Nat.not_lt_zero _), H, World.grownBy.refl _ _⟩
    case round =>
      obtain ⟨k, L, hk, rfl, rfl, hL, hM, hI, hG⟩ := hrel
      by_cases hlt : k < n
      · obtain ⟨a', m', e', _, sh⟩ := hI.out.shape
        obtain ⟨g', ea, _, _, cc⟩ := sh k (by rw [hL.out]; exact hlt)
        have eg : g = g' := by
          have := congrArg Value.ownBlock e'
          rw [ea] at this
          simpa [Value.ownBlock] using this
        subst eg
        clear e' sh ea
        have hi' : AL wr B (.slice (some ⟨g, 0, none⟩) L.length m) L := by rw [hL.out]; exact hI.out
        have fz : ∀ j, wr.frozen? ⟨g, j, none⟩ = false := fun j => World.ownsRow.frozenAt hi' j
        have st := hi'.stored8 (p := k) (by rw [hL.out]; exact hlt) (markAcc k0 k)
        have ST : Hid (AL (set8 wr g (k * 8) (markAcc k0 k)) B (.slice (some ⟨g, 0, none⟩) n m) (L.set k (markAcc k0 k))) := by
          rw [hL.out] at st; exact st
        have GR : Hid (w.grownBy (set8 wr g (k * 8) (markAcc k0 k)) (some g)) := grown_transAcc hG.out (grown_set8 _ _ _ _)
        have HM : Hid (MarkedAcc k0 (k + 1) (L.set k (markAcc k0 k))) := fun i hi => by
          by_cases e : i = k
          · subst e
            exact FL_set_at _ (by rw [hL.out]; exact hlt)
          · rw [FL_set_ne _ e]
            exact hM.out i (by omega)
        have HL : Hid ((L.set k (markAcc k0 k)).length = n) := (by rw [List.length_set, hL.out] : (L.set k (markAcc k0 k)).length = n)
        clear st hi'
        obtain ⟨c0, c1, c2, c3, c4, c5, c6, c7⟩ := cc
        have ES : Hid (set8 wr g (k * 8) (markAcc k0 k) = set8 wr g (k * 8) (markAcc k0 k)) := rfl
        unfold set8 markAcc at ST GR
        simp only at ST GR
        go_wp2
        go_roundw
        case rel => exact ⟨k + 1, L.set k (markAcc k0 k), by omega, by go_num, by go_num, HL, HM, ST, GR⟩
        case measure => simp [intOf]; omega
      · have hkn : k = n := by omega
        subst hkn
        go_wp2
        go_ret
        exact ⟨rfl, ⟨L, hL.out, hM.out, hI.out⟩, hG.out⟩

set_option maxRecDepth 8000 in
set_option maxHeartbeats 2000000 in
theorem heldAccs (B : Nat) (v : Value) (L : List Acc) (k0 : Int) (w : World) (hl : L.length ≤ 1048576) (k1 : 0 ≤ k0) (k2 : k0 ≤ 100000000) (h : AL w B v L) (hM : MarkedAcc k0 L.length L) :
    Calls Tryz.prog 18 #[v, .int .i64 k0] w fun e w' => e = .returned (.int .i64 (k0 + 8 * (L.length : Int))) ∧ w' = w := by
  obtain ⟨a, m, rfl, _, sh⟩ := h.shape
  have S : Hid (∀ i, i < L.length → ∃ g, a = some ⟨g, 0, none⟩ ∧ AccAt w g (i * 8) (markAcc k0 i)) := fun i hi => by
    obtain ⟨g, e, _, _, hc⟩ := sh i hi
    have := hM i hi
    rw [FL_lt hi] at this
    rw [this] at hc
    exact ⟨g, e, hc⟩
  clear sh h hM
  generalize hn : L.length = n at *
  clear hn
  go_enter Tryz.func18, Tryz.ntmps18
  go_wp2
  go_loop [1, 5] (fun t i => ∃ k : Nat, k ≤ n ∧ i = .int .i64 k ∧ t = .int .i64 (k0 + 8 * (k : Int))) (fun _ i => n - (intOf i).toNat)
  case atStart => exact ⟨0, Nat.zero_le _, rfl, by simp⟩
  case round =>
    obtain ⟨k, hk, rfl, rfl⟩ := hrel
    by_cases hlt : k < n
    · obtain ⟨g, rfl, cc⟩ := S.out k hlt
      obtain ⟨c0, c1, c2, c3, c4, c5, c6, c7⟩ := cc
      simp only [markAcc] at c0 c1 c2 c3 c4 c5 c6 c7
      go_wp2
      go_round
      case rel => exact ⟨k + 1, by omega, by go_num, by go_num⟩
      case measure => simp [intOf]; omega
    · have hkn : k = n := by omega
      subst hkn
      go_wp2
      go_ret
      exact ⟨rfl, rfl⟩
theorem Box7.same {w w' : World} {R : Nat} {v0 v1 v2 v3 v4 v5 v6 : Value} (h : Box7 w R v0 v1 v2 v3 v4 v5 v6) (e : w'.heap[R]? = w.heap[R]?) : Box7 w' R v0 v1 v2 v3 v4 v5 v6 := by
  obtain ⟨⟨h0, h1, h2, h3, h4, h5, h6⟩, hf, hz⟩ := h
  have hc : ∀ o, w'.cell? ⟨R, o, none⟩ = w.cell? ⟨R, o, none⟩ := fun o => by unfold World.cell?; simp only [e]
  refine ⟨⟨(hc 0).trans h0, (hc 1).trans h1, (hc 2).trans h2, (hc 3).trans h3, (hc 4).trans h4, (hc 5).trans h5, (hc 6).trans h6⟩, ?_, ?_⟩
  · intro o
    have := hf o
    unfold World.frozen? at this ⊢
    simp only [e]
    exact this
  · have h4 : w.heap[R]? = some w.heap[R] := Array.getElem?_eq_getElem hz
    exact (Array.getElem?_eq_some_iff.1 (e.trans h4)).1

theorem AL.nil' (w : World) (B : Nat) : AL w B (.slice none 0 0) [] := ⟨by simp, Or.inl ⟨rfl, rfl⟩⟩
/-- Accounts and orders never lie in one block. -/
theorem blocks_apart {w : World} {B C : Nat} {v u : Value} {L : List Acc} {O : List Ord} (h : AL w B v L) (k : OrdL w C u O) : ∀ q, v.ownBlock = some q → u.ownBlock = some q → False := by
  intro q h1 h2
  rcases h.2 with ⟨rfl, _⟩ | ⟨g, cap, cur, rfl, _, hc, _⟩
  · simp [Value.ownBlock] at h1
  · rcases k.2 with ⟨rfl, _⟩ | ⟨g', cap', cur', rfl, _, hc', _⟩
    · simp [Value.ownBlock] at h2
    · simp [Value.ownBlock] at h1 h2
      subst h1 h2
      rw [hc] at hc'
      simp at hc'
theorem grown_below {w w' : World} {row : Option Nat} (h : Below w.heap.size w w') : w.grownBy w' row := ⟨h.os, h.tape, h.output, h.size, fun i hi _ => h.block i hi⟩

set_option maxHeartbeats 2000000 in
theorem markBankOwn (B C : Nat) (v u : Value) (l : List Acc) (o : List Ord) (k : Bk) (w : World) (hl : l.length ≤ 1048576) (ho : o.length ≤ 1048576) (h1 : AL w B v l) (h2 : OrdL w C u o) (hv : ∀ q, v.ownBlock = some q → q < w.heap.size) :
    Calls Tryz.prog 7 #[.agg #[.int .i64 k.day, v, u, .int .i64 k.inn, .int .i64 k.out, .int .i64 k.posted, .int .i64 k.missed], .int .i64 1] w fun e w' => e = .returned (.int .i64 (1 + 8 * (l.length : Int) + 7 * (o.length : Int))) ∧ (∃ M, M.length = l.length ∧ MarkedAcc 1 M.length M ∧ AL w' B v M) ∧ (∃ P, P.length = o.length ∧ MarkedOrd (1 + 8 * (l.length : Int)) P.length P ∧ OrdL w' C u P) ∧ ∃ wm, w.grownBy wm v.ownBlock ∧ wm.grownBy w' u.ownBlock := by
  obtain ⟨a1, c1, hv1⟩ := h1.len
  subst hv1
  obtain ⟨a2, c2, hv2, hlt2, _⟩ := h2.shape
  subst hv2
  obtain ⟨W, hW⟩ : ∃ W, W = w.alloc (.cells #[.int .i64 k.day, .slice a1 l.length c1, .slice a2 o.length c2, .int .i64 k.inn, .int .i64 k.out, .int .i64 k.posted, .int .i64 k.missed] 25) := ⟨_, rfl⟩
  have BW : Hid (Below w.heap.size w W) := by show Below _ _ _; rw [hW]; exact (Below.refl _ _).alloc (Nat.le_refl _) _
  have X : Hid (Box7 W w.heap.size (.int .i64 k.day) (.slice a1 l.length c1) (.slice a2 o.length c2) (.int .i64 k.inn) (.int .i64 k.out) (.int .i64 k.posted) (.int .i64 k.missed)) := by show Box7 _ _ _ _ _ _ _ _ _; rw [hW]; exact Box7.new w _ _ _ _ _ _ _ 25
  have H1 : Hid (AL W B (.slice a1 l.length c1) l) := h1.kept BW.out
  have H2 : Hid (OrdL W C (.slice a2 o.length c2) o) := h2.kept BW.out
  have HLT1 : Hid (∀ q, (Value.slice a1 l.length c1).ownBlock = some q → q < w.heap.size) := hv
  have HLT2 : Hid (∀ q, (Value.slice a2 o.length c2).ownBlock = some q → q < w.heap.size) := fun q hq => (hlt2 q hq).2
  have AP : Hid (∀ q, (Value.slice a1 l.length c1).ownBlock = some q → (Value.slice a2 o.length c2).ownBlock = some q → False) := blocks_apart h1 h2
  have HW : Hid (W = _) := hW
  obtain ⟨⟨s0, s1, s2, s3, s4, s5, s6⟩, sf, sz⟩ := X.out
  clear h1 h2 hW hv hlt2
  go_enter Tryz.func7, Tryz.ntmps7
  go_upto_region 1 with fail
  rw [← HW.out]
  clear HW
  go_wp2_with fail
  refine (markAccs B (.slice a1 l.length c1) l 1 W hl (by omega) (by omega) H1.out).mono ?_
  rintro e w1 ⟨rfl, ⟨M, hM1, hM2, A1⟩, E1⟩
  clear s0 s1 s2 s3 s4 s5 s6 sf sz
  have X1 := X.out.same (E1.block _ X.out.2.2 (fun e => by have := HLT1.out _ e.symm; omega))
  have H2' : Hid (OrdL w1 C (.slice a2 o.length c2) o) := World.ownsRow.kept H2.out E1 (by
    cases hb : (Value.slice a2 o.length c2).ownBlock with
    | none => exact Or.inl rfl
    | some q => right; intro e; exact AP.out q e.symm hb)
  have G1 : Hid (w.grownBy w1 (Value.slice a1 l.length c1).ownBlock) := grown_transAcc (grown_below BW.out) E1
  have HA1 : Hid (AL w1 B (.slice a1 l.length c1) M) := A1
  have HM1 : Hid (M.length = l.length) := hM1
  have HM2 : Hid (MarkedAcc 1 M.length M) := by rw [hM1]; exact hM2
  obtain ⟨⟨s0, s1, s2, s3, s4, s5, s6⟩, sf, sz⟩ := X1
  clear E1 A1 hM1 hM2
  go_wp2_with fail
  refine (markOrds C (.slice a2 o.length c2) o (1 + 8 * (l.length : Int)) w1 ho (by omega) (by omega) H2'.out).mono ?_
  rintro e w2 ⟨rfl, ⟨P, hP1, hP2, A2⟩, E2⟩
  have G2 : Hid (w1.grownBy w2 (Value.slice a2 o.length c2).ownBlock) := E2
  have HA2 : Hid (OrdL w2 C (.slice a2 o.length c2) P) := A2
  have HP1 : Hid (P.length = o.length) := hP1
  have HP2 : Hid (MarkedOrd (1 + 8 * (l.length : Int)) P.length P) := by rw [hP1]; exact hP2
  have HA1' : Hid (AL w2 B (.slice a1 l.length c1) M) := World.ownsRow.kept HA1.out E2 (by
    cases hb : (Value.slice a1 l.length c1).ownBlock with
    | none => exact Or.inl rfl
    | some q => right; intro e; exact AP.out q hb e.symm)
  clear s0 s1 s2 s3 s4 s5 s6 sf sz E2 A2 hP1 hP2
  go_wp2
  go_ret
  exact ⟨rfl, ⟨M, HM1.out, HM2.out, HA1'.out⟩, ⟨P, HP1.out, HP2.out, HA2.out⟩, w1, G1.out, G2.out⟩

set_option maxHeartbeats 2000000 in
/-- The marks are there. -/
theorem heldBank (B C : Nat) (v u : Value) (l : List Acc) (o : List Ord) (k : Bk) (w : World) (hl : l.length ≤ 1048576) (ho : o.length ≤ 1048576) (h1 : AL w B v l) (h2 : OrdL w C u o) (m1 : MarkedAcc 1 l.length l) (m2 : MarkedOrd (1 + 8 * (l.length : Int)) o.length o) :
    Calls Tryz.prog 8 #[.agg #[.int .i64 k.day, v, u, .int .i64 k.inn, .int .i64 k.out, .int .i64 k.posted, .int .i64 k.missed], .int .i64 1] w fun e w' => e = .returned (.int .i64 (1 + 8 * (l.length : Int) + 7 * (o.length : Int))) ∧ Below w.heap.size w w' := by
  obtain ⟨a1, c1, hv1⟩ := h1.len
  subst hv1
  obtain ⟨a2, c2, hv2, hlt2, _⟩ := h2.shape
  subst hv2
  obtain ⟨W, hW⟩ : ∃ W, W = w.alloc (.cells #[.int .i64 k.day, .slice a1 l.length c1, .slice a2 o.length c2, .int .i64 k.inn, .int .i64 k.out, .int .i64 k.posted, .int .i64 k.missed] 25) := ⟨_, rfl⟩
  have BW : Hid (Below w.heap.size w W) := by show Below _ _ _; rw [hW]; exact (Below.refl _ _).alloc (Nat.le_refl _) _
  have X : Hid (Box7 W w.heap.size (.int .i64 k.day) (.slice a1 l.length c1) (.slice a2 o.length c2) (.int .i64 k.inn) (.int .i64 k.out) (.int .i64 k.posted) (.int .i64 k.missed)) := by show Box7 _ _ _ _ _ _ _ _ _; rw [hW]; exact Box7.new w _ _ _ _ _ _ _ 25
  have H1 : Hid (AL W B (.slice a1 l.length c1) l) := h1.kept BW.out
  have H2 : Hid (OrdL W C (.slice a2 o.length c2) o) := h2.kept BW.out
  have M1 : Hid (MarkedAcc 1 l.length l) := m1
  have M2 : Hid (MarkedOrd (1 + 8 * (l.length : Int)) o.length o) := m2
  have HW : Hid (W = _) := hW
  have g1 : decide (1 + 8 * (l.length : Int) < 0) = false := by simp; omega
  have g2 : decide (1 + 8 * (l.length : Int) + 7 * (o.length : Int) < 0) = false := by simp; omega
  obtain ⟨⟨s0, s1, s2, s3, s4, s5, s6⟩, sf, sz⟩ := X.out
  clear h1 h2 hW hlt2 m1 m2
  go_enter Tryz.func8, Tryz.ntmps8
  go_upto_region 1 with fail
  rw [← HW.out]
  clear HW
  go_wp2_with fail
  refine (heldAccs B (.slice a1 l.length c1) l 1 W hl (by omega) (by omega) H1.out M1.out).mono ?_
  rintro e w1 ⟨rfl, hw1⟩
  subst w1
  go_wp2_with fail
  refine (heldOrds C (.slice a2 o.length c2) o (1 + 8 * (l.length : Int)) W ho (by omega) (by omega) H2.out M2.out).mono ?_
  rintro e w2 ⟨rfl, hw2⟩
  subst w2
  clear s0 s1 s2 s3 s4 s5 s6 sf sz
  go_wp2
  go_ret
  exact ⟨rfl, BW.out⟩
end Go.Proofs.YtedhlmipcfdldaaGreatDoor
