/- The ledger: a map from ids to accounts of its own, read as a list of ids and blocks. -/
import Derived.Test.YtleblllofibfkaaLead
import Derived.Maps.Own
import Derived.Maps.OwnSet
import Derived.Maps.Views
import Derived.Lib.SlKeysI
namespace Go.Proofs.Ytleblllofibfkaa
open Go.RowKit Go.Maps
set_option maxRecDepth 8000

/-- The number in a slot. -/
def ctr : Value → Int | .int _ q => q | _ => 0

/-- How a pointer to a whole block reads: as the block's number. -/
def RP (v : Value) : Option (DataW Unit × List MemPlace) :=
  match v with
  | .pointer (some ⟨b, 0, none⟩) => some (.lit (.int .i64 b), [])
  | .pointer none => some (.lit (.int .i64 (-1)), [])
  | _ => none
theorem RP_mk (b : Nat) : RP (.pointer (some ⟨b, 0, none⟩)) = some (.lit (.int .i64 b), []) := rfl
theorem RP_inv {v : Value} {b : Nat} {ps : List MemPlace} (h : RP v = some (.lit (.int .i64 b), ps)) : v = .pointer (some ⟨b, 0, none⟩) := by
  unfold RP at h
  split at h
  · rename_i b'
    simp at h
    obtain rfl : b' = b := by omega
    rfl
  · simp at h
  · cases h

/-- The entries of a ledger. -/
def ledL (ks : List (Int × Nat)) : List (Lit × DataW Unit) := ks.map fun p => (.int .i64 p.1, .lit (.int .i64 p.2))
def LedM (w : World) (b : Nat) (ks : List (Int × Nat)) : Prop := w.ownsMap Try.prog 2 RP b ks.length (.map (ledL ks))

theorem insert_end (k : Int) (g : Nat) : ∀ ks : List (Int × Nat), (∀ p ∈ ks, p.1 < k) → DataW.insert (.int .i64 k, .lit (.int .i64 g)) (ledL ks) = ledL (ks ++ [(k, g)])
  | [], _ => rfl
  | y :: r, h => by
    have h1 := h y (by simp)
    have e : (Lit.int .i64 k).before (Lit.int .i64 y.1) = false := by simp [Lit.before]; omega
    have ih := insert_end k g r (fun p hp => h p (by simp [hp]))
    simp only [ledL, List.map_cons, List.cons_append] at ih ⊢
    simp only [DataW.insert, e]
    simp [ih]
theorem led_put (k : Int) (g : Nat) (ks : List (Int × Nat)) (h : ∀ p ∈ ks, p.1 < k) : (DataW.map (ledL ks)).put (.int .i64 k) (.lit (.int .i64 g)) = .map (ledL (ks ++ [(k, g)])) := by
  rw [DataW.put_eq]
  unfold ChangeMaps.putKey
  rw [List.filter_eq_self.2, insert_end k g ks h]
  intro p hp
  obtain ⟨q, hq, rfl⟩ := List.mem_map.1 hp
  have := h q hq
  simp [ChangeMaps.notKey, Lit.sameKey]
  omega
theorem led_find (z : DataW Unit) : ∀ (ks : List (Int × Nat)), ks.Pairwise (fun p q => p.1 < q.1) → ∀ k g, (k, g) ∈ ks → (DataW.map (ledL ks)).atKey (.int .i64 k) z = .lit (.int .i64 g)
  | [], _, k, g, h => by cases h
  | y :: r, hp, k, g, h => by
    rw [List.pairwise_cons] at hp
    rcases List.mem_cons.1 h with e | h
    · subst e
      simp [DataW.atKey, ledL, Lit.sameKey]
    · have h1 := hp.1 _ h
      have ih := led_find z r hp.2 k g h
      simp only [DataW.atKey, ledL, List.map_cons] at ih ⊢
      rw [List.find?_cons_of_neg]
      · exact ih
      · simp [Lit.sameKey]
        simp at h1
        omega
theorem led_keys (ks : List (Int × Nat)) : intKeys (DataW.map (ledL ks)) = ks.map (·.1) := by
  simp [intKeys, ledL]
  intros
  rfl
theorem led_size (ks : List (Int × Nat)) : Maps.size (DataW.map (ledL ks)) = ks.length := by simp [Maps.size, ledL]

theorem sorted_ids {ks : List (Int × Nat)} (hp : ks.Pairwise (fun p q => p.1 < q.1)) {ss : List Int} (h : ss.Perm (ks.map (·.1))) : ss.mergeSort (fun x y => decide (x ≤ y)) = ks.map (·.1) := by
  have h1 : (ss.mergeSort (fun x y => decide (x ≤ y))).Perm (ks.map (·.1)) := (List.mergeSort_perm ss _).trans h
  have h2 := List.pairwise_mergeSort (le := fun x y : Int => decide (x ≤ y)) (by simp; omega) (by simp; omega) ss
  have h3 : (ks.map (·.1)).Pairwise (fun x y : Int => decide (x ≤ y) = true) := by
    rw [List.pairwise_map]
    exact hp.imp (fun h => by simp; omega)
  exact h1.eq_of_pairwise (fun a b _ _ x y => by simp at x y; omega) h2 h3

theorem keyed2 : Keyed Try.prog 2 := int_keyed Try.underlying2

/-- What lies in a block hangs on that block alone. -/
theorem Box.same {w w' : World} {R : Nat} {a : Acc} (h : Box w R a) (e : w'.heap[R]? = w.heap[R]?) : Box w' R a := by
  obtain ⟨h1, h2, h3⟩ := h
  refine ⟨h1.of_cells (fun o => by unfold World.cell?; simp only [e]), fun o => ?_, ?_⟩
  · rw [← h2 o]
    unfold World.frozen?
    simp only [e]
  · have h4 : w.heap[R]? = some w.heap[R] := Array.getElem?_eq_getElem h3
    exact (Array.getElem?_eq_some_iff.1 (e.trans h4)).1

/-- The ids and blocks of the first n accounts. -/
def ksOf (F : Nat → Acc) (G : Nat → Nat) (n : Nat) : List (Int × Nat) := (List.range n).map fun i => ((F i).id, G i)
theorem ksOf_len (F : Nat → Acc) (G : Nat → Nat) (n : Nat) : (ksOf F G n).length = n := by simp [ksOf]
theorem ksOf_succ (F : Nat → Acc) (G : Nat → Nat) (n : Nat) : ksOf F G (n + 1) = ksOf F G n ++ [((F n).id, G n)] := by simp [ksOf, List.range_succ]
theorem ksOf_mem {F : Nat → Acc} {G : Nat → Nat} {n i : Nat} (h : i < n) : ((F i).id, G i) ∈ ksOf F G n := by
  unfold ksOf
  exact List.mem_map.2 ⟨i, by simp [h], rfl⟩
theorem ksOf_congr {F F' : Nat → Acc} {G G' : Nat → Nat} {n : Nat} (h : ∀ i, i < n → (F i).id = (F' i).id ∧ G i = G' i) : ksOf F G n = ksOf F' G' n := by
  unfold ksOf
  refine List.map_congr_left fun i hi => ?_
  have := h i (by simpa using hi)
  rw [this.1, this.2]
/-- Ids that rise. -/
def Rises (F : Nat → Acc) (n : Nat) : Prop := ∀ i j, i < j → j < n → (F i).id < (F j).id
theorem ksOf_rises {F : Nat → Acc} {G : Nat → Nat} {n : Nat} (h : Rises F n) : (ksOf F G n).Pairwise (fun p q => p.1 < q.1) := by
  unfold ksOf
  rw [List.pairwise_map]
  have : (List.range n).Pairwise (fun i j => i < j ∧ j < n) := by
    have h1 := List.pairwise_lt_range (n := n)
    refine (List.Pairwise.and_mem.1 h1).imp ?_
    intro a b hh
    exact ⟨hh.2.2, by simpa using hh.2.1⟩
  exact this.imp (fun hh => h _ _ hh.1 hh.2)

/-- A ledger in memory: the map is block b, the account at place i is block G i; all are made since the heap had B blocks. -/
structure Led (w : World) (B b n : Nat) (F : Nat → Acc) (G : Nat → Nat) : Prop where
  base : B ≤ b
  map : LedM w b (ksOf F G n)
  acc : ∀ i, i < n → B ≤ G i ∧ G i ≠ b ∧ Box w (G i) (F i)
  one : ∀ i j, i < n → j < n → G i = G j → i = j

theorem Led.below {w w' : World} {B b n : Nat} {F : Nat → Acc} {G : Nat → Nat} (h : Led w B b n F G) {m : Nat} (hb : Below m w w') (hm : w.heap.size ≤ m) : Led w' B b n F G := by
  have hlt := h.map.lt
  refine ⟨h.base, ?_, fun i hi => ⟨(h.acc i hi).1, (h.acc i hi).2.1, ?_⟩, h.one⟩
  · obtain ⟨es, clock, hb', Ft, hs, hD⟩ := h.map
    exact ⟨es, clock, (hb.block b (by omega)).trans hb', Ft, hs, hD⟩
  · have hlt := (h.acc i hi).2.2.2.2
    exact (h.acc i hi).2.2.same (hb.block (G i) (by omega))

end Go.Proofs.Ytleblllofibfkaa
