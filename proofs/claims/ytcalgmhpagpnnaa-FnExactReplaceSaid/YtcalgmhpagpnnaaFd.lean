/- A folder: a map from names to bytes of its own, read as a list of entries that rises by their names. No conditions. -/
import Derived.Test.YtcalgmhpagpnnaaBy
import Derived.Test.YtcalgmhpagpnnaaLs
import Derived.Maps.Own
import Derived.Maps.OwnSet
import Derived.Maps.Views
namespace Go.Proofs.Ytcalgmhpagpnnaa
open Go.RowKit Go.Maps
open Go.WideElems (rg)
set_option maxRecDepth 8000

structure Ent where
  name : ByteArray
  v : Value
  data : ByteArray
def Ent.d (t : Ent) : Lit × DataW Value := (.string t.name.data.toList, .held t.v)
def Ent.f (t : Ent) : Fl := ⟨t.name, t.data⟩
/-- How a slice reads: as itself. -/
def RV (v : Value) : Option (DataW Value × List MemPlace) :=
  match v with
  | .slice a n c => some (.held (.slice a n c), [])
  | _ => none
theorem RV_by {w : World} {B : Nat} {v : Value} {d : ByteArray} (h : ByR w B v d) : RV v = some (.held v, []) := by
  obtain ⟨a, c, rfl⟩ := h.shape
  rfl
theorem RV_inv {v u : Value} {ps : List MemPlace} (h : RV v = some (.held u, ps)) : v = u := by
  unfold RV at h
  split at h
  · simp at h; exact h.1
  · cases h
theorem RV_shape {v : Value} {y : DataW Value × List MemPlace} (h : RV v = some y) : ∃ c : Option Addr × Nat × Nat, v = .slice c.1 c.2.1 c.2.2 := by
  unfold RV at h
  split at h
  · exact ⟨(_, _, _), rfl⟩
  · cases h
theorem keyed9 : Keyed Try.prog 9 := string_keyed Try.underlying9
theorem zero22 (w : World) : (zeroValue 22).run Try.prog w = .ok (.slice none 0 0) w := by kernel_rfl
theorem key9 {s : ByteArray} (h : s.size ≤ maxLen) : keyOf Try.prog 9 (.string s) = some (.string s.data.toList) := by simp [keyOf, mapKey, Try.underlying9, h]

theorem insert_d (t : Ent) : ∀ l : List Ent, DataW.insert t.d (l.map Ent.d) = (insN Ent.name t l).map Ent.d
  | [] => rfl
  | y :: r => by
    have e : t.d.1.before y.d.1 = lt t.name y.name := before_lt _ _
    simp only [List.map_cons, DataW.insert, insN, e]
    by_cases h : lt t.name y.name = true
    · simp [h]
    · simp [h, insert_d t r]
theorem filter_d (n : ByteArray) (l : List Ent) : (l.map Ent.d).filter (fun p => !p.1.sameKey (.string n.data.toList)) = (cutN Ent.name n l).map Ent.d := by
  unfold cutN
  rw [List.filter_map]
  congr 1
  congr 1
  funext y
  simp only [Function.comp, Ent.d, same_name]
theorem ent_put (T : List Ent) (t : Ent) : (DataW.map (T.map Ent.d)).put (.string t.name.data.toList) (.held t.v) = .map ((putN Ent.name t T).map Ent.d) := by
  unfold DataW.put putN
  simp only
  rw [filter_d, ← insert_d]
  rfl
theorem ent_del (T : List Ent) (n : ByteArray) : (DataW.map (T.map Ent.d)).del (.string n.data.toList) = .map ((cutN Ent.name n T).map Ent.d) := by
  unfold DataW.del
  simp only
  rw [filter_d]
theorem find_d (n : ByteArray) (T : List Ent) : (T.map Ent.d).find? (fun p => p.1.sameKey (.string n.data.toList)) = (getN Ent.name n T).map Ent.d := by
  unfold getN
  rw [List.find?_map]
  congr 1
  congr 1
  funext y
  simp only [Function.comp, Ent.d, same_name]
theorem ent_at (T : List Ent) (n : ByteArray) (z : DataW Value) : (DataW.map (T.map Ent.d)).atKey (.string n.data.toList) z = match getN Ent.name n T with | some t => .held t.v | none => z := by
  unfold DataW.atKey
  simp only
  rw [find_d]
  cases getN Ent.name n T <;> rfl
theorem ent_has (T : List Ent) (n : ByteArray) : Maps.has (DataW.map (T.map Ent.d)) (.string n.data.toList) = (getN Ent.name n T).isSome := by
  rw [Maps.has_eq, List.any_map]
  unfold getN
  rw [List.isSome_find?]
  congr 1
  funext y
  simp only [Function.comp, Ent.d, same_name]
theorem ent_size (T : List Ent) : Maps.size (DataW.map (T.map Ent.d)) = T.length := by simp [Maps.size]

/-- No two have one row. -/
def Apart (T : List Ent) : Prop := T.Pairwise fun s t => ∀ g, s.v.ownBlock = some g → t.v.ownBlock ≠ some g

/-- A folder in memory. -/
structure Fd (w : World) (B b : Nat) (T : List Ent) : Prop where
  base : B ≤ b
  map : w.ownsMap Try.prog 9 RV b T.length (.map (T.map Ent.d))
  rows : ∀ t ∈ T, ByR w B t.v t.data
  one : Apart T
  ris : Ris Ent.name T

theorem own_norm {w : World} {b n : Nat} {T : List Ent} (h : w.ownsMap Try.prog 9 RV b n (.map (T.map Ent.d))) : w.ownsMap Try.prog 9 RV b T.length (.map (T.map Ent.d)) := by
  obtain ⟨es, cl, hb, F, hs, hD⟩ := h
  refine ⟨es, cl, hb, F, ?_, hD⟩
  have h1 : T.map Ent.d = (es.toList.map (rg Try.prog 9 RV)).foldr DataW.insert [] := by simpa using hD
  have h2 := congrArg List.length h1
  rw [length_read] at h2
  simp at h2
  omega
theorem own_block {w w' : World} {b n : Nat} {D : DataW Value} (h : w.ownsMap Try.prog 9 RV b n D) (e : w'.heap[b]? = w.heap[b]?) : w'.ownsMap Try.prog 9 RV b n D := by
  obtain ⟨es, cl, hb, r⟩ := h
  exact ⟨es, cl, e.trans hb, r⟩
theorem own_map {w : World} {b n : Nat} {D : DataW Value} (h : w.ownsMap Try.prog 9 RV b n D) : ∃ es cl, w.heap[b]? = some (.map es cl) := by
  obtain ⟨es, cl, hb, r⟩ := h
  exact ⟨es, cl, hb⟩

theorem Fd.below {w w' : World} {B b : Nat} {T : List Ent} (h : Fd w B b T) {m : Nat} (hb : Below m w w') (hm : w.heap.size ≤ m) : Fd w' B b T :=
  ⟨h.base, own_block h.map (hb.block b (Nat.lt_of_lt_of_le h.map.lt hm)), fun t ht => (h.rows t ht).kept fun g hg => hb.block g (Nat.lt_of_lt_of_le ((h.rows t ht).lt g hg).2 hm), h.one, h.ris⟩
theorem Fd.not_b {w : World} {B b : Nat} {T : List Ent} (h : Fd w B b T) {t : Ent} (ht : t ∈ T) : t.v.ownBlock ≠ some b := by
  obtain ⟨es, cl, hb⟩ := own_map h.map
  exact (h.rows t ht).not_map hb
/-- What does not touch the folder's blocks. -/
theorem Fd.kept {w w' : World} {B b : Nat} {T : List Ent} (h : Fd w B b T) (hk : ∀ g, B ≤ g → g < w.heap.size → w'.heap[g]? = w.heap[g]?) : Fd w' B b T :=
  ⟨h.base, own_block h.map (hk b h.base h.map.lt), fun t ht => (h.rows t ht).kept fun g hg => hk g ((h.rows t ht).lt g hg).1 ((h.rows t ht).lt g hg).2, h.one, h.ris⟩

theorem Apart.filter {T : List Ent} (h : Apart T) (p : Ent → Bool) : Apart (T.filter p) := List.Pairwise.filter p h
theorem Apart.ins {T : List Ent} {t : Ent} (h : Apart T) (h1 : ∀ s ∈ T, ∀ g, s.v.ownBlock = some g → t.v.ownBlock ≠ some g) : Apart (insN Ent.name t T) := by
  have h2 : ∀ s ∈ T, ∀ g, t.v.ownBlock = some g → s.v.ownBlock ≠ some g := fun s hs g hg k => h1 s hs g k hg
  induction T with
  | nil => exact List.pairwise_singleton _ _
  | cons y r ih =>
    unfold Apart at h
    rw [List.pairwise_cons] at h
    unfold insN
    split
    · unfold Apart
      rw [List.pairwise_cons, List.pairwise_cons]
      exact ⟨fun s hs => h2 s hs, h⟩
    · unfold Apart
      rw [List.pairwise_cons]
      refine ⟨fun s hs => ?_, ih h.2 (fun s hs => h1 s (by simp [hs])) (fun s hs => h2 s (by simp [hs]))⟩
      rcases insN_mem.1 hs with rfl | hs
      · exact h1 y (by simp)
      · exact h.1 s hs
theorem apart_mem {T : List Ent} (h : Apart T) {s t : Ent} (hs : s ∈ T) (ht : t ∈ T) (hne : s.name ≠ t.name) : ∀ g, s.v.ownBlock = some g → t.v.ownBlock ≠ some g := by
  intro g hg hk
  unfold Apart at h
  induction T with
  | nil => cases hs
  | cons y r ih =>
    rw [List.pairwise_cons] at h
    rcases List.mem_cons.1 hs with e | hs2
    · rcases List.mem_cons.1 ht with e' | ht2
      · subst e; subst e'; exact hne rfl
      · subst e; exact h.1 t ht2 g hg hk
    · rcases List.mem_cons.1 ht with e' | ht2
      · subst e'; exact h.1 s hs2 g hk hg
      · exact ih h.2 hs2 ht2

theorem Fd.apart_loc {w : World} {B b : Nat} {T : List Ent} {n : ByteArray} {v' : Value} (h : Fd w B b T)
    (hloc : (∃ t, getN Ent.name n T = some t ∧ v'.ownBlock = t.v.ownBlock) ∨ ∀ g, v'.ownBlock = some g → w.heap.size ≤ g) : ∀ s ∈ T, s.name ≠ n → ∀ g, s.v.ownBlock = some g → v'.ownBlock ≠ some g := by
  intro s hs hne g hgs hk
  rcases hloc with ⟨t, ht, e⟩ | hnew
  · have ht' := getN_some ht
    exact apart_mem h.one hs ht'.1 (by rw [ht'.2]; exact hne) g hgs (by rw [← e]; exact hk)
  · have h1 := hnew g hk
    have h2 := ((h.rows s hs).lt g hgs).2
    omega
/-- An entry is put: its row is new, or that of the entry of its name. -/
theorem Fd.put {w w1 w2 : World} {B b : Nat} {T : List Ent} {n d : ByteArray} {v' : Value} {row : Option Nat} (h : Fd w B b T)
    (hg : w.grownBy w1 row) (hrow : row = none ∨ ∃ t, getN Ent.name n T = some t ∧ t.v.ownBlock = row) (hv : ByR w1 B v' d)
    (hap : ∀ s ∈ T, s.name ≠ n → ∀ g, s.v.ownBlock = some g → v'.ownBlock ≠ some g)
    {m : Nat} (hm : w2.ownsMap Try.prog 9 RV b m ((DataW.map (T.map Ent.d)).put (.string n.data.toList) (.held v'))) (hg2 : w1.grownBy w2 (some b)) :
    Fd w2 B b (putN Ent.name ⟨n, v', d⟩ T) := by
  have hm' : w2.ownsMap Try.prog 9 RV b m (.map ((putN Ent.name ⟨n, v', d⟩ T).map Ent.d)) := by
    have := ent_put T ⟨n, v', d⟩
    simp only at this
    rwa [this] at hm
  obtain ⟨es2, cl2, hb2⟩ := own_map hm'
  have hold : ∀ s ∈ T, s.name ≠ n → ByR w1 B s.v s.data := fun s hs hne => (h.rows s hs).kept fun g hgs => hg.block g ((h.rows s hs).lt g hgs).2 (fun e => by
    rcases hrow with e0 | ⟨t, ht, e0⟩
    · rw [e0] at e; cases e
    · have ht' := getN_some ht
      exact apart_mem h.one hs ht'.1 (by rw [ht'.2]; exact hne) g hgs (by rw [e0, ← e]))
  have hmap1 : ∃ es cl, w1.heap[b]? = some (.map es cl) := by
    obtain ⟨es, cl, hb⟩ := own_map h.map
    refine ⟨es, cl, (hg.block b h.map.lt (fun e => ?_)).trans hb⟩
    rcases hrow with e0 | ⟨t, ht, e0⟩
    · rw [e0] at e; cases e
    · exact h.not_b (getN_some ht).1 (by rw [e0, ← e])
  obtain ⟨es1, cl1, hb1⟩ := hmap1
  have to2 : ∀ {u : Value} {x : ByteArray}, ByR w1 B u x → ByR w2 B u x := fun hu => hu.kept fun g hgs => hg2.block g (hu.lt g hgs).2 (fun e => by
    have hx := hu.not_map hb1
    exact hx (by rw [hgs, e]))
  refine ⟨h.base, own_norm hm', fun t ht => ?_, ?_, h.ris.put⟩
  · rcases putN_mem.1 ht with e | ⟨ht, hne⟩
    · subst e; exact to2 hv
    · exact to2 (hold t ht hne)
  · unfold putN
    refine Apart.ins (h.one.filter _) fun s hs g hgs hk => ?_
    have hs' := cutN_mem.1 hs
    exact hap s hs'.1 hs'.2 g hgs hk
/-- An entry is cut. -/
theorem Fd.cut {w w2 : World} {B b : Nat} {T : List Ent} {n : ByteArray} (h : Fd w B b T) {m : Nat} (hm : w2.ownsMap Try.prog 9 RV b m ((DataW.map (T.map Ent.d)).del (.string n.data.toList))) (hg2 : w.grownBy w2 (some b)) :
    Fd w2 B b (cutN Ent.name n T) := by
  rw [ent_del] at hm
  refine ⟨h.base, own_norm hm, fun t ht => (h.rows t (cutN_mem.1 ht).1).kept fun g hgs => hg2.block g ((h.rows t (cutN_mem.1 ht).1).lt g hgs).2 (fun e => h.not_b (cutN_mem.1 ht).1 (by rw [hgs, e])), h.one.filter _, h.ris.cut n⟩
theorem fl_get (n : ByteArray) (T : List Ent) : getN Fl.name n (T.map Ent.f) = (getN Ent.name n T).map Ent.f := (getN_map Ent.name Fl.name Ent.f (fun _ => rfl) n T).symm
theorem fl_put (t : Ent) (T : List Ent) : (putN Ent.name t T).map Ent.f = putN Fl.name t.f (T.map Ent.f) := putN_map Ent.name Fl.name Ent.f (fun _ => rfl) t T
theorem fl_cut (n : ByteArray) (T : List Ent) : (cutN Ent.name n T).map Ent.f = cutN Fl.name n (T.map Ent.f) := cutN_map Ent.name Fl.name Ent.f (fun _ => rfl) n T
end Go.Proofs.Ytcalgmhpagpnnaa
