/- Bytes of one's own in memory: made of a string, appended to, made a string again. No conditions but sizes. -/
import Derived.Test.YtcalgmhpagpnnaaFma
import Derived.Test.YtcalgmhpagpnnaaRows
import Derived.WalkKit
import Derived.Below
import Derived.Lib.AppendStr
import Derived.Laws.IdiomStrings
import Derived.Laws.BytesArg
import Derived.Test.YtcalgmhpagpnnaaLs
import Derived.Maps.Own
import Derived.Maps.OwnSet
import Derived.Maps.Views
namespace Go.Proofs.Ytcalgmhpagpnnaa
open Go.RowKit Go.Lib
set_option maxRecDepth 8000

theorem info5 : (Try.prog.info? 5).map (fun i => (i.zero, i.size, i.bytes)) = some (some (.int .u8 0), 1, 1) := by kernel_rfl

/-- The slice v has the bytes d, in a row of its own. -/
def ByR (w : World) (B : Nat) (v : Value) (d : ByteArray) : Prop :=
  (v = .slice none 0 0 ∧ d.size = 0) ∨ ∃ g cap cur fz, v = .slice (some ⟨g, 0, none⟩) d.size cap ∧ B ≤ g ∧ w.heap[g]? = some (.cells cur 5 fz) ∧ (fz = (0, 0) ∨ fz = (cur.size, cur.size + 1)) ∧ d.size ≤ cap ∧ cap ≤ maxLen ∧ cur.size = cap ∧ cur.toList.take d.size = strCells d

theorem ByR.of_owns {w : World} {B : Nat} {v : Value} {d : ByteArray} (h : w.ownsRow B 5 1 v d.size (strCells d)) : ByR w B v d := by
  rcases h.2 with h | ⟨g, cap, cur, hv, hb, hg, h1, h2, h3, h4⟩
  · exact Or.inl h
  · exact Or.inr ⟨g, cap, cur, (0, 0), hv, hb, hg, Or.inl rfl, h1, h2, by simpa using h3, by simpa using h4⟩
theorem ByR.mono {w : World} {B B' : Nat} {v : Value} {d : ByteArray} (h : ByR w B v d) (hB : B' ≤ B) : ByR w B' v d := by
  rcases h with h | ⟨g, cap, cur, fz, hv, hb, r⟩
  · exact Or.inl h
  · exact Or.inr ⟨g, cap, cur, fz, hv, Nat.le_trans hB hb, r⟩
theorem ByR.lt {w : World} {B : Nat} {v : Value} {d : ByteArray} (h : ByR w B v d) : ∀ g, v.ownBlock = some g → B ≤ g ∧ g < w.heap.size := by
  intro k hk
  rcases h with ⟨rfl, _⟩ | ⟨g, cap, cur, fz, rfl, hb, hg, _⟩
  · simp [Value.ownBlock] at hk
  · simp [Value.ownBlock] at hk
    subst hk
    exact ⟨hb, (Array.getElem?_eq_some_iff.1 hg).1⟩
theorem ByR.kept {w w' : World} {B : Nat} {v : Value} {d : ByteArray} (h : ByR w B v d) (hk : ∀ g, v.ownBlock = some g → w'.heap[g]? = w.heap[g]?) : ByR w' B v d := by
  rcases h with h | ⟨g, cap, cur, fz, rfl, hb, hg, r⟩
  · exact Or.inl h
  · exact Or.inr ⟨g, cap, cur, fz, rfl, hb, (hk g rfl).trans hg, r⟩
theorem ByR.not_map {w : World} {B b : Nat} {v : Value} {d : ByteArray} (h : ByR w B v d) {es : Array MapEntry} {cl : Nat} (hb : w.heap[b]? = some (.map es cl)) : v.ownBlock ≠ some b := by
  intro hv
  rcases h with ⟨rfl, _⟩ | ⟨g, cap, cur, fz, rfl, _, hg, _⟩
  · simp [Value.ownBlock] at hv
  · simp [Value.ownBlock] at hv
    subst hv
    rw [hb] at hg
    cases hg
theorem ByR.shape {w : World} {B : Nat} {v : Value} {d : ByteArray} (h : ByR w B v d) : ∃ a cap, v = .slice a d.size cap := by
  rcases h with ⟨rfl, h0⟩ | ⟨g, cap, cur, fz, rfl, _⟩
  · exact ⟨none, 0, by rw [h0]⟩
  · exact ⟨_, _, rfl⟩

theorem strCells_append (d s : ByteArray) : strCells (d ++ s) = strCells d ++ strCells s := by
  simp [strCells]

/-- Cells written into a row, none of them frozen. -/
theorem storeRow (P : Program) (g : Nat) (t : TypeId) (fz : Nat × Nat) : ∀ (vs : List Value) (o i : Nat) (cur : Array Value) (w : World), w.heap[g]? = some (.cells cur t fz) → (fz.2 ≤ o + i ∨ o + i + vs.length ≤ fz.1) → o + i + vs.length ≤ cur.size → (∀ v ∈ vs, v.oneCell' = true) →
    ∃ cur' : Array Value, (storeCells ⟨g, o, none⟩ vs i).run P w = .ok () (w.setRow g cur') ∧ cur'.size = cur.size ∧ cur'.toList.take (o + i + vs.length) = cur.toList.take (o + i) ++ vs
  | [], o, i, cur, w, hg, _, _, _ => by
    refine ⟨cur, ?_, rfl, by simp⟩
    simp only [storeCells]
    rw [setRow_self w g cur t fz hg]
    rfl
  | v :: r, o, i, cur, w, hg, hf, hl, h1 => by
    have hl' : o + i + (r.length + 1) ≤ cur.size := hl
    have hf' : fz.2 ≤ o + i ∨ o + i + (r.length + 1) ≤ fz.1 := hf
    have hi : o + i < cur.size := by omega
    have hadd : (⟨g, o, none⟩ : Addr).add i = ⟨g, o + i, none⟩ := by unfold Addr.add; split <;> simp_all
    have hcell : w.cell? ⟨g, o + i, none⟩ = some cur[o + i] := by simp [World.cell?, hg, hi]
    have hfro : w.frozen? ⟨g, o + i, none⟩ = false := by
      obtain ⟨lo, up⟩ := fz
      simp only [World.frozen?, hg]
      simp at hf' ⊢
      omega
    have hst : (store ((⟨g, o, none⟩ : Addr).add i) v).run P w = .ok () (w.setRow g (cur.setIfInBounds (o + i) v)) := by
      rw [hadd, run_store P w _ v _ (h1 v (by simp)), hcell]
      simp [hfro, setCell_eq_setRow w g (o + i) cur t fz v hg]
    obtain ⟨cur', e1, e2, e3⟩ := storeRow P g t fz r o (i + 1) (cur.setIfInBounds (o + i) v) (w.setRow g (cur.setIfInBounds (o + i) v)) (setRow_heap w g cur _ t _ hg) (by omega) (by simp; omega) (fun x hx => h1 x (by simp [hx]))
    refine ⟨cur', ?_, by simpa using e2, ?_⟩
    · simp only [storeCells, Sem.run_bind, hst, Result.andThen_ok, e1, setRow_setRow]
    · have e4 : o + (i + 1) + r.length = o + i + (v :: r).length := by simp; omega
      rw [e4] at e3
      rw [e3]
      have e5 : (cur.setIfInBounds (o + i) v).toList.take (o + (i + 1)) = cur.toList.take (o + i) ++ [v] := by
        rw [Array.toList_setIfInBounds, ← Nat.add_assoc, List.take_add_one]
        simp [List.take_set, hi]
        exact List.set_eq_of_length_le (by simp; omega)
      rw [e5]
      simp

theorem run_appendB {w : World} {B : Nat} {v : Value} {d : ByteArray} (h : ByR w B v d) (s : ByteArray) (hsz : d.size + s.size ≤ 70368744177664) (hB : B ≤ w.heap.size) (ty : TypeId) :
    ∃ v' w', (Builtin.append_ #[22, 9] ty #[v, .string s]).run Try.prog w = .ok v' w' ∧ ByR w' B v' (d ++ s) ∧ w.grownBy w' v.ownBlock ∧ (v'.ownBlock = v.ownBlock ∨ ∀ g, v'.ownBlock = some g → w.heap.size ≤ g) := by
  obtain ⟨i0, hi, hz0, hz1, hz2⟩ := info_parts info5
  have hds : (d ++ s).size = d.size + s.size := ByteArray.size_append
  rcases h with ⟨rfl, h0⟩ | ⟨g, cap, cur, fz, rfl, hb, hg, hfz, h1, h2, h3, h4⟩
  · obtain ⟨v', w', r1, r2, r3, r4⟩ := run_append_own_string (P := Try.prog) w w.heap.size 22 9 ty 5 i0 Try.underlying22 Try.underlying9 hi hz0 hz1 hz2 (.slice none 0 0) 0 [] (World.ownsRow_nil w w.heap.size 5 1) s (by unfold maxLen; omega) (by omega) (Nat.le_refl _)
    have hd : d = ByteArray.empty := by
      apply ba_ext
      have : d.data.toList = [] := List.length_eq_zero_iff.1 (by simpa using h0)
      rw [this]; rfl
    subst hd
    have ee : ByteArray.empty ++ s = s := by simp
    refine ⟨v', w', r1, ?_, r3, Or.inr fun g hg => (World.ownsRow.lt r2 g hg).1⟩
    rw [ee]
    exact (ByR.of_owns (by simpa using r2)).mono hB
  · by_cases hroom : d.size + s.size ≤ cap
    · obtain ⟨cur', e1, e2, e3⟩ := storeRow Try.prog g 5 fz (strCells s) d.size 0 cur w hg (by rcases hfz with rfl | rfl
                                                                                               · left; simp
                                                                                               · right; simp [strCells_length]; omega) (by simp [strCells_length]; omega) (strCells_oneCell s)
      have hf := run_firstCells_string (P := Try.prog) w 1 s
      simp only [Nat.add_zero, strCells_length] at e3
      have hadd : (⟨g, 0, none⟩ : Addr).add (d.size * 1) = ⟨g, d.size, none⟩ := by rw [Nat.mul_one]; unfold Addr.add; split <;> simp_all
      refine ⟨.slice (some ⟨g, 0, none⟩) (d.size + s.size) cap, w.setRow g cur', ?_, ?_, ?_, Or.inl rfl⟩
      · simp only [Builtin.append_]
        simp [run_underlying Try.underlying22, run_underlying Try.underlying9, sizeOf, typeInfo, hi, hz1, Builtin.lenOf, hroom, hf, Addr.add_lit, e1]
      · refine Or.inr ⟨g, cap, cur', fz, by rw [hds], hb, setRow_heap w g cur _ 5 _ hg, by rw [e2]; exact hfz, by rw [hds]; exact hroom, h2, by rw [e2]; exact h3, ?_⟩
        rw [hds, e3, h4, strCells_append]
      · exact ⟨rfl, rfl, rfl, by simp, fun k _ hk => setRow_other w g k _ (fun e => hk (by simp [Value.ownBlock, e]))⟩
    · have hcell : ∀ j u, (strCells d)[j]? = some u → w.cell? ((⟨g, 0, none⟩ : Addr).add j) = some u := by
        intro j u hj
        have hadd : (⟨g, 0, none⟩ : Addr).add j = ⟨g, j, none⟩ := by unfold Addr.add; split <;> simp_all
        rw [hadd, cell_of_row w g j cur 5 fz hg]
        rw [← h4, List.getElem?_take] at hj
        split at hj
        · simpa using hj
        · cases hj
      have hr := run_append_grow_string (P := Try.prog) w 22 9 ty 5 i0 (.int .u8 0) Try.underlying22 Try.underlying9 hi hz0 ⟨g, 0, none⟩ d.size cap (strCells d) (by rw [hz1, strCells_length]; omega) hcell s (by omega) (by omega) (by rw [hz2]; exact growslice_fits (by omega) (by omega))
      have hge := grownCap_ge w (d.size + s.size) cap 5
      have hcm := grownCap_le_maxLen w (d.size + s.size) cap 5 (by unfold maxLen; omega)
      refine ⟨_, _, hr, ?_, ⟨rfl, rfl, rfl, by simp, fun k hk _ => Below.heap_alloc w.drew _ k hk⟩, Or.inr fun g hg => by simp [Value.ownBlock] at hg; omega⟩
      refine Or.inr ⟨w.heap.size, _, _, (0, 0), by rw [hds], hB, heap_alloc_new w.drew _, Or.inl rfl, by rw [hds]; exact hge, hcm, ?_, ?_⟩
      · have hz : (Value.int IntKind.u8 0).cells.size = 1 := rfl
        simp only [Array.size_append, List.size_toArray, size_zeroCells, hz, strCells_length]
        omega
      · have hl : (strCells (d ++ s)).length = d.size + s.size := by rw [strCells_length, hds]
        rw [hds, ← hl, strCells_append]
        simp only [Array.toList_append, List.append_assoc]
        rw [← List.append_assoc]
        exact List.take_left

/-- A string of the bytes. -/
theorem run_stringB {w : World} {B : Nat} {v : Value} {d : ByteArray} (h : ByR w B v d) : (convert 22 9 v).run Try.prog w = .ok (.string d) w := by
  rcases h with ⟨rfl, h0⟩ | ⟨g, cap, cur, fz, rfl, hb, hg, hfz, h1, h2, h3, h4⟩
  · have hd : d = ByteArray.empty := by
      apply ba_ext
      have : d.data.toList = [] := List.length_eq_zero_iff.1 (by simpa using h0)
      rw [this]; rfl
    rw [hd]
    exact run_convert_bytes_nil w 22 5 Try.underlying22 Try.underlying5 0 0 9 Try.underlying9
  · have hl : d.data.toList.length = d.size := by simp
    have := run_convert_bytes_back (P := Try.prog) w 22 9 5 ⟨g, 0, none⟩ cap d.data.toList Try.underlying22 Try.underlying5 Try.underlying9 (fun j hj => by
      have hadd : (⟨g, 0, none⟩ : Addr).add j = ⟨g, j, none⟩ := by unfold Addr.add; split <;> simp_all
      rw [hadd, cell_of_row w g j cur 5 fz hg]
      have hc : cur.toList[j]? = (strCells d)[j]? := by
        rw [← h4, List.getElem?_take, if_pos (by omega)]
      rw [← Array.getElem?_toList, hc]
      simp [strCells, List.getElem?_eq_getElem hj])
    rw [hl] at this
    rw [this]

/-- Bytes made of a string. -/
theorem run_bytesB (w : World) (B : Nat) (hB : B ≤ w.heap.size) (s : ByteArray) (hs : s.size ≤ 70368744177664) :
    ∃ v w', (convert 9 22 (.string s)).run Try.prog w = .ok v w' ∧ ByR w' B v s ∧ w.grownBy w' none ∧ v.ownBlock = some w.heap.size ∧ w'.heap.size = w.heap.size + 1 := by
  have hr := run_bytes_of_string (P := Try.prog) w 9 22 5 s Try.underlying9 Try.underlying22 Try.underlying5
  have hge := grownCap_ge w s.size 0 5
  have hcm := grownCap_le_maxLen w s.size 0 5 (by unfold maxLen; omega)
  have hsz : (bytesRow s (grownCap w s.size 0 5)).size = grownCap w s.size 0 5 := by
    simp [bytesRow]
    have : s.data.size = s.size := rfl
    omega
  refine ⟨_, _, hr, Or.inr ⟨w.heap.size, _, _, _, rfl, hB, heap_alloc_new w.drew _, Or.inr rfl, hge, hcm, hsz, ?_⟩, ⟨rfl, rfl, rfl, by simp, fun k hk _ => Below.heap_alloc w.drew _ k hk⟩, rfl, by simp⟩
  simp [bytesRow, strCells]
end Go.Proofs.Ytcalgmhpagpnnaa

/- A folder: a map from names to bytes of its own, read as a list of entries that rises by their names. No conditions. -/
namespace Go.Proofs.Ytcalgmhpagpnnaa
open Go.RowKit Go.Maps
open Go.WideElems (rg)
set_option maxRecDepth 8000

structure Ent where
  name : ByteArray
  v : Value
  data : ByteArray
def Ent.d (t : Ent) : Lit × DataW Value := (.string t.name.data.toList, .held t.v)
def Ent.f (t : Ent) : Fl := ⟨t.name, t.data⟩
/-- How a slice reads: as itself. -/
def RV (v : Value) : Option (DataW Value × List MemPlace) :=
  match v with
  | .slice a n c => some (.held (.slice a n c), [])
  | _ => none
theorem RV_by {w : World} {B : Nat} {v : Value} {d : ByteArray} (h : ByR w B v d) : RV v = some (.held v, []) := by
  obtain ⟨a, c, rfl⟩ := h.shape
  rfl
theorem RV_inv {v u : Value} {ps : List MemPlace} (h : RV v = some (.held u, ps)) : v = u := by
  unfold RV at h
  split at h
  · simp at h; exact h.1
  · cases h
theorem RV_shape {v : Value} {y : DataW Value × List MemPlace} (h : RV v = some y) : ∃ c : Option Addr × Nat × Nat, v = .slice c.1 c.2.1 c.2.2 := by
  unfold RV at h
  split at h
  · exact ⟨(_, _, _), rfl⟩
  · cases h
theorem keyed9 : Keyed Try.prog 9 := string_keyed Try.underlying9
theorem zero22 (w : World) : (zeroValue 22).run Try.prog w = .ok (.slice none 0 0) w := by kernel_rfl
theorem key9 {s : ByteArray} (h : s.size ≤ maxLen) : keyOf Try.prog 9 (.string s) = some (.string s.data.toList) := by simp [keyOf, mapKey, Try.underlying9, h]

theorem insert_d (t : Ent) : ∀ l : List Ent, DataW.insert t.d (l.map Ent.d) = (insN Ent.name t l).map Ent.d
  | [] => rfl
  | y :: r => by
    have e : t.d.1.before y.d.1 = lt t.name y.name := before_lt _ _
    simp only [List.map_cons, DataW.insert, insN, e]
    by_cases h : lt t.name y.name = true
    · simp [h]
    · simp [h, insert_d t r]
theorem filter_d (n : ByteArray) (l : List Ent) : (l.map Ent.d).filter (fun p => !p.1.sameKey (.string n.data.toList)) = (cutN Ent.name n l).map Ent.d := by
  unfold cutN
  rw [List.filter_map]
  congr 1
  congr 1
  funext y
  simp only [Function.comp, Ent.d, same_name]
theorem ent_put (T : List Ent) (t : Ent) : (DataW.map (T.map Ent.d)).put (.string t.name.data.toList) (.held t.v) = .map ((putN Ent.name t T).map Ent.d) := by
  unfold DataW.put putN
  simp only
  rw [filter_d, ← insert_d]
  rfl
theorem ent_del (T : List Ent) (n : ByteArray) : (DataW.map (T.map Ent.d)).del (.string n.data.toList) = .map ((cutN Ent.name n T).map Ent.d) := by
  unfold DataW.del
  simp only
  rw [filter_d]
theorem find_d (n : ByteArray) (T : List Ent) : (T.map Ent.d).find? (fun p => p.1.sameKey (.string n.data.toList)) = (getN Ent.name n T).map Ent.d := by
  unfold getN
  rw [List.find?_map]
  congr 1
  congr 1
  funext y
  simp only [Function.comp, Ent.d, same_name]
theorem ent_at (T : List Ent) (n : ByteArray) (z : DataW Value) : (DataW.map (T.map Ent.d)).atKey (.string n.data.toList) z = match getN Ent.name n T with | some t => .held t.v | none => z := by
  unfold DataW.atKey
  simp only
  rw [find_d]
  cases getN Ent.name n T <;> rfl
theorem ent_has (T : List Ent) (n : ByteArray) : Maps.has (DataW.map (T.map Ent.d)) (.string n.data.toList) = (getN Ent.name n T).isSome := by
  rw [Maps.has_eq, List.any_map]
  unfold getN
  rw [List.isSome_find?]
  congr 1
  funext y
  simp only [Function.comp, Ent.d, same_name]
theorem ent_size (T : List Ent) : Maps.size (DataW.map (T.map Ent.d)) = T.length := by simp [Maps.size]

/-- No two have one row. -/
def Apart (T : List Ent) : Prop := T.Pairwise fun s t => ∀ g, s.v.ownBlock = some g → t.v.ownBlock ≠ some g

/-- A folder in memory. -/
structure Fd (w : World) (B b : Nat) (T : List Ent) : Prop where
  base : B ≤ b
  map : w.ownsMap Try.prog 9 RV b T.length (.map (T.map Ent.d))
  rows : ∀ t ∈ T, ByR w B t.v t.data
  one : Apart T
  ris : Ris Ent.name T

theorem own_norm {w : World} {b n : Nat} {T : List Ent} (h : w.ownsMap Try.prog 9 RV b n (.map (T.map Ent.d))) : w.ownsMap Try.prog 9 RV b T.length (.map (T.map Ent.d)) := by
  obtain ⟨es, cl, hb, F, hs, hD⟩ := h
  refine ⟨es, cl, hb, F, ?_, hD⟩
  have h1 : T.map Ent.d = (es.toList.map (rg Try.prog 9 RV)).foldr DataW.insert [] := by simpa using hD
  have h2 := congrArg List.length h1
  rw [length_read] at h2
  simp at h2
  omega
theorem own_block {w w' : World} {b n : Nat} {D : DataW Value} (h : w.ownsMap Try.prog 9 RV b n D) (e : w'.heap[b]? = w.heap[b]?) : w'.ownsMap Try.prog 9 RV b n D := by
  obtain ⟨es, cl, hb, r⟩ := h
  exact ⟨es, cl, e.trans hb, r⟩
theorem own_map {w : World} {b n : Nat} {D : DataW Value} (h : w.ownsMap Try.prog 9 RV b n D) : ∃ es cl, w.heap[b]? = some (.map es cl) := by
  obtain ⟨es, cl, hb, r⟩ := h
  exact ⟨es, cl, hb⟩

theorem Fd.below {w w' : World} {B b : Nat} {T : List Ent} (h : Fd w B b T) {m : Nat} (hb : Below m w w') (hm : w.heap.size ≤ m) : Fd w' B b T :=
  ⟨h.base, own_block h.map (hb.block b (Nat.lt_of_lt_of_le h.map.lt hm)), fun t ht => (h.rows t ht).kept fun g hg => hb.block g (Nat.lt_of_lt_of_le ((h.rows t ht).lt g hg).2 hm), h.one, h.ris⟩
theorem Fd.not_b {w : World} {B b : Nat} {T : List Ent} (h : Fd w B b T) {t : Ent} (ht : t ∈ T) : t.v.ownBlock ≠ some b := by
  obtain ⟨es, cl, hb⟩ := own_map h.map
  exact (h.rows t ht).not_map hb
/-- What does not touch the folder's blocks. -/
theorem Fd.kept {w w' : World} {B b : Nat} {T : List Ent} (h : Fd w B b T) (hk : ∀ g, B ≤ g → g < w.heap.size → w'.heap[g]? = w.heap[g]?) : Fd w' B b T :=
  ⟨h.base, own_block h.map (hk b h.base h.map.lt), fun t ht => (h.rows t ht).kept fun g hg => hk g ((h.rows t ht).lt g hg).1 ((h.rows t ht).lt g hg).2, h.one, h.ris⟩

theorem Apart.filter {T : List Ent} (h : Apart T) (p : Ent → Bool) : Apart (T.filter p) := List.Pairwise.filter p h
theorem Apart.ins {T : List Ent} {t : Ent} (h : Apart T) (h1 : ∀ s ∈ T, ∀ g, s.v.ownBlock = some g → t.v.ownBlock ≠ some g) : Apart (insN Ent.name t T) := by
  have h2 : ∀ s ∈ T, ∀ g, t.v.ownBlock = some g → s.v.ownBlock ≠ some g := fun s hs g hg k => h1 s hs g k hg
  induction T with
  | nil => exact List.pairwise_singleton _ _
  | cons y r ih =>
    unfold Apart at h
    rw [List.pairwise_cons] at h
    unfold insN
    split
    · unfold Apart
      rw [List.pairwise_cons, List.pairwise_cons]
      exact ⟨fun s hs => h2 s hs, h⟩
    · unfold Apart
      rw [List.pairwise_cons]
      refine ⟨fun s hs => ?_, ih h.2 (fun s hs => h1 s (by simp [hs])) (fun s hs => h2 s (by simp [hs]))⟩
      rcases insN_mem.1 hs with rfl | hs
      · exact h1 y (by simp)
      · exact h.1 s hs
theorem apart_mem {T : List Ent} (h : Apart T) {s t : Ent} (hs : s ∈ T) (ht : t ∈ T) (hne : s.name ≠ t.name) : ∀ g, s.v.ownBlock = some g → t.v.ownBlock ≠ some g := by
  intro g hg hk
  unfold Apart at h
  induction T with
  | nil => cases hs
  | cons y r ih =>
    rw [List.pairwise_cons] at h
    rcases List.mem_cons.1 hs with e | hs2
    · rcases List.mem_cons.1 ht with e' | ht2
      · subst e; subst e'; exact hne rfl
      · subst e; exact h.1 t ht2 g hg hk
    · rcases List.mem_cons.1 ht with e' | ht2
      · subst e'; exact h.1 s hs2 g hk hg
      · exact ih h.2 hs2 ht2

theorem Fd.apart_loc {w : World} {B b : Nat} {T : List Ent} {n : ByteArray} {v' : Value} (h : Fd w B b T)
    (hloc : (∃ t, getN Ent.name n T = some t ∧ v'.ownBlock = t.v.ownBlock) ∨ ∀ g, v'.ownBlock = some g → w.heap.size ≤ g) : ∀ s ∈ T, s.name ≠ n → ∀ g, s.v.ownBlock = some g → v'.ownBlock ≠ some g := by
  intro s hs hne g hgs hk
  rcases hloc with ⟨t, ht, e⟩ | hnew
  · have ht' := getN_some ht
    exact apart_mem h.one hs ht'.1 (by rw [ht'.2]; exact hne) g hgs (by rw [← e]; exact hk)
  · have h1 := hnew g hk
    have h2 := ((h.rows s hs).lt g hgs).2
    omega
/-- An entry is put: its row is new, or that of the entry of its name. -/
theorem Fd.put {w w1 w2 : World} {B b : Nat} {T : List Ent} {n d : ByteArray} {v' : Value} {row : Option Nat} (h : Fd w B b T)
    (hg : w.grownBy w1 row) (hrow : row = none ∨ ∃ t, getN Ent.name n T = some t ∧ t.v.ownBlock = row) (hv : ByR w1 B v' d)
    (hap : ∀ s ∈ T, s.name ≠ n → ∀ g, s.v.ownBlock = some g → v'.ownBlock ≠ some g)
    {m : Nat} (hm : w2.ownsMap Try.prog 9 RV b m ((DataW.map (T.map Ent.d)).put (.string n.data.toList) (.held v'))) (hg2 : w1.grownBy w2 (some b)) :
    Fd w2 B b (putN Ent.name ⟨n, v', d⟩ T) := by
  have hm' : w2.ownsMap Try.prog 9 RV b m (.map ((putN Ent.name ⟨n, v', d⟩ T).map Ent.d)) := by
    have := ent_put T ⟨n, v', d⟩
    simp only at this
    rwa [this] at hm
  obtain ⟨es2, cl2, hb2⟩ := own_map hm'
  have hold : ∀ s ∈ T, s.name ≠ n → ByR w1 B s.v s.data := fun s hs hne => (h.rows s hs).kept fun g hgs => hg.block g ((h.rows s hs).lt g hgs).2 (fun e => by
    rcases hrow with e0 | ⟨t, ht, e0⟩
    · rw [e0] at e; cases e
    · have ht' := getN_some ht
      exact apart_mem h.one hs ht'.1 (by rw [ht'.2]; exact hne) g hgs (by rw [e0, ← e]))
  have hmap1 : ∃ es cl, w1.heap[b]? = some (.map es cl) := by
    obtain ⟨es, cl, hb⟩ := own_map h.map
    refine ⟨es, cl, (hg.block b h.map.lt (fun e => ?_)).trans hb⟩
    rcases hrow with e0 | ⟨t, ht, e0⟩
    · rw [e0] at e; cases e
    · exact h.not_b (getN_some ht).1 (by rw [e0, ← e])
  obtain ⟨es1, cl1, hb1⟩ := hmap1
  have to2 : ∀ {u : Value} {x : ByteArray}, ByR w1 B u x → ByR w2 B u x := fun hu => hu.kept fun g hgs => hg2.block g (hu.lt g hgs).2 (fun e => by
    have hx := hu.not_map hb1
    exact hx (by rw [hgs, e]))
  refine ⟨h.base, own_norm hm', fun t ht => ?_, ?_, h.ris.put⟩
  · rcases putN_mem.1 ht with e | ⟨ht, hne⟩
    · subst e; exact to2 hv
    · exact to2 (hold t ht hne)
  · unfold putN
    refine Apart.ins (h.one.filter _) fun s hs g hgs hk => ?_
    have hs' := cutN_mem.1 hs
    exact hap s hs'.1 hs'.2 g hgs hk
/-- An entry is cut. -/
theorem Fd.cut {w w2 : World} {B b : Nat} {T : List Ent} {n : ByteArray} (h : Fd w B b T) {m : Nat} (hm : w2.ownsMap Try.prog 9 RV b m ((DataW.map (T.map Ent.d)).del (.string n.data.toList))) (hg2 : w.grownBy w2 (some b)) :
    Fd w2 B b (cutN Ent.name n T) := by
  rw [ent_del] at hm
  refine ⟨h.base, own_norm hm, fun t ht => (h.rows t (cutN_mem.1 ht).1).kept fun g hgs => hg2.block g ((h.rows t (cutN_mem.1 ht).1).lt g hgs).2 (fun e => h.not_b (cutN_mem.1 ht).1 (by rw [hgs, e])), h.one.filter _, h.ris.cut n⟩
theorem fl_get (n : ByteArray) (T : List Ent) : getN Fl.name n (T.map Ent.f) = (getN Ent.name n T).map Ent.f := (getN_map Ent.name Fl.name Ent.f (fun _ => rfl) n T).symm
theorem fl_put (t : Ent) (T : List Ent) : (putN Ent.name t T).map Ent.f = putN Fl.name t.f (T.map Ent.f) := putN_map Ent.name Fl.name Ent.f (fun _ => rfl) t T
theorem fl_cut (n : ByteArray) (T : List Ent) : (cutN Ent.name n T).map Ent.f = cutN Fl.name n (T.map Ent.f) := cutN_map Ent.name Fl.name Ent.f (fun _ => rfl) n T
end Go.Proofs.Ytcalgmhpagpnnaa
