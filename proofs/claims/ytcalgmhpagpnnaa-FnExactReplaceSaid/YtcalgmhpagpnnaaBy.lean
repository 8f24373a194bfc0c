/- Bytes of one's own in memory: made of a string, appended to, made a string again. No conditions but sizes. -/
import Derived.Test.YtcalgmhpagpnnaaFm
import Derived.Test.YtcalgmhpagpnnaaRows
import Derived.WalkKit
import Derived.Below
import Derived.Lib.AppendStr
import Derived.Laws.IdiomStrings
import Derived.Laws.BytesArg
namespace Go.Proofs.Ytcalgmhpagpnnaa
open Go.RowKit Go.Lib
set_option maxRecDepth 8000

theorem info5 : (Try.prog.info? 5).map (fun i => (i.zero, i.size, i.bytes)) = some (some (.int .u8 0), 1, 1) := by kernel_rfl

/-- The slice v has the bytes d, in a row of its own. -/
def ByR (w : World) (B : Nat) (v : Value) (d : ByteArray) : Prop :=
  (v = .slice none 0 0 ∧ d.size = 0) ∨ ∃ g cap cur fz, v = .slice (some ⟨g, 0, none⟩) d.size cap ∧ B ≤ g ∧ w.heap[g]? = some (.cells cur 5 fz) ∧ (fz = (0, 0) ∨ fz = (cur.size, cur.size + 1)) ∧ d.size ≤ cap ∧ cap ≤ maxLen ∧ cur.size = cap ∧ cur.toList.take d.size = strCells d

theorem ByR.of_owns {w : World} {B : Nat} {v : Value} {d : ByteArray} (h : w.ownsRow B 5 1 v d.size (strCells d)) : ByR w B v d := by
  rcases h.2 with h | ⟨g, cap, cur, hv, hb, hg, h1, h2, h3, h4⟩
  · exact Or.inl h
  · exact Or.inr ⟨g, cap, cur, (0, 0), hv, hb, hg, Or.inl rfl, h1, h2, by simpa using h3, by simpa using h4⟩
theorem ByR.mono {w : World} {B B' : Nat} {v : Value} {d : ByteArray} (h : ByR w B v d) (hB : B' ≤ B) : ByR w B' v d := by
  rcases h with h | ⟨g, cap, cur, fz, hv, hb, r⟩
  · exact Or.inl h
  · exact Or.inr ⟨g, cap, cur, fz, hv, Nat.le_trans hB hb, r⟩
theorem ByR.lt {w : World} {B : Nat} {v : Value} {d : ByteArray} (h : ByR w B v d) : ∀ g, v.ownBlock = some g → B ≤ g ∧ g < w.heap.size := by
  intro k hk
  rcases h with ⟨rfl, _⟩ | ⟨g, cap, cur, fz, rfl, hb, hg, _⟩
  · simp [Value.ownBlock] at hk
  · simp [Value.ownBlock] at hk
    subst hk
    exact ⟨hb, (Array.getElem?_eq_some_iff.1 hg).1⟩
theorem ByR.kept {w w' : World} {B : Nat} {v : Value} {d : ByteArray} (h : ByR w B v d) (hk : ∀ g, v.ownBlock = some g → w'.heap[g]? = w.heap[g]?) : ByR w' B v d := by
  rcases h with h | ⟨g, cap, cur, fz, rfl, hb, hg, r⟩
  · exact Or.inl h
  · exact Or.inr ⟨g, cap, cur, fz, rfl, hb, (hk g rfl).trans hg, r⟩
theorem ByR.not_map {w : World} {B b : Nat} {v : Value} {d : ByteArray} (h : ByR w B v d) {es : Array MapEntry} {cl : Nat} (hb : w.heap[b]? = some (.map es cl)) : v.ownBlock ≠ some b := by
  intro hv
  rcases h with ⟨rfl, _⟩ | ⟨g, cap, cur, fz, rfl, _, hg, _⟩
  · simp [Value.ownBlock] at hv
  · simp [Value.ownBlock] at hv
    subst hv
    rw [hb] at hg
    cases hg
theorem ByR.shape {w : World} {B : Nat} {v : Value} {d : ByteArray} (h : ByR w B v d) : ∃ a cap, v = .slice a d.size cap := by
  rcases h with ⟨rfl, h0⟩ | ⟨g, cap, cur, fz, rfl, _⟩
  · exact ⟨none, 0, by rw [h0]⟩
  · exact ⟨_, _, rfl⟩

theorem strCells_append (d s : ByteArray) : strCells (d ++ s) = strCells d ++ strCells s := by
  simp [strCells]

/-- Cells written into a row, none of them frozen. -/
theorem storeRow (P : Program) (g : Nat) (t : TypeId) (fz : Nat × Nat) : ∀ (vs : List Value) (o i : Nat) (cur : Array Value) (w : World), w.heap[g]? = some (.cells cur t fz) → (fz.2 ≤ o + i ∨ o + i + vs.length ≤ fz.1) → o + i + vs.length ≤ cur.size → (∀ v ∈ vs, v.oneCell' = true) →
    ∃ cur' : Array Value, (storeCells ⟨g, o, none⟩ vs i).run P w = .ok () (w.setRow g cur') ∧ cur'.size = cur.size ∧ cur'.toList.take (o + i + vs.length) = cur.toList.take (o + i) ++ vs
  | [], o, i, cur, w, hg, _, _, _ => by
    refine ⟨cur, ?_, rfl, by simp⟩
    simp only [storeCells]
    rw [setRow_self w g cur t fz hg]
    rfl
  | v :: r, o, i, cur, w, hg, hf, hl, h1 => by
    have hl' : o + i + (r.length + 1) ≤ cur.size := hl
    have hf' : fz.2 ≤ o + i ∨ o + i + (r.length + 1) ≤ fz.1 := hf
    have hi : o + i < cur.size := by omega
    have hadd : (⟨g, o, none⟩ : Addr).add i = ⟨g, o + i, none⟩ := by unfold Addr.add; split <;> simp_all
    have hcell : w.cell? ⟨g, o + i, none⟩ = some cur[o + i] := by simp [World.cell?, hg, hi]
    have hfro : w.frozen? ⟨g, o + i, none⟩ = false := by
      obtain ⟨lo, up⟩ := fz
      simp only [World.frozen?, hg]
      simp at hf' ⊢
      omega
    have hst : (store ((⟨g, o, none⟩ : Addr).add i) v).run P w = .ok () (w.setRow g (cur.setIfInBounds (o + i) v)) := by
      rw [hadd, run_store P w _ v _ (h1 v (by simp)), hcell]
      simp [hfro, setCell_eq_setRow w g (o + i) cur t fz v hg]
    obtain ⟨cur', e1, e2, e3⟩ := storeRow P g t fz r o (i + 1) (cur.setIfInBounds (o + i) v) (w.setRow g (cur.setIfInBounds (o + i) v)) (setRow_heap w g cur _ t _ hg) (by omega) (by simp; omega) (fun x hx => h1 x (by simp [hx]))
    refine ⟨cur', ?_, by simpa using e2, ?_⟩
    · simp only [storeCells, Sem.run_bind, hst, Result.andThen_ok, e1, setRow_setRow]
    · have e4 : o + (i + 1) + r.length = o + i + (v :: r).length := by simp; omega
      rw [e4] at e3
      rw [e3]
      have e5 : (cur.setIfInBounds (o + i) v).toList.take (o + (i + 1)) = cur.toList.take (o + i) ++ [v] := by
        rw [Array.toList_setIfInBounds, ← Nat.add_assoc, List.take_add_one]
        simp [List.take_set, hi]
        exact List.set_eq_of_length_le (by simp; omega)
      rw [e5]
      simp

theorem run_appendB {w : World} {B : Nat} {v : Value} {d : ByteArray} (h : ByR w B v d) (s : ByteArray) (hsz : d.size + s.size ≤ 70368744177664) (hB : B ≤ w.heap.size) (ty : TypeId) :
    ∃ v' w', (Builtin.append_ #[22, 9] ty #[v, .string s]).run Try.prog w = .ok v' w' ∧ ByR w' B v' (d ++ s) ∧ w.grownBy w' v.ownBlock ∧ (v'.ownBlock = v.ownBlock ∨ ∀ g, v'.ownBlock = some g → w.heap.size ≤ g) := by
  obtain ⟨i0, hi, hz0, hz1, hz2⟩ := info_parts info5
  have hds : (d ++ s).size = d.size + s.size := ByteArray.size_append
  rcases h with ⟨rfl, h0⟩ | ⟨g, cap, cur, fz, rfl, hb, hg, hfz, h1, h2, h3, h4⟩
  · obtain ⟨v', w', r1, r2, r3, r4⟩ := run_append_own_string (P := Try.prog) w w.heap.size 22 9 ty 5 i0 Try.underlying22 Try.underlying9 hi hz0 hz1 hz2 (.slice none 0 0) 0 [] (World.ownsRow_nil w w.heap.size 5 1) s (by unfold maxLen; omega) (by omega) (Nat.le_refl _)
    have hd : d = ByteArray.empty := by
      apply ba_ext
      have : d.data.toList = [] := List.length_eq_zero_iff.1 (by simpa using h0)
      rw [this]; rfl
    subst hd
    have ee : ByteArray.empty ++ s = s := by simp
    refine ⟨v', w', r1, ?_, r3, Or.inr fun g hg => (World.ownsRow.lt r2 g hg).1⟩
    rw [ee]
    exact (ByR.of_owns (by simpa using r2)).mono hB
  · by_cases hroom : d.size + s.size ≤ cap
    · obtain ⟨cur', e1, e2, e3⟩ := storeRow Try.prog g 5 fz (strCells s) d.size 0 cur w hg (by rcases hfz with rfl | rfl
                                                                                               · left; simp
                                                                                               · right; simp [strCells_length]; omega) (by simp [strCells_length]; omega) (strCells_oneCell s)
      have hf := run_firstCells_string (P := Try.prog) w 1 s
      simp only [Nat.add_zero, strCells_length] at e3
      have hadd : (⟨g, 0, none⟩ : Addr).add (d.size * 1) = ⟨g, d.size, none⟩ := by rw [Nat.mul_one]; unfold Addr.add; split <;> simp_all
      refine ⟨.slice (some ⟨g, 0, none⟩) (d.size + s.size) cap, w.setRow g cur', ?_, ?_, ?_, Or.inl rfl⟩
      · simp only [Builtin.append_]
        simp [run_underlying Try.underlying22, run_underlying Try.underlying9, sizeOf, typeInfo, hi, hz1, Builtin.lenOf, hroom, hf, Addr.add_lit, e1]
      · refine Or.inr ⟨g, cap, cur', fz, by rw [hds], hb, setRow_heap w g cur _ 5 _ hg, by rw [e2]; exact hfz, by rw [hds]; exact hroom, h2, by rw [e2]; exact h3, ?_⟩
        rw [hds, e3, h4, strCells_append]
      · exact ⟨rfl, rfl, rfl, by simp, fun k _ hk => setRow_other w g k _ (fun e => hk (by simp [Value.ownBlock, e]))⟩
    · have hcell : ∀ j u, (strCells d)[j]? = some u → w.cell? ((⟨g, 0, none⟩ : Addr).add j) = some u := by
        intro j u hj
        have hadd : (⟨g, 0, none⟩ : Addr).add j = ⟨g, j, none⟩ := by unfold Addr.add; split <;> simp_all
        rw [hadd, cell_of_row w g j cur 5 fz hg]
        rw [← h4, List.getElem?_take] at hj
        split at hj
        · simpa using hj
        · cases hj
      have hr := run_append_grow_string (P := Try.prog) w 22 9 ty 5 i0 (.int .u8 0) Try.underlying22 Try.underlying9 hi hz0 ⟨g, 0, none⟩ d.size cap (strCells d) (by rw [hz1, strCells_length]; omega) hcell s (by omega) (by omega) (by rw [hz2]; exact growslice_fits (by omega) (by omega))
      have hge := grownCap_ge w (d.size + s.size) cap 5
      have hcm := grownCap_le_maxLen w (d.size + s.size) cap 5 (by unfold maxLen; omega)
      refine ⟨_, _, hr, ?_, ⟨rfl, rfl, rfl, by simp, fun k hk _ => Below.heap_alloc w.drew _ k hk⟩, Or.inr fun g hg => by simp [Value.ownBlock] at hg; omega⟩
      refine Or.inr ⟨w.heap.size, _, _, (0, 0), by rw [hds], hB, heap_alloc_new w.drew _, Or.inl rfl, by rw [hds]; exact hge, hcm, ?_, ?_⟩
      · have hz : (Value.int IntKind.u8 0).cells.size = 1 := rfl
        simp only [Array.size_append, List.size_toArray, size_zeroCells, hz, strCells_length]
        omega
      · have hl : (strCells (d ++ s)).length = d.size + s.size := by rw [strCells_length, hds]
        rw [hds, ← hl, strCells_append]
        simp only [Array.toList_append, List.append_assoc]
        rw [← List.append_assoc]
        exact List.take_left

/-- A string of the bytes. -/
theorem run_stringB {w : World} {B : Nat} {v : Value} {d : ByteArray} (h : ByR w B v d) : (convert 22 9 v).run Try.prog w = .ok (.string d) w := by
  rcases h with ⟨rfl, h0⟩ | ⟨g, cap, cur, fz, rfl, hb, hg, hfz, h1, h2, h3, h4⟩
  · have hd : d = ByteArray.empty := by
      apply ba_ext
      have : d.data.toList = [] := List.length_eq_zero_iff.1 (by simpa using h0)
      rw [this]; rfl
    rw [hd]
    exact run_convert_bytes_nil w 22 5 Try.underlying22 Try.underlying5 0 0 9 Try.underlying9
  · have hl : d.data.toList.length = d.size := by simp
    have := run_convert_bytes_back (P := Try.prog) w 22 9 5 ⟨g, 0, none⟩ cap d.data.toList Try.underlying22 Try.underlying5 Try.underlying9 (fun j hj => by
      have hadd : (⟨g, 0, none⟩ : Addr).add j = ⟨g, j, none⟩ := by unfold Addr.add; split <;> simp_all
      rw [hadd, cell_of_row w g j cur 5 fz hg]
      have hc : cur.toList[j]? = (strCells d)[j]? := by
        rw [← h4, List.getElem?_take, if_pos (by omega)]
      rw [← Array.getElem?_toList, hc]
      simp [strCells, List.getElem?_eq_getElem hj])
    rw [hl] at this
    rw [this]

/-- Bytes made of a string. -/
theorem run_bytesB (w : World) (B : Nat) (hB : B ≤ w.heap.size) (s : ByteArray) (hs : s.size ≤ 70368744177664) :
    ∃ v w', (convert 9 22 (.string s)).run Try.prog w = .ok v w' ∧ ByR w' B v s ∧ w.grownBy w' none ∧ v.ownBlock = some w.heap.size ∧ w'.heap.size = w.heap.size + 1 := by
  have hr := run_bytes_of_string (P := Try.prog) w 9 22 5 s Try.underlying9 Try.underlying22 Try.underlying5
  have hge := grownCap_ge w s.size 0 5
  have hcm := grownCap_le_maxLen w s.size 0 5 (by unfold maxLen; omega)
  have hsz : (bytesRow s (grownCap w s.size 0 5)).size = grownCap w s.size 0 5 := by
    simp [bytesRow]
    have : s.data.size = s.size := rfl
    omega
  refine ⟨_, _, hr, Or.inr ⟨w.heap.size, _, _, _, rfl, hB, heap_alloc_new w.drew _, Or.inr rfl, hge, hcm, hsz, ?_⟩, ⟨rfl, rfl, rfl, by simp, fun k hk _ => Below.heap_alloc w.drew _ k hk⟩, rfl, by simp⟩
  simp [bytesRow, strCells]
end Go.Proofs.Ytcalgmhpagpnnaa
