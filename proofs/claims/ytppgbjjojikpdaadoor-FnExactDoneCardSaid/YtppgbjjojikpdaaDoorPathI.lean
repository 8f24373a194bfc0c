/- The program's path from an account to its root. Conditions: the accounts lie in memory and are a right forest. -/
import Derived.Test.YtppgbjjojikpdaaDoorKids
namespace Go.Proofs.YtppgbjjojikpdaaDoor
open Go.RowKit

/-- The eight cells of an account. -/
def accCells (a : Acc) : List Value := [.int .i64 a.id, .int .i64 a.up, .int .i64 a.limit, .int .i64 a.rate, .int .i64 a.target, .bool a.frozen, .int .i64 a.balance, .int .i64 a.carry]
/-- Accounts in memory of a call's own. -/
def AL (w : World) (B : Nat) (v : Value) (l : List Acc) : Prop := w.ownsRow B 37 8 v l.length (l.flatMap accCells)
theorem flat_len (l : List Acc) : (l.flatMap accCells).length = l.length * 8 := by
  induction l with
  | nil => rfl
  | cons a l ih => simp only [List.flatMap_cons, List.length_append, ih, List.length_cons, accCells, List.length_nil]; omega
theorem flat_get (l : List Acc) : ∀ (i j : Nat) (hi : i < l.length) (_ : j < 8), (l.flatMap accCells)[i * 8 + j]? = (accCells l[i])[j]? := by
  induction l with
  | nil => intro i j hi; simp at hi
  | cons a l ih =>
    intro i j hi hj
    rw [List.flatMap_cons]
    cases i with
    | zero =>
      rw [List.getElem?_append_left (by simp [accCells]; omega)]
      simp
    | succ i =>
      have hl : (accCells a).length = 8 := rfl
      rw [List.getElem?_append_right (by rw [hl]; omega), hl]
      have e : (i + 1) * 8 + j - 8 = i * 8 + j := by omega
      rw [e, ih i j (by simpa using hi) hj]
      simp
theorem AL.kept {w w' : World} {B : Nat} {v : Value} {l : List Acc} (h : AL w B v l) (hb : Below w.heap.size w w') : AL w' B v l :=
  World.ownsRow.kept (row := none) h ⟨hb.os, hb.tape, hb.output, hb.size, fun k hk _ => hb.block k hk⟩ (by cases hv : v.ownBlock <;> simp)
theorem AL.shape {w : World} {B : Nat} {v : Value} {l : List Acc} (h : AL w B v l) :
    ∃ a cap, v = .slice a l.length cap ∧ (∀ g, v.ownBlock = some g → B ≤ g ∧ g < w.heap.size) ∧
      ∀ i (hi : i < l.length), ∃ g, a = some ⟨g, 0, none⟩ ∧ B ≤ g ∧ g < w.heap.size ∧ AccAt w g (i * 8) l[i] := by
  have hlt := World.ownsRow.lt h
  rcases h.2 with ⟨hv, hn⟩ | ⟨g, cap, cur, hv, hg, r⟩
  · refine ⟨none, 0, by rw [hv, hn], fun g hg => hlt g hg, fun i hi => ?_⟩
    omega
  · refine ⟨some ⟨g, 0, none⟩, cap, hv, fun g hg => hlt g hg, fun i hi => ?_⟩
    have ho : v.ownBlock = some g := by rw [hv]; rfl
    have hs : w.ownsRow B 37 8 (.slice (some ⟨g, 0, none⟩) l.length cap) l.length (l.flatMap accCells) := by rw [← hv]; exact h
    have hc : ∀ j, j < 8 → w.cell? ⟨g, i * 8 + j, none⟩ = (accCells l[i])[j]? := fun j hj => by
      rw [World.ownsRow.cellAt hs (i * 8 + j) (by omega), flat_get l i j hi hj]
    exact ⟨g, rfl, hg, (hlt g ho).2, hc 0 (by omega), hc 1 (by omega), hc 2 (by omega), hc 3 (by omega), hc 4 (by omega), hc 5 (by omega), hc 6 (by omega), hc 7 (by omega)⟩

theorem Right.id_pos {F : Nat → Acc} {n : Nat} (h : Right F n) {j : Nat} (hj : j < n) : 1 ≤ (F j).id := (h.2.1 j hj).1.1
theorem chain_step {F : Nat → Acc} {n m : Nat} {cur : Int} {j : Nat} (h0 : cur ≠ 0) (hp : place F n cur = some j) (hs : (chain F n m cur).isSome = true) : ∃ m', m = m' + 1 ∧ chain F n m cur = (chain F n m' (F j).up).map (cur :: ·) := by
  cases m with
  | zero => simp [chain, h0] at hs
  | succ m' => exact ⟨m', rfl, by simp [chain, h0, hp]⟩

set_option maxRecDepth 8000 in
set_option maxHeartbeats 2000000 in
theorem implPathFull (a : Option Addr) (n c : Nat) (F : Nat → Acc) (id : Int) (l : List Int) (w : World) (h : Fo w a n F) (hR : Right F n) (hl : chain F n n id = some l) :
    Calls Tryd.prog 91 #[.slice a n c, .int .i64 id] w fun e w' => ∃ v P, e = .returned v ∧ AL w' w.heap.size v P ∧ P.map (·.id) = l ∧ P.length ≤ n ∧ (∀ x, x ∈ P → ∃ j, j < n ∧ x = F j) ∧ Below w.heap.size w w' := by
  have H : Hid (Fo w a n F) := h
  have HR : Hid (Right F n) := hR
  have HL : Hid (chain F n n id = some l) := hl
  have hn := hR.1
  clear h hR hl
  obtain ⟨i0, hi, hz0, hz1, hz2⟩ := info_parts info37
  go_enter Tryd.func91, Tryd.ntmps91
  go_wp2_with fail
  refine (implAt a n c F id _ H.out).mono ?_
  rintro e w0 ⟨rfl, B0⟩
  have B0' : Hid (Below w.heap.size w w0) := B0
  have A0 : Hid (AL w0 w.heap.size (.slice none 0 0) []) := World.ownsRow_nil w0 w.heap.size 37 8
  clear B0
  go_wp2
  go_loopw [5, 6] (fun v t wr => ∃ (P : List Acc) (cur : Int), t = .int .i64 (placeI F n cur) ∧ lenOf v = P.length ∧ P.length ≤ n ∧ Hid (chain F n n id = (chain F n (n - P.length) cur).map (P.map (·.id) ++ ·)) ∧ Hid (AL wr w.heap.size v P) ∧ Hid (∀ x, x ∈ P → ∃ j, j < n ∧ x = F j) ∧ Hid (Below w.heap.size w wr)) (fun v _ _ => n + 1 - lenOf v)
  case atStart =>
    refine ⟨[], id, rfl, rfl, Nat.zero_le _, ?_, A0, fun x hx => absurd hx (by simp), B0'⟩
    exact (by simp : chain F n n id = (chain F n (n - 0) id).map ([] ++ ·))
  case round =>
    obtain ⟨P, cur, rfl, hlen, hpn, hch, hA, hIn, hB⟩ := hrel
    clear A0 B0'
    rcases placeI_of (F := F) (n := n) (id := cur) with ⟨hp, hpi⟩ | ⟨i, hp, hin, hpi⟩
    · rw [hpi]
      have hc0 : cur = 0 := by
        by_cases e : cur = 0
        · exact e
        · have := hch.out
          rw [chain_none _ _ _ _ e hp, HL.out] at this
          simp at this
      have E : Hid (P.map (·.id) = l) := by
        have := hch.out
        rw [hc0, chain_zero, HL.out] at this
        simp at this
        exact this.symm
      clear hp hpi hc0
      go_wp2
      go_ret
      exact ⟨_, P, rfl, hA.out, E.out, hpn, hIn.out, hB.out⟩
    · rw [hpi]
      have hid := (place_some hp).2
      have hc0 : cur ≠ 0 := by have := HR.out.id_pos hin; omega
      have hsome : (chain F n (n - P.length) cur).isSome = true := by
        have := hch.out
        rw [HL.out] at this
        cases hq : chain F n (n - P.length) cur with
        | none => rw [hq] at this; simp at this
        | some x => rfl
      obtain ⟨m', hm', hst⟩ := chain_step hc0 hp hsome
      have hplt : P.length < n := by omega
      have E : Hid (chain F n n id = (chain F n (n - (P ++ [F i]).length) (F i).up).map ((P ++ [F i]).map (·.id) ++ ·)) := by
        have e1 : n - (P ++ [F i]).length = m' := by simp; omega
        have e2 : chain F n n id = (chain F n (n - (P ++ [F i]).length) (F i).up).map ((P ++ [F i]).map (·.id) ++ ·) := by
          rw [hch.out, hst, e1, Option.map_map]
          congr 1
          funext x
          simp [hid]
        exact e2
      have IN : Hid (∀ x, x ∈ P ++ [F i] → ∃ j, j < n ∧ x = F j) := fun x hx => by
        rcases List.mem_append.1 hx with e | e
        · exact hIn.out x e
        · exact ⟨i, hin, by simpa using e⟩
      obtain ⟨b, o, rfl, hb0, hAc0⟩ := H.out.acc hin
      have hb : b < wr.heap.size := Nat.lt_of_lt_of_le hb0 hB.out.size
      have hAc := hAc0.of_cells (w' := wr) (fun q => hB.out.cell (p := ⟨b, q, none⟩) hb0)
      clear hAc0
      have HAc : Hid (AccAt wr b (o + i * 8) (F i)) := hAc
      obtain ⟨c0, c1, c2, c3, c4, c5, c6, c7⟩ := hAc
      obtain ⟨a', m1, hv, hlt', _⟩ := hA.out.shape
      subst hv
      have HLT : Hid (∀ q, (Value.slice a' P.length m1).ownBlock = some q → w.heap.size ≤ q ∧ q < wr.heap.size) := hlt'
      clear hp hpi hc0 hsome hst hm' hid hlt'
      go_wp2_with (at_builtin; refine wpList_append_own _ rfl _ _ 26 rfl w.heap.size 37 i0 _ 8 64 Tryd.underlying26 hi hz0 hz1 hz2 rfl (by decide) _ _ _ rfl (World.ownsRow.alloc hA.out _) ⟨_, 0, none⟩ 1 1 (accCells (F i)) rfl rfl ?_ ?_ ?_ ?_ ?_ ?_)
      · intro j u hj
        have hj8 : j < 8 := by
          by_cases e : j < 8
          · exact e
          · rw [List.getElem?_eq_none (by simp [accCells]; omega)] at hj; cases hj
        have hcase : j = 0 ∨ j = 1 ∨ j = 2 ∨ j = 3 ∨ j = 4 ∨ j = 5 ∨ j = 6 ∨ j = 7 := by omega
        rcases hcase with e | e | e | e | e | e | e | e <;> subst e <;> simp [accCells] at hj <;> subst hj <;> simp [Addr.add, go_sem]
      · intro u hu
        simp only [accCells, List.mem_cons, List.not_mem_nil, or_false] at hu
        rcases hu with e | e | e | e | e | e | e | e <;> subst e <;> rfl
      · unfold maxLen; omega
      · omega
      · have := hB.out.size; simp; omega
      · intro v' w2 hown hgrow hnn
        have A2 : Hid (AL w2 w.heap.size v' (P ++ [F i])) := by
          show AL w2 w.heap.size v' (P ++ [F i])
          unfold AL
          simpa using hown
        have B2 : Hid (Below w.heap.size w w2) := (hB.out.alloc hB.out.size _).grown hgrow (by have := hB.out.size; simp; omega) (fun q hq => (HLT.out q hq).1)
        obtain ⟨a2, m2, hv2, _, _⟩ := A2.out.shape
        subst hv2
        have hA2 : AccAt w2 b (o + i * 8) (F i) := by
          refine HAc.out.of_cells (fun q => World.cell?_of_block (w := wr) ?_)
          show w2.heap[b]? = wr.heap[b]?
          rw [hgrow.block b (by simp; omega) (fun e => by have := (HLT.out b e.symm).1; omega), Below.heap_alloc _ _ _ hb]
        clear c0 c1 c2 c3 c4 c5 c6 c7
        obtain ⟨c0, c1, c2, c3, c4, c5, c6, c7⟩ := hA2
        clear hown hgrow hnn hA HLT
        go_wp2_with fail
        refine (implAt _ n c F (F i).up _ (H.out.below B2.out)).mono ?_
        rintro e w3 ⟨rfl, B3⟩
        have A3 : Hid (AL w3 w.heap.size (.slice a2 (P ++ [F i]).length m2) (P ++ [F i])) := A2.out.kept B3
        have B3' : Hid (Below w.heap.size w w3) := B2.out.trans (B3.mono B2.out.size)
        clear B3 A2 B2 c0 c1 c2 c3 c4 c5 c6 c7
        go_wp2
        go_roundw
        case rel => exact ⟨P ++ [F i], (F i).up, rfl, by simp [lenOf], by simp; omega, E, (by have t := A3.out; rw [List.length_append] at t; exact t), IN, B3'⟩
        case measure => simp [lenOf]; omega
theorem implPathFrom (a : Option Addr) (n c : Nat) (F : Nat → Acc) (id : Int) (l : List Int) (w : World) (h : Fo w a n F) (hR : Right F n) (hl : chain F n n id = some l) :
    Calls Tryd.prog 91 #[.slice a n c, .int .i64 id] w fun e w' => ∃ v P, e = .returned v ∧ AL w' w.heap.size v P ∧ P.map (·.id) = l ∧ P.length ≤ n ∧ Below w.heap.size w w' :=
  (implPathFull a n c F id l w h hR hl).mono fun _ _ ⟨v, P, a1, a2, a3, a4, _, a5⟩ => ⟨v, P, a1, a2, a3, a4, a5⟩

end Go.Proofs.YtppgbjjojikpdaaDoor
