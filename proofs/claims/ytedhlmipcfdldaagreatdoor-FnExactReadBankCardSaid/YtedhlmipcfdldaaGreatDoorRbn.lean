/- What the specification's loose reading of a bank's text has read. Pure mathematics. -/
import Derived.Test.YtedhlmipcfdldaaGreatDoorRbm
import Derived.Test.YtedhlmipcfdldaaGreatDoorNum
namespace Go.Proofs.YtedhlmipcfdldaaGreatDoor
open Go.RowKit
set_option maxRecDepth 8000

/-- In the text of the bank k', L', O' the reading stands at r and has read k, L, O. -/
def Here (k' : Bk) (L' : List Acc) (O' : List Ord) (r : List UInt8) (k : Bk) (L : List Acc) (O : List Ord) : Prop :=
  (r = bankT k' L' O' ∧ L = [] ∧ O = []) ∨ (k = k' ∧ ∃ L2 O2, L' = L ++ L2 ∧ O' = O ++ O2 ∧ r = linesL wAcc.data.toList (L2.map acN) ++ linesL wOrd.data.toList (O2.map orN))
theorem nums_join {ns : List Int} (h0 : ns ≠ []) (h : ∀ n ∈ ns, IsNum (Lib.itoa n) n) : numsOf (joinL ns) = some ns := by
  unfold numsOf
  have hl : ∀ ms : List Int, ms ≠ [] → ms.length ≤ (joinL ms).length := by
    intro ms
    induction ms with
    | nil => intro h; exact absurd rfl h
    | cons n r ih =>
      intro _
      have h1 : 1 ≤ (Lib.itoa n).length := by
        have : Lib.itoa n ≠ [] := by
          intro e
          unfold Lib.itoa at e
          split at e
          · simp at e
          · exact dec_ne _ e
        exact List.length_pos_iff.2 this
      cases r with
      | nil => simpa [joinL] using h1
      | cons m q =>
        have := ih (by simp)
        simp only [joinL, List.length_append, List.length_cons] at this ⊢
        omega
  have hn : joinL ns ≠ [] := by
    intro e
    have := hl ns h0
    rw [e] at this
    simp at this
    exact h0 this
  rw [if_neg hn]
  exact numsF_join ns _ h0 h (by have := hl ns h0; omega)
theorem line_read {S : List UInt8} (hS : ∀ b ∈ S, b ≠ 32 ∧ b ≠ 10) {ns : List Int} (h0 : ns ≠ []) (h : ∀ n ∈ ns, IsNum (Lib.itoa n) n) (t : List UInt8) : cutL 10 (lineL S ns ++ t) = (rowL S ns, t, true) ∧ cutL 32 (rowL S ns) = (S, joinL ns, true) ∧ numsOf (joinL ns) = some ns :=
  ⟨line_cut (fun b hb => (hS b hb).2) ns t, row_cut (fun b hb => (hS b hb).1) h0, nums_join h0 h⟩
theorem Here.next {k' k : Bk} {L' L : List Acc} {O' O : List Ord} {r : List UInt8} (hb : bankOk (FL L') L'.length (OrdF O') O'.length k') (h : Here k' L' O' r k L O) (hr : r ≠ []) :
    ∃ W ns t, cutL 10 r = (rowL W ns, t, true) ∧ cutL 32 (rowL W ns) = (W, joinL ns, true) ∧ numsOf (joinL ns) = some ns ∧
      ((W = wBank.data.toList ∧ ns = bkN k' ∧ Here k' L' O' t k' L O) ∨ (W = wAcc.data.toList ∧ ∃ a, ns = acN a ∧ Here k' L' O' t k (L ++ [a]) O) ∨ (W = wOrd.data.toList ∧ ∃ o, ns = orN o ∧ Here k' L' O' t k L (O ++ [o]))) := by
  rcases h with ⟨rfl, rfl, rfl⟩ | ⟨rfl, L2, O2, e1, e2, rfl⟩
  · obtain ⟨h1, h2, h3⟩ := line_read (S := wBank.data.toList) (by decide) (ns := bkN k') (by simp [bkN]) (bkN_num hb) (linesL wAcc.data.toList (L'.map acN) ++ linesL wOrd.data.toList (O'.map orN))
    exact ⟨_, _, _, h1, h2, h3, Or.inl ⟨rfl, rfl, Or.inr ⟨rfl, L', O', rfl, rfl, rfl⟩⟩⟩
  · cases L2 with
    | cons a L3 =>
      obtain ⟨h1, h2, h3⟩ := line_read (S := wAcc.data.toList) (by decide) (ns := acN a) (by simp [acN]) ((rowsA hb (acN a) (by rw [e1]; simp)).2) (linesL wAcc.data.toList (L3.map acN) ++ linesL wOrd.data.toList (O2.map orN))
      refine ⟨_, _, _, by simpa [linesL] using h1, h2, h3, Or.inr (Or.inl ⟨rfl, a, rfl, Or.inr ⟨rfl, L3, O2, by simp [e1], e2, rfl⟩⟩)⟩
    | nil =>
      cases O2 with
      | nil => simp [linesL] at hr
      | cons o O3 =>
        obtain ⟨h1, h2, h3⟩ := line_read (S := wOrd.data.toList) (by decide) (ns := orN o) (by simp [orN]) ((rowsO hb (orN o) (by rw [e2]; simp)).2) (linesL wOrd.data.toList (O3.map orN))
        refine ⟨_, _, _, by simpa [linesL] using h1, h2, h3, Or.inr (Or.inr ⟨rfl, o, rfl, Or.inr ⟨rfl, [], O3, e1, by simp [e2], by simp [linesL]⟩⟩)⟩
theorem Here.over {k' k : Bk} {L' L : List Acc} {O' O : List Ord} (h : Here k' L' O' [] k L O) : k = k' ∧ L = L' ∧ O = O' := by
  rcases h with ⟨e, _, _⟩ | ⟨rfl, L2, O2, e1, e2, e3⟩
  · simp [bankT, lineL] at e
  · have e4 : linesL wAcc.data.toList (L2.map acN) = [] ∧ linesL wOrd.data.toList (O2.map orN) = [] := by simpa using e3.symm
    have z : ∀ (S : List UInt8) (ls : List (List Int)), linesL S ls = [] → ls = [] := by
      intro S ls
      cases ls with
      | nil => intro _; rfl
      | cons l r => intro e; simp [linesL, lineL] at e
    have z1 := z _ _ e4.1
    have z2 := z _ _ e4.2
    simp only [List.map_eq_nil_iff] at z1 z2
    subst z1
    subst z2
    simp at e1 e2
    exact ⟨rfl, e1.symm, e2.symm⟩
/-- What is known in the specification's loop. -/
def Inv (s r : List UInt8) (k : Bk) (L : List Acc) (O : List Ord) : Prop := ∀ k' L' O', RdB s k' L' O' [] → Here k' L' O' r k L O
theorem rdb_text {s : List UInt8} {k : Bk} {L : List Acc} {O : List Ord} (h : RdB s k L O []) : bankOk (FL L) L.length (OrdF O) O.length k ∧ s = bankT k L O := by
  obtain ⟨h1, h2⟩ := rdb_is h
  exact ⟨h1, by simpa using h2⟩
theorem Inv.start (s : List UInt8) (k : Bk) : Inv s s k [] [] := fun _ _ _ h => Or.inl ⟨(rdb_text h).2, rfl, rfl⟩
theorem Inv.bad {s r x y : List UInt8} {k : Bk} {L : List Acc} {O : List Ord} (h : Inv s r k L O) (hr : r ≠ []) (hc : cutL 10 r = (x, y, false)) : ∀ k' L' O', ¬ RdB s k' L' O' [] := by
  intro k' L' O' hh
  obtain ⟨W, ns, t, h1, _⟩ := (h k' L' O' hh).next (rdb_text hh).1 hr
  rw [hc] at h1
  simp at h1
theorem Inv.bad2 {s r x y z u : List UInt8} {b c : Bool} {k : Bk} {L : List Acc} {O : List Ord} (h : Inv s r k L O) (hr : r ≠ []) (hc : cutL 10 r = (x, y, b)) (h2 : cutL 32 x = (z, u, c)) (h3 : numsOf u = none) : ∀ k' L' O', ¬ RdB s k' L' O' [] := by
  intro k' L' O' hh
  obtain ⟨W, ns, t, e1, e2, e3, _⟩ := (h k' L' O' hh).next (rdb_text hh).1 hr
  rw [hc] at e1
  simp only [Prod.mk.injEq] at e1
  rw [e1.1, e2] at h2
  simp only [Prod.mk.injEq] at h2
  rw [← h2.2.1, e3] at h3
  cases h3
/-- A line read: what it was, if the text is that of a right bank. -/
theorem Inv.line {s r x y z u : List UInt8} {b c : Bool} {k : Bk} {L : List Acc} {O : List Ord} {ns : List Int} (h : Inv s r k L O) (hr : r ≠ []) (hc : cutL 10 r = (x, y, b)) (h2 : cutL 32 x = (z, u, c)) (h3 : numsOf u = some ns) :
    ∀ k' L' O', RdB s k' L' O' [] → ((z = wBank.data.toList ∧ ns = bkN k' ∧ Here k' L' O' y k' L O) ∨ (z = wAcc.data.toList ∧ ∃ a, ns = acN a ∧ Here k' L' O' y k (L ++ [a]) O) ∨ (z = wOrd.data.toList ∧ ∃ o, ns = orN o ∧ Here k' L' O' y k L (O ++ [o]))) := by
  intro k' L' O' hh
  obtain ⟨W, ms, t, e1, e2, e3, e4⟩ := (h k' L' O' hh).next (rdb_text hh).1 hr
  rw [hc] at e1
  simp only [Prod.mk.injEq] at e1
  rw [e1.1, e2] at h2
  simp only [Prod.mk.injEq] at h2
  rw [← h2.2.1, e3] at h3
  cases h3
  rw [← h2.1, e1.2.1]
  exact e4
theorem w_ne : wBank.data.toList ≠ wAcc.data.toList ∧ wBank.data.toList ≠ wOrd.data.toList ∧ wAcc.data.toList ≠ wOrd.data.toList := by decide
section
variable {s r x y z u : List UInt8} {b c : Bool} {k : Bk} {L : List Acc} {O : List Ord} {ns : List Int}
theorem Inv.bank (h : Inv s r k L O) (hr : r ≠ []) (hc : cutL 10 r = (x, y, b)) (h2 : cutL 32 x = (z, u, c)) (h3 : numsOf u = some ns) (hz : z = wBank.data.toList) {k2 : Bk} (hk : ns = bkN k2) : Inv s y k2 L O := by
  intro k' L' O' hh
  rcases h.line hr hc h2 h3 k' L' O' hh with ⟨_, e, g⟩ | ⟨e, _⟩ | ⟨e, _⟩
  · rw [hk] at e
    have : k2 = k' := by
      obtain ⟨a1, a2, a3, a4, a5⟩ := k2
      obtain ⟨b1, b2, b3, b4, b5⟩ := k'
      simp [bkN] at e
      simp [e]
    rw [this]
    exact g
  · exact absurd (hz.symm.trans e) w_ne.1
  · exact absurd (hz.symm.trans e) w_ne.2.1
theorem Inv.acc (h : Inv s r k L O) (hr : r ≠ []) (hc : cutL 10 r = (x, y, b)) (h2 : cutL 32 x = (z, u, c)) (h3 : numsOf u = some ns) (hz : z = wAcc.data.toList) {a : Acc} (hk : ∀ a', ns = acN a' → a = a') : Inv s y k (L ++ [a]) O := by
  intro k' L' O' hh
  rcases h.line hr hc h2 h3 k' L' O' hh with ⟨e, _⟩ | ⟨_, a', e, g⟩ | ⟨e, _⟩
  · exact absurd (e.symm.trans hz) w_ne.1
  · rw [hk a' e]
    exact g
  · exact absurd (hz.symm.trans e) w_ne.2.2
theorem Inv.ord (h : Inv s r k L O) (hr : r ≠ []) (hc : cutL 10 r = (x, y, b)) (h2 : cutL 32 x = (z, u, c)) (h3 : numsOf u = some ns) (hz : z = wOrd.data.toList) {a : Ord} (hk : ∀ a', ns = orN a' → a = a') : Inv s y k L (O ++ [a]) := by
  intro k' L' O' hh
  rcases h.line hr hc h2 h3 k' L' O' hh with ⟨e, _⟩ | ⟨e, _⟩ | ⟨_, a', e, g⟩
  · exact absurd (e.symm.trans hz) w_ne.2.1
  · exact absurd (e.symm.trans hz) w_ne.2.2
  · rw [hk a' e]
    exact g
/-- A line of another kind. -/
theorem Inv.other (h : Inv s r k L O) (hr : r ≠ []) (hc : cutL 10 r = (x, y, b)) (h2 : cutL 32 x = (z, u, c)) (h3 : numsOf u = some ns) (h5 : ¬ (z = wBank.data.toList ∧ ns.length = 5)) (h8 : ¬ (z = wAcc.data.toList ∧ ns.length = 8)) (h7 : ¬ (z = wOrd.data.toList ∧ ns.length = 7)) : Inv s y k L O := by
  intro k' L' O' hh
  rcases h.line hr hc h2 h3 k' L' O' hh with ⟨e, e', _⟩ | ⟨e, a', e', _⟩ | ⟨e, a', e', _⟩
  · exact absurd ⟨e, by rw [e']; rfl⟩ h5
  · exact absurd ⟨e, by rw [e']; rfl⟩ h8
  · exact absurd ⟨e, by rw [e']; rfl⟩ h7
theorem Inv.over (h : Inv s [] k L O) : ∀ k' L' O', RdB s k' L' O' [] → k = k' ∧ L = L' ∧ O = O' := fun k' L' O' hh => (h k' L' O' hh).over
end
/-- An account out of eight numbers, as the specification makes it. -/
theorem accS_of8 {ns : List Int} (h : ns.length = 8) : ∃ n0 n1 n2 n3 n4 n5 n6 n7, ns = [n0, n1, n2, n3, n4, n5, n6, n7] ∧ ∀ a', ns = acN a' → (⟨n0, n1, n2, n3, n4, n5 == 1, n6, n7⟩ : Acc) = a' := by
  match ns, h with
  | [n0, n1, n2, n3, n4, n5, n6, n7], _ =>
    refine ⟨n0, n1, n2, n3, n4, n5, n6, n7, rfl, ?_⟩
    rintro ⟨a1, a2, a3, a4, a5, a6, a7, a8⟩ e
    simp [acN] at e
    obtain ⟨rfl, rfl, rfl, rfl, rfl, rfl, rfl, rfl⟩ := e
    cases a6 <;> rfl
theorem ordS_of7 {ns : List Int} (h : ns.length = 7) : ∃ n0 n1 n2 n3 n4 n5 n6, ns = [n0, n1, n2, n3, n4, n5, n6] ∧ ∀ a', ns = orN a' → (⟨n0, n1, n2, n3, n4, n5, n6⟩ : Ord) = a' := by
  match ns, h with
  | [n0, n1, n2, n3, n4, n5, n6], _ =>
    refine ⟨n0, n1, n2, n3, n4, n5, n6, rfl, ?_⟩
    rintro ⟨a1, a2, a3, a4, a5, a6, a7⟩ e
    simp [orN] at e
    obtain ⟨rfl, rfl, rfl, rfl, rfl, rfl, rfl⟩ := e
    rfl
end Go.Proofs.YtedhlmipcfdldaaGreatDoor
