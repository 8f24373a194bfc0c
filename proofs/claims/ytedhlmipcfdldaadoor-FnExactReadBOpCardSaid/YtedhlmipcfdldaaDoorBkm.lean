/- The forms of ops of a bank: their words, and the places of their numbers. Pure mathematics, and the program's form of an op of each kind. -/
import Derived.Test.YtedhlmipcfdldaaDoorKds
namespace Go.Proofs.YtedhlmipcfdldaaDoor
open Go.RowKit
set_option maxRecDepth 8000

/-- The words and the places of the forms. -/
def formT : List (ByteArray × List Nat) := [(⟨#[111, 114, 100, 101, 114]⟩, [6, 7, 8, 9, 10, 11, 12]), (⟨#[99, 97, 110, 99, 101, 108]⟩, [13]), (⟨#[100, 97, 121]⟩, []), (⟨#[111, 112, 101, 110]⟩, [2, 3, 4, 5]), (⟨#[102, 114, 101, 101, 122, 101]⟩, [2]), (⟨#[116, 104, 97, 119]⟩, [2]), (⟨#[99, 108, 111, 115, 101]⟩, [2]), (⟨#[112, 117, 116]⟩, [2, 4]), (⟨#[116, 97, 107, 101]⟩, [2, 4]), (⟨#[112, 97, 121]⟩, [2, 3, 4]), (⟨#[108, 105, 109, 105, 116]⟩, [2, 4]), (⟨#[104, 97, 110, 103]⟩, [2, 3]), (⟨#[116, 97, 114, 103, 101, 116]⟩, [2, 4])]
def nameK (i : Nat) : ByteArray := (formT.getD i (⟨#[]⟩, [])).1
def offK (i : Nat) : List Nat := (formT.getD i (⟨#[]⟩, [])).2
theorem case13 {i : Nat} (h : i < 13) : i = 0 ∨ i = 1 ∨ i = 2 ∨ i = 3 ∨ i = 4 ∨ i = 5 ∨ i = 6 ∨ i = 7 ∨ i = 8 ∨ i = 9 ∨ i = 10 ∨ i = 11 ∨ i = 12 := by omega
theorem name_inj : ∀ i, i < 13 → ∀ j, j < 13 → nameK i = nameK j → i = j := by decide
theorem off_lt : ∀ i, i < 13 → (∀ q ∈ offK i, q < 14) ∧ (offK i).length ≤ 7 := by decide
/-- The kind of a form, and that of its op. -/
def kindK (i : Nat) : Int := if i < 3 then 20 + (i : Int) else 19
def kindX (i : Nat) : Int := if i < 3 then 0 else (i : Int) - 2
theorem kindV_eq (i : Nat) : kindV i = bl (kindK i) ⟨kindX i, 0, 0, 0, 0⟩ ⟨0, 0, 0, 0, 0, 0, 0⟩ 0 := by
  unfold kindV kindK kindX
  split <;> rfl
theorem setAll_bl : ∀ (ps : List Nat) (ns : List Int) (K : Int) (x : OpF) (o : Ord) (n : Int), (∀ q ∈ ps, 2 ≤ q ∧ q < 14) → ∃ x' o' n', setAll (bl K x o n) ps ns = bl K x' o' n' ∧ x'.k = x.k
  | [], _, K, x, o, n, _ => ⟨x, o, n, rfl, rfl⟩
  | _ :: _, [], K, x, o, n, _ => ⟨x, o, n, rfl, rfl⟩
  | q :: ps, m :: ns, K, x, o, n, h => by
    have hq := h q (by simp)
    have hc : q = 2 ∨ q = 3 ∨ q = 4 ∨ q = 5 ∨ q = 6 ∨ q = 7 ∨ q = 8 ∨ q = 9 ∨ q = 10 ∨ q = 11 ∨ q = 12 ∨ q = 13 := by omega
    have key : ∃ x1 o1 n1, (bl K x o n).set q (.int .i64 m) = bl K x1 o1 n1 ∧ x1.k = x.k := by
      rcases hc with rfl | rfl | rfl | rfl | rfl | rfl | rfl | rfl | rfl | rfl | rfl | rfl
      · exact ⟨{ x with i := m }, o, n, rfl, rfl⟩
      · exact ⟨{ x with t := m }, o, n, rfl, rfl⟩
      · exact ⟨{ x with m := m }, o, n, rfl, rfl⟩
      · exact ⟨{ x with r := m }, o, n, rfl, rfl⟩
      · exact ⟨x, { o with id := m }, n, rfl, rfl⟩
      · exact ⟨x, { o with src := m }, n, rfl, rfl⟩
      · exact ⟨x, { o with dst := m }, n, rfl, rfl⟩
      · exact ⟨x, { o with amount := m }, n, rfl, rfl⟩
      · exact ⟨x, { o with first := m }, n, rfl, rfl⟩
      · exact ⟨x, { o with every := m }, n, rfl, rfl⟩
      · exact ⟨x, { o with times := m }, n, rfl, rfl⟩
      · exact ⟨x, o, m, rfl, rfl⟩
    obtain ⟨x1, o1, n1, e, hk⟩ := key
    obtain ⟨x2, o2, n2, e2, hk2⟩ := setAll_bl ps ns K x1 o1 n1 (fun q hq => h q (by simp [hq]))
    exact ⟨x2, o2, n2, by rw [setAll, e, e2], hk2.trans hk⟩
theorem bl_inj {K n K' n' : Int} {x x' : OpF} {o o' : Ord} (h : bl K x o n = bl K' x' o' n') : K = K' ∧ x = x' ∧ o = o' ∧ n = n' := by
  obtain ⟨a, b, c, d, e⟩ := x
  obtain ⟨a', b', c', d', e'⟩ := x'
  obtain ⟨f, g, i, j, k, l, m⟩ := o
  obtain ⟨f', g', i', j', k', l', m'⟩ := o'
  simp at h
  simp [h]
/-- A right op is what its numbers make of its form. -/
theorem right_fill {K n : Int} {x : OpF} {o : Ord} (h : bopOk K x o n) : ∃ i, i < 13 ∧ (bopW K x o n).1 = nameK i ∧ (bopW K x o n).2.length = (offK i).length ∧ setAll (kindV i) (offK i) (bopW K x o n).2 = bl K x o n := by
  rcases h with ⟨rfl, h1, h2, h3⟩ | ⟨rfl, h1, h2, h3⟩ | ⟨rfl, h1, h2, h3⟩ | ⟨rfl, h1, h2, h3⟩
  · obtain ⟨k, i, t, m, r⟩ := x
    obtain ⟨a1, a2, a3, a4, a5, a6, a7⟩ := o
    unfold zeroO at h2
    simp only at h2
    obtain ⟨rfl, rfl, rfl, rfl, rfl, rfl, rfl⟩ := h2
    subst h3
    have h5 := h1.2
    simp only at h5
    have h4 : k = 1 ∨ k = 2 ∨ k = 3 ∨ k = 4 ∨ k = 5 ∨ k = 6 ∨ k = 7 ∨ k = 8 ∨ k = 9 ∨ k = 10 := by omega
    rcases h4 with rfl | rfl | rfl | rfl | rfl | rfl | rfl | rfl | rfl | rfl
    · exact ⟨3, by omega, rfl, rfl, rfl⟩
    · obtain ⟨rfl, rfl, rfl⟩ : t = 0 ∧ m = 0 ∧ r = 0 := by omega
      exact ⟨4, by omega, rfl, rfl, rfl⟩
    · obtain ⟨rfl, rfl, rfl⟩ : t = 0 ∧ m = 0 ∧ r = 0 := by omega
      exact ⟨5, by omega, rfl, rfl, rfl⟩
    · obtain ⟨rfl, rfl, rfl⟩ : t = 0 ∧ m = 0 ∧ r = 0 := by omega
      exact ⟨6, by omega, rfl, rfl, rfl⟩
    · obtain ⟨rfl, rfl⟩ : t = 0 ∧ r = 0 := by omega
      exact ⟨7, by omega, rfl, rfl, rfl⟩
    · obtain ⟨rfl, rfl⟩ : t = 0 ∧ r = 0 := by omega
      exact ⟨8, by omega, rfl, rfl, rfl⟩
    · obtain rfl : r = 0 := by omega
      exact ⟨9, by omega, rfl, rfl, rfl⟩
    · obtain ⟨rfl, rfl⟩ : t = 0 ∧ r = 0 := by omega
      exact ⟨10, by omega, rfl, rfl, rfl⟩
    · obtain ⟨rfl, rfl⟩ : m = 0 ∧ r = 0 := by omega
      exact ⟨11, by omega, rfl, rfl, rfl⟩
    · obtain ⟨rfl, rfl⟩ : t = 0 ∧ r = 0 := by omega
      exact ⟨12, by omega, rfl, rfl, rfl⟩
  · obtain ⟨k, i, t, m, r⟩ := x
    unfold zeroX at h1
    simp only at h1
    obtain ⟨rfl, rfl, rfl, rfl, rfl⟩ := h1
    subst h3
    exact ⟨0, by omega, rfl, rfl, rfl⟩
  · obtain ⟨k, i, t, m, r⟩ := x
    obtain ⟨a1, a2, a3, a4, a5, a6, a7⟩ := o
    unfold zeroX at h1
    unfold zeroO at h2
    simp only at h1 h2
    obtain ⟨rfl, rfl, rfl, rfl, rfl⟩ := h1
    obtain ⟨rfl, rfl, rfl, rfl, rfl, rfl, rfl⟩ := h2
    exact ⟨1, by omega, rfl, rfl, rfl⟩
  · obtain ⟨k, i, t, m, r⟩ := x
    obtain ⟨a1, a2, a3, a4, a5, a6, a7⟩ := o
    unfold zeroX at h1
    unfold zeroO at h2
    simp only at h1 h2
    obtain ⟨rfl, rfl, rfl, rfl, rfl⟩ := h1
    obtain ⟨rfl, rfl, rfl, rfl, rfl, rfl, rfl⟩ := h2
    subst h3
    exact ⟨2, by omega, rfl, rfl, rfl⟩
theorem Vals.bx {w : World} {R : Nat} {K n : Int} {x : OpF} {o : Ord} (h : Vals w R (bl K x o n)) : Bx14 w R K x o n := ⟨⟨h.1 0 _ rfl, h.1 1 _ rfl, h.1 2 _ rfl, h.1 3 _ rfl, h.1 4 _ rfl, h.1 5 _ rfl, h.1 6 _ rfl, h.1 7 _ rfl, h.1 8 _ rfl, h.1 9 _ rfl, h.1 10 _ rfl, h.1 11 _ rfl, h.1 12 _ rfl, h.1 13 _ rfl⟩, h.2.2⟩
/-- The program's form of an op of each kind. -/
theorem formL (i : Nat) (hi : i < 13) (R : Nat) (w : World) (h : Vals w R (kindV i)) : Calls Tryd.prog 25 #[.pointer (some ⟨R, 0, none⟩)] w fun e w' => FormOut w R (nameK i) (offK i) e w' := by
  rcases case13 hi with rfl | rfl | rfl | rfl | rfl | rfl | rfl | rfl | rfl | rfl | rfl | rfl | rfl
  · exact form_20 R 0 _ _ w (Vals.bx (x := ⟨0, 0, 0, 0, 0⟩) (o := ⟨0, 0, 0, 0, 0, 0, 0⟩) h)
  · exact form_21 R 0 _ _ w (Vals.bx (x := ⟨0, 0, 0, 0, 0⟩) (o := ⟨0, 0, 0, 0, 0, 0, 0⟩) h)
  · exact form_22 R 0 _ _ w (Vals.bx (x := ⟨0, 0, 0, 0, 0⟩) (o := ⟨0, 0, 0, 0, 0, 0, 0⟩) h)
  · exact form_19 R 0 ⟨1, 0, 0, 0, 0⟩ ⟨0, 0, 0, 0, 0, 0, 0⟩ w (Vals.bx h) _ _ (fun w hb => opForm_1 R 19 0 _ _ w hb rfl)
  · exact form_19 R 0 ⟨2, 0, 0, 0, 0⟩ ⟨0, 0, 0, 0, 0, 0, 0⟩ w (Vals.bx h) _ _ (fun w hb => opForm_2 R 19 0 _ _ w hb rfl)
  · exact form_19 R 0 ⟨3, 0, 0, 0, 0⟩ ⟨0, 0, 0, 0, 0, 0, 0⟩ w (Vals.bx h) _ _ (fun w hb => opForm_3 R 19 0 _ _ w hb rfl)
  · exact form_19 R 0 ⟨4, 0, 0, 0, 0⟩ ⟨0, 0, 0, 0, 0, 0, 0⟩ w (Vals.bx h) _ _ (fun w hb => opForm_4 R 19 0 _ _ w hb rfl)
  · exact form_19 R 0 ⟨5, 0, 0, 0, 0⟩ ⟨0, 0, 0, 0, 0, 0, 0⟩ w (Vals.bx h) _ _ (fun w hb => opForm_5 R 19 0 _ _ w hb rfl)
  · exact form_19 R 0 ⟨6, 0, 0, 0, 0⟩ ⟨0, 0, 0, 0, 0, 0, 0⟩ w (Vals.bx h) _ _ (fun w hb => opForm_6 R 19 0 _ _ w hb rfl)
  · exact form_19 R 0 ⟨7, 0, 0, 0, 0⟩ ⟨0, 0, 0, 0, 0, 0, 0⟩ w (Vals.bx h) _ _ (fun w hb => opForm_7 R 19 0 _ _ w hb rfl)
  · exact form_19 R 0 ⟨8, 0, 0, 0, 0⟩ ⟨0, 0, 0, 0, 0, 0, 0⟩ w (Vals.bx h) _ _ (fun w hb => opForm_8 R 19 0 _ _ w hb rfl)
  · exact form_19 R 0 ⟨9, 0, 0, 0, 0⟩ ⟨0, 0, 0, 0, 0, 0, 0⟩ w (Vals.bx h) _ _ (fun w hb => opForm_9 R 19 0 _ _ w hb rfl)
  · exact form_19 R 0 ⟨10, 0, 0, 0, 0⟩ ⟨0, 0, 0, 0, 0, 0, 0⟩ w (Vals.bx h) _ _ (fun w hb => opForm_10 R 19 0 _ _ w hb rfl)
theorem lis1 {ns : List Int} (h : ns.length = 1) : ∃ a, ns = [a] := by
  match ns, h with
  | [a], _ => exact ⟨a, rfl⟩
theorem lis2 {ns : List Int} (h : ns.length = 2) : ∃ a b, ns = [a, b] := by
  match ns, h with
  | [a, b], _ => exact ⟨a, b, rfl⟩
theorem lis3 {ns : List Int} (h : ns.length = 3) : ∃ a b c, ns = [a, b, c] := by
  match ns, h with
  | [a, b, c], _ => exact ⟨a, b, c, rfl⟩
theorem lis4 {ns : List Int} (h : ns.length = 4) : ∃ a b c d, ns = [a, b, c, d] := by
  match ns, h with
  | [a, b, c, d], _ => exact ⟨a, b, c, d, rfl⟩
theorem lis7 {ns : List Int} (h : ns.length = 7) : ∃ a b c d e f g, ns = [a, b, c, d, e, f, g] := by
  match ns, h with
  | [a, b, c, d, e, f, g], _ => exact ⟨a, b, c, d, e, f, g, rfl⟩
theorem fill (i : Nat) (hi : i < 13) (ns : List Int) (hl : ns.length = (offK i).length) : ∃ x o n, setAll (kindV i) (offK i) ns = bl (kindK i) x o n ∧ bopW (kindK i) x o n = (nameK i, ns) := by
  rcases case13 hi with rfl | rfl | rfl | rfl | rfl | rfl | rfl | rfl | rfl | rfl | rfl | rfl | rfl
  · obtain ⟨a, b, c, d, e, f, g, rfl⟩ : ∃ a b c d e f g, ns = [a, b, c, d, e, f, g] := lis7 hl
    exact ⟨⟨0, 0, 0, 0, 0⟩, ⟨a, b, c, d, e, f, g⟩, 0, rfl, rfl⟩
  · obtain ⟨a, rfl⟩ : ∃ a, ns = [a] := lis1 hl
    exact ⟨⟨0, 0, 0, 0, 0⟩, ⟨0, 0, 0, 0, 0, 0, 0⟩, a, rfl, rfl⟩
  · obtain rfl : ns = [] := List.length_eq_zero_iff.1 hl
    exact ⟨⟨0, 0, 0, 0, 0⟩, ⟨0, 0, 0, 0, 0, 0, 0⟩, 0, rfl, rfl⟩
  · obtain ⟨a, b, c, d, rfl⟩ : ∃ a b c d, ns = [a, b, c, d] := lis4 hl
    exact ⟨⟨1, a, b, c, d⟩, ⟨0, 0, 0, 0, 0, 0, 0⟩, 0, rfl, rfl⟩
  · obtain ⟨a, rfl⟩ : ∃ a, ns = [a] := lis1 hl
    exact ⟨⟨2, a, 0, 0, 0⟩, ⟨0, 0, 0, 0, 0, 0, 0⟩, 0, rfl, rfl⟩
  · obtain ⟨a, rfl⟩ : ∃ a, ns = [a] := lis1 hl
    exact ⟨⟨3, a, 0, 0, 0⟩, ⟨0, 0, 0, 0, 0, 0, 0⟩, 0, rfl, rfl⟩
  · obtain ⟨a, rfl⟩ : ∃ a, ns = [a] := lis1 hl
    exact ⟨⟨4, a, 0, 0, 0⟩, ⟨0, 0, 0, 0, 0, 0, 0⟩, 0, rfl, rfl⟩
  · obtain ⟨a, b, rfl⟩ : ∃ a b, ns = [a, b] := lis2 hl
    exact ⟨⟨5, a, 0, b, 0⟩, ⟨0, 0, 0, 0, 0, 0, 0⟩, 0, rfl, rfl⟩
  · obtain ⟨a, b, rfl⟩ : ∃ a b, ns = [a, b] := lis2 hl
    exact ⟨⟨6, a, 0, b, 0⟩, ⟨0, 0, 0, 0, 0, 0, 0⟩, 0, rfl, rfl⟩
  · obtain ⟨a, b, c, rfl⟩ : ∃ a b c, ns = [a, b, c] := lis3 hl
    exact ⟨⟨7, a, b, c, 0⟩, ⟨0, 0, 0, 0, 0, 0, 0⟩, 0, rfl, rfl⟩
  · obtain ⟨a, b, rfl⟩ : ∃ a b, ns = [a, b] := lis2 hl
    exact ⟨⟨8, a, 0, b, 0⟩, ⟨0, 0, 0, 0, 0, 0, 0⟩, 0, rfl, rfl⟩
  · obtain ⟨a, b, rfl⟩ : ∃ a b, ns = [a, b] := lis2 hl
    exact ⟨⟨9, a, b, 0, 0⟩, ⟨0, 0, 0, 0, 0, 0, 0⟩, 0, rfl, rfl⟩
  · obtain ⟨a, b, rfl⟩ : ∃ a b, ns = [a, b] := lis2 hl
    exact ⟨⟨10, a, 0, b, 0⟩, ⟨0, 0, 0, 0, 0, 0, 0⟩, 0, rfl, rfl⟩
end Go.Proofs.YtedhlmipcfdldaaDoor
