/- How disks that are handed in are opened. No conditions. -/
import Derived.Test.YtcalgmhpagpnnaaSz
import Derived.ProofKit
import Derived.OpenShut
import Derived.Deep.Slices
namespace Go.Proofs.Ytcalgmhpagpnnaa
open Go.ChangeShapes Go.WideShapes Go.ChangeAt Go.RowKit
set_option maxRecDepth 8000

theorem cellsI2 : Try.prog.cellsOf 2 = 1 := by kernel_rfl
theorem cellsS9 : Try.prog.cellsOf 9 = 1 := by kernel_rfl
theorem cells47 : Try.prog.cellsOf 47 = 1 := by kernel_rfl
theorem cells48 : Try.prog.cellsOf 48 = 1 := by kernel_rfl
theorem cells50 : Try.prog.cellsOf 50 = 3 := by kernel_rfl
theorem list2Fl {l : List Value} (h : l.length = 2) : ∃ c0 c1, l = [c0, c1] := by
  match l, h with
  | [c0, c1], _ => exact ⟨c0, c1, rfl⟩
theorem cellsFl : Try.prog.cellsOf 125 = 2 := by kernel_rfl
theorem Fl_of_trod {H : Type} {enc : TypeId × Value → H} {W : World} {base : Nat} {spare : Nat → Bool} {held : Bool} {fuel : Nat} {cs : List Value} {x : DataW H × List MemPlace}
    (h : DataW.trod enc Try.prog W base spare held fuel 125 cs = some x) : ∃ A : Fl, cs = [.string A.name, .string A.data] ∧ SmallFl A := by
  obtain ⟨xs, n, _, _, hl, hlen, hf⟩ := DataW.trod_struct Try.underlying125 h
  rw [cellsFl] at hl
  obtain ⟨c0, c1, rfl⟩ := list2Fl hl
  have hx : xs.length = 2 := by simpa using hlen
  have g0 : DataW.trod enc Try.prog W base spare held n 9 [c0] = xs[0]? := by have := hf 0 _ rfl; simpa [cellsI2, cellsS9] using this
  have g1 : DataW.trod enc Try.prog W base spare held n 9 [c1] = xs[1]? := by have := hf 1 _ rfl; simpa [cellsI2, cellsS9] using this
  rw [List.getElem?_eq_getElem (by omega)] at g0 g1
  obtain ⟨x0, e0, _, z0⟩ := DataW.trod_string Try.underlying9 g0
  obtain ⟨x1, e1, _, z1⟩ := DataW.trod_string Try.underlying9 g1
  simp at e0 e1
  unfold maxLen at z0 z1
  exact ⟨⟨x0, x1⟩, by rw [e0, e1], by omega, by omega⟩

theorem Fls_of_cells {H : Type} {enc : TypeId × Value → H} {W : World} {fuel : Nat} {cs : List Value} {x : DataW H × List MemPlace}
    (hf : DataW.trod enc Try.prog W 0 (fun _ => true) true fuel 47 cs = some x) : ∃ (a : Option Addr) (len cap : Nat), cs = [.slice a len cap] ∧ len ≤ 9223372036854775807 ∧ ∃ F : Nat → Fl, len ≤ 1048576 → Fls W a len F ∧ ∀ i, i < len → SmallFl (F i) := by
  rcases Go.Deep.open_slice Try.underlying47 hf with ⟨hcs, _⟩ | ⟨x, l, c, m, n, D, Pl, hcs, _, hlc, hm, hmm, _, hel⟩
  · exact ⟨none, 0, 0, hcs, by omega, fun _ => ⟨⟨#[]⟩, ⟨#[]⟩⟩, fun _ => ⟨⟨by omega, Or.inl rfl⟩, fun i hi => absurd hi (Nat.not_lt_zero _)⟩⟩
  · unfold maxLen at hm
    refine ⟨some x, l, c, hcs, by omega, ?_⟩
    have hex : ∀ i, i < l → ∃ A : Fl, (∀ j, j < 2 → W.cell? ((x.add (i * 2)).add j) = [Value.string A.name, .string A.data][j]?) ∧ SmallFl A := by
      intro i hi
      obtain ⟨cs', hc, ht⟩ := hel i (by rw [hmm]; simp; omega)
      obtain ⟨A, rfl, hA⟩ := Fl_of_trod ht
      rw [cellsFl] at hc
      obtain ⟨_, _, hall⟩ := World.cells?_some hc
      exact ⟨A, fun j hj => hall j hj, hA⟩
    haveI : Inhabited Fl := ⟨⟨⟨#[]⟩, ⟨#[]⟩⟩⟩
    obtain ⟨F, hF⟩ := Go.Deep.choose_lt hex
    refine ⟨F, fun hle => ⟨⟨hle, ?_⟩, fun i hi => (hF i hi).2⟩⟩
    by_cases h0 : l = 0
    · exact Or.inl h0
    right
    obtain ⟨b, off, spot⟩ := x
    have c00 := (hF 0 (by omega)).1 0 (by omega)
    have hspot : spot = none := by simpa [Addr.add] using World.cell?_spot c00
    subst hspot
    have hadd : ∀ q, (⟨b, off, none⟩ : Addr).add q = ⟨b, off + q, none⟩ := fun q => by
      by_cases e : q = 0
      · subst e; simp [Addr.add]
      · simp [Addr.add, e]
    have hadd2 : ∀ q r, ((⟨b, off, none⟩ : Addr).add q).add r = ⟨b, off + q + r, none⟩ := fun q r => by
      rw [Go.Deep.add_add, hadd, Nat.add_assoc]
    refine ⟨b, off, rfl, World.block_lt_of_cell? W _ c00, fun i hi => ?_⟩
    have g := (hF i hi).1
    simp only [hadd2] at g
    exact ⟨g 0 (by omega), g 1 (by omega)⟩
theorem list4Dp {l : List Value} (h : l.length = 4) : ∃ c0 c1 c2 c3, l = [c0, c1, c2, c3] := by
  match l, h with
  | [c0, c1, c2, c3], _ => exact ⟨c0, c1, c2, c3, rfl⟩
theorem cellsDp : Try.prog.cellsOf 55 = 4 := by kernel_rfl
theorem Dp_of_trod {H : Type} {enc : TypeId × Value → H} {W : World} {base : Nat} {spare : Nat → Bool} {held : Bool} {fuel : Nat} {cs : List Value} {x : DataW H × List MemPlace}
    (h : DataW.trod enc Try.prog W base spare held fuel 55 cs = some x) : ∃ A : Dp, cs = [.int .i64 A.kind, .string A.name, .string A.dst, .string A.data] ∧ SmallDp A := by
  obtain ⟨xs, n, _, _, hl, hlen, hf⟩ := DataW.trod_struct Try.underlying55 h
  rw [cellsDp] at hl
  obtain ⟨c0, c1, c2, c3, rfl⟩ := list4Dp hl
  have hx : xs.length = 4 := by simpa using hlen
  have g0 : DataW.trod enc Try.prog W base spare held n 2 [c0] = xs[0]? := by have := hf 0 _ rfl; simpa [cellsI2, cellsS9] using this
  have g1 : DataW.trod enc Try.prog W base spare held n 9 [c1] = xs[1]? := by have := hf 1 _ rfl; simpa [cellsI2, cellsS9] using this
  have g2 : DataW.trod enc Try.prog W base spare held n 9 [c2] = xs[2]? := by have := hf 2 _ rfl; simpa [cellsI2, cellsS9] using this
  have g3 : DataW.trod enc Try.prog W base spare held n 9 [c3] = xs[3]? := by have := hf 3 _ rfl; simpa [cellsI2, cellsS9] using this
  rw [List.getElem?_eq_getElem (by omega)] at g0 g1 g2 g3
  obtain ⟨x0, e0, _, _⟩ := DataW.trod_int Try.underlying2 g0
  obtain ⟨x1, e1, _, z1⟩ := DataW.trod_string Try.underlying9 g1
  obtain ⟨x2, e2, _, z2⟩ := DataW.trod_string Try.underlying9 g2
  obtain ⟨x3, e3, _, z3⟩ := DataW.trod_string Try.underlying9 g3
  simp at e0 e1 e2 e3
  unfold maxLen at z1 z2 z3
  exact ⟨⟨x0, x1, x2, x3⟩, by rw [e0, e1, e2, e3], by omega, by omega, by omega⟩

theorem Dps_of_cells {H : Type} {enc : TypeId × Value → H} {W : World} {fuel : Nat} {cs : List Value} {x : DataW H × List MemPlace}
    (hf : DataW.trod enc Try.prog W 0 (fun _ => true) true fuel 48 cs = some x) : ∃ (a : Option Addr) (len cap : Nat), cs = [.slice a len cap] ∧ len ≤ 9223372036854775807 ∧ ∃ F : Nat → Dp, len ≤ 1048576 → Dps W a len F ∧ ∀ i, i < len → SmallDp (F i) := by
  rcases Go.Deep.open_slice Try.underlying48 hf with ⟨hcs, _⟩ | ⟨x, l, c, m, n, D, Pl, hcs, _, hlc, hm, hmm, _, hel⟩
  · exact ⟨none, 0, 0, hcs, by omega, fun _ => ⟨0, ⟨#[]⟩, ⟨#[]⟩, ⟨#[]⟩⟩, fun _ => ⟨⟨by omega, Or.inl rfl⟩, fun i hi => absurd hi (Nat.not_lt_zero _)⟩⟩
  · unfold maxLen at hm
    refine ⟨some x, l, c, hcs, by omega, ?_⟩
    have hex : ∀ i, i < l → ∃ A : Dp, (∀ j, j < 4 → W.cell? ((x.add (i * 4)).add j) = [Value.int .i64 A.kind, .string A.name, .string A.dst, .string A.data][j]?) ∧ SmallDp A := by
      intro i hi
      obtain ⟨cs', hc, ht⟩ := hel i (by rw [hmm]; simp; omega)
      obtain ⟨A, rfl, hA⟩ := Dp_of_trod ht
      rw [cellsDp] at hc
      obtain ⟨_, _, hall⟩ := World.cells?_some hc
      exact ⟨A, fun j hj => hall j hj, hA⟩
    haveI : Inhabited Dp := ⟨⟨0, ⟨#[]⟩, ⟨#[]⟩, ⟨#[]⟩⟩⟩
    obtain ⟨F, hF⟩ := Go.Deep.choose_lt hex
    refine ⟨F, fun hle => ⟨⟨hle, ?_⟩, fun i hi => (hF i hi).2⟩⟩
    by_cases h0 : l = 0
    · exact Or.inl h0
    right
    obtain ⟨b, off, spot⟩ := x
    have c00 := (hF 0 (by omega)).1 0 (by omega)
    have hspot : spot = none := by simpa [Addr.add] using World.cell?_spot c00
    subst hspot
    have hadd : ∀ q, (⟨b, off, none⟩ : Addr).add q = ⟨b, off + q, none⟩ := fun q => by
      by_cases e : q = 0
      · subst e; simp [Addr.add]
      · simp [Addr.add, e]
    have hadd2 : ∀ q r, ((⟨b, off, none⟩ : Addr).add q).add r = ⟨b, off + q + r, none⟩ := fun q r => by
      rw [Go.Deep.add_add, hadd, Nat.add_assoc]
    refine ⟨b, off, rfl, World.block_lt_of_cell? W _ c00, fun i hi => ?_⟩
    have g := (hF i hi).1
    simp only [hadd2] at g
    exact ⟨g 0 (by omega), g 1 (by omega), g 2 (by omega), g 3 (by omega)⟩

theorem list3 {l : List Value} (h : l.length = 3) : ∃ a b c, l = [a, b, c] := by
  match l, h with
  | [a, b, c], _ => exact ⟨a, b, c, rfl⟩
theorem disk_of_trod {H : Type} {enc : TypeId × Value → H} {W : World} {fuel : Nat} {cs : List Value} {x : DataW H × List MemPlace}
    (h : DataW.trod enc Try.prog W 0 (fun _ => true) true fuel 50 cs = some x) : ∃ (a : Option Addr) (n c : Nat) (b : Option Addr) (m c' : Nat) (d : Option Addr) (q c'' : Nat) (F G : Nat → Fl) (O : Nat → Dp), cs = [.slice a n c, .slice b m c', .slice d q c''] ∧ DkIn W a n F b m G d q O := by
  obtain ⟨xs, n, _, _, hl, hlen, hf⟩ := DataW.trod_struct Try.underlying50 h
  rw [cells50] at hl
  obtain ⟨c0, c1, c2, rfl⟩ := list3 hl
  have hx : xs.length = 3 := by simpa using hlen
  have g0 : DataW.trod enc Try.prog W 0 (fun _ => true) true n 47 [c0] = xs[0]? := by have := hf 0 _ rfl; simpa [cells47, cells48] using this
  have g1 : DataW.trod enc Try.prog W 0 (fun _ => true) true n 47 [c1] = xs[1]? := by have := hf 1 _ rfl; simpa [cells47, cells48] using this
  have g2 : DataW.trod enc Try.prog W 0 (fun _ => true) true n 48 [c2] = xs[2]? := by have := hf 2 _ rfl; simpa [cells47, cells48] using this
  rw [List.getElem?_eq_getElem (by omega)] at g0 g1 g2
  obtain ⟨a, ln, cp, ea, hn, F, hF⟩ := Fls_of_cells g0
  obtain ⟨b, lm, cp', eb, hm, G, hG⟩ := Fls_of_cells g1
  obtain ⟨d, lq, cp'', ed, hq, O, hO⟩ := Dps_of_cells g2
  simp at ea eb ed
  exact ⟨a, ln, cp, b, lm, cp', d, lq, cp'', F, G, O, by rw [ea, eb, ed], ⟨hn, hm, hq, hF, hG, hO⟩⟩
end Go.Proofs.Ytcalgmhpagpnnaa

/- How whole numbers that are handed in are opened. No conditions. -/
namespace Go.Proofs.Ytcalgmhpagpnnaa
open Go.ChangeShapes Go.WideShapes Go.ChangeAt Go.RowKit
set_option maxRecDepth 8000

theorem Ints_of_cells {H : Type} {enc : TypeId × Value → H} {W : World} {fuel : Nat} {cs : List Value} {x : DataW H × List MemPlace}
    (hf : DataW.trod enc Try.prog W 0 (fun _ => true) true fuel 30 cs = some x) : ∃ (a : Option Addr) (len cap : Nat), cs = [.slice a len cap] ∧ ∃ K : Nat → Int, len = 0 ∨ ∃ b o, a = some ⟨b, o, none⟩ ∧ b < W.heap.size ∧ ∀ i, i < len → W.cell? ⟨b, o + i, none⟩ = some (.int .i64 (K i)) := by
  rcases Go.Deep.open_slice Try.underlying30 hf with ⟨hcs, _⟩ | ⟨x, l, c, m, n, D, Pl, hcs, _, hlc, hm, hmm, _, hel⟩
  · exact ⟨none, 0, 0, hcs, fun _ => 0, Or.inl rfl⟩
  · refine ⟨some x, l, c, hcs, ?_⟩
    have hex : ∀ i, i < l → ∃ A : Int, W.cell? (x.add i) = some (.int .i64 A) := by
      intro i hi
      obtain ⟨cs', hc, ht⟩ := hel i (by rw [hmm]; simp; omega)
      obtain ⟨A, e0, _, _⟩ := DataW.trod_int Try.underlying2 ht
      rw [cellsI2] at hc
      obtain ⟨_, _, hall⟩ := World.cells?_some hc
      have := hall 0 (by omega)
      rw [e0] at this
      exact ⟨A, by simpa [Go.Deep.add_add] using this⟩
    obtain ⟨K, hK⟩ := Go.Deep.choose_lt hex
    refine ⟨K, ?_⟩
    by_cases h0 : l = 0
    · exact Or.inl h0
    right
    obtain ⟨b, off, spot⟩ := x
    have c00 := hK 0 (by omega)
    have hspot : spot = none := by simpa [Addr.add] using World.cell?_spot c00
    subst hspot
    have hadd : ∀ q, (⟨b, off, none⟩ : Addr).add q = ⟨b, off + q, none⟩ := fun q => by
      by_cases e : q = 0
      · subst e; simp [Addr.add]
      · simp [Addr.add, e]
    refine ⟨b, off, rfl, World.block_lt_of_cell? W _ c00, fun i hi => ?_⟩
    have g := hK i hi
    rw [hadd] at g
    exact g
end Go.Proofs.Ytcalgmhpagpnnaa
