/- How accounts and orders that are handed in, in whatever place, are opened. No conditions. -/
import Derived.Test.YtodbcdclglaniaaDoorFAt
import Derived.Test.YtodbcdclglaniaaDoorFOrds
import Derived.ProofKit
import Derived.OpenShut
import Derived.Deep.Slices
namespace Go.Proofs.YtodbcdclglaniaaDoor
open Go.ChangeShapes Go.WideShapes Go.ChangeAt Go.RowKit
set_option maxRecDepth 8000

theorem list8 {l : List Value} (h : l.length = 8) : ∃ a b c d e f g i, l = [a, b, c, d, e, f, g, i] := by
  match l, h with
  | [a, b, c, d, e, f, g, i], _ => exact ⟨a, b, c, d, e, f, g, i, rfl⟩
theorem cells47 : Tryd.prog.cellsOf 83 = 8 := by kernel_rfl
theorem cells2 : Tryd.prog.cellsOf 2 = 1 := by kernel_rfl
theorem cells4 : Tryd.prog.cellsOf 4 = 1 := by kernel_rfl

theorem acc_of_trod {H : Type} {enc : TypeId × Value → H} {W : World} {base : Nat} {spare : Nat → Bool} {held : Bool} {fuel : Nat} {cs : List Value} {x : DataW H × List MemPlace}
    (h : DataW.trod enc Tryd.prog W base spare held fuel 83 cs = some x) : ∃ A : Acc, cs = [.int .i64 A.id, .int .i64 A.up, .int .i64 A.limit, .int .i64 A.rate, .int .i64 A.target, .bool A.frozen, .int .i64 A.balance, .int .i64 A.carry] := by
  obtain ⟨xs, n, _, _, hl, hlen, hf⟩ := DataW.trod_struct Tryd.underlying83 h
  rw [cells47] at hl
  obtain ⟨c0, c1, c2, c3, c4, c5, c6, c7, rfl⟩ := list8 hl
  have hx : xs.length = 8 := by simpa using hlen
  have g0 : DataW.trod enc Tryd.prog W base spare held n 2 [c0] = xs[0]? := by have := hf 0 _ rfl; simpa [cells2] using this
  have g1 : DataW.trod enc Tryd.prog W base spare held n 2 [c1] = xs[1]? := by have := hf 1 _ rfl; simpa [cells2] using this
  have g2 : DataW.trod enc Tryd.prog W base spare held n 2 [c2] = xs[2]? := by have := hf 2 _ rfl; simpa [cells2] using this
  have g3 : DataW.trod enc Tryd.prog W base spare held n 2 [c3] = xs[3]? := by have := hf 3 _ rfl; simpa [cells2] using this
  have g4 : DataW.trod enc Tryd.prog W base spare held n 2 [c4] = xs[4]? := by have := hf 4 _ rfl; simpa [cells2] using this
  have g5 : DataW.trod enc Tryd.prog W base spare held n 4 [c5] = xs[5]? := by have := hf 5 _ rfl; simpa [cells4] using this
  have g6 : DataW.trod enc Tryd.prog W base spare held n 2 [c6] = xs[6]? := by have := hf 6 _ rfl; simpa [cells2] using this
  have g7 : DataW.trod enc Tryd.prog W base spare held n 2 [c7] = xs[7]? := by have := hf 7 _ rfl; simpa [cells2] using this
  rw [List.getElem?_eq_getElem (by omega)] at g0 g1 g2 g3 g4 g5 g6 g7
  obtain ⟨x0, e0, _, _⟩ := DataW.trod_int Tryd.underlying2 g0
  obtain ⟨x1, e1, _, _⟩ := DataW.trod_int Tryd.underlying2 g1
  obtain ⟨x2, e2, _, _⟩ := DataW.trod_int Tryd.underlying2 g2
  obtain ⟨x3, e3, _, _⟩ := DataW.trod_int Tryd.underlying2 g3
  obtain ⟨x4, e4, _, _⟩ := DataW.trod_int Tryd.underlying2 g4
  obtain ⟨x5, e5, _⟩ := DataW.trod_bool Tryd.underlying4 g5
  obtain ⟨x6, e6, _, _⟩ := DataW.trod_int Tryd.underlying2 g6
  obtain ⟨x7, e7, _, _⟩ := DataW.trod_int Tryd.underlying2 g7
  simp at e0 e1 e2 e3 e4 e5 e6 e7
  exact ⟨⟨x0, x1, x2, x3, x4, x5, x6, x7⟩, by rw [e0, e1, e2, e3, e4, e5, e6, e7]⟩


theorem Fo_of_cells {H : Type} {enc : TypeId × Value → H} {W : World} {fuel : Nat} {cs : List Value} {x : DataW H × List MemPlace}
    (hf : DataW.trod enc Tryd.prog W 0 (fun _ => true) true fuel 22 cs = some x) : ∃ (a : Option Addr) (len cap : Nat), cs = [.slice a len cap] ∧ len ≤ 9223372036854775807 ∧ ∃ F : Nat → Acc, len ≤ 1048576 → Fo W a len F := by
  rcases Go.Deep.open_slice Tryd.underlying22 hf with ⟨hcs, _⟩ | ⟨x, l, c, m, n, D, Pl, hcs, _, hlc, hm, hmm, _, hel⟩
  · exact ⟨none, 0, 0, hcs, by omega, fun _ => ⟨0, 0, 0, 0, 0, false, 0, 0⟩, fun _ => ⟨by omega, Or.inl rfl⟩⟩
  · unfold maxLen at hm
    refine ⟨some x, l, c, hcs, by omega, ?_⟩
    have hex : ∀ i, i < l → ∃ A : Acc, ∀ j, j < 8 → W.cell? ((x.add (i * 8)).add j) = [Value.int .i64 A.id, .int .i64 A.up, .int .i64 A.limit, .int .i64 A.rate, .int .i64 A.target, .bool A.frozen, .int .i64 A.balance, .int .i64 A.carry][j]? := by
      intro i hi
      obtain ⟨cs', hc, ht⟩ := hel i (by rw [hmm]; simp; omega)
      obtain ⟨A, rfl⟩ := acc_of_trod ht
      rw [cells47] at hc
      obtain ⟨_, _, hall⟩ := World.cells?_some hc
      exact ⟨A, fun j hj => hall j hj⟩
    haveI : Inhabited Acc := ⟨⟨0, 0, 0, 0, 0, false, 0, 0⟩⟩
    obtain ⟨F, hF⟩ := Go.Deep.choose_lt hex
    refine ⟨F, fun hle => ⟨hle, ?_⟩⟩
    by_cases h0 : l = 0
    · exact Or.inl h0
    right
    obtain ⟨b, off, spot⟩ := x
    have c00 := hF 0 (by omega) 0 (by omega)
    have hspot : spot = none := by simpa [Addr.add] using World.cell?_spot c00
    subst hspot
    have hadd : ∀ q, (⟨b, off, none⟩ : Addr).add q = ⟨b, off + q, none⟩ := fun q => by
      by_cases e : q = 0
      · subst e; simp [Addr.add]
      · simp [Addr.add, e]
    have hadd2 : ∀ q r, ((⟨b, off, none⟩ : Addr).add q).add r = ⟨b, off + q + r, none⟩ := fun q r => by
      rw [Go.Deep.add_add, hadd, Nat.add_assoc]
    refine ⟨b, off, rfl, World.block_lt_of_cell? W _ c00, fun i hi => ?_⟩
    have g := hF i hi
    simp only [hadd2] at g
    exact ⟨g 0 (by omega), g 1 (by omega), g 2 (by omega), g 3 (by omega), g 4 (by omega), g 5 (by omega), g 6 (by omega), g 7 (by omega)⟩

theorem Ords_of_cells {H : Type} {enc : TypeId × Value → H} {W : World} {fuel : Nat} {cs : List Value} {x : DataW H × List MemPlace}
    (hf : DataW.trod enc Tryd.prog W 0 (fun _ => true) true fuel 23 cs = some x) : ∃ (a : Option Addr) (len cap : Nat), cs = [.slice a len cap] ∧ len ≤ 9223372036854775807 ∧ ∃ F : Nat → Ord, len ≤ 1048576 → Ords W a len F := by
  rcases Go.Deep.open_slice Tryd.underlying23 hf with ⟨hcs, _⟩ | ⟨x, l, c, m, n, D, Pl, hcs, _, hlc, hm, hmm, _, hel⟩
  · exact ⟨none, 0, 0, hcs, by omega, fun _ => ⟨0, 0, 0, 0, 0, 0, 0⟩, fun _ => ⟨by omega, Or.inl rfl⟩⟩
  · unfold maxLen at hm
    refine ⟨some x, l, c, hcs, by omega, ?_⟩
    have hex : ∀ i, i < l → ∃ A : Ord, ∀ j, j < 7 → W.cell? ((x.add (i * 7)).add j) = [Value.int .i64 A.id, .int .i64 A.src, .int .i64 A.dst, .int .i64 A.amount, .int .i64 A.first, .int .i64 A.every, .int .i64 A.times][j]? := by
      intro i hi
      obtain ⟨cs', hc, ht⟩ := hel i (by rw [hmm]; simp; omega)
      obtain ⟨A, rfl⟩ := ord_of_trod ht
      rw [cellsOrd] at hc
      obtain ⟨_, _, hall⟩ := World.cells?_some hc
      exact ⟨A, fun j hj => hall j hj⟩
    haveI : Inhabited Ord := ⟨⟨0, 0, 0, 0, 0, 0, 0⟩⟩
    obtain ⟨F, hF⟩ := Go.Deep.choose_lt hex
    refine ⟨F, fun hle => ⟨hle, ?_⟩⟩
    by_cases h0 : l = 0
    · exact Or.inl h0
    right
    obtain ⟨b, off, spot⟩ := x
    have c00 := hF 0 (by omega) 0 (by omega)
    have hspot : spot = none := by simpa [Addr.add] using World.cell?_spot c00
    subst hspot
    have hadd : ∀ q, (⟨b, off, none⟩ : Addr).add q = ⟨b, off + q, none⟩ := fun q => by
      by_cases e : q = 0
      · subst e; simp [Addr.add]
      · simp [Addr.add, e]
    have hadd2 : ∀ q r, ((⟨b, off, none⟩ : Addr).add q).add r = ⟨b, off + q + r, none⟩ := fun q r => by
      rw [Go.Deep.add_add, hadd, Nat.add_assoc]
    refine ⟨b, off, rfl, World.block_lt_of_cell? W _ c00, fun i hi => ?_⟩
    have g := hF i hi
    simp only [hadd2] at g
    exact ⟨g 0 (by omega), g 1 (by omega), g 2 (by omega), g 3 (by omega), g 4 (by omega), g 5 (by omega), g 6 (by omega)⟩

theorem cellsBank : Tryd.prog.cellsOf 25 = 7 := by kernel_rfl
theorem cellsFo : Tryd.prog.cellsOf 22 = 1 := by kernel_rfl
theorem cellsOl : Tryd.prog.cellsOf 23 = 1 := by kernel_rfl
theorem bank_of_trod {H : Type} {enc : TypeId × Value → H} {W : World} {fuel : Nat} {cs : List Value} {x : DataW H × List MemPlace}
    (h : DataW.trod enc Tryd.prog W 0 (fun _ => true) true fuel 25 cs = some x) : ∃ (x0 x3 x4 x5 x6 : Int) (a : Option Addr) (n c : Nat) (b : Option Addr) (m d : Nat), cs = [.int .i64 x0, .slice a n c, .slice b m d, .int .i64 x3, .int .i64 x4, .int .i64 x5, .int .i64 x6] ∧ n ≤ 9223372036854775807 ∧ m ≤ 9223372036854775807 ∧ ∃ (F : Nat → Acc) (O : Nat → Ord), (n ≤ 1048576 → Fo W a n F) ∧ (m ≤ 1048576 → Ords W b m O) := by
  obtain ⟨xs, n, _, _, hl, hlen, hf⟩ := DataW.trod_struct Tryd.underlying25 h
  rw [cellsBank] at hl
  obtain ⟨c0, c1, c2, c3, c4, c5, c6, rfl⟩ := list7 hl
  have hx : xs.length = 7 := by simpa using hlen
  have g0 : DataW.trod enc Tryd.prog W 0 (fun _ => true) true n 2 [c0] = xs[0]? := by have := hf 0 _ rfl; simpa [cellsInt, cellsFo, cellsOl] using this
  have g1 : DataW.trod enc Tryd.prog W 0 (fun _ => true) true n 22 [c1] = xs[1]? := by have := hf 1 _ rfl; simpa [cellsInt, cellsFo, cellsOl] using this
  have g2 : DataW.trod enc Tryd.prog W 0 (fun _ => true) true n 23 [c2] = xs[2]? := by have := hf 2 _ rfl; simpa [cellsInt, cellsFo, cellsOl] using this
  have g3 : DataW.trod enc Tryd.prog W 0 (fun _ => true) true n 2 [c3] = xs[3]? := by have := hf 3 _ rfl; simpa [cellsInt, cellsFo, cellsOl] using this
  have g4 : DataW.trod enc Tryd.prog W 0 (fun _ => true) true n 2 [c4] = xs[4]? := by have := hf 4 _ rfl; simpa [cellsInt, cellsFo, cellsOl] using this
  have g5 : DataW.trod enc Tryd.prog W 0 (fun _ => true) true n 2 [c5] = xs[5]? := by have := hf 5 _ rfl; simpa [cellsInt, cellsFo, cellsOl] using this
  have g6 : DataW.trod enc Tryd.prog W 0 (fun _ => true) true n 2 [c6] = xs[6]? := by have := hf 6 _ rfl; simpa [cellsInt, cellsFo, cellsOl] using this
  rw [List.getElem?_eq_getElem (by omega)] at g0 g1 g2 g3 g4 g5 g6
  obtain ⟨x0, e0, _, _⟩ := DataW.trod_int Tryd.underlying2 g0
  obtain ⟨x3, e3, _, _⟩ := DataW.trod_int Tryd.underlying2 g3
  obtain ⟨x4, e4, _, _⟩ := DataW.trod_int Tryd.underlying2 g4
  obtain ⟨x5, e5, _, _⟩ := DataW.trod_int Tryd.underlying2 g5
  obtain ⟨x6, e6, _, _⟩ := DataW.trod_int Tryd.underlying2 g6
  obtain ⟨a, ln, cp, ea, hn, F, hF⟩ := Fo_of_cells g1
  obtain ⟨b, lm, dp, eb, hm, O, hO⟩ := Ords_of_cells g2
  simp at e0 e3 e4 e5 e6 ea eb
  exact ⟨x0, x3, x4, x5, x6, a, ln, cp, b, lm, dp, by rw [e0, e3, e4, e5, e6, ea, eb], hn, hm, F, O, hF, hO⟩
end Go.Proofs.YtodbcdclglaniaaDoor
