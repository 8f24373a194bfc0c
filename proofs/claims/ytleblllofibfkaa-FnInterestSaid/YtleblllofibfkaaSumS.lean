/- SumOf, of the program and of the specification: both answer the same sum. Conditions: the accounts lie in memory. -/
import Derived.Test.YtleblllofibfkaaSumI
namespace Go.Proofs.Ytleblllofibfkaa
open Go.RowKit
set_option maxRecDepth 8000

theorem getD_mem {l : List Int} {k : Nat} (h : k < l.length) : l.getD k 0 ∈ l := by
  simp [List.getD, List.getElem?_eq_getElem h]
theorem mem_getD {l : List Int} {x : Int} (h : x ∈ l) : ∃ k, k < l.length ∧ l.getD k 0 = x := by
  obtain ⟨k, hk, e⟩ := List.getElem_of_mem h
  exact ⟨k, hk, by simp [List.getD, List.getElem?_eq_getElem hk, e]⟩

set_option maxHeartbeats 1000000 in
theorem specHas_yes (B : Nat) (v : Value) (l : List Int) (x : Int) (w : World) (hl : l.length ≤ 1048576) (h : IL w B v l) (hx : x ∈ l) :
    Calls Try.prog 60 #[v, .int .i64 x] w fun e w' => e = .returned (.bool true) ∧ w' = w := by
  obtain ⟨a, m, rfl, _, s⟩ := h.shape
  have S : Hid (∀ i, i < l.length → ∃ g, a = some ⟨g, 0, none⟩ ∧ w.cell? ⟨g, i, none⟩ = some (.int .i64 (l.getD i 0))) := fun i hi => by obtain ⟨g, e, _, _, _, hc, _⟩ := s i hi; exact ⟨g, e, hc⟩
  have HX : Hid (∃ k, k < l.length ∧ l.getD k 0 = x) := mem_getD hx
  clear s h hx
  generalize hn : l.length = n at *
  go_enter Try.func60, Try.ntmps60
  go_wp2
  go_loop [5] (fun i => ∃ k : Nat, k ≤ n ∧ i = .int .i64 k ∧ Hid (∀ j, j < k → l.getD j 0 ≠ x)) (fun i => n - (intOf i).toNat)
  case atStart => exact ⟨0, Nat.zero_le _, rfl, fun j hj => absurd hj (Nat.not_lt_zero _)⟩
  case round =>
    obtain ⟨k, hk, rfl, hno⟩ := hrel
    by_cases hlt : k < n
    · obtain ⟨g, rfl, c0⟩ := S.out k hlt
      by_cases hid : l.getD k 0 = x
      · rw [hid] at c0
        clear hid
        go_wp2
        go_ret
        exact ⟨rfl, rfl⟩
      · have hb : (l.getD k 0 == x) = false := beq_eq_false_iff_ne.2 hid
        have NX : Hid (∀ j, j < k + 1 → l.getD j 0 ≠ x) := fun j hj => by
          by_cases e : j = k
          · rw [e]; exact hid
          · exact hno.out j (by omega)
        clear hid
        generalize l.getD k 0 = z at c0 hb
        go_wp2
        go_round
        case rel => exact ⟨k + 1, by omega, by go_num, NX⟩
        case measure => simp [intOf]; omega
    · obtain ⟨q, hq, e⟩ := HX.out
      exact absurd e (hno.out q (by omega))

set_option maxHeartbeats 1000000 in
theorem specHas_no (B : Nat) (v : Value) (l : List Int) (x : Int) (w : World) (hl : l.length ≤ 1048576) (h : IL w B v l) (hx : x ∉ l) :
    Calls Try.prog 60 #[v, .int .i64 x] w fun e w' => e = .returned (.bool false) ∧ w' = w := by
  obtain ⟨a, m, rfl, _, s⟩ := h.shape
  have S : Hid (∀ i, i < l.length → ∃ g, a = some ⟨g, 0, none⟩ ∧ w.cell? ⟨g, i, none⟩ = some (.int .i64 (l.getD i 0))) := fun i hi => by obtain ⟨g, e, _, _, _, hc, _⟩ := s i hi; exact ⟨g, e, hc⟩
  have HX : Hid (∀ k, k < l.length → l.getD k 0 ≠ x) := fun k hk e => hx (e ▸ getD_mem hk)
  clear s h hx
  generalize hn : l.length = n at *
  go_enter Try.func60, Try.ntmps60
  go_wp2
  go_loop [5] (fun i => ∃ k : Nat, k ≤ n ∧ i = .int .i64 k) (fun i => n - (intOf i).toNat)
  case atStart => exact ⟨0, Nat.zero_le _, rfl⟩
  case round =>
    obtain ⟨k, hk, rfl⟩ := hrel
    by_cases hlt : k < n
    · obtain ⟨g, rfl, c0⟩ := S.out k hlt
      have hb : (l.getD k 0 == x) = false := beq_eq_false_iff_ne.2 (HX.out k hlt)
      generalize l.getD k 0 = z at c0 hb
      go_wp2
      go_round
      case rel => exact ⟨k + 1, by omega, by go_num⟩
      case measure => simp [intOf]; omega
    · go_wp2
      go_ret
      exact ⟨rfl, rfl⟩

/-- The specification's path of an account of a right forest. -/
theorem specPath_right (a : Option Addr) (n c : Nat) (F : Nat → Acc) (j : Nat) (w : World) (h : Fo w a n F) (hR : Right F n) (hj : j < n) :
    Calls Try.prog 28 #[.slice a n c, .int .i64 (F j).id] w fun e w' => ∃ v, e = .returned (.tuple #[v, .bool true]) ∧ IL w' w.heap.size v (pathL F n j) ∧ Below w.heap.size w w' :=
  (specPath a n c F (F j).id w h).mono fun e w' ⟨B, hc⟩ => by
    rcases hc with ⟨hno, _⟩ | ⟨l, v, hl, he, hI⟩
    · rw [hR.path hj] at hno; cases hno
    · rw [hR.path hj] at hl
      obtain rfl := Option.some.inj hl
      exact ⟨v, he, hI.1, B⟩

/-- The sum of the balances of the first k accounts below account i. -/
def sumPre (F : Nat → Acc) (n i k : Nat) : Int := sumTo (fun j => on F n i j * (F j).balance) k
theorem sumPre_hit {F : Nat → Acc} {n i k : Nat} (h : (F i).id ∈ pathL F n k) : sumPre F n i (k + 1) = sumPre F n i k + (F k).balance := by
  simp [sumPre, sumTo, on, h]
theorem sumPre_miss {F : Nat → Acc} {n i k : Nat} (h : (F i).id ∉ pathL F n k) : sumPre F n i (k + 1) = sumPre F n i k := by
  simp [sumPre, sumTo, on, h]

set_option maxHeartbeats 2000000 in
theorem specSum (a : Option Addr) (n c : Nat) (F : Nat → Acc) (i : Nat) (w : World) (h : Fo w a n F) (hR : Right F n) (hi : i < n) :
    Calls Try.prog 44 #[.slice a n c, .int .i64 (F i).id] w fun e w' => e = .returned (.int .i64 (sumAll F n i)) ∧ Below w.heap.size w w' := by
  have H : Hid (Fo w a n F) := h
  have HR : Hid (Right F n) := hR
  have hn := hR.1
  clear h hR
  go_enter Try.func44, Try.ntmps44
  go_wp2
  go_loopw [5, 6] (fun t q wr => ∃ k : Nat, k ≤ n ∧ q = .int .i64 k ∧ t = .int .i64 (sumPre F n i k) ∧ Hid (Below w.heap.size w wr)) (fun _ q _ => n - (intOf q).toNat)
  case atStart => exact ⟨0, Nat.zero_le _, rfl, rfl, Below.refl _ _⟩
  case round =>
    obtain ⟨k, hk, rfl, rfl, hB⟩ := hrel
    obtain ⟨kb1, kb2⟩ : -(1000000000000 * (k : Int)) ≤ sumPre F n i k ∧ sumPre F n i k ≤ 1000000000000 * (k : Int) := sum_bd HR.out i k hk
    by_cases hlt : k < n
    · obtain ⟨b, o, rfl, hb0, hA0⟩ := H.out.acc hlt
      have hA := hA0.of_cells (w' := wr) (fun q => hB.out.cell (p := ⟨b, q, none⟩) hb0)
      have c0 := hA.1
      obtain ⟨bb1, bb2⟩ := (HR.out.2.1 k hlt).2.2.2.2.2.1
      clear hA
      go_wp2_with fail
      refine (specPath_right _ n c F k _ (H.out.below hB.out) HR.out hlt).mono ?_
      rintro e w1 ⟨v, rfl, I1, B1⟩
      have B1' : Hid (Below w.heap.size w w1) := hB.out.trans (B1.mono hB.out.size)
      have I1' : Hid (IL w1 wr.heap.size v (pathL F n k)) := I1
      have hpl : (pathL F n k).length ≤ 1048576 := by have := path_len HR.out hlt; omega
      have hA := hA0.of_cells (w' := w1) (fun q => B1'.out.cell (p := ⟨b, q, none⟩) hb0)
      have c6 := hA.2.2.2.2.2.2.1
      clear hA hA0 c0 B1 I1
      by_cases hm : (F i).id ∈ pathL F n k
      · have HK : Hid (sumPre F n i (k + 1) = sumPre F n i k + (F k).balance) := sumPre_hit hm
        have HM : Hid ((F i).id ∈ pathL F n k) := hm
        clear hm
        go_wp2_with fail
        refine (specHas_yes _ v _ _ _ hpl I1'.out HM.out).mono ?_
        rintro e w2 ⟨rfl, rfl⟩
        go_wp2
        go_roundw
        case rel => exact ⟨k + 1, by omega, by go_num, by rw [HK.out], B1'⟩
        case measure => simp [intOf]; omega
      · have HK : Hid (sumPre F n i (k + 1) = sumPre F n i k) := sumPre_miss hm
        have HM : Hid ((F i).id ∉ pathL F n k) := hm
        clear hm
        go_wp2_with fail
        refine (specHas_no _ v _ _ _ hpl I1'.out HM.out).mono ?_
        rintro e w2 ⟨rfl, rfl⟩
        go_wp2
        go_roundw
        case rel => exact ⟨k + 1, by omega, by go_num, by rw [HK.out], B1'⟩
        case measure => simp [intOf]; omega
    · have hkn : k = n := by omega
      subst hkn
      go_wp2
      go_ret
      exact ⟨rfl, hB.out⟩

set_option maxHeartbeats 1000000 in
theorem implSumOf_yes (a : Option Addr) (n c : Nat) (F : Nat → Acc) (id : Int) (i : Nat) (w : World) (h : Fo w a n F) (hR : Right F n) (hp : place F n id = some i) :
    Calls Try.prog 11 #[.slice a n c, .int .i64 id] w fun e w' => e = .returned (.tuple #[.int .i64 (sumAll F n i), .bool true]) ∧ Below w.heap.size w w' := by
  have H : Hid (Fo w a n F) := h
  have HR : Hid (Right F n) := hR
  have HP : Hid (place F n id = some i) := hp
  have hin := (place_some hp).1
  clear h hR hp
  go_enter Try.func11, Try.ntmps11
  go_wp2_with fail
  refine (implFind_yes a n c F id i _ H.out HR.out HP.out).mono ?_
  rintro e w1 ⟨rfl, B1⟩
  have B1' : Hid (Below w.heap.size w w1) := B1
  clear B1
  go_wp2_with fail
  refine (implSumFrom a n c F i _ ((H.out.below B1'.out).alloc _) HR.out hin).mono ?_
  rintro e w3 ⟨rfl, B3⟩
  have B3' : Hid (Below w.heap.size w w3) := (B1'.out.alloc B1'.out.size _).trans (B3.mono (by have := B1'.out.size; simp; omega))
  clear B3
  go_wp2
  go_ret2
  exact ⟨rfl, B3'.out⟩
set_option maxHeartbeats 1000000 in
theorem implSumOf_no (a : Option Addr) (n c : Nat) (F : Nat → Acc) (id : Int) (w : World) (h : Fo w a n F) (hR : ¬ (Right F n ∧ ∃ i, place F n id = some i)) :
    Calls Try.prog 11 #[.slice a n c, .int .i64 id] w fun e w' => e = .returned (.tuple #[.int .i64 0, .bool false]) ∧ Below w.heap.size w w' := by
  have H : Hid (Fo w a n F) := h
  have HR : Hid (¬ (Right F n ∧ ∃ i, place F n id = some i)) := hR
  clear h hR
  go_enter Try.func11, Try.ntmps11
  go_wp2_with fail
  refine (implFind_no a n c F id _ H.out HR.out).mono ?_
  rintro e w1 ⟨rfl, B1⟩
  have B1' : Hid (Below w.heap.size w w1) := B1
  clear B1
  go_wp2
  go_ret2
  exact ⟨rfl, B1'.out.alloc B1'.out.size _⟩

end Go.Proofs.Ytleblllofibfkaa
