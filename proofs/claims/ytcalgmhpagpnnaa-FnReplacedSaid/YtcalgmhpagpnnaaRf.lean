/- ReadFile, of the program and of the specification. Conditions: the disk's lists lie in memory, at most 1048576 of each, of at most 1048576 bytes. -/
import Derived.Test.YtcalgmhpagpnnaaTdM
import Derived.Test.YtcalgmhpagpnnaaSpZ
import Derived.Test.YtcalgmhpagpnnaaImKZ
namespace Go.Proofs.Ytcalgmhpagpnnaa
open Go.RowKit
set_option maxRecDepth 8000

/-- What is read. -/
def rdF (x : Bool) (L : List Fl) (s : ByteArray) : Option ByteArray := if x then (getN Fl.name s L).map Fl.data else none
def RdOut (o : Option ByteArray) (e : Ending) : Prop := e = .returned (.tuple #[.string (o.getD ⟨#[]⟩), .bool o.isSome])
theorem RdOut.yes {d : ByteArray} {o : Option ByteArray} (h : o = some d) : RdOut o (.returned (.tuple #[.string d, .bool true])) := by subst h; rfl
theorem RdOut.none' {o : Option ByteArray} (h : o = none) : RdOut o (.returned (.tuple #[.string ⟨#[]⟩, .bool false])) := by subst h; rfl

set_option maxHeartbeats 1000000 in
theorem specRead (a b d : Option Addr) (n m q c c' c'' : Nat) (F G : Nat → Fl) (O : Nat → Dp) (s : ByteArray) (w : World) (h : Dk w a n F b m G d q O) :
    Calls Try.prog 38 #[.agg #[.slice a n c, .slice b m c', .slice d q c''], .string s] w fun e w' => RdOut (rdF (diskB (lst F n) (lst G m) (lst O q)) (lst F n) s) e ∧ Below w.heap.size w w' := by
  have H : Hid (Dk w a n F b m G d q O) := h
  clear h
  obtain ⟨W0, hW0, xb, xB⟩ : ∃ W0, W0 = w.alloc (.cells #[.slice a n c, .slice b m c', .slice d q c''] 27) ∧ Box3 W0 w.heap.size (.slice a n c) (.slice b m c') (.slice d q c'') ∧ Below w.heap.size w W0 := ⟨_, rfl, Box3.new w _ _ _ 27, (Below.refl _ _).alloc (Nat.le_refl _) _⟩
  have HW0 : Hid (W0 = _) := hW0
  have X0 : Hid (Box3 W0 w.heap.size (.slice a n c) (.slice b m c') (.slice d q c'') ∧ Below w.heap.size w W0) := ⟨xb, xB⟩
  clear hW0 xb xB
  go_enter Try.func38, Try.ntmps38
  go_wp2_with fail
  rw [← HW0.out]
  refine (specDisk a b d n m q c c' c'' F G O _ (H.out.below X0.out.2)).mono ?_
  rintro e w1 ⟨rfl, D1⟩
  have X1 : Hid (Box3 w1 w.heap.size (.slice a n c) (.slice b m c') (.slice d q c'') ∧ Below w.heap.size w w1) := ⟨X0.out.1.kept D1 X0.out.1.2.2, X0.out.2.trans (D1.mono X0.out.2.size)⟩
  clear D1 X0 HW0
  cases hx : diskB (lst F n) (lst G m) (lst O q)
  · have E : Hid (rdF (diskB (lst F n) (lst G m) (lst O q)) (lst F n) s = none) := (by unfold rdF; rw [hx]; rfl : rdF (diskB (lst F n) (lst G m) (lst O q)) (lst F n) s = none)
    clear hx
    go_wp2
    go_ret2
    exact ⟨RdOut.none' E.out, X1.out.2⟩
  · have HX : Hid (diskB (lst F n) (lst G m) (lst O q) = true) := hx
    clear hx
    have L1 : Hid (Fls w1 a n F) := H.out.live.below X1.out.2
    obtain ⟨⟨⟨s0, s1, s2⟩, _, _⟩, _⟩ := X1.out
    go_wp2_with fail
    refine (specAt a n c F s _ L1.out).mono ?_
    rintro e w2 ⟨⟨r, rfl, hr⟩, hw2⟩
    subst w2
    rcases hr with ⟨rfl, hg⟩ | ⟨p, rfl, hp, hpn, hg⟩
    · have E : Hid (rdF (diskB (lst F n) (lst G m) (lst O q)) (lst F n) s = none) := (by unfold rdF; rw [HX.out, hg]; rfl : rdF (diskB (lst F n) (lst G m) (lst O q)) (lst F n) s = none)
      clear hg
      go_wp2
      go_ret2
      exact ⟨RdOut.none' E.out, X1.out.2⟩
    · have E : Hid (rdF (diskB (lst F n) (lst G m) (lst O q)) (lst F n) s = some (F p).data) := (by unfold rdF; rw [HX.out, hg]; rfl : rdF (diskB (lst F n) (lst G m) (lst O q)) (lst F n) s = some (F p).data)
      obtain ⟨lb, lo, rfl, _, ⟨l0, l1⟩⟩ := L1.out.acc hp
      have hp0 : decide ((p : Int) < 0) = false := decide_eq_false (by omega)
      have hp1 : (0 : Int) ≤ (p : Int) := by omega
      clear hg hpn
      go_wp2
      go_ret2
      exact ⟨RdOut.yes E.out, X1.out.2⟩

set_option maxHeartbeats 1000000 in
theorem implRead (a b d : Option Addr) (n m q c c' c'' : Nat) (F G : Nat → Fl) (O : Nat → Dp) (s : ByteArray) (w : World) (h : Dk w a n F b m G d q O) :
    Calls Try.prog 22 #[.agg #[.slice a n c, .slice b m c', .slice d q c''], .string s] w fun e w' => RdOut (rdF (diskB (lst F n) (lst G m) (lst O q)) (lst F n) s) e ∧ Below w.heap.size w w' := by
  have H : Hid (Dk w a n F b m G d q O) := h
  have hn := h.live.1
  clear h
  obtain ⟨W0, hW0, xb, xB⟩ : ∃ W0, W0 = w.alloc (.cells #[.slice a n c, .slice b m c', .slice d q c''] 27) ∧ Box3 W0 w.heap.size (.slice a n c) (.slice b m c') (.slice d q c'') ∧ Below w.heap.size w W0 := ⟨_, rfl, Box3.new w _ _ _ 27, (Below.refl _ _).alloc (Nat.le_refl _) _⟩
  have HW0 : Hid (W0 = _) := hW0
  have X0 : Hid (Box3 W0 w.heap.size (.slice a n c) (.slice b m c') (.slice d q c'') ∧ Below w.heap.size w W0) := ⟨xb, xB⟩
  clear hW0 xb xB
  go_enter Try.func22, Try.ntmps22
  go_wp2_with fail
  rw [← HW0.out]
  refine (implDisk a b d n m q c c' c'' F G O _ (H.out.below X0.out.2)).mono ?_
  rintro e w1 ⟨rfl, D1⟩
  have X1 : Hid (Box3 w1 w.heap.size (.slice a n c) (.slice b m c') (.slice d q c'') ∧ Below w.heap.size w w1) := ⟨X0.out.1.kept D1 X0.out.1.2.2, X0.out.2.trans (D1.mono X0.out.2.size)⟩
  clear D1 X0 HW0
  cases hx : diskB (lst F n) (lst G m) (lst O q)
  · have E : Hid (rdF (diskB (lst F n) (lst G m) (lst O q)) (lst F n) s = none) := (by unfold rdF; rw [hx]; rfl : rdF (diskB (lst F n) (lst G m) (lst O q)) (lst F n) s = none)
    clear hx
    go_wp2
    go_ret2
    exact ⟨RdOut.none' E.out, X1.out.2⟩
  · have HX : Hid (diskB (lst F n) (lst G m) (lst O q) = true) := hx
    clear hx
    have L1 : Hid (Fls w1 a n F) := H.out.live.below X1.out.2
    have B1 : Hid (Below w.heap.size w w1) := X1.out.2
    obtain ⟨⟨⟨s0, s1, s2⟩, _, _⟩, _⟩ := X1.out
    go_wp2
    go_loopw [14] (fun i wr => ∃ k : Nat, k ≤ n ∧ i = .int .i64 k ∧ Hid (∀ j, j < k → (F j).name ≠ s) ∧ Hid (Below w1.heap.size w1 wr)) (fun i _ => n - (intOf i).toNat)
    case atStart => exact ⟨0, Nat.zero_le _, rfl, fun j hj => absurd hj (Nat.not_lt_zero _), Below.refl _ _⟩
    case round =>
      obtain ⟨k, hk, rfl, hno, hB⟩ := hrel
      by_cases hlt : k < n
      · obtain ⟨lb, lo, rfl, hb, hA⟩ := (L1.out.below hB.out).acc hlt
        obtain ⟨c0, c1⟩ := hA
        by_cases hid : (F k).name = s
        · have E : Hid (rdF (diskB (lst F n) (lst G m) (lst O q)) (lst F n) s = some (F k).data) := (by unfold rdF; rw [HX.out, get_hit hlt hid hno.out]; rfl : rdF (diskB (lst F n) (lst G m) (lst O q)) (lst F n) s = some (F k).data)
          have hid' : ((F k).name.toList == s.toList) = true := by rw [beq_name]; exact decide_eq_true hid
          clear hid
          go_wp2
          go_ret2
          exact ⟨RdOut.yes E.out, B1.out.trans ((hB.out.alloc hB.out.size _).mono B1.out.size)⟩
        · have hid' : ((F k).name.toList == s.toList) = false := by rw [beq_name]; exact decide_eq_false hid
          have HN : Hid (∀ j, j < k + 1 → (F j).name ≠ s) := fun j hj => by
            by_cases e : j = k
            · subst e; exact hid
            · exact hno.out j (by omega)
          clear hid
          go_wp2
          go_roundw
          case rel => exact ⟨k + 1, by omega, by go_num, HN, hB.out.alloc hB.out.size _⟩
          case measure => simp [intOf]; omega
      · have E : Hid (rdF (diskB (lst F n) (lst G m) (lst O q)) (lst F n) s = none) := (by unfold rdF; rw [HX.out, get_miss (fun j hj => hno.out j (by omega))]; rfl : rdF (diskB (lst F n) (lst G m) (lst O q)) (lst F n) s = none)
        go_wp2
        go_ret2
        exact ⟨RdOut.none' E.out, B1.out.trans (hB.out.mono B1.out.size)⟩
end Go.Proofs.Ytcalgmhpagpnnaa
