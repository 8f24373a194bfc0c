/- SumOf, of the program and of the specification. Conditions: the accounts lie in memory and are a right forest. -/
import Derived.Test.YtleblllofibfkaaPaths
import Derived.Test.YtleblllofibfkaaSums
import Derived.Laws.EntriesVeiled
namespace Go.Proofs.Ytleblllofibfkaa
open Go.RowKit
set_option maxRecDepth 8000

/-- The sums of those of the first k accounts that hang under account i. -/
def kidSum (F : Nat → Acc) (n i k : Nat) : Int := sumTo (fun j => if (F j).up = (F i).id then sumAll F n j else 0) k
theorem kidSum_hit {F : Nat → Acc} {n i k : Nat} (h : (F k).up = (F i).id) : kidSum F n i (k + 1) = kidSum F n i k + sumAll F n k := by simp [kidSum, sumTo, h]
theorem kidSum_miss {F : Nat → Acc} {n i k : Nat} (h : (F k).up ≠ (F i).id) : kidSum F n i (k + 1) = kidSum F n i k := by simp [kidSum, sumTo, h]
theorem path_len {F : Nat → Acc} {n : Nat} (h : Right F n) {i : Nat} (hi : i < n) : (pathL F n i).length ≤ n := chain_len F n n _ _ (h.path hi)

set_option maxHeartbeats 2000000 in
theorem implSum (a : Option Addr) (n c bf bs : Nat) (F : Nat → Acc) (hR : Right F n) : ∀ (d i : Nat) (w : World), i < n → n - (pathL F n i).length < d → Fo w a n F → bf < w.heap.size → bs < w.heap.size →
    w.cell? ⟨bf, 0, none⟩ = some (.slice a n c) → w.cell? ⟨bs, 0, none⟩ = some (.func (.func 48) #[] #[.pointer (some ⟨bf, 0, none⟩), .pointer (some ⟨bs, 0, none⟩)]) →
    Calls Try.prog 48 #[.agg #[.int .i64 (F i).id, .int .i64 (F i).up, .int .i64 (F i).limit, .int .i64 (F i).rate, .int .i64 (F i).target, .bool (F i).frozen, .int .i64 (F i).balance, .int .i64 (F i).carry], .pointer (some ⟨bf, 0, none⟩), .pointer (some ⟨bs, 0, none⟩)] w fun e w' => e = .returned (.int .i64 (sumAll F n i)) ∧ Below w.heap.size w w' := by
  intro d
  induction d with
  | zero => intro i w hi hd; omega
  | succ d ih =>
    intro i w hi hd h hbf hbs cf cs
    have H : Hid (Fo w a n F) := h
    have HR : Hid (Right F n) := hR
    have IH : Hid (∀ (i : Nat) (w : World), i < n → n - (pathL F n i).length < d → Fo w a n F → bf < w.heap.size → bs < w.heap.size →
    w.cell? ⟨bf, 0, none⟩ = some (.slice a n c) → w.cell? ⟨bs, 0, none⟩ = some (.func (.func 48) #[] #[.pointer (some ⟨bf, 0, none⟩), .pointer (some ⟨bs, 0, none⟩)]) →
    Calls Try.prog 48 #[.agg #[.int .i64 (F i).id, .int .i64 (F i).up, .int .i64 (F i).limit, .int .i64 (F i).rate, .int .i64 (F i).target, .bool (F i).frozen, .int .i64 (F i).balance, .int .i64 (F i).carry], .pointer (some ⟨bf, 0, none⟩), .pointer (some ⟨bs, 0, none⟩)] w fun e w' => e = .returned (.int .i64 (sumAll F n i)) ∧ Below w.heap.size w w') := ih
    have HD : Hid (n - (pathL F n i).length < d + 1) := hd
    have HS : Hid (sumAll F n i = (F i).balance + kidSum F n i n) := sumAll_kids hR hi
    obtain ⟨bb1, bb2⟩ := (hR.2.1 i hi).2.2.2.2.2.1
    have hn := hR.1
    have BX : Hid (Box (w.alloc (.cells #[.int .i64 (F i).id, .int .i64 (F i).up, .int .i64 (F i).limit, .int .i64 (F i).rate, .int .i64 (F i).target, .bool (F i).frozen, .int .i64 (F i).balance, .int .i64 (F i).carry] 33)) w.heap.size (F i)) := Box.new w (F i) 33
    clear h ih hd
    go_enter Try.func48, Try.ntmps48
    go_wp2
    go_loopw [5, 12] (fun t q wr => ∃ k : Nat, k ≤ n ∧ q = .int .i64 k ∧ t = .int .i64 ((F i).balance + kidSum F n i k) ∧ Hid (Box wr w.heap.size (F i)) ∧ Hid (Below w.heap.size w wr)) (fun _ q _ => n - (intOf q).toNat)
    case atStart => exact ⟨0, Nat.zero_le _, rfl, by simp [kidSum, sumTo], BX, (Below.refl _ _).alloc (Nat.le_refl _) _⟩
    case round =>
      obtain ⟨k, hk, rfl, rfl, hX, hB⟩ := hrel
      clear BX
      obtain ⟨kb1, kb2⟩ : -(12000000000000 * (k : Int)) ≤ kidSum F n i k ∧ kidSum F n i k ≤ 12000000000000 * (k : Int) := kidsum_bd HR.out (F i).id k hk
      by_cases hlt : k < n
      · obtain ⟨b, o, rfl, hb0, hA0⟩ := H.out.acc hlt
        have hA := hA0.of_cells (w' := wr) (fun q => hB.out.cell (p := ⟨b, q, none⟩) hb0)
        obtain ⟨c0, c1, c2, c3, c4, c5, c6, c7⟩ := hA
        clear hA0
        have cf1 : wr.cell? ⟨bf, 0, none⟩ = some (.slice (some ⟨b, o, none⟩) n c) := by rw [hB.out.cell (p := ⟨bf, 0, none⟩) hbf]; exact cf
        have cs1 : wr.cell? ⟨bs, 0, none⟩ = some (.func (.func 48) #[] #[.pointer (some ⟨bf, 0, none⟩), .pointer (some ⟨bs, 0, none⟩)]) := by rw [hB.out.cell (p := ⟨bs, 0, none⟩) hbs]; exact cs
        obtain ⟨⟨b0, b1, b2, b3, b4, b5, b6, b7⟩, _, hz⟩ := hX.out
        have hbf1 : bf < wr.heap.size := by omega
        have hbs1 : bs < wr.heap.size := by omega
        clear b1 b2 b3 b4 b5 b6 b7
        by_cases hu : (F k).up = (F i).id
        · have bu : ((F k).up == (F i).id) = true := by simp [hu]
          have HK : Hid (kidSum F n i (k + 1) = kidSum F n i k + sumAll F n k) := kidSum_hit hu
          have HD' : Hid (n - (pathL F n k).length < d) := by
            have e1 := kid_len HR.out hi hlt hu
            have e2 := path_len HR.out hlt
            have e3 := HD.out
            exact (by omega : n - (pathL F n k).length < d)
          obtain ⟨sb1, sb2⟩ := sumAll_bd HR.out k
          clear hu
          have HF : Hid (∀ x : Obj, Fo (wr.alloc x) (some ⟨b, o, none⟩) n F) := fun x => (H.out.below hB.out).alloc x
          have CF : Hid (∀ x : Obj, (wr.alloc x).cell? ⟨bf, 0, none⟩ = some (.slice (some ⟨b, o, none⟩) n c)) := fun x => by rw [World.cell?_alloc_lt _ _ _ (by exact hbf1)]; exact cf1
          have CS : Hid (∀ x : Obj, (wr.alloc x).cell? ⟨bs, 0, none⟩ = some (.func (.func 48) #[] #[.pointer (some ⟨bf, 0, none⟩), .pointer (some ⟨bs, 0, none⟩)])) := fun x => by rw [World.cell?_alloc_lt _ _ _ (by exact hbs1)]; exact cs1
          go_wp2_with fail
          refine (IH.out k _ hlt HD'.out (HF.out _) (by simp; omega) (by simp; omega) (CF.out _) (CS.out _)).mono ?_
          rintro e w1 ⟨rfl, B1⟩
          have X1 : Hid (Box w1 w.heap.size (F i)) := (hX.out.below ((Below.refl _ _).alloc (Nat.le_refl _) _)).below B1
          have B1' : Hid (Below w.heap.size w w1) := (hB.out.alloc hB.out.size _).trans (B1.mono (by have := hB.out.size; simp; omega))
          clear B1
          go_wp2
          go_roundw
          case rel => exact ⟨k + 1, by omega, by go_num, by rw [HK.out]; go_num, X1, B1'⟩
          case measure => simp [intOf]; omega
        · have bu : ((F k).up == (F i).id) = false := by simp [hu]
          have HK : Hid (kidSum F n i (k + 1) = kidSum F n i k) := kidSum_miss hu
          have XA : Hid (∀ x : Obj, Box (wr.alloc x) w.heap.size (F i)) := fun x => hX.out.below ((Below.refl _ _).alloc (Nat.le_refl _) _)
          clear hu
          go_wp2
          go_roundw
          case rel => exact ⟨k + 1, by omega, by go_num, by rw [HK.out], XA.out _, hB.out.alloc hB.out.size _⟩
          case measure => simp [intOf]; omega
      · have hkn : k = n := by omega
        subst hkn
        go_wp2
        go_ret
        rw [HS.out]
        exact ⟨rfl, hB.out⟩

theorem implSumFrom (a : Option Addr) (n c : Nat) (F : Nat → Acc) (i : Nat) (w : World) (h : Fo w a n F) (hR : Right F n) (hi : i < n) :
    Calls Try.prog 30 #[.slice a n c, .agg #[.int .i64 (F i).id, .int .i64 (F i).up, .int .i64 (F i).limit, .int .i64 (F i).rate, .int .i64 (F i).target, .bool (F i).frozen, .int .i64 (F i).balance, .int .i64 (F i).carry]] w fun e w' => e = .returned (.int .i64 (sumAll F n i)) ∧ Below w.heap.size w w' := by
  have H : Hid (Fo w a n F) := h
  have HR : Hid (Right F n) := hR
  clear h hR
  have hmf : ∀ (fn : Fn) (first cap : Array Value) (w : World), (Instr.makeFunc fn first cap).run Try.prog w = .ok (.func fn first cap) w := fun _ _ _ _ => rfl
  go_enter Try.func30, Try.ntmps30
  go_wp2_with fail
  refine (implSum a n c w.heap.size (w.heap.size + 1 + 1) F HR.out (n + 1) i _ hi (by omega) (((H.out.alloc _).alloc _).alloc _) (by simp; omega) (by simp) ?_ ?_).mono ?_
  · simp [go_sem]
  · simp [go_sem]
  rintro e w1 ⟨rfl, B1⟩
  have B1' : Hid (Below w.heap.size w w1) := ((((Below.refl _ _).alloc (Nat.le_refl _) _).alloc (by simp) _).alloc (by simp; omega) _).trans (B1.mono (by simp; omega))
  clear B1
  go_wp2
  go_ret
  exact ⟨rfl, B1'.out⟩
end Go.Proofs.Ytleblllofibfkaa
