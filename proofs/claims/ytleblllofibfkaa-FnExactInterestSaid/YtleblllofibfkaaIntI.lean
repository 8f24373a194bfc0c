/- Interest of the program: on every root with a rate, by the sum of its tree. -/
import Derived.Test.YtleblllofibfkaaLeds
import Derived.Test.YtleblllofibfkaaPost
import Derived.Test.YtleblllofibfkaaSumS
namespace Go.Proofs.Ytleblllofibfkaa
open Go.RowKit
set_option maxRecDepth 8000

/-- Does an account earn? -/
def earns (A : Acc) : Prop := A.up = 0 ∧ A.rate ≠ 0
instance (A : Acc) : Decidable (earns A) := by unfold earns; infer_instance
/-- The account at a place behind the day's interest, and what was posted to it. -/
def intA (F : Nat → Acc) (n i : Nat) : Acc := if earns (F i) then postA (F i) (sumAll F n i) else F i
def intN (F : Nat → Acc) (n i : Nat) : Int := if earns (F i) then postN (F i) (sumAll F n i) else 0
/-- .. behind the first k places. -/
def intF (F : Nat → Acc) (n k : Nat) : Nat → Acc := fun i => if i < k then intA F n i else F i
def intS (F : Nat → Acc) (n k : Nat) : Int := sumTo (intN F n) k

theorem postA_id (A : Acc) (s : Int) : (postA A s).id = A.id := by unfold postA; split <;> rfl
theorem intA_id (F : Nat → Acc) (n i : Nat) : (intA F n i).id = (F i).id := by unfold intA; split; exact postA_id _ _; rfl
theorem intF_id (F : Nat → Acc) (n k i : Nat) : (intF F n k i).id = (F i).id := by unfold intF; split; exact intA_id _ _ _; rfl
theorem intF_at (F : Nat → Acc) (n k : Nat) : intF F n k k = F k := by simp [intF]
theorem intF_zero (F : Nat → Acc) (n : Nat) : intF F n 0 = F := by funext i; simp [intF]
theorem intF_succ (F : Nat → Acc) (n k : Nat) : intF F n (k + 1) = fun i => if i = k then intA F n k else intF F n k i := by
  funext i
  unfold intF
  by_cases h : i = k
  · subst h; simp
  · by_cases h' : i < k
    · rw [if_pos (by omega), if_neg h, if_pos h']
    · rw [if_neg (by omega), if_neg h, if_neg h']
theorem postN_bd {A : Acc} (s : Int) (ho : okS A) : -3000000000 ≤ postN A s ∧ postN A s ≤ 3000000000 := by
  unfold postN
  split
  · rename_i h
    have := post_bd ho h.1
    omega
  · omega
theorem intS_bd {F : Nat → Acc} {n : Nat} (h : Right F n) : ∀ k, k ≤ n → -(3000000000 * (k : Int)) ≤ intS F n k ∧ intS F n k ≤ 3000000000 * (k : Int)
  | 0, _ => by simp [intS, sumTo]
  | k + 1, hk => by
    have ih := intS_bd h k (by omega)
    have e : intS F n (k + 1) = intS F n k + intN F n k := rfl
    have b : -3000000000 ≤ intN F n k ∧ intN F n k ≤ 3000000000 := by
      unfold intN
      split
      · exact postN_bd _ (h.2.1 k (by omega))
      · omega
    rw [e]
    omega
theorem Right.rises {F : Nat → Acc} {n : Nat} (h : Right F n) : Rises F n := fun _ _ hij hj => rising_lt h.2.2.1 hij hj
theorem Right.idwf {F : Nat → Acc} {n : Nat} (h : Right F n) : ∀ i, i < n → (Lit.int .i64 (F i).id).wf = true := fun i hi => by
  have := (h.2.1 i hi).1
  exact WalkArith.wf_i64 (by omega)
theorem Rises.congr {F F' : Nat → Acc} {n : Nat} (h : Rises F n) (e : ∀ i, (F' i).id = (F i).id) : Rises F' n := fun i j hij hj => by rw [e, e]; exact h i j hij hj

theorem Led.congr {w : World} {B b n : Nat} {F F' : Nat → Acc} {G : Nat → Nat} (h : Led w B b n F G) (e : ∀ i, i < n → F i = F' i) : Led w B b n F' G := by
  refine ⟨h.base, ?_, fun i hi => by rw [← e i hi]; exact h.acc i hi, h.one⟩
  rw [← ksOf_congr (F := F) (G := G) (fun i hi => ⟨by rw [e i hi], rfl⟩)]
  exact h.map
/-- One account of a ledger is changed. -/
theorem Led.upd {w w' : World} {B b n k : Nat} {F : Nat → Acc} {G : Nat → Nat} {A : Acc} (h : Led w B b n F G) (hk : k < n) (hg : w.grownBy w' (some (G k))) (hA : Box w' (G k) A) (hid : A.id = (F k).id) :
    Led w' B b n (fun i => if i = k then A else F i) G := by
  have hlt := h.map.lt
  refine ⟨h.base, ?_, fun i hi => ?_, h.one⟩
  · rw [ksOf_congr (F' := F) (G' := G) (fun i _ => ⟨by by_cases e : i = k <;> simp [e, hid], rfl⟩)]
    exact World.ownsMap.kept h.map hg (by simp; exact fun e => (h.acc k hk).2.1 e.symm)
  · refine ⟨(h.acc i hi).1, (h.acc i hi).2.1, ?_⟩
    by_cases e : i = k
    · subst e; simpa using hA
    · rw [if_neg e]
      exact (h.acc i hi).2.2.same (hg.block _ (h.acc i hi).2.2.2.2 (by simp; exact fun e' => e (h.one i k hi hk e')))

/-- What stays while accounts of the ledger alone are changed. -/
def Kept (v w : World) (n : Nat) (G : Nat → Nat) : Prop := v.heap.size ≤ w.heap.size ∧ ∀ j, j < v.heap.size → (∀ i, i < n → G i ≠ j) → w.heap[j]? = v.heap[j]?
theorem Kept.step {v w w' : World} {n k : Nat} {G : Nat → Nat} (h : Kept v w n G) (hk : k < n) (hg : w.grownBy w' (some (G k))) : Kept v w' n G :=
  ⟨Nat.le_trans h.1 hg.size, fun j hj hn => (hg.block j (Nat.lt_of_lt_of_le hj h.1) (by simp; exact fun e => hn k hk e.symm)).trans (h.2 j hj hn)⟩
theorem Kept.below {v w w' : World} {n : Nat} {G : Nat → Nat} (h : Kept v w n G) (hb : Below w.heap.size w w') : Kept v w' n G :=
  ⟨Nat.le_trans h.1 hb.size, fun j hj hn => (hb.block j (Nat.lt_of_lt_of_le hj h.1)).trans (h.2 j hj hn)⟩
theorem grown_of_below {w w' : World} {g : Nat} (h : Below w.heap.size w w') : w.grownBy w' (some g) := ⟨h.os, h.tape, h.output, h.size, fun i hi _ => h.block i hi⟩

theorem intF_skip {F : Nat → Acc} {n k : Nat} (h : ¬ earns (F k)) : intF F n (k + 1) = intF F n k := by
  rw [intF_succ]
  funext i
  by_cases e : i = k
  · subst e; simp [intF_at, intA, h]
  · simp [e]
theorem intS_skip {F : Nat → Acc} {n k : Nat} (h : ¬ earns (F k)) : intS F n (k + 1) = intS F n k := by
  have e : intS F n (k + 1) = intS F n k + intN F n k := rfl
  rw [e]
  simp [intN, h]
theorem intF_hit {F : Nat → Acc} {n k : Nat} (h : earns (F k)) : intF F n (k + 1) = fun i => if i = k then postA (F k) (sumAll F n k) else intF F n k i := by
  rw [intF_succ]
  simp [intA, h]
theorem intS_hit {F : Nat → Acc} {n k : Nat} (h : earns (F k)) : intS F n (k + 1) = intS F n k + postN (F k) (sumAll F n k) := by
  have e : intS F n (k + 1) = intS F n k + intN F n k := rfl
  rw [e]
  simp [intN, h]

set_option maxHeartbeats 2000000 in
theorem implInterest_yes (a : Option Addr) (n c : Nat) (F : Nat → Acc) (w : World) (h : Fo w a n F) (hR : Right F n) :
    Calls Try.prog 7 #[.slice a n c] w fun e w' => ∃ v, e = .returned (.tuple #[v, .int .i64 (intS F n n)]) ∧ AL w' w.heap.size v (accsOf (intF F n n) n) ∧ Below w.heap.size w w' := by
  have H : Hid (Fo w a n F) := h
  have HR : Hid (Right F n) := hR
  have hn := hR.1
  clear h hR
  go_enter Try.func7, Try.ntmps7
  go_wp2_with (first
    | (go_at_call 14; refine (implOk _ _ _ _ _ H.out).mono ?_; rintro e w0 ⟨b0, rfl, hb0, B0⟩; obtain rfl : b0 = true := hb0.2 HR.out; clear hb0)
    | (go_at_call 22; refine (ledgerOf a n c F w0 (H.out.below B0) HR.out.rises hn HR.out.idwf).mono ?_; rintro e w1 ⟨rfl, ⟨G, L1⟩, B1⟩)
    | (go_at_call 23; refine (ids _ _ n F G w1 HR.out.rises hn L1).mono ?_; rintro e w2 ⟨a2, c2, rfl, I2, B2⟩))
  have hs01 := B0.size
  have hs12 := B1.size
  have HI : Hid (∀ i, i < n → ∃ g, a2 = some ⟨g, 0, none⟩ ∧ w1.heap.size ≤ g ∧ g < w2.heap.size ∧ w2.cell? ⟨g, i, none⟩ = some (.int .i64 (F i).id)) := I2
  have HL : Hid (Led w2 w0.heap.size w0.heap.size n F G) := L1.below B2 (Nat.le_refl _)
  have HG1 : Hid (∀ i, i < n → G i < w1.heap.size) := fun i hi => (L1.acc i hi).2.2.2.2
  have HB2 : Hid (Below w.heap.size w w2) := B0.trans ((B1.trans (B2.mono hs12)).mono hs01)
  clear I2 L1 B0 B1 B2 hs12
  go_loopw [19, 5] (fun i p wr => ∃ k : Nat, k ≤ n ∧ i = .int .i64 k ∧ p = .int .i64 (intS F n k) ∧ Hid (Led wr w0.heap.size w0.heap.size n (intF F n k) G) ∧ Hid (Kept w2 wr n G) ∧ Hid (Below w.heap.size w wr)) (fun i _ _ => n - (ctr i).toNat)
  case atStart => exact ⟨0, Nat.zero_le _, rfl, rfl, by rw [intF_zero]; exact HL, ⟨Nat.le_refl _, fun _ _ _ => rfl⟩, HB2⟩
  case round =>
    obtain ⟨k, hk, rfl, rfl, hL, hK, hB⟩ := hrel
    by_cases hlt : k < n
    · obtain ⟨g, rfl, hg1, hg2, hc⟩ := HI.out k hlt
      have hc' : wr.cell? ⟨g, k, none⟩ = some (.int .i64 (F k).id) := by
        rw [← hc]
        unfold World.cell?
        simp only [hK.out.2 g hg2 (fun i hi e => by have := HG1.out i hi; omega)]
      have hlook := hL.out.look (HR.out.rises.congr (intF_id F n k)) hlt (by rw [intF_id]; exact HR.out.idwf k hlt)
      rw [intF_at] at hlook
      have hX : Hid (Box wr (G k) (F k)) := by have := (hL.out.acc k hlt).2.2; rw [intF_at] at this; exact this
      obtain ⟨c0, c1, c2, c3, c4, c5, c6, c7⟩ := hX.out.1
      have hGl := hX.out.2.2
      have hGb : w.heap.size ≤ G k := Nat.le_trans hs01 (hL.out.acc k hlt).1
      obtain ⟨s1, s2⟩ := intS_bd HR.out k hk
      have s3 : -36000000000 ≤ intS F n k := by omega
      have s4 : intS F n k ≤ 36000000000 := by omega
      clear hc hg1 hg2 s1 s2
      by_cases hu : (F k).up = 0
      · by_cases hr : (F k).rate = 0
        · have hE : Hid (¬ earns (F k)) := fun he => he.2 hr
          have hu' : ((F k).up == 0) = true := by simp [hu]
          have hr' : ((F k).rate != 0) = false := by simp [hr]
          have hr2 : ((F k).rate == 0) = true := by simp [hr]
          clear hu hr
          go_wp2
          go_roundw
          case rel => exact ⟨k + 1, by omega, by go_num, by rw [intS_skip hE.out], by rw [intF_skip hE.out]; exact hL, hK, hB⟩
          case measure => simp [ctr]; omega
        · have hE : Hid (earns (F k)) := ⟨hu, hr⟩
          have hO : Hid (okS (F k)) := HR.out.2.1 k hlt
          have hU : Hid ((F k).up = 0) := hu
          have hu' : ((F k).up == 0) = true := by simp [hu]
          have hr' : ((F k).rate != 0) = true := by simp [hr]
          have hr2 : ((F k).rate == 0) = false := by simp [hr]
          have hF : Hid (Fo wr a n F) := H.out.below hB.out
          obtain ⟨p1, p2⟩ := postN_bd (sumAll F n k) hO.out
          clear hu hr
          go_wp2_with (first
            | (go_at_call 11; refine (implSumOf_yes a n c F (F k).id k wr hF.out HR.out (place_self HR.out.2.2.1 hlt)).mono ?_; rintro e w3 ⟨rfl, B3⟩)
            | (go_at_call 24; refine (implPost (G k) (F k) (sumAll F n k) w3 (hX.out.below B3) hO.out hU.out).mono ?_; rintro e w4 ⟨rfl, X4, G4⟩))
          go_roundw
          case rel =>
            refine ⟨k + 1, by omega, by go_num, by rw [intS_hit hE.out], ?_, (hK.out.below B3).step hlt G4, ?_⟩
            · rw [intF_hit hE.out]
              exact (hL.out.below B3 (Nat.le_refl _)).upd hlt G4 X4 (by rw [postA_id, intF_id])
            · exact (hB.out.trans (B3.mono hB.out.size)).grown G4 (Nat.le_trans hB.out.size B3.size) (fun j hj => by cases hj; exact hGb)
          case measure => simp [ctr]; omega
      · have hE : Hid (¬ earns (F k)) := fun he => hu he.1
        have hu' : ((F k).up == 0) = false := by simp [hu]
        clear hu
        go_wp2
        go_roundw
        case rel => exact ⟨k + 1, by omega, by go_num, by rw [intS_skip hE.out], by rw [intF_skip hE.out]; exact hL, hK, hB⟩
        case measure => simp [ctr]; omega
    · obtain rfl : k = n := by omega
      have hs := hB.out.size
      go_wp2_with (go_at_call 25; refine (ledForest _ _ k _ G _ (HR.out.rises.congr (intF_id F k k)) hn (fun i hi => by rw [intF_id]; exact HR.out.idwf i hi) hL.out).mono ?_; rintro e w3 ⟨v, rfl, A3, B3⟩)
      refine bodyPost_ret (v := .tuple #[v, .int .i64 (intS F k k)]) (by simp [results, Try.results7, go_sem]) rfl ?_
      exact ⟨v, rfl, ⟨A3.1, A3.2.elim Or.inl (fun ⟨g, cap, cur, hv, hg, r⟩ => Or.inr ⟨g, cap, cur, hv, Nat.le_trans hs hg, r⟩)⟩, hB.out.trans (B3.mono hs)⟩

set_option maxHeartbeats 1000000 in
theorem implInterest_no (a : Option Addr) (n c : Nat) (F : Nat → Acc) (w : World) (h : Fo w a n F) (hR : ¬ Right F n) :
    Calls Try.prog 7 #[.slice a n c] w fun e w' => e = .returned (.tuple #[.slice none 0 0, .int .i64 0]) ∧ Below w.heap.size w w' := by
  have H : Hid (Fo w a n F) := h
  have HR : Hid (¬ Right F n) := hR
  clear h hR
  go_enter Try.func7, Try.ntmps7
  go_wp2_with (go_at_call 14; refine (implOk _ _ _ _ _ H.out).mono ?_; rintro e w0 ⟨b0, rfl, hb0, B0⟩; obtain rfl : b0 = false := by cases b0 with | true => exact absurd (hb0.1 rfl) HR.out | false => rfl)
  refine bodyPost_ret (v := .tuple #[.slice none 0 0, .int .i64 0]) (by simp [results, Try.results7, go_sem]) rfl ?_
  exact ⟨rfl, B0⟩
end Go.Proofs.Ytleblllofibfkaa
