/- Decimal numerals of both sides. Conditions: numbers of at most sixteen digits; of the program: the library's table of powers of ten as its text lays it. -/
import Derived.Test.YtedhlmipcfdldaaGreatDoorFmt
import Derived.Test.YtedhlmipcfdldaaGreatDoorRows
import Derived.Test.YtedhlmipcfdldaaGreatDoorChecked
import Derived.WalkKit
import Derived.WalkLawsBesides
import Derived.Below
import Derived.Deep.QuietTactic
import Derived.BigQuiet
import Derived.Laws.BytesString
import Derived.Laws.Concat
namespace Go.Proofs.YtedhlmipcfdldaaGreatDoor
open Go.RowKit

theorem conv_one (x : Int) (w : World) : (convert 88 9 (.slice (some ⟨w.heap.size, 0, none⟩) 1 1)).run Tryz.prog (w.alloc (.cells #[.int .u8 x] 5)) = .ok (.string ⟨#[UInt8.ofNat x.toNat]⟩) (w.alloc (.cells #[.int .u8 x] 5)) := by
  rw [run_convert_bytes_string _ 88 9 5 _ 1 1 Tryz.underlying88 Tryz.underlying5 Tryz.underlying9, run_bytesToString _ ⟨w.heap.size, 0, none⟩ 1 1 [x] (by simp [loadCells, go_sem])]
  rfl
theorem str_app (a b : List UInt8) : (⟨a.toArray⟩ : ByteArray) ++ ⟨b.toArray⟩ = ⟨(a ++ b).toArray⟩ := by
  apply ByteArray.ext
  simp
theorem one_app (k : Nat) (t : List UInt8) : Value.string ((⟨#[48 + UInt8.ofNat k]⟩ : ByteArray) ++ ⟨t.toArray⟩) = .string ⟨(UInt8.ofNat (48 + k) :: t).toArray⟩ := by
  have e : (48 : UInt8) + UInt8.ofNat k = UInt8.ofNat (48 + k) := by simp [UInt8.ofNat_add]
  rw [e]
  exact congrArg Value.string (str_app [UInt8.ofNat (48 + k)] t)
theorem dec_big {u : Nat} (h : 10 ≤ u) : Lib.decDigits u = Lib.decDigits (u / 10) ++ [UInt8.ofNat (48 + u % 10)] := by rw [Lib.decDigits, dif_neg (by omega)]
theorem dec_small {u : Nat} (h : u < 10) : Lib.decDigits u = [UInt8.ofNat (48 + u)] := by rw [Lib.decDigits, dif_pos h]
/-- What is left and how much is written. -/
def DecIn (u k : Nat) : Prop := u * 10 ^ k ≤ 10000000000000000 ∧ k ≤ 16
theorem DecIn.step {u k : Nat} (h : DecIn u k) (hu : 10 ≤ u) : DecIn (u / 10) (k + 1) := by
  have h1 : 10 ^ k ≤ 10 ^ 15 := by
    have : 10 * 10 ^ k ≤ u * 10 ^ k := Nat.mul_le_mul_right _ hu
    have := h.1
    omega
  have h2 : k ≤ 15 := (Nat.pow_le_pow_iff_right (by omega)).1 h1
  refine ⟨?_, by omega⟩
  have e : u / 10 * 10 ^ (k + 1) = (u / 10 * 10) * 10 ^ k := by rw [Nat.pow_succ]; rw [Nat.mul_comm (10 ^ k) 10, Nat.mul_assoc]
  rw [e]
  exact Nat.le_trans (Nat.mul_le_mul_right _ (Nat.div_mul_le_self u 10)) h.1

set_option maxHeartbeats 1000000 in
theorem specDec0 (n : Nat) (w : World) (hn : n ≤ 10000000000000000) :
    Calls Tryz.prog 54 #[.int .i64 n] w fun e w' => e = .returned (.string ⟨(Lib.decDigits n).toArray⟩) ∧ Below w.heap.size w w' := by
  have cv := conv_one
  go_enter Tryz.func54, Tryz.ntmps54
  go_wp2
  go_loopw [0, 3] (fun x s wr => ∃ (u : Nat) (t : List UInt8), u ≤ 10000000000000000 ∧ t.length ≤ 16 ∧ x = .int .i64 u ∧ s = .string ⟨t.toArray⟩ ∧ Hid (DecIn u t.length) ∧ Hid (Lib.decDigits n = Lib.decDigits u ++ t) ∧ Hid (Below w.heap.size w wr)) (fun x _ _ => (intOf x).toNat)
  case atStart => exact ⟨n, [], hn, by simp, rfl, rfl, ⟨by simpa using hn, by simp⟩, (by simp : Lib.decDigits n = Lib.decDigits n ++ []), Below.refl _ _⟩
  case round =>
    obtain ⟨u, t, hu, ht, rfl, rfl, hI, hd, hB⟩ := hrel
    by_cases h10 : 10 ≤ u
    · have h10' : (10 : Int) ≤ (u : Int) := by omega
      have HD : Hid (Lib.decDigits n = Lib.decDigits (u / 10) ++ (UInt8.ofNat (48 + u % 10) :: t)) := (by rw [hd.out, dec_big h10]; simp : Lib.decDigits n = Lib.decDigits (u / 10) ++ (UInt8.ofNat (48 + u % 10) :: t))
      have HI : Hid (DecIn (u / 10) (UInt8.ofNat (48 + u % 10) :: t).length) := hI.out.step h10
      go_wp2
      go_roundw
      case rel => exact ⟨u / 10, UInt8.ofNat (48 + u % 10) :: t, by omega, HI.out.2, by go_num, one_app _ _, HI, HD, hB.out.alloc hB.out.size _⟩
      case measure => simp [intOf]; omega
    · have h10' : (u : Int) < 10 := by omega
      have HD : Hid (Lib.decDigits n = UInt8.ofNat (48 + u) :: t) := (by rw [hd.out, dec_small (by omega)]; rfl : Lib.decDigits n = UInt8.ofNat (48 + u) :: t)
      go_wp2
      go_ret
      rw [HD.out]
      exact ⟨congrArg Ending.returned (one_app u t), hB.out.alloc hB.out.size _⟩
theorem itoa_nat (n : Nat) : Lib.itoa (n : Int) = Lib.decDigits n := by
  unfold Lib.itoa
  rw [if_neg (by omega)]
  simp
theorem itoa_neg (n : Nat) (h : 0 < n) : Lib.itoa (-(n : Int)) = 45 :: Lib.decDigits n := by
  unfold Lib.itoa
  rw [if_pos (by omega)]
  simp
theorem dec_len : ∀ (k n : Nat), n < 10 ^ (k + 1) → (Lib.decDigits n).length ≤ k + 1
  | 0, n, h => by rw [dec_small (by simpa using h)]; simp
  | k + 1, n, h => by
    by_cases h10 : 10 ≤ n
    · rw [dec_big h10]
      have : n / 10 < 10 ^ (k + 1) := by
        rw [Nat.div_lt_iff_lt_mul (by omega)]
        rw [Nat.pow_succ] at h
        exact h
      have := dec_len k (n / 10) this
      simp
      omega
    · rw [dec_small (by omega)]; simp
/-- Numbers of at most sixteen digits. -/
def Sml (n : Int) : Prop := -10000000000000000 ≤ n ∧ n ≤ 10000000000000000
theorem itoa_len {n : Int} (h : Sml n) : (Lib.itoa n).length ≤ 18 := by
  obtain ⟨h0, h1⟩ := h
  by_cases hn : 0 ≤ n
  · obtain ⟨m, rfl⟩ := Int.eq_ofNat_of_zero_le hn
    rw [itoa_nat]
    have := dec_len 16 m (by omega)
    omega
  · obtain ⟨m, hm⟩ := Int.eq_ofNat_of_zero_le (show 0 ≤ -n by omega)
    obtain rfl : n = -(m : Int) := by omega
    rw [itoa_neg m (by omega)]
    have := dec_len 16 m (by omega)
    simp
    omega
theorem add_run (x y : ByteArray) (hx : x.size ≤ 10000000) (hy : y.size ≤ 10000000) (W : World) : (Op.stringOp .add x y).run Tryz.prog W = .ok (.string (x ++ y)) W := run_string_add_sum W x y (by omega)

set_option maxHeartbeats 1000000 in
theorem specDec (n : Int) (w : World) (hn : Sml n) :
    Calls Tryz.prog 54 #[.int .i64 n] w fun e w' => e = .returned (.string ⟨(Lib.itoa n).toArray⟩) ∧ Below w.heap.size w w' := by
  obtain ⟨h0, h1⟩ := hn
  by_cases hp : 0 ≤ n
  · obtain ⟨m, rfl⟩ := Int.eq_ofNat_of_zero_le hp
    rw [itoa_nat]
    exact specDec0 m w (by omega)
  · obtain ⟨m, hm⟩ := Int.eq_ofNat_of_zero_le (show 0 ≤ -n by omega)
    obtain rfl : n = -(m : Int) := by omega
    have hm0 : 0 < m := by omega
    rw [itoa_neg m hm0]
    have hneg : -(m : Int) < 0 := by omega
    have hmb : (m : Int) ≤ 10000000000000000 := by omega
    have hl := dec_len 16 m (by omega)
    have C := fun W => specDec0 m W (by omega)
    have hadd := add_run ⟨#[45]⟩ ⟨(Lib.decDigits m).toArray⟩ (by show (1 : Nat) ≤ _; omega) (by show (Lib.decDigits m).toArray.size ≤ _; simp; omega)
    rw [show (⟨#[45]⟩ : ByteArray) ++ ⟨(Lib.decDigits m).toArray⟩ = ⟨(45 :: Lib.decDigits m).toArray⟩ from str_app [45] _] at hadd
    clear hm hp h0 h1
    generalize Lib.decDigits m = l at *
    go_enter Tryz.func54, Tryz.ntmps54
    go_wp2_with fail
    refine (C _).mono ?_
    rintro e w1 ⟨rfl, B1⟩
    have HB : Hid (Below w.heap.size w w1) := B1
    clear B1 C
    go_wp2
    go_ret
    exact ⟨rfl, HB.out⟩
end Go.Proofs.YtedhlmipcfdldaaGreatDoor
