/- Numerals with zeros ahead, of the specification and of the program. Conditions: numbers from 0 to 9999; of the program: the library's table of powers of ten as its text lays it. -/
import Derived.Test.YtenlgmjlblggmaaDoorDec
namespace Go.Proofs.YtenlgmjlblggmaaDoor
open Go.RowKit

/-- Zeros ahead, up to a width. -/
def pad (l : List UInt8) (k : Nat) : List UInt8 := List.replicate (k - l.length) 48 ++ l
theorem pad_more {l : List UInt8} {k : Nat} (h : l.length < k) : pad (48 :: l) k = pad l k := by
  unfold pad
  have e : k - l.length = (k - (48 :: l).length) + 1 := by simp; omega
  rw [e, List.replicate_succ', List.append_assoc]
  rfl
theorem pad_done {l : List UInt8} {k : Nat} (h : k ≤ l.length) : pad l k = l := by
  unfold pad
  rw [show k - l.length = 0 by omega]
  rfl
def sizeS : Value → Nat | .string b => b.size | _ => 0

set_option maxHeartbeats 400000 in
theorem specPad (n k : Nat) (w : World) (hn : n ≤ 9999) (hk : k ≤ 4) :
    Calls Tryd.prog 16 #[.int .i64 n, .int .i64 k] w fun e w' => e = .returned (.string ⟨(pad (Lib.decDigits n) k).toArray⟩) ∧ Below w.heap.size w w' := by
  go_enter Tryd.func16, Tryd.ntmps16
  go_wp2_with fail
  refine (specDec n _ hn).mono ?_
  rintro e w1 ⟨rfl, B1⟩
  have B1' : Hid (Below w.heap.size w w1) := B1
  clear B1
  go_wp2
  go_loop [5] (fun s => ∃ l : List UInt8, s = .string ⟨l.toArray⟩ ∧ Hid (pad l k = pad (Lib.decDigits n) k)) (fun s => k - sizeS s)
  case atStart => exact ⟨Lib.decDigits n, rfl, (rfl : pad (Lib.decDigits n) k = pad (Lib.decDigits n) k)⟩
  case round =>
    obtain ⟨l, rfl, hp⟩ := hrel
    by_cases hl : l.length < k
    · have hl' : (l.length : Int) < (k : Int) := by omega
      have HP : Hid (pad (48 :: l) k = pad (Lib.decDigits n) k) := (by rw [pad_more hl]; exact hp.out : pad (48 :: l) k = pad (Lib.decDigits n) k)
      go_wp2
      go_round
      case rel => exact ⟨48 :: l, congrArg Value.string (str_app [48] l), HP⟩
      case measure => simp [sizeS, ByteArray.size]; omega
    · have hl' : (k : Int) ≤ (l.length : Int) := by omega
      have HP : Hid (pad (Lib.decDigits n) k = l) := (by rw [← hp.out]; exact pad_done (by omega) : pad (Lib.decDigits n) k = l)
      go_wp2
      go_ret
      rw [HP.out]
      exact ⟨rfl, B1'.out⟩
/-- The library's table of powers of ten, as its text lays it. -/
def Pow (w : World) : Prop := Lib.TabIs Tryd.prog w "internal/strconv.uint64pow10" .u64 Lib.pow10Tab
theorem itoa_nat (n : Nat) : Lib.itoa (n : Int) = Lib.decDigits n := by
  unfold Lib.itoa
  rw [if_neg (by omega)]
  rfl

set_option maxHeartbeats 400000 in
theorem implPad (n k : Nat) (w : World) (hn : n ≤ 9999) (hk : k ≤ 4) (ht : Pow w) :
    Calls Tryd.prog 18 #[.int .i64 n, .int .i64 k] w fun e w' => e = .returned (.string ⟨(pad (Lib.decDigits n) k).toArray⟩) ∧ Below w.heap.size w w' := by
  have T : Hid (Pow w) := ht
  clear ht
  have FI : Hid (∀ w', Pow w' → Calls Tryd.prog 29 #[.int .i64 n, .int .i64 10] w' fun e w'' => e = .returned (.string ⟨(Lib.decDigits n).toArray⟩) ∧ Below w'.heap.size w' w'') := fun w' h' => by
    have := formatInt n (by omega) (by omega) w' h'
    rw [itoa_nat] at this
    refine this.mono fun e w'' ⟨he, kk, os, hw⟩ => ⟨he, ?_⟩
    rw [hw]
    exact ⟨rfl, rfl, rfl, by simp [Sort.grow, World.drewN], fun q hq => by simp [Sort.grow, World.drewN]; rw [Array.getElem?_append_left hq]⟩
  go_enter Tryd.func18, Tryd.ntmps18
  go_wp2_with fail
  refine (FI.out _ T.out).mono ?_
  rintro e w1 ⟨rfl, B1⟩
  have B1' : Hid (Below w.heap.size w w1) := B1
  clear B1
  go_wp2
  go_loop [5] (fun s => ∃ l : List UInt8, s = .string ⟨l.toArray⟩ ∧ Hid (pad l k = pad (Lib.decDigits n) k)) (fun s => k - sizeS s)
  case atStart => exact ⟨Lib.decDigits n, rfl, (rfl : pad (Lib.decDigits n) k = pad (Lib.decDigits n) k)⟩
  case round =>
    obtain ⟨l, rfl, hp⟩ := hrel
    by_cases hl : l.length < k
    · have hl' : (l.length : Int) < (k : Int) := by omega
      have HP : Hid (pad (48 :: l) k = pad (Lib.decDigits n) k) := (by rw [pad_more hl]; exact hp.out : pad (48 :: l) k = pad (Lib.decDigits n) k)
      go_wp2
      go_round
      case rel => exact ⟨48 :: l, congrArg Value.string (str_app [48] l), HP⟩
      case measure => simp [sizeS, ByteArray.size]; omega
    · have hl' : (k : Int) ≤ (l.length : Int) := by omega
      have HP : Hid (pad (Lib.decDigits n) k = l) := (by rw [← hp.out]; exact pad_done (by omega) : pad (Lib.decDigits n) k = l)
      go_wp2
      go_ret
      rw [HP.out]
      exact ⟨rfl, B1'.out⟩
end Go.Proofs.YtenlgmjlblggmaaDoor
