/- The first frame of a string: what the program finds. Conditions: what a string is at most long. -/
import Derived.Test.YthmmlcmeaokdnaaFrm
import Derived.Deep.QuietTactic
import Derived.BigQuiet
namespace Go.Proofs.Ythmmlcmeaokdnaa
open Go.RowKit

/-- The byte at a place; none is 0. -/
def byteAt (t : ByteArray) (k : Nat) : Nat := if h : k < t.size then t[k].toNat else 0
theorem byteAt_lt (t : ByteArray) (k : Nat) : byteAt t k < 256 := by
  unfold byteAt
  split
  · exact UInt8.toNat_lt _
  · omega
theorem byteAt_eq {t : ByteArray} {k : Nat} (h : k < t.size) : byteAt t k = t[k].toNat := by simp [byteAt, h]
def sizeN (t : ByteArray) : Nat := byteAt t 0 * 16777216 + byteAt t 1 * 65536 + byteAt t 2 * 256 + byteAt t 3
def dataB (t : ByteArray) : ByteArray := t.extract 8 (8 + sizeN t)
def Fine (t : ByteArray) : Prop := 8 ≤ t.size ∧ sizeN t ≤ 100000 ∧ 8 + sizeN t ≤ t.size ∧ (⟨(headB (dataB t)).toArray⟩ : ByteArray) = t.extract 0 8

theorem below_drewQ {B : Nat} {w w' : World} (h : Below B w w') (q : Nat) : Below B w (w'.drewN q) := ⟨h.os, h.tape, h.output, h.size, h.block⟩
theorem first_short (t : ByteArray) (w : World) (h : t.size < 8) :
    Calls Try.prog 21 #[.string t] w fun e w' => e = .returned (.tuple #[.string ⟨#[]⟩, .bool false]) ∧ Below w.heap.size w w' := by
  go_enter Try.func21, Try.ntmps21
  go_wp2
  go_ret2
  exact ⟨rfl, Below.refl _ _⟩

theorem i64_or_nat (a b : Nat) (ha : a < 9223372036854775808) (hb : b < 9223372036854775808) : bits .or .i64 (a : Int) (b : Int) = ((a ||| b : Nat) : Int) := by
  have hx : a ||| b < 2 ^ 63 := Nat.or_lt_two_pow (by omega) (by omega)
  show IntKind.i64.wrap ((BitVec.ofInt 64 (a : Int) ||| BitVec.ofInt 64 (b : Int)).toNat : Int) = _
  rw [BitVec.toNat_or, ofInt_u64 a (by omega), ofInt_u64 b (by omega), IntKind.wrap_i64]
  omega
theorem or_join (a b : Nat) (i : Nat) (ha : a < 9223372036854775808) (hm : a % 2 ^ i = 0) (hb : b < 2 ^ i) (hi : 2 ^ i ≤ 9223372036854775808) : bits .or .i64 (a : Int) (b : Int) = ((a + b : Nat) : Int) := by
  rw [i64_or_nat a b ha (by omega), nat_join i a b hm hb]
theorem size_bitsN (a b c d : Nat) (ha : a < 256) (hb : b < 256) (hc : c < 256) (hd : d < 256) : bits .or .i64 (bits .or .i64 (bits .or .i64 ((a : Int) * 16777216) ((b : Int) * 65536)) ((c : Int) * 256)) (d : Int) = ((a * 16777216 + b * 65536 + c * 256 + d : Nat) : Int) := by
  rw [show (a : Int) * 16777216 = ((a * 16777216 : Nat) : Int) by omega, show (b : Int) * 65536 = ((b * 65536 : Nat) : Int) by omega, show (c : Int) * 256 = ((c * 256 : Nat) : Int) by omega]
  rw [or_join _ _ 24 (by omega) (by omega) (by omega) (by omega), or_join _ _ 16 (by omega) (by omega) (by omega) (by omega), or_join _ _ 8 (by omega) (by omega) (by omega) (by omega)]
theorem size_bits {t : ByteArray} (h : 8 ≤ t.size) : bits .or .i64 (bits .or .i64 (bits .or .i64 ((t[0].toNat : Int) * 16777216) ((t[1].toNat : Int) * 65536)) ((t[2].toNat : Int) * 256)) (t[3].toNat : Int) = (sizeN t : Int) := by
  rw [size_bitsN _ _ _ _ t[0].toNat_lt t[1].toNat_lt t[2].toNat_lt t[3].toNat_lt]
  unfold sizeN
  rw [byteAt_eq (by omega), byteAt_eq (by omega), byteAt_eq (by omega), byteAt_eq (by omega)]
def FirstIs (t : ByteArray) (w : World) (e : Ending) (w' : World) : Prop := ∃ x b, e = .returned (.tuple #[.string x, .bool b]) ∧ (b = true ↔ Fine t) ∧ (b = true → x = dataB t) ∧ Below w.heap.size w w'
theorem first_no {t : ByteArray} {w w' : World} {x : ByteArray} (h : ¬ Fine t) (hb : Below w.heap.size w w') : FirstIs t w (.returned (.tuple #[.string x, .bool false])) w' := ⟨x, false, rfl, by simp [h], by simp, hb⟩
theorem head_eq (l : List UInt8) (x : ByteArray) : ((l == x.toList) = true) ↔ (⟨l.toArray⟩ : ByteArray) = x := by
  rw [ByteArray.toList_eq, beq_iff_eq]
  constructor
  · intro e
    rw [e]
  · intro e
    rw [← e]
theorem first_yes {t d : ByteArray} {w w' : World} (hd : d = dataB t) (h : 8 ≤ t.size) (h1 : sizeN t ≤ 100000) (h2 : 8 + sizeN t ≤ t.size) (hb : Below w.heap.size w w') :
    FirstIs t w (.returned (.tuple #[.string d, .bool (headB d == (t.extract 0 8).toList)])) w' := by
  refine ⟨d, _, rfl, ?_, fun _ => hd, hb⟩
  rw [head_eq]
  unfold Fine
  rw [← hd]
  simp [h, h1, h2]
set_option maxHeartbeats 2000000 in
theorem first_long (t : ByteArray) (w : World) (h : 8 ≤ t.size) (hm : t.size ≤ 1048576) :
    Calls Try.prog 21 #[.string t] w fun e w' => FirstIs t w e w' := by
  have h0 : 0 < t.size := by omega
  have h1 : 1 < t.size := by omega
  have h2 : 2 < t.size := by omega
  have h3 : 3 < t.size := by omega
  have i1 : (1 : Int) < (t.size : Int) := by omega
  have i2 : (2 : Int) < (t.size : Int) := by omega
  have i3 : (3 : Int) < (t.size : Int) := by omega
  have b0 := t[0].toNat_lt
  have b1 := t[1].toNat_lt
  have b2 := t[2].toNat_lt
  have b3 := t[3].toNat_lt
  have HS := size_bits h
  have hsl : sizeN t < 4294967296 := by have := byteAt_lt t 0; have := byteAt_lt t 1; have := byteAt_lt t 2; have := byteAt_lt t 3; unfold sizeN; omega
  obtain ⟨n, hn⟩ : ∃ n, n = sizeN t := ⟨_, rfl⟩
  have HN : Hid (n = sizeN t) := hn
  rw [← hn] at HS hsl
  clear hn
  go_enter Try.func21, Try.ntmps21
  go_wp2
  go_quiet (fail)
  by_cases c1 : 100000 < n
  · have c1' : (100000 : Int) < (n : Int) := by omega
    have HF : Hid (¬ Fine t) := fun hf => by have := hf.2.1; rw [← HN.out] at this; omega
    go_wp2
    go_ret2
    exact first_no HF.out (below_drewQ (Below.refl _ _) _)
  by_cases c2 : t.size < 8 + n
  · have c2' : (t.size : Int) - 8 < (n : Int) := by omega
    have c1' : ¬ (100000 : Int) < (n : Int) := by omega
    have HF : Hid (¬ Fine t) := fun hf => by have := hf.2.2.1; rw [← HN.out] at this; omega
    go_wp2
    go_ret2
    exact first_no HF.out (below_drewQ (Below.refl _ _) _)
  have c1' : ¬ (100000 : Int) < (n : Int) := by omega
  have c2' : ¬ (t.size : Int) - 8 < (n : Int) := by omega
  have c3 : (8 : Int) + (n : Int) ≤ (t.size : Int) := by omega
  have c4 : (0 : Int) ≤ 8 + (n : Int) := by omega
  have c5 : (8 : Int) ≤ 8 + (n : Int) := by omega
  have c6 : (8 : Int) ≤ (t.size : Int) := by omega
  go_wp2
  obtain ⟨d, hd⟩ : ∃ d, d = t.extract 8 (8 + n) := ⟨_, rfl⟩
  have hds : d.size = n := by rw [hd, ByteArray.size_extract]; omega
  have HC : Hid (∀ w, Calls Try.prog 23 #[.string d] w fun e w' => e = .returned (.string ⟨(headB d).toArray⟩) ∧ Below w.heap.size w w') := fun w => head_any d w (by omega)
  have HD : Hid (d = dataB t) := by show d = dataB t; rw [hd]; unfold dataB; rw [← HN.out]
  rw [← hd]
  clear hd hds
  go_region_with (first | (go_at_call 23; refine (HC.out _).mono ?_; rintro e w' ⟨rfl, B1⟩))
  all_goals go_wp2
  all_goals go_ret2
  all_goals exact first_yes HD.out h (by rw [← HN.out]; omega) (by rw [← HN.out]; omega) ((below_drewQ (Below.refl _ _) _).trans B1)
theorem first_any (t : ByteArray) (w : World) (hm : t.size ≤ 1048576) : Calls Try.prog 21 #[.string t] w fun e w' => FirstIs t w e w' := by
  by_cases h : 8 ≤ t.size
  · exact first_long t w h hm
  · exact (first_short t w (by omega)).mono fun e w' ⟨he, hb⟩ => by rw [he]; exact first_no (fun hf => h hf.1) hb
end Go.Proofs.Ythmmlcmeaokdnaa
