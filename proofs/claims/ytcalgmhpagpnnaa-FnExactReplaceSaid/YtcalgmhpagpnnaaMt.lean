/- The laws' marks: texts that are told by numbers. Conditions: numbers from 1 to 100000000. -/
import Derived.Test.YtcalgmhpagpnnaaTd
import Derived.Laws.BytesArg
import Derived.Laws.Concat
namespace Go.Proofs.Ytcalgmhpagpnnaa
open Go.RowKit
set_option maxRecDepth 8000

/-- The digits of a number ahead of what is there. -/
def digs : Nat → Nat → ByteArray → ByteArray
  | 0, _, o => o
  | f + 1, k, o => if k = 0 then o else digs f (k / 10) (strOfNums [(48 : Int) + (k : Int) % 10] ++ o)
theorem digs_zero (f : Nat) (o : ByteArray) : digs f 0 o = o := by cases f <;> simp [digs]
def markT (k : Nat) : ByteArray := ⟨#[109]⟩ ++ digs k k ⟨#[]⟩
def mt (z : Int) : ByteArray := markT z.toNat
theorem add_str (W : World) (x y : ByteArray) (h : x.size + y.size ≤ 9223372036854775807) : (Op.stringOp .add x y).run Try.prog W = .ok (.string (x ++ y)) W := by
  have h' : ¬ ((x.size + y.size : Nat) : Int) > IntKind.i64.max := by
    have : IntKind.i64.max = 9223372036854775807 := rfl
    omega
  unfold Op.stringOp
  simp only
  rw [if_neg h']
  rfl
theorem conv1 (w : World) (a : Int) : Sem.run Try.prog (convert 22 9 (.slice (some ⟨w.heap.size, 0, none⟩) 1 1)) (w.alloc (.cells #[.int .u8 a] 5)) = .ok (.string (strOfNums [a])) (w.alloc (.cells #[.int .u8 a] 5)) :=
  run_convert_bytes_arg (P := Try.prog) _ 22 5 Try.underlying22 Try.underlying5 w.heap.size 0 1 1 [a] rfl (fun i hi => by
    obtain rfl : i = 0 := by omega
    simp [go_sem]) 9 Try.underlying9
theorem nums1 (a : Int) : (strOfNums [a]).size = 1 := rfl

set_option maxHeartbeats 1000000 in
theorem markTextN (k : Nat) (w : World) (h1 : 1 ≤ k) (h2 : k ≤ 100000000) :
    Calls Try.prog 90 #[.int .i64 k] w fun e w' => e = .returned (.string (markT k)) ∧ Below w.heap.size w w' := by
  have h1' : ¬ (k : Int) ≤ 0 := by omega
  have B0 : Hid (Below w.heap.size w w) := Below.refl _ _
  go_enter Try.func90, Try.ntmps90
  go_wp2
  go_loopw [0, 3] (fun t o wr => ∃ (f m : Nat) (x : ByteArray), t = .int .i64 m ∧ o = .string x ∧ m ≤ f ∧ f ≤ k ∧ Hid (x.size + f ≤ 100000000) ∧ Hid (digs f m x = digs k k ⟨#[]⟩) ∧ Hid (Below w.heap.size w wr)) (fun t _ _ => (intOf t).toNat)
  case atStart => exact ⟨k, k, ⟨#[]⟩, rfl, rfl, Nat.le_refl _, Nat.le_refl _, (by rw [show (⟨#[]⟩ : ByteArray).size = 0 from rfl]; omega : (⟨#[]⟩ : ByteArray).size + k ≤ 100000000), rfl, B0⟩
  case round =>
    obtain ⟨f, m, x, rfl, rfl, hf, hfk, hx, hd, hB⟩ := hrel
    clear B0
    by_cases h0 : 0 < m
    · have h0' : (0 : Int) < (m : Int) := by omega
      obtain ⟨f', rfl⟩ : ∃ f', f = f' + 1 := ⟨f - 1, by omega⟩
      have HD : Hid (digs f' (m / 10) (strOfNums [(48 : Int) + (m : Int) % 10] ++ x) = digs k k ⟨#[]⟩) := by
        have := hd.out
        rw [digs, if_neg (by omega)] at this
        exact this
      have hc := conv1 wr (48 + (m : Int) % 10)
      have hxs := hx.out
      have ha : ∀ W, (Op.stringOp .add (strOfNums [(48 : Int) + (m : Int) % 10]) x).run Try.prog W = .ok (.string (strOfNums [(48 : Int) + (m : Int) % 10] ++ x)) W := fun W => add_str W _ _ (by rw [nums1]; omega)
      have HX : Hid ((strOfNums [(48 : Int) + (m : Int) % 10] ++ x : ByteArray).size + f' ≤ 100000000) := (by rw [ByteArray.size_append, nums1]; omega : (strOfNums [(48 : Int) + (m : Int) % 10] ++ x : ByteArray).size + f' ≤ 100000000)
      have BB : Hid (Below w.heap.size w (wr.alloc (.cells #[.int .u8 (48 + (m : Int) % 10)] 5))) := hB.out.alloc hB.out.size _
      clear hd hx hxs
      go_wp2
      go_roundw
      case rel => exact ⟨f', m / 10, _, by go_num, rfl, by omega, by omega, HX, HD, BB⟩
      case measure => simp [intOf]; omega
    · have hm0 : m = 0 := by omega
      subst hm0
      have hr := hd.out
      rw [digs_zero] at hr
      have hxs := hx.out
      have ha : ∀ W, (Op.stringOp .add ⟨#[109]⟩ x).run Try.prog W = .ok (.string (⟨#[109]⟩ ++ x)) W := fun W => add_str W _ _ (by have : (⟨#[109]⟩ : ByteArray).size = 1 := rfl; rw [this]; omega)
      have HM : Hid (⟨#[109]⟩ ++ x = markT k) := by show ⟨#[109]⟩ ++ x = markT k; unfold markT; rw [hr]
      clear hr hd hx hxs
      go_wp2
      go_ret
      exact ⟨by rw [← HM.out]; rfl, hB.out⟩
theorem markText (z : Int) (w : World) (h1 : 1 ≤ z) (h2 : z ≤ 100000000) :
    Calls Try.prog 90 #[.int .i64 z] w fun e w' => e = .returned (.string (mt z)) ∧ Below w.heap.size w w' := by
  have := markTextN z.toNat w (by omega) (by omega)
  rwa [Int.toNat_of_nonneg (by omega)] at this
theorem grown_tr {a b c : World} {row : Option Nat} (h : a.grownBy b row) (k : b.grownBy c row) : a.grownBy c row :=
  ⟨k.os.trans h.os, k.tape.trans h.tape, k.output.trans h.output, Nat.le_trans h.size k.size, fun q hq hn => (k.block q (Nat.lt_of_lt_of_le hq h.size) hn).trans (h.block q hq hn)⟩
theorem grown_be {a b : World} {row : Option Nat} (h : Below a.heap.size a b) : a.grownBy b row := ⟨h.os, h.tape, h.output, h.size, fun q hq _ => h.block q hq⟩
theorem over_cell {w v : World} {p : Addr} (h : p.block < w.heap.size) : (over w v).cell? p = w.cell? p := World.cell?_of_block (w := w) (over_block w v p.block h)
end Go.Proofs.Ytcalgmhpagpnnaa
