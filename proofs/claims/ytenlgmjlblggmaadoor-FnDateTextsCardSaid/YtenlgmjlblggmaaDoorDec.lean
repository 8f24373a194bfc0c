/- The specification's decimal numeral. Conditions: numbers from 0 to 9999. -/
import Derived.Test.YtenlgmjlblggmaaDoorOk
import Derived.Test.YtenlgmjlblggmaaDoorFmt
import Derived.Laws.BytesString
namespace Go.Proofs.YtenlgmjlblggmaaDoor
open Go.RowKit

theorem conv_one (x : Int) (w : World) : (convert 32 9 (.slice (some ⟨w.heap.size, 0, none⟩) 1 1)).run Tryd.prog (w.alloc (.cells #[.int .u8 x] 5)) = .ok (.string ⟨#[UInt8.ofNat x.toNat]⟩) (w.alloc (.cells #[.int .u8 x] 5)) := by
  rw [run_convert_bytes_string _ 32 9 5 _ 1 1 Tryd.underlying32 Tryd.underlying5 Tryd.underlying9, run_bytesToString _ ⟨w.heap.size, 0, none⟩ 1 1 [x] (by simp [loadCells, go_sem])]
  rfl

theorem str_app (a b : List UInt8) : (⟨a.toArray⟩ : ByteArray) ++ ⟨b.toArray⟩ = ⟨(a ++ b).toArray⟩ := by
  apply ByteArray.ext
  simp
theorem one_app (k : Nat) (t : List UInt8) : Value.string ((⟨#[48 + UInt8.ofNat k]⟩ : ByteArray) ++ ⟨t.toArray⟩) = .string ⟨(UInt8.ofNat (48 + k) :: t).toArray⟩ := by
  have e : (48 : UInt8) + UInt8.ofNat k = UInt8.ofNat (48 + k) := by simp [UInt8.ofNat_add]
  rw [e]
  exact congrArg Value.string (str_app [UInt8.ofNat (48 + k)] t)
theorem dec_big {u : Nat} (h : 10 ≤ u) : Lib.decDigits u = Lib.decDigits (u / 10) ++ [UInt8.ofNat (48 + u % 10)] := by rw [Lib.decDigits, dif_neg (by omega)]
theorem dec_small {u : Nat} (h : u < 10) : Lib.decDigits u = [UInt8.ofNat (48 + u)] := by rw [Lib.decDigits, dif_pos h]

set_option maxHeartbeats 400000 in
theorem specDec (n : Nat) (w : World) (hn : n ≤ 9999) :
    Calls Tryd.prog 27 #[.int .i64 n] w fun e w' => e = .returned (.string ⟨(Lib.decDigits n).toArray⟩) ∧ Below w.heap.size w w' := by
  have cv := conv_one
  go_enter Tryd.func27, Tryd.ntmps27
  go_wp2
  go_loopw [0, 3] (fun x s wr => ∃ (u : Nat) (t : List UInt8), u ≤ 9999 ∧ t.length + u ≤ 9999 ∧ x = .int .i64 u ∧ s = .string ⟨t.toArray⟩ ∧ Hid (Lib.decDigits n = Lib.decDigits u ++ t) ∧ Hid (Below w.heap.size w wr)) (fun x _ _ => (intOf x).toNat)
  case atStart => exact ⟨n, [], hn, by simp; omega, rfl, rfl, (by simp : Lib.decDigits n = Lib.decDigits n ++ []), Below.refl _ _⟩
  case round =>
    obtain ⟨u, t, hu, ht, rfl, rfl, hd, hB⟩ := hrel
    by_cases h10 : 10 ≤ u
    · have h10' : (10 : Int) ≤ (u : Int) := by omega
      have HD : Hid (Lib.decDigits n = Lib.decDigits (u / 10) ++ (UInt8.ofNat (48 + u % 10) :: t)) := (by rw [hd.out, dec_big h10]; simp : Lib.decDigits n = Lib.decDigits (u / 10) ++ (UInt8.ofNat (48 + u % 10) :: t))
      go_wp2
      go_roundw
      case rel => exact ⟨u / 10, UInt8.ofNat (48 + u % 10) :: t, by omega, by simp; omega, by go_num, one_app _ _, HD, hB.out.alloc hB.out.size _⟩
      case measure => simp [intOf]; omega
    · have h10' : (u : Int) < 10 := by omega
      have HD : Hid (Lib.decDigits n = UInt8.ofNat (48 + u) :: t) := (by rw [hd.out, dec_small (by omega)]; rfl : Lib.decDigits n = UInt8.ofNat (48 + u) :: t)
      go_wp2
      go_ret
      rw [HD.out]
      exact ⟨congrArg Ending.returned (one_app u t), hB.out.alloc hB.out.size _⟩
end Go.Proofs.YtenlgmjlblggmaaDoor
