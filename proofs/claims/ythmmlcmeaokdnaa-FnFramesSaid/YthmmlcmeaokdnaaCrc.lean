/- The sum of a frame's bytes: the specification's and the program's reckon the same number. Conditions: what a string is at most long. -/
import Derived.Test.YthmmlcmeaokdnaaRows
import Derived.WalkKit
namespace Go.Proofs.Ythmmlcmeaokdnaa
open Go.RowKit

def stepC (c : Nat) : Nat := if c % 2 = 1 then (c / 2) ^^^ 3988292384 else c / 2
def stepN (c : Nat) : Nat → Nat
  | 0 => c
  | k + 1 => stepC (stepN c k)
def byteC (c : Nat) (b : UInt8) : Nat := stepN (c ^^^ b.toNat) 8
def crcL (l : List UInt8) : Nat := l.foldl byteC 4294967295
theorem xor_lt32 {a b : Nat} (ha : a < 4294967296) (hb : b < 4294967296) : a ^^^ b < 4294967296 := Nat.xor_lt_two_pow (n := 32) ha hb
theorem stepC_lt {c : Nat} (h : c < 4294967296) : stepC c < 4294967296 := by
  unfold stepC
  split
  · exact xor_lt32 (by omega) (by omega)
  · omega
theorem stepN_lt {c : Nat} (h : c < 4294967296) : ∀ k, stepN c k < 4294967296
  | 0 => h
  | k + 1 => stepC_lt (stepN_lt h k)
theorem byteC_lt {c : Nat} (h : c < 4294967296) (b : UInt8) : byteC c b < 4294967296 := stepN_lt (xor_lt32 h (by have := b.toNat_lt; omega)) 8
theorem fold_lt : ∀ (l : List UInt8) (c : Nat), c < 4294967296 → l.foldl byteC c < 4294967296
  | [], _, h => h
  | b :: l, c, h => fold_lt l (byteC c b) (byteC_lt h b)
theorem crcL_lt (l : List UInt8) : crcL l < 4294967296 := fold_lt l _ (by omega)
theorem take_snoc (s : ByteArray) (k : Nat) (h : k < s.size) : s.data.toList.take (k + 1) = s.data.toList.take k ++ [s[k]] := by
  rw [List.take_succ_eq_append_getElem (by simpa using h)]; rfl
theorem crc_snoc (s : ByteArray) (k : Nat) (h : k < s.size) : crcL (s.data.toList.take (k + 1)) = byteC (crcL (s.data.toList.take k)) s[k] := by
  rw [take_snoc s k h]; simp [crcL]

/-- A byte by its number. -/
def byteOf (z : Int) : UInt8 := UInt8.ofNat z.toNat
theorem conv_new (w : World) (zs : List Int) (h : ∀ z ∈ zs, 0 ≤ z ∧ z < 256) :
    Sem.run Try.prog (convert 22 9 (.slice (some ⟨w.heap.size, 0, none⟩) zs.length zs.length)) (w.alloc (.cells (zs.map (Value.int .u8)).toArray 5)) = .ok (.string ⟨(zs.map byteOf).toArray⟩) (w.alloc (.cells (zs.map (Value.int .u8)).toArray 5)) := by
  have := run_convert_bytes_back (P := Try.prog) (w.alloc (.cells (zs.map (Value.int .u8)).toArray 5)) 22 9 5 ⟨w.heap.size, 0, none⟩ zs.length (zs.map byteOf) Try.underlying22 Try.underlying5 Try.underlying9 (by
    intro j hj
    simp at hj
    have ea : (⟨w.heap.size, 0, none⟩ : Addr).add j = ⟨w.heap.size, j, none⟩ := by by_cases e : j = 0 <;> simp [Addr.add, e]
    rw [ea, World.cell?_alloc_mark]
    have hz := h zs[j] (List.getElem_mem _)
    simp [List.getElem?_eq_getElem hj, byteOf]
    omega)
  simpa using this
/-- Four bytes of a number, the lowest first. -/
def lowB (x : Nat) : List UInt8 := ([(x : Int) % 256, (x : Int) / 256 % 256, (x : Int) / 65536 % 256, (x : Int) / 16777216 % 256]).map byteOf
/-- The sum of a frame's bytes. -/
def crcS (s : ByteArray) : Nat := 4294967295 ^^^ crcL s.data.toList
theorem crcS_lt (s : ByteArray) : crcS s < 4294967296 := xor_lt32 (by omega) (crcL_lt _)

set_option maxHeartbeats 1000000 in
theorem sum_any (s : ByteArray) (w : World) (hs : s.size ≤ maxLen) :
    Calls Try.prog 22 #[.string s] w fun e w' => e = .returned (.string ⟨(lowB (crcS s)).toArray⟩) ∧ Below w.heap.size w w' := by
  unfold maxLen at hs
  go_enter Try.func22, Try.ntmps22
  go_wp2
  go_loop [3, 4] (fun n i => ∃ k : Nat, k ≤ s.size ∧ i = .int .i64 k ∧ n = .int .u32 (crcL (s.data.toList.take k))) (fun _ i => s.size - (intOf i).toNat)
  case atStart => exact ⟨0, Nat.zero_le _, rfl, rfl⟩
  case round =>
    obtain ⟨k, hk, rfl, rfl⟩ := hrel
    have hd := crcL_lt (s.data.toList.take k)
    by_cases hlt : k < s.size
    · have HS : Hid (crcL (s.data.toList.take (k + 1)) = stepN (crcL (s.data.toList.take k) ^^^ s[k].toNat) 8) := crc_snoc s k hlt
      generalize crcL (s.data.toList.take k) = c at *
      have hx : bits .xor .u32 (c : Int) (s[k].toNat : Int) = ((c ^^^ s[k].toNat : Nat) : Int) := u32_xor_nat _ _ hd (by have := s[k].toNat_lt; omega)
      have hmd : (s[k].toNat : Int) % 4294967296 = (s[k].toNat : Int) := by have := s[k].toNat_lt; omega
      have hxl := xor_lt32 hd (show s[k].toNat < 4294967296 by have := s[k].toNat_lt; omega)
      go_wp2
      go_loop [3, 5] (fun n i => ∃ j : Nat, j ≤ 8 ∧ i = .int .i64 j ∧ n = .int .u32 (stepN (c ^^^ s[k].toNat) j)) (fun _ i => 8 - (intOf i).toNat)
      case atStart => exact ⟨0, by omega, rfl, rfl⟩
      case round =>
        obtain ⟨j, hj, rfl, rfl⟩ := hrel
        have hc := stepN_lt hxl j
        have HN : Hid (stepN (c ^^^ s[k].toNat) (j + 1) = stepC (stepN (c ^^^ s[k].toNat) j)) := rfl
        by_cases h8 : j < 8
        · generalize stepN (c ^^^ s[k].toNat) j = d at *
          have hh : bits .xor .u32 ((d / 2 : Nat) : Int) 3988292384 = ((d / 2 ^^^ 3988292384 : Nat) : Int) := u32_xor_nat _ 3988292384 (by omega) (by omega)
          rcases Nat.mod_two_eq_zero_or_one d with hm | hm
          · have hmi : (d : Int) % 2 = 0 := by omega
            go_wp2
            go_round
            case rel => exact ⟨j + 1, by omega, by go_num, by rw [HN.out]; unfold stepC; rw [if_neg (by omega)]; go_num⟩
            case measure => simp [intOf]; omega
          · have hmi : (d : Int) % 2 = 1 := by omega
            go_wp2
            go_round
            case rel => exact ⟨j + 1, by omega, by go_num, by rw [HN.out]; unfold stepC; rw [if_pos hm]; exact congrArg (Value.int IntKind.u32) hh⟩
            case measure => simp [intOf]; omega
        · have : j = 8 := by omega
          subst this
          go_wp2
          go_round
          case rel => exact ⟨k + 1, by omega, by go_num, by rw [HS.out]⟩
          case measure => simp [intOf]; omega
    · have e : s.data.toList.take k = s.data.toList := List.take_of_length_le (by simp; omega)
      rw [e] at hd ⊢
      have hx : bits .xor .u32 IntKind.u32.max (crcL s.data.toList : Int) = ((crcS s : Nat) : Int) := u32_xor_nat 4294967295 _ (by omega) hd
      have hxl := crcS_lt s
      have ht := conv_new w [(crcS s : Int) % 256, (crcS s : Int) / 256 % 256, (crcS s : Int) / 65536 % 256, (crcS s : Int) / 16777216 % 256] (by simp; omega)
      simp only [List.length_cons, List.length_nil, List.map_cons, List.map_nil] at ht
      generalize crcL s.data.toList = c at *
      go_wp2
      go_ret
      exact ⟨rfl, (Below.refl _ _).alloc (Nat.le_refl _) _⟩

set_option maxHeartbeats 1000000 in
theorem crc_any (s : ByteArray) (w : World) (hs : s.size ≤ maxLen) :
    Calls Try.prog 27 #[.string s] w fun e w' => e = .returned (.int .u32 (crcS s : Int)) ∧ w' = w := by
  unfold maxLen at hs
  go_enter Try.func27, Try.ntmps27
  go_wp2
  go_loop [3, 8] (fun n i => ∃ k : Nat, k ≤ s.size ∧ i = .int .i64 k ∧ n = .int .u32 (crcL (s.data.toList.take k))) (fun _ i => s.size - (intOf i).toNat)
  case atStart => exact ⟨0, Nat.zero_le _, rfl, rfl⟩
  case round =>
    obtain ⟨k, hk, rfl, rfl⟩ := hrel
    have hd := crcL_lt (s.data.toList.take k)
    by_cases hlt : k < s.size
    · have HS : Hid (crcL (s.data.toList.take (k + 1)) = stepN (crcL (s.data.toList.take k) ^^^ s[k].toNat) 8) := crc_snoc s k hlt
      generalize crcL (s.data.toList.take k) = c at *
      have hx : bits .xor .u32 (c : Int) (s[k].toNat : Int) = ((c ^^^ s[k].toNat : Nat) : Int) := u32_xor_nat _ _ hd (by have := s[k].toNat_lt; omega)
      have hmd : (s[k].toNat : Int) % 4294967296 = (s[k].toNat : Int) := by have := s[k].toNat_lt; omega
      have hxl := xor_lt32 hd (show s[k].toNat < 4294967296 by have := s[k].toNat_lt; omega)
      go_wp2
      go_loop [3, 17] (fun n i => ∃ j : Nat, j ≤ 8 ∧ i = .int .i64 j ∧ n = .int .u32 (stepN (c ^^^ s[k].toNat) j)) (fun _ i => 8 - (intOf i).toNat)
      case atStart => exact ⟨0, by omega, rfl, rfl⟩
      case round =>
        obtain ⟨j, hj, rfl, rfl⟩ := hrel
        have hc := stepN_lt hxl j
        have HN : Hid (stepN (c ^^^ s[k].toNat) (j + 1) = stepC (stepN (c ^^^ s[k].toNat) j)) := rfl
        by_cases h8 : j < 8
        · generalize stepN (c ^^^ s[k].toNat) j = d at *
          have hh : bits .xor .u32 ((d : Int) / 2) 3988292384 = ((d / 2 ^^^ 3988292384 : Nat) : Int) := u32_xor_nat (d / 2) 3988292384 (by omega) (by omega)
          have hm0 : bits .and .u32 (d : Int) 1 = ((d % 2 : Nat) : Int) := by have := u32_and_nat d 1 hc (by omega); rw [nat_mask1] at this; exact this
          rcases Nat.mod_two_eq_zero_or_one d with hm | hm
          · rw [hm] at hm0
            go_wp2
            go_round
            case rel => exact ⟨j + 1, by omega, by go_num, by rw [HN.out]; unfold stepC; rw [if_neg (by omega)]; go_num⟩
            case measure => simp [intOf]; omega
          · rw [hm] at hm0
            go_wp2
            go_round
            case rel => exact ⟨j + 1, by omega, by go_num, by rw [HN.out]; unfold stepC; rw [if_pos hm]⟩
            case measure => simp [intOf]; omega
        · have : j = 8 := by omega
          subst this
          go_wp2
          go_round
          case rel => exact ⟨k + 1, by omega, by go_num, by rw [HS.out]⟩
          case measure => simp [intOf]; omega
    · have e : s.data.toList.take k = s.data.toList := List.take_of_length_le (by simp; omega)
      rw [e] at hd ⊢
      have hx : bits .xor .u32 IntKind.u32.max (crcL s.data.toList : Int) = ((crcS s : Nat) : Int) := u32_xor_nat 4294967295 _ (by omega) hd
      generalize crcL s.data.toList = c at *
      go_wp2
      go_ret
      exact ⟨rfl, rfl⟩

/-- What is ahead of a frame's bytes. -/
def headB (s : ByteArray) : List UInt8 := ([(s.size : Int) / 16777216, (s.size : Int) / 65536, (s.size : Int) / 256 % 256, (s.size : Int) % 256]).map byteOf ++ lowB (crcS s)
set_option maxHeartbeats 1000000 in
theorem head_any (s : ByteArray) (w : World) (hs : s.size ≤ 100000) :
    Calls Try.prog 23 #[.string s] w fun e w' => e = .returned (.string ⟨(headB s).toArray⟩) ∧ Below w.heap.size w w' := by
  have HC : Hid (∀ w, Calls Try.prog 27 #[.string s] w fun e w' => e = .returned (.int .u32 (crcS s : Int)) ∧ w' = w) := fun w => crc_any s w (by unfold maxLen; omega)
  have hxl := crcS_lt s
  have ht := conv_new w [(s.size : Int) / 16777216, (s.size : Int) / 65536, (s.size : Int) / 256 % 256, (s.size : Int) % 256, (crcS s : Int) % 256, (crcS s : Int) / 256 % 256, (crcS s : Int) / 65536 % 256, (crcS s : Int) / 16777216] (by simp; omega)
  simp only [List.length_cons, List.length_nil, List.map_cons, List.map_nil] at ht
  have hmd : (s.size : Int) % 4294967296 = (s.size : Int) := by omega
  go_enter Try.func23, Try.ntmps23
  go_wp2_with fail
  refine (HC.out _).mono ?_
  rintro e w' ⟨rfl, rfl⟩
  go_wp2
  go_ret
  refine ⟨?_, (Below.refl _ _).alloc (Nat.le_refl _) _⟩
  have e : (crcS s : Int) / 16777216 % 256 = (crcS s : Int) / 16777216 := by omega
  simp [headB, lowB, e]
end Go.Proofs.Ythmmlcmeaokdnaa
