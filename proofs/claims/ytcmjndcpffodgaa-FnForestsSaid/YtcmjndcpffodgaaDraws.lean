/- The draws of forests with an account's id, and the laws' own look at the code's length. Conditions: the bytes lie in memory. -/
import Derived.Test.YtcmjndcpffodgaaForest
namespace Go.Proofs.Ytcmjndcpffodgaa
open Go.RowKit

/-- The bytes of a code, as they lie in memory. -/
def Code (w : World) (a : Option Addr) (len : Nat) : Prop := len ≤ 9223372036854775807 ∧
  ∀ i : Nat, i < len → ∃ (b off : Nat) (z : Int), a = some ⟨b, off, none⟩ ∧ b < w.heap.size ∧ w.cell? ⟨b, off + i, none⟩ = some (.int .u8 z) ∧ 0 ≤ z ∧ z ≤ 255

theorem big_no (a : Option Addr) (len cap : Nat) (w : World) (h : len ≤ 1048576) :
    Calls Try.prog 19 #[.slice a len cap] w fun e w' => e = .returned (.bool false) ∧ w' = w := by
  have h' : ¬ (1048576 < len) := by omega
  go_enter Try.func19, Try.ntmps19
  go_wp2
  go_ret
  exact ⟨by simp; omega, rfl⟩
theorem big_yes (a : Option Addr) (len cap : Nat) (w : World) (h : 1048576 < len) :
    Calls Try.prog 19 #[.slice a len cap] w fun e w' => e = .returned (.bool true) ∧ w' = w := by
  go_enter Try.func19, Try.ntmps19
  go_wp2
  go_ret
  exact ⟨by simp; omega, rfl⟩

set_option maxHeartbeats 1000000 in
theorem drawForestOk (a : Option Addr) (len cap : Nat) (w : World) (h : Code w a len) :
    Calls Try.prog 53 #[.slice a len cap] w fun e w' => ∃ v L, e = .returned v ∧ L.length ≤ 12 ∧ AL w' w.heap.size v L ∧ Below w.heap.size w w' := by
  have H : Hid (Code w a len) := h
  clear h
  go_enter Try.func53, Try.ntmps53
  go_wp2_with fail
  refine (rd_open a len cap _ H.out.1 H.out.2).mono ?_
  rintro e w1 ⟨rfl, R1, B1⟩
  have R1' : Hid (Rd w1 w.heap.size a len cap) := R1
  have BB1 : Hid (Below w.heap.size w w1) := B1
  clear R1 B1
  go_wp2_with fail
  refine (rd_forest w.heap.size a len cap 14 _ R1'.out (by omega) (by omega)).mono ?_
  rintro e w2 ⟨v, L, rfl, hl, A2, R2, S2⟩
  have A2' : Hid (AL w2 w.heap.size v L) := A2.mono BB1.out.size
  have BB2 : Hid (Below w.heap.size w w2) := BB1.out.trans (S2.below BB1.out.size)
  clear A2 R2 S2
  obtain ⟨va, vc, hv⟩ := A2'.out.len
  subst hv
  go_wp2
  go_ret
  exact ⟨_, L, rfl, hl, A2'.out, BB2.out⟩
theorem drawTotalOf (a : Option Addr) (len cap : Nat) (w : World) (h : Code w a len) :
    Calls Try.prog 31 #[.slice a len cap] w fun e w' => ∃ v L, e = .returned v ∧ L.length ≤ 12 ∧ AL w' w.heap.size v L ∧ Below w.heap.size w w' := by
  have H : Hid (Code w a len) := h
  clear h
  go_enter Try.func31, Try.ntmps31
  go_wp2_with fail
  refine (drawForestOk a len cap _ H.out).mono ?_
  rintro e w2 ⟨v, L, rfl, hl, A2, B2⟩
  have A2' : Hid (AL w2 w.heap.size v L) := A2
  have BB2 : Hid (Below w.heap.size w w2) := B2
  clear A2 B2
  obtain ⟨va, vc, hv⟩ := A2'.out.len
  subst hv
  go_wp2
  go_ret
  exact ⟨_, L, rfl, hl, A2'.out, BB2.out⟩
set_option maxHeartbeats 1000000 in
theorem drawAccountOf (a : Option Addr) (len cap : Nat) (w : World) (h : Code w a len) :
    Calls Try.prog 47 #[.slice a len cap] w fun e w' => ∃ v L id, e = .returned (.tuple #[v, .int .i64 id]) ∧ L.length ≤ 12 ∧ AL w' w.heap.size v L ∧ Below w.heap.size w w' := by
  have H : Hid (Code w a len) := h
  clear h
  go_enter Try.func47, Try.ntmps47
  go_wp2_with fail
  refine (rd_open a len cap _ H.out.1 H.out.2).mono ?_
  rintro e w1 ⟨rfl, R1, B1⟩
  have R1' : Hid (Rd w1 w.heap.size a len cap) := R1
  have BB1 : Hid (Below w.heap.size w w1) := B1
  have hz1 : w.heap.size < w1.heap.size := R1.2.2.2.1
  clear R1 B1
  go_wp2_with fail
  refine (rd_forest w.heap.size a len cap 14 _ R1'.out (by omega) (by omega)).mono ?_
  rintro e w2 ⟨v, L, rfl, hl, A2, R2, S2⟩
  have A2' : Hid (AL w2 w1.heap.size v L) := A2
  have R2' : Hid (Rd w2 w.heap.size a len cap) := R2
  have BB2 : Hid (Below w.heap.size w w2) := BB1.out.trans (S2.below BB1.out.size)
  clear A2 R2 S2
  obtain ⟨va, vc, hv⟩ := A2'.out.len
  subst hv
  go_wp2_with fail
  refine (rd_off w.heap.size a len cap 1 6 _ R2'.out (by omega) (by omega) (by omega)).mono ?_
  rintro e w3 ⟨id, rfl, R3, S3⟩
  have A3' : Hid (AL w3 w.heap.size (.slice va L.length vc) L) := (A2'.out.stp S3 hz1).mono BB1.out.size
  have BB3 : Hid (Below w.heap.size w w3) := BB2.out.trans (S3.below BB2.out.size)
  clear R3 S3
  go_wp2
  go_ret2
  exact ⟨_, L, id, rfl, hl, A3'.out, BB3.out⟩
theorem drawSumOf (a : Option Addr) (len cap : Nat) (w : World) (h : Code w a len) :
    Calls Try.prog 20 #[.slice a len cap] w fun e w' => ∃ v L id, e = .returned (.tuple #[v, .int .i64 id]) ∧ L.length ≤ 12 ∧ AL w' w.heap.size v L ∧ Below w.heap.size w w' := by
  have H : Hid (Code w a len) := h
  clear h
  go_enter Try.func20, Try.ntmps20
  go_wp2_with fail
  refine (drawAccountOf a len cap _ H.out).mono ?_
  rintro e w2 ⟨v, L, id, rfl, hl, A2, B2⟩
  have A2' : Hid (AL w2 w.heap.size v L) := A2
  have BB2 : Hid (Below w.heap.size w w2) := B2
  clear A2 B2
  obtain ⟨va, vc, hv⟩ := A2'.out.len
  subst hv
  go_wp2
  go_ret2
  exact ⟨_, L, id, rfl, hl, A2'.out, BB2.out⟩
theorem drawRoomOf (a : Option Addr) (len cap : Nat) (w : World) (h : Code w a len) :
    Calls Try.prog 30 #[.slice a len cap] w fun e w' => ∃ v L id, e = .returned (.tuple #[v, .int .i64 id]) ∧ L.length ≤ 12 ∧ AL w' w.heap.size v L ∧ Below w.heap.size w w' := by
  have H : Hid (Code w a len) := h
  clear h
  go_enter Try.func30, Try.ntmps30
  go_wp2_with fail
  refine (drawAccountOf a len cap _ H.out).mono ?_
  rintro e w2 ⟨v, L, id, rfl, hl, A2, B2⟩
  have A2' : Hid (AL w2 w.heap.size v L) := A2
  have BB2 : Hid (Below w.heap.size w w2) := B2
  clear A2 B2
  obtain ⟨va, vc, hv⟩ := A2'.out.len
  subst hv
  go_wp2
  go_ret2
  exact ⟨_, L, id, rfl, hl, A2'.out, BB2.out⟩
end Go.Proofs.Ytcmjndcpffodgaa
