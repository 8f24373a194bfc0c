/- The specification's DiskOk, of whatever disk. Conditions: the disk's lists lie in memory, at most 1048576 of each, of at most 1048576 bytes. -/
import Derived.Test.YtcalgmhpagpnnaaDmK
namespace Go.Proofs.Ytcalgmhpagpnnaa
open Go.RowKit
set_option maxRecDepth 8000

set_option maxHeartbeats 1000000 in
theorem specDisk (a b d : Option Addr) (n m q c c' c'' : Nat) (F G : Nat → Fl) (O : Nat → Dp) (w : World) (h : Dk w a n F b m G d q O) :
    Calls Try.prog 15 #[.agg #[.slice a n c, .slice b m c', .slice d q c'']] w fun e w' => e = .returned (.bool (diskB (lst F n) (lst G m) (lst O q))) ∧ Below w.heap.size w w' := by
  have B0 : Hid (Below w.heap.size w (w.alloc (dkBox a n c b m c' d q c'' 27))) := (Below.refl _ _).alloc (Nat.le_refl _) _
  cases h1 : filesB (lst F n)
  · have H : Hid (Dk w a n F b m G d q O) := h
    have H1 : Hid (filesB (lst F n) = false) := h1
    have E : Hid (diskB (lst F n) (lst G m) (lst O q) = false) := disk_no_live h1
    clear h h1
    go_enter Try.func15, Try.ntmps15
    go_wp2_with (go_at_call 46; refine (specFiles_b H1.out a c _ (H.out.live.below B0.out) H.out.sl).mono ?_; rintro e w1 ⟨rfl, B1⟩)
    go_ret
    exact ⟨retB E.out, B0.out.trans (B1.mono B0.out.size)⟩
  cases h2 : filesB (lst G m)
  · have H : Hid (Dk w a n F b m G d q O) := h
    have H1 : Hid (filesB (lst F n) = true) := h1
    have H2 : Hid (filesB (lst G m) = false) := h2
    have E : Hid (diskB (lst F n) (lst G m) (lst O q) = false) := disk_no_safe h2
    clear h h1 h2
    go_enter Try.func15, Try.ntmps15
    go_wp2_with fail
    refine (specFiles_b H1.out a c _ (H.out.live.below B0.out) H.out.sl).mono ?_
    rintro e w1 ⟨rfl, B1⟩
    have x1 : w1.cell? ⟨w.heap.size, 1, none⟩ = some (.slice b m c') := by rw [B1.cell (p := ⟨w.heap.size, 1, none⟩) (by simp)]; simp [go_sem]
    have B1' : Hid (Below w.heap.size w w1) := B0.out.trans (B1.mono B0.out.size)
    clear B1
    go_wp2_with (go_at_call 46; refine (specFiles_b H2.out b c' _ (H.out.safe.below B1'.out) H.out.ss).mono ?_; rintro e w2 ⟨rfl, B2⟩)
    go_ret
    exact ⟨retB E.out, B1'.out.trans (B2.mono B1'.out.size)⟩
  by_cases h3 : q ≤ 200
  · exact specDisk_in a b d n m q c c' c'' F G O w h h1 h2 h3
  · have H : Hid (Dk w a n F b m G d q O) := h
    have H1 : Hid (filesB (lst F n) = true) := h1
    have H2 : Hid (filesB (lst G m) = true) := h2
    have E : Hid (diskB (lst F n) (lst G m) (lst O q) = false) := disk_no_many (by rw [lst_len]; omega)
    have h3' : (200 : Int) < (q : Int) := by omega
    have hqq := h.ops.1
    clear h h1 h2
    go_enter Try.func15, Try.ntmps15
    go_wp2_with fail
    refine (specFiles_b H1.out a c _ (H.out.live.below B0.out) H.out.sl).mono ?_
    rintro e w1 ⟨rfl, B1⟩
    have x1 : w1.cell? ⟨w.heap.size, 1, none⟩ = some (.slice b m c') := by rw [B1.cell (p := ⟨w.heap.size, 1, none⟩) (by simp)]; simp [go_sem]
    have x2 : w1.cell? ⟨w.heap.size, 2, none⟩ = some (.slice d q c'') := by rw [B1.cell (p := ⟨w.heap.size, 2, none⟩) (by simp)]; simp [go_sem]
    have hs1 : w.heap.size < w1.heap.size := Nat.lt_of_lt_of_le (by simp) B1.size
    have B1' : Hid (Below w.heap.size w w1) := B0.out.trans (B1.mono B0.out.size)
    clear B1
    go_wp2_with fail
    refine (specFiles_b H2.out b c' _ (H.out.safe.below B1'.out) H.out.ss).mono ?_
    rintro e w2 ⟨rfl, B2⟩
    have y2 := (B2.cell (p := ⟨w.heap.size, 2, none⟩) hs1).trans x2
    have B2' : Hid (Below w.heap.size w w2) := B1'.out.trans (B2.mono B1'.out.size)
    clear B2 x2
    go_wp2
    go_ret
    exact ⟨retB E.out, B2'.out⟩
end Go.Proofs.Ytcalgmhpagpnnaa
