/- DateText, of the specification and of the program: the same text. Conditions: of the program: the tables of the program and of the library as their texts lay them. -/
import Derived.Test.YtenlgmjlblggmaaDoorPad
import Derived.Test.YtenlgmjlblggmaaDoorOver
import Derived.Laws.Concat
namespace Go.Proofs.YtenlgmjlblggmaaDoor
open Go.RowKit

theorem dlen (n : Nat) : (Lib.decDigits n).length ≤ n + 1 := by
  induction n using Nat.strongRecOn with
  | _ n ih =>
    by_cases h : 10 ≤ n
    · rw [dec_big h, List.length_append]
      have := ih (n / 10) (by omega)
      simp
      omega
    · rw [dec_small (by omega)]
      simp
def padB (n k : Nat) : ByteArray := ⟨(pad (Lib.decDigits n) k).toArray⟩
theorem padB_size (n k : Nat) : (padB n k).size ≤ n + 1 + k := by
  have h1 := dlen n
  have : (padB n k).size = (k - (Lib.decDigits n).length) + (Lib.decDigits n).length := by simp [padB, pad, ByteArray.size]
  omega
/-- The text of a date. -/
def dateT (y m d : Nat) : ByteArray := padB y 4 ++ ⟨#[45]⟩ ++ padB m 2 ++ ⟨#[45]⟩ ++ padB d 2
theorem over_cellD {w v : World} {p : Addr} (h : p.block < w.heap.size) : (over w v).cell? p = w.cell? p := World.cell?_of_block (w := w) (over_block w v p.block h)
theorem add_runD (W : World) (x y : ByteArray) (hx : x.size ≤ 1000000) (hy : y.size ≤ 1000000) : (Op.stringOp .add x y).run Tryd.prog W = .ok (.string (x ++ y)) W := run_string_add_sum W x y (by omega)

set_option maxHeartbeats 2000000 in
theorem specText_no (y m d : Int) (w : World) (h : dateB y m d = false) :
    Calls Tryd.prog 6 #[.agg #[.int .i64 y, .int .i64 m, .int .i64 d]] w fun e w' => e = .returned (.string ⟨#[]⟩) ∧ Below w.heap.size w w' := by
  go_enter Tryd.func6, Tryd.ntmps6
  go_wp2_with fail
  refine (specDateOk y m d _).mono ?_
  rw [h]
  rintro e w1 ⟨rfl, B1⟩
  have BB : Hid (Below w.heap.size w w1) := ((Below.refl _ w).alloc (Nat.le_refl _) _).trans (B1.mono (by simp))
  clear B1
  go_wp2
  go_ret
  exact ⟨rfl, BB.out⟩

set_option maxHeartbeats 2000000 in
theorem specText_yes (y m d : Nat) (w : World) (h : dateB y m d = true) (hy : y ≤ 9999) (hm : m ≤ 12) (hd : d ≤ 31) :
    Calls Tryd.prog 6 #[.agg #[.int .i64 y, .int .i64 m, .int .i64 d]] w fun e w' => e = .returned (.string (dateT y m d)) ∧ Below w.heap.size w w' := by
  have s1 := padB_size y 4
  have s2 := padB_size m 2
  have s3 := padB_size d 2
  have P1 : Hid (∀ w, Calls Tryd.prog 16 #[.int .i64 (y : Int), .int .i64 4] w fun e w' => e = .returned (.string (padB y 4)) ∧ Below w.heap.size w w') := fun w => specPad y 4 w hy (by omega)
  have P2 : Hid (∀ w, Calls Tryd.prog 16 #[.int .i64 (m : Int), .int .i64 2] w fun e w' => e = .returned (.string (padB m 2)) ∧ Below w.heap.size w w') := fun w => specPad m 2 w (by omega) (by omega)
  have P3 : Hid (∀ w, Calls Tryd.prog 16 #[.int .i64 (d : Int), .int .i64 2] w fun e w' => e = .returned (.string (padB d 2)) ∧ Below w.heap.size w w') := fun w => specPad d 2 w (by omega) (by omega)
  have HDT : Hid (padB y 4 ++ ⟨#[45]⟩ ++ padB m 2 ++ ⟨#[45]⟩ ++ padB d 2 = dateT y m d) := rfl
  generalize padB y 4 = Y at *
  generalize padB m 2 = M at *
  generalize padB d 2 = D at *
  have hd1 : (⟨#[45]⟩ : ByteArray).size = 1 := rfl
  have z1 : (Y ++ ⟨#[45]⟩).size = Y.size + 1 := by rw [ByteArray.size_append, hd1]
  have z2 : (Y ++ ⟨#[45]⟩ ++ M).size = Y.size + 1 + M.size := by rw [ByteArray.size_append, z1]
  have z3 : (Y ++ ⟨#[45]⟩ ++ M ++ ⟨#[45]⟩).size = Y.size + 1 + M.size + 1 := by rw [ByteArray.size_append, z2, hd1]
  have a1 := fun W => add_runD W Y ⟨#[45]⟩ (by omega) (by omega)
  have a2 := fun W => add_runD W (Y ++ ⟨#[45]⟩) M (by omega) (by omega)
  have a3 := fun W => add_runD W (Y ++ ⟨#[45]⟩ ++ M) ⟨#[45]⟩ (by omega) (by omega)
  have a4 := fun W => add_runD W (Y ++ ⟨#[45]⟩ ++ M ++ ⟨#[45]⟩) D (by omega) (by omega)
  clear s1 s2 s3 z1 z2 z3 hd1
  go_enter Tryd.func6, Tryd.ntmps6
  go_wp2_with fail
  refine (specDateOk y m d _).mono ?_
  rw [h]
  rintro e w1 ⟨rfl, B1⟩
  have BB : Hid (Below w.heap.size w w1) := ((Below.refl _ w).alloc (Nat.le_refl _) _).trans (B1.mono (by simp))
  have hlt : w.heap.size < w1.heap.size := Nat.lt_of_lt_of_le (by simp) B1.size
  have c0 : ∀ v, (over w1 v).cell? ⟨w.heap.size, 0, none⟩ = some (.int .i64 (y : Int)) := fun v => by
    rw [over_cellD (p := ⟨w.heap.size, 0, none⟩) hlt, B1.cell (p := ⟨w.heap.size, 0, none⟩) (by simp)]
    simp [go_sem]
  have c1 : ∀ v, (over w1 v).cell? ⟨w.heap.size, 1, none⟩ = some (.int .i64 (m : Int)) := fun v => by
    rw [over_cellD (p := ⟨w.heap.size, 1, none⟩) hlt, B1.cell (p := ⟨w.heap.size, 1, none⟩) (by simp)]
    simp [go_sem]
  have c2 : ∀ v, (over w1 v).cell? ⟨w.heap.size, 2, none⟩ = some (.int .i64 (d : Int)) := fun v => by
    rw [over_cellD (p := ⟨w.heap.size, 2, none⟩) hlt, B1.cell (p := ⟨w.heap.size, 2, none⟩) (by simp)]
    simp [go_sem]
  clear B1
  go_wp2
  refine wp_region_over (by kernel_rfl) (by kernel_rfl) ?_
  go_big_quiet_step (fail)
  go_big_quiet_step (fail)
  go_big_quiet_step ((go_at_call 16; exact Calls.over_of (P1.out _)))
  go_big_quiet_step (fail)
  go_big_quiet_step (fail)
  go_big_quiet_step (fail)
  go_big_quiet_step ((go_at_call 16; exact Calls.over_of (P2.out _)))
  go_big_quiet_step (fail)
  go_big_quiet_step (fail)
  go_big_quiet_step (fail)
  go_big_quiet_step (fail)
  go_big_quiet_step ((go_at_call 16; exact Calls.over_of (P3.out _)))
  go_big_quiet_step (fail)
  go_big_quiet_step (fail)
  refine wpQuiet_nil ?_
  intro _ hw'
  obtain ⟨vq, hw''⟩ := hw'
  subst hw''
  go_wp2
  go_ret
  exact ⟨by rw [← HDT.out]; rfl, BB.out.trans ((below_over w1 vq).mono BB.out.size)⟩
end Go.Proofs.YtenlgmjlblggmaaDoor
