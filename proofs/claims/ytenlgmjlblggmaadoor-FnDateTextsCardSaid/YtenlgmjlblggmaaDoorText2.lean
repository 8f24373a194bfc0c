/- DateText of the program, and the law FnExactDateText. Conditions: the tables of the program and of the library as their texts lay them. -/
import Derived.Test.YtenlgmjlblggmaaDoorText
import Derived.Deep.Cut
namespace Go.Proofs.YtenlgmjlblggmaaDoor
open Go.RowKit

theorem gPow : Tryd.prog.globalNamed "internal/strconv.uint64pow10" = some 1 := by kernel_rfl
theorem Pow.below {w w' : World} (h : Pow w) (hb : Below w.heap.size w w') : Pow w' := by
  unfold Pow Lib.TabIs World.var? at h ⊢
  rw [gPow] at h ⊢
  simp only [Option.bind_some] at h ⊢
  have hlt : 1 < w.heap.size := by
    rcases Nat.lt_or_ge 1 w.heap.size with h' | h'
    · exact h'
    · rw [Array.getElem?_eq_none h'] at h; cases h
  rw [hb.block 1 hlt]
  exact h
set_option maxHeartbeats 2000000 in
theorem implText_no (y m d : Int) (w : World) (ht : Tab w) (h : dateB y m d = false) :
    Calls Tryd.prog 8 #[.agg #[.int .i64 y, .int .i64 m, .int .i64 d]] w fun e w' => e = .returned (.string ⟨#[]⟩) ∧ Below w.heap.size w w' := by
  have HT : Hid (Tab w) := ht
  clear ht
  go_enter Tryd.func8, Tryd.ntmps8
  go_wp2_with fail
  refine (implDateOk y m d _ (HT.out.alloc _)).mono ?_
  rw [h]
  rintro e w1 ⟨rfl, B1⟩
  have BB : Hid (Below w.heap.size w w1) := ((Below.refl _ w).alloc (Nat.le_refl _) _).trans (B1.mono (by simp))
  clear B1
  go_wp2
  go_ret
  exact ⟨rfl, BB.out⟩

set_option maxHeartbeats 2000000 in
theorem implText_yes (y m d : Nat) (w : World) (ht : Tab w) (hp : Pow w) (h : dateB y m d = true) (hy : y ≤ 9999) (hm : m ≤ 12) (hd : d ≤ 31) :
    Calls Tryd.prog 8 #[.agg #[.int .i64 y, .int .i64 m, .int .i64 d]] w fun e w' => e = .returned (.string (dateT y m d)) ∧ Below w.heap.size w w' := by
  have HP : Hid (Pow w) := hp
  clear hp
  have s1 := padB_size y 4
  have s2 := padB_size m 2
  have s3 := padB_size d 2
  have P1 : Hid (∀ w, Pow w → Calls Tryd.prog 18 #[.int .i64 (y : Int), .int .i64 4] w fun e w' => e = .returned (.string (padB y 4)) ∧ Below w.heap.size w w') := fun w hp => implPad y 4 w hy (by omega) hp
  have P2 : Hid (∀ w, Pow w → Calls Tryd.prog 18 #[.int .i64 (m : Int), .int .i64 2] w fun e w' => e = .returned (.string (padB m 2)) ∧ Below w.heap.size w w') := fun w hp => implPad m 2 w (by omega) (by omega) hp
  have P3 : Hid (∀ w, Pow w → Calls Tryd.prog 18 #[.int .i64 (d : Int), .int .i64 2] w fun e w' => e = .returned (.string (padB d 2)) ∧ Below w.heap.size w w') := fun w hp => implPad d 2 w (by omega) (by omega) hp
  have HDT : Hid (padB y 4 ++ ⟨#[45]⟩ ++ padB m 2 ++ ⟨#[45]⟩ ++ padB d 2 = dateT y m d) := rfl
  generalize padB y 4 = Y at *
  generalize padB m 2 = M at *
  generalize padB d 2 = D at *
  have hd1 : (⟨#[45]⟩ : ByteArray).size = 1 := rfl
  have z1 : (Y ++ ⟨#[45]⟩).size = Y.size + 1 := by rw [ByteArray.size_append, hd1]
  have z2 : (Y ++ ⟨#[45]⟩ ++ M).size = Y.size + 1 + M.size := by rw [ByteArray.size_append, z1]
  have z3 : (Y ++ ⟨#[45]⟩ ++ M ++ ⟨#[45]⟩).size = Y.size + 1 + M.size + 1 := by rw [ByteArray.size_append, z2, hd1]
  have a1 := fun W => add_runD W Y ⟨#[45]⟩ (by omega) (by omega)
  have a2 := fun W => add_runD W (Y ++ ⟨#[45]⟩) M (by omega) (by omega)
  have a3 := fun W => add_runD W (Y ++ ⟨#[45]⟩ ++ M) ⟨#[45]⟩ (by omega) (by omega)
  have a4 := fun W => add_runD W (Y ++ ⟨#[45]⟩ ++ M ++ ⟨#[45]⟩) D (by omega) (by omega)
  clear s1 s2 s3 z1 z2 z3 hd1
  have HT : Hid (Tab w) := ht
  clear ht
  go_enter Tryd.func8, Tryd.ntmps8
  go_wp2_with fail
  refine (implDateOk y m d _ (HT.out.alloc _)).mono ?_
  rw [h]
  rintro e w1 ⟨rfl, B1⟩
  have BB : Hid (Below w.heap.size w w1) := ((Below.refl _ w).alloc (Nat.le_refl _) _).trans (B1.mono (by simp))
  have hlt : w.heap.size < w1.heap.size := Nat.lt_of_lt_of_le (by simp) B1.size
  have HO : ∀ v, Pow (over w1 v) := fun v => (HP.out.below BB.out).below (below_over w1 v)
  have c0 : ∀ v, (over w1 v).cell? ⟨w.heap.size, 0, none⟩ = some (.int .i64 (y : Int)) := fun v => by
    rw [over_cellD (p := ⟨w.heap.size, 0, none⟩) hlt, B1.cell (p := ⟨w.heap.size, 0, none⟩) (by simp)]
    simp [go_sem]
  have c1 : ∀ v, (over w1 v).cell? ⟨w.heap.size, 1, none⟩ = some (.int .i64 (m : Int)) := fun v => by
    rw [over_cellD (p := ⟨w.heap.size, 1, none⟩) hlt, B1.cell (p := ⟨w.heap.size, 1, none⟩) (by simp)]
    simp [go_sem]
  have c2 : ∀ v, (over w1 v).cell? ⟨w.heap.size, 2, none⟩ = some (.int .i64 (d : Int)) := fun v => by
    rw [over_cellD (p := ⟨w.heap.size, 2, none⟩) hlt, B1.cell (p := ⟨w.heap.size, 2, none⟩) (by simp)]
    simp [go_sem]
  have HO' : Hid (∀ v, Pow (over w1 v)) := HO
  clear B1 HO
  go_wp2
  refine wp_region_over (by kernel_rfl) (by kernel_rfl) ?_
  go_big_quiet_step (fail)
  go_big_quiet_step (fail)
  go_big_quiet_step ((go_at_call 18; exact Calls.over_of (P1.out _ (HO'.out _))))
  go_big_quiet_step (fail)
  go_big_quiet_step (fail)
  go_big_quiet_step (fail)
  go_big_quiet_step ((go_at_call 18; exact Calls.over_of (P2.out _ (HO'.out _))))
  go_big_quiet_step (fail)
  go_big_quiet_step (fail)
  go_big_quiet_step (fail)
  go_big_quiet_step (fail)
  go_big_quiet_step ((go_at_call 18; exact Calls.over_of (P3.out _ (HO'.out _))))
  go_big_quiet_step (fail)
  go_big_quiet_step (fail)
  refine wpQuiet_nil ?_
  intro _ hw'
  obtain ⟨vq, hw''⟩ := hw'
  subst hw''
  go_wp2
  go_ret
  exact ⟨by rw [← HDT.out]; rfl, BB.out.trans ((below_over w1 vq).mono BB.out.size)⟩

theorem dim_le (y m : Int) : Cal.dim y m ≤ 31 := by
  unfold Cal.dim Cal.lp
  repeat' split
  all_goals omega
set_option maxHeartbeats 1000000 in
theorem lawText (y m d : Int) (w : World) (ht : Tab w) (hp : Pow w) :
    Calls Tryd.prog 3 #[.agg #[.int .i64 y, .int .i64 m, .int .i64 d]] w fun e w' => e = .returned (.bool true) ∧ Below w.heap.size w w' := by
  obtain ⟨r, HS, HI⟩ : ∃ r : ByteArray, Hid (∀ w, Calls Tryd.prog 6 #[.agg #[.int .i64 y, .int .i64 m, .int .i64 d]] w fun e w' => e = .returned (.string r) ∧ Below w.heap.size w w') ∧ Hid (∀ w, Tab w → Pow w → Calls Tryd.prog 8 #[.agg #[.int .i64 y, .int .i64 m, .int .i64 d]] w fun e w' => e = .returned (.string r) ∧ Below w.heap.size w w') := by
    by_cases h : dateB y m d = true
    · have hb := dateB_iff.1 h
      have hdm := dim_le y m
      obtain ⟨Y, rfl⟩ := Int.eq_ofNat_of_zero_le (show 0 ≤ y by omega)
      obtain ⟨M, rfl⟩ := Int.eq_ofNat_of_zero_le (show 0 ≤ m by omega)
      obtain ⟨D, rfl⟩ := Int.eq_ofNat_of_zero_le (show 0 ≤ d by omega)
      exact ⟨dateT Y M D, fun w => specText_yes Y M D w h (by omega) (by omega) (by omega), fun w h1 h2 => implText_yes Y M D w h1 h2 h (by omega) (by omega) (by omega)⟩
    · have h' : dateB y m d = false := by simpa using h
      exact ⟨⟨#[]⟩, fun w => specText_no y m d w h', fun w h1 _ => implText_no y m d w h1 h'⟩
  have HT : Hid (Tab w) := ht
  have HP : Hid (Pow w) := hp
  clear ht hp
  obtain ⟨W, hW⟩ : ∃ W, W = w.alloc (.cells #[.int .i64 y, .int .i64 m, .int .i64 d] 23) := ⟨_, rfl⟩
  have BW : Hid (Below w.heap.size w W) := by rw [hW]; exact (Below.refl _ _).alloc (Nat.le_refl _) _
  have hc : ∀ (W' : World), Below W.heap.size W W' → W'.cell? ⟨w.heap.size, 0, none⟩ = some (.int .i64 y) ∧ W'.cell? ⟨w.heap.size, 1, none⟩ = some (.int .i64 m) ∧ W'.cell? ⟨w.heap.size, 2, none⟩ = some (.int .i64 d) := fun W' hb => by
    rw [hb.cell (p := ⟨w.heap.size, 0, none⟩) (by rw [hW]; simp), hb.cell (p := ⟨w.heap.size, 1, none⟩) (by rw [hW]; simp), hb.cell (p := ⟨w.heap.size, 2, none⟩) (by rw [hW]; simp), hW]
    simp [go_sem]
  have HC : Hid (∀ (W' : World), Below W.heap.size W W' → W'.cell? ⟨w.heap.size, 0, none⟩ = some (.int .i64 y) ∧ W'.cell? ⟨w.heap.size, 1, none⟩ = some (.int .i64 m) ∧ W'.cell? ⟨w.heap.size, 2, none⟩ = some (.int .i64 d)) := hc
  clear hc
  obtain ⟨k0, k1, k2⟩ := HC.out W (Below.refl _ _)
  go_enter Tryd.func3, Tryd.ntmps3
  go_upto_region 1 with fail
  rw [← hW]
  clear hW
  go_wp2_with fail
  refine (toDate y m d _).mono ?_
  rintro e w1 ⟨rfl, B1⟩
  have BW1 : Hid (Below W.heap.size W w1) := B1
  clear B1
  go_wp2_with fail
  refine (HS.out _).mono ?_
  rintro e w2 ⟨rfl, B2⟩
  have BW2 : Hid (Below W.heap.size W w2) := BW1.out.trans (B2.mono BW1.out.size)
  clear B2 BW1 k0 k1 k2
  obtain ⟨k0, k1, k2⟩ := HC.out w2 BW2.out
  go_wp2_with fail
  refine (toDate y m d _).mono ?_
  rintro e w3 ⟨rfl, B3⟩
  have BW3 : Hid (Below W.heap.size W w3) := BW2.out.trans (B3.mono BW2.out.size)
  have BB3 : Hid (Below w.heap.size w w3) := BW.out.trans (BW3.out.mono BW.out.size)
  clear B3 BW2
  go_wp2_with fail
  refine (HI.out _ (HT.out.below BB3.out HT.out.1) (HP.out.below BB3.out)).mono ?_
  rintro e w4 ⟨rfl, B4⟩
  have BB4 : Hid (Below w.heap.size w w4) := BB3.out.trans (B4.mono BB3.out.size)
  clear B4
  go_wp2
  go_ret
  exact ⟨rfl, BB4.out⟩
end Go.Proofs.YtenlgmjlblggmaaDoor
