/- The law FnDays returns true, whatever the bytes of the code. Conditions: the bytes lie in memory, and the program's table of months as its text lays it. -/
import Derived.Test.YtjdpaednagingaaDoorDays
import Derived.Deep.DeepCutAuto
namespace Go.Proofs.YtjdpaednagingaaDoor
open Go.RowKit

/-- A date in memory: three cells. -/
def DBox (w : World) (R : Nat) (y m d : Int) : Prop := w.cell? ⟨R, 0, none⟩ = some (.int .i64 y) ∧ w.cell? ⟨R, 1, none⟩ = some (.int .i64 m) ∧ w.cell? ⟨R, 2, none⟩ = some (.int .i64 d) ∧ R < w.heap.size
theorem DBox.new (w : World) (y m d : Int) (T : Nat) : DBox (w.alloc (.cells #[.int .i64 y, .int .i64 m, .int .i64 d] T)) w.heap.size y m d := by
  unfold DBox
  simp [go_sem]
theorem DBox.below {w w' : World} {R : Nat} {y m d : Int} (h : DBox w R y m d) (hb : Below w.heap.size w w') : DBox w' R y m d := by
  obtain ⟨h0, h1, h2, h3⟩ := h
  exact ⟨by rw [hb.cell (p := ⟨R, 0, none⟩) h3]; exact h0, by rw [hb.cell (p := ⟨R, 1, none⟩) h3]; exact h1, by rw [hb.cell (p := ⟨R, 2, none⟩) h3]; exact h2, Nat.lt_of_lt_of_le h3 hb.size⟩
theorem DBox.alloc {w : World} {R : Nat} {y m d : Int} (h : DBox w R y m d) (x : Obj) : DBox (w.alloc x) R y m d := h.below ((Below.refl _ _).alloc (Nat.le_refl _) x)
theorem Tab.all {w w' : World} (h : Tab w) (hb : Below w.heap.size w w') : Tab w' := h.below hb h.1

theorem big_no (a : Option Addr) (len cap : Nat) (w : World) (h : len ≤ 1048576) :
    Calls Tryd.prog 18 #[.slice a len cap] w fun e w' => e = .returned (.bool false) ∧ w' = w := by
  have h' : ¬ (1048576 < len) := by omega
  go_enter Tryd.func18, Tryd.ntmps18
  go_wp2
  go_ret
  exact ⟨by simp; omega, rfl⟩
theorem big_yes (a : Option Addr) (len cap : Nat) (w : World) (h : 1048576 < len) :
    Calls Tryd.prog 18 #[.slice a len cap] w fun e w' => e = .returned (.bool true) ∧ w' = w := by
  go_enter Tryd.func18, Tryd.ntmps18
  go_wp2
  go_ret
  exact ⟨by simp; omega, rfl⟩

set_option maxRecDepth 4000 in
set_option maxHeartbeats 8000000 in
theorem lawDays (a : Option Addr) (len cap : Nat) (w : World) (h : Code w a len) (ht : Tab w) :
    Calls Tryd.prog 7 #[.slice a len cap] w fun e w' => e = .returned (.bool true) ∧ Below w.heap.size w w' := by
  have H : Hid (Code w a len) := h
  have T0 : Hid (Tab w) := ht
  clear h ht
  by_cases hbig : 1048576 < len
  · go_enter Tryd.func7, Tryd.ntmps7
    go_wp2_with (go_at_call 18; refine (big_yes _ _ _ _ hbig).mono ?_; rintro e w' ⟨rfl, rfl⟩)
    go_ret
    exact ⟨rfl, Below.refl _ _⟩
  go_enter Tryd.func7, Tryd.ntmps7
  go_wp2_with fail
  refine (big_no _ _ _ _ (by omega)).mono ?_
  rintro e wz ⟨rfl, hwz⟩
  have e0 : w = wz := hwz.symm
  subst e0
  clear hwz hbig
  go_wp2_with fail
  refine (drawDayOf a len cap _ H.out).mono ?_
  rintro e w1 ⟨y0, m0, d0, rfl, B1⟩
  obtain ⟨W, hW⟩ : ∃ W, W = w1.alloc (.cells #[.int .i64 y0, .int .i64 m0, .int .i64 d0] 25) := ⟨_, rfl⟩
  have DW : Hid (DBox W w1.heap.size y0 m0 d0) := by rw [hW]; exact DBox.new w1 y0 m0 d0 25
  have BW : Hid (Below w.heap.size w W) := by rw [hW]; exact B1.alloc B1.size _
  have TW : Hid (Tab W) := T0.out.all BW.out
  clear B1
  go_upto_region 4 with fail
  rw [← hW]
  clear hW
  obtain ⟨x0, x1, x2, _⟩ := DW.out
  go_wp2_with fail
  refine (implDayOf y0 m0 d0 _ TW.out).mono ?_
  rintro e w2 ⟨rfl, B2⟩
  have D2 : Hid (DBox w2 w1.heap.size y0 m0 d0) := DW.out.below B2
  have T2 : Hid (Tab w2) := TW.out.all B2
  have BB2 : Hid (Below w.heap.size w w2) := BW.out.trans (B2.mono BW.out.size)
  clear B2 DW BW TW x0 x1 x2
  have HN : Hid (0 ≤ dayN y0 m0 d0 → IsDate (dayN y0 m0 d0) y0 m0 d0 ∧ dayN y0 m0 d0 ≤ 3000000 ∧ dateB y0 m0 d0 = true) := day_back
  have SD : Hid (∀ w', Calls Tryd.prog 11 #[.agg #[.int .i64 y0, .int .i64 m0, .int .i64 d0]] w' fun e w'' => e = .returned (.int .i64 (dayN y0 m0 d0)) ∧ Below w'.heap.size w' w'') := fun w' => specDayOf y0 m0 d0 w'
  have IO : Hid (∀ w', Tab w' → Calls Tryd.prog 10 #[.agg #[.int .i64 y0, .int .i64 m0, .int .i64 d0]] w' fun e w'' => e = .returned (.bool (dateB y0 m0 d0)) ∧ Below w'.heap.size w' w'') := fun w' h' => implDateOk y0 m0 d0 w' h'
  have SO : Hid (∀ w', Calls Tryd.prog 8 #[.agg #[.int .i64 y0, .int .i64 m0, .int .i64 d0]] w' fun e w'' => e = .returned (.bool (dateB y0 m0 d0)) ∧ Below w'.heap.size w' w'') := fun w' => specDateOk y0 m0 d0 w'
  generalize dayN y0 m0 d0 = n at *
  generalize dateB y0 m0 d0 = db at *
  obtain ⟨x0, x1, x2, hxz⟩ := D2.out
  have hov : ∀ v o, (over w2 v).cell? ⟨w1.heap.size, o, none⟩ = w2.cell? ⟨w1.heap.size, o, none⟩ := fun v o => (below_over w2 v).cell (p := ⟨w1.heap.size, o, none⟩) hxz
  go_wp2
  refine wp_region_over (by kernel_rfl) (by kernel_rfl) ?_
  repeat (go_big_quiet_step ((first | (go_at_call 11; exact Calls.over_of (SD.out _)) | (go_at_call 10; exact Calls.over_of (IO.out _ (T2.out.all (below_over _ _)))) | (go_at_call 8; exact Calls.over_of (SO.out _)))))
  refine wpQuiet_nil ?_
  intro w3 hw'
  obtain ⟨vq, hw''⟩ := hw'
  have B3 : Below w2.heap.size w2 w3 := by rw [hw'']; exact below_over w2 vq
  have D3 : Hid (DBox w3 w1.heap.size y0 m0 d0) := D2.out.below B3
  have T3 : Hid (Tab w3) := T2.out.all B3
  have BB3 : Hid (Below w.heap.size w w3) := BB2.out.trans (B3.mono BB2.out.size)
  clear hw'' hov x0 x1 x2 hxz B3 D2 T2 BB2 SD IO SO
  go_upto_if 34 with fail
  go_cut [] (fun wx => Hid (Below w.heap.size w wx))
  case first =>
    by_cases hn : 0 ≤ n
    · obtain ⟨hd0, hn2, _⟩ := HN.out hn
      have HD0 : Hid (IsDate n y0 m0 d0) := hd0
      clear hd0
      go_wp2_with fail
      refine (implDateOf_yes n _ hn hn2 T3.out).mono ?_
      rintro e w4 ⟨y', m', d', rfl, hd', B4⟩
      obtain ⟨rfl, rfl, rfl⟩ := hd'.uniq HD0.out
      have D4 : Hid (DBox w4 w1.heap.size y' m' d') := D3.out.below B4
      have BB4 : Hid (∀ x, Below w.heap.size w (w4.alloc x)) := fun x => (BB3.out.trans (B4.mono BB3.out.size)).alloc (Nat.le_trans BB3.out.size B4.size) x
      obtain ⟨x0, x1, x2, hxz⟩ := D4.out
      have hne : ¬ w1.heap.size = w4.heap.size := by omega
      clear hd' B4 D3 T3 BB3 HD0 D4
      go_wp2
      go_meet
      exact BB4.out _
    · have hn' : n < 0 := by omega
      go_wp2
      go_meet
      exact BB3
  case rest =>
    have BBc : Hid (Below w.heap.size w wc) := hcut
    have Tc : Hid (Tab wc) := T0.out.all hcut.out
    clear hcut T3 BB3 D3 HN
    have Hc : Hid (Code wc a len) := H.out.below BBc.out
    go_wp2_with fail
    refine (drawDateOf a len cap _ Hc.out).mono ?_
    rintro e w4 ⟨day, rfl, B4⟩
    have T4 : Hid (Tab w4) := Tc.out.all B4
    have BB4 : Hid (Below w.heap.size w w4) := BBc.out.trans (B4.mono BBc.out.size)
    clear B4 Tc BBc Hc
    by_cases hr : 0 ≤ day ∧ day ≤ 3000000
    · obtain ⟨hr1, hr2⟩ := hr
      go_wp2_with fail
      refine (implDateOf_yes day _ hr1 hr2 T4.out).mono ?_
      rintro e w5 ⟨y, m, d, rfl, hd, B5⟩
      have HD : Hid (IsDate day y m d) := hd
      obtain ⟨W5, hW5⟩ : ∃ W, W = w5.alloc (.cells #[.int .i64 y, .int .i64 m, .int .i64 d] 25) := ⟨_, rfl⟩
      have E5 : Hid (DBox W5 w5.heap.size y m d) := by rw [hW5]; exact DBox.new w5 y m d 25
      have BB5 : Hid (Below w.heap.size w W5) := by rw [hW5]; exact (BB4.out.trans (B5.mono BB4.out.size)).alloc (Nat.le_trans BB4.out.size B5.size) _
      have T5 : Hid (Tab W5) := T0.out.all BB5.out
      clear B5 hd T4 BB4
      go_upto_region 13 with fail
      rw [← hW5]
      clear hW5
      go_wp2_with fail
      refine (specDateOf_yes day _ hr1 hr2).mono ?_
      rintro e w6 ⟨y', m', d', rfl, hd', B6⟩
      obtain ⟨rfl, rfl, rfl⟩ := hd'.uniq HD.out
      have E6 : Hid (DBox w6 w5.heap.size y' m' d') := E5.out.below B6
      obtain ⟨W6, hW6⟩ : ∃ W, W = w6.alloc (.cells #[.int .i64 y', .int .i64 m', .int .i64 d'] 25) := ⟨_, rfl⟩
      have E7 : Hid (DBox W6 w5.heap.size y' m' d') := by rw [hW6]; exact E6.out.alloc _
      have F7 : Hid (DBox W6 w6.heap.size y' m' d') := by rw [hW6]; exact DBox.new w6 y' m' d' 25
      have BB7 : Hid (Below w.heap.size w W6) := by rw [hW6]; exact (BB5.out.trans (B6.mono BB5.out.size)).alloc (Nat.le_trans BB5.out.size B6.size) _
      have T7 : Hid (Tab W6) := T0.out.all BB7.out
      clear hd' B6 E5 E6 BB5 T5
      go_upto_region 14 with fail
      rw [← hW6]
      clear hW6
      obtain ⟨e0, e1, e2, _⟩ := E7.out
      obtain ⟨f0, f1, f2, _⟩ := F7.out
      by_cases hmx : day = 3000000
      · subst hmx
        go_wp2
        go_ret
        exact ⟨by simp, BB7.out⟩
      · have hmb : (day == 3000000) = false := by simp [hmx]
        have hr3 : day + 1 ≤ 3000000 := by omega
        have hr4 : 0 ≤ day + 1 := by omega
        clear hmx
        obtain ⟨iy1, iy2, im1, im2, id1, id2, _⟩ := HD.out
        have hdim := Cal.dim_bd y' m'
        have id3 : d' ≤ 31 := by omega
        have DI : Hid (∀ w', Tab w' → Calls Tryd.prog 12 #[.agg #[.int .i64 y', .int .i64 m', .int .i64 d']] w' fun e w'' => e = .returned (.int .i64 day) ∧ Below w'.heap.size w' w'') := fun w' h' => by
          have := implDayOf y' m' d' w' h'
          rw [(dayN_of HD.out hr2).1] at this
          exact this
        have OI : Hid (∀ w', Tab w' → Calls Tryd.prog 10 #[.agg #[.int .i64 y', .int .i64 m', .int .i64 d']] w' fun e w'' => e = .returned (.bool true) ∧ Below w'.heap.size w' w'') := fun w' h' => by
          have := implDateOk y' m' d' w' h'
          rw [(dayN_of HD.out hr2).2] at this
          exact this
        have HL : Hid (LastOf day ↔ d' = Cal.dim y' m') := last_of hr1 hr2 HD.out
        go_wp2_with fail
        refine (implDateOf_yes (day + 1) _ hr4 hr3 T7.out).mono ?_
        rintro e w8 ⟨yy, mm, dd, rfl, hdn, B8⟩
        rcases next_date HD.out hdn with ⟨c1, ey, em, ed⟩ | ⟨c1, c2, ey, em, ed⟩ | ⟨c1, c2, ey, em, ed⟩
        · subst yy mm dd
          obtain ⟨W8, hW8⟩ : ∃ W, W = w8.alloc (.cells #[.int .i64 (y'), .int .i64 (m'), .int .i64 (d' + 1)] 25) := ⟨_, rfl⟩
          have E8 : Hid (DBox W8 w5.heap.size y' m' d') := by rw [hW8]; exact (E7.out.below B8).alloc _
          have G8 : Hid (DBox W8 w8.heap.size (y') (m') (d' + 1)) := by rw [hW8]; exact DBox.new w8 _ _ _ 25
          have BB8 : Hid (Below w.heap.size w W8) := by rw [hW8]; exact (BB7.out.trans (B8.mono BB7.out.size)).alloc (Nat.le_trans BB7.out.size B8.size) _
          have T8 : Hid (Tab W8) := T0.out.all BB8.out
          clear B8 E7 F7 BB7 T7 e0 e1 e2 f0 f1 f2
          go_upto_region 17 with fail
          rw [← hW8]
          clear hW8
          obtain ⟨e0, e1, e2, _⟩ := E8.out
          obtain ⟨g0, g1, g2, _⟩ := G8.out
          have HLAST : Hid (¬ LastOf day) := fun h => by have := HL.out.1 h; omega
          have q1 : (d' + 1 == 1) = false := beq_eq_false_iff_ne.2 (by omega)
          clear hdn hdim id2 c1
          have ME : Hid (∀ w', Tab w' → Calls Tryd.prog 17 #[.int .i64 day] w' fun e w'' => e = .returned (.bool false) ∧ Below w'.heap.size w' w'') := fun w' h' => (implMonthEnd day w' h').mono fun e w'' ⟨b, he, hb, hB⟩ => ⟨by rw [he]; cases b <;> first | rfl | exact absurd (hb.1 rfl) HLAST.out | exact absurd (hb.2 HLAST.out) (by simp), hB⟩
          have MS : Hid (∀ w', Calls Tryd.prog 16 #[.int .i64 day] w' fun e w'' => e = .returned (.bool false) ∧ Below w'.heap.size w' w'') := fun w' => (specMonthEnd day w').mono fun e w'' ⟨b, he, hb, hB⟩ => ⟨by rw [he]; cases b <;> first | rfl | exact absurd (hb.1 rfl) HLAST.out | exact absurd (hb.2 HLAST.out) (by simp), hB⟩
          go_wp2_with fail
          refine (DI.out _ T8.out).mono ?_
          rintro e w9 ⟨rfl, B9⟩
          have T9 : Hid (Tab w9) := T8.out.all B9
          have BB9 : Hid (Below _ _ w9) := BB8.out.trans (B9.mono BB8.out.size)
          have E9 : Hid (DBox w9 w5.heap.size y' m' d') := E8.out.below B9
          clear B9 T8 BB8 E8 G8 g0 g1 g2 e0 e1 e2
          obtain ⟨e0, e1, e2, _⟩ := E9.out
          go_wp2_with fail
          refine (OI.out _ T9.out).mono ?_
          rintro e w10 ⟨rfl, B10⟩
          have T10 : Hid (Tab w10) := T9.out.all B10
          have BB10 : Hid (Below _ _ w10) := BB9.out.trans (B10.mono BB9.out.size)
          clear B10 T9 BB9 E9 e0 e1 e2
          go_wp2_with fail
          refine (ME.out _ T10.out).mono ?_
          rintro e w11 ⟨rfl, B11⟩
          have BB11 : Hid (Below _ _ w11) := BB10.out.trans (B11.mono BB10.out.size)
          clear B11 T10 BB10
          go_wp2_with fail
          refine (MS.out _).mono ?_
          rintro e w12 ⟨rfl, B12⟩
          have BB12 : Hid (Below _ _ w12) := BB11.out.trans (B12.mono BB11.out.size)
          clear B12 BB11
          go_wp2
          go_ret
          exact ⟨rfl, BB12.out⟩
        · subst yy mm dd
          obtain ⟨W8, hW8⟩ : ∃ W, W = w8.alloc (.cells #[.int .i64 (y'), .int .i64 (m' + 1), .int .i64 (1)] 25) := ⟨_, rfl⟩
          have E8 : Hid (DBox W8 w5.heap.size y' m' d') := by rw [hW8]; exact (E7.out.below B8).alloc _
          have G8 : Hid (DBox W8 w8.heap.size (y') (m' + 1) (1)) := by rw [hW8]; exact DBox.new w8 _ _ _ 25
          have BB8 : Hid (Below w.heap.size w W8) := by rw [hW8]; exact (BB7.out.trans (B8.mono BB7.out.size)).alloc (Nat.le_trans BB7.out.size B8.size) _
          have T8 : Hid (Tab W8) := T0.out.all BB8.out
          clear B8 E7 F7 BB7 T7 e0 e1 e2 f0 f1 f2
          go_upto_region 17 with fail
          rw [← hW8]
          clear hW8
          obtain ⟨e0, e1, e2, _⟩ := E8.out
          obtain ⟨g0, g1, g2, _⟩ := G8.out
          have HLAST : Hid (LastOf day) := HL.out.2 c1
          have q1 : ((1 : Int) == d' + 1) = false := beq_eq_false_iff_ne.2 (by omega)
          clear hdn hdim id2 c1 c2
          have ME : Hid (∀ w', Tab w' → Calls Tryd.prog 17 #[.int .i64 day] w' fun e w'' => e = .returned (.bool true) ∧ Below w'.heap.size w' w'') := fun w' h' => (implMonthEnd day w' h').mono fun e w'' ⟨b, he, hb, hB⟩ => ⟨by rw [he]; cases b <;> first | rfl | exact absurd (hb.1 rfl) HLAST.out | exact absurd (hb.2 HLAST.out) (by simp), hB⟩
          have MS : Hid (∀ w', Calls Tryd.prog 16 #[.int .i64 day] w' fun e w'' => e = .returned (.bool true) ∧ Below w'.heap.size w' w'') := fun w' => (specMonthEnd day w').mono fun e w'' ⟨b, he, hb, hB⟩ => ⟨by rw [he]; cases b <;> first | rfl | exact absurd (hb.1 rfl) HLAST.out | exact absurd (hb.2 HLAST.out) (by simp), hB⟩
          go_wp2_with fail
          refine (DI.out _ T8.out).mono ?_
          rintro e w9 ⟨rfl, B9⟩
          have T9 : Hid (Tab w9) := T8.out.all B9
          have BB9 : Hid (Below _ _ w9) := BB8.out.trans (B9.mono BB8.out.size)
          have E9 : Hid (DBox w9 w5.heap.size y' m' d') := E8.out.below B9
          clear B9 T8 BB8 E8 G8 g0 g1 g2 e0 e1 e2
          obtain ⟨e0, e1, e2, _⟩ := E9.out
          go_wp2_with fail
          refine (OI.out _ T9.out).mono ?_
          rintro e w10 ⟨rfl, B10⟩
          have T10 : Hid (Tab w10) := T9.out.all B10
          have BB10 : Hid (Below _ _ w10) := BB9.out.trans (B10.mono BB9.out.size)
          clear B10 T9 BB9 E9 e0 e1 e2
          go_wp2_with fail
          refine (ME.out _ T10.out).mono ?_
          rintro e w11 ⟨rfl, B11⟩
          have BB11 : Hid (Below _ _ w11) := BB10.out.trans (B11.mono BB10.out.size)
          clear B11 T10 BB10
          go_wp2_with fail
          refine (MS.out _).mono ?_
          rintro e w12 ⟨rfl, B12⟩
          have BB12 : Hid (Below _ _ w12) := BB11.out.trans (B12.mono BB11.out.size)
          clear B12 BB11
          go_wp2
          go_ret
          exact ⟨rfl, BB12.out⟩
        · subst yy mm dd
          subst c2
          obtain ⟨W8, hW8⟩ : ∃ W, W = w8.alloc (.cells #[.int .i64 (y' + 1), .int .i64 (1), .int .i64 (1)] 25) := ⟨_, rfl⟩
          have E8 : Hid (DBox W8 w5.heap.size y' 12 d') := by rw [hW8]; exact (E7.out.below B8).alloc _
          have G8 : Hid (DBox W8 w8.heap.size (y' + 1) (1) (1)) := by rw [hW8]; exact DBox.new w8 _ _ _ 25
          have BB8 : Hid (Below w.heap.size w W8) := by rw [hW8]; exact (BB7.out.trans (B8.mono BB7.out.size)).alloc (Nat.le_trans BB7.out.size B8.size) _
          have T8 : Hid (Tab W8) := T0.out.all BB8.out
          clear B8 E7 F7 BB7 T7 e0 e1 e2 f0 f1 f2
          go_upto_region 17 with fail
          rw [← hW8]
          clear hW8
          obtain ⟨e0, e1, e2, _⟩ := E8.out
          obtain ⟨g0, g1, g2, _⟩ := G8.out
          have HLAST : Hid (LastOf day) := HL.out.2 c1
          have q1 : ((1 : Int) == d' + 1) = false := beq_eq_false_iff_ne.2 (by omega)
          clear hdn hdim id2 c1
          have ME : Hid (∀ w', Tab w' → Calls Tryd.prog 17 #[.int .i64 day] w' fun e w'' => e = .returned (.bool true) ∧ Below w'.heap.size w' w'') := fun w' h' => (implMonthEnd day w' h').mono fun e w'' ⟨b, he, hb, hB⟩ => ⟨by rw [he]; cases b <;> first | rfl | exact absurd (hb.1 rfl) HLAST.out | exact absurd (hb.2 HLAST.out) (by simp), hB⟩
          have MS : Hid (∀ w', Calls Tryd.prog 16 #[.int .i64 day] w' fun e w'' => e = .returned (.bool true) ∧ Below w'.heap.size w' w'') := fun w' => (specMonthEnd day w').mono fun e w'' ⟨b, he, hb, hB⟩ => ⟨by rw [he]; cases b <;> first | rfl | exact absurd (hb.1 rfl) HLAST.out | exact absurd (hb.2 HLAST.out) (by simp), hB⟩
          go_wp2_with fail
          refine (DI.out _ T8.out).mono ?_
          rintro e w9 ⟨rfl, B9⟩
          have T9 : Hid (Tab w9) := T8.out.all B9
          have BB9 : Hid (Below _ _ w9) := BB8.out.trans (B9.mono BB8.out.size)
          have E9 : Hid (DBox w9 w5.heap.size y' 12 d') := E8.out.below B9
          clear B9 T8 BB8 E8 G8 g0 g1 g2 e0 e1 e2
          obtain ⟨e0, e1, e2, _⟩ := E9.out
          go_wp2_with fail
          refine (OI.out _ T9.out).mono ?_
          rintro e w10 ⟨rfl, B10⟩
          have T10 : Hid (Tab w10) := T9.out.all B10
          have BB10 : Hid (Below _ _ w10) := BB9.out.trans (B10.mono BB9.out.size)
          clear B10 T9 BB9 E9 e0 e1 e2
          go_wp2_with fail
          refine (ME.out _ T10.out).mono ?_
          rintro e w11 ⟨rfl, B11⟩
          have BB11 : Hid (Below _ _ w11) := BB10.out.trans (B11.mono BB10.out.size)
          clear B11 T10 BB10
          go_wp2_with fail
          refine (MS.out _).mono ?_
          rintro e w12 ⟨rfl, B12⟩
          have BB12 : Hid (Below _ _ w12) := BB11.out.trans (B12.mono BB11.out.size)
          clear B12 BB11
          go_wp2
          go_ret
          exact ⟨rfl, BB12.out⟩
    · go_wp2_with fail
      refine (implDateOf_no day _ hr).mono ?_
      rintro e w5 ⟨rfl, B5⟩
      have BB5 : Hid (∀ x, Below w.heap.size w (w5.alloc x)) := fun x => (BB4.out.trans (B5.mono BB4.out.size)).alloc (Nat.le_trans BB4.out.size B5.size) x
      have E5 : Hid (DBox (w5.alloc (.cells #[.int .i64 0, .int .i64 0, .int .i64 0] 25)) w5.heap.size 0 0 0) := DBox.new w5 0 0 0 25
      clear B5 T4 BB4
      go_wp2_with fail
      refine (specDateOf_no day _ hr).mono ?_
      rintro e w6 ⟨rfl, B6⟩
      have E6 : Hid (DBox w6 w5.heap.size 0 0 0) := E5.out.below B6
      have BB6 : Hid (∀ x, Below w.heap.size w (w6.alloc x)) := fun x => ((BB5.out _).trans (B6.mono (BB5.out _).size)).alloc (Nat.le_trans (BB5.out _).size B6.size) x
      obtain ⟨e0, e1, e2, hez⟩ := E6.out
      have hne : ¬ w5.heap.size = w6.heap.size := by omega
      clear B6 BB5 E5 E6
      go_wp2
      go_ret
      exact ⟨by simp, BB6.out _⟩
end Go.Proofs.YtjdpaednagingaaDoor
