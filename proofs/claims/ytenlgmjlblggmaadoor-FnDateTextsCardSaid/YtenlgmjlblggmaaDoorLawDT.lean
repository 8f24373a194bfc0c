/- The law FnDateTexts returns true, whatever the bytes of the code. Conditions: the bytes lie in memory, the tables of the program and of the library as their texts lay them. -/
import Derived.Test.YtenlgmjlblggmaaDoorDrC
namespace Go.Proofs.YtenlgmjlblggmaaDoor
open Go.RowKit

set_option maxHeartbeats 4000000 in
theorem lawDateTexts (a : Option Addr) (len cap : Nat) (w : World) (h : Code w a len) (ht : Tab w) (hp : Pow w) :
    Calls Tryd.prog 5 #[.slice a len cap] w fun e w' => e = .returned (.bool true) ∧ Below w.heap.size w w' := by
  have H : Hid (Code w a len) := h
  have HT : Hid (Tab w) := ht
  have HP : Hid (Pow w) := hp
  clear h ht hp
  by_cases hbig : 1048576 < len
  · go_enter Tryd.func5, Tryd.ntmps5
    go_wp2_with (go_at_call 12; refine (big_yes _ _ _ _ hbig).mono ?_; rintro e w' ⟨rfl, rfl⟩)
    go_ret
    exact ⟨rfl, Below.refl _ _⟩
  go_enter Tryd.func5, Tryd.ntmps5
  go_wp2_with (go_at_call 12; refine (big_no _ _ _ _ (by omega)).mono ?_; rintro e w' ⟨rfl, rfl⟩)
  refine (drawDate a len cap _ H.out).mono ?_
  rintro e w1 ⟨y, m, d, rfl, B1⟩
  obtain ⟨W1, hW1⟩ : ∃ W1, W1 = w1.alloc (.cells #[.int .i64 y, .int .i64 m, .int .i64 d] 25) := ⟨_, rfl⟩
  have BB1 : Hid (Below w'.heap.size w' W1) := by rw [hW1]; exact B1.alloc B1.size _
  have z1 : w1.heap.size < W1.heap.size := by rw [hW1]; simp
  have q : ∀ (W' : World), Below W1.heap.size W1 W' → W'.cell? ⟨w1.heap.size, 0, none⟩ = some (.int .i64 y) ∧ W'.cell? ⟨w1.heap.size, 1, none⟩ = some (.int .i64 m) ∧ W'.cell? ⟨w1.heap.size, 2, none⟩ = some (.int .i64 d) := fun W' hb => by
    refine ⟨?_, ?_, ?_⟩
    · rw [hb.cell (p := ⟨w1.heap.size, 0, none⟩) z1, hW1]; simp [go_sem]
    · rw [hb.cell (p := ⟨w1.heap.size, 1, none⟩) z1, hW1]; simp [go_sem]
    · rw [hb.cell (p := ⟨w1.heap.size, 2, none⟩) z1, hW1]; simp [go_sem]
  have Q : Hid (∀ (W' : World), Below W1.heap.size W1 W' → W'.cell? ⟨w1.heap.size, 0, none⟩ = some (.int .i64 y) ∧ W'.cell? ⟨w1.heap.size, 1, none⟩ = some (.int .i64 m) ∧ W'.cell? ⟨w1.heap.size, 2, none⟩ = some (.int .i64 d)) := q
  clear q B1
  obtain ⟨q0, q1, q2⟩ := Q.out W1 (Below.refl _ _)
  obtain ⟨x, hx1, hx2, hx3⟩ := text_any y m d
  have SX : Hid (∀ w, Calls Tryd.prog 6 #[.agg #[.int .i64 y, .int .i64 m, .int .i64 d]] w fun e w' => e = .returned (.string x) ∧ Below w.heap.size w w') := hx1
  have IX : Hid (∀ w, Tab w → Pow w → Calls Tryd.prog 8 #[.agg #[.int .i64 y, .int .i64 m, .int .i64 d]] w fun e w' => e = .returned (.string x) ∧ Below w.heap.size w w') := hx2
  clear hx1 hx2
  go_upto_region 4 with fail
  rw [← hW1]
  clear hW1 z1
  go_wp2_with fail
  refine (IX.out _ (HT.out.below BB1.out HT.out.1) (HP.out.below BB1.out)).mono ?_
  rintro e w2 ⟨rfl, B2⟩
  have BQ2 : Hid (Below W1.heap.size W1 w2) := B2
  have BB2 : Hid (Below w'.heap.size w' w2) := BB1.out.trans (B2.mono BB1.out.size)
  clear B2 q0 q1 q2
  rcases hx3 with ⟨hxe, _⟩ | ⟨hxs, _, hrd⟩
  · subst hxe
    have RD : Hid (∀ w, Tab w → Calls Tryd.prog 10 #[.string ⟨#[]⟩] w fun e w' => e = .returned (.tuple #[.agg #[.int .i64 0, .int .i64 0, .int .i64 0], .bool false]) ∧ Below w.heap.size w w') := fun w ht => (implRead ⟨#[]⟩ w (by decide) ht).mono fun e w' hh => ⟨by
      rcases hh.2 with ⟨hg, _⟩ | ⟨_, he⟩
      · cases hg.1
      · exact he, hh.1⟩
    go_wp2_with fail
    refine (RD.out _ (HT.out.below BB2.out HT.out.1)).mono ?_
    rintro e w3 ⟨rfl, B3⟩
    obtain ⟨W3, hW3⟩ : ∃ W3, W3 = w3.alloc (.cells #[.int .i64 0, .int .i64 0, .int .i64 0] 25) := ⟨_, rfl⟩
    have BQ3 : Hid (Below W1.heap.size W1 W3) := by rw [hW3]; exact (BQ2.out.trans (B3.mono BQ2.out.size)).alloc (Nat.le_trans BQ2.out.size B3.size) _
    have BB3 : Hid (Below w'.heap.size w' W3) := BB1.out.trans (BQ3.out.mono BB1.out.size)
    have z3 : w3.heap.size < W3.heap.size := by rw [hW3]; simp
    have c0 : W3.cell? ⟨w3.heap.size, 0, none⟩ = some (.int .i64 0) := by rw [hW3]; simp [go_sem]
    have c1 : W3.cell? ⟨w3.heap.size, 1, none⟩ = some (.int .i64 0) := by rw [hW3]; simp [go_sem]
    have c2 : W3.cell? ⟨w3.heap.size, 2, none⟩ = some (.int .i64 0) := by rw [hW3]; simp [go_sem]
    obtain ⟨q0, q1, q2⟩ := Q.out W3 BQ3.out
    clear B3
    go_upto_region 6 with fail
    rw [← hW3]
    clear hW3
    go_wp2_with fail
    refine (SX.out _).mono ?_
    rintro e w4 ⟨rfl, B4⟩
    have d0 : w4.cell? ⟨w3.heap.size, 0, none⟩ = some (.int .i64 0) := by rw [B4.cell (p := ⟨w3.heap.size, 0, none⟩) z3]; exact c0
    have d1 : w4.cell? ⟨w3.heap.size, 1, none⟩ = some (.int .i64 0) := by rw [B4.cell (p := ⟨w3.heap.size, 1, none⟩) z3]; exact c1
    have d2 : w4.cell? ⟨w3.heap.size, 2, none⟩ = some (.int .i64 0) := by rw [B4.cell (p := ⟨w3.heap.size, 2, none⟩) z3]; exact c2
    have BQ4 : Hid (Below W1.heap.size W1 w4) := BQ3.out.trans (B4.mono BQ3.out.size)
    have BB4 : Hid (Below w'.heap.size w' w4) := BB3.out.trans (B4.mono BB3.out.size)
    clear B4 c0 c1 c2 q0 q1 q2 z3
    obtain ⟨q0, q1, q2⟩ := Q.out w4 BQ4.out
    have hyy : (y == y) = true := by simp
    have hmm : (m == m) = true := by simp
    have hdd : (d == d) = true := by simp
    go_wp2_with fail
    refine (drawRead a len cap _ (H.out.below BB4.out)).mono ?_
    rintro e w5 ⟨t, rfl, hts, B5⟩
    have BB5 : Hid (Below w'.heap.size w' w5) := BB4.out.trans (B5.mono BB4.out.size)
    clear B5 q0 q1 q2 d0 d1 d2
    obtain ⟨r1, r2, r3, b, hr1, hr2⟩ := read_any t
    have IR : Hid (∀ w, Tab w → Calls Tryd.prog 10 #[.string t] w fun e w' => e = .returned (.tuple #[.agg #[.int .i64 r1, .int .i64 r2, .int .i64 r3], .bool b]) ∧ Below w.heap.size w w') := fun w ht => (implRead t w (by omega) ht).mono (hr1 w)
    have SR : Hid (∀ w, Calls Tryd.prog 9 #[.string t] w fun e w' => e = .returned (.tuple #[.agg #[.int .i64 r1, .int .i64 r2, .int .i64 r3], .bool b]) ∧ Below w.heap.size w w') := fun w => (specRead t w (by omega)).mono (hr1 w)
    clear hr1
    go_wp2_with fail
    refine (IR.out _ (HT.out.below BB5.out HT.out.1)).mono ?_
    rintro e w6 ⟨rfl, B6⟩
    obtain ⟨W6, hW6⟩ : ∃ W6, W6 = w6.alloc (.cells #[.int .i64 r1, .int .i64 r2, .int .i64 r3] 25) := ⟨_, rfl⟩
    have BB6 : Hid (Below w'.heap.size w' W6) := by rw [hW6]; exact (BB5.out.trans (B6.mono BB5.out.size)).alloc (Nat.le_trans BB5.out.size B6.size) _
    have z6 : w6.heap.size < W6.heap.size := by rw [hW6]; simp
    have g0 : W6.cell? ⟨w6.heap.size, 0, none⟩ = some (.int .i64 r1) := by rw [hW6]; simp [go_sem]
    have g1 : W6.cell? ⟨w6.heap.size, 1, none⟩ = some (.int .i64 r2) := by rw [hW6]; simp [go_sem]
    have g2 : W6.cell? ⟨w6.heap.size, 2, none⟩ = some (.int .i64 r3) := by rw [hW6]; simp [go_sem]
    clear B6
    go_upto_region 10 with fail
    rw [← hW6]
    clear hW6
    go_wp2_with fail
    refine (SR.out _).mono ?_
    rintro e w7 ⟨rfl, B7⟩
    obtain ⟨W7, hW7⟩ : ∃ W7, W7 = w7.alloc (.cells #[.int .i64 r1, .int .i64 r2, .int .i64 r3] 25) := ⟨_, rfl⟩
    have BB7 : Hid (Below w'.heap.size w' W7) := by rw [hW7]; exact (BB6.out.trans (B7.mono BB6.out.size)).alloc (Nat.le_trans BB6.out.size B7.size) _
    have k : ∀ o, W7.cell? ⟨w6.heap.size, o, none⟩ = W6.cell? ⟨w6.heap.size, o, none⟩ := fun o => by rw [hW7, World.cell?_alloc_lt _ _ _ (by exact Nat.lt_of_lt_of_le z6 B7.size), B7.cell (p := ⟨w6.heap.size, o, none⟩) z6]
    have f0 : W7.cell? ⟨w6.heap.size, 0, none⟩ = some (.int .i64 r1) := by rw [k]; exact g0
    have f1 : W7.cell? ⟨w6.heap.size, 1, none⟩ = some (.int .i64 r2) := by rw [k]; exact g1
    have f2 : W7.cell? ⟨w6.heap.size, 2, none⟩ = some (.int .i64 r3) := by rw [k]; exact g2
    clear B7 g0 g1 g2 k z6
    cases b with
    | false =>
      go_upto_region 11 with fail
      rw [← hW7]
      clear hW7 hr2
      go_wp2
      go_ret
      exact ⟨rfl, BB7.out⟩
    | true =>
      have TX : Hid (∀ w, Tab w → Pow w → Calls Tryd.prog 8 #[.agg #[.int .i64 r1, .int .i64 r2, .int .i64 r3]] w fun e w' => e = .returned (.string t) ∧ Below w.heap.size w w') := hr2 rfl
      go_upto_region 11 with fail
      rw [← hW7]
      clear hW7 hr2
      go_wp2_with fail
      refine (TX.out _ (HT.out.below BB7.out HT.out.1) (HP.out.below BB7.out)).mono ?_
      rintro e w8 ⟨rfl, B8⟩
      have BB8 : Hid (Below w'.heap.size w' w8) := BB7.out.trans (B8.mono BB7.out.size)
      clear B8
      go_wp2
      go_ret
      exact ⟨rfl, BB8.out⟩
  · have RD : Hid (∀ w, Tab w → Calls Tryd.prog 10 #[.string x] w fun e w' => e = .returned (.tuple #[.agg #[.int .i64 y, .int .i64 m, .int .i64 d], .bool true]) ∧ Below w.heap.size w w') := fun w ht => (implRead x w (by omega) ht).mono (hrd w)
    have hne : x.toList ≠ [] := fun e => by
      have h10 : x.data.toList.length = 10 := by simp; exact hxs
      rw [ByteArray.toList_eq] at e
      rw [e] at h10
      cases h10
    have hn1 : (x.toList == []) = false := beq_eq_false_iff_ne.2 hne
    have hn2 : (x.toList != []) = true := bne_iff_ne.2 hne
    clear hne hrd hxs
    go_wp2_with fail
    refine (RD.out _ (HT.out.below BB2.out HT.out.1)).mono ?_
    rintro e w3 ⟨rfl, B3⟩
    obtain ⟨W3, hW3⟩ : ∃ W3, W3 = w3.alloc (.cells #[.int .i64 y, .int .i64 m, .int .i64 d] 25) := ⟨_, rfl⟩
    have BQ3 : Hid (Below W1.heap.size W1 W3) := by rw [hW3]; exact (BQ2.out.trans (B3.mono BQ2.out.size)).alloc (Nat.le_trans BQ2.out.size B3.size) _
    have BB3 : Hid (Below w'.heap.size w' W3) := BB1.out.trans (BQ3.out.mono BB1.out.size)
    have z3 : w3.heap.size < W3.heap.size := by rw [hW3]; simp
    have c0 : W3.cell? ⟨w3.heap.size, 0, none⟩ = some (.int .i64 y) := by rw [hW3]; simp [go_sem]
    have c1 : W3.cell? ⟨w3.heap.size, 1, none⟩ = some (.int .i64 m) := by rw [hW3]; simp [go_sem]
    have c2 : W3.cell? ⟨w3.heap.size, 2, none⟩ = some (.int .i64 d) := by rw [hW3]; simp [go_sem]
    obtain ⟨q0, q1, q2⟩ := Q.out W3 BQ3.out
    clear B3
    go_upto_region 6 with fail
    rw [← hW3]
    clear hW3
    go_wp2_with fail
    refine (SX.out _).mono ?_
    rintro e w4 ⟨rfl, B4⟩
    have d0 : w4.cell? ⟨w3.heap.size, 0, none⟩ = some (.int .i64 y) := by rw [B4.cell (p := ⟨w3.heap.size, 0, none⟩) z3]; exact c0
    have d1 : w4.cell? ⟨w3.heap.size, 1, none⟩ = some (.int .i64 m) := by rw [B4.cell (p := ⟨w3.heap.size, 1, none⟩) z3]; exact c1
    have d2 : w4.cell? ⟨w3.heap.size, 2, none⟩ = some (.int .i64 d) := by rw [B4.cell (p := ⟨w3.heap.size, 2, none⟩) z3]; exact c2
    have BQ4 : Hid (Below W1.heap.size W1 w4) := BQ3.out.trans (B4.mono BQ3.out.size)
    have BB4 : Hid (Below w'.heap.size w' w4) := BB3.out.trans (B4.mono BB3.out.size)
    clear B4 c0 c1 c2 q0 q1 q2 z3
    obtain ⟨q0, q1, q2⟩ := Q.out w4 BQ4.out
    have hyy : (y == y) = true := by simp
    have hmm : (m == m) = true := by simp
    have hdd : (d == d) = true := by simp
    go_wp2_with fail
    refine (drawRead a len cap _ (H.out.below BB4.out)).mono ?_
    rintro e w5 ⟨t, rfl, hts, B5⟩
    have BB5 : Hid (Below w'.heap.size w' w5) := BB4.out.trans (B5.mono BB4.out.size)
    clear B5 q0 q1 q2 d0 d1 d2
    obtain ⟨r1, r2, r3, b, hr1, hr2⟩ := read_any t
    have IR : Hid (∀ w, Tab w → Calls Tryd.prog 10 #[.string t] w fun e w' => e = .returned (.tuple #[.agg #[.int .i64 r1, .int .i64 r2, .int .i64 r3], .bool b]) ∧ Below w.heap.size w w') := fun w ht => (implRead t w (by omega) ht).mono (hr1 w)
    have SR : Hid (∀ w, Calls Tryd.prog 9 #[.string t] w fun e w' => e = .returned (.tuple #[.agg #[.int .i64 r1, .int .i64 r2, .int .i64 r3], .bool b]) ∧ Below w.heap.size w w') := fun w => (specRead t w (by omega)).mono (hr1 w)
    clear hr1
    go_wp2_with fail
    refine (IR.out _ (HT.out.below BB5.out HT.out.1)).mono ?_
    rintro e w6 ⟨rfl, B6⟩
    obtain ⟨W6, hW6⟩ : ∃ W6, W6 = w6.alloc (.cells #[.int .i64 r1, .int .i64 r2, .int .i64 r3] 25) := ⟨_, rfl⟩
    have BB6 : Hid (Below w'.heap.size w' W6) := by rw [hW6]; exact (BB5.out.trans (B6.mono BB5.out.size)).alloc (Nat.le_trans BB5.out.size B6.size) _
    have z6 : w6.heap.size < W6.heap.size := by rw [hW6]; simp
    have g0 : W6.cell? ⟨w6.heap.size, 0, none⟩ = some (.int .i64 r1) := by rw [hW6]; simp [go_sem]
    have g1 : W6.cell? ⟨w6.heap.size, 1, none⟩ = some (.int .i64 r2) := by rw [hW6]; simp [go_sem]
    have g2 : W6.cell? ⟨w6.heap.size, 2, none⟩ = some (.int .i64 r3) := by rw [hW6]; simp [go_sem]
    clear B6
    go_upto_region 10 with fail
    rw [← hW6]
    clear hW6
    go_wp2_with fail
    refine (SR.out _).mono ?_
    rintro e w7 ⟨rfl, B7⟩
    obtain ⟨W7, hW7⟩ : ∃ W7, W7 = w7.alloc (.cells #[.int .i64 r1, .int .i64 r2, .int .i64 r3] 25) := ⟨_, rfl⟩
    have BB7 : Hid (Below w'.heap.size w' W7) := by rw [hW7]; exact (BB6.out.trans (B7.mono BB6.out.size)).alloc (Nat.le_trans BB6.out.size B7.size) _
    have k : ∀ o, W7.cell? ⟨w6.heap.size, o, none⟩ = W6.cell? ⟨w6.heap.size, o, none⟩ := fun o => by rw [hW7, World.cell?_alloc_lt _ _ _ (by exact Nat.lt_of_lt_of_le z6 B7.size), B7.cell (p := ⟨w6.heap.size, o, none⟩) z6]
    have f0 : W7.cell? ⟨w6.heap.size, 0, none⟩ = some (.int .i64 r1) := by rw [k]; exact g0
    have f1 : W7.cell? ⟨w6.heap.size, 1, none⟩ = some (.int .i64 r2) := by rw [k]; exact g1
    have f2 : W7.cell? ⟨w6.heap.size, 2, none⟩ = some (.int .i64 r3) := by rw [k]; exact g2
    clear B7 g0 g1 g2 k z6
    cases b with
    | false =>
      go_upto_region 11 with fail
      rw [← hW7]
      clear hW7 hr2
      go_wp2
      go_ret
      exact ⟨rfl, BB7.out⟩
    | true =>
      have TX : Hid (∀ w, Tab w → Pow w → Calls Tryd.prog 8 #[.agg #[.int .i64 r1, .int .i64 r2, .int .i64 r3]] w fun e w' => e = .returned (.string t) ∧ Below w.heap.size w w') := hr2 rfl
      go_upto_region 11 with fail
      rw [← hW7]
      clear hW7 hr2
      go_wp2_with fail
      refine (TX.out _ (HT.out.below BB7.out HT.out.1) (HP.out.below BB7.out)).mono ?_
      rintro e w8 ⟨rfl, B8⟩
      have BB8 : Hid (Below w'.heap.size w' w8) := BB7.out.trans (B8.mono BB7.out.size)
      clear B8
      go_wp2
      go_ret
      exact ⟨rfl, BB8.out⟩
end Go.Proofs.YtenlgmjlblggmaaDoor
