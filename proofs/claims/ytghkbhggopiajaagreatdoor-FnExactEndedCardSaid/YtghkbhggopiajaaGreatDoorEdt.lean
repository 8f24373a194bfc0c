/- Ended of both: one answer. -/
import Derived.Test.YtghkbhggopiajaaGreatDoorEds
namespace Go.Proofs.YtghkbhggopiajaaGreatDoor
open Go.RowKit
set_option maxRecDepth 8000

/-- What Ended comes to: the day's end of a right bank, where that is right; else nothing. -/
def EndOut (L : List Acc) (O : List Ord) (k : Bk) (w : World) (e : Ending) (w' : World) : Prop :=
  ((bankOk (FL L) L.length (OrdF O) O.length k ∧ endOk L O k) ∧ ∃ v u, e = .returned (.tuple #[.agg #[.int .i64 (endK L O k).day, v, u, .int .i64 (endK L O k).inn, .int .i64 (endK L O k).out, .int .i64 (endK L O k).posted, .int .i64 (endK L O k).missed], .bool true]) ∧ AL w' w.heap.size v (endA L O k) ∧ OrdL w' w.heap.size u (endO O k) ∧ Below w.heap.size w w') ∨ (¬ (bankOk (FL L) L.length (OrdF O) O.length k ∧ endOk L O k) ∧ e = .returned (.tuple #[.agg #[.int .i64 0, .slice none 0 0, .slice none 0 0, .int .i64 0, .int .i64 0, .int .i64 0, .int .i64 0], .bool false]) ∧ Below w.heap.size w w')

theorem implEnded (a b : Option Addr) (c d : Nat) (L : List Acc) (O : List Ord) (k : Bk) (p : Nat → Addr) (w : World) (hF : Fo w a L.length (FL L)) (hO : Ords w b O.length (OrdF O)) (hG : GE w p) :
    Calls Tryz.prog 22 #[.agg #[.int .i64 k.day, .slice a L.length c, .slice b O.length d, .int .i64 k.inn, .int .i64 k.out, .int .i64 k.posted, .int .i64 k.missed]] w fun e w' => EndOut L O k w e w' := by
  by_cases hb : bankOk (FL L) L.length (OrdF O) O.length k
  · refine (implEnded_ok a b c d L O k p w hF hO hG hb).mono fun e w' h => ?_
    rcases h with ⟨h1, h2⟩ | ⟨h1, h2⟩
    · exact Or.inl ⟨⟨hb, h1⟩, h2⟩
    · exact Or.inr ⟨fun h => h1 h.2, h2⟩
  · exact (implEnded_bad a b c d L O k w hF hO hb).mono fun e w' h => Or.inr ⟨fun h' => hb h'.1, h⟩

set_option maxHeartbeats 4000000 in
theorem specEnded_bad (a b : Option Addr) (c d : Nat) (L : List Acc) (O : List Ord) (k : Bk) (w : World) (hF : Fo w a L.length (FL L)) (hO : Ords w b O.length (OrdF O)) (hb : ¬ bankOk (FL L) L.length (OrdF O) O.length k) :
    Calls Tryz.prog 23 #[.agg #[.int .i64 k.day, .slice a L.length c, .slice b O.length d, .int .i64 k.inn, .int .i64 k.out, .int .i64 k.posted, .int .i64 k.missed]] w fun e w' => e = .returned (.tuple #[.agg #[.int .i64 0, .slice none 0 0, .slice none 0 0, .int .i64 0, .int .i64 0, .int .i64 0, .int .i64 0], .bool false]) ∧ Below w.heap.size w w' := by
  have HF : Hid (Fo w a L.length (FL L)) := hF
  have HO : Hid (Ords w b O.length (OrdF O)) := hO
  have HBad : Hid (¬ bankOk (FL L) L.length (OrdF O) O.length k) := hb
  clear hF hO hb
  obtain ⟨W0, hW0⟩ : ∃ W0, W0 = (w.alloc (.cells #[.int .i64 k.day, .slice a L.length c, .slice b O.length d, .int .i64 k.inn, .int .i64 k.out, .int .i64 k.posted, .int .i64 k.missed] 38)).alloc (.cells #[.int .i64 0, .slice none 0 0, .slice none 0 0, .int .i64 0, .int .i64 0, .int .i64 0, .int .i64 0] 38) := ⟨_, rfl⟩
  have b0 : Below w.heap.size w W0 := by rw [hW0]; exact ((Below.refl _ _).alloc (Nat.le_refl _) _).alloc (by simp) _
  have z1 : Box7 W0 w.heap.size (.int .i64 k.day) (.slice a L.length c) (.slice b O.length d) (.int .i64 k.inn) (.int .i64 k.out) (.int .i64 k.posted) (.int .i64 k.missed) := by
    rw [hW0]; exact (Box7.new w _ _ _ _ _ _ _ 38).kept ((Below.refl _ _).alloc (Nat.le_refl _) _) (by simp)
  have z2 : Box7 W0 (w.heap.size + 1) (.int .i64 0) (.slice none 0 0) (.slice none 0 0) (.int .i64 0) (.int .i64 0) (.int .i64 0) (.int .i64 0) := by
    rw [hW0]
    have := Box7.new (w.alloc (.cells #[.int .i64 k.day, .slice a L.length c, .slice b O.length d, .int .i64 k.inn, .int .i64 k.out, .int .i64 k.posted, .int .i64 k.missed] 38)) (.int .i64 0) (.slice none 0 0) (.slice none 0 0) (.int .i64 0) (.int .i64 0) (.int .i64 0) (.int .i64 0) 38
    rw [World.size_alloc] at this
    exact this
  have hs0 : W0.heap.size = w.heap.size + 1 + 1 := by rw [hW0]; simp
  have HW0 : Hid (W0 = _) := hW0
  have HB0 : Hid (Below w.heap.size w W0) := b0
  have Z1 : Hid (Box7 W0 w.heap.size (.int .i64 k.day) (.slice a L.length c) (.slice b O.length d) (.int .i64 k.inn) (.int .i64 k.out) (.int .i64 k.posted) (.int .i64 k.missed)) := z1
  have Z2 : Hid (Box7 W0 (w.heap.size + 1) (.int .i64 0) (.slice none 0 0) (.slice none 0 0) (.int .i64 0) (.int .i64 0) (.int .i64 0) (.int .i64 0)) := z2
  clear hW0 b0 z1 z2
  go_enter Tryz.func23, Tryz.ntmps23
  go_wp2_with fail
  rw [← HW0.out]
  clear HW0
  refine (specBank a b L.length c O.length d (FL L) (OrdF O) k _ (HF.out.below HB0.out) (HO.out.below HB0.out)).mono ?_
  rintro e w1 ⟨⟨bb, rfl, hb1, hb2⟩, B1⟩
  obtain rfl : bb = false := by cases bb with | true => exact absurd (hb1 rfl) HBad.out | false => rfl
  obtain ⟨⟨r0, r1, r2, r3, r4, r5, r6⟩, rf, rz⟩ := Z2.out.kept B1 (by omega)
  have HB1 : Hid (Below w.heap.size w w1) := HB0.out.trans (B1.mono (by omega))
  clear hb1 hb2 B1 HB0 Z1 Z2 hs0
  go_wp2
  refine bodyPost_ret (v := .tuple #[.agg #[.int .i64 0, .slice none 0 0, .slice none 0 0, .int .i64 0, .int .i64 0, .int .i64 0, .int .i64 0], .bool false]) (by simp [results, Tryz.results23, go_sem, r0, r1, r2, r3, r4, r5, r6]) rfl ⟨rfl, ?_⟩
  repeat (refine below_far ?_ (by omega) _ _)
  exact HB1.out

set_option maxHeartbeats 4000000 in
theorem specEnded (a b : Option Addr) (c d : Nat) (L : List Acc) (O : List Ord) (k : Bk) (w : World) (hF : Fo w a L.length (FL L)) (hO : Ords w b O.length (OrdF O)) :
    Calls Tryz.prog 23 #[.agg #[.int .i64 k.day, .slice a L.length c, .slice b O.length d, .int .i64 k.inn, .int .i64 k.out, .int .i64 k.posted, .int .i64 k.missed]] w fun e w' => EndOut L O k w e w' := by
  by_cases hb : bankOk (FL L) L.length (OrdF O) O.length k
  rotate_left
  · exact (specEnded_bad a b c d L O k w hF hO hb).mono fun e w' h => Or.inr ⟨fun h' => hb h'.1, h⟩
  have HF : Hid (Fo w a L.length (FL L)) := hF
  have HO : Hid (Ords w b O.length (OrdF O)) := hO
  have HOK : Hid (bankOk (FL L) L.length (OrdF O) O.length k) := hb
  clear hF hO hb
  obtain ⟨W0, hW0⟩ : ∃ W0, W0 = (w.alloc (.cells #[.int .i64 k.day, .slice a L.length c, .slice b O.length d, .int .i64 k.inn, .int .i64 k.out, .int .i64 k.posted, .int .i64 k.missed] 38)).alloc (.cells #[.int .i64 0, .slice none 0 0, .slice none 0 0, .int .i64 0, .int .i64 0, .int .i64 0, .int .i64 0] 38) := ⟨_, rfl⟩
  have b0 : Below w.heap.size w W0 := by rw [hW0]; exact ((Below.refl _ _).alloc (Nat.le_refl _) _).alloc (by simp) _
  have z1 : Box7 W0 w.heap.size (.int .i64 k.day) (.slice a L.length c) (.slice b O.length d) (.int .i64 k.inn) (.int .i64 k.out) (.int .i64 k.posted) (.int .i64 k.missed) := by
    rw [hW0]; exact (Box7.new w _ _ _ _ _ _ _ 38).kept ((Below.refl _ _).alloc (Nat.le_refl _) _) (by simp)
  have z2 : Box7 W0 (w.heap.size + 1) (.int .i64 0) (.slice none 0 0) (.slice none 0 0) (.int .i64 0) (.int .i64 0) (.int .i64 0) (.int .i64 0) := by
    rw [hW0]
    have := Box7.new (w.alloc (.cells #[.int .i64 k.day, .slice a L.length c, .slice b O.length d, .int .i64 k.inn, .int .i64 k.out, .int .i64 k.posted, .int .i64 k.missed] 38)) (.int .i64 0) (.slice none 0 0) (.slice none 0 0) (.int .i64 0) (.int .i64 0) (.int .i64 0) (.int .i64 0) 38
    rw [World.size_alloc] at this
    exact this
  have hs0 : W0.heap.size = w.heap.size + 1 + 1 := by rw [hW0]; simp
  have HW0 : Hid (W0 = _) := hW0
  have HB0 : Hid (Below w.heap.size w W0) := b0
  have Z1 : Hid (Box7 W0 w.heap.size (.int .i64 k.day) (.slice a L.length c) (.slice b O.length d) (.int .i64 k.inn) (.int .i64 k.out) (.int .i64 k.posted) (.int .i64 k.missed)) := z1
  have Z2 : Hid (Box7 W0 (w.heap.size + 1) (.int .i64 0) (.slice none 0 0) (.slice none 0 0) (.int .i64 0) (.int .i64 0) (.int .i64 0) (.int .i64 0)) := z2
  clear hW0 b0 z1 z2
  go_enter Tryz.func23, Tryz.ntmps23
  go_wp2_with fail
  rw [← HW0.out]
  clear HW0
  refine (specBank a b L.length c O.length d (FL L) (OrdF O) k _ (HF.out.below HB0.out) (HO.out.below HB0.out)).mono ?_
  rintro e w1 ⟨⟨bb, rfl, hb1, hb2⟩, B1⟩
  obtain rfl : bb = true := by cases bb with | false => exact absurd HOK.out (hb2 rfl) | true => rfl
  have Y1 := Z1.out.kept B1 (by omega)
  have Y2 : Hid (Box7 w1 (w.heap.size + 1) (.int .i64 0) (.slice none 0 0) (.slice none 0 0) (.int .i64 0) (.int .i64 0) (.int .i64 0) (.int .i64 0)) := Z2.out.kept B1 (by omega)
  have HB1 : Hid (Below w.heap.size w w1) := HB0.out.trans (B1.mono (by omega))
  have hs1 : w.heap.size + 1 + 1 ≤ w1.heap.size := by have := B1.size; omega
  obtain ⟨⟨s0, s1, s2, s3, s4, s5, s6⟩, sf, sz⟩ := Y1
  clear hb1 hb2 B1 HB0 Z1 Z2 hs0
  go_wp2_with fail
  refine (specEnded5 a b c d L O k _ (HF.out.below HB1.out) (HO.out.below HB1.out) HOK.out).mono ?_
  rintro e w2 h2
  clear s0 s1 s2 s3 s4 s5 s6 sf sz
  rcases h2 with ⟨hok, v2, u2, rfl, A2, O2, B2⟩ | ⟨hno, rfl, B2⟩
  · obtain ⟨a2, c2, hv⟩ := A2.len
    subst hv
    obtain ⟨b2, d2, hv, _⟩ := O2.shape
    subst hv
    obtain ⟨⟨r0, r1, r2, r3, r4, r5, r6⟩, rf, rz⟩ := Y2.out.kept B2 (by omega)
    have HB2 : Hid (Below w.heap.size w w2) := HB1.out.trans (B2.mono (by omega))
    have HA2 : Hid (AL w2 w1.heap.size (.slice a2 (endA L O k).length c2) (endA L O k)) := A2
    have HO2 : Hid (OrdL w2 w1.heap.size (.slice b2 (endO O k).length d2) (endO O k)) := O2
    have HN : Hid (endOk L O k) := hok
    clear A2 O2 B2 hok
    generalize hK : endK L O k = K2 at *
    have HK : Hid (endK L O k = K2) := hK
    clear hK
    go_wp2
    refine bodyPost_ret (v := .tuple #[.agg #[.int .i64 K2.day, .slice a2 (endA L O k).length c2, .slice b2 (endO O k).length d2, .int .i64 K2.inn, .int .i64 K2.out, .int .i64 K2.posted, .int .i64 K2.missed], .bool true]) (by simp [results, Tryz.results23, go_sem, r0, r1, r2, r3, r4, r5, r6]) rfl (Or.inl ⟨⟨HOK.out, HN.out⟩, .slice a2 (endA L O k).length c2, .slice b2 (endO O k).length d2, ?_, ?_, ?_, ?_⟩)
    · rw [HK.out]
    · refine AL.mono (B := w1.heap.size) ?_ (by omega)
      repeat (refine AL.far ?_ (by omega) _ _)
      exact HA2.out
    · refine OrdL.mono (B := w1.heap.size) ?_ (by omega)
      repeat (refine OrdL.far ?_ (by omega) _ _)
      exact HO2.out
    · repeat (refine below_far ?_ (by omega) _ _)
      exact HB2.out
  · obtain ⟨⟨r0, r1, r2, r3, r4, r5, r6⟩, rf, rz⟩ := Y2.out.kept B2 (by omega)
    have HB2 : Hid (Below w.heap.size w w2) := HB1.out.trans (B2.mono (by omega))
    have HN : Hid (¬ endOk L O k) := hno
    clear B2 hno
    go_wp2
    refine bodyPost_ret (v := .tuple #[.agg #[.int .i64 0, .slice none 0 0, .slice none 0 0, .int .i64 0, .int .i64 0, .int .i64 0, .int .i64 0], .bool false]) (by simp [results, Tryz.results23, go_sem, r0, r1, r2, r3, r4, r5, r6]) rfl (Or.inr ⟨fun h => HN.out h.2, rfl, ?_⟩)
    repeat (refine below_far ?_ (by omega) _ _)
    exact HB2.out
end Go.Proofs.YtghkbhggopiajaaGreatDoor
