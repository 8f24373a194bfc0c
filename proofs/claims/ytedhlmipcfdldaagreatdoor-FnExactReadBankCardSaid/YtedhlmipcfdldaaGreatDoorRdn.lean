/- The reader's words and numbers. Conditions: as of the reader. -/
import Derived.Test.YtedhlmipcfdldaaGreatDoorRdr
namespace Go.Proofs.YtedhlmipcfdldaaGreatDoor
open Go.RowKit Go.Shelf
set_option maxRecDepth 8000

/-- What a word comes to. -/
def WordOut (w : World) (p : Nat) (s : ByteArray) (e : Ending) (w' : World) : Prop := ∃ x t : ByteArray, e = .returned (.string x) ∧ x.data.toList = wordOf s.data.toList ∧ t.data.toList = restOf s.data.toList ∧ x.size ≤ s.size ∧ Rst w' p t ∧ Stp p w w'
set_option maxHeartbeats 1000000 in
theorem wordL (p : Nat) (s : ByteArray) (w : World) (h : Rst w p s) : Calls Tryz.prog 61 #[.pointer (some ⟨p, 0, none⟩)] w fun e w' => WordOut w p s e w' := by
  have H : Hid (Rst w p s) := h
  obtain ⟨h0, hz, _, hp, hs⟩ := h
  have C := idxAny s hs w
  have hp' : 0 < w.heap.size := by omega
  rcases index_word s.data.toList with ⟨hi, hw, hr⟩ | ⟨i, hi, hil, hw, hr⟩
  · rw [hi] at C
    have FI : Hid (∀ w1, Below w.heap.size w w1 → WordOut w p s (.returned (.string s)) (w1.setCell ⟨p, 0, none⟩ (.string ByteArray.empty))) := fun w1 hb => ⟨s, ByteArray.empty, rfl, hw.symm, hr.symm ▸ rfl, Nat.le_refl _, (H.out.below hb).set (by show 0 ≤ _; omega), (Stp.ofBelow hb).setCell 0 _⟩
    clear hi hw hr
    go_enter Tryz.func61, Tryz.ntmps61
    go_wp2_with fail
    refine C.mono ?_
    rintro e w1 ⟨rfl, B1⟩
    have R1 : Hid (Below w.heap.size w w1) := B1
    have g0 := (H.out.below B1).1
    have gz := (H.out.below B1).2.1
    clear B1 C h0 hz
    go_wp2
    go_ret
    exact FI.out _ R1.out
  · rw [hi] at C
    have FI : Hid (∀ w1, Below w.heap.size w w1 → WordOut w p s (.returned (.string (s.extract 0 i))) (w1.setCell ⟨p, 0, none⟩ (.string (s.extract i s.size)))) := fun w1 hb => ⟨_, _, rfl, by rw [extLD, hw]; simp, by rw [extLD, hr, List.take_of_length_le (by simp)], by rw [ByteArray.size_extract]; omega, (H.out.below hb).set (by rw [ByteArray.size_extract]; omega), (Stp.ofBelow hb).setCell 0 _⟩
    rw [lenD] at hil
    clear hi hw hr
    go_enter Tryz.func61, Tryz.ntmps61
    go_wp2_with fail
    refine C.mono ?_
    rintro e w1 ⟨rfl, B1⟩
    have R1 : Hid (Below w.heap.size w w1) := B1
    have g0 := (H.out.below B1).1
    have gz := (H.out.below B1).2.1
    clear B1 C h0 hz
    go_wp2
    go_ret
    exact FI.out _ R1.out
shelf_lay LaysC.n174 Nm 174 at Tryz as Tryz.lays174
/-- What strconv.ParseInt tells. -/
def ParOut (w : World) (x : ByteArray) (e : Ending) (w' : World) : Prop := Below w.heap.size w w' ∧ ((∃ v, Lib.parseIntB 64 x.data.toList = .ok v ∧ e = .returned (.tuple #[.int .i64 v, .nilIface])) ∨ ((∀ v, Lib.parseIntB 64 x.data.toList ≠ .ok v) ∧ ∃ n t q, e = .returned (.tuple #[.int .i64 n, .iface t q])))
theorem parL (x : ByteArray) (w : World) (hx : x.size ≤ 1048576) (g : Glo w) : Calls Tryz.prog 62 #[.string x, .int .i64 10, .int .i64 64] w fun e w' => ParOut w x e w' := by
  obtain ⟨_, ⟨t2, p2, h2⟩, ⟨t3, p3, h3⟩, _⟩ := g
  cases hp : Lib.parseIntB 64 x.data.toList
  · rename_i v
    refine (Any.strconv_ParseInt_10_at64_ok Tryz.lays174 x (by omega) v hp w).mono fun e w' ⟨h1, h2⟩ => ⟨?_, Or.inl ⟨v, hp, h1⟩⟩
    rcases h2 with rfl | ⟨t, rfl⟩
    · exact Below.refl _ _
    · exact Lib.bytesWorld_below w _ t
  · exact (Any.strconv_ParseInt_10_at64_syntax Tryz.lays174 x (by omega) hp _ w h2 (Or.inr ⟨_, _, rfl⟩)).mono fun e w' ⟨n, h1, _, _, hb⟩ => ⟨hb, Or.inr ⟨fun v h => (by rw [hp] at h; cases h), _, _, _, h1⟩⟩
  · exact (Any.strconv_ParseInt_10_at64_range Tryz.lays174 x (by omega) hp _ w h3 (Or.inr ⟨_, _, rfl⟩)).mono fun e w' ⟨n, h1, _, _, hb⟩ => ⟨hb, Or.inr ⟨fun v h => (by rw [hp] at h; cases h), _, _, _, h1⟩⟩
/-- What a number comes to. -/
def NumR (w : World) (p : Nat) (s : ByteArray) (e : Ending) (w' : World) : Prop := Stp p w w' ∧ ((∃ (n : Int) (t : ByteArray), IsNum (wordOf s.data.toList) n ∧ t.data.toList = restOf s.data.toList ∧ e = .returned (.int .i64 n) ∧ Rst w' p t) ∨ ((∀ n, ¬ IsNum (wordOf s.data.toList) n) ∧ Pan e))
set_option maxHeartbeats 2000000 in
theorem numberL (p : Nat) (s : ByteArray) (w : World) (h : Rst w p s) (g : Glo w) : Calls Tryz.prog 55 #[.pointer (some ⟨p, 0, none⟩)] w fun e w' => NumR w p s e w' := by
  have H : Hid (Rst w p s ∧ Glo w) := ⟨h, g⟩
  clear h g
  go_enter Tryz.func55, Tryz.ntmps55
  go_wp2_with fail
  refine (wordL p s w H.out.1).mono ?_
  rintro e w1 ⟨x, t, rfl, hx, ht, hxs, R1, S1⟩
  have H1 : Hid (x.data.toList = wordOf s.data.toList ∧ t.data.toList = restOf s.data.toList ∧ x.size ≤ 1048576 ∧ Rst w1 p t ∧ Stp p w w1 ∧ Glo w1) := ⟨hx, ht, Nat.le_trans hxs H.out.1.2.2.2.2, R1, S1, H.out.2.stp S1 H.out.1.2.2.1⟩
  clear hx ht hxs R1 S1 H
  go_wp2_with fail
  refine (parL x w1 H1.out.2.2.1 H1.out.2.2.2.2.2).mono ?_
  rintro e w2 ⟨B2, hor⟩
  have H2 : Hid (x.data.toList = wordOf s.data.toList ∧ t.data.toList = restOf s.data.toList ∧ Rst w2 p t ∧ Stp p w w2 ∧ Glo w2) := ⟨H1.out.1, H1.out.2.1, H1.out.2.2.2.1.below B2, H1.out.2.2.2.2.1.trans (Stp.ofBelow B2), H1.out.2.2.2.2.2.below B2⟩
  clear H1 B2
  rcases hor with ⟨v, hv, rfl⟩ | ⟨hv, n, t0, q0, rfl⟩
  · by_cases hr : -9999999999999999 ≤ v ∧ v ≤ 9999999999999999
    · obtain ⟨hr1, hr2⟩ := hr
      go_wp2_with (go_at_call 24; refine (want_yes _ _).mono ?_; rintro e w3 ⟨rfl, rfl⟩)
      refine (implDec v ⟨by omega, by omega⟩ _ H2.out.2.2.2.2.2.2.2.1).mono ?_
      rintro e w4 ⟨rfl, B4⟩
      have H4 : Hid (x.data.toList = wordOf s.data.toList ∧ t.data.toList = restOf s.data.toList ∧ Rst w4 p t ∧ Stp p w w4 ∧ Glo w4) := ⟨H2.out.1, H2.out.2.1, H2.out.2.2.1.below B4, H2.out.2.2.2.1.trans (Stp.ofBelow B4), H2.out.2.2.2.2.below B4⟩
      have HV : Hid (Lib.parseIntB 64 x.data.toList = .ok v ∧ -9999999999999999 ≤ v ∧ v ≤ 9999999999999999) := ⟨hv, hr1, hr2⟩
      have HD : Hid ((dcB v).data.toList = Lib.itoa v) := rfl
      clear B4 H2 hv
      generalize dcB v = d at *
      by_cases he : d = x
      · have FI : Hid (NumR w p s (.returned (.int .i64 v)) w4) := ⟨H4.out.2.2.2.1, Or.inl ⟨v, t, ⟨by rw [← HD.out, he, H4.out.1], HV.out.2.1, HV.out.2.2⟩, H4.out.2.1, rfl, H4.out.2.2.1⟩⟩
        subst he
        clear H4 HV HD
        go_wp2_with (go_at_call 24; refine (want_yes _ _).mono ?_; rintro e w3 ⟨rfl, rfl⟩)
        go_ret
        exact FI.out
      · have FI : Hid (∀ e, Pan e → NumR w p s e w4) := fun e hp => ⟨H4.out.2.2.2.1, Or.inr ⟨fun m hm => he (ext_ofD (by
          have h1 := parse_num hm
          rw [← H4.out.1, HV.out.1] at h1
          cases h1
          rw [HD.out, H4.out.1]; exact hm.1)), hp⟩⟩
        have G4 : Hid (Glo w4) := H4.out.2.2.2.2
        have he' := neList he
        clear H4 HV HD he
        go_wp2_with (go_at_call 24; refine (want_no _ _ G4.out).mono ?_; rintro e w3 ⟨⟨t9, p9, rfl⟩, rfl⟩)
        exact ⟨rfl, FI.out _ ⟨_, _, rfl⟩⟩
    · have FI : Hid (∀ e, Pan e → NumR w p s e w2) := fun e hp => ⟨H2.out.2.2.2.1, Or.inr ⟨fun m hm => by
        have h1 := parse_num hm
        rw [← H2.out.1, hv] at h1
        cases h1
        exact hr hm.2, hp⟩⟩
      have G2 : Hid (Glo w2) := H2.out.2.2.2.2
      have hlh : v < -9999999999999999 ∨ (-9999999999999999 ≤ v ∧ 9999999999999999 < v) := by omega
      clear H2 hv hr
      rcases hlh with hl | ⟨hl, hh⟩
      · go_wp2_with (go_at_call 24; refine (want_no _ _ G2.out).mono ?_; rintro e w3 ⟨⟨t9, p9, rfl⟩, rfl⟩)
        exact ⟨rfl, FI.out _ ⟨_, _, rfl⟩⟩
      · have hq : decide (v ≤ 9999999999999999) = false := decide_eq_false (by omega)
        go_wp2_with (go_at_call 24; refine (want_no _ _ G2.out).mono ?_; rintro e w3 ⟨⟨t9, p9, rfl⟩, rfl⟩)
        exact ⟨rfl, FI.out _ ⟨_, _, rfl⟩⟩
  · have FI : Hid (∀ e, Pan e → NumR w p s e w2) := fun e hp => ⟨H2.out.2.2.2.1, Or.inr ⟨fun m hm => by
      have h1 := parse_num hm
      rw [← H2.out.1] at h1
      exact hv m h1, hp⟩⟩
    have G2 : Hid (Glo w2) := H2.out.2.2.2.2
    clear H2 hv
    go_wp2_with (go_at_call 24; refine (want_no _ _ G2.out).mono ?_; rintro e w3 ⟨⟨t9, p9, rfl⟩, rfl⟩)
    exact ⟨rfl, FI.out _ ⟨_, _, rfl⟩⟩
end Go.Proofs.YtedhlmipcfdldaaGreatDoor
