/- A line of the reader. Conditions: as of the reader; the places lie in memory of the call's own. -/
import Derived.Test.YtedhlmipcfdldaaGreatDoorRng
namespace Go.Proofs.YtedhlmipcfdldaaGreatDoor
open Go.RowKit Go.Shelf
set_option maxRecDepth 8000

theorem pre_iff (s S : List UInt8) : Lib.hasPrefix s S = true ↔ S <+: s := by
  unfold Lib.hasPrefix
  exact List.isPrefixOf_iff_prefix
theorem pre_size {s S : ByteArray} (h : Lib.hasPrefix s.data.toList S.data.toList = true) : S.size ≤ s.size := by
  have := ((pre_iff _ _).1 h).length_le
  rwa [lenD, lenD] at this
/-- What a line comes to. -/
def LineG (w : World) (p lo : Nat) (s S : ByteArray) (n : Nat) (Q : List Int → World → Prop) (e : Ending) (w' : World) : Prop := Stn p lo w w' ∧ ((∃ (ns : List Int) (t : ByteArray), readLine S.data.toList n s.data.toList = some (ns, t.data.toList) ∧ e = .returned (.tuple #[]) ∧ Rst w' p t ∧ Glo w' ∧ Q ns w') ∨ (readLine S.data.toList n s.data.toList = none ∧ Pan e))
theorem ext_drop (s S : ByteArray) : (s.extract S.size s.size).data.toList = s.data.toList.drop S.data.toList.length := by
  rw [extLD, lenD, List.take_of_length_le (by simp)]
theorem line_none1 {S s : List UInt8} {n : Nat} (h : Lib.hasPrefix s S = false) : readLine S n s = none := by
  unfold readLine
  rw [if_neg (fun e => by rw [(pre_iff s S).2 e] at h; cases h)]
theorem line_none2 {S s : List UInt8} {n : Nat} (h : readNums n (s.drop S.length) = none) : readLine S n s = none := by
  unfold readLine
  split
  · rw [h]
  · rfl
theorem line_none3 {S s t : List UInt8} {n : Nat} {ns : List Int} (h : readNums n (s.drop S.length) = some (ns, t)) (h10 : Lib.hasPrefix t [10] = false) : readLine S n s = none := by
  unfold readLine
  split
  · rw [h]
    cases t with
    | nil => rfl
    | cons b l =>
      have : ¬ b = 10 := by
        unfold Lib.hasPrefix at h10
        intro e
        subst e
        simp at h10
      simp [this]
  · rfl
theorem line_some {S s t : List UInt8} {n : Nat} {ns : List Int} (h0 : Lib.hasPrefix s S = true) (h : readNums n (s.drop S.length) = some (ns, t)) (h10 : Lib.hasPrefix t [10] = true) : readLine S n s = some (ns, t.drop 1) := by
  unfold readLine
  rw [if_pos ((pre_iff s S).1 h0), h]
  cases t with
  | nil => unfold Lib.hasPrefix at h10; simp at h10
  | cons b l =>
    have : b = 10 := by
      unfold Lib.hasPrefix at h10
      exact (by simpa using h10 : (10 : UInt8) = b).symm
    simp [this]
set_option maxHeartbeats 2000000 in
theorem lineG (p lo : Nat) (a : Option Addr) (n c : Nat) (s S : ByteArray) (T : Nat → Nat × Nat) (Q : List Int → World → Prop) (w : World) (h : Rst w p s) (g : Glo w) (hP : Plc p lo a n T Q) (hQ : Q [] w) (hpl : p < lo) (hn : n ≤ 100) :
    Calls Tryz.prog 25 #[.pointer (some ⟨p, 0, none⟩), .string S, .slice a n c] w fun e w' => LineG w p lo s S n Q e w' := by
  have H0 : Hid (Rst w p s ∧ Glo w ∧ Q [] w) := ⟨h, g, hQ⟩
  have HP : Hid (Plc p lo a n T Q) := hP
  have h7 : 7 ≤ p := h.2.2.1
  clear h g hP hQ
  go_enter Tryz.func25, Tryz.ntmps25
  go_wp2_with fail
  refine (takeL p s S w H0.out.1 H0.out.2.1 pre_size).mono ?_
  rintro e w1 ⟨S1, hor⟩
  rcases hor with ⟨hp1, rfl, R1⟩ | ⟨hp1, t9, p9, rfl⟩
  rotate_left
  · exact ⟨rfl, Stn.ofStp S1, Or.inr ⟨line_none1 hp1, t9, p9, rfl⟩⟩
  obtain ⟨u, hu⟩ : ∃ u, s.extract S.size s.size = u := ⟨_, rfl⟩
  have HU : Hid (u.data.toList = s.data.toList.drop S.data.toList.length ∧ Lib.hasPrefix s.data.toList S.data.toList = true) := ⟨by rw [← hu, ext_drop], hp1⟩
  rw [hu] at R1
  have H1 : Hid (Rst w1 p u ∧ Glo w1 ∧ Q [] w1 ∧ Stn p lo w w1) := ⟨R1, H0.out.2.1.stp S1 h7, HP.out.keep _ _ _ H0.out.2.2 S1, Stn.ofStp S1⟩
  clear S1 R1 hp1 hu H0
  go_wp2_with fail
  refine (numbersG p lo a n c u T Q w1 H1.out.1 H1.out.2.1 HP.out H1.out.2.2.1 hpl hn).mono ?_
  rintro e w2 ⟨S2, hor⟩
  rcases hor with ⟨ns, t, hns, rfl, R2, G2, Q2⟩ | ⟨hns, t9, p9, rfl⟩
  rotate_left
  · exact ⟨rfl, H1.out.2.2.2.trans S2, Or.inr ⟨line_none2 (by rw [← HU.out.1]; exact hns), t9, p9, rfl⟩⟩
  have H2 : Hid (Rst w2 p t ∧ Glo w2 ∧ Q ns w2 ∧ Stn p lo w w2 ∧ readNums n (s.data.toList.drop S.data.toList.length) = some (ns, t.data.toList)) := ⟨R2, G2, Q2, H1.out.2.2.2.trans S2, by rw [← HU.out.1]; exact hns⟩
  clear S2 R2 G2 Q2 hns H1
  go_wp2_with fail
  refine (takeL p t ⟨#[10]⟩ w2 H2.out.1 H2.out.2.1 pre_size).mono ?_
  rintro e w3 ⟨S3, hor⟩
  rcases hor with ⟨hp3, rfl, R3⟩ | ⟨hp3, t9, p9, rfl⟩
  rotate_left
  · exact ⟨rfl, H2.out.2.2.2.1.trans (Stn.ofStp S3), Or.inr ⟨line_none3 H2.out.2.2.2.2 hp3, t9, p9, rfl⟩⟩
  have FI : Hid (LineG w p lo s S n Q (.returned (.tuple #[])) w3) := ⟨H2.out.2.2.2.1.trans (Stn.ofStp S3), Or.inl ⟨ns, _, by rw [line_some HU.out.2 H2.out.2.2.2.2 hp3, ext_drop]; rfl, rfl, R3, H2.out.2.1.stp S3 h7, HP.out.keep _ _ _ H2.out.2.2.1 S3⟩⟩
  clear S3 R3 hp3 H2 HU
  go_wp2
  refine bodyPost_end (results_none rfl _ _ _) rfl ?_
  exact FI.out
end Go.Proofs.YtedhlmipcfdldaaGreatDoor
