/- The program's tried, of a right op whose deed is known. Conditions: the accounts lie in memory and are a right forest; the package's errors lie as they were laid. -/
import Derived.Test.YtppgbjjojikpdaaDoorTri
namespace Go.Proofs.YtppgbjjojikpdaaDoor
open Go.RowKit

set_option maxRecDepth 8000 in
set_option maxHeartbeats 4000000 in
theorem triedG (T M : Nat) (d : Value) (a : Option Addr) (c : Nat) (L : List Acc) (k i t m r : Int) (p : Nat → Addr) (w : World) (h : Fo w a L.length (FL L)) (hG : GE w p) (ho : opOk k i t m r) (R : Int × List Acc) (hl : R.2.length ≤ 1048576)
    (hd : ∀ W, Calls Tryd.prog 32 #[.agg #[.int .i64 k, .int .i64 i, .int .i64 t, .int .i64 m, .int .i64 r]] W fun e w' => e = .returned (.iface T d) ∧ Below W.heap.size W w')
    (hm : ∀ W, (Go.method 269 T d "loop.example/g00362/impl.hindrance").run Tryd.prog W = .ok (M, d) W)
    (entered : ∀ args W, (callFunc M args).run Tryd.prog W = .ok (.enter M args) W)
    (hh : ∀ W, Fo W a L.length (FL L) → GE W p → Calls Tryd.prog M #[d, .slice a L.length c] W fun e w' => HEnds p R.1 e ∧ Below W.heap.size W w')
    (hc : ∀ W, Fo W a L.length (FL L) → R.1 = 0 → Calls Tryd.prog 33 #[.slice a L.length c, .iface T d] W fun e w' => ∃ v, e = .returned v ∧ AL w' W.heap.size v R.2 ∧ Below W.heap.size W w') :
    Calls Tryd.prog 16 #[.slice a L.length c, .agg #[.int .i64 k, .int .i64 i, .int .i64 t, .int .i64 m, .int .i64 r]] w fun e w' => TOut p (finS L R) w e w' := by
  obtain ⟨W, hW⟩ : ∃ W, W = w.alloc (.cells #[.int .i64 k, .int .i64 i, .int .i64 t, .int .i64 m, .int .i64 r] 30) := ⟨_, rfl⟩
  have OW : Hid (OpBox W w.heap.size k i t m r) := by rw [hW]; exact OpBox.new w _ _ _ _ _ 30
  have BW : Hid (Below w.heap.size w W) := by rw [hW]; exact (Below.refl _ _).alloc (Nat.le_refl _) _
  have GW : Hid (GE W p) := hG.below BW.out
  have HO : Hid (opOk k i t m r) := ho
  have HF : Hid (Fo w a L.length (FL L)) := h
  have HD : Hid (∀ W, Calls Tryd.prog 32 #[.agg #[.int .i64 k, .int .i64 i, .int .i64 t, .int .i64 m, .int .i64 r]] W fun e w' => e = .returned (.iface T d) ∧ Below W.heap.size W w') := hd
  have HH : Hid (∀ W, Fo W a L.length (FL L) → GE W p → Calls Tryd.prog M #[d, .slice a L.length c] W fun e w' => HEnds p R.1 e ∧ Below W.heap.size W w') := hh
  have HC : Hid (∀ W, Fo W a L.length (FL L) → R.1 = 0 → Calls Tryd.prog 33 #[.slice a L.length c, .iface T d] W fun e w' => ∃ v, e = .returned v ∧ AL w' W.heap.size v R.2 ∧ Below W.heap.size W w') := hc
  clear hG ho hd hh hc h
  obtain ⟨o0, o1, o2, o3, o4, oz⟩ := OW.out
  go_enter Tryd.func16, Tryd.ntmps16
  go_upto_region 1 with fail
  rw [← hW]
  clear hW
  go_wp2_with fail
  refine (implOpOk_yes k i t m r _ HO.out).mono ?_
  rintro e w1 ⟨rfl, B1⟩
  have S1 : Hid (OpBox w1 w.heap.size k i t m r ∧ Below w.heap.size w w1 ∧ GE w1 p) := ⟨OW.out.below B1, BW.out.trans (B1.mono BW.out.size), GW.out.below B1⟩
  clear B1 o0 o1 o2 o3 o4 oz OW BW GW
  obtain ⟨o0, o1, o2, o3, o4, oz⟩ := S1.out.1
  go_wp2_with fail
  refine (HD.out _).mono ?_
  rintro e w2 ⟨rfl, B2⟩
  have S2 : Hid (OpBox w2 w.heap.size k i t m r ∧ Below w.heap.size w w2 ∧ GE w2 p) := ⟨S1.out.1.below B2, S1.out.2.1.trans (B2.mono S1.out.2.1.size), S1.out.2.2.below B2⟩
  clear B2 o0 o1 o2 o3 o4 oz S1
  go_wp2_with fail
  refine (HH.out _ (HF.out.below S2.out.2.1) S2.out.2.2).mono ?_
  rintro e w3 ⟨E3, B3⟩
  have S3 : Hid (OpBox w3 w.heap.size k i t m r ∧ Below w.heap.size w w3 ∧ GE w3 p) := ⟨S2.out.1.below B3, S2.out.2.1.trans (B3.mono S2.out.2.1.size), S2.out.2.2.below B3⟩
  clear B3 S2
  rcases E3 with ⟨h0, rfl⟩ | ⟨x, g, hg, hcg, hne, rfl⟩
  · have H0 : Hid (R.1 = 0) := h0
    clear h0
    go_wp2_with fail
    refine (HC.out _ (HF.out.below S3.out.2.1) H0.out).mono ?_
    rintro e w4 ⟨v, rfl, A4, B4⟩
    have S4 : Hid (OpBox w4 w.heap.size k i t m r ∧ Below w.heap.size w w4 ∧ GE w4 p ∧ AL w4 w.heap.size v R.2) := ⟨S3.out.1.below B4, S3.out.2.1.trans (B4.mono S3.out.2.1.size), S3.out.2.2.below B4, A4.mono S3.out.2.1.size⟩
    obtain ⟨va, vc, hv⟩ := A4.len
    obtain ⟨n', hn'⟩ : ∃ n', n' = R.2.length := ⟨_, rfl⟩
    rw [← hn'] at hv
    have FV : Hid (Fo w4 va n' (FL R.2)) := by
      have := S4.out.2.2.2
      rw [hv] at this
      exact (this.fo hl).2
    subst hv
    have N' : Hid (n' = R.2.length) := hn'
    clear A4 B4 hn' S3
    by_cases hr : Right (FL R.2) R.2.length
    · have HR : Hid (Right (FL R.2) n') := by rw [N'.out]; exact hr
      have EF : Hid (finS L R = R) := (by unfold finS; rw [if_pos H0.out, if_pos hr] : finS L R = R)
      clear hr
      go_wp2_with fail
      refine (implOk_yes va n' vc (FL R.2) _ FV.out HR.out).mono ?_
      rintro e w5 ⟨rfl, B5⟩
      have S5 : Hid (Below w.heap.size w w5 ∧ AL w5 w.heap.size (.slice va n' vc) R.2) := ⟨S4.out.2.1.trans (B5.mono S4.out.2.1.size), S4.out.2.2.2.kept B5⟩
      clear B5 S4
      go_wp2
      go_ret2
      rw [EF.out]
      exact Or.inl ⟨H0.out, _, rfl, S5.out.2, S5.out.1⟩
    · have HR : Hid (¬ Right (FL R.2) n') := by rw [N'.out]; exact hr
      have EF : Hid (finS L R = (7, L)) := (by unfold finS; rw [if_pos H0.out, if_neg hr] : finS L R = (7, L))
      clear hr
      go_wp2_with fail
      refine (implOk_no va n' vc (FL R.2) _ FV.out HR.out).mono ?_
      rintro e w5 ⟨rfl, B5⟩
      have S5 : Hid (OpBox w5 w.heap.size k i t m r ∧ Below w.heap.size w w5 ∧ GE w5 p) := ⟨S4.out.1.below B5, S4.out.2.1.trans (B5.mono S4.out.2.1.size), S4.out.2.2.1.below B5⟩
      clear B5 S4
      obtain ⟨o0, o1, o2, o3, o4, oz⟩ := S5.out.1
      have gv := S5.out.2.2.var 1 (by omega)
      go_wp2_with fail
      go_quiet (fail)
      go_wp2
      go_ret2
      rw [EF.out]
      exact Or.inr ⟨(by decide : (7 : Int) ≠ 0), i, 1, by omega, rfl, rfl, below_drewN S5.out.2.1 _⟩
  · have EF : Hid (finS L R = (R.1, L)) := (by unfold finS; rw [if_neg hne] : finS L R = (R.1, L))
    have HX : Hid (g < 7 ∧ codeG g = R.1 ∧ R.1 ≠ 0) := ⟨hg, hcg, hne⟩
    unfold refV
    clear hne hcg hg
    go_wp2
    go_ret2
    rw [EF.out]
    exact Or.inr ⟨HX.out.2.2, x, g, HX.out.1, HX.out.2.1, rfl, S3.out.2.1⟩
end Go.Proofs.YtppgbjjojikpdaaDoor
