/- readWhole of the program at the reader of an op: the op whose text it is, or nothing. Conditions: the package's errors are there, the library's powers of ten as its text lays them. -/
import Derived.Test.YtedhlmipcfdldaaDoorCat
namespace Go.Proofs.YtedhlmipcfdldaaDoor
open Go.RowKit
set_option maxRecDepth 8000

/-- What the whole comes to. -/
def WOut (w : World) (s : ByteArray) (e : Ending) (w' : World) : Prop := Below w.heap.size w w' ∧ ((∃ (K : Int) (x : OpF) (o : Ord) (n : Int), RightAt s.data.toList K x o n [] ∧ e = .returned (.tuple #[.agg (bl K x o n).toArray, .bool true])) ∨ ((∀ K x o n, ¬ RightAt s.data.toList K x o n []) ∧ e = .returned (.tuple #[.agg (bl0 0).toArray, .bool false])))
theorem right_t {s t t' : List UInt8} {K n K' n' : Int} {x x' : OpF} {o o' : Ord} (h : RightAt s K x o n t) (k : RightAt s K' x' o' n' t') : t = t' := by
  obtain ⟨i, hi, e1, e2, e3⟩ := right_fill h.1
  have hw : (nameK i).data.toList = wordOf s := by rw [← e1, h.2.1]
  have a := the_right (wd := nameK i) hw hi rfl h
  have b := the_right (wd := nameK i) hw hi rfl k
  have := a.1.symm.trans b.1
  exact congrArg Prod.snd (Option.some.inj this)
set_option maxHeartbeats 4000000 in
theorem wholeL (s : ByteArray) (hs : s.size ≤ 1048576) (w : World) (g : Glo w) : Calls Tryd.prog 11 #[.string s, .func (.func 12) #[] #[]] w fun e w' => WOut w s e w' := by
  have hmf : ∀ (fn : Fn) (first cap : Array Value) (w : World), (Instr.makeFunc fn first cap).run Tryd.prog w = .ok (.func fn first cap) w := fun _ _ _ _ => rfl
  obtain ⟨h, hh⟩ : ∃ h, w.heap.size = h := ⟨_, rfl⟩
  have HH : Hid (w.heap.size = h) := hh
  obtain ⟨W0, hW0, X0⟩ : ∃ W0, W0 = ((w.alloc (.cells (bl0 0).toArray 27)).alloc (.cells #[.bool false] 4)).alloc (.cells #[.string s] 54) ∧ Hid (Vals W0 h (bl0 0) ∧ Vals W0 (h + 1) [.bool false] ∧ Below h w W0 ∧ Rst W0 (h + 2) s ∧ Glo W0) := by
    have b1 : ∀ (V : World) (o : Obj), Below V.heap.size V (V.alloc o) := fun V o => (Below.refl _ _).alloc (Nat.le_refl _) _
    have h7 : 7 ≤ w.heap.size := g.2.2.2.2
    have v0 := ((Vals.new w (bl0 0) 27).kept (b1 _ (.cells #[.bool false] 4)) (by simp)).kept (b1 _ (.cells #[.string s] 54)) (by simp; omega)
    have v1 := (Vals.new (w.alloc (.cells (bl0 0).toArray 27)) [.bool false] 4).kept (b1 _ (.cells #[.string s] 54)) (by simp)
    have v2 := Vals.new ((w.alloc (.cells (bl0 0).toArray 27)).alloc (.cells #[.bool false] 4)) [.string s] 54
    simp only [World.size_alloc] at v0 v1 v2
    rw [hh] at v0 v1 v2 h7
    have bb : Below h w (((w.alloc (.cells (bl0 0).toArray 27)).alloc (.cells #[.bool false] 4)).alloc (.cells #[.string s] 54)) := by
      rw [← hh]
      exact (((Below.refl _ _).alloc (Nat.le_refl _) _).alloc (by simp) _).alloc (by simp; omega) _
    exact ⟨_, rfl, v0, v1, bb, ⟨v2.1 0 _ rfl, v2.2.1 0, by omega, v2.2.2, hs⟩, g.below (by rw [hh]; exact bb)⟩
  have HW0 : Hid (W0 = _) := hW0
  have FNO : Hid ((∀ K x o n, ¬ RightAt s.data.toList K x o n []) → ∀ W w9, Below h w W → Below h W w9 → WOut w s (.returned (.tuple #[.agg (bl0 0).toArray, .bool false])) w9) := fun hn W w9 b1 b2 => ⟨by rw [HH.out]; exact b1.trans b2, Or.inr ⟨hn, rfl⟩⟩
  have HG7 : Hid (7 ≤ h) := by have := g.2.2.2.2; rw [hh] at this; exact this
  clear hW0 g
  go_enter_defers Tryd.func11, Tryd.ntmps11
  go_wp2_with fail
  rw [← HW0.out]
  clear HW0 hh
  refine (bankOpL (h + 2) s W0 X0.out.2.2.2.1 X0.out.2.2.2.2).mono ?_
  rintro e w1 ⟨S1, hor⟩
  have X1 : Hid (Vals w1 h (bl0 0) ∧ Vals w1 (h + 1) [.bool false] ∧ Below h w w1) := ⟨X0.out.1.stp S1 (by omega), X0.out.2.1.stp S1 (by omega), X0.out.2.2.1.trans ((S1.below (by have := X0.out.2.2.2.1.2.2.2.1; omega)).mono (by omega))⟩
  clear S1 X0
  rcases hor with ⟨K, x, od, nn, t, hR, rfl, R1, G1⟩ | ⟨hR, t9, p9, rfl⟩
  · have h7 : 7 ≤ h := HG7.out
    obtain ⟨W2, hW2, X2⟩ : ∃ W2, W2 = ((((((((((((((w1).setCell ⟨h, 0, none⟩ (.int .i64 K)).setCell ⟨h, 1, none⟩ (.int .i64 x.k)).setCell ⟨h, 2, none⟩ (.int .i64 x.i)).setCell ⟨h, 3, none⟩ (.int .i64 x.t)).setCell ⟨h, 4, none⟩ (.int .i64 x.m)).setCell ⟨h, 5, none⟩ (.int .i64 x.r)).setCell ⟨h, 6, none⟩ (.int .i64 od.id)).setCell ⟨h, 7, none⟩ (.int .i64 od.src)).setCell ⟨h, 8, none⟩ (.int .i64 od.dst)).setCell ⟨h, 9, none⟩ (.int .i64 od.amount)).setCell ⟨h, 10, none⟩ (.int .i64 od.first)).setCell ⟨h, 11, none⟩ (.int .i64 od.every)).setCell ⟨h, 12, none⟩ (.int .i64 od.times)).setCell ⟨h, 13, none⟩ (.int .i64 nn) ∧ Hid (Vals W2 h (bl K x od nn) ∧ Vals W2 (h + 1) [.bool false] ∧ Below h w W2 ∧ Rst W2 (h + 2) t ∧ Glo W2) :=
      ⟨_, rfl, ((((((((((((((X1.out.1).set 0 (.int .i64 K)).set 1 (.int .i64 x.k)).set 2 (.int .i64 x.i)).set 3 (.int .i64 x.t)).set 4 (.int .i64 x.m)).set 5 (.int .i64 x.r)).set 6 (.int .i64 od.id)).set 7 (.int .i64 od.src)).set 8 (.int .i64 od.dst)).set 9 (.int .i64 od.amount)).set 10 (.int .i64 od.first)).set 11 (.int .i64 od.every)).set 12 (.int .i64 od.times)).set 13 (.int .i64 nn), ((((((((((((((X1.out.2.1).far (by omega) 0 (.int .i64 K)).far (by omega) 1 (.int .i64 x.k)).far (by omega) 2 (.int .i64 x.i)).far (by omega) 3 (.int .i64 x.t)).far (by omega) 4 (.int .i64 x.m)).far (by omega) 5 (.int .i64 x.r)).far (by omega) 6 (.int .i64 od.id)).far (by omega) 7 (.int .i64 od.src)).far (by omega) 8 (.int .i64 od.dst)).far (by omega) 9 (.int .i64 od.amount)).far (by omega) 10 (.int .i64 od.first)).far (by omega) 11 (.int .i64 od.every)).far (by omega) 12 (.int .i64 od.times)).far (by omega) 13 (.int .i64 nn), ((((((((((((((X1.out.2.2).setCell (p := ⟨h, 0, none⟩) (Nat.le_refl _) (.int .i64 K)).setCell (p := ⟨h, 1, none⟩) (Nat.le_refl _) (.int .i64 x.k)).setCell (p := ⟨h, 2, none⟩) (Nat.le_refl _) (.int .i64 x.i)).setCell (p := ⟨h, 3, none⟩) (Nat.le_refl _) (.int .i64 x.t)).setCell (p := ⟨h, 4, none⟩) (Nat.le_refl _) (.int .i64 x.m)).setCell (p := ⟨h, 5, none⟩) (Nat.le_refl _) (.int .i64 x.r)).setCell (p := ⟨h, 6, none⟩) (Nat.le_refl _) (.int .i64 od.id)).setCell (p := ⟨h, 7, none⟩) (Nat.le_refl _) (.int .i64 od.src)).setCell (p := ⟨h, 8, none⟩) (Nat.le_refl _) (.int .i64 od.dst)).setCell (p := ⟨h, 9, none⟩) (Nat.le_refl _) (.int .i64 od.amount)).setCell (p := ⟨h, 10, none⟩) (Nat.le_refl _) (.int .i64 od.first)).setCell (p := ⟨h, 11, none⟩) (Nat.le_refl _) (.int .i64 od.every)).setCell (p := ⟨h, 12, none⟩) (Nat.le_refl _) (.int .i64 od.times)).setCell (p := ⟨h, 13, none⟩) (Nat.le_refl _) (.int .i64 nn), ((((((((((((((R1).far (by omega) 0 (.int .i64 K)).far (by omega) 1 (.int .i64 x.k)).far (by omega) 2 (.int .i64 x.i)).far (by omega) 3 (.int .i64 x.t)).far (by omega) 4 (.int .i64 x.m)).far (by omega) 5 (.int .i64 x.r)).far (by omega) 6 (.int .i64 od.id)).far (by omega) 7 (.int .i64 od.src)).far (by omega) 8 (.int .i64 od.dst)).far (by omega) 9 (.int .i64 od.amount)).far (by omega) 10 (.int .i64 od.first)).far (by omega) 11 (.int .i64 od.every)).far (by omega) 12 (.int .i64 od.times)).far (by omega) 13 (.int .i64 nn), ((((((((((((((G1).far h7 0 (.int .i64 K)).far h7 1 (.int .i64 x.k)).far h7 2 (.int .i64 x.i)).far h7 3 (.int .i64 x.t)).far h7 4 (.int .i64 x.m)).far h7 5 (.int .i64 x.r)).far h7 6 (.int .i64 od.id)).far h7 7 (.int .i64 od.src)).far h7 8 (.int .i64 od.dst)).far h7 9 (.int .i64 od.amount)).far h7 10 (.int .i64 od.first)).far h7 11 (.int .i64 od.every)).far h7 12 (.int .i64 od.times)).far h7 13 (.int .i64 nn)⟩
    have HW2 : Hid (W2 = _) := hW2
    have HRT : Hid (RightAt s.data.toList K x od nn t.data.toList) := hR
    have y0 := X1.out.1.1 0 _ rfl
    have y1 := X1.out.1.1 1 _ rfl
    have y2 := X1.out.1.1 2 _ rfl
    have y3 := X1.out.1.1 3 _ rfl
    have y4 := X1.out.1.1 4 _ rfl
    have y5 := X1.out.1.1 5 _ rfl
    have y6 := X1.out.1.1 6 _ rfl
    have y7 := X1.out.1.1 7 _ rfl
    have y8 := X1.out.1.1 8 _ rfl
    have y9 := X1.out.1.1 9 _ rfl
    have y10 := X1.out.1.1 10 _ rfl
    have y11 := X1.out.1.1 11 _ rfl
    have y12 := X1.out.1.1 12 _ rfl
    have y13 := X1.out.1.1 13 _ rfl
    have fz := X1.out.1.2.1
    clear hW2 R1 G1 hR
    go_upto_region 4 with fail
    rw [← HW2.out]
    clear HW2 X1 fz y0 y1 y2 y3 y4 y5 y6 y7 y8 y9 y10 y11 y12 y13
    have tc := X2.out.2.2.2.1.1
    by_cases ht : t.toList.isEmpty = true
    · have FYES : Hid (∀ W, Below h W2 W → WOut w s (.returned (.tuple #[.agg (bl K x od nn).toArray, .bool true])) W) := fun W hb => ⟨by rw [HH.out]; exact X2.out.2.2.1.trans hb, Or.inl ⟨K, x, od, nn, by have := HRT.out; rwa [show t.data.toList = [] by rw [Lib.toList_data] at ht; exact List.isEmpty_iff.1 ht] at this, rfl⟩⟩
      clear FNO HRT
      have r0 := X2.out.1.1 0 _ rfl
      have r1 := X2.out.1.1 1 _ rfl
      have r2 := X2.out.1.1 2 _ rfl
      have r3 := X2.out.1.1 3 _ rfl
      have r4 := X2.out.1.1 4 _ rfl
      have r5 := X2.out.1.1 5 _ rfl
      have r6 := X2.out.1.1 6 _ rfl
      have r7 := X2.out.1.1 7 _ rfl
      have r8 := X2.out.1.1 8 _ rfl
      have r9 := X2.out.1.1 9 _ rfl
      have r10 := X2.out.1.1 10 _ rfl
      have r11 := X2.out.1.1 11 _ rfl
      have r12 := X2.out.1.1 12 _ rfl
      have r13 := X2.out.1.1 13 _ rfl
      have fz := X2.out.1.2.1
      have q0 := X2.out.2.1.1 0 _ rfl
      have fq := X2.out.2.1.2.1
      have nh : ¬ h = h + 1 := by omega
      obtain ⟨W9, hW9, X9⟩ : ∃ W9, W9 = (((((((((((((((W2).setCell ⟨h, 0, none⟩ (.int .i64 K)).setCell ⟨h, 1, none⟩ (.int .i64 x.k)).setCell ⟨h, 2, none⟩ (.int .i64 x.i)).setCell ⟨h, 3, none⟩ (.int .i64 x.t)).setCell ⟨h, 4, none⟩ (.int .i64 x.m)).setCell ⟨h, 5, none⟩ (.int .i64 x.r)).setCell ⟨h, 6, none⟩ (.int .i64 od.id)).setCell ⟨h, 7, none⟩ (.int .i64 od.src)).setCell ⟨h, 8, none⟩ (.int .i64 od.dst)).setCell ⟨h, 9, none⟩ (.int .i64 od.amount)).setCell ⟨h, 10, none⟩ (.int .i64 od.first)).setCell ⟨h, 11, none⟩ (.int .i64 od.every)).setCell ⟨h, 12, none⟩ (.int .i64 od.times)).setCell ⟨h, 13, none⟩ (.int .i64 nn)).setCell ⟨h + 1, 0, none⟩ (.bool true) ∧ Hid (Vals W9 h (bl K x od nn) ∧ Vals W9 (h + 1) [.bool true] ∧ Below h W2 W9) := ⟨_, rfl, (((((((((((((((X2.out.1).set 0 (.int .i64 K)).set 1 (.int .i64 x.k)).set 2 (.int .i64 x.i)).set 3 (.int .i64 x.t)).set 4 (.int .i64 x.m)).set 5 (.int .i64 x.r)).set 6 (.int .i64 od.id)).set 7 (.int .i64 od.src)).set 8 (.int .i64 od.dst)).set 9 (.int .i64 od.amount)).set 10 (.int .i64 od.first)).set 11 (.int .i64 od.every)).set 12 (.int .i64 od.times)).set 13 (.int .i64 nn)).far (by omega) 0 (.bool true), (((((((((((((((X2.out.2.1).far (by omega) 0 (.int .i64 K)).far (by omega) 1 (.int .i64 x.k)).far (by omega) 2 (.int .i64 x.i)).far (by omega) 3 (.int .i64 x.t)).far (by omega) 4 (.int .i64 x.m)).far (by omega) 5 (.int .i64 x.r)).far (by omega) 6 (.int .i64 od.id)).far (by omega) 7 (.int .i64 od.src)).far (by omega) 8 (.int .i64 od.dst)).far (by omega) 9 (.int .i64 od.amount)).far (by omega) 10 (.int .i64 od.first)).far (by omega) 11 (.int .i64 od.every)).far (by omega) 12 (.int .i64 od.times)).far (by omega) 13 (.int .i64 nn)).set 0 (.bool true), ((((((((((((((((Below.refl h W2)).setCell (p := ⟨h, 0, none⟩) (Nat.le_refl _) (.int .i64 K)).setCell (p := ⟨h, 1, none⟩) (Nat.le_refl _) (.int .i64 x.k)).setCell (p := ⟨h, 2, none⟩) (Nat.le_refl _) (.int .i64 x.i)).setCell (p := ⟨h, 3, none⟩) (Nat.le_refl _) (.int .i64 x.t)).setCell (p := ⟨h, 4, none⟩) (Nat.le_refl _) (.int .i64 x.m)).setCell (p := ⟨h, 5, none⟩) (Nat.le_refl _) (.int .i64 x.r)).setCell (p := ⟨h, 6, none⟩) (Nat.le_refl _) (.int .i64 od.id)).setCell (p := ⟨h, 7, none⟩) (Nat.le_refl _) (.int .i64 od.src)).setCell (p := ⟨h, 8, none⟩) (Nat.le_refl _) (.int .i64 od.dst)).setCell (p := ⟨h, 9, none⟩) (Nat.le_refl _) (.int .i64 od.amount)).setCell (p := ⟨h, 10, none⟩) (Nat.le_refl _) (.int .i64 od.first)).setCell (p := ⟨h, 11, none⟩) (Nat.le_refl _) (.int .i64 od.every)).setCell (p := ⟨h, 12, none⟩) (Nat.le_refl _) (.int .i64 od.times)).setCell (p := ⟨h, 13, none⟩) (Nat.le_refl _) (.int .i64 nn)).setCell (p := ⟨h + 1, 0, none⟩) (by show h ≤ h + 1; omega) (.bool true)⟩
      have HW9 : Hid (W9 = _) := hW9
      clear hW9
      go_wp2_with (go_at_call 22; refine (want_yes _ _).mono ?_; rintro e w3 ⟨rfl, hw3⟩; subst w3)
      rw [← HW9.out]
      clear HW9 fz q0 fq nh r0 r1 r2 r3 r4 r5 r6 r7 r8 r9 r10 r11 r12 r13
      refine leaves_cons (f := 21) (args := #[.pointer (some ⟨h, 0, none⟩), .pointer (some ⟨h + 1, 0, none⟩)]) (by simp) (by simp [go_sem]) ?_
      refine (catch_idle ⟨h, 0, none⟩ ⟨h + 1, 0, none⟩ _).mono ?_
      rintro e u' w9 ⟨rfl, rfl, hw9⟩
      subst w9
      have FJ : Hid (WOut w s (.returned (.tuple #[.agg (bl K x od nn).toArray, .bool true])) W9) := FYES.out W9 X9.out.2.2
      have r0 := X9.out.1.1 0 _ rfl
      have r1 := X9.out.1.1 1 _ rfl
      have r2 := X9.out.1.1 2 _ rfl
      have r3 := X9.out.1.1 3 _ rfl
      have r4 := X9.out.1.1 4 _ rfl
      have r5 := X9.out.1.1 5 _ rfl
      have r6 := X9.out.1.1 6 _ rfl
      have r7 := X9.out.1.1 7 _ rfl
      have r8 := X9.out.1.1 8 _ rfl
      have r9 := X9.out.1.1 9 _ rfl
      have r10 := X9.out.1.1 10 _ rfl
      have r11 := X9.out.1.1 11 _ rfl
      have r12 := X9.out.1.1 12 _ rfl
      have r13 := X9.out.1.1 13 _ rfl
      have q0 := X9.out.2.1.1 0 _ rfl
      simp [Leaves, settle, results, Tryd.results11, go_sem, r0, r1, r2, r3, r4, r5, r6, r7, r8, r9, r10, r11, r12, r13, q0]
      exact FJ.out
    · have hto : t.toList.isEmpty = false := by simpa using ht
      have FI : Hid (∀ w9, Below h W2 w9 → WOut w s (.returned (.tuple #[.agg (bl0 0).toArray, .bool false])) w9) := fun w9 hb => FNO.out (fun K' x' o' n' hh => by
        have := right_t HRT.out hh
        rw [Lib.toList_data, this] at hto
        simp at hto) W2 w9 X2.out.2.2.1 hb
      clear FNO HRT ht
      go_wp2_with (go_at_call 22; refine (want_no _ _ X2.out.2.2.2.2).mono ?_; rintro e w3 ⟨⟨t9, p9, rfl⟩, rfl⟩)
      refine leaves_cons (f := 21) (args := #[.pointer (some ⟨h, 0, none⟩), .pointer (some ⟨h + 1, 0, none⟩)]) (by simp) (by simp [go_sem]) ?_
      refine (catch_panicking h (h + 1) t9 p9 [] _ false _ X2.out.1 rfl X2.out.2.1 (by omega)).mono ?_
      rintro e u' w9 ⟨rfl, rfl, V9, Q9, B9⟩
      have FJ : Hid (WOut w s (.returned (.tuple #[.agg (bl0 0).toArray, .bool false])) w9) := FI.out w9 (B9 h (Nat.le_refl _) (by omega) (by have := X2.out.1.2.2; omega))
      have r0 := V9.1 0 _ rfl
      have r1 := V9.1 1 _ rfl
      have r2 := V9.1 2 _ rfl
      have r3 := V9.1 3 _ rfl
      have r4 := V9.1 4 _ rfl
      have r5 := V9.1 5 _ rfl
      have r6 := V9.1 6 _ rfl
      have r7 := V9.1 7 _ rfl
      have r8 := V9.1 8 _ rfl
      have r9 := V9.1 9 _ rfl
      have r10 := V9.1 10 _ rfl
      have r11 := V9.1 11 _ rfl
      have r12 := V9.1 12 _ rfl
      have r13 := V9.1 13 _ rfl
      have q0 := Q9.1 0 _ rfl
      clear V9 Q9 B9
      simp [Leaves, settle, results, Tryd.results11, go_sem, r0, r1, r2, r3, r4, r5, r6, r7, r8, r9, r10, r11, r12, r13, q0]
      exact FJ.out
  · have FI : Hid (∀ w9, Below h w1 w9 → WOut w s (.returned (.tuple #[.agg (bl0 0).toArray, .bool false])) w9) := fun w9 hb => FNO.out (fun K x o n => hR K x o n []) w1 w9 X1.out.2.2 hb
    clear FNO hR
    refine leaves_cons (f := 21) (args := #[.pointer (some ⟨h, 0, none⟩), .pointer (some ⟨h + 1, 0, none⟩)]) (by simp) (by simp [go_sem]) ?_
    refine (catch_panicking h (h + 1) t9 p9 [] _ false _ X1.out.1 rfl X1.out.2.1 (by omega)).mono ?_
    rintro e u' w9 ⟨rfl, rfl, V9, Q9, B9⟩
    have FJ : Hid (WOut w s (.returned (.tuple #[.agg (bl0 0).toArray, .bool false])) w9) := FI.out w9 (B9 h (Nat.le_refl _) (by omega) (by have := X1.out.1.2.2; omega))
    have r0 := V9.1 0 _ rfl
    have r1 := V9.1 1 _ rfl
    have r2 := V9.1 2 _ rfl
    have r3 := V9.1 3 _ rfl
    have r4 := V9.1 4 _ rfl
    have r5 := V9.1 5 _ rfl
    have r6 := V9.1 6 _ rfl
    have r7 := V9.1 7 _ rfl
    have r8 := V9.1 8 _ rfl
    have r9 := V9.1 9 _ rfl
    have r10 := V9.1 10 _ rfl
    have r11 := V9.1 11 _ rfl
    have r12 := V9.1 12 _ rfl
    have r13 := V9.1 13 _ rfl
    have q0 := Q9.1 0 _ rfl
    clear V9 Q9 B9
    simp [Leaves, settle, results, Tryd.results11, go_sem, r0, r1, r2, r3, r4, r5, r6, r7, r8, r9, r10, r11, r12, r13, q0]
    exact FJ.out
end Go.Proofs.YtedhlmipcfdldaaDoor
