/- readWhole of the program at the reader of a bank: the bank whose text it is, or nothing. Conditions: the package's errors are there, the library's powers of ten as its text lays them. -/
import Derived.Test.YtedhlmipcfdldaaGreatDoorCat
namespace Go.Proofs.YtedhlmipcfdldaaGreatDoor
open Go.RowKit Go.Shelf
set_option maxRecDepth 8000

/-- A bank's cells. -/
def bkC (k : Bk) (v u : Value) : List Value := [.int .i64 k.day, v, u, .int .i64 k.inn, .int .i64 k.out, .int .i64 k.posted, .int .i64 k.missed]
theorem AL.put {w : World} {B : Nat} {v : Value} {L : List Acc} (h : AL w B v L) {q : Nat} (hq : q < B) (o : Nat) (y : Value) : AL (w.setCell ⟨q, o, none⟩ y) B v L := World.ownsRow.kept h (grown_set1Acc _ q o y) (Or.inr (fun e => by have := (World.ownsRow.lt h _ e).1; omega))
theorem OrdL.put {w : World} {B : Nat} {v : Value} {L : List Ord} (h : OrdL w B v L) {q : Nat} (hq : q < B) (o : Nat) (y : Value) : OrdL (w.setCell ⟨q, o, none⟩ y) B v L := World.ownsRow.kept h (grown_set1Acc _ q o y) (Or.inr (fun e => by have := (World.ownsRow.lt h _ e).1; omega))
theorem RdB.same {s t t' : List UInt8} {k k' : Bk} {L L' : List Acc} {O O' : List Ord} (h : RdB s k L O t) (h' : RdB s k' L' O' t') : t = t' := by
  obtain ⟨p1, p2, d1, d2, d3, _⟩ := h
  obtain ⟨q1, q2, e1, e2, e3, _⟩ := h'
  rw [d1] at e1
  have f1 : p1 = q1 := congrArg Prod.snd (Option.some.inj e1)
  rw [← f1, d2] at e2
  have f2 : p2 = q2 := congrArg Prod.snd (Option.some.inj e2)
  rw [← f2, d3] at e3
  exact congrArg Prod.snd (Option.some.inj e3)
/-- What the whole comes to. -/
def WOut (w : World) (s : ByteArray) (e : Ending) (w' : World) : Prop := Below w.heap.size w w' ∧ ((∃ (k : Bk) (L : List Acc) (O : List Ord) (v u : Value), RdB s.data.toList k L O [] ∧ e = .returned (.tuple #[.agg (bkC k v u).toArray, .bool true]) ∧ AL w' w.heap.size v L ∧ OrdL w' w.heap.size u O) ∨ ((∀ k L O, ¬ RdB s.data.toList k L O []) ∧ e = .returned (.tuple #[.agg zBk.toArray, .bool false])))
set_option maxHeartbeats 4000000 in
theorem wholeL (s : ByteArray) (hs : s.size ≤ 1048576) (w : World) (g : Glo w) : Calls Tryz.prog 12 #[.string s, .func (.func 13) #[] #[]] w fun e w' => WOut w s e w' := by
  have hmf : ∀ (fn : Fn) (first cap : Array Value) (w : World), (Instr.makeFunc fn first cap).run Tryz.prog w = .ok (.func fn first cap) w := fun _ _ _ _ => rfl
  obtain ⟨h, hh⟩ : ∃ h, w.heap.size = h := ⟨_, rfl⟩
  have HH : Hid (w.heap.size = h) := hh
  obtain ⟨W0, hW0, X0⟩ : ∃ W0, W0 = ((w.alloc (.cells zBk.toArray 25)).alloc (.cells #[.bool false] 4)).alloc (.cells #[.string s] 53) ∧ Hid (Vals W0 h zBk ∧ Vals W0 (h + 1) [.bool false] ∧ Below h w W0 ∧ Rst W0 (h + 2) s ∧ Glo W0 ∧ W0.heap.size = h + 3) := by
    have b1 : ∀ (V : World) (o : Obj), Below V.heap.size V (V.alloc o) := fun V o => (Below.refl _ _).alloc (Nat.le_refl _) _
    have h7 : 7 ≤ w.heap.size := g.2.2.2.2
    have v0 := ((Vals.new w zBk 25).kept (b1 _ (.cells #[.bool false] 4)) (by simp)).kept (b1 _ (.cells #[.string s] 53)) (by simp; omega)
    have v1 := (Vals.new (w.alloc (.cells zBk.toArray 25)) [.bool false] 4).kept (b1 _ (.cells #[.string s] 53)) (by simp)
    have v2 := Vals.new ((w.alloc (.cells zBk.toArray 25)).alloc (.cells #[.bool false] 4)) [.string s] 53
    simp only [World.size_alloc] at v0 v1 v2
    rw [hh] at v0 v1 v2 h7
    have bb : Below h w (((w.alloc (.cells zBk.toArray 25)).alloc (.cells #[.bool false] 4)).alloc (.cells #[.string s] 53)) := by
      rw [← hh]
      exact (((Below.refl _ _).alloc (Nat.le_refl _) _).alloc (by simp) _).alloc (by simp; omega) _
    exact ⟨_, rfl, v0, v1, bb, ⟨v2.1 0 _ rfl, v2.2.1 0, by omega, v2.2.2, hs⟩, g.below (by rw [hh]; exact bb), by simp [hh]⟩
  have HW0 : Hid (W0 = ((w.alloc (.cells #[.int .i64 0, .slice none 0 0, .slice none 0 0, .int .i64 0, .int .i64 0, .int .i64 0, .int .i64 0] 25)).alloc (.cells #[.bool false] 4)).alloc (.cells #[.string s] 53)) := hW0
  have FNO : Hid ((∀ k L O, ¬ RdB s.data.toList k L O []) → ∀ W w9, Below h w W → Below h W w9 → WOut w s (.returned (.tuple #[.agg zBk.toArray, .bool false])) w9) := fun hn W w9 b1 b2 => ⟨by rw [HH.out]; exact b1.trans b2, Or.inr ⟨hn, rfl⟩⟩
  have HG7 : Hid (7 ≤ h) := by have := g.2.2.2.2; rw [hh] at this; exact this
  clear hW0 g
  go_enter_defers Tryz.func12, Tryz.ntmps12
  go_wp2_with fail
  rw [← HW0.out]
  clear HW0 hh
  refine (bankL (h + 2) s W0 X0.out.2.2.2.1 X0.out.2.2.2.2.1).mono ?_
  rintro e w1 ⟨S1, hor⟩
  rw [X0.out.2.2.2.2.2] at hor
  have X1 : Hid (Vals w1 h zBk ∧ Vals w1 (h + 1) [.bool false] ∧ Below h w w1) := ⟨X0.out.1.stp S1 (by omega), X0.out.2.1.stp S1 (by omega), X0.out.2.2.1.trans ((S1.below (by have := X0.out.2.2.2.1.2.2.2.1; omega)).mono (by omega))⟩
  clear S1 X0
  rcases hor with ⟨k, L, O, v, u, t, hR, rfl, A1, O1, R1, G1⟩ | ⟨hR, t9, p9, rfl⟩
  · have h7 : 7 ≤ h := HG7.out
    obtain ⟨a1, c1, hv⟩ := A1.len
    obtain ⟨a2, c2, hu, _⟩ := O1.shape
    subst hv
    subst hu
    obtain ⟨m1, hm1⟩ : ∃ m, L.length = m := ⟨_, rfl⟩
    obtain ⟨m2, hm2⟩ : ∃ m, O.length = m := ⟨_, rfl⟩
    rw [hm1] at A1
    rw [hm2] at O1
    simp only [hm1, hm2]
    clear hm1 hm2
    obtain ⟨W2, hW2, X2⟩ : ∃ W2, W2 = (((((((w1).setCell ⟨h, 0, none⟩ (.int .i64 k.day)).setCell ⟨h, 1, none⟩ (.slice a1 m1 c1)).setCell ⟨h, 2, none⟩ (.slice a2 m2 c2)).setCell ⟨h, 3, none⟩ (.int .i64 k.inn)).setCell ⟨h, 4, none⟩ (.int .i64 k.out)).setCell ⟨h, 5, none⟩ (.int .i64 k.posted)).setCell ⟨h, 6, none⟩ (.int .i64 k.missed) ∧ Hid (Vals W2 h (bkC k (.slice a1 m1 c1) (.slice a2 m2 c2)) ∧ Vals W2 (h + 1) [.bool false] ∧ Below h w W2 ∧ Rst W2 (h + 2) t ∧ Glo W2 ∧ AL W2 (h + 3) (.slice a1 m1 c1) L ∧ OrdL W2 (h + 3) (.slice a2 m2 c2) O) :=
      ⟨_, rfl, (((((((X1.out.1).set 0 (.int .i64 k.day)).set 1 (.slice a1 m1 c1)).set 2 (.slice a2 m2 c2)).set 3 (.int .i64 k.inn)).set 4 (.int .i64 k.out)).set 5 (.int .i64 k.posted)).set 6 (.int .i64 k.missed), (((((((X1.out.2.1).far (by omega) 0 (.int .i64 k.day)).far (by omega) 1 (.slice a1 m1 c1)).far (by omega) 2 (.slice a2 m2 c2)).far (by omega) 3 (.int .i64 k.inn)).far (by omega) 4 (.int .i64 k.out)).far (by omega) 5 (.int .i64 k.posted)).far (by omega) 6 (.int .i64 k.missed), (((((((X1.out.2.2).setCell (p := ⟨h, 0, none⟩) (Nat.le_refl _) (.int .i64 k.day)).setCell (p := ⟨h, 1, none⟩) (Nat.le_refl _) (.slice a1 m1 c1)).setCell (p := ⟨h, 2, none⟩) (Nat.le_refl _) (.slice a2 m2 c2)).setCell (p := ⟨h, 3, none⟩) (Nat.le_refl _) (.int .i64 k.inn)).setCell (p := ⟨h, 4, none⟩) (Nat.le_refl _) (.int .i64 k.out)).setCell (p := ⟨h, 5, none⟩) (Nat.le_refl _) (.int .i64 k.posted)).setCell (p := ⟨h, 6, none⟩) (Nat.le_refl _) (.int .i64 k.missed), (((((((R1).far (by omega) 0 (.int .i64 k.day)).far (by omega) 1 (.slice a1 m1 c1)).far (by omega) 2 (.slice a2 m2 c2)).far (by omega) 3 (.int .i64 k.inn)).far (by omega) 4 (.int .i64 k.out)).far (by omega) 5 (.int .i64 k.posted)).far (by omega) 6 (.int .i64 k.missed), (((((((G1).far h7 0 (.int .i64 k.day)).far h7 1 (.slice a1 m1 c1)).far h7 2 (.slice a2 m2 c2)).far h7 3 (.int .i64 k.inn)).far h7 4 (.int .i64 k.out)).far h7 5 (.int .i64 k.posted)).far h7 6 (.int .i64 k.missed), (((((((A1).put (q := h) (by omega) 0 (.int .i64 k.day)).put (q := h) (by omega) 1 (.slice a1 m1 c1)).put (q := h) (by omega) 2 (.slice a2 m2 c2)).put (q := h) (by omega) 3 (.int .i64 k.inn)).put (q := h) (by omega) 4 (.int .i64 k.out)).put (q := h) (by omega) 5 (.int .i64 k.posted)).put (q := h) (by omega) 6 (.int .i64 k.missed), (((((((O1).put (q := h) (by omega) 0 (.int .i64 k.day)).put (q := h) (by omega) 1 (.slice a1 m1 c1)).put (q := h) (by omega) 2 (.slice a2 m2 c2)).put (q := h) (by omega) 3 (.int .i64 k.inn)).put (q := h) (by omega) 4 (.int .i64 k.out)).put (q := h) (by omega) 5 (.int .i64 k.posted)).put (q := h) (by omega) 6 (.int .i64 k.missed)⟩
    have HW2 : Hid (W2 = _) := hW2
    have HRT : Hid (RdB s.data.toList k L O t.data.toList) := hR
    have y0 := X1.out.1.1 0 _ rfl
    have y1 := X1.out.1.1 1 _ rfl
    have y2 := X1.out.1.1 2 _ rfl
    have y3 := X1.out.1.1 3 _ rfl
    have y4 := X1.out.1.1 4 _ rfl
    have y5 := X1.out.1.1 5 _ rfl
    have y6 := X1.out.1.1 6 _ rfl
    have fz := X1.out.1.2.1
    clear hW2 R1 G1 hR A1 O1
    go_upto_region 4 with fail
    rw [← HW2.out]
    clear HW2 X1 fz y0 y1 y2 y3 y4 y5 y6
    have tc := X2.out.2.2.2.1.1
    by_cases ht : t.toList.isEmpty = true
    · have FYES : Hid (∀ W, Below h W2 W → AL W (h + 3) (.slice a1 m1 c1) L → OrdL W (h + 3) (.slice a2 m2 c2) O → WOut w s (.returned (.tuple #[.agg (bkC k (.slice a1 m1 c1) (.slice a2 m2 c2)).toArray, .bool true])) W) := fun W hb hA hO => ⟨by rw [HH.out]; exact X2.out.2.2.1.trans hb, Or.inl ⟨k, L, O, _, _, by have := HRT.out; rwa [show t.data.toList = [] by rw [Lib.toList_data] at ht; exact List.isEmpty_iff.1 ht] at this, rfl, AL.mono hA (by rw [HH.out]; omega), OrdL.mono hO (by rw [HH.out]; omega)⟩⟩
      clear FNO HRT
      have r0 := X2.out.1.1 0 _ rfl
      have r1 := X2.out.1.1 1 _ rfl
      have r2 := X2.out.1.1 2 _ rfl
      have r3 := X2.out.1.1 3 _ rfl
      have r4 := X2.out.1.1 4 _ rfl
      have r5 := X2.out.1.1 5 _ rfl
      have r6 := X2.out.1.1 6 _ rfl
      have fz := X2.out.1.2.1
      have q0 := X2.out.2.1.1 0 _ rfl
      have fq := X2.out.2.1.2.1
      have nh : ¬ h = h + 1 := by omega
      obtain ⟨W9, hW9, X9⟩ : ∃ W9, W9 = ((((((((W2).setCell ⟨h, 0, none⟩ (.int .i64 k.day)).setCell ⟨h, 1, none⟩ (.slice a1 m1 c1)).setCell ⟨h, 2, none⟩ (.slice a2 m2 c2)).setCell ⟨h, 3, none⟩ (.int .i64 k.inn)).setCell ⟨h, 4, none⟩ (.int .i64 k.out)).setCell ⟨h, 5, none⟩ (.int .i64 k.posted)).setCell ⟨h, 6, none⟩ (.int .i64 k.missed)).setCell ⟨h + 1, 0, none⟩ (.bool true) ∧ Hid (Vals W9 h (bkC k (.slice a1 m1 c1) (.slice a2 m2 c2)) ∧ Vals W9 (h + 1) [.bool true] ∧ Below h W2 W9 ∧ AL W9 (h + 3) (.slice a1 m1 c1) L ∧ OrdL W9 (h + 3) (.slice a2 m2 c2) O) := ⟨_, rfl, ((((((((X2.out.1).set 0 (.int .i64 k.day)).set 1 (.slice a1 m1 c1)).set 2 (.slice a2 m2 c2)).set 3 (.int .i64 k.inn)).set 4 (.int .i64 k.out)).set 5 (.int .i64 k.posted)).set 6 (.int .i64 k.missed)).far (by omega) 0 (.bool true), ((((((((X2.out.2.1).far (by omega) 0 (.int .i64 k.day)).far (by omega) 1 (.slice a1 m1 c1)).far (by omega) 2 (.slice a2 m2 c2)).far (by omega) 3 (.int .i64 k.inn)).far (by omega) 4 (.int .i64 k.out)).far (by omega) 5 (.int .i64 k.posted)).far (by omega) 6 (.int .i64 k.missed)).set 0 (.bool true), (((((((((Below.refl h W2)).setCell (p := ⟨h, 0, none⟩) (Nat.le_refl _) (.int .i64 k.day)).setCell (p := ⟨h, 1, none⟩) (Nat.le_refl _) (.slice a1 m1 c1)).setCell (p := ⟨h, 2, none⟩) (Nat.le_refl _) (.slice a2 m2 c2)).setCell (p := ⟨h, 3, none⟩) (Nat.le_refl _) (.int .i64 k.inn)).setCell (p := ⟨h, 4, none⟩) (Nat.le_refl _) (.int .i64 k.out)).setCell (p := ⟨h, 5, none⟩) (Nat.le_refl _) (.int .i64 k.posted)).setCell (p := ⟨h, 6, none⟩) (Nat.le_refl _) (.int .i64 k.missed)).setCell (p := ⟨h + 1, 0, none⟩) (by show h ≤ h + 1; omega) (.bool true), ((((((((X2.out.2.2.2.2.2.1).put (q := h) (by omega) 0 (.int .i64 k.day)).put (q := h) (by omega) 1 (.slice a1 m1 c1)).put (q := h) (by omega) 2 (.slice a2 m2 c2)).put (q := h) (by omega) 3 (.int .i64 k.inn)).put (q := h) (by omega) 4 (.int .i64 k.out)).put (q := h) (by omega) 5 (.int .i64 k.posted)).put (q := h) (by omega) 6 (.int .i64 k.missed)).put (q := h + 1) (by omega) 0 (.bool true), ((((((((X2.out.2.2.2.2.2.2).put (q := h) (by omega) 0 (.int .i64 k.day)).put (q := h) (by omega) 1 (.slice a1 m1 c1)).put (q := h) (by omega) 2 (.slice a2 m2 c2)).put (q := h) (by omega) 3 (.int .i64 k.inn)).put (q := h) (by omega) 4 (.int .i64 k.out)).put (q := h) (by omega) 5 (.int .i64 k.posted)).put (q := h) (by omega) 6 (.int .i64 k.missed)).put (q := h + 1) (by omega) 0 (.bool true)⟩
      have HW9 : Hid (W9 = _) := hW9
      clear hW9
      go_wp2_with (go_at_call 24; refine (want_yes _ _).mono ?_; rintro e w3 ⟨rfl, hw3⟩; subst w3)
      rw [← HW9.out]
      clear HW9 fz q0 fq nh r0 r1 r2 r3 r4 r5 r6
      refine leaves_cons (f := 23) (args := #[.pointer (some ⟨h, 0, none⟩), .pointer (some ⟨h + 1, 0, none⟩)]) (by simp) (by simp [go_sem]) ?_
      refine (catch_idle ⟨h, 0, none⟩ ⟨h + 1, 0, none⟩ _).mono ?_
      rintro e u' w9 ⟨rfl, rfl, hw9⟩
      subst w9
      have FJ : Hid (WOut w s (.returned (.tuple #[.agg (bkC k (.slice a1 m1 c1) (.slice a2 m2 c2)).toArray, .bool true])) W9) := FYES.out W9 X9.out.2.2.1 X9.out.2.2.2.1 X9.out.2.2.2.2
      have r0 := X9.out.1.1 0 _ rfl
      have r1 := X9.out.1.1 1 _ rfl
      have r2 := X9.out.1.1 2 _ rfl
      have r3 := X9.out.1.1 3 _ rfl
      have r4 := X9.out.1.1 4 _ rfl
      have r5 := X9.out.1.1 5 _ rfl
      have r6 := X9.out.1.1 6 _ rfl
      have q0 := X9.out.2.1.1 0 _ rfl
      simp [Leaves, settle, results, Tryz.results12, go_sem, r0, r1, r2, r3, r4, r5, r6, q0]
      exact FJ.out
    · have hto : t.toList.isEmpty = false := by simpa using ht
      have FI : Hid (∀ w9, Below h W2 w9 → WOut w s (.returned (.tuple #[.agg zBk.toArray, .bool false])) w9) := fun w9 hb => FNO.out (fun k' L' O' hh => by
        have := HRT.out.same hh
        rw [Lib.toList_data, this] at hto
        simp at hto) W2 w9 X2.out.2.2.1 hb
      clear FNO HRT ht
      go_wp2_with (go_at_call 24; refine (want_no _ _ X2.out.2.2.2.2.1).mono ?_; rintro e w3 ⟨⟨t9, p9, rfl⟩, rfl⟩)
      refine leaves_cons (f := 23) (args := #[.pointer (some ⟨h, 0, none⟩), .pointer (some ⟨h + 1, 0, none⟩)]) (by simp) (by simp [go_sem]) ?_
      refine (catch_panicking h (h + 1) t9 p9 [] _ false _ X2.out.1 rfl X2.out.2.1 (by omega)).mono ?_
      rintro e u' w9 ⟨rfl, rfl, V9, Q9, B9⟩
      have FJ : Hid (WOut w s (.returned (.tuple #[.agg zBk.toArray, .bool false])) w9) := FI.out w9 (B9 h (Nat.le_refl _) (by omega) (by have := X2.out.1.2.2; omega))
      have r0 := V9.1 0 _ rfl
      have r1 := V9.1 1 _ rfl
      have r2 := V9.1 2 _ rfl
      have r3 := V9.1 3 _ rfl
      have r4 := V9.1 4 _ rfl
      have r5 := V9.1 5 _ rfl
      have r6 := V9.1 6 _ rfl
      have q0 := Q9.1 0 _ rfl
      clear V9 Q9 B9
      simp [Leaves, settle, results, Tryz.results12, go_sem, r0, r1, r2, r3, r4, r5, r6, q0]
      exact FJ.out
  · have FI : Hid (∀ w9, Below h w1 w9 → WOut w s (.returned (.tuple #[.agg zBk.toArray, .bool false])) w9) := fun w9 hb => FNO.out (fun k L O => hR k L O []) w1 w9 X1.out.2.2 hb
    clear FNO hR
    refine leaves_cons (f := 23) (args := #[.pointer (some ⟨h, 0, none⟩), .pointer (some ⟨h + 1, 0, none⟩)]) (by simp) (by simp [go_sem]) ?_
    refine (catch_panicking h (h + 1) t9 p9 [] _ false _ X1.out.1 rfl X1.out.2.1 (by omega)).mono ?_
    rintro e u' w9 ⟨rfl, rfl, V9, Q9, B9⟩
    have FJ : Hid (WOut w s (.returned (.tuple #[.agg zBk.toArray, .bool false])) w9) := FI.out w9 (B9 h (Nat.le_refl _) (by omega) (by have := X1.out.1.2.2; omega))
    have r0 := V9.1 0 _ rfl
    have r1 := V9.1 1 _ rfl
    have r2 := V9.1 2 _ rfl
    have r3 := V9.1 3 _ rfl
    have r4 := V9.1 4 _ rfl
    have r5 := V9.1 5 _ rfl
    have r6 := V9.1 6 _ rfl
    have q0 := Q9.1 0 _ rfl
    clear V9 Q9 B9
    simp [Leaves, settle, results, Tryz.results12, go_sem, r0, r1, r2, r3, r4, r5, r6, q0]
    exact FJ.out
end Go.Proofs.YtedhlmipcfdldaaGreatDoor
