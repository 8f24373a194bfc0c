/- The law FnExactBankText returns true, whatever the bank. Conditions: its accounts and orders lie in memory, the table of powers of ten is laid. -/
import Derived.Test.YtodbcdclglaniaaDoorBw
import Derived.Test.YtodbcdclglaniaaDoorFLawBank
import Derived.Deep.RegionWith
namespace Go.Proofs.YtodbcdclglaniaaDoor
open Go.RowKit
set_option maxRecDepth 8000

/-- One text that both sides write of a bank. -/
theorem bothBT (n m : Nat) (F : Nat → Acc) (O : Nat → Ord) (k : Bk) : ∃ t : ByteArray,
    (∀ (a b : Option Addr) (c d : Nat) (w : World), Fo w a n F → Ords w b m O → Calls Tryd.prog 6 #[.agg #[.int .i64 k.day, .slice a n c, .slice b m d, .int .i64 k.inn, .int .i64 k.out, .int .i64 k.posted, .int .i64 k.missed]] w fun e w' => e = .returned (.string t) ∧ Below w.heap.size w w') ∧
    (∀ (a b : Option Addr) (c d : Nat) (w : World), Pow w → Fo w a n F → Ords w b m O → Calls Tryd.prog 8 #[.agg #[.int .i64 k.day, .slice a n c, .slice b m d, .int .i64 k.inn, .int .i64 k.out, .int .i64 k.posted, .int .i64 k.missed]] w fun e w' => e = .returned (.string t) ∧ Below w.heap.size w w') := by
  by_cases h : bankOk F n O m k
  · exact ⟨bankB F n O m k, fun a b c d w hF hO => specBT a b n c m d F O k w hF hO _ ⟨fun _ => rfl, fun h' => absurd h h'⟩, fun a b c d w hp hF hO => implBT_yes a b n c m d F O k w hF hO h hp⟩
  · exact ⟨⟨#[]⟩, fun a b c d w hF hO => specBT a b n c m d F O k w hF hO _ ⟨fun h' => absurd h' h, fun _ => rfl⟩, fun a b c d w _ hF hO => implBT_no a b n c m d F O k w hF hO h⟩

set_option maxHeartbeats 4000000 in
theorem lawBankText (x0 x3 x4 x5 x6 : Int) (a b : Option Addr) (n c m d : Nat) (F : Nat → Acc) (O : Nat → Ord) (w : World) (hp : Pow w) (hn : n ≤ 9223372036854775807) (hm : m ≤ 9223372036854775807) (hF : n ≤ 1048576 → Fo w a n F) (hO : m ≤ 1048576 → Ords w b m O) :
    Calls Tryd.prog 3 #[.agg #[.int .i64 x0, .slice a n c, .slice b m d, .int .i64 x3, .int .i64 x4, .int .i64 x5, .int .i64 x6]] w fun e w' => e = .returned (.bool true) ∧ Below w.heap.size w w' := by
  obtain ⟨k, hk⟩ : ∃ k : Bk, k = ⟨x0, x3, x4, x5, x6⟩ := ⟨_, rfl⟩
  have e0 : x0 = k.day := by rw [hk]
  have e3 : x3 = k.inn := by rw [hk]
  have e4 : x4 = k.out := by rw [hk]
  have e5 : x5 = k.posted := by rw [hk]
  have e6 : x6 = k.missed := by rw [hk]
  rw [e0, e3, e4, e5, e6]
  clear hk e0 e3 e4 e5 e6
  obtain ⟨t, hS, hI⟩ := bothBT n m F O k
  have HS : Hid (∀ (a b : Option Addr) (c d : Nat) (w : World), Fo w a n F → Ords w b m O → Calls Tryd.prog 6 #[.agg #[.int .i64 k.day, .slice a n c, .slice b m d, .int .i64 k.inn, .int .i64 k.out, .int .i64 k.posted, .int .i64 k.missed]] w fun e w' => e = .returned (.string t) ∧ Below w.heap.size w w') := hS
  have HI : Hid (∀ (a b : Option Addr) (c d : Nat) (w : World), Pow w → Fo w a n F → Ords w b m O → Calls Tryd.prog 8 #[.agg #[.int .i64 k.day, .slice a n c, .slice b m d, .int .i64 k.inn, .int .i64 k.out, .int .i64 k.posted, .int .i64 k.missed]] w fun e w' => e = .returned (.string t) ∧ Below w.heap.size w w') := hI
  have HP : Hid (Pow w) := hp
  have et : (t.toList == t.toList) = true := by simp
  clear hS hI hp
  have X0 : Hid (BkBox (w.alloc (.cells #[.int .i64 k.day, .slice a n c, .slice b m d, .int .i64 k.inn, .int .i64 k.out, .int .i64 k.posted, .int .i64 k.missed] 25)) w.heap.size (.slice a n c) (.slice b m d) k) := BkBox.new w _ _ k 25
  have B0 : Hid (Below w.heap.size w (w.alloc (.cells #[.int .i64 k.day, .slice a n c, .slice b m d, .int .i64 k.inn, .int .i64 k.out, .int .i64 k.posted, .int .i64 k.missed] 25))) := (Below.refl _ _).alloc (Nat.le_refl _) _
  by_cases hs : n + m ≤ 1048576
  rotate_left
  · go_enter Tryd.func3, Tryd.ntmps3
    go_wp2_with fail
    refine (szBank_no a b n c m d k _ hs hn hm).mono ?_
    rintro e w1 ⟨rfl, D1⟩
    have D1' : Hid (Below w.heap.size w w1) := B0.out.trans (D1.mono B0.out.size)
    clear D1
    go_wp2
    go_ret
    exact ⟨rfl, D1'.out⟩
  have HF : Hid (Fo w a n F) := hF (by omega)
  have HO : Hid (Ords w b m O) := hO (by omega)
  have hn2 : n ≤ 1048576 := by omega
  have hm2 : m ≤ 1048576 := by omega
  clear hF hO hn hm
  go_enter Tryd.func3, Tryd.ntmps3
  go_wp2_with fail
  refine (szBank_yes a b n c m d k _ hs).mono ?_
  rintro e w1 ⟨rfl, D1⟩
  have X1 : Hid (BkBox w1 w.heap.size (.slice a n c) (.slice b m d) k ∧ Below w.heap.size w w1) := ⟨X0.out.below D1, B0.out.trans (D1.mono B0.out.size)⟩
  clear D1 X0 B0
  obtain ⟨⟨c0, c1, c2, c3, c4, c5, c6, _⟩, _⟩ := X1.out
  go_wp2_with fail
  refine (toBank a b n c m d F O k _ (HF.out.below X1.out.2) (HO.out.below X1.out.2)).mono ?_
  rintro e w2 ⟨R1, R2, rfl, r1, r2, _, _, D2⟩
  have X2 : Hid (BkBox w2 w.heap.size (.slice a n c) (.slice b m d) k ∧ Below w.heap.size w w2) := ⟨X1.out.1.below D2, X1.out.2.trans (D2.mono X1.out.2.size)⟩
  have r1' : Hid (Row w2 R1 n n F) := r1
  have r2' : Hid (RowOrd w2 R2 m m O) := r2
  clear D2 X1 c0 c1 c2 c3 c4 c5 c6 r1 r2
  go_wp2_with fail
  refine (HS.out _ _ n m _ (r1'.out.fo hn2) (r2'.out.list hm2)).mono ?_
  rintro e w3 ⟨rfl, D3⟩
  have X3 : Hid (BkBox w3 w.heap.size (.slice a n c) (.slice b m d) k ∧ Below w.heap.size w w3) := ⟨X2.out.1.below D3, X2.out.2.trans (D3.mono X2.out.2.size)⟩
  clear D3 X2 r1' r2' HS
  obtain ⟨⟨c0, c1, c2, c3, c4, c5, c6, _⟩, _⟩ := X3.out
  go_wp2_with fail
  refine (toBank a b n c m d F O k _ (HF.out.below X3.out.2) (HO.out.below X3.out.2)).mono ?_
  rintro e w4 ⟨Q1, Q2, rfl, r1, r2, hq1, hq2, D4⟩
  have X4 : Hid (BkBox w4 w.heap.size (.slice a n c) (.slice b m d) k ∧ Below w.heap.size w w4) := ⟨X3.out.1.below D4, X3.out.2.trans (D4.mono X3.out.2.size)⟩
  have r1' : Hid (Row w4 Q1 n n F) := r1
  have r2' : Hid (RowOrd w4 Q2 m m O) := r2
  clear D4 X3 c0 c1 c2 c3 c4 c5 c6 r1 r2
  have XB : Hid (BkBox (w4.alloc (.cells #[.int .i64 k.day, .slice (some ⟨Q1, 0, none⟩) n n, .slice (some ⟨Q2, 0, none⟩) m m, .int .i64 k.inn, .int .i64 k.out, .int .i64 k.posted, .int .i64 k.missed] 31)) w4.heap.size (.slice (some ⟨Q1, 0, none⟩) n n) (.slice (some ⟨Q2, 0, none⟩) m m) k) := BkBox.new w4 _ _ k 31
  have XA : Hid (Below w4.heap.size w4 (w4.alloc (.cells #[.int .i64 k.day, .slice (some ⟨Q1, 0, none⟩) n n, .slice (some ⟨Q2, 0, none⟩) m m, .int .i64 k.inn, .int .i64 k.out, .int .i64 k.posted, .int .i64 k.missed] 31))) := (Below.refl _ _).alloc (Nat.le_refl _) _
  go_wp2_with fail
  refine (HI.out _ _ n m _ (HP.out.below (X4.out.2.trans (XA.out.mono X4.out.2.size))) ((r1'.out.below XA.out).fo hn2) ((r2'.out.below XA.out).list hm2)).mono ?_
  rintro e w5 ⟨rfl, D5⟩
  have X5 : Hid (BkBox w5 w.heap.size (.slice a n c) (.slice b m d) k ∧ Below w.heap.size w w5 ∧ BkBox w5 w4.heap.size (.slice (some ⟨Q1, 0, none⟩) n n) (.slice (some ⟨Q2, 0, none⟩) m m) k ∧ Row w5 Q1 n n F ∧ RowOrd w5 Q2 m m O) :=
    ⟨(X4.out.1.below XA.out).below D5, (X4.out.2.trans (XA.out.mono X4.out.2.size)).trans (D5.mono (Nat.le_trans X4.out.2.size XA.out.size)), XB.out.below D5, (r1'.out.below XA.out).below D5, (r2'.out.below XA.out).below D5⟩
  clear D5 X4 XB XA r1' r2' HI HP
  obtain ⟨⟨c0, c1, c2, c3, c4, c5, c6, _⟩, _, ⟨g0, g1, g2, g3, g4, g5, g6, _⟩, _⟩ := X5.out
  have BD : Hid (Below w.heap.size w w5.drew) := X5.out.2.1.trans ⟨rfl, rfl, rfl, Nat.le_refl _, fun _ _ => rfl⟩
  have XD : Hid (BkBox w5.drew w4.heap.size (.slice (some ⟨Q1, 0, none⟩) n n) (.slice (some ⟨Q2, 0, none⟩) m m) k ∧ Row w5.drew Q1 n n F ∧ RowOrd w5.drew Q2 m m O) := X5.out.2.2
  go_wp2
  go_region_with (first
    | (go_at_call 7; refine (toBank a b n c m d F O k w5.drew (HF.out.below BD.out) (HO.out.below BD.out)).mono ?_
       rintro e w6 ⟨P1, P2, rfl, r1, r2, _, _, D6⟩
       have X6 : Hid (Below w.heap.size w w6 ∧ Row w6 Q1 n n F ∧ RowOrd w6 Q2 m m O ∧ Row w6 P1 n n F ∧ RowOrd w6 P2 m m O) :=
         ⟨BD.out.trans (D6.mono BD.out.size), XD.out.2.1.below D6, XD.out.2.2.below D6, r1, r2⟩
       obtain ⟨h0, h1, h2, h3, h4, h5, h6, _⟩ : BkBox w6 w4.heap.size (.slice (some ⟨Q1, 0, none⟩) n n) (.slice (some ⟨Q2, 0, none⟩) m m) k := XD.out.1.below D6
       clear D6 r1 r2)
    | (go_at_call 9; refine (eqBank_same _ _ _ _ n n n m m m F O k _ (X6.out.2.1.fo hn2) (X6.out.2.2.2.1.fo hn2) (X6.out.2.2.1.list hm2) (X6.out.2.2.2.2.list hm2)).mono ?_
       rintro e w7 ⟨rfl, D7⟩
       have X7 : Hid (Below w.heap.size w w7) := X6.out.1.trans (D7.mono X6.out.1.size)
       clear D7))
  all_goals go_wp2
  all_goals go_ret
  all_goals exact ⟨rfl, X7.out⟩
end Go.Proofs.YtodbcdclglaniaaDoor
