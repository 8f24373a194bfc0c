/- The law FnExactBankOk returns true, whatever the bank. Conditions: its accounts and orders lie in memory. -/
import Derived.Test.YtlndklendejjdaaBanks
import Derived.Test.YtlndklendejjdaaLawOrd
import Derived.Deep.RegionWith
namespace Go.Proofs.Ytlndklendejjdaa
open Go.RowKit

theorem szBank_yes (a b : Option Addr) (n c m d : Nat) (k : Bk) (w : World) (h : n + m ≤ 1048576) :
    Calls Try.prog 29 #[.agg #[.int .i64 k.day, .slice a n c, .slice b m d, .int .i64 k.inn, .int .i64 k.out, .int .i64 k.posted, .int .i64 k.missed], .int .i64 1048576] w fun e w' => e = .returned (.int .i64 (1048576 - (n : Int) - (m : Int))) ∧ Below w.heap.size w w' := by
  have hB : Hid (Below w.heap.size w (w.alloc (.cells #[.int .i64 k.day, .slice a n c, .slice b m d, .int .i64 k.inn, .int .i64 k.out, .int .i64 k.posted, .int .i64 k.missed] 43))) := (Below.refl _ _).alloc (Nat.le_refl _) _
  go_enter Try.func29, Try.ntmps29
  go_wp2_with fail
  refine (szAccountS_yes a n c _ (by omega)).mono ?_
  rintro e w1 ⟨rfl, hw⟩
  subst hw
  go_wp2_with fail
  refine (szSOrd_yes b m d (1048576 - (n : Int)) _ (by omega) (by omega)).mono ?_
  rintro e w1 ⟨rfl, hw⟩
  subst hw
  go_wp2
  go_ret
  exact ⟨rfl, hB.out⟩
theorem szBank_no (a b : Option Addr) (n c m d : Nat) (k : Bk) (w : World) (h : ¬ n + m ≤ 1048576) (hn : n ≤ 9223372036854775807) (hm : m ≤ 9223372036854775807) :
    Calls Try.prog 29 #[.agg #[.int .i64 k.day, .slice a n c, .slice b m d, .int .i64 k.inn, .int .i64 k.out, .int .i64 k.posted, .int .i64 k.missed], .int .i64 1048576] w fun e w' => e = .returned (.int .i64 (-1)) ∧ Below w.heap.size w w' := by
  have hB : Hid (Below w.heap.size w (w.alloc (.cells #[.int .i64 k.day, .slice a n c, .slice b m d, .int .i64 k.inn, .int .i64 k.out, .int .i64 k.posted, .int .i64 k.missed] 43))) := (Below.refl _ _).alloc (Nat.le_refl _) _
  by_cases h1 : n ≤ 1048576
  · go_enter Try.func29, Try.ntmps29
    go_wp2_with fail
    refine (szAccountS_yes a n c _ h1).mono ?_
    rintro e w1 ⟨rfl, hw⟩
    subst hw
    go_wp2_with fail
    refine (szSOrd_no b m d (1048576 - (n : Int)) _ (by omega) (by omega) hm).mono ?_
    rintro e w1 ⟨rfl, hw⟩
    subst hw
    go_wp2
    go_ret
    exact ⟨rfl, hB.out⟩
  · go_enter Try.func29, Try.ntmps29
    go_wp2_with fail
    refine (szAccountS_no a n c _ (by omega) hn).mono ?_
    rintro e w1 ⟨rfl, hw⟩
    subst hw
    go_wp2
    go_ret
    exact ⟨rfl, hB.out⟩

set_option maxHeartbeats 2000000 in
theorem lawBank (x0 x3 x4 x5 x6 : Int) (a b : Option Addr) (n c m d : Nat) (F : Nat → Acc) (O : Nat → Ord) (w : World) (hn : n ≤ 9223372036854775807) (hm : m ≤ 9223372036854775807) (hF : n ≤ 1048576 → Fo w a n F) (hO : m ≤ 1048576 → Ords w b m O) :
    Calls Try.prog 8 #[.agg #[.int .i64 x0, .slice a n c, .slice b m d, .int .i64 x3, .int .i64 x4, .int .i64 x5, .int .i64 x6]] w fun e w' => e = .returned (.bool true) ∧ Below w.heap.size w w' := by
  obtain ⟨k, hk⟩ : ∃ k : Bk, k = ⟨x0, x3, x4, x5, x6⟩ := ⟨_, rfl⟩
  have e0 : x0 = k.day := by rw [hk]
  have e3 : x3 = k.inn := by rw [hk]
  have e4 : x4 = k.out := by rw [hk]
  have e5 : x5 = k.posted := by rw [hk]
  have e6 : x6 = k.missed := by rw [hk]
  rw [e0, e3, e4, e5, e6]
  clear hk e0 e3 e4 e5 e6
  have X0 : Hid (BkBox (w.alloc (.cells #[.int .i64 k.day, .slice a n c, .slice b m d, .int .i64 k.inn, .int .i64 k.out, .int .i64 k.posted, .int .i64 k.missed] 43)) w.heap.size (.slice a n c) (.slice b m d) k) := BkBox.new w _ _ k 43
  have B0 : Hid (Below w.heap.size w (w.alloc (.cells #[.int .i64 k.day, .slice a n c, .slice b m d, .int .i64 k.inn, .int .i64 k.out, .int .i64 k.posted, .int .i64 k.missed] 43))) := (Below.refl _ _).alloc (Nat.le_refl _) _
  by_cases hs : n + m ≤ 1048576
  rotate_left
  · go_enter Try.func8, Try.ntmps8
    go_wp2_with fail
    refine (szBank_no a b n c m d k _ hs hn hm).mono ?_
    rintro e w1 ⟨rfl, D1⟩
    have D1' : Hid (Below w.heap.size w w1) := B0.out.trans (D1.mono B0.out.size)
    clear D1
    go_wp2
    go_ret
    exact ⟨rfl, D1'.out⟩
  have HF : Hid (Fo w a n F) := hF (by omega)
  have HO : Hid (Ords w b m O) := hO (by omega)
  have hn2 : n ≤ 1048576 := by omega
  have hm2 : m ≤ 1048576 := by omega
  clear hF hO hn hm
  go_enter Try.func8, Try.ntmps8
  go_wp2_with fail
  refine (szBank_yes a b n c m d k _ hs).mono ?_
  rintro e w1 ⟨rfl, D1⟩
  have X1 : Hid (BkBox w1 w.heap.size (.slice a n c) (.slice b m d) k ∧ Below w.heap.size w w1) := ⟨X0.out.below D1, B0.out.trans (D1.mono B0.out.size)⟩
  clear D1 X0 B0
  obtain ⟨⟨c0, c1, c2, c3, c4, c5, c6, _⟩, _⟩ := X1.out
  go_wp2_with fail
  refine (toBank a b n c m d F O k _ (HF.out.below X1.out.2) (HO.out.below X1.out.2)).mono ?_
  rintro e w2 ⟨R1, R2, rfl, r1, r2, _, _, D2⟩
  have X2 : Hid (BkBox w2 w.heap.size (.slice a n c) (.slice b m d) k ∧ Below w.heap.size w w2) := ⟨X1.out.1.below D2, X1.out.2.trans (D2.mono X1.out.2.size)⟩
  have r1' : Hid (Row w2 R1 n n F) := r1
  have r2' : Hid (RowOrd w2 R2 m m O) := r2
  clear D2 X1 c0 c1 c2 c3 c4 c5 c6 r1 r2
  go_wp2_with fail
  refine (specBank _ _ n n m m F O k _ (r1'.out.fo hn2) (r2'.out.list hm2)).mono ?_
  rintro e w3 ⟨⟨b1, rfl, hb1⟩, D3⟩
  have X3 : Hid (BkBox w3 w.heap.size (.slice a n c) (.slice b m d) k ∧ Below w.heap.size w w3) := ⟨X2.out.1.below D3, X2.out.2.trans (D3.mono X2.out.2.size)⟩
  clear D3 X2 r1' r2'
  obtain ⟨⟨c0, c1, c2, c3, c4, c5, c6, _⟩, _⟩ := X3.out
  go_wp2_with fail
  refine (toBank a b n c m d F O k _ (HF.out.below X3.out.2) (HO.out.below X3.out.2)).mono ?_
  rintro e w4 ⟨Q1, Q2, rfl, r1, r2, hq1, hq2, D4⟩
  have X4 : Hid (BkBox w4 w.heap.size (.slice a n c) (.slice b m d) k ∧ Below w.heap.size w w4) := ⟨X3.out.1.below D4, X3.out.2.trans (D4.mono X3.out.2.size)⟩
  have r1' : Hid (Row w4 Q1 n n F) := r1
  have r2' : Hid (RowOrd w4 Q2 m m O) := r2
  clear D4 X3 c0 c1 c2 c3 c4 c5 c6 r1 r2
  have XB : Hid (BkBox (w4.alloc (.cells #[.int .i64 k.day, .slice (some ⟨Q1, 0, none⟩) n n, .slice (some ⟨Q2, 0, none⟩) m m, .int .i64 k.inn, .int .i64 k.out, .int .i64 k.posted, .int .i64 k.missed] 48)) w4.heap.size (.slice (some ⟨Q1, 0, none⟩) n n) (.slice (some ⟨Q2, 0, none⟩) m m) k) := BkBox.new w4 _ _ k 48
  have XA : Hid (Below w4.heap.size w4 (w4.alloc (.cells #[.int .i64 k.day, .slice (some ⟨Q1, 0, none⟩) n n, .slice (some ⟨Q2, 0, none⟩) m m, .int .i64 k.inn, .int .i64 k.out, .int .i64 k.posted, .int .i64 k.missed] 48))) := (Below.refl _ _).alloc (Nat.le_refl _) _
  go_wp2_with fail
  refine (implBank _ _ n n m m F O k _ ((r1'.out.below XA.out).fo hn2) ((r2'.out.below XA.out).list hm2)).mono ?_
  rintro e w5 ⟨⟨b2, rfl, hb2⟩, D5⟩
  have X5 : Hid (BkBox w5 w.heap.size (.slice a n c) (.slice b m d) k ∧ Below w.heap.size w w5 ∧ BkBox w5 w4.heap.size (.slice (some ⟨Q1, 0, none⟩) n n) (.slice (some ⟨Q2, 0, none⟩) m m) k ∧ Row w5 Q1 n n F ∧ RowOrd w5 Q2 m m O) :=
    ⟨(X4.out.1.below XA.out).below D5, (X4.out.2.trans (XA.out.mono X4.out.2.size)).trans (D5.mono (Nat.le_trans X4.out.2.size XA.out.size)), XB.out.below D5, (r1'.out.below XA.out).below D5, (r2'.out.below XA.out).below D5⟩
  clear D5 X4 XB XA r1' r2'
  have e : b2 = b1 := tells_same hb1 hb2
  subst e
  clear hb1 hb2
  have eb : (b2 != b2) = false := by simp
  obtain ⟨⟨c0, c1, c2, c3, c4, c5, c6, _⟩, _, ⟨g0, g1, g2, g3, g4, g5, g6, _⟩, _⟩ := X5.out
  have BD : Hid (Below w.heap.size w w5.drew) := X5.out.2.1.trans ⟨rfl, rfl, rfl, Nat.le_refl _, fun _ _ => rfl⟩
  have XD : Hid (BkBox w5.drew w4.heap.size (.slice (some ⟨Q1, 0, none⟩) n n) (.slice (some ⟨Q2, 0, none⟩) m m) k ∧ Row w5.drew Q1 n n F ∧ RowOrd w5.drew Q2 m m O) := X5.out.2.2
  go_wp2
  go_region_with (first
    | (go_at_call 31; refine (toBank a b n c m d F O k w5.drew (HF.out.below BD.out) (HO.out.below BD.out)).mono ?_
       rintro e w6 ⟨P1, P2, rfl, r1, r2, _, _, D6⟩
       have X6 : Hid (Below w.heap.size w w6 ∧ Row w6 Q1 n n F ∧ RowOrd w6 Q2 m m O ∧ Row w6 P1 n n F ∧ RowOrd w6 P2 m m O) :=
         ⟨BD.out.trans (D6.mono BD.out.size), XD.out.2.1.below D6, XD.out.2.2.below D6, r1, r2⟩
       obtain ⟨h0, h1, h2, h3, h4, h5, h6, _⟩ : BkBox w6 w4.heap.size (.slice (some ⟨Q1, 0, none⟩) n n) (.slice (some ⟨Q2, 0, none⟩) m m) k := XD.out.1.below D6
       clear D6 r1 r2)
    | (go_at_call 33; refine (eqBank_same _ _ _ _ n n n m m m F O k _ (X6.out.2.1.fo hn2) (X6.out.2.2.2.1.fo hn2) (X6.out.2.2.1.list hm2) (X6.out.2.2.2.2.list hm2)).mono ?_
       rintro e w7 ⟨rfl, D7⟩
       have X7 : Hid (Below w.heap.size w w7) := X6.out.1.trans (D7.mono X6.out.1.size)
       clear D7))
  all_goals go_wp2
  all_goals go_ret
  all_goals exact ⟨rfl, X7.out⟩
end Go.Proofs.Ytlndklendejjdaa
