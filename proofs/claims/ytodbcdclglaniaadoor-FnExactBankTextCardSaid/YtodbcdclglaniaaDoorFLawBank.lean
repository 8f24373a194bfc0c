/- The law FnExactBankOk returns true, whatever the bank. Conditions: its accounts and orders lie in memory. -/
import Derived.Test.YtodbcdclglaniaaDoorFBanks
import Derived.Test.YtodbcdclglaniaaDoorFLawOrd
import Derived.Deep.RegionWith
namespace Go.Proofs.YtodbcdclglaniaaDoor
open Go.RowKit
set_option maxRecDepth 8000

theorem szBank_yes (a b : Option Addr) (n c m d : Nat) (k : Bk) (w : World) (h : n + m ≤ 1048576) :
    Calls Tryd.prog 5 #[.agg #[.int .i64 k.day, .slice a n c, .slice b m d, .int .i64 k.inn, .int .i64 k.out, .int .i64 k.posted, .int .i64 k.missed], .int .i64 1048576] w fun e w' => e = .returned (.int .i64 (1048576 - (n : Int) - (m : Int))) ∧ Below w.heap.size w w' := by
  have hB : Hid (Below w.heap.size w (w.alloc (.cells #[.int .i64 k.day, .slice a n c, .slice b m d, .int .i64 k.inn, .int .i64 k.out, .int .i64 k.posted, .int .i64 k.missed] 25))) := (Below.refl _ _).alloc (Nat.le_refl _) _
  go_enter Tryd.func5, Tryd.ntmps5
  go_wp2_with fail
  refine (szAccountS_yes a n c _ (by omega)).mono ?_
  rintro e w1 ⟨rfl, hw⟩
  subst hw
  go_wp2_with fail
  refine (szSOrd_yes b m d (1048576 - (n : Int)) _ (by omega) (by omega)).mono ?_
  rintro e w1 ⟨rfl, hw⟩
  subst hw
  go_wp2
  go_ret
  exact ⟨rfl, hB.out⟩
theorem szBank_no (a b : Option Addr) (n c m d : Nat) (k : Bk) (w : World) (h : ¬ n + m ≤ 1048576) (hn : n ≤ 9223372036854775807) (hm : m ≤ 9223372036854775807) :
    Calls Tryd.prog 5 #[.agg #[.int .i64 k.day, .slice a n c, .slice b m d, .int .i64 k.inn, .int .i64 k.out, .int .i64 k.posted, .int .i64 k.missed], .int .i64 1048576] w fun e w' => e = .returned (.int .i64 (-1)) ∧ Below w.heap.size w w' := by
  have hB : Hid (Below w.heap.size w (w.alloc (.cells #[.int .i64 k.day, .slice a n c, .slice b m d, .int .i64 k.inn, .int .i64 k.out, .int .i64 k.posted, .int .i64 k.missed] 25))) := (Below.refl _ _).alloc (Nat.le_refl _) _
  by_cases h1 : n ≤ 1048576
  · go_enter Tryd.func5, Tryd.ntmps5
    go_wp2_with fail
    refine (szAccountS_yes a n c _ h1).mono ?_
    rintro e w1 ⟨rfl, hw⟩
    subst hw
    go_wp2_with fail
    refine (szSOrd_no b m d (1048576 - (n : Int)) _ (by omega) (by omega) hm).mono ?_
    rintro e w1 ⟨rfl, hw⟩
    subst hw
    go_wp2
    go_ret
    exact ⟨rfl, hB.out⟩
  · go_enter Tryd.func5, Tryd.ntmps5
    go_wp2_with fail
    refine (szAccountS_no a n c _ (by omega) hn).mono ?_
    rintro e w1 ⟨rfl, hw⟩
    subst hw
    go_wp2
    go_ret
    exact ⟨rfl, hB.out⟩

end Go.Proofs.YtodbcdclglaniaaDoor
