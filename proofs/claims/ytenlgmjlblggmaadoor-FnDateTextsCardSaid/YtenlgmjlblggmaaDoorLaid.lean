/- What the conditions on the tables give the walks, and that the program's own start meets them. No conditions of its own. -/
import Derived.Test.YtenlgmjlblggmaaDoorText2
import Derived.Test.YtenlgmjlblggmaaDoorRows
import Derived.ProofKit
import Derived.LaidMore
import Derived.OpenShut
import Derived.OpenVars
import Derived.Stop.Joined
import Derived.Stop.LaidErr
import Derived.Lib.LaidTab
import Derived.MakeChecks
namespace Go.Proofs.YtenlgmjlblggmaaDoor
open Go.ChangeShapes Go.WideShapes Go.ChangeAt Go.RowKit

theorem own : ownKnob Tryd.prog.godebug = none := by kernel_rfl
theorem laidOut : laidOutB Tryd.prog = true := by kernel_rfl
theorem gMonths : Tryd.prog.globalNamed "loop.example/g00362/impl.monthLengths" = some 0 := by kernel_rfl
theorem tMonths : (Tryd.prog.globals[0]?).map (·.type) = some 54 := by kernel_rfl
theorem tPow : (Tryd.prog.globals[1]?).map (·.type) = some 65 := by kernel_rfl
theorem cells54 : Tryd.prog.cellsOf 54 = 12 := by kernel_rfl
theorem cells65 : Tryd.prog.cellsOf 65 = 20 := by kernel_rfl
theorem cells57 : Tryd.prog.cellsOf 57 = 1 := by kernel_rfl
theorem cells2 : Tryd.prog.cellsOf 2 = 1 := by kernel_rfl
theorem und65 : Tryd.prog.underlying 65 = some (.array 20 57) := by kernel_rfl
theorem und57 : Tryd.prog.underlying 57 = some (.int .u64) := by kernel_rfl
theorem und54 : Tryd.prog.underlying 54 = some (.array 12 2) := by kernel_rfl
theorem rowed : varsRowed Tryd.prog ["loop.example/g00362/impl.monthLengths"] = true := by kernel_rfl

/-- The lists of what is laid. -/
def laid1 : List (String × DataW Unit) := [("loop.example/g00362/impl.monthLengths", Rows.laid_loop_example_g00362_impl_monthLengths)]
def laid4 : List (String × DataW Unit) := [("math/bits.deBruijn32tab", Rows.laid_math_bits_deBruijn32tab), ("math/bits.deBruijn64tab", Rows.laid_math_bits_deBruijn64tab), ("internal/strconv.uint64pow10", Rows.laid_internal_strconv_uint64pow10), ("loop.example/g00362/impl.monthLengths", Rows.laid_loop_example_g00362_impl_monthLengths)]

theorem door_met (os : Os) (args : Array Value) : laidMetH Tryd.prog laid1 ((World.doorLaid Tryd.prog 400 os).forCall (fun _ _ => 0) ⟨#[], args, []⟩).memory :=
  laidMetH_of_parts3 (fuel := 8) (laidMet_of_run' 8 (by kernel_rfl) (by kernel_rfl)) (by kernel_rfl) (by kernel_rfl)
theorem door_met4 (os : Os) (args : Array Value) : laidMetH Tryd.prog laid4 ((World.doorLaid Tryd.prog 400 os).forCall (fun _ _ => 0) ⟨#[], args, []⟩).memory :=
  laidMetH_of_parts3 (fuel := 8) (laidMet_of_run' 8 (by kernel_rfl) (by kernel_rfl)) (by kernel_rfl) (by kernel_rfl)

theorem tab_of {W : World} (h : laidMet Tryd.prog laid1 W) : Tab W := by
  have hT : Lib.TabIs Tryd.prog W "loop.example/g00362/impl.monthLengths" .i64 [31, 28, 31, 30, 31, 30, 31, 31, 30, 31, 30, 31] :=
    Lib.tabIs_of_head (rest := []) gMonths tMonths und54 Tryd.underlying2 cells2 cells54 h
  have c := fun i hi => hT.cell gMonths i hi
  have hz : 0 < W.heap.size := by
    have h0 := c 0 (by decide)
    by_cases hn : W.heap.size = 0
    · have e : W.heap[0]? = none := by simp [hn]
      simp [World.cell?, e] at h0
    · omega
  exact ⟨hz, c 0 (by decide), c 1 (by decide), c 2 (by decide), c 3 (by decide), c 4 (by decide), c 5 (by decide), c 6 (by decide), c 7 (by decide), c 8 (by decide), c 9 (by decide), c 10 (by decide), c 11 (by decide)⟩
theorem tab_of_laid {W : World} (h : laidMetH Tryd.prog laid1 W) : Tab W := by
  rw [MakeChecks.laidMetH_plain _ _ _ (by kernel_rfl)] at h
  exact tab_of h
theorem tab_of_laid4 {W : World} (h : laidMetH Tryd.prog laid4 W) : Tab W ∧ Pow W := by
  rw [MakeChecks.laidMetH_plain _ _ _ (by kernel_rfl)] at h
  exact ⟨tab_of h.tail.tail.tail, Lib.tabIs_of_head (rest := laid1) gPow tPow und65 und57 cells57 cells65 h.tail.tail⟩
end Go.Proofs.YtenlgmjlblggmaaDoor
