/- What the condition on the table of months gives the walks, and that the program's own start meets it. No conditions of its own. -/
import Derived.Test.YtjdpaednagingaaDoorTwo
import Derived.ProofKit
import Derived.LaidMore
import Derived.OpenShut
import Derived.OpenVars
import Derived.Stop.Joined
import Derived.Lib.LaidTab
import Derived.MakeChecks
namespace Go.Proofs.YtjdpaednagingaaDoor
open Go.ChangeShapes Go.WideShapes Go.ChangeAt Go.RowKit

theorem own : ownKnob Tryd.prog.godebug = none := by kernel_rfl
theorem laidOut : laidOutB Tryd.prog = true := by kernel_rfl
theorem gMonths : Tryd.prog.globalNamed "loop.example/g00362/impl.monthLengths" = some 0 := by kernel_rfl
theorem tMonths : (Tryd.prog.globals[0]?).map (·.type) = some 48 := by kernel_rfl
theorem cells48 : Tryd.prog.cellsOf 48 = 12 := by kernel_rfl
theorem cells2 : Tryd.prog.cellsOf 2 = 1 := by kernel_rfl
theorem rowed : varsRowed Tryd.prog ["loop.example/g00362/impl.monthLengths"] = true := by kernel_rfl

/-- The list of what is laid. -/
def laid1 : List (String × DataW Unit) := [("loop.example/g00362/impl.monthLengths", Rows.laid_loop_example_g00362_impl_monthLengths)]

theorem door_met (os : Os) (args : Array Value) : laidMetH Tryd.prog laid1 ((World.doorLaid Tryd.prog 400 os).forCall (fun _ _ => 0) ⟨#[], args, []⟩).memory :=
  laidMetH_of_parts3 (fuel := 8) (laidMet_of_run' 8 (by kernel_rfl) (by kernel_rfl)) (by kernel_rfl) (by kernel_rfl)

theorem tab_of_laid {W : World} (h : laidMetH Tryd.prog laid1 W) : Tab W := by
  rw [MakeChecks.laidMetH_plain _ _ _ (by kernel_rfl)] at h
  have hT : Lib.TabIs Tryd.prog W "loop.example/g00362/impl.monthLengths" .i64 [31, 28, 31, 30, 31, 30, 31, 31, 30, 31, 30, 31] :=
    Lib.tabIs_of_head (rest := []) gMonths tMonths Tryd.underlying48 Tryd.underlying2 cells2 cells48 h
  have c := fun i hi => hT.cell gMonths i hi
  have hz : 0 < W.heap.size := by
    have h0 := c 0 (by decide)
    by_cases hn : W.heap.size = 0
    · have e : W.heap[0]? = none := by simp [hn]
      simp [World.cell?, e] at h0
    · omega
  exact ⟨hz, c 0 (by decide), c 1 (by decide), c 2 (by decide), c 3 (by decide), c 4 (by decide), c 5 (by decide), c 6 (by decide), c 7 (by decide), c 8 (by decide), c 9 (by decide), c 10 (by decide), c 11 (by decide)⟩
end Go.Proofs.YtjdpaednagingaaDoor
