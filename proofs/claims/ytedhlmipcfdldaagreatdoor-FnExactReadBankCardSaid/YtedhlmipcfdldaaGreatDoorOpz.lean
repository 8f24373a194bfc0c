/- What is laid of the library's tables and of the errors, for a walk. Conditions: the row's cell 'laid' is met. -/
import Derived.Test.YtedhlmipcfdldaaGreatDoorLrz
import Derived.Test.YtedhlmipcfdldaaGreatDoorRows
import Derived.ProofKit
import Derived.LaidMore
import Derived.OpenShut
import Derived.OpenVars
import Derived.LaidLaws
import Derived.Stop.Joined
import Derived.Stop.LaidErr
import Derived.Lib.LaidTab
import Derived.MakeChecks
namespace Go.Proofs.YtedhlmipcfdldaaGreatDoor
open Go.ChangeShapes Go.WideShapes Go.ChangeAt Go.RowKit
set_option maxRecDepth 8000
theorem own : ownKnob Tryz.prog.godebug = none := by kernel_rfl
theorem laidOut : laidOutB Tryz.prog = true := by kernel_rfl
theorem tPow : (Tryz.prog.globals[3]?).map (·.type) = some 127 := by kernel_rfl
theorem cellsPow : Tryz.prog.cellsOf 127 = 20 := by kernel_rfl
theorem undPow : Tryz.prog.underlying 127 = some (.array 20 104) := by kernel_rfl
theorem undU : Tryz.prog.underlying 104 = some (.int .u64) := by kernel_rfl
theorem cellsU : Tryz.prog.cellsOf 104 = 1 := by kernel_rfl
theorem rowed : varsRowed Tryz.prog ["loop.example/g00362/impl.errText"] = true := by kernel_rfl
theorem g_star : "*" ++ "errors.errorString" = "*errors.errorString" := by decide
theorem g_row (u : TypeId) (h : Tryz.prog.typeName? 3 u = some "*errors.errorString") : u = 132 :=
  typeName_ptr_named (nm := "errors.errorString") (by rw [g_star]; kernel_rfl) (by kernel_rfl) (by decide) u (by rw [g_star]; exact h)
theorem g_te : Tryz.prog.cellsOf 134 = 1 := by kernel_rfl
theorem g_cs : Tryz.prog.cellsOf 9 = 1 := by kernel_rfl
theorem err_head {W : World} {name : String} {bs : List UInt8} {rest : List (String × DataW Unit)} {g : Nat} (hg : Tryz.prog.globalNamed name = some g) (hty : (Tryz.prog.globals[g]?).map (·.type) = some 71) (h : laidMet Tryz.prog ((name, .iface "*errors.errorString" (.ptr (.agg [.lit (.string bs)]))) :: rest) W) : ∃ t p, W.cell? ⟨g, 0, none⟩ = some (.iface t p) := by
  obtain ⟨ps, ⟨g', t', cs, f, p, q, hg', ht', hv, hd, _, e0⟩, hnd, hrows⟩ := h
  obtain rfl := Option.some.inj (hg.symm.trans hg')
  obtain rfl := Option.some.inj (hty.symm.trans ht')
  subst e0
  obtain ⟨l⟩ := cs
  have ok : ∀ u v, l = [.iface u v] → Value.okWide Tryz.prog W .any 0 u v := fun u v e => by
    subst e
    exact (hrows g 0 (by simp [MemPlace.row])).2 u v (by simpa using World.var?_cell hg' hv 0)
  obtain ⟨a0, s0, rfl, hc0, hs0, hz0, rfl⟩ := errorString_of_trod Tryz.underlying71 g_row Tryz.underlying132 Tryz.underlying134 rfl rfl Tryz.underlying9 g_te g_cs hd ok
  exact ⟨_, _, by simpa using World.var?_cell hg' hv 0⟩
/-- The list of what is laid. -/
def laid6 : List (String × DataW Unit) := [("math/bits.deBruijn32tab", Rows.laid_math_bits_deBruijn32tab), ("math/bits.deBruijn64tab", Rows.laid_math_bits_deBruijn64tab), ("internal/strconv.uint64pow10", Rows.laid_internal_strconv_uint64pow10), ("strconv.ErrRange", Rows.laid_strconv_ErrRange), ("strconv.ErrSyntax", Rows.laid_strconv_ErrSyntax), ("loop.example/g00362/impl.errText", Rows.laid_loop_example_g00362_impl_errText)]
theorem door_met6 (os : Os) (args : Array Value) : laidMetH Tryz.prog laid6 ((World.doorLaid Tryz.prog 400 os).forCall (fun _ _ => 0) ⟨#[], args, []⟩).memory :=
  laidMetH_of_parts3 (fuel := 8) (laidMet_of_run' 8 (by kernel_rfl) (by kernel_rfl)) (by kernel_rfl) (by kernel_rfl)
theorem g_tab6 : Tryz.prog.globalNamed "math/bits.deBruijn64tab" = some 6 := by kernel_rfl
theorem glo_of_laid6 {W : World} (h : laidMetH Tryz.prog laid6 W) : Glo W := by
  rw [MakeChecks.laidMetH_plain _ _ _ (by kernel_rfl)] at h
  refine ⟨err_head (by kernel_rfl) (by kernel_rfl) h.tail.tail.tail.tail.tail, err_head (by kernel_rfl) (by kernel_rfl) h.tail.tail.tail.tail, err_head (by kernel_rfl) (by kernel_rfl) h.tail.tail.tail, Lib.tabIs_of_head gPow tPow undPow undU cellsU cellsPow h.tail.tail, ?_⟩
  obtain ⟨ps, ⟨g', t', cs, f, p, q, hg', ht', hv, _⟩, _⟩ := h.tail
  obtain rfl := Option.some.inj (g_tab6.symm.trans hg')
  unfold World.var? at hv
  rcases Nat.lt_or_ge 6 W.heap.size with h' | h'
  · exact h'
  · rw [g_tab6] at hv
    simp only [Option.bind_some] at hv
    rw [Array.getElem?_eq_none h'] at hv
    cases hv
end Go.Proofs.YtedhlmipcfdldaaGreatDoor
