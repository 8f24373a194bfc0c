/-
  NARROWER THAN 'FOR EVERY INPUT', by the rows' own cells (each row's printed sentence says how): FnExactDone: ifaces, laid.
  DERIVED. THE GIVEN ROWS OF THIS SEAT. 1 by the template 'for every input the law returns true; each argument reads behind the call as it read before'; 0 by the template 'total and deterministic' (their statements: YthkgppfgidlicaaDoorTotals.lean).
  GIVEN WITH THE SEED: the statements are not yours to turn. If you find one false, say at which input.
  Laid BY PROGRAM, IN A SANDBOX (cutbox-rows.mjs): the forced cells as the released guide's own fill.sh prints them over the translation eaa022df74276bdd… (all of the seat's roots in one cut). By AI agents, Wed Nov 11 2026. No macro, syntax, notation, axiom, sorry.
-/
import Derived.Test.YthkgppfgidlicaaDoorChecked
import GoSem.Claim
import GoSem.ClaimJoined
import GoSem.ClaimMapViews
import Derived.JoinedTies
import Derived.KernelRfl
namespace Go.Proofs.YthkgppfgidlicaaDoor
/- THE CELL 'sum', in the pinned program and in every row, IS THE sha256 OF THE DUMP (.gsa) THAT YthkgppfgidlicaaDoorProg.lean LOADS. Nothing in Lean hashes anything: it is a label: what it is worth is what the hold of that sum in a sandbox is worth. -/
noncomputable def Tryd.pinned : Pinned := { name := "ythkgppfgidlicaadoor", sum := "eaa022df74276bddd39cf23bf5c219130c81cddae6f0d39d4d8601a105dd9b27", checked := Tryd.checked }
namespace Rows
def none {H : Type} : Left H := { results := [], args := [] }

/- WHAT THE LISTED PACKAGE-LEVEL VARIABLES READ AS WHEN THE CALL BEGINS. Each datum BY PROGRAM (the guide's laid-datum.mjs) off the statement by which the dump's own 'gosem.cut.vars' lays the variable. In a bare row this is a premise. The card (YthkgppfgidlicaaDoorCards.lean) ties it to the program's text. -/
def laid_errors_errorType {H : Type} : DataW H := .iface "internal/reflectlite.rtype" (.agg [.ptr (.lit (.string [101, 114, 114, 111, 114]))])
def laid_loop_example_g00362_impl_errForm {H : Type} : DataW H := .iface "*errors.errorString" (.ptr (.agg [.lit (.string [116, 104, 101, 32, 111, 112, 32, 105, 115, 32, 110, 111, 116, 32, 114, 105, 103, 104, 116])]))
def laid_loop_example_g00362_impl_errNone {H : Type} : DataW H := .iface "*errors.errorString" (.ptr (.agg [.lit (.string [116, 104, 101, 114, 101, 32, 105, 115, 32, 110, 111, 32, 115, 117, 99, 104, 32, 97, 99, 99, 111, 117, 110, 116])]))
def laid_loop_example_g00362_impl_errThere {H : Type} : DataW H := .iface "*errors.errorString" (.ptr (.agg [.lit (.string [116, 104, 101, 114, 101, 32, 105, 115, 32, 115, 117, 99, 104, 32, 97, 110, 32, 97, 99, 99, 111, 117, 110, 116])]))
def laid_loop_example_g00362_impl_errFrozen {H : Type} : DataW H := .iface "*errors.errorString" (.ptr (.agg [.lit (.string [102, 114, 111, 122, 101, 110, 44, 32, 111, 114, 32, 110, 111, 116, 32, 119, 104, 101, 114, 101, 32, 105, 116, 32, 105, 115, 32, 116, 111, 32, 98, 101, 32, 116, 104, 97, 119, 101, 100])]))
def laid_loop_example_g00362_impl_errShort {H : Type} : DataW H := .iface "*errors.errorString" (.ptr (.agg [.lit (.string [97, 32, 108, 105, 109, 105, 116, 32, 119, 111, 117, 108, 100, 32, 98, 101, 32, 112, 97, 115, 115, 101, 100])]))
def laid_loop_example_g00362_impl_errFull {H : Type} : DataW H := .iface "*errors.errorString" (.ptr (.agg [.lit (.string [119, 104, 97, 116, 32, 99, 111, 109, 101, 115, 32, 111, 102, 32, 105, 116, 32, 105, 115, 32, 110, 111, 116, 32, 114, 105, 103, 104, 116])]))
def laid_loop_example_g00362_impl_errBusy {H : Type} : DataW H := .iface "*errors.errorString" (.ptr (.agg [.lit (.string [97, 32, 114, 111, 111, 116, 44, 32, 105, 116, 115, 32, 107, 105, 100, 115, 32, 111, 114, 32, 119, 104, 97, 116, 32, 105, 116, 32, 104, 97, 115, 32, 105, 115, 32, 105, 110, 32, 116, 104, 101, 32, 119, 97, 121])]))

/-- 'laws.FnExactDone': WHATEVER THE INPUT: true; the input reads as it did. -/
def fnExactDoneSpec : ChangeSpec := { name := "fnExactDone", vars := ["loop.example/g00362/impl.errForm", "loop.example/g00362/impl.errFull", "loop.example/g00362/impl.errNone", "loop.example/g00362/impl.errThere", "loop.example/g00362/impl.errFrozen", "loop.example/g00362/impl.errShort", "loop.example/g00362/impl.errBusy"], fn := fun _ => fun
  | [d1, d2, g1, g2, g3, g4, g5, g6, g7] => { results := [.lit (.bool true)], args := [d1, d2], vars := [g1, g2, g3, g4, g5, g6, g7] }
  | _ => none }
def fnExactDoneRow : OpenClaim := { program := "ythkgppfgidlicaadoor", sum := "eaa022df74276bddd39cf23bf5c219130c81cddae6f0d39d4d8601a105dd9b27", func := "loop.example/g00362/laws.FnExactDone", spec := "fnExactDone", inPlace := ["slices.overlaps[loop.example/g00362/impl.Account]", "internal/reflectlite.ValueOf", "(internal/reflectlite.Value).Type", "(internal/reflectlite.Value).IsNil", "internal/reflectlite.TypeOf", "(internal/reflectlite.Value).Elem", "(internal/reflectlite.Value).Set"], unfollowed := true, recurses := true, named := ["loop.example/g00362/impl.errForm", "loop.example/g00362/impl.errFull", "loop.example/g00362/impl.errNone", "loop.example/g00362/impl.errThere", "loop.example/g00362/impl.errFrozen", "loop.example/g00362/impl.errShort", "loop.example/g00362/impl.errBusy", "errors.errorType"], ifaces := true, apart := false, laid := [("errors.errorType", laid_errors_errorType), ("loop.example/g00362/impl.errForm", laid_loop_example_g00362_impl_errForm), ("loop.example/g00362/impl.errNone", laid_loop_example_g00362_impl_errNone), ("loop.example/g00362/impl.errThere", laid_loop_example_g00362_impl_errThere), ("loop.example/g00362/impl.errFrozen", laid_loop_example_g00362_impl_errFrozen), ("loop.example/g00362/impl.errShort", laid_loop_example_g00362_impl_errShort), ("loop.example/g00362/impl.errFull", laid_loop_example_g00362_impl_errFull), ("loop.example/g00362/impl.errBusy", laid_loop_example_g00362_impl_errBusy)] }
def FnExactDoneSaid : Prop := fnExactDoneRow.holds Tryd.pinned (OpenSpec.ofChange fnExactDoneSpec)

/-- ITS FALSE NEIGHBOUR: 'it returns false'. Refute it at one input. -/
def fnExactDoneWrong : ChangeSpec := { name := "fnExactDone", vars := ["loop.example/g00362/impl.errForm", "loop.example/g00362/impl.errFull", "loop.example/g00362/impl.errNone", "loop.example/g00362/impl.errThere", "loop.example/g00362/impl.errFrozen", "loop.example/g00362/impl.errShort", "loop.example/g00362/impl.errBusy"], fn := fun _ => fun
  | [d1, d2, g1, g2, g3, g4, g5, g6, g7] => { results := [.lit (.bool false)], args := [d1, d2], vars := [g1, g2, g3, g4, g5, g6, g7] }
  | _ => none }
def FnExactDoneWrongFalsely : Prop := fnExactDoneRow.holds Tryd.pinned (OpenSpec.ofChange fnExactDoneWrong)

/- THE SECOND FORM. 'bulk': how many values and letters a reading holds, each counted each time it is reached (what is shared counts as often as it is met; a slice's spare places count too). A statement '..UptoSaid' is the law's where the arguments, and the package variables that the reading takes, are together of bulk at most 1048576: NARROWER than '..Said'. Prove '..Said' where nothing that the law and all that it calls make is longer than what came in: it says more and counts as full. Else prove '..UptoSaid'. A law counts once. -/
mutual
def uptoBulk {H : Type} : DataW H → Nat
  | .lit (.string bytes) => bytes.length + 1
  | .lit _ => 1
  | .nil => 1
  | .ptr d => uptoBulk d + 1
  | .slice elems spare => uptoBulkAll elems + uptoBulkAll spare + 1
  | .agg parts => uptoBulkAll parts + 1
  | .iface _ d => uptoBulk d + 1
  | .map entries => uptoBulkEntries entries + 1
  | .held _ => 1
def uptoBulkAll {H : Type} : List (DataW H) → Nat
  | [] => 0
  | d :: r => uptoBulk d + uptoBulkAll r
def uptoBulkEntries {H : Type} : List (Lit × DataW H) → Nat
  | [] => 0
  | x :: r => uptoBulkEntry x + uptoBulkEntries r
def uptoBulkEntry {H : Type} : Lit × DataW H → Nat
  | (.string bytes, d) => bytes.length + uptoBulk d + 1
  | (_, d) => uptoBulk d + 1
 end
def uptoSmall : (H : Type) → List (DataW H) → Bool := fun _ ds => decide (uptoBulkAll ds ≤ 1048576)
def OpenSpec.upto (s : _root_.Go.ChangeSpec) : _root_.Go.OpenSpec := { _root_.Go.OpenSpec.ofChange s with cond := some uptoSmall }

/-- 'laws.FnExactDone', WHERE WHAT IT READS IS OF BULK AT MOST 1048576: true; the input reads as it did. -/
def fnExactDoneUptoRow : OpenClaim := { program := "ythkgppfgidlicaadoor", sum := "eaa022df74276bddd39cf23bf5c219130c81cddae6f0d39d4d8601a105dd9b27", func := "loop.example/g00362/laws.FnExactDone", spec := "fnExactDone", inPlace := ["slices.overlaps[loop.example/g00362/impl.Account]", "internal/reflectlite.ValueOf", "(internal/reflectlite.Value).Type", "(internal/reflectlite.Value).IsNil", "internal/reflectlite.TypeOf", "(internal/reflectlite.Value).Elem", "(internal/reflectlite.Value).Set"], unfollowed := true, recurses := true, named := ["loop.example/g00362/impl.errForm", "loop.example/g00362/impl.errFull", "loop.example/g00362/impl.errNone", "loop.example/g00362/impl.errThere", "loop.example/g00362/impl.errFrozen", "loop.example/g00362/impl.errShort", "loop.example/g00362/impl.errBusy", "errors.errorType"], ifaces := true, apart := false, laid := [("errors.errorType", laid_errors_errorType), ("loop.example/g00362/impl.errForm", laid_loop_example_g00362_impl_errForm), ("loop.example/g00362/impl.errNone", laid_loop_example_g00362_impl_errNone), ("loop.example/g00362/impl.errThere", laid_loop_example_g00362_impl_errThere), ("loop.example/g00362/impl.errFrozen", laid_loop_example_g00362_impl_errFrozen), ("loop.example/g00362/impl.errShort", laid_loop_example_g00362_impl_errShort), ("loop.example/g00362/impl.errFull", laid_loop_example_g00362_impl_errFull), ("loop.example/g00362/impl.errBusy", laid_loop_example_g00362_impl_errBusy)], narrowed := true }
def FnExactDoneUptoSaid : Prop := fnExactDoneUptoRow.holds Tryd.pinned (OpenSpec.upto fnExactDoneSpec)

end Rows
end Go.Proofs.YthkgppfgidlicaaDoor
