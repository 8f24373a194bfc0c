/-
  NARROWER THAN 'FOR EVERY INPUT', by the rows' own cells (each row's printed sentence says how): FnExactDateOk: laid · FnExactDayOf: laid · FnExactDateOf: laid · FnExactMonthEnd: laid · FnDays: laid.
  DERIVED. THE GIVEN ROWS OF THIS SEAT. 5 by the template 'for every input the law returns true; each argument reads behind the call as it read before'; 0 by the template 'total and deterministic' (their statements: YtjdpaednagingaaDoorTotals.lean).
  GIVEN WITH THE SEED: the statements are not yours to turn. If you find one false, say at which input.
  Laid BY PROGRAM, IN A SANDBOX (cutbox-rows.mjs): the forced cells as the released guide's own fill.sh prints them over the translation e619f02e76a43670… (all of the seat's roots in one cut). By AI agents, Wed Nov 11 2026. No macro, syntax, notation, axiom, sorry.
-/
import Derived.Test.YtjdpaednagingaaDoorChecked
import GoSem.Claim
import GoSem.ClaimJoined
import GoSem.ClaimMapViews
import Derived.JoinedTies
import Derived.KernelRfl
namespace Go.Proofs.YtjdpaednagingaaDoor
/- THE CELL 'sum', in the pinned program and in every row, IS THE sha256 OF THE DUMP (.gsa) THAT YtjdpaednagingaaDoorProg.lean LOADS. Nothing in Lean hashes anything: it is a label: what it is worth is what the hold of that sum in a sandbox is worth. -/
noncomputable def Tryd.pinned : Pinned := { name := "ytjdpaednagingaadoor", sum := "e619f02e76a43670d18a3d2701e6b83a4b380c3f33cb4cc9193652eb7a821846", checked := Tryd.checked }
namespace Rows
def none {H : Type} : Left H := { results := [], args := [] }

/- WHAT THE LISTED PACKAGE-LEVEL VARIABLES READ AS WHEN THE CALL BEGINS. Each datum BY PROGRAM (the guide's laid-datum.mjs) off the statement by which the dump's own 'gosem.cut.vars' lays the variable. In a bare row this is a premise. The card (YtjdpaednagingaaDoorCards.lean) ties it to the program's text. -/
def laid_loop_example_g00362_impl_monthLengths {H : Type} : DataW H := .agg [.lit (.int .i64 31), .lit (.int .i64 28), .lit (.int .i64 31), .lit (.int .i64 30), .lit (.int .i64 31), .lit (.int .i64 30), .lit (.int .i64 31), .lit (.int .i64 31), .lit (.int .i64 30), .lit (.int .i64 31), .lit (.int .i64 30), .lit (.int .i64 31)]

/-- 'laws.FnExactDateOk': WHATEVER THE INPUT: true; the input reads as it did. -/
def fnExactDateOkSpec : ChangeSpec := { name := "fnExactDateOk", vars := ["loop.example/g00362/impl.monthLengths"], fn := fun _ => fun
  | [d, g1] => { results := [.lit (.bool true)], args := [d], vars := [g1] }
  | _ => none }
def fnExactDateOkRow : OpenClaim := { program := "ytjdpaednagingaadoor", sum := "e619f02e76a43670d18a3d2701e6b83a4b380c3f33cb4cc9193652eb7a821846", func := "loop.example/g00362/laws.FnExactDateOk", spec := "fnExactDateOk", named := ["loop.example/g00362/impl.monthLengths"], apart := false, laid := [("loop.example/g00362/impl.monthLengths", laid_loop_example_g00362_impl_monthLengths)] }
def FnExactDateOkSaid : Prop := fnExactDateOkRow.holds Tryd.pinned (OpenSpec.ofChange fnExactDateOkSpec)

/-- ITS FALSE NEIGHBOUR: 'it returns false'. Refute it at one input. -/
def fnExactDateOkWrong : ChangeSpec := { name := "fnExactDateOk", vars := ["loop.example/g00362/impl.monthLengths"], fn := fun _ => fun
  | [d, g1] => { results := [.lit (.bool false)], args := [d], vars := [g1] }
  | _ => none }
def FnExactDateOkWrongFalsely : Prop := fnExactDateOkRow.holds Tryd.pinned (OpenSpec.ofChange fnExactDateOkWrong)

/-- 'laws.FnExactDayOf': WHATEVER THE INPUT: true; the input reads as it did. -/
def fnExactDayOfSpec : ChangeSpec := { name := "fnExactDayOf", vars := ["loop.example/g00362/impl.monthLengths"], fn := fun _ => fun
  | [d, g1] => { results := [.lit (.bool true)], args := [d], vars := [g1] }
  | _ => none }
def fnExactDayOfRow : OpenClaim := { program := "ytjdpaednagingaadoor", sum := "e619f02e76a43670d18a3d2701e6b83a4b380c3f33cb4cc9193652eb7a821846", func := "loop.example/g00362/laws.FnExactDayOf", spec := "fnExactDayOf", named := ["loop.example/g00362/impl.monthLengths"], apart := false, laid := [("loop.example/g00362/impl.monthLengths", laid_loop_example_g00362_impl_monthLengths)] }
def FnExactDayOfSaid : Prop := fnExactDayOfRow.holds Tryd.pinned (OpenSpec.ofChange fnExactDayOfSpec)

/-- ITS FALSE NEIGHBOUR: 'it returns false'. Refute it at one input. -/
def fnExactDayOfWrong : ChangeSpec := { name := "fnExactDayOf", vars := ["loop.example/g00362/impl.monthLengths"], fn := fun _ => fun
  | [d, g1] => { results := [.lit (.bool false)], args := [d], vars := [g1] }
  | _ => none }
def FnExactDayOfWrongFalsely : Prop := fnExactDayOfRow.holds Tryd.pinned (OpenSpec.ofChange fnExactDayOfWrong)

/-- 'laws.FnExactDateOf': WHATEVER THE INPUT: true; the input reads as it did. -/
def fnExactDateOfSpec : ChangeSpec := { name := "fnExactDateOf", vars := ["loop.example/g00362/impl.monthLengths"], fn := fun _ => fun
  | [d, g1] => { results := [.lit (.bool true)], args := [d], vars := [g1] }
  | _ => none }
def fnExactDateOfRow : OpenClaim := { program := "ytjdpaednagingaadoor", sum := "e619f02e76a43670d18a3d2701e6b83a4b380c3f33cb4cc9193652eb7a821846", func := "loop.example/g00362/laws.FnExactDateOf", spec := "fnExactDateOf", named := ["loop.example/g00362/impl.monthLengths"], apart := false, laid := [("loop.example/g00362/impl.monthLengths", laid_loop_example_g00362_impl_monthLengths)] }
def FnExactDateOfSaid : Prop := fnExactDateOfRow.holds Tryd.pinned (OpenSpec.ofChange fnExactDateOfSpec)

/-- ITS FALSE NEIGHBOUR: 'it returns false'. Refute it at one input. -/
def fnExactDateOfWrong : ChangeSpec := { name := "fnExactDateOf", vars := ["loop.example/g00362/impl.monthLengths"], fn := fun _ => fun
  | [d, g1] => { results := [.lit (.bool false)], args := [d], vars := [g1] }
  | _ => none }
def FnExactDateOfWrongFalsely : Prop := fnExactDateOfRow.holds Tryd.pinned (OpenSpec.ofChange fnExactDateOfWrong)

/-- 'laws.FnExactMonthEnd': WHATEVER THE INPUT: true; the input reads as it did. -/
def fnExactMonthEndSpec : ChangeSpec := { name := "fnExactMonthEnd", vars := ["loop.example/g00362/impl.monthLengths"], fn := fun _ => fun
  | [d, g1] => { results := [.lit (.bool true)], args := [d], vars := [g1] }
  | _ => none }
def fnExactMonthEndRow : OpenClaim := { program := "ytjdpaednagingaadoor", sum := "e619f02e76a43670d18a3d2701e6b83a4b380c3f33cb4cc9193652eb7a821846", func := "loop.example/g00362/laws.FnExactMonthEnd", spec := "fnExactMonthEnd", named := ["loop.example/g00362/impl.monthLengths"], apart := false, laid := [("loop.example/g00362/impl.monthLengths", laid_loop_example_g00362_impl_monthLengths)] }
def FnExactMonthEndSaid : Prop := fnExactMonthEndRow.holds Tryd.pinned (OpenSpec.ofChange fnExactMonthEndSpec)

/-- ITS FALSE NEIGHBOUR: 'it returns false'. Refute it at one input. -/
def fnExactMonthEndWrong : ChangeSpec := { name := "fnExactMonthEnd", vars := ["loop.example/g00362/impl.monthLengths"], fn := fun _ => fun
  | [d, g1] => { results := [.lit (.bool false)], args := [d], vars := [g1] }
  | _ => none }
def FnExactMonthEndWrongFalsely : Prop := fnExactMonthEndRow.holds Tryd.pinned (OpenSpec.ofChange fnExactMonthEndWrong)

/-- 'laws.FnDays': WHATEVER THE INPUT: true; the input reads as it did. -/
def fnDaysSpec : ChangeSpec := { name := "fnDays", vars := ["loop.example/g00362/impl.monthLengths"], fn := fun _ => fun
  | [d, g1] => { results := [.lit (.bool true)], args := [d], vars := [g1] }
  | _ => none }
def fnDaysRow : OpenClaim := { program := "ytjdpaednagingaadoor", sum := "e619f02e76a43670d18a3d2701e6b83a4b380c3f33cb4cc9193652eb7a821846", func := "loop.example/g00362/laws.FnDays", spec := "fnDays", named := ["loop.example/g00362/impl.monthLengths"], apart := false, laid := [("loop.example/g00362/impl.monthLengths", laid_loop_example_g00362_impl_monthLengths)] }
def FnDaysSaid : Prop := fnDaysRow.holds Tryd.pinned (OpenSpec.ofChange fnDaysSpec)

/-- ITS FALSE NEIGHBOUR: 'it returns false'. Refute it at one input. -/
def fnDaysWrong : ChangeSpec := { name := "fnDays", vars := ["loop.example/g00362/impl.monthLengths"], fn := fun _ => fun
  | [d, g1] => { results := [.lit (.bool false)], args := [d], vars := [g1] }
  | _ => none }
def FnDaysWrongFalsely : Prop := fnDaysRow.holds Tryd.pinned (OpenSpec.ofChange fnDaysWrong)

/- THE SECOND FORM. 'bulk': how many values and letters a reading holds, each counted each time it is reached (what is shared counts as often as it is met; a slice's spare places count too). A statement '..UptoSaid' is the law's where the arguments, and the package variables that the reading takes, are together of bulk at most 1048576: NARROWER than '..Said'. Prove '..Said' where nothing that the law and all that it calls make is longer than what came in: it says more and counts as full. Else prove '..UptoSaid'. A law counts once. -/
mutual
def uptoBulk {H : Type} : DataW H → Nat
  | .lit (.string bytes) => bytes.length + 1
  | .lit _ => 1
  | .nil => 1
  | .ptr d => uptoBulk d + 1
  | .slice elems spare => uptoBulkAll elems + uptoBulkAll spare + 1
  | .agg parts => uptoBulkAll parts + 1
  | .iface _ d => uptoBulk d + 1
  | .map entries => uptoBulkEntries entries + 1
  | .held _ => 1
def uptoBulkAll {H : Type} : List (DataW H) → Nat
  | [] => 0
  | d :: r => uptoBulk d + uptoBulkAll r
def uptoBulkEntries {H : Type} : List (Lit × DataW H) → Nat
  | [] => 0
  | x :: r => uptoBulkEntry x + uptoBulkEntries r
def uptoBulkEntry {H : Type} : Lit × DataW H → Nat
  | (.string bytes, d) => bytes.length + uptoBulk d + 1
  | (_, d) => uptoBulk d + 1
 end
def uptoSmall : (H : Type) → List (DataW H) → Bool := fun _ ds => decide (uptoBulkAll ds ≤ 1048576)
def OpenSpec.upto (s : _root_.Go.ChangeSpec) : _root_.Go.OpenSpec := { _root_.Go.OpenSpec.ofChange s with cond := some uptoSmall }

/-- 'laws.FnExactDateOk', WHERE WHAT IT READS IS OF BULK AT MOST 1048576: true; the input reads as it did. -/
def fnExactDateOkUptoRow : OpenClaim := { program := "ytjdpaednagingaadoor", sum := "e619f02e76a43670d18a3d2701e6b83a4b380c3f33cb4cc9193652eb7a821846", func := "loop.example/g00362/laws.FnExactDateOk", spec := "fnExactDateOk", named := ["loop.example/g00362/impl.monthLengths"], apart := false, laid := [("loop.example/g00362/impl.monthLengths", laid_loop_example_g00362_impl_monthLengths)], narrowed := true }
def FnExactDateOkUptoSaid : Prop := fnExactDateOkUptoRow.holds Tryd.pinned (OpenSpec.upto fnExactDateOkSpec)

/-- 'laws.FnExactDayOf', WHERE WHAT IT READS IS OF BULK AT MOST 1048576: true; the input reads as it did. -/
def fnExactDayOfUptoRow : OpenClaim := { program := "ytjdpaednagingaadoor", sum := "e619f02e76a43670d18a3d2701e6b83a4b380c3f33cb4cc9193652eb7a821846", func := "loop.example/g00362/laws.FnExactDayOf", spec := "fnExactDayOf", named := ["loop.example/g00362/impl.monthLengths"], apart := false, laid := [("loop.example/g00362/impl.monthLengths", laid_loop_example_g00362_impl_monthLengths)], narrowed := true }
def FnExactDayOfUptoSaid : Prop := fnExactDayOfUptoRow.holds Tryd.pinned (OpenSpec.upto fnExactDayOfSpec)

/-- 'laws.FnExactDateOf', WHERE WHAT IT READS IS OF BULK AT MOST 1048576: true; the input reads as it did. -/
def fnExactDateOfUptoRow : OpenClaim := { program := "ytjdpaednagingaadoor", sum := "e619f02e76a43670d18a3d2701e6b83a4b380c3f33cb4cc9193652eb7a821846", func := "loop.example/g00362/laws.FnExactDateOf", spec := "fnExactDateOf", named := ["loop.example/g00362/impl.monthLengths"], apart := false, laid := [("loop.example/g00362/impl.monthLengths", laid_loop_example_g00362_impl_monthLengths)], narrowed := true }
def FnExactDateOfUptoSaid : Prop := fnExactDateOfUptoRow.holds Tryd.pinned (OpenSpec.upto fnExactDateOfSpec)

/-- 'laws.FnExactMonthEnd', WHERE WHAT IT READS IS OF BULK AT MOST 1048576: true; the input reads as it did. -/
def fnExactMonthEndUptoRow : OpenClaim := { program := "ytjdpaednagingaadoor", sum := "e619f02e76a43670d18a3d2701e6b83a4b380c3f33cb4cc9193652eb7a821846", func := "loop.example/g00362/laws.FnExactMonthEnd", spec := "fnExactMonthEnd", named := ["loop.example/g00362/impl.monthLengths"], apart := false, laid := [("loop.example/g00362/impl.monthLengths", laid_loop_example_g00362_impl_monthLengths)], narrowed := true }
def FnExactMonthEndUptoSaid : Prop := fnExactMonthEndUptoRow.holds Tryd.pinned (OpenSpec.upto fnExactMonthEndSpec)

/-- 'laws.FnDays', WHERE WHAT IT READS IS OF BULK AT MOST 1048576: true; the input reads as it did. -/
def fnDaysUptoRow : OpenClaim := { program := "ytjdpaednagingaadoor", sum := "e619f02e76a43670d18a3d2701e6b83a4b380c3f33cb4cc9193652eb7a821846", func := "loop.example/g00362/laws.FnDays", spec := "fnDays", named := ["loop.example/g00362/impl.monthLengths"], apart := false, laid := [("loop.example/g00362/impl.monthLengths", laid_loop_example_g00362_impl_monthLengths)], narrowed := true }
def FnDaysUptoSaid : Prop := fnDaysUptoRow.holds Tryd.pinned (OpenSpec.upto fnDaysSpec)

end Rows
end Go.Proofs.YtjdpaednagingaaDoor
