/-
  No cell of these rows narrows 'for every input' (looked for: loops, veiled, ifaces, maps, wideKeys, modest, calm, conditions, laid).
  DERIVED. THE GIVEN ROWS OF THIS SEAT. 10 by the template 'for every input the law returns true; each argument reads behind the call as it read before'; 0 by the template 'total and deterministic' (their statements: YtlndklendejjdaaTotals.lean).
  GIVEN WITH THE SEED: the statements are not yours to turn. If you find one false, say at which input.
  Laid BY PROGRAM, IN A SANDBOX (cutbox-rows.mjs): the forced cells as the released guide's own fill.sh prints them over the translation b9b9ee1cc33d2c48… (all of the seat's roots in one cut). By AI agents, Wed Nov 11 2026. No macro, syntax, notation, axiom, sorry.
-/
import Derived.Test.YtlndklendejjdaaChecked
import GoSem.Claim
import GoSem.ClaimJoined
import GoSem.ClaimMapViews
import Derived.JoinedTies
import Derived.KernelRfl
namespace Go.Proofs.Ytlndklendejjdaa
/- THE CELL 'sum', in the pinned program and in every row, IS THE sha256 OF THE DUMP (.gsa) THAT YtlndklendejjdaaProg.lean LOADS. Nothing in Lean hashes anything: it is a label: what it is worth is what the hold of that sum in a sandbox is worth. -/
noncomputable def Try.pinned : Pinned := { name := "ytlndklendejjdaa", sum := "b9b9ee1cc33d2c488c470404f6da9f6436ec5722679340b900890a6491ff1de9", checked := Try.checked }
namespace Rows
def none {H : Type} : Left H := { results := [], args := [] }

/-- 'laws.FnExactOrderOk': WHATEVER THE INPUT: true; the input reads as it did. -/
def fnExactOrderOkSpec : ChangeSpec := { name := "fnExactOrderOk", fn := fun _ => fun
  | [d] => { results := [.lit (.bool true)], args := [d] }
  | _ => none }
def fnExactOrderOkRow : OpenClaim := { program := "ytlndklendejjdaa", sum := "b9b9ee1cc33d2c488c470404f6da9f6436ec5722679340b900890a6491ff1de9", func := "loop.example/g00362/laws.FnExactOrderOk", spec := "fnExactOrderOk", apart := false }
def FnExactOrderOkSaid : Prop := fnExactOrderOkRow.holds Try.pinned (OpenSpec.ofChange fnExactOrderOkSpec)

/-- ITS FALSE NEIGHBOUR: 'it returns false'. Refute it at one input. -/
def fnExactOrderOkWrong : ChangeSpec := { name := "fnExactOrderOk", fn := fun _ => fun
  | [d] => { results := [.lit (.bool false)], args := [d] }
  | _ => none }
def FnExactOrderOkWrongFalsely : Prop := fnExactOrderOkRow.holds Try.pinned (OpenSpec.ofChange fnExactOrderOkWrong)

/-- 'laws.FnExactOrdersOk': WHATEVER THE INPUT: true; the input reads as it did. -/
def fnExactOrdersOkSpec : ChangeSpec := { name := "fnExactOrdersOk", fn := fun _ => fun
  | [d] => { results := [.lit (.bool true)], args := [d] }
  | _ => none }
def fnExactOrdersOkRow : OpenClaim := { program := "ytlndklendejjdaa", sum := "b9b9ee1cc33d2c488c470404f6da9f6436ec5722679340b900890a6491ff1de9", func := "loop.example/g00362/laws.FnExactOrdersOk", spec := "fnExactOrdersOk", apart := false }
def FnExactOrdersOkSaid : Prop := fnExactOrdersOkRow.holds Try.pinned (OpenSpec.ofChange fnExactOrdersOkSpec)

/-- ITS FALSE NEIGHBOUR: 'it returns false'. Refute it at one input. -/
def fnExactOrdersOkWrong : ChangeSpec := { name := "fnExactOrdersOk", fn := fun _ => fun
  | [d] => { results := [.lit (.bool false)], args := [d] }
  | _ => none }
def FnExactOrdersOkWrongFalsely : Prop := fnExactOrdersOkRow.holds Try.pinned (OpenSpec.ofChange fnExactOrdersOkWrong)

/-- 'laws.FnExactIsDue': WHATEVER THE INPUT: true; the input reads as it did. -/
def fnExactIsDueSpec : ChangeSpec := { name := "fnExactIsDue", fn := fun _ => fun
  | [d1, d2] => { results := [.lit (.bool true)], args := [d1, d2] }
  | _ => none }
def fnExactIsDueRow : OpenClaim := { program := "ytlndklendejjdaa", sum := "b9b9ee1cc33d2c488c470404f6da9f6436ec5722679340b900890a6491ff1de9", func := "loop.example/g00362/laws.FnExactIsDue", spec := "fnExactIsDue", unfollowed := true, recurses := true, apart := false }
def FnExactIsDueSaid : Prop := fnExactIsDueRow.holds Try.pinned (OpenSpec.ofChange fnExactIsDueSpec)

/-- ITS FALSE NEIGHBOUR: 'it returns false'. Refute it at one input. -/
def fnExactIsDueWrong : ChangeSpec := { name := "fnExactIsDue", fn := fun _ => fun
  | [d1, d2] => { results := [.lit (.bool false)], args := [d1, d2] }
  | _ => none }
def FnExactIsDueWrongFalsely : Prop := fnExactIsDueRow.holds Try.pinned (OpenSpec.ofChange fnExactIsDueWrong)

/-- 'laws.FnExactDueOn': WHATEVER THE INPUT: true; the input reads as it did. -/
def fnExactDueOnSpec : ChangeSpec := { name := "fnExactDueOn", fn := fun _ => fun
  | [d1, d2] => { results := [.lit (.bool true)], args := [d1, d2] }
  | _ => none }
def fnExactDueOnRow : OpenClaim := { program := "ytlndklendejjdaa", sum := "b9b9ee1cc33d2c488c470404f6da9f6436ec5722679340b900890a6491ff1de9", func := "loop.example/g00362/laws.FnExactDueOn", spec := "fnExactDueOn", unfollowed := true, recurses := true, apart := false }
def FnExactDueOnSaid : Prop := fnExactDueOnRow.holds Try.pinned (OpenSpec.ofChange fnExactDueOnSpec)

/-- ITS FALSE NEIGHBOUR: 'it returns false'. Refute it at one input. -/
def fnExactDueOnWrong : ChangeSpec := { name := "fnExactDueOn", fn := fun _ => fun
  | [d1, d2] => { results := [.lit (.bool false)], args := [d1, d2] }
  | _ => none }
def FnExactDueOnWrongFalsely : Prop := fnExactDueOnRow.holds Try.pinned (OpenSpec.ofChange fnExactDueOnWrong)

/-- 'laws.FnExactNextDue': WHATEVER THE INPUT: true; the input reads as it did. -/
def fnExactNextDueSpec : ChangeSpec := { name := "fnExactNextDue", fn := fun _ => fun
  | [d1, d2] => { results := [.lit (.bool true)], args := [d1, d2] }
  | _ => none }
def fnExactNextDueRow : OpenClaim := { program := "ytlndklendejjdaa", sum := "b9b9ee1cc33d2c488c470404f6da9f6436ec5722679340b900890a6491ff1de9", func := "loop.example/g00362/laws.FnExactNextDue", spec := "fnExactNextDue", unfollowed := true, recurses := true, apart := false }
def FnExactNextDueSaid : Prop := fnExactNextDueRow.holds Try.pinned (OpenSpec.ofChange fnExactNextDueSpec)

/-- ITS FALSE NEIGHBOUR: 'it returns false'. Refute it at one input. -/
def fnExactNextDueWrong : ChangeSpec := { name := "fnExactNextDue", fn := fun _ => fun
  | [d1, d2] => { results := [.lit (.bool false)], args := [d1, d2] }
  | _ => none }
def FnExactNextDueWrongFalsely : Prop := fnExactNextDueRow.holds Try.pinned (OpenSpec.ofChange fnExactNextDueWrong)

/-- 'laws.FnExactBankOk': WHATEVER THE INPUT: true; the input reads as it did. -/
def fnExactBankOkSpec : ChangeSpec := { name := "fnExactBankOk", fn := fun _ => fun
  | [d] => { results := [.lit (.bool true)], args := [d] }
  | _ => none }
def fnExactBankOkRow : OpenClaim := { program := "ytlndklendejjdaa", sum := "b9b9ee1cc33d2c488c470404f6da9f6436ec5722679340b900890a6491ff1de9", func := "loop.example/g00362/laws.FnExactBankOk", spec := "fnExactBankOk", apart := false }
def FnExactBankOkSaid : Prop := fnExactBankOkRow.holds Try.pinned (OpenSpec.ofChange fnExactBankOkSpec)

/-- ITS FALSE NEIGHBOUR: 'it returns false'. Refute it at one input. -/
def fnExactBankOkWrong : ChangeSpec := { name := "fnExactBankOk", fn := fun _ => fun
  | [d] => { results := [.lit (.bool false)], args := [d] }
  | _ => none }
def FnExactBankOkWrongFalsely : Prop := fnExactBankOkRow.holds Try.pinned (OpenSpec.ofChange fnExactBankOkWrong)

/-- 'laws.FnExactBankNew': WHATEVER THE INPUT: true; the input reads as it did. -/
def fnExactBankNewSpec : ChangeSpec := { name := "fnExactBankNew", fn := fun _ => fun
  | [d] => { results := [.lit (.bool true)], args := [d] }
  | _ => none }
def fnExactBankNewRow : OpenClaim := { program := "ytlndklendejjdaa", sum := "b9b9ee1cc33d2c488c470404f6da9f6436ec5722679340b900890a6491ff1de9", func := "loop.example/g00362/laws.FnExactBankNew", spec := "fnExactBankNew", apart := false }
def FnExactBankNewSaid : Prop := fnExactBankNewRow.holds Try.pinned (OpenSpec.ofChange fnExactBankNewSpec)

/-- ITS FALSE NEIGHBOUR: 'it returns false'. Refute it at one input. -/
def fnExactBankNewWrong : ChangeSpec := { name := "fnExactBankNew", fn := fun _ => fun
  | [d] => { results := [.lit (.bool false)], args := [d] }
  | _ => none }
def FnExactBankNewWrongFalsely : Prop := fnExactBankNewRow.holds Try.pinned (OpenSpec.ofChange fnExactBankNewWrong)

/-- 'laws.FnDue': WHATEVER THE INPUT: true; the input reads as it did. -/
def fnDueSpec : ChangeSpec := { name := "fnDue", fn := fun _ => fun
  | [d] => { results := [.lit (.bool true)], args := [d] }
  | _ => none }
def fnDueRow : OpenClaim := { program := "ytlndklendejjdaa", sum := "b9b9ee1cc33d2c488c470404f6da9f6436ec5722679340b900890a6491ff1de9", func := "loop.example/g00362/laws.FnDue", spec := "fnDue", unfollowed := true, recurses := true, apart := false }
def FnDueSaid : Prop := fnDueRow.holds Try.pinned (OpenSpec.ofChange fnDueSpec)

/-- ITS FALSE NEIGHBOUR: 'it returns false'. Refute it at one input. -/
def fnDueWrong : ChangeSpec := { name := "fnDue", fn := fun _ => fun
  | [d] => { results := [.lit (.bool false)], args := [d] }
  | _ => none }
def FnDueWrongFalsely : Prop := fnDueRow.holds Try.pinned (OpenSpec.ofChange fnDueWrong)

/-- 'laws.FnDueOn': WHATEVER THE INPUT: true; the input reads as it did. -/
def fnDueOnSpec : ChangeSpec := { name := "fnDueOn", fn := fun _ => fun
  | [d] => { results := [.lit (.bool true)], args := [d] }
  | _ => none }
def fnDueOnRow : OpenClaim := { program := "ytlndklendejjdaa", sum := "b9b9ee1cc33d2c488c470404f6da9f6436ec5722679340b900890a6491ff1de9", func := "loop.example/g00362/laws.FnDueOn", spec := "fnDueOn", unfollowed := true, recurses := true, apart := false }
def FnDueOnSaid : Prop := fnDueOnRow.holds Try.pinned (OpenSpec.ofChange fnDueOnSpec)

/-- ITS FALSE NEIGHBOUR: 'it returns false'. Refute it at one input. -/
def fnDueOnWrong : ChangeSpec := { name := "fnDueOn", fn := fun _ => fun
  | [d] => { results := [.lit (.bool false)], args := [d] }
  | _ => none }
def FnDueOnWrongFalsely : Prop := fnDueOnRow.holds Try.pinned (OpenSpec.ofChange fnDueOnWrong)

/-- 'laws.FnBankNew': WHATEVER THE INPUT: true; the input reads as it did. -/
def fnBankNewSpec : ChangeSpec := { name := "fnBankNew", fn := fun _ => fun
  | [d] => { results := [.lit (.bool true)], args := [d] }
  | _ => none }
def fnBankNewRow : OpenClaim := { program := "ytlndklendejjdaa", sum := "b9b9ee1cc33d2c488c470404f6da9f6436ec5722679340b900890a6491ff1de9", func := "loop.example/g00362/laws.FnBankNew", spec := "fnBankNew", apart := false }
def FnBankNewSaid : Prop := fnBankNewRow.holds Try.pinned (OpenSpec.ofChange fnBankNewSpec)

/-- ITS FALSE NEIGHBOUR: 'it returns false'. Refute it at one input. -/
def fnBankNewWrong : ChangeSpec := { name := "fnBankNew", fn := fun _ => fun
  | [d] => { results := [.lit (.bool false)], args := [d] }
  | _ => none }
def FnBankNewWrongFalsely : Prop := fnBankNewRow.holds Try.pinned (OpenSpec.ofChange fnBankNewWrong)

/- THE SECOND FORM. 'bulk': how many values and letters a reading holds, each counted each time it is reached (what is shared counts as often as it is met; a slice's spare places count too). A statement '..UptoSaid' is the law's where the arguments, and the package variables that the reading takes, are together of bulk at most 1048576: NARROWER than '..Said'. Prove '..Said' where nothing that the law and all that it calls make is longer than what came in: it says more and counts as full. Else prove '..UptoSaid'. A law counts once. -/
mutual
def uptoBulk {H : Type} : DataW H → Nat
  | .lit (.string bytes) => bytes.length + 1
  | .lit _ => 1
  | .nil => 1
  | .ptr d => uptoBulk d + 1
  | .slice elems spare => uptoBulkAll elems + uptoBulkAll spare + 1
  | .agg parts => uptoBulkAll parts + 1
  | .iface _ d => uptoBulk d + 1
  | .map entries => uptoBulkEntries entries + 1
  | .held _ => 1
def uptoBulkAll {H : Type} : List (DataW H) → Nat
  | [] => 0
  | d :: r => uptoBulk d + uptoBulkAll r
def uptoBulkEntries {H : Type} : List (Lit × DataW H) → Nat
  | [] => 0
  | x :: r => uptoBulkEntry x + uptoBulkEntries r
def uptoBulkEntry {H : Type} : Lit × DataW H → Nat
  | (.string bytes, d) => bytes.length + uptoBulk d + 1
  | (_, d) => uptoBulk d + 1
 end
def uptoSmall : (H : Type) → List (DataW H) → Bool := fun _ ds => decide (uptoBulkAll ds ≤ 1048576)
def OpenSpec.upto (s : _root_.Go.ChangeSpec) : _root_.Go.OpenSpec := { _root_.Go.OpenSpec.ofChange s with cond := some uptoSmall }

/-- 'laws.FnExactOrderOk', WHERE WHAT IT READS IS OF BULK AT MOST 1048576: true; the input reads as it did. -/
def fnExactOrderOkUptoRow : OpenClaim := { program := "ytlndklendejjdaa", sum := "b9b9ee1cc33d2c488c470404f6da9f6436ec5722679340b900890a6491ff1de9", func := "loop.example/g00362/laws.FnExactOrderOk", spec := "fnExactOrderOk", apart := false, narrowed := true }
def FnExactOrderOkUptoSaid : Prop := fnExactOrderOkUptoRow.holds Try.pinned (OpenSpec.upto fnExactOrderOkSpec)

/-- 'laws.FnExactOrdersOk', WHERE WHAT IT READS IS OF BULK AT MOST 1048576: true; the input reads as it did. -/
def fnExactOrdersOkUptoRow : OpenClaim := { program := "ytlndklendejjdaa", sum := "b9b9ee1cc33d2c488c470404f6da9f6436ec5722679340b900890a6491ff1de9", func := "loop.example/g00362/laws.FnExactOrdersOk", spec := "fnExactOrdersOk", apart := false, narrowed := true }
def FnExactOrdersOkUptoSaid : Prop := fnExactOrdersOkUptoRow.holds Try.pinned (OpenSpec.upto fnExactOrdersOkSpec)

/-- 'laws.FnExactIsDue', WHERE WHAT IT READS IS OF BULK AT MOST 1048576: true; the input reads as it did. -/
def fnExactIsDueUptoRow : OpenClaim := { program := "ytlndklendejjdaa", sum := "b9b9ee1cc33d2c488c470404f6da9f6436ec5722679340b900890a6491ff1de9", func := "loop.example/g00362/laws.FnExactIsDue", spec := "fnExactIsDue", unfollowed := true, recurses := true, apart := false, narrowed := true }
def FnExactIsDueUptoSaid : Prop := fnExactIsDueUptoRow.holds Try.pinned (OpenSpec.upto fnExactIsDueSpec)

/-- 'laws.FnExactDueOn', WHERE WHAT IT READS IS OF BULK AT MOST 1048576: true; the input reads as it did. -/
def fnExactDueOnUptoRow : OpenClaim := { program := "ytlndklendejjdaa", sum := "b9b9ee1cc33d2c488c470404f6da9f6436ec5722679340b900890a6491ff1de9", func := "loop.example/g00362/laws.FnExactDueOn", spec := "fnExactDueOn", unfollowed := true, recurses := true, apart := false, narrowed := true }
def FnExactDueOnUptoSaid : Prop := fnExactDueOnUptoRow.holds Try.pinned (OpenSpec.upto fnExactDueOnSpec)

/-- 'laws.FnExactNextDue', WHERE WHAT IT READS IS OF BULK AT MOST 1048576: true; the input reads as it did. -/
def fnExactNextDueUptoRow : OpenClaim := { program := "ytlndklendejjdaa", sum := "b9b9ee1cc33d2c488c470404f6da9f6436ec5722679340b900890a6491ff1de9", func := "loop.example/g00362/laws.FnExactNextDue", spec := "fnExactNextDue", unfollowed := true, recurses := true, apart := false, narrowed := true }
def FnExactNextDueUptoSaid : Prop := fnExactNextDueUptoRow.holds Try.pinned (OpenSpec.upto fnExactNextDueSpec)

/-- 'laws.FnExactBankOk', WHERE WHAT IT READS IS OF BULK AT MOST 1048576: true; the input reads as it did. -/
def fnExactBankOkUptoRow : OpenClaim := { program := "ytlndklendejjdaa", sum := "b9b9ee1cc33d2c488c470404f6da9f6436ec5722679340b900890a6491ff1de9", func := "loop.example/g00362/laws.FnExactBankOk", spec := "fnExactBankOk", apart := false, narrowed := true }
def FnExactBankOkUptoSaid : Prop := fnExactBankOkUptoRow.holds Try.pinned (OpenSpec.upto fnExactBankOkSpec)

/-- 'laws.FnExactBankNew', WHERE WHAT IT READS IS OF BULK AT MOST 1048576: true; the input reads as it did. -/
def fnExactBankNewUptoRow : OpenClaim := { program := "ytlndklendejjdaa", sum := "b9b9ee1cc33d2c488c470404f6da9f6436ec5722679340b900890a6491ff1de9", func := "loop.example/g00362/laws.FnExactBankNew", spec := "fnExactBankNew", apart := false, narrowed := true }
def FnExactBankNewUptoSaid : Prop := fnExactBankNewUptoRow.holds Try.pinned (OpenSpec.upto fnExactBankNewSpec)

/-- 'laws.FnDue', WHERE WHAT IT READS IS OF BULK AT MOST 1048576: true; the input reads as it did. -/
def fnDueUptoRow : OpenClaim := { program := "ytlndklendejjdaa", sum := "b9b9ee1cc33d2c488c470404f6da9f6436ec5722679340b900890a6491ff1de9", func := "loop.example/g00362/laws.FnDue", spec := "fnDue", unfollowed := true, recurses := true, apart := false, narrowed := true }
def FnDueUptoSaid : Prop := fnDueUptoRow.holds Try.pinned (OpenSpec.upto fnDueSpec)

/-- 'laws.FnDueOn', WHERE WHAT IT READS IS OF BULK AT MOST 1048576: true; the input reads as it did. -/
def fnDueOnUptoRow : OpenClaim := { program := "ytlndklendejjdaa", sum := "b9b9ee1cc33d2c488c470404f6da9f6436ec5722679340b900890a6491ff1de9", func := "loop.example/g00362/laws.FnDueOn", spec := "fnDueOn", unfollowed := true, recurses := true, apart := false, narrowed := true }
def FnDueOnUptoSaid : Prop := fnDueOnUptoRow.holds Try.pinned (OpenSpec.upto fnDueOnSpec)

/-- 'laws.FnBankNew', WHERE WHAT IT READS IS OF BULK AT MOST 1048576: true; the input reads as it did. -/
def fnBankNewUptoRow : OpenClaim := { program := "ytlndklendejjdaa", sum := "b9b9ee1cc33d2c488c470404f6da9f6436ec5722679340b900890a6491ff1de9", func := "loop.example/g00362/laws.FnBankNew", spec := "fnBankNew", apart := false, narrowed := true }
def FnBankNewUptoSaid : Prop := fnBankNewUptoRow.holds Try.pinned (OpenSpec.upto fnBankNewSpec)

end Rows
end Go.Proofs.Ytlndklendejjdaa
