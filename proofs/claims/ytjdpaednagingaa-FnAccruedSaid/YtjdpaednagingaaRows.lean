/-
  No cell of these rows narrows 'for every input' (looked for: loops, veiled, ifaces, maps, wideKeys, modest, calm, conditions, laid).
  DERIVED. THE GIVEN ROWS OF THIS SEAT. 4 by the template 'for every input the law returns true; each argument reads behind the call as it read before'; 0 by the template 'total and deterministic' (their statements: YtjdpaednagingaaTotals.lean).
  GIVEN WITH THE SEED: the statements are not yours to turn. If you find one false, say at which input.
  Laid BY PROGRAM, IN A SANDBOX (cutbox-rows.mjs): the forced cells as the released guide's own fill.sh prints them over the translation 933550bf571a1aea… (all of the seat's roots in one cut). By AI agents, Wed Nov 11 2026. No macro, syntax, notation, axiom, sorry.
-/
import Derived.Test.YtjdpaednagingaaChecked
import GoSem.Claim
import GoSem.ClaimJoined
import GoSem.ClaimMapViews
import Derived.JoinedTies
import Derived.KernelRfl
namespace Go.Proofs.Ytjdpaednagingaa
/- THE CELL 'sum', in the pinned program and in every row, IS THE sha256 OF THE DUMP (.gsa) THAT YtjdpaednagingaaProg.lean LOADS. Nothing in Lean hashes anything: it is a label: what it is worth is what the hold of that sum in a sandbox is worth. -/
noncomputable def Try.pinned : Pinned := { name := "ytjdpaednagingaa", sum := "933550bf571a1aea59f8721ffec194f70d778deb6ef6bb3e9f8621fb888ec9f0", checked := Try.checked }
namespace Rows
def none {H : Type} : Left H := { results := [], args := [] }

/-- 'laws.FnExactWeekdayOf': WHATEVER THE INPUT: true; the input reads as it did. -/
def fnExactWeekdayOfSpec : ChangeSpec := { name := "fnExactWeekdayOf", fn := fun _ => fun
  | [d] => { results := [.lit (.bool true)], args := [d] }
  | _ => none }
def fnExactWeekdayOfRow : OpenClaim := { program := "ytjdpaednagingaa", sum := "933550bf571a1aea59f8721ffec194f70d778deb6ef6bb3e9f8621fb888ec9f0", func := "loop.example/g00362/laws.FnExactWeekdayOf", spec := "fnExactWeekdayOf", apart := false }
def FnExactWeekdayOfSaid : Prop := fnExactWeekdayOfRow.holds Try.pinned (OpenSpec.ofChange fnExactWeekdayOfSpec)

/-- ITS FALSE NEIGHBOUR: 'it returns false'. Refute it at one input. -/
def fnExactWeekdayOfWrong : ChangeSpec := { name := "fnExactWeekdayOf", fn := fun _ => fun
  | [d] => { results := [.lit (.bool false)], args := [d] }
  | _ => none }
def FnExactWeekdayOfWrongFalsely : Prop := fnExactWeekdayOfRow.holds Try.pinned (OpenSpec.ofChange fnExactWeekdayOfWrong)

/-- 'laws.FnExactAccrued': WHATEVER THE INPUT: true; the input reads as it did. -/
def fnExactAccruedSpec : ChangeSpec := { name := "fnExactAccrued", fn := fun _ => fun
  | [d1, d2, d3] => { results := [.lit (.bool true)], args := [d1, d2, d3] }
  | _ => none }
def fnExactAccruedRow : OpenClaim := { program := "ytjdpaednagingaa", sum := "933550bf571a1aea59f8721ffec194f70d778deb6ef6bb3e9f8621fb888ec9f0", func := "loop.example/g00362/laws.FnExactAccrued", spec := "fnExactAccrued", apart := false }
def FnExactAccruedSaid : Prop := fnExactAccruedRow.holds Try.pinned (OpenSpec.ofChange fnExactAccruedSpec)

/-- ITS FALSE NEIGHBOUR: 'it returns false'. Refute it at one input. -/
def fnExactAccruedWrong : ChangeSpec := { name := "fnExactAccrued", fn := fun _ => fun
  | [d1, d2, d3] => { results := [.lit (.bool false)], args := [d1, d2, d3] }
  | _ => none }
def FnExactAccruedWrongFalsely : Prop := fnExactAccruedRow.holds Try.pinned (OpenSpec.ofChange fnExactAccruedWrong)

/-- 'laws.FnWeekdays': WHATEVER THE INPUT: true; the input reads as it did. -/
def fnWeekdaysSpec : ChangeSpec := { name := "fnWeekdays", fn := fun _ => fun
  | [d] => { results := [.lit (.bool true)], args := [d] }
  | _ => none }
def fnWeekdaysRow : OpenClaim := { program := "ytjdpaednagingaa", sum := "933550bf571a1aea59f8721ffec194f70d778deb6ef6bb3e9f8621fb888ec9f0", func := "loop.example/g00362/laws.FnWeekdays", spec := "fnWeekdays", apart := false }
def FnWeekdaysSaid : Prop := fnWeekdaysRow.holds Try.pinned (OpenSpec.ofChange fnWeekdaysSpec)

/-- ITS FALSE NEIGHBOUR: 'it returns false'. Refute it at one input. -/
def fnWeekdaysWrong : ChangeSpec := { name := "fnWeekdays", fn := fun _ => fun
  | [d] => { results := [.lit (.bool false)], args := [d] }
  | _ => none }
def FnWeekdaysWrongFalsely : Prop := fnWeekdaysRow.holds Try.pinned (OpenSpec.ofChange fnWeekdaysWrong)

/-- 'laws.FnAccrued': WHATEVER THE INPUT: true; the input reads as it did. -/
def fnAccruedSpec : ChangeSpec := { name := "fnAccrued", fn := fun _ => fun
  | [d] => { results := [.lit (.bool true)], args := [d] }
  | _ => none }
def fnAccruedRow : OpenClaim := { program := "ytjdpaednagingaa", sum := "933550bf571a1aea59f8721ffec194f70d778deb6ef6bb3e9f8621fb888ec9f0", func := "loop.example/g00362/laws.FnAccrued", spec := "fnAccrued", apart := false }
def FnAccruedSaid : Prop := fnAccruedRow.holds Try.pinned (OpenSpec.ofChange fnAccruedSpec)

/-- ITS FALSE NEIGHBOUR: 'it returns false'. Refute it at one input. -/
def fnAccruedWrong : ChangeSpec := { name := "fnAccrued", fn := fun _ => fun
  | [d] => { results := [.lit (.bool false)], args := [d] }
  | _ => none }
def FnAccruedWrongFalsely : Prop := fnAccruedRow.holds Try.pinned (OpenSpec.ofChange fnAccruedWrong)

/- THE SECOND FORM. 'bulk': how many values and letters a reading holds, each counted each time it is reached (what is shared counts as often as it is met; a slice's spare places count too). A statement '..UptoSaid' is the law's where the arguments, and the package variables that the reading takes, are together of bulk at most 1048576: NARROWER than '..Said'. Prove '..Said' where nothing that the law and all that it calls make is longer than what came in: it says more and counts as full. Else prove '..UptoSaid'. A law counts once. -/
mutual
def uptoBulk {H : Type} : DataW H → Nat
  | .lit (.string bytes) => bytes.length + 1
  | .lit _ => 1
  | .nil => 1
  | .ptr d => uptoBulk d + 1
  | .slice elems spare => uptoBulkAll elems + uptoBulkAll spare + 1
  | .agg parts => uptoBulkAll parts + 1
  | .iface _ d => uptoBulk d + 1
  | .map entries => uptoBulkEntries entries + 1
  | .held _ => 1
def uptoBulkAll {H : Type} : List (DataW H) → Nat
  | [] => 0
  | d :: r => uptoBulk d + uptoBulkAll r
def uptoBulkEntries {H : Type} : List (Lit × DataW H) → Nat
  | [] => 0
  | x :: r => uptoBulkEntry x + uptoBulkEntries r
def uptoBulkEntry {H : Type} : Lit × DataW H → Nat
  | (.string bytes, d) => bytes.length + uptoBulk d + 1
  | (_, d) => uptoBulk d + 1
 end
def uptoSmall : (H : Type) → List (DataW H) → Bool := fun _ ds => decide (uptoBulkAll ds ≤ 1048576)
def OpenSpec.upto (s : _root_.Go.ChangeSpec) : _root_.Go.OpenSpec := { _root_.Go.OpenSpec.ofChange s with cond := some uptoSmall }

/-- 'laws.FnExactWeekdayOf', WHERE WHAT IT READS IS OF BULK AT MOST 1048576: true; the input reads as it did. -/
def fnExactWeekdayOfUptoRow : OpenClaim := { program := "ytjdpaednagingaa", sum := "933550bf571a1aea59f8721ffec194f70d778deb6ef6bb3e9f8621fb888ec9f0", func := "loop.example/g00362/laws.FnExactWeekdayOf", spec := "fnExactWeekdayOf", apart := false, narrowed := true }
def FnExactWeekdayOfUptoSaid : Prop := fnExactWeekdayOfUptoRow.holds Try.pinned (OpenSpec.upto fnExactWeekdayOfSpec)

/-- 'laws.FnExactAccrued', WHERE WHAT IT READS IS OF BULK AT MOST 1048576: true; the input reads as it did. -/
def fnExactAccruedUptoRow : OpenClaim := { program := "ytjdpaednagingaa", sum := "933550bf571a1aea59f8721ffec194f70d778deb6ef6bb3e9f8621fb888ec9f0", func := "loop.example/g00362/laws.FnExactAccrued", spec := "fnExactAccrued", apart := false, narrowed := true }
def FnExactAccruedUptoSaid : Prop := fnExactAccruedUptoRow.holds Try.pinned (OpenSpec.upto fnExactAccruedSpec)

/-- 'laws.FnWeekdays', WHERE WHAT IT READS IS OF BULK AT MOST 1048576: true; the input reads as it did. -/
def fnWeekdaysUptoRow : OpenClaim := { program := "ytjdpaednagingaa", sum := "933550bf571a1aea59f8721ffec194f70d778deb6ef6bb3e9f8621fb888ec9f0", func := "loop.example/g00362/laws.FnWeekdays", spec := "fnWeekdays", apart := false, narrowed := true }
def FnWeekdaysUptoSaid : Prop := fnWeekdaysUptoRow.holds Try.pinned (OpenSpec.upto fnWeekdaysSpec)

/-- 'laws.FnAccrued', WHERE WHAT IT READS IS OF BULK AT MOST 1048576: true; the input reads as it did. -/
def fnAccruedUptoRow : OpenClaim := { program := "ytjdpaednagingaa", sum := "933550bf571a1aea59f8721ffec194f70d778deb6ef6bb3e9f8621fb888ec9f0", func := "loop.example/g00362/laws.FnAccrued", spec := "fnAccrued", apart := false, narrowed := true }
def FnAccruedUptoSaid : Prop := fnAccruedUptoRow.holds Try.pinned (OpenSpec.upto fnAccruedSpec)

end Rows
end Go.Proofs.Ytjdpaednagingaa
