/- The year of a day, by the program's own reckoning. Conditions: days from 0 to 3000001. -/
import Derived.Test.YtenlgmjlblggmaaDoorTwo
namespace Go.Proofs.YtenlgmjlblggmaaDoor
open Go.RowKit

end Go.Proofs.YtenlgmjlblggmaaDoor
