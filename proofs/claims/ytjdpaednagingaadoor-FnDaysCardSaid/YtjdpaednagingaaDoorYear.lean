/- The year of a day, by the program's own reckoning. Conditions: days from 0 to 3000001. -/
import Derived.Test.YtjdpaednagingaaDoorTwo
namespace Go.Proofs.YtjdpaednagingaaDoor
open Go.RowKit

set_option maxHeartbeats 1000000 in
theorem implYearAt (day : Int) (w : World) (h0 : 0 ≤ day) (h1 : day ≤ 3000001) :
    Calls Tryd.prog 28 #[.int .i64 day] w fun e w' => ∃ y l : Int, e = .returned (.tuple #[.int .i64 y, .int .i64 l]) ∧ w' = w ∧ Cal.dby y + l = day ∧ 0 ≤ l ∧ l < 365 + Cal.lp y ∧ 1 ≤ y := by
  go_enter Tryd.func28, Tryd.ntmps28
  go_wp2
  all_goals
    go_ret2
    refine ⟨_, _, rfl, rfl, ?_⟩
    first
    | (refine Cal.yearAt_of h0 (day % 146097 / 36524) (day % 146097 - day % 146097 / 36524 * 36524) ((day % 146097 - day % 146097 / 36524 * 36524) % 1461 / 365) ?_ ?_ ?_ ?_ ?_ <;> omega)
    | (refine Cal.yearAt_of h0 (day % 146097 / 36524) (day % 146097 - day % 146097 / 36524 * 36524) 3 ?_ ?_ ?_ ?_ ?_ <;> omega)
    | (refine Cal.yearAt_of h0 3 (day % 146097 - 109572) ((day % 146097 - 109572) % 1461 / 365) ?_ ?_ ?_ ?_ ?_ <;> omega)
    | (refine Cal.yearAt_of h0 3 (day % 146097 - 109572) 3 ?_ ?_ ?_ ?_ ?_ <;> omega)
end Go.Proofs.YtjdpaednagingaaDoor
