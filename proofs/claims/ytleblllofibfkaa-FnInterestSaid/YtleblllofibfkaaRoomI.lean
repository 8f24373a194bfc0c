/- RoomOf, of the program and of the specification, and the law FnExactRoomOf. Conditions: the accounts lie in memory. -/
import Derived.Test.YtleblllofibfkaaRooms
namespace Go.Proofs.Ytleblllofibfkaa
open Go.RowKit
set_option maxRecDepth 8000

theorem room_bd {F : Nat → Acc} {n : Nat} (h : Right F n) {j : Nat} (hj : j < n) : -13000000000000 ≤ sumAll F n j + (F j).limit ∧ sumAll F n j + (F j).limit ≤ 13000000000000 := by
  have := sumAll_bd h j
  have := (h.2.1 j hj).2.2.1
  omega

end Go.Proofs.Ytleblllofibfkaa
