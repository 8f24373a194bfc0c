/- BankText of the program, walked. Conditions: the bank lies in memory; the library's table of powers of ten as its text lays it. -/
import Derived.Test.YtedhlmipcfdldaaGreatDoorBu
namespace Go.Proofs.YtedhlmipcfdldaaGreatDoor
open Go.RowKit
set_option maxRecDepth 8000

theorem TellsT.true {e : Ending} {P : Prop} (h : Tells e P) (hp : P) : e = .returned (.bool true) := by
  obtain ⟨b, rfl, h1, h2⟩ := h
  cases b
  · exact absurd hp (h2 rfl)
  · rfl
theorem TellsT.false {e : Ending} {P : Prop} (h : Tells e P) (hp : ¬ P) : e = .returned (.bool false) := by
  obtain ⟨b, rfl, h1, h2⟩ := h
  cases b
  · rfl
  · exact absurd (h1 rfl) hp

end Go.Proofs.YtedhlmipcfdldaaGreatDoor
