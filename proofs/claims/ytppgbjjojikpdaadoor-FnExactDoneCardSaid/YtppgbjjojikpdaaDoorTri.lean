/- The program's tried: what an op comes to, or why it is refused. Conditions: the accounts lie in memory and are a right forest; the package's errors lie as they were laid. -/
import Derived.Test.YtppgbjjojikpdaaDoorChgC
import Derived.Test.YtppgbjjojikpdaaDoorChgD
import Derived.Test.YtppgbjjojikpdaaDoorChgE
import Derived.Test.YtppgbjjojikpdaaDoorDeed
import Derived.Test.YtppgbjjojikpdaaDoorHK3
import Derived.Test.YtppgbjjojikpdaaDoorHK4
import Derived.Test.YtppgbjjojikpdaaDoorDone
namespace Go.Proofs.YtppgbjjojikpdaaDoor
open Go.RowKit

theorem meth75 (v : Value) (w : World) : (Go.method 269 75 v "loop.example/g00362/impl.hindrance").run Tryd.prog w = .ok (82, v) w := by kernel_rfl
theorem meth77 (v : Value) (w : World) : (Go.method 269 77 v "loop.example/g00362/impl.hindrance").run Tryd.prog w = .ok (84, v) w := by kernel_rfl
theorem meth79 (v : Value) (w : World) : (Go.method 269 79 v "loop.example/g00362/impl.hindrance").run Tryd.prog w = .ok (85, v) w := by kernel_rfl
theorem meth81 (v : Value) (w : World) : (Go.method 269 81 v "loop.example/g00362/impl.hindrance").run Tryd.prog w = .ok (88, v) w := by kernel_rfl
theorem meth82 (v : Value) (w : World) : (Go.method 269 82 v "loop.example/g00362/impl.hindrance").run Tryd.prog w = .ok (89, v) w := by kernel_rfl
theorem meth84 (v : Value) (w : World) : (Go.method 269 84 v "loop.example/g00362/impl.hindrance").run Tryd.prog w = .ok (97, v) w := by kernel_rfl
theorem meth86 (v : Value) (w : World) : (Go.method 269 86 v "loop.example/g00362/impl.hindrance").run Tryd.prog w = .ok (98, v) w := by kernel_rfl
theorem meth88 (v : Value) (w : World) : (Go.method 269 88 v "loop.example/g00362/impl.hindrance").run Tryd.prog w = .ok (99, v) w := by kernel_rfl
theorem meth90 (v : Value) (w : World) : (Go.method 269 90 v "loop.example/g00362/impl.hindrance").run Tryd.prog w = .ok (100, v) w := by kernel_rfl

/-- What trying comes to: new accounts, or a refusal. -/
def TOut (p : Nat → Addr) (R : Int × List Acc) (w : World) (e : Ending) (w' : World) : Prop :=
  (R.1 = 0 ∧ ∃ v, e = .returned (.tuple #[v, .nilIface]) ∧ AL w' w.heap.size v R.2 ∧ Below w.heap.size w w') ∨
  (R.1 ≠ 0 ∧ ∃ i g, g < 7 ∧ codeG g = R.1 ∧ e = .returned (.tuple #[.slice none 0 0, refV p i g]) ∧ Below w.heap.size w w')

theorem implOpOk_yes (k i t m r : Int) (w : World) (h : opOk k i t m r) :
    Calls Tryd.prog 31 #[.agg #[.int .i64 k, .int .i64 i, .int .i64 t, .int .i64 m, .int .i64 r]] w fun e w' => e = .returned (.bool true) ∧ Below w.heap.size w w' :=
  (implOpOk_b k i t m r w).mono fun e w' ⟨⟨b, he, hb⟩, hB⟩ => ⟨by cases b with | true => exact he | false => exact absurd h (hb.2 rfl), hB⟩
theorem implOpOk_no (k i t m r : Int) (w : World) (h : ¬ opOk k i t m r) :
    Calls Tryd.prog 31 #[.agg #[.int .i64 k, .int .i64 i, .int .i64 t, .int .i64 m, .int .i64 r]] w fun e w' => e = .returned (.bool false) ∧ Below w.heap.size w w' :=
  (implOpOk_b k i t m r w).mono fun e w' ⟨⟨b, he, hb⟩, hB⟩ => ⟨by cases b with | false => exact he | true => exact absurd (hb.1 rfl) h, hB⟩
theorem below_drewN {B : Nat} {w w' : World} (h : Below B w w') (n : Nat) : Below B w (w'.drewN n) := ⟨h.os, h.tape, h.output, h.size, h.block⟩

set_option maxRecDepth 8000 in
set_option maxHeartbeats 2000000 in
theorem triedNo (a : Option Addr) (c : Nat) (L : List Acc) (k i t m r : Int) (p : Nat → Addr) (w : World) (hG : GE w p) (ho : ¬ opOk k i t m r) :
    Calls Tryd.prog 16 #[.slice a L.length c, .agg #[.int .i64 k, .int .i64 i, .int .i64 t, .int .i64 m, .int .i64 r]] w fun e w' => TOut p (2, L) w e w' := by
  obtain ⟨W, hW⟩ : ∃ W, W = w.alloc (.cells #[.int .i64 k, .int .i64 i, .int .i64 t, .int .i64 m, .int .i64 r] 30) := ⟨_, rfl⟩
  have OW : Hid (OpBox W w.heap.size k i t m r) := by rw [hW]; exact OpBox.new w _ _ _ _ _ 30
  have BW : Hid (Below w.heap.size w W) := by rw [hW]; exact (Below.refl _ _).alloc (Nat.le_refl _) _
  have GW : Hid (GE W p) := hG.below BW.out
  have HO : Hid (¬ opOk k i t m r) := ho
  clear hG ho
  obtain ⟨o0, o1, o2, o3, o4, oz⟩ := OW.out
  go_enter Tryd.func16, Tryd.ntmps16
  go_upto_region 1 with fail
  rw [← hW]
  clear hW
  go_wp2_with fail
  refine (implOpOk_no k i t m r _ HO.out).mono ?_
  rintro e w1 ⟨rfl, B1⟩
  have S1 : Hid (OpBox w1 w.heap.size k i t m r ∧ Below w.heap.size w w1 ∧ GE w1 p) := ⟨OW.out.below B1, BW.out.trans (B1.mono BW.out.size), GW.out.below B1⟩
  clear B1 o0 o1 o2 o3 o4 oz OW BW GW
  obtain ⟨o0, o1, o2, o3, o4, oz⟩ := S1.out.1
  have gv := S1.out.2.2.var 0 (by omega)
  go_wp2_with fail
  go_quiet (fail)
  go_wp2
  go_ret2
  exact Or.inr ⟨(by decide : (2 : Int) ≠ 0), i, 0, by omega, rfl, rfl, below_drewN S1.out.2.1 _⟩
end Go.Proofs.YtppgbjjojikpdaaDoor
