/- The type switch over deeds: what each assertion answers. No conditions. -/
import Derived.Test.YthkgppfgidlicaaGreatDoorCop
import Derived.Test.YthkgppfgidlicaaGreatDoorHK2
namespace Go.Proofs.YthkgppfgidlicaaGreatDoor
open Go.RowKit

@[go_sem] theorem as75_75 (v : Value) (w : World) : (Instr.typeAssert (.iface 111 v) 95 111 true).run Tryz.prog w = .ok (.tuple #[v, .bool true]) w := by kernel_rfl
@[go_sem] theorem as79_75 (v : Value) (w : World) : (Instr.typeAssert (.iface 115 v) 95 111 true).run Tryz.prog w = .ok (.tuple #[.agg #[.int .i64 0, .int .i64 0, .int .i64 0, .int .i64 0, .int .i64 0, .bool false, .int .i64 0, .int .i64 0], .bool false]) w := by kernel_rfl
@[go_sem] theorem as79_79 (v : Value) (w : World) : (Instr.typeAssert (.iface 115 v) 95 115 true).run Tryz.prog w = .ok (.tuple #[v, .bool true]) w := by kernel_rfl
@[go_sem] theorem as77_75 (v : Value) (w : World) : (Instr.typeAssert (.iface 113 v) 95 111 true).run Tryz.prog w = .ok (.tuple #[.agg #[.int .i64 0, .int .i64 0, .int .i64 0, .int .i64 0, .int .i64 0, .bool false, .int .i64 0, .int .i64 0], .bool false]) w := by kernel_rfl
@[go_sem] theorem as77_79 (v : Value) (w : World) : (Instr.typeAssert (.iface 113 v) 95 115 true).run Tryz.prog w = .ok (.tuple #[.agg #[.int .i64 0], .bool false]) w := by kernel_rfl
@[go_sem] theorem as77_77 (v : Value) (w : World) : (Instr.typeAssert (.iface 113 v) 95 113 true).run Tryz.prog w = .ok (.tuple #[v, .bool true]) w := by kernel_rfl
@[go_sem] theorem as81_75 (v : Value) (w : World) : (Instr.typeAssert (.iface 117 v) 95 111 true).run Tryz.prog w = .ok (.tuple #[.agg #[.int .i64 0, .int .i64 0, .int .i64 0, .int .i64 0, .int .i64 0, .bool false, .int .i64 0, .int .i64 0], .bool false]) w := by kernel_rfl
@[go_sem] theorem as81_79 (v : Value) (w : World) : (Instr.typeAssert (.iface 117 v) 95 115 true).run Tryz.prog w = .ok (.tuple #[.agg #[.int .i64 0], .bool false]) w := by kernel_rfl
@[go_sem] theorem as81_77 (v : Value) (w : World) : (Instr.typeAssert (.iface 117 v) 95 113 true).run Tryz.prog w = .ok (.tuple #[.agg #[.int .i64 0, .bool false], .bool false]) w := by kernel_rfl
@[go_sem] theorem as81_81 (v : Value) (w : World) : (Instr.typeAssert (.iface 117 v) 95 117 true).run Tryz.prog w = .ok (.tuple #[v, .bool true]) w := by kernel_rfl
@[go_sem] theorem as82_75 (v : Value) (w : World) : (Instr.typeAssert (.iface 118 v) 95 111 true).run Tryz.prog w = .ok (.tuple #[.agg #[.int .i64 0, .int .i64 0, .int .i64 0, .int .i64 0, .int .i64 0, .bool false, .int .i64 0, .int .i64 0], .bool false]) w := by kernel_rfl
@[go_sem] theorem as82_79 (v : Value) (w : World) : (Instr.typeAssert (.iface 118 v) 95 115 true).run Tryz.prog w = .ok (.tuple #[.agg #[.int .i64 0], .bool false]) w := by kernel_rfl
@[go_sem] theorem as82_77 (v : Value) (w : World) : (Instr.typeAssert (.iface 118 v) 95 113 true).run Tryz.prog w = .ok (.tuple #[.agg #[.int .i64 0, .bool false], .bool false]) w := by kernel_rfl
@[go_sem] theorem as82_81 (v : Value) (w : World) : (Instr.typeAssert (.iface 118 v) 95 117 true).run Tryz.prog w = .ok (.tuple #[.agg #[.int .i64 0, .int .i64 0], .bool false]) w := by kernel_rfl
@[go_sem] theorem as82_82 (v : Value) (w : World) : (Instr.typeAssert (.iface 118 v) 95 118 true).run Tryz.prog w = .ok (.tuple #[v, .bool true]) w := by kernel_rfl
@[go_sem] theorem as84_75 (v : Value) (w : World) : (Instr.typeAssert (.iface 120 v) 95 111 true).run Tryz.prog w = .ok (.tuple #[.agg #[.int .i64 0, .int .i64 0, .int .i64 0, .int .i64 0, .int .i64 0, .bool false, .int .i64 0, .int .i64 0], .bool false]) w := by kernel_rfl
@[go_sem] theorem as84_79 (v : Value) (w : World) : (Instr.typeAssert (.iface 120 v) 95 115 true).run Tryz.prog w = .ok (.tuple #[.agg #[.int .i64 0], .bool false]) w := by kernel_rfl
@[go_sem] theorem as84_77 (v : Value) (w : World) : (Instr.typeAssert (.iface 120 v) 95 113 true).run Tryz.prog w = .ok (.tuple #[.agg #[.int .i64 0, .bool false], .bool false]) w := by kernel_rfl
@[go_sem] theorem as84_81 (v : Value) (w : World) : (Instr.typeAssert (.iface 120 v) 95 117 true).run Tryz.prog w = .ok (.tuple #[.agg #[.int .i64 0, .int .i64 0], .bool false]) w := by kernel_rfl
@[go_sem] theorem as84_82 (v : Value) (w : World) : (Instr.typeAssert (.iface 120 v) 95 118 true).run Tryz.prog w = .ok (.tuple #[.agg #[.int .i64 0, .int .i64 0], .bool false]) w := by kernel_rfl
@[go_sem] theorem as84_84 (v : Value) (w : World) : (Instr.typeAssert (.iface 120 v) 95 120 true).run Tryz.prog w = .ok (.tuple #[v, .bool true]) w := by kernel_rfl
@[go_sem] theorem as86_75 (v : Value) (w : World) : (Instr.typeAssert (.iface 122 v) 95 111 true).run Tryz.prog w = .ok (.tuple #[.agg #[.int .i64 0, .int .i64 0, .int .i64 0, .int .i64 0, .int .i64 0, .bool false, .int .i64 0, .int .i64 0], .bool false]) w := by kernel_rfl
@[go_sem] theorem as86_79 (v : Value) (w : World) : (Instr.typeAssert (.iface 122 v) 95 115 true).run Tryz.prog w = .ok (.tuple #[.agg #[.int .i64 0], .bool false]) w := by kernel_rfl
@[go_sem] theorem as86_77 (v : Value) (w : World) : (Instr.typeAssert (.iface 122 v) 95 113 true).run Tryz.prog w = .ok (.tuple #[.agg #[.int .i64 0, .bool false], .bool false]) w := by kernel_rfl
@[go_sem] theorem as86_81 (v : Value) (w : World) : (Instr.typeAssert (.iface 122 v) 95 117 true).run Tryz.prog w = .ok (.tuple #[.agg #[.int .i64 0, .int .i64 0], .bool false]) w := by kernel_rfl
@[go_sem] theorem as86_82 (v : Value) (w : World) : (Instr.typeAssert (.iface 122 v) 95 118 true).run Tryz.prog w = .ok (.tuple #[.agg #[.int .i64 0, .int .i64 0], .bool false]) w := by kernel_rfl
@[go_sem] theorem as86_84 (v : Value) (w : World) : (Instr.typeAssert (.iface 122 v) 95 120 true).run Tryz.prog w = .ok (.tuple #[.agg #[.int .i64 0, .int .i64 0, .int .i64 0], .bool false]) w := by kernel_rfl
@[go_sem] theorem as86_86 (v : Value) (w : World) : (Instr.typeAssert (.iface 122 v) 95 122 true).run Tryz.prog w = .ok (.tuple #[v, .bool true]) w := by kernel_rfl
@[go_sem] theorem as88_75 (v : Value) (w : World) : (Instr.typeAssert (.iface 124 v) 95 111 true).run Tryz.prog w = .ok (.tuple #[.agg #[.int .i64 0, .int .i64 0, .int .i64 0, .int .i64 0, .int .i64 0, .bool false, .int .i64 0, .int .i64 0], .bool false]) w := by kernel_rfl
@[go_sem] theorem as88_79 (v : Value) (w : World) : (Instr.typeAssert (.iface 124 v) 95 115 true).run Tryz.prog w = .ok (.tuple #[.agg #[.int .i64 0], .bool false]) w := by kernel_rfl
@[go_sem] theorem as88_77 (v : Value) (w : World) : (Instr.typeAssert (.iface 124 v) 95 113 true).run Tryz.prog w = .ok (.tuple #[.agg #[.int .i64 0, .bool false], .bool false]) w := by kernel_rfl
@[go_sem] theorem as88_81 (v : Value) (w : World) : (Instr.typeAssert (.iface 124 v) 95 117 true).run Tryz.prog w = .ok (.tuple #[.agg #[.int .i64 0, .int .i64 0], .bool false]) w := by kernel_rfl
@[go_sem] theorem as88_82 (v : Value) (w : World) : (Instr.typeAssert (.iface 124 v) 95 118 true).run Tryz.prog w = .ok (.tuple #[.agg #[.int .i64 0, .int .i64 0], .bool false]) w := by kernel_rfl
@[go_sem] theorem as88_84 (v : Value) (w : World) : (Instr.typeAssert (.iface 124 v) 95 120 true).run Tryz.prog w = .ok (.tuple #[.agg #[.int .i64 0, .int .i64 0, .int .i64 0], .bool false]) w := by kernel_rfl
@[go_sem] theorem as88_86 (v : Value) (w : World) : (Instr.typeAssert (.iface 124 v) 95 122 true).run Tryz.prog w = .ok (.tuple #[.agg #[.int .i64 0, .int .i64 0], .bool false]) w := by kernel_rfl
@[go_sem] theorem as88_88 (v : Value) (w : World) : (Instr.typeAssert (.iface 124 v) 95 124 true).run Tryz.prog w = .ok (.tuple #[v, .bool true]) w := by kernel_rfl
@[go_sem] theorem as90_75 (v : Value) (w : World) : (Instr.typeAssert (.iface 126 v) 95 111 true).run Tryz.prog w = .ok (.tuple #[.agg #[.int .i64 0, .int .i64 0, .int .i64 0, .int .i64 0, .int .i64 0, .bool false, .int .i64 0, .int .i64 0], .bool false]) w := by kernel_rfl
@[go_sem] theorem as90_79 (v : Value) (w : World) : (Instr.typeAssert (.iface 126 v) 95 115 true).run Tryz.prog w = .ok (.tuple #[.agg #[.int .i64 0], .bool false]) w := by kernel_rfl
@[go_sem] theorem as90_77 (v : Value) (w : World) : (Instr.typeAssert (.iface 126 v) 95 113 true).run Tryz.prog w = .ok (.tuple #[.agg #[.int .i64 0, .bool false], .bool false]) w := by kernel_rfl
@[go_sem] theorem as90_81 (v : Value) (w : World) : (Instr.typeAssert (.iface 126 v) 95 117 true).run Tryz.prog w = .ok (.tuple #[.agg #[.int .i64 0, .int .i64 0], .bool false]) w := by kernel_rfl
@[go_sem] theorem as90_82 (v : Value) (w : World) : (Instr.typeAssert (.iface 126 v) 95 118 true).run Tryz.prog w = .ok (.tuple #[.agg #[.int .i64 0, .int .i64 0], .bool false]) w := by kernel_rfl
@[go_sem] theorem as90_84 (v : Value) (w : World) : (Instr.typeAssert (.iface 126 v) 95 120 true).run Tryz.prog w = .ok (.tuple #[.agg #[.int .i64 0, .int .i64 0, .int .i64 0], .bool false]) w := by kernel_rfl
@[go_sem] theorem as90_86 (v : Value) (w : World) : (Instr.typeAssert (.iface 126 v) 95 122 true).run Tryz.prog w = .ok (.tuple #[.agg #[.int .i64 0, .int .i64 0], .bool false]) w := by kernel_rfl
@[go_sem] theorem as90_88 (v : Value) (w : World) : (Instr.typeAssert (.iface 126 v) 95 124 true).run Tryz.prog w = .ok (.tuple #[.agg #[.int .i64 0, .int .i64 0], .bool false]) w := by kernel_rfl
@[go_sem] theorem as90_90 (v : Value) (w : World) : (Instr.typeAssert (.iface 126 v) 95 126 true).run Tryz.prog w = .ok (.tuple #[v, .bool true]) w := by kernel_rfl
end Go.Proofs.YthkgppfgidlicaaGreatDoor
