/- The deed of an op. -/
import Derived.Test.YtghkbhggopiajaaGreatDoorHksr
set_option maxHeartbeats 1000000
set_option maxRecDepth 8000
namespace Go.Proofs.YtghkbhggopiajaaGreatDoor
open Go.RowKit
theorem deed1 (i t m r:Int) (w:World):
  Calls Tryz.prog 166 #[.agg #[.int .i64 1,.int .i64 i,.int .i64 t,.int .i64 m,.int .i64 r]] w fun e w'=>e=.returned (.iface 210 (.agg #[.int .i64 i,.int .i64 t,.int .i64 m,.int .i64 r,.int .i64 (-1),.bool false,.int .i64 0,.int .i64 0]))/\Below w.heap.size w w':=by
 go_enter Tryz.func166,Tryz.ntmps166
 go_wp2
 go_ret
 exact ⟨rfl,(Below.refl _ _).alloc (Nat.le_refl _) _⟩
theorem deed2 (i t m r:Int) (w:World):
  Calls Tryz.prog 166 #[.agg #[.int .i64 2,.int .i64 i,.int .i64 t,.int .i64 m,.int .i64 r]] w fun e w'=>e=.returned (.iface 212 (.agg #[.int .i64 i,.bool true]))/\Below w.heap.size w w':=by
 go_enter Tryz.func166,Tryz.ntmps166
 go_wp2
 go_ret
 exact ⟨rfl,(Below.refl _ _).alloc (Nat.le_refl _) _⟩
theorem deed3 (i t m r:Int) (w:World):
  Calls Tryz.prog 166 #[.agg #[.int .i64 3,.int .i64 i,.int .i64 t,.int .i64 m,.int .i64 r]] w fun e w'=>e=.returned (.iface 212 (.agg #[.int .i64 i,.bool false]))/\Below w.heap.size w w':=by
 go_enter Tryz.func166,Tryz.ntmps166
 go_wp2
 go_ret
 exact ⟨rfl,(Below.refl _ _).alloc (Nat.le_refl _) _⟩
theorem deed4 (i t m r:Int) (w:World):
  Calls Tryz.prog 166 #[.agg #[.int .i64 4,.int .i64 i,.int .i64 t,.int .i64 m,.int .i64 r]] w fun e w'=>e=.returned (.iface 214 (.agg #[.int .i64 i]))/\Below w.heap.size w w':=by
 go_enter Tryz.func166,Tryz.ntmps166
 go_wp2
 go_ret
 exact ⟨rfl,(Below.refl _ _).alloc (Nat.le_refl _) _⟩
theorem deed5 (i t m r:Int) (w:World):
  Calls Tryz.prog 166 #[.agg #[.int .i64 5,.int .i64 i,.int .i64 t,.int .i64 m,.int .i64 r]] w fun e w'=>e=.returned (.iface 216 (.agg #[.int .i64 i,.int .i64 m]))/\Below w.heap.size w w':=by
 go_enter Tryz.func166,Tryz.ntmps166
 go_wp2
 go_ret
 exact ⟨rfl,(Below.refl _ _).alloc (Nat.le_refl _) _⟩
theorem deed6 (i t m r:Int) (w:World):
  Calls Tryz.prog 166 #[.agg #[.int .i64 6,.int .i64 i,.int .i64 t,.int .i64 m,.int .i64 r]] w fun e w'=>e=.returned (.iface 217 (.agg #[.int .i64 i,.int .i64 m]))/\Below w.heap.size w w':=by
 go_enter Tryz.func166,Tryz.ntmps166
 go_wp2
 go_ret
 exact ⟨rfl,(Below.refl _ _).alloc (Nat.le_refl _) _⟩
theorem deed7 (i t m r:Int) (w:World):
  Calls Tryz.prog 166 #[.agg #[.int .i64 7,.int .i64 i,.int .i64 t,.int .i64 m,.int .i64 r]] w fun e w'=>e=.returned (.iface 219 (.agg #[.int .i64 i,.int .i64 t,.int .i64 m]))/\Below w.heap.size w w':=by
 go_enter Tryz.func166,Tryz.ntmps166
 go_wp2
 go_ret
 exact ⟨rfl,(Below.refl _ _).alloc (Nat.le_refl _) _⟩
theorem deed8 (i t m r:Int) (w:World):
  Calls Tryz.prog 166 #[.agg #[.int .i64 8,.int .i64 i,.int .i64 t,.int .i64 m,.int .i64 r]] w fun e w'=>e=.returned (.iface 221 (.agg #[.int .i64 i,.int .i64 m]))/\Below w.heap.size w w':=by
 go_enter Tryz.func166,Tryz.ntmps166
 go_wp2
 go_ret
 exact ⟨rfl,(Below.refl _ _).alloc (Nat.le_refl _) _⟩
theorem deed10 (i t m r:Int) (w:World):
  Calls Tryz.prog 166 #[.agg #[.int .i64 10,.int .i64 i,.int .i64 t,.int .i64 m,.int .i64 r]] w fun e w'=>e=.returned (.iface 223 (.agg #[.int .i64 i,.int .i64 m]))/\Below w.heap.size w w':=by
 go_enter Tryz.func166,Tryz.ntmps166
 go_wp2
 go_ret
 exact ⟨rfl,(Below.refl _ _).alloc (Nat.le_refl _) _⟩
theorem deed9 (i t m r:Int) (w:World):
  Calls Tryz.prog 166 #[.agg #[.int .i64 9,.int .i64 i,.int .i64 t,.int .i64 m,.int .i64 r]] w fun e w'=>e=.returned (.iface 225 (.agg #[.int .i64 i,.int .i64 t]))/\Below w.heap.size w w':=by
 go_enter Tryz.func166,Tryz.ntmps166
 go_wp2
 go_ret
 exact ⟨rfl,(Below.refl _ _).alloc (Nat.le_refl _) _⟩
end Go.Proofs.YtghkbhggopiajaaGreatDoor
