/- errors. -/
import Derived.Test.YtghkbhggopiajaaGreatDoorProg
import Derived.WalkKit
import Derived.LaidEql
import Derived.Stop.Asserts
import Derived.RowKitTokens
import Derived.Below
namespace Go.Proofs.YtghkbhggopiajaaGreatDoor
open Value renaming int → Ii,slice → Sl
open IntKind renaming i64 → Jj
open Nat renaming le_refl → Nf
open Go.Proofs.Tryz renaming prog → Pg
set_option maxHeartbeats 4000000
set_option maxRecDepth 8000
open Go.RowKit Go.Extern.Stop Go.Stop Go.Extern
theorem sX (t:Value) (w:World):
  Calls Pg 168 #[.nilIface,t] w fun e w'=>e=.returned (.bool false)/\w'=w:=by
 go_enter Tryz.func168,Tryz.ntmps168
 go_wp2
 go_ret
 exact ⟨rfl,rfl⟩
theorem mB (t:Addr) (w:World):(ReflectliteValue.unpack (.iface 192 (.pointer (some t)))).run Pg w
  = .ok (.agg #[.pointer (some ⟨8,192,none⟩),.pointer (some ⟨w.heap.size,0,none⟩),.int .u64 150]) (w.alloc (.cells #[.pointer (some t)] 192)):=by kernel_rfl
theorem qY (a : Addr) (w : World) : (ReflectliteValue.methodAny (ReflectliteValue.valueError "reflectlite.Value.Type" 0) (fun t _ _ _ => ReflectliteType.toType t) #[.agg #[.pointer (some ⟨8, 192, none⟩), .pointer (some a), .int .u64 150]]).run Pg w
  = .ok (.iface 251 (.agg #[.pointer (some ⟨8,192,none⟩)])) w:=by kernel_rfl
theorem kg (h : Value) (w : World) : (Go.method 409 251 (.agg #[h]) "Kind").run Pg w = .ok (227, h) w := by kernel_rfl
theorem qZ (w:World):((ReflectliteType.abiMethod fun t=>(fun a:Nat=>Value.int IntKind.u8 (a:Int)) <$> Rtype.kind t) #[.pointer (some ⟨8,192,none⟩)]).run Pg w=.ok (.int .u8 22) w:=by kernel_rfl
theorem ra (w:World):((ReflectliteType.abiMethod fun t=>(fun a:Nat=>Value.int IntKind.u8 (a:Int)) <$> Rtype.kind t) #[.pointer (some ⟨8,185,none⟩)]).run Pg w=.ok (.int .u8 25) w:=by kernel_rfl
theorem vN (z:Sem Value) (f:TypeId->Addr->Nat->Nat->Sem Value) (v:Value):
  ReflectliteValue.method z f #[v]=(do match ←ReflectliteValue.parts v with|none=>z|some (t,a,fl)=>f t a fl (fl % 32)):=rfl
theorem kG (a:Addr) (w:World):(ReflectliteValue.parts (.agg #[.pointer (some ⟨8,192,none⟩),.pointer (some a),.int .u64 150])).run Pg w=.ok (some (192,a,150)) w:=by kernel_rfl
theorem qd (a p:Addr) (W:World) (ha:W.cell? a=some (.pointer (some p))):
  (ReflectliteValue.method (ReflectliteValue.valueError "reflectlite.Value.IsNil" 0) ReflectliteValue.isNil #[.agg #[.pointer (some ⟨8, 192, none⟩), .pointer (some a), .int .u64 150]]).run Pg W = .ok (.bool false) W := by
 rw[vN]
 simp only[Sem.run_bind,kG,Result.andThen]
 simp[ReflectliteValue.isNil,loadVar,isAgg,underlying,Tryz.underlying192,ha,Result.andThen]
theorem kh (h : Value) (w : World) : (Go.method 409 251 (.agg #[h]) "Elem").run Pg w = .ok (254, .agg #[h]) w := by kernel_rfl
theorem gd (h : Value) (w : World) : (Go.method 409 251 (.agg #[h]) "Implements").run Pg w = .ok (255, .agg #[h]) w := by kernel_rfl
theorem fw (h : Value) (w : World) : (Go.method 409 251 (.agg #[h]) "AssignableTo").run Pg w = .ok (252, .agg #[h]) w := by kernel_rfl
theorem rb (w:World):(ReflectliteType.method ReflectliteType.elem #[.agg #[.pointer (some ⟨8,192,none⟩)]]).run Pg w=.ok (.iface 251 (.agg #[.pointer (some ⟨8,185,none⟩)])) w:=by kernel_rfl
theorem jl (w : World) : (ReflectliteType.relation "Implements" ReflectliteType.implements_ #[.agg #[.pointer (some ⟨8, 185, none⟩)], .iface 251 (.agg #[.pointer (some ⟨8, 166, none⟩)])]).run Pg w = .ok (.bool true) w := by kernel_rfl
theorem ou (v:Value) (w:World):(ReflectliteType.typeOf #[.iface 185 v]).run Pg w=.ok (.iface 251 (.agg #[.pointer (some ⟨8,185,none⟩)])) w:=by kernel_rfl
theorem jm (w : World) : (ReflectliteType.relation "AssignableTo" ReflectliteType.assignableTo #[.agg #[.pointer (some ⟨8, 185, none⟩)], .iface 251 (.agg #[.pointer (some ⟨8, 185, none⟩)])]).run Pg w = .ok (.bool true) w := by kernel_rfl
theorem mC (x y:Value) (w:World):(ReflectliteValue.unpack (.iface 185 (.agg #[x,y]))).run Pg w
  = .ok (.agg #[.pointer (some ⟨8,185,none⟩),.pointer (some ⟨w.heap.size,0,none⟩),.int .u64 153]) (w.alloc (.cells #[x,y] 185)):=by kernel_rfl
theorem ov (w:World):(Rtype.elem? 192).run Pg w=.ok (some 185) w:=by kernel_rfl
theorem sY (p:Addr) (w:World):(ReflectliteValue.mk 185 p ReflectliteValue.flagAddr).run Pg w=.ok (.agg #[.pointer (some ⟨8,185,none⟩),.pointer (some p),.int .u64 409]) w:=by kernel_rfl
theorem rc (a p:Addr) (W:World) (ha:W.cell? a=some (.pointer (some p))):
  (ReflectliteValue.method (ReflectliteValue.valueError "reflectlite.Value.Elem" 0) ReflectliteValue.elem #[.agg #[.pointer (some ⟨8, 192, none⟩), .pointer (some a), .int .u64 150]]).run Pg W
   = .ok (.agg #[.pointer (some ⟨8,185,none⟩),.pointer (some p),.int .u64 409]) W:=by
 rw[vN]
 simp only[Sem.run_bind,kG,Result.andThen]
 simp[ReflectliteValue.elem,loadVar,isAgg,underlying,Tryz.underlying192,ha,Result.andThen,ov,sY]
theorem vQ (v x:Value):ReflectliteValue.set #[v,x]=(do
  let (some (dst,a,fl),some (src,b,_)):=(←ReflectliteValue.parts v,←ReflectliteValue.parts x)
   | unsupported (.noEntry "extern/(internal/reflectlite.Value).Set.zeroValue")
  if fl / ReflectliteValue.flagAddr % 2 == 0 then unsupported (.noEntry "extern/(internal/reflectlite.Value).Set.unaddressable")
  let val ←loadVar src b
  if ←Rtype.directlyAssignable dst src then storeVar dst a val
  else if ←Rtype.implements dst src then
   if (←Rtype.kind src) == 20 then
    match val with
    | .nilIface => unsupported (.noEntry "extern/reflectlite: a nil value of one interface type handed on as a value of another")
    | _=>storeVar dst a val
   else storeVar dst a (.iface src val)
  else panicString ("reflectlite.Set: value of type " ++ (← Rtype.spelt src) ++ " is not assignable to type " ++ (← Rtype.spelt dst))
  pure (.tuple #[])):=rfl
theorem ow (a:Addr) (w:World):(ReflectliteValue.parts (.agg #[.pointer (some ⟨8,185,none⟩),.pointer (some a),.int .u64 409])).run Pg w=.ok (some (185,a,409)) w:=by kernel_rfl
theorem qe (a:Addr) (w:World):(ReflectliteValue.parts (.agg #[.pointer (some ⟨8,185,none⟩),.pointer (some a),.int .u64 153])).run Pg w=.ok (some (185,a,153)) w:=by kernel_rfl
theorem ox (w:World):(Rtype.directlyAssignable 185 185).run Pg w=.ok true w:=by kernel_rfl
theorem rd (w:World):(sizeOf 185).run Pg w=.ok 2 w:=by kernel_rfl
theorem re (b:Nat) (x y:Value) (W:World) (h0:W.cell? ⟨b,0,none⟩=some x) (h1:W.cell? ⟨b,1,none⟩=some y):
  (loadVar 185 ⟨b,0,none⟩).run Pg W=.ok (.agg #[x,y]) W:=by
 simp[loadVar,isAgg,underlying,Tryz.underlying185,loadCells,loadCellsFrom,Addr.add,h0,h1]
theorem qg (b:Nat) (x y u v:Value) (W:World) (h0:W.cell? ⟨b,0,none⟩=some u) (h1:W.cell? ⟨b,1,none⟩=some v) (f0:W.frozen? ⟨b,0,none⟩=false) (f1:W.frozen? ⟨b,1,none⟩=false) (hx:x.oneCell'=true) (hy:y.oneCell'=true):
  (storeVar 185 ⟨b,0,none⟩ (.agg #[x,y])).run Pg W=.ok () ((W.setCell ⟨b,0,none⟩ x).setCell ⟨b,1,none⟩ y):=by
 simp only[storeVar,Sem.run_bind,rd,Result.andThen]
 simp[Value.cells,storeCells,Addr.add]
 rw[run_store Pg W ⟨b,0,none⟩ x _ hx]
 simp[h0,f0]
 have g1:(W.setCell ⟨b,0,none⟩ x).cell? ⟨b,1,none⟩=some v:=by rw[World.cell?_setCell_other _ _ _ _ (by intro e;cases e)];exact h1
 rw[run_store Pg _ ⟨b,1,none⟩ y _ hy]
 simp[g1,f1]
theorem sn (t b:Nat) (x y u v:Value) (W:World) (hb0:W.cell? ⟨b,0,none⟩=some x) (hb1:W.cell? ⟨b,1,none⟩=some y) (h0:W.cell? ⟨t,0,none⟩=some u) (h1:W.cell? ⟨t,1,none⟩=some v) (f0:W.frozen? ⟨t,0,none⟩=false) (f1:W.frozen? ⟨t,1,none⟩=false) (hx:x.oneCell'=true) (hy:y.oneCell'=true):
  (ReflectliteValue.set #[.agg #[.pointer (some ⟨8,185,none⟩),.pointer (some ⟨t,0,none⟩),.int .u64 409],.agg #[.pointer (some ⟨8,185,none⟩),.pointer (some ⟨b,0,none⟩),.int .u64 153]]).run Pg W
   = .ok (.tuple #[]) ((W.setCell ⟨t,0,none⟩ x).setCell ⟨t,1,none⟩ y):=by
 rw[vQ]
 simp only[Sem.run_bind,ow,qe,Result.andThen]
 simp[ReflectliteValue.flagAddr,re b x y W hb0 hb1,ox,qg t x y u v W h0 h1 f0 f1 hx hy,Result.andThen]
open Go.RowKit Go.Extern.Stop Go.Stop Go.Extern
theorem sZ (t:Nat) (i:Int) (ty:Nat) (z:Value) (u v:Value) (w:World) (hg:w.cell? ⟨7,0,none⟩=some (.iface 251 (.agg #[.pointer (some ⟨8,166,none⟩)]))) (h0:w.cell? ⟨t,0,none⟩=some u) (h1:w.cell? ⟨t,1,none⟩=some v) (f0:w.frozen? ⟨t,0,none⟩=false) (f1:w.frozen? ⟨t,1,none⟩=false) (htl:t<w.heap.size):
  Calls Pg 168 #[.iface 185 (.agg #[Ii Jj i,.iface ty z]),.iface 192 (.pointer (some ⟨t,0,none⟩))] w fun ev w'=>ev=.returned (.bool true)/\w'=((((((w.alloc (.cells #[.pointer (some ⟨t,0,none⟩)] 192)).alloc (.cells #[.pointer (some ⟨8,192,none⟩),.pointer (some ⟨w.heap.size,0,none⟩),.int .u64 150] 232)).alloc (.cells #[.pointer (some ⟨8,192,none⟩),.pointer (some ⟨w.heap.size,0,none⟩),.int .u64 150] 232)).alloc (.cells #[(Ii Jj i),(.iface ty z)] 185)).setCell ⟨t,0,none⟩ (Ii Jj i)).setCell ⟨t,1,none⟩ (.iface ty z)):=by
 have hE1:= @run_callFunc_extern Pg 192 _ (fun args=>ReflectliteValue.unpack (args.getD 0 (.tuple #[]))) Tryz.func192 (by kernel_rfl) (by kernel_rfl) (by kernel_rfl) (by kernel_rfl)
 have hE2 := @run_callFunc_extern Pg 193 _ (ReflectliteValue.methodAny (ReflectliteValue.valueError "reflectlite.Value.Type" 0) (fun t _ _ _ => ReflectliteType.toType t)) Tryz.func193 (by kernel_rfl) (by kernel_rfl) (by kernel_rfl) (by kernel_rfl)
 have hE3 := @run_callFunc_extern Pg 194 _ (ReflectliteValue.method (ReflectliteValue.valueError "reflectlite.Value.IsNil" 0) ReflectliteValue.isNil) Tryz.func194 (by kernel_rfl) (by kernel_rfl) (by kernel_rfl) (by kernel_rfl)
 have hE4:= @run_callFunc_extern Pg 227 _ (ReflectliteType.abiMethod fun t=>do pure (.int .u8 (←Rtype.kind t))) Tryz.func227 (by kernel_rfl) (by kernel_rfl) (by kernel_rfl) (by kernel_rfl)
 have hE5:= @run_callFunc_extern Pg 254 _ (ReflectliteType.method ReflectliteType.elem) Tryz.func254 (by kernel_rfl) (by kernel_rfl) (by kernel_rfl) (by kernel_rfl)
 have hE6 := @run_callFunc_extern Pg 255 _ (ReflectliteType.relation "Implements" ReflectliteType.implements_) Tryz.func255 (by kernel_rfl) (by kernel_rfl) (by kernel_rfl) (by kernel_rfl)
 have hE7:= @run_callFunc_extern Pg 196 _ (ReflectliteType.typeOf) Tryz.func196 (by kernel_rfl) (by kernel_rfl) (by kernel_rfl) (by kernel_rfl)
 have hE8 := @run_callFunc_extern Pg 252 _ (ReflectliteType.relation "AssignableTo" ReflectliteType.assignableTo) Tryz.func252 (by kernel_rfl) (by kernel_rfl) (by kernel_rfl) (by kernel_rfl)
 have hE9 := @run_callFunc_extern Pg 207 _ (ReflectliteValue.method (ReflectliteValue.valueError "reflectlite.Value.Elem" 0) ReflectliteValue.elem) Tryz.func207 (by kernel_rfl) (by kernel_rfl) (by kernel_rfl) (by kernel_rfl)
 have hE10:= @run_callFunc_extern Pg 208 _ (ReflectliteValue.set) Tryz.func208 (by kernel_rfl) (by kernel_rfl) (by kernel_rfl) (by kernel_rfl)
 have tO:=ou
 have mA:=fw
 have aR:=jm
 have vR:=mC
 have fP:=mB
 have tP:=qY
 have mK:=kg
 have mE:=kh
 have mI:=gd
 have kP:=qZ
 have kR:=ra
 have eP:=rb
 have iR:=jl
 have nP:=qd ⟨w.heap.size,0,none⟩ ⟨t,0,none⟩ ((w.alloc (.cells #[.pointer (some ⟨t,0,none⟩)] 192)).alloc (.cells #[.pointer (some ⟨8,192,none⟩),.pointer (some ⟨w.heap.size,0,none⟩),.int .u64 150] 232)) (by simp)
 have hlt:7<w.heap.size:=World.block_lt_of_cell? w _ hg
 have hg2:((w.alloc (.cells #[.pointer (some ⟨t,0,none⟩)] 192)).alloc (.cells #[.pointer (some ⟨8,192,none⟩),.pointer (some ⟨w.heap.size,0,none⟩),.int .u64 150] 232)).cell? ⟨7,0,none⟩=some (.iface 251 (.agg #[.pointer (some ⟨8,166,none⟩)])):=by
  rw[World.cell?_alloc_lt _ _ ⟨7,0,none⟩ (by simp;omega),World.cell?_alloc_lt _ _ ⟨7,0,none⟩ hlt];exact hg
 have ev:=rc ⟨w.heap.size,0,none⟩ ⟨t,0,none⟩ (((w.alloc (.cells #[.pointer (some ⟨t,0,none⟩)] 192)).alloc (.cells #[.pointer (some ⟨8,192,none⟩),.pointer (some ⟨w.heap.size,0,none⟩),.int .u64 150] 232)).alloc (.cells #[.pointer (some ⟨8,192,none⟩),.pointer (some ⟨w.heap.size,0,none⟩),.int .u64 150] 232)) (by rw[World.cell?_alloc_lt _ _ ⟨w.heap.size,0,none⟩ (by simp;omega)];simp)
 have sR:=sn t (w.heap.size+1+1+1) (Ii Jj i) (.iface ty z) u v ((((w.alloc (.cells #[.pointer (some ⟨t,0,none⟩)] 192)).alloc (.cells #[.pointer (some ⟨8,192,none⟩),.pointer (some ⟨w.heap.size,0,none⟩),.int .u64 150] 232)).alloc (.cells #[.pointer (some ⟨8,192,none⟩),.pointer (some ⟨w.heap.size,0,none⟩),.int .u64 150] 232)).alloc (.cells #[(Ii Jj i),(.iface ty z)] 185))
  (by rw[World.cell?_alloc_at _ _ _ _ (by simp)];rfl) (by rw[World.cell?_alloc_at _ _ _ _ (by simp)];rfl)
  (by rw[World.cell?_alloc_lt _ _ ⟨t,0,none⟩ (by simp;omega),World.cell?_alloc_lt _ _ ⟨t,0,none⟩ (by simp;omega),World.cell?_alloc_lt _ _ ⟨t,0,none⟩ (by simp;omega),World.cell?_alloc_lt _ _ ⟨t,0,none⟩ htl];exact h0)
  (by rw[World.cell?_alloc_lt _ _ ⟨t,1,none⟩ (by simp;omega),World.cell?_alloc_lt _ _ ⟨t,1,none⟩ (by simp;omega),World.cell?_alloc_lt _ _ ⟨t,1,none⟩ (by simp;omega),World.cell?_alloc_lt _ _ ⟨t,1,none⟩ htl];exact h1)
  (by rw[World.frozen?_alloc_old _ _ ⟨t,0,none⟩ (by simp;omega),World.frozen?_alloc_old _ _ ⟨t,0,none⟩ (by simp;omega),World.frozen?_alloc_old _ _ ⟨t,0,none⟩ (by simp;omega),World.frozen?_alloc_old _ _ ⟨t,0,none⟩ (Nat.ne_of_lt htl)];exact f0)
  (by rw[World.frozen?_alloc_old _ _ ⟨t,1,none⟩ (by simp;omega),World.frozen?_alloc_old _ _ ⟨t,1,none⟩ (by simp;omega),World.frozen?_alloc_old _ _ ⟨t,1,none⟩ (by simp;omega),World.frozen?_alloc_old _ _ ⟨t,1,none⟩ (Nat.ne_of_lt htl)];exact f1) rfl rfl
 clear h0 h1 f0 f1
 go_enter Tryz.func168,Tryz.ntmps168
 go_wp2
 refine wp_loop_rounds 1 ?_
 rw[rounds_succ]
 go_wp2
 go_ret
 exact ⟨rfl,rfl⟩
open Go.RowKit Go.Extern.Stop Go.Stop Go.Extern
theorem kH (v:Value) (w:World):(Extern.ReflectliteType.typeOf #[.iface 271 v]).run Pg w=.ok (.iface 251 (.agg #[.pointer (some ⟨8,271,none⟩)])) w:=by kernel_rfl
theorem gk (w : World) : ((Extern.ReflectliteType.method fun t => do Rtype.noPackHeld "Comparable" t; (fun a => Value.bool a.comparable) <$> typeInfo t) #[.agg #[.pointer (some ⟨8, 271, none⟩)]]).run Pg w = .ok (.bool true) w := by kernel_rfl
theorem eg (v : Value) (w : World) : (Go.method 409 251 v "Comparable").run Pg w = .ok (253, v) w := by kernel_rfl
theorem pC:(Pg.info? 271).map (·.comparable)=some true:=by kernel_rfl
theorem pD:(Pg.info? 297).map (·.size)=some 1:=by kernel_rfl
theorem mD (v:Value) (xT:TypeId) (w:World):(Instr.typeAssert (.iface 271 v) xT 263 true).run Pg w=.ok (.tuple #[.nilIface,.bool false]) w:=run_typeAssert_lacksB Tryz.underlying263 (by kernel_rfl) (by kernel_rfl) v xT w
theorem gO (v:Value) (xT:TypeId) (w:World):(Instr.typeAssert (.iface 271 v) xT 258 true).run Pg w=.ok (.tuple #[.nilIface,.bool false]) w:=run_typeAssert_lacksB Tryz.underlying258 (by kernel_rfl) (by kernel_rfl) v xT w
theorem gl (v:Value) (xT:TypeId) (w:World):(Instr.typeAssert (.iface 271 v) xT 260 true).run Pg w=.ok (.tuple #[.nilIface,.bool false]) w:=run_typeAssert_lacksB Tryz.underlying260 (by kernel_rfl) (by kernel_rfl) v xT w
theorem mF (v:Value) (xT:TypeId) (w:World):(Instr.typeAssert (.iface 185 v) xT 263 true).run Pg w=.ok (.tuple #[.nilIface,.bool false]) w:=run_typeAssert_lacksB Tryz.underlying263 (by kernel_rfl) (by kernel_rfl) v xT w
theorem gm (v:Value) (xT:TypeId) (w:World):(Instr.typeAssert (.iface 185 v) xT 258 true).run Pg w=.ok (.tuple #[.iface 185 v,.bool true]) w:=run_typeAssert_hasB Tryz.underlying258 (by kernel_rfl) v xT w
theorem ft (v : Value) (w : World) : (Go.method 409 185 v "Unwrap").run Pg w = .ok (231, v) w := by kernel_rfl
theorem rg (i:Int) (b:Addr) (w:World):
  Calls Pg 231 #[.agg #[Ii Jj i,.iface 271 (.pointer (some b))]] w fun e w'=>e=.returned (.iface 271 (.pointer (some b)))/\w'=(w.alloc (.cells #[Ii Jj i,.iface 271 (.pointer (some b))] 185)):=by
 go_enter Tryz.func231,Tryz.ntmps231
 go_wp2
 go_ret
 exact ⟨rfl,rfl⟩
theorem mG (i:Int) (b:Addr) (w:World):
  Calls Pg 169 #[.iface 185 (.agg #[Ii Jj i,.iface 271 (.pointer (some b))]),.iface 271 (.pointer (some b))] w fun e w'=>e=.returned (.bool true)/\w'=(w.alloc (.cells #[Ii Jj i,.iface 271 (.pointer (some b))] 185)):=by
 obtain ⟨i1,hi,hcmp⟩:=Option.map_eq_some_iff.1 pC
 obtain ⟨j,hj,hjs⟩:=Option.map_eq_some_iff.1 pD
 have h8:= @run_callFunc_extern Pg 196 _ Extern.ReflectliteType.typeOf Tryz.func196 (by kernel_rfl) (by kernel_rfl) (by kernel_rfl) (by kernel_rfl)
 have h32 := @run_callFunc_extern Pg 253 _ (Extern.ReflectliteType.method fun t => do Rtype.noPackHeld "Comparable" t; pure (.bool (← typeInfo t).comparable)) Tryz.func253 (by kernel_rfl) (by kernel_rfl) (by kernel_rfl) (by kernel_rfl)
 have tT:=kH
 have cT:=gk
 have mR:=eg
 have nE:=mD
 have uE:=gO
 have vE:=gl
 have nW:=mF
 have uW:=gm
 have mU:=ft
 have heq:=run_eql_iface_ptr_same (P:=Pg) (w.alloc (.cells #[Ii Jj i,.iface 271 (.pointer (some b))] 185)) b Tryz.underlying166 Tryz.underlying271 hi hcmp hj
 have hty:=run_eql_iface_types (P:=Pg) 185 271 (.agg #[Ii Jj i,.iface 271 (.pointer (some b))]) (.pointer (some b)) Tryz.underlying166 (by decide) w
 go_enter Tryz.func169,Tryz.ntmps169
 go_wp2
 refine wp_loop_rounds 2 ?_
 rw[rounds_succ]
 go_wp2_with (go_at_call 231;refine (rg i _ _).mono ?_;rintro e w' ⟨rfl,rfl⟩)
 rw[rounds_succ]
 go_wp2
 go_ret
 exact ⟨rfl,rfl⟩
theorem lw (i:Int) (a b:Addr) (ca cb:Array Value) (ta tb:TypeId) (w:World) (hne:a≠b) (ha:w.heap[a.block]? =some (.cells ca ta (0,0))) (hb:w.heap[b.block]? =some (.cells cb tb (0,0))):
  Calls Pg 169 #[.iface 185 (.agg #[Ii Jj i,.iface 271 (.pointer (some a))]),.iface 271 (.pointer (some b))] w fun e w'=>e=.returned (.bool false)/\w'=(w.alloc (.cells #[Ii Jj i,.iface 271 (.pointer (some a))] 185)):=by
 have ha':(w.alloc (.cells #[Ii Jj i,.iface 271 (.pointer (some a))] 185)).heap[a.block]? =some (.cells ca ta (0,0)):=(Below.heap_alloc _ _ _ (Array.getElem?_eq_some_iff.1 ha).1).trans ha
 have hb':(w.alloc (.cells #[Ii Jj i,.iface 271 (.pointer (some a))] 185)).heap[b.block]? =some (.cells cb tb (0,0)):=(Below.heap_alloc _ _ _ (Array.getElem?_eq_some_iff.1 hb).1).trans hb
 obtain ⟨i1,hi,hcmp⟩:=Option.map_eq_some_iff.1 pC
 obtain ⟨j,hj,hjs⟩:=Option.map_eq_some_iff.1 pD
 have h8:= @run_callFunc_extern Pg 196 _ Extern.ReflectliteType.typeOf Tryz.func196 (by kernel_rfl) (by kernel_rfl) (by kernel_rfl) (by kernel_rfl)
 have h32 := @run_callFunc_extern Pg 253 _ (Extern.ReflectliteType.method fun t => do Rtype.noPackHeld "Comparable" t; pure (.bool (← typeInfo t).comparable)) Tryz.func253 (by kernel_rfl) (by kernel_rfl) (by kernel_rfl) (by kernel_rfl)
 have tT:=kH
 have cT:=gk
 have mR:=eg
 have nE:=mD
 have uE:=gO
 have vE:=gl
 have nW:=mF
 have uW:=gm
 have mU:=ft
 have heq:=run_eql_iface_ptr_other (P:=Pg) (w.alloc (.cells #[Ii Jj i,.iface 271 (.pointer (some a))] 185)) Tryz.underlying166 Tryz.underlying271 hi hcmp hj (by rw[hjs];decide) hne ha' hb'
 have hty:=run_eql_iface_types (P:=Pg) 185 271 (.agg #[Ii Jj i,.iface 271 (.pointer (some a))]) (.pointer (some b)) Tryz.underlying166 (by decide) w
 go_enter Tryz.func169,Tryz.ntmps169
 go_wp2
 refine wp_loop_rounds 2 ?_
 rw[rounds_succ]
 go_wp2_with (go_at_call 231;refine (rg i _ _).mono ?_;rintro e w' ⟨rfl,rfl⟩)
 rw[rounds_succ]
 go_wp2
 go_ret
 exact ⟨rfl,rfl⟩
open Go.RowKit
structure GE (w:World) (p:Nat->Addr):Prop where
 var:∀g,g<7->w.cell? ⟨g,0,none⟩=some (.iface 271 (.pointer (some (p g))))
 row:∀g,g<7->∃c t,w.heap[(p g).block]? =some (.cells c t (0,0))
 ne:∀g h,g<7->h<7->g≠h->p g≠p h
 err:w.cell? ⟨7,0,none⟩=some (.iface 251 (.agg #[.pointer (some ⟨8,166,none⟩)]))
theorem GE.size {w:World} {p:Nat->Addr} (h:GE w p):7<w.heap.size:=World.block_lt_of_cell? w _ h.err
theorem GE.below {w w':World} {p:Nat->Addr} (h:GE w p) (hb:Below w.heap.size w w'):GE w' p:=by
 have hz:=h.size
 refine ⟨fun g hg=>by rw[hb.cell (p:=⟨g,0,none⟩) (by show g<_;omega)];exact h.var g hg,fun g hg=>?_,h.ne,by rw[hb.cell (p:=⟨7,0,none⟩) hz];exact h.err⟩
 obtain ⟨c,t,hr⟩:=h.row g hg
 exact ⟨c,t,by rw[hb.block _ (Array.getElem?_eq_some_iff.1 hr).1];exact hr⟩
def jn (p:Nat->Addr) (i:Int) (g:Nat):Value:=.iface 185 (.agg #[Ii Jj i,.iface 271 (.pointer (some (p g)))])
theorem dL (i:Int) (p:Nat->Addr) (g:Nat) (w:World):
  Calls Pg 169 #[.iface 185 (.agg #[Ii Jj i,.iface 271 (.pointer (some (p g)))]),.iface 271 (.pointer (some (p g)))] w fun e w'=>e=.returned (.bool true)/\Below w.heap.size w w':=
 (mG i (p g) w).mono fun e w' ⟨he,hw⟩=>⟨he,by rw[hw];exact (Below.refl _ _).alloc (Nf _) _⟩
theorem aI (i:Int) (p:Nat->Addr) (g h:Nat) (w:World) (hG:GE w p) (hg:g<7) (hh:h<7) (hne:g≠h):
  Calls Pg 169 #[.iface 185 (.agg #[Ii Jj i,.iface 271 (.pointer (some (p g)))]),.iface 271 (.pointer (some (p h)))] w fun e w'=>e=.returned (.bool false)/\Below w.heap.size w w':=by
 obtain ⟨c,t,hr⟩:=hG.row g hg
 obtain ⟨c',t',hr'⟩:=hG.row h hh
 exact (lw i (p g) (p h) c c' t t' w (hG.ne g h hg hh hne) hr hr').mono fun e w' ⟨he,hw⟩=>⟨he,by rw[hw];exact (Below.refl _ _).alloc (Nf _) _⟩
theorem jo (i:Int) (p:Nat->Addr) (g:Nat) (w:World) (hG:GE w p):
  Calls Pg 168 #[.iface 185 (.agg #[Ii Jj i,.iface 271 (.pointer (some (p g)))]),.iface 192 (.pointer (some ⟨w.heap.size,0,none⟩))] (w.alloc (.cells #[Ii Jj 0,.nilIface] 185)) fun e w'=>e=.returned (.bool true)/\
   w'.cell? ⟨w.heap.size,0,none⟩=some (Ii Jj i)/\w'.cell? ⟨w.heap.size,1,none⟩=some (.iface 271 (.pointer (some (p g))))/\Below w.heap.size w w':=by
 have hg:(w.alloc (.cells #[Ii Jj 0,.nilIface] 185)).cell? ⟨7,0,none⟩=some (.iface 251 (.agg #[.pointer (some ⟨8,166,none⟩)])):=by rw[World.cell?_alloc_lt _ _ ⟨7,0,none⟩ hG.size];exact hG.err
 refine (sZ w.heap.size i 271 (.pointer (some (p g))) (Ii Jj 0) .nilIface _ hg (by simp[go_sem]) (by simp[go_sem]) (by simp[go_sem]) (by simp[go_sem]) (by simp)).mono fun e w' ⟨he,hw⟩=>⟨he,?_⟩
 subst hw
 refine ⟨?_,?_,?_⟩
 ·rw[World.cell?_setCell_other _ _ _ _ (by intro e;cases e)]
  exact World.cell?_setCell_same' _ _ _ (by simp[go_sem])
 ·refine World.cell?_setCell_same' _ _ _ ?_
  rw[World.cell?_setCell_other _ _ _ _ (by intro e;cases e)]
  simp[go_sem]
 ·exact ((((((Below.refl _ _).alloc (Nf _) _).alloc (by simp) _).alloc (by simp;omega) _).alloc (by simp;omega) _).alloc (by simp;omega) _).setCell (p:=⟨w.heap.size,0,none⟩) (Nf _) _ |>.setCell (p:=⟨w.heap.size,1,none⟩) (Nf _) _
theorem oy (w:World):
  Calls Pg 150 #[.nilIface] w fun e w'=>e=.returned (Ii Jj 0)/\Below w.heap.size w w':=by
 go_enter Tryz.func150,Tryz.ntmps150
 go_wp2_with (go_at_call 168;refine (sX _ _).mono ?_;rintro e w' ⟨rfl,rfl⟩)
 go_ret
 exact ⟨rfl,(Below.refl _ _).alloc (Nf _) _⟩
theorem rh (i:Int) (p:Nat->Addr) (w:World) (hG:GE w p):
  Calls Pg 150 #[.iface 185 (.agg #[Ii Jj i,.iface 271 (.pointer (some (p 0)))])] w fun e w'=>e=.returned (Ii Jj 2)/\Below w.heap.size w w':=by
 have G0:Hid (GE w p):=hG
 clear hG
 go_enter Tryz.func150,Tryz.ntmps150
 go_wp2_with fail
 refine (jo i p 0 w G0.out).mono ?_
 rintro e w1 ⟨rfl,c0,c1,B1⟩
 have X1:Hid (w1.cell? ⟨w.heap.size,0,none⟩=some (Ii Jj i)/\w1.cell? ⟨w.heap.size,1,none⟩=some (.iface 271 (.pointer (some (p 0))))/\GE w1 p/\Below w.heap.size w w1/\w.heap.size<w1.heap.size):=⟨c0,c1,G0.out.below B1,B1,World.block_lt_of_cell? w1 _ c0⟩
 clear B1 c0 c1
 obtain ⟨c0,c1,gx,_,hz⟩:=X1.out
 have gv:=gx.var 0 (by omega)
 clear gx
 go_wp2_with fail
 refine (dL i p 0 _).mono ?_
 rintro e w2 ⟨rfl,B2⟩
 have Z:Hid (Below w.heap.size w w2):=X1.out.2.2.2.1.trans (B2.mono X1.out.2.2.2.1.size)
 clear B2 X1 c0 c1 gv hz
 go_wp2
 go_ret
 exact ⟨rfl,Z.out⟩
theorem ri (i:Int) (p:Nat->Addr) (w:World) (hG:GE w p):
  Calls Pg 150 #[.iface 185 (.agg #[Ii Jj i,.iface 271 (.pointer (some (p 1)))])] w fun e w'=>e=.returned (Ii Jj 7)/\Below w.heap.size w w':=by
 have G0:Hid (GE w p):=hG
 clear hG
 go_enter Tryz.func150,Tryz.ntmps150
 go_wp2_with fail
 refine (jo i p 1 w G0.out).mono ?_
 rintro e w1 ⟨rfl,c0,c1,B1⟩
 have X1:Hid (w1.cell? ⟨w.heap.size,0,none⟩=some (Ii Jj i)/\w1.cell? ⟨w.heap.size,1,none⟩=some (.iface 271 (.pointer (some (p 1))))/\GE w1 p/\Below w.heap.size w w1/\w.heap.size<w1.heap.size):=⟨c0,c1,G0.out.below B1,B1,World.block_lt_of_cell? w1 _ c0⟩
 clear B1 c0 c1
 obtain ⟨c0,c1,gx,_,hz⟩:=X1.out
 have gv:=gx.var 0 (by omega)
 clear gx
 go_wp2_with fail
 refine (aI i p 1 0 _ X1.out.2.2.1 (by omega) (by omega) (by omega)).mono ?_
 rintro e w2 ⟨rfl,B2⟩
 have X2:Hid (w2.cell? ⟨w.heap.size,0,none⟩=some (Ii Jj i)/\w2.cell? ⟨w.heap.size,1,none⟩=some (.iface 271 (.pointer (some (p 1))))/\GE w2 p/\Below w.heap.size w w2/\w.heap.size<w2.heap.size):=
  ⟨by rw[B2.cell (p:=⟨w.heap.size,0,none⟩) hz];exact c0,by rw[B2.cell (p:=⟨w.heap.size,1,none⟩) hz];exact c1,X1.out.2.2.1.below B2,X1.out.2.2.2.1.trans (B2.mono X1.out.2.2.2.1.size),Nat.lt_of_lt_of_le hz B2.size⟩
 clear B2 X1 c0 c1 gv hz
 obtain ⟨c0,c1,gx,_,hz⟩:=X2.out
 have gv:=gx.var 2 (by omega)
 clear gx
 go_wp2_with fail
 refine (aI i p 1 2 _ X2.out.2.2.1 (by omega) (by omega) (by omega)).mono ?_
 rintro e w3 ⟨rfl,B3⟩
 have X3:Hid (w3.cell? ⟨w.heap.size,0,none⟩=some (Ii Jj i)/\w3.cell? ⟨w.heap.size,1,none⟩=some (.iface 271 (.pointer (some (p 1))))/\GE w3 p/\Below w.heap.size w w3/\w.heap.size<w3.heap.size):=
  ⟨by rw[B3.cell (p:=⟨w.heap.size,0,none⟩) hz];exact c0,by rw[B3.cell (p:=⟨w.heap.size,1,none⟩) hz];exact c1,X2.out.2.2.1.below B3,X2.out.2.2.2.1.trans (B3.mono X2.out.2.2.2.1.size),Nat.lt_of_lt_of_le hz B3.size⟩
 clear B3 X2 c0 c1 gv hz
 obtain ⟨c0,c1,gx,_,hz⟩:=X3.out
 have gv:=gx.var 3 (by omega)
 clear gx
 go_wp2_with fail
 refine (aI i p 1 3 _ X3.out.2.2.1 (by omega) (by omega) (by omega)).mono ?_
 rintro e w4 ⟨rfl,B4⟩
 have X4:Hid (w4.cell? ⟨w.heap.size,0,none⟩=some (Ii Jj i)/\w4.cell? ⟨w.heap.size,1,none⟩=some (.iface 271 (.pointer (some (p 1))))/\GE w4 p/\Below w.heap.size w w4/\w.heap.size<w4.heap.size):=
  ⟨by rw[B4.cell (p:=⟨w.heap.size,0,none⟩) hz];exact c0,by rw[B4.cell (p:=⟨w.heap.size,1,none⟩) hz];exact c1,X3.out.2.2.1.below B4,X3.out.2.2.2.1.trans (B4.mono X3.out.2.2.2.1.size),Nat.lt_of_lt_of_le hz B4.size⟩
 clear B4 X3 c0 c1 gv hz
 obtain ⟨c0,c1,gx,_,hz⟩:=X4.out
 have gv:=gx.var 4 (by omega)
 clear gx
 go_wp2_with fail
 refine (aI i p 1 4 _ X4.out.2.2.1 (by omega) (by omega) (by omega)).mono ?_
 rintro e w5 ⟨rfl,B5⟩
 have X5:Hid (w5.cell? ⟨w.heap.size,0,none⟩=some (Ii Jj i)/\w5.cell? ⟨w.heap.size,1,none⟩=some (.iface 271 (.pointer (some (p 1))))/\GE w5 p/\Below w.heap.size w w5/\w.heap.size<w5.heap.size):=
  ⟨by rw[B5.cell (p:=⟨w.heap.size,0,none⟩) hz];exact c0,by rw[B5.cell (p:=⟨w.heap.size,1,none⟩) hz];exact c1,X4.out.2.2.1.below B5,X4.out.2.2.2.1.trans (B5.mono X4.out.2.2.2.1.size),Nat.lt_of_lt_of_le hz B5.size⟩
 clear B5 X4 c0 c1 gv hz
 obtain ⟨c0,c1,gx,_,hz⟩:=X5.out
 have gv:=gx.var 5 (by omega)
 clear gx
 go_wp2_with fail
 refine (aI i p 1 5 _ X5.out.2.2.1 (by omega) (by omega) (by omega)).mono ?_
 rintro e w6 ⟨rfl,B6⟩
 have X6:Hid (w6.cell? ⟨w.heap.size,0,none⟩=some (Ii Jj i)/\w6.cell? ⟨w.heap.size,1,none⟩=some (.iface 271 (.pointer (some (p 1))))/\GE w6 p/\Below w.heap.size w w6/\w.heap.size<w6.heap.size):=
  ⟨by rw[B6.cell (p:=⟨w.heap.size,0,none⟩) hz];exact c0,by rw[B6.cell (p:=⟨w.heap.size,1,none⟩) hz];exact c1,X5.out.2.2.1.below B6,X5.out.2.2.2.1.trans (B6.mono X5.out.2.2.2.1.size),Nat.lt_of_lt_of_le hz B6.size⟩
 clear B6 X5 c0 c1 gv hz
 obtain ⟨c0,c1,gx,_,hz⟩:=X6.out
 have gv:=gx.var 6 (by omega)
 clear gx
 go_wp2_with fail
 refine (aI i p 1 6 _ X6.out.2.2.1 (by omega) (by omega) (by omega)).mono ?_
 rintro e w7 ⟨rfl,B7⟩
 have X7:Hid (w7.cell? ⟨w.heap.size,0,none⟩=some (Ii Jj i)/\w7.cell? ⟨w.heap.size,1,none⟩=some (.iface 271 (.pointer (some (p 1))))/\GE w7 p/\Below w.heap.size w w7/\w.heap.size<w7.heap.size):=
  ⟨by rw[B7.cell (p:=⟨w.heap.size,0,none⟩) hz];exact c0,by rw[B7.cell (p:=⟨w.heap.size,1,none⟩) hz];exact c1,X6.out.2.2.1.below B7,X6.out.2.2.2.1.trans (B7.mono X6.out.2.2.2.1.size),Nat.lt_of_lt_of_le hz B7.size⟩
 clear B7 X6 c0 c1 gv hz
 have Z:Hid (Below w.heap.size w w7):=X7.out.2.2.2.1
 go_wp2
 go_ret
 exact ⟨rfl,Z.out⟩
theorem rj (i:Int) (p:Nat->Addr) (w:World) (hG:GE w p):
  Calls Pg 150 #[.iface 185 (.agg #[Ii Jj i,.iface 271 (.pointer (some (p 2)))])] w fun e w'=>e=.returned (Ii Jj 3)/\Below w.heap.size w w':=by
 have G0:Hid (GE w p):=hG
 clear hG
 go_enter Tryz.func150,Tryz.ntmps150
 go_wp2_with fail
 refine (jo i p 2 w G0.out).mono ?_
 rintro e w1 ⟨rfl,c0,c1,B1⟩
 have X1:Hid (w1.cell? ⟨w.heap.size,0,none⟩=some (Ii Jj i)/\w1.cell? ⟨w.heap.size,1,none⟩=some (.iface 271 (.pointer (some (p 2))))/\GE w1 p/\Below w.heap.size w w1/\w.heap.size<w1.heap.size):=⟨c0,c1,G0.out.below B1,B1,World.block_lt_of_cell? w1 _ c0⟩
 clear B1 c0 c1
 obtain ⟨c0,c1,gx,_,hz⟩:=X1.out
 have gv:=gx.var 0 (by omega)
 clear gx
 go_wp2_with fail
 refine (aI i p 2 0 _ X1.out.2.2.1 (by omega) (by omega) (by omega)).mono ?_
 rintro e w2 ⟨rfl,B2⟩
 have X2:Hid (w2.cell? ⟨w.heap.size,0,none⟩=some (Ii Jj i)/\w2.cell? ⟨w.heap.size,1,none⟩=some (.iface 271 (.pointer (some (p 2))))/\GE w2 p/\Below w.heap.size w w2/\w.heap.size<w2.heap.size):=
  ⟨by rw[B2.cell (p:=⟨w.heap.size,0,none⟩) hz];exact c0,by rw[B2.cell (p:=⟨w.heap.size,1,none⟩) hz];exact c1,X1.out.2.2.1.below B2,X1.out.2.2.2.1.trans (B2.mono X1.out.2.2.2.1.size),Nat.lt_of_lt_of_le hz B2.size⟩
 clear B2 X1 c0 c1 gv hz
 obtain ⟨c0,c1,gx,_,hz⟩:=X2.out
 have gv:=gx.var 2 (by omega)
 clear gx
 go_wp2_with fail
 refine (dL i p 2 _).mono ?_
 rintro e w3 ⟨rfl,B3⟩
 have Z:Hid (Below w.heap.size w w3):=X2.out.2.2.2.1.trans (B3.mono X2.out.2.2.2.1.size)
 clear B3 X2 c0 c1 gv hz
 go_wp2
 go_ret
 exact ⟨rfl,Z.out⟩
theorem rk (i:Int) (p:Nat->Addr) (w:World) (hG:GE w p):
  Calls Pg 150 #[.iface 185 (.agg #[Ii Jj i,.iface 271 (.pointer (some (p 3)))])] w fun e w'=>e=.returned (Ii Jj 4)/\Below w.heap.size w w':=by
 have G0:Hid (GE w p):=hG
 clear hG
 go_enter Tryz.func150,Tryz.ntmps150
 go_wp2_with fail
 refine (jo i p 3 w G0.out).mono ?_
 rintro e w1 ⟨rfl,c0,c1,B1⟩
 have X1:Hid (w1.cell? ⟨w.heap.size,0,none⟩=some (Ii Jj i)/\w1.cell? ⟨w.heap.size,1,none⟩=some (.iface 271 (.pointer (some (p 3))))/\GE w1 p/\Below w.heap.size w w1/\w.heap.size<w1.heap.size):=⟨c0,c1,G0.out.below B1,B1,World.block_lt_of_cell? w1 _ c0⟩
 clear B1 c0 c1
 obtain ⟨c0,c1,gx,_,hz⟩:=X1.out
 have gv:=gx.var 0 (by omega)
 clear gx
 go_wp2_with fail
 refine (aI i p 3 0 _ X1.out.2.2.1 (by omega) (by omega) (by omega)).mono ?_
 rintro e w2 ⟨rfl,B2⟩
 have X2:Hid (w2.cell? ⟨w.heap.size,0,none⟩=some (Ii Jj i)/\w2.cell? ⟨w.heap.size,1,none⟩=some (.iface 271 (.pointer (some (p 3))))/\GE w2 p/\Below w.heap.size w w2/\w.heap.size<w2.heap.size):=
  ⟨by rw[B2.cell (p:=⟨w.heap.size,0,none⟩) hz];exact c0,by rw[B2.cell (p:=⟨w.heap.size,1,none⟩) hz];exact c1,X1.out.2.2.1.below B2,X1.out.2.2.2.1.trans (B2.mono X1.out.2.2.2.1.size),Nat.lt_of_lt_of_le hz B2.size⟩
 clear B2 X1 c0 c1 gv hz
 obtain ⟨c0,c1,gx,_,hz⟩:=X2.out
 have gv:=gx.var 2 (by omega)
 clear gx
 go_wp2_with fail
 refine (aI i p 3 2 _ X2.out.2.2.1 (by omega) (by omega) (by omega)).mono ?_
 rintro e w3 ⟨rfl,B3⟩
 have X3:Hid (w3.cell? ⟨w.heap.size,0,none⟩=some (Ii Jj i)/\w3.cell? ⟨w.heap.size,1,none⟩=some (.iface 271 (.pointer (some (p 3))))/\GE w3 p/\Below w.heap.size w w3/\w.heap.size<w3.heap.size):=
  ⟨by rw[B3.cell (p:=⟨w.heap.size,0,none⟩) hz];exact c0,by rw[B3.cell (p:=⟨w.heap.size,1,none⟩) hz];exact c1,X2.out.2.2.1.below B3,X2.out.2.2.2.1.trans (B3.mono X2.out.2.2.2.1.size),Nat.lt_of_lt_of_le hz B3.size⟩
 clear B3 X2 c0 c1 gv hz
 obtain ⟨c0,c1,gx,_,hz⟩:=X3.out
 have gv:=gx.var 3 (by omega)
 clear gx
 go_wp2_with fail
 refine (dL i p 3 _).mono ?_
 rintro e w4 ⟨rfl,B4⟩
 have Z:Hid (Below w.heap.size w w4):=X3.out.2.2.2.1.trans (B4.mono X3.out.2.2.2.1.size)
 clear B4 X3 c0 c1 gv hz
 go_wp2
 go_ret
 exact ⟨rfl,Z.out⟩
theorem rl (i:Int) (p:Nat->Addr) (w:World) (hG:GE w p):
  Calls Pg 150 #[.iface 185 (.agg #[Ii Jj i,.iface 271 (.pointer (some (p 4)))])] w fun e w'=>e=.returned (Ii Jj 5)/\Below w.heap.size w w':=by
 have G0:Hid (GE w p):=hG
 clear hG
 go_enter Tryz.func150,Tryz.ntmps150
 go_wp2_with fail
 refine (jo i p 4 w G0.out).mono ?_
 rintro e w1 ⟨rfl,c0,c1,B1⟩
 have X1:Hid (w1.cell? ⟨w.heap.size,0,none⟩=some (Ii Jj i)/\w1.cell? ⟨w.heap.size,1,none⟩=some (.iface 271 (.pointer (some (p 4))))/\GE w1 p/\Below w.heap.size w w1/\w.heap.size<w1.heap.size):=⟨c0,c1,G0.out.below B1,B1,World.block_lt_of_cell? w1 _ c0⟩
 clear B1 c0 c1
 obtain ⟨c0,c1,gx,_,hz⟩:=X1.out
 have gv:=gx.var 0 (by omega)
 clear gx
 go_wp2_with fail
 refine (aI i p 4 0 _ X1.out.2.2.1 (by omega) (by omega) (by omega)).mono ?_
 rintro e w2 ⟨rfl,B2⟩
 have X2:Hid (w2.cell? ⟨w.heap.size,0,none⟩=some (Ii Jj i)/\w2.cell? ⟨w.heap.size,1,none⟩=some (.iface 271 (.pointer (some (p 4))))/\GE w2 p/\Below w.heap.size w w2/\w.heap.size<w2.heap.size):=
  ⟨by rw[B2.cell (p:=⟨w.heap.size,0,none⟩) hz];exact c0,by rw[B2.cell (p:=⟨w.heap.size,1,none⟩) hz];exact c1,X1.out.2.2.1.below B2,X1.out.2.2.2.1.trans (B2.mono X1.out.2.2.2.1.size),Nat.lt_of_lt_of_le hz B2.size⟩
 clear B2 X1 c0 c1 gv hz
 obtain ⟨c0,c1,gx,_,hz⟩:=X2.out
 have gv:=gx.var 2 (by omega)
 clear gx
 go_wp2_with fail
 refine (aI i p 4 2 _ X2.out.2.2.1 (by omega) (by omega) (by omega)).mono ?_
 rintro e w3 ⟨rfl,B3⟩
 have X3:Hid (w3.cell? ⟨w.heap.size,0,none⟩=some (Ii Jj i)/\w3.cell? ⟨w.heap.size,1,none⟩=some (.iface 271 (.pointer (some (p 4))))/\GE w3 p/\Below w.heap.size w w3/\w.heap.size<w3.heap.size):=
  ⟨by rw[B3.cell (p:=⟨w.heap.size,0,none⟩) hz];exact c0,by rw[B3.cell (p:=⟨w.heap.size,1,none⟩) hz];exact c1,X2.out.2.2.1.below B3,X2.out.2.2.2.1.trans (B3.mono X2.out.2.2.2.1.size),Nat.lt_of_lt_of_le hz B3.size⟩
 clear B3 X2 c0 c1 gv hz
 obtain ⟨c0,c1,gx,_,hz⟩:=X3.out
 have gv:=gx.var 3 (by omega)
 clear gx
 go_wp2_with fail
 refine (aI i p 4 3 _ X3.out.2.2.1 (by omega) (by omega) (by omega)).mono ?_
 rintro e w4 ⟨rfl,B4⟩
 have X4:Hid (w4.cell? ⟨w.heap.size,0,none⟩=some (Ii Jj i)/\w4.cell? ⟨w.heap.size,1,none⟩=some (.iface 271 (.pointer (some (p 4))))/\GE w4 p/\Below w.heap.size w w4/\w.heap.size<w4.heap.size):=
  ⟨by rw[B4.cell (p:=⟨w.heap.size,0,none⟩) hz];exact c0,by rw[B4.cell (p:=⟨w.heap.size,1,none⟩) hz];exact c1,X3.out.2.2.1.below B4,X3.out.2.2.2.1.trans (B4.mono X3.out.2.2.2.1.size),Nat.lt_of_lt_of_le hz B4.size⟩
 clear B4 X3 c0 c1 gv hz
 obtain ⟨c0,c1,gx,_,hz⟩:=X4.out
 have gv:=gx.var 4 (by omega)
 clear gx
 go_wp2_with fail
 refine (dL i p 4 _).mono ?_
 rintro e w5 ⟨rfl,B5⟩
 have Z:Hid (Below w.heap.size w w5):=X4.out.2.2.2.1.trans (B5.mono X4.out.2.2.2.1.size)
 clear B5 X4 c0 c1 gv hz
 go_wp2
 go_ret
 exact ⟨rfl,Z.out⟩
theorem rm (i:Int) (p:Nat->Addr) (w:World) (hG:GE w p):
  Calls Pg 150 #[.iface 185 (.agg #[Ii Jj i,.iface 271 (.pointer (some (p 5)))])] w fun e w'=>e=.returned (Ii Jj 6)/\Below w.heap.size w w':=by
 have G0:Hid (GE w p):=hG
 clear hG
 go_enter Tryz.func150,Tryz.ntmps150
 go_wp2_with fail
 refine (jo i p 5 w G0.out).mono ?_
 rintro e w1 ⟨rfl,c0,c1,B1⟩
 have X1:Hid (w1.cell? ⟨w.heap.size,0,none⟩=some (Ii Jj i)/\w1.cell? ⟨w.heap.size,1,none⟩=some (.iface 271 (.pointer (some (p 5))))/\GE w1 p/\Below w.heap.size w w1/\w.heap.size<w1.heap.size):=⟨c0,c1,G0.out.below B1,B1,World.block_lt_of_cell? w1 _ c0⟩
 clear B1 c0 c1
 obtain ⟨c0,c1,gx,_,hz⟩:=X1.out
 have gv:=gx.var 0 (by omega)
 clear gx
 go_wp2_with fail
 refine (aI i p 5 0 _ X1.out.2.2.1 (by omega) (by omega) (by omega)).mono ?_
 rintro e w2 ⟨rfl,B2⟩
 have X2:Hid (w2.cell? ⟨w.heap.size,0,none⟩=some (Ii Jj i)/\w2.cell? ⟨w.heap.size,1,none⟩=some (.iface 271 (.pointer (some (p 5))))/\GE w2 p/\Below w.heap.size w w2/\w.heap.size<w2.heap.size):=
  ⟨by rw[B2.cell (p:=⟨w.heap.size,0,none⟩) hz];exact c0,by rw[B2.cell (p:=⟨w.heap.size,1,none⟩) hz];exact c1,X1.out.2.2.1.below B2,X1.out.2.2.2.1.trans (B2.mono X1.out.2.2.2.1.size),Nat.lt_of_lt_of_le hz B2.size⟩
 clear B2 X1 c0 c1 gv hz
 obtain ⟨c0,c1,gx,_,hz⟩:=X2.out
 have gv:=gx.var 2 (by omega)
 clear gx
 go_wp2_with fail
 refine (aI i p 5 2 _ X2.out.2.2.1 (by omega) (by omega) (by omega)).mono ?_
 rintro e w3 ⟨rfl,B3⟩
 have X3:Hid (w3.cell? ⟨w.heap.size,0,none⟩=some (Ii Jj i)/\w3.cell? ⟨w.heap.size,1,none⟩=some (.iface 271 (.pointer (some (p 5))))/\GE w3 p/\Below w.heap.size w w3/\w.heap.size<w3.heap.size):=
  ⟨by rw[B3.cell (p:=⟨w.heap.size,0,none⟩) hz];exact c0,by rw[B3.cell (p:=⟨w.heap.size,1,none⟩) hz];exact c1,X2.out.2.2.1.below B3,X2.out.2.2.2.1.trans (B3.mono X2.out.2.2.2.1.size),Nat.lt_of_lt_of_le hz B3.size⟩
 clear B3 X2 c0 c1 gv hz
 obtain ⟨c0,c1,gx,_,hz⟩:=X3.out
 have gv:=gx.var 3 (by omega)
 clear gx
 go_wp2_with fail
 refine (aI i p 5 3 _ X3.out.2.2.1 (by omega) (by omega) (by omega)).mono ?_
 rintro e w4 ⟨rfl,B4⟩
 have X4:Hid (w4.cell? ⟨w.heap.size,0,none⟩=some (Ii Jj i)/\w4.cell? ⟨w.heap.size,1,none⟩=some (.iface 271 (.pointer (some (p 5))))/\GE w4 p/\Below w.heap.size w w4/\w.heap.size<w4.heap.size):=
  ⟨by rw[B4.cell (p:=⟨w.heap.size,0,none⟩) hz];exact c0,by rw[B4.cell (p:=⟨w.heap.size,1,none⟩) hz];exact c1,X3.out.2.2.1.below B4,X3.out.2.2.2.1.trans (B4.mono X3.out.2.2.2.1.size),Nat.lt_of_lt_of_le hz B4.size⟩
 clear B4 X3 c0 c1 gv hz
 obtain ⟨c0,c1,gx,_,hz⟩:=X4.out
 have gv:=gx.var 4 (by omega)
 clear gx
 go_wp2_with fail
 refine (aI i p 5 4 _ X4.out.2.2.1 (by omega) (by omega) (by omega)).mono ?_
 rintro e w5 ⟨rfl,B5⟩
 have X5:Hid (w5.cell? ⟨w.heap.size,0,none⟩=some (Ii Jj i)/\w5.cell? ⟨w.heap.size,1,none⟩=some (.iface 271 (.pointer (some (p 5))))/\GE w5 p/\Below w.heap.size w w5/\w.heap.size<w5.heap.size):=
  ⟨by rw[B5.cell (p:=⟨w.heap.size,0,none⟩) hz];exact c0,by rw[B5.cell (p:=⟨w.heap.size,1,none⟩) hz];exact c1,X4.out.2.2.1.below B5,X4.out.2.2.2.1.trans (B5.mono X4.out.2.2.2.1.size),Nat.lt_of_lt_of_le hz B5.size⟩
 clear B5 X4 c0 c1 gv hz
 obtain ⟨c0,c1,gx,_,hz⟩:=X5.out
 have gv:=gx.var 5 (by omega)
 clear gx
 go_wp2_with fail
 refine (dL i p 5 _).mono ?_
 rintro e w6 ⟨rfl,B6⟩
 have Z:Hid (Below w.heap.size w w6):=X5.out.2.2.2.1.trans (B6.mono X5.out.2.2.2.1.size)
 clear B6 X5 c0 c1 gv hz
 go_wp2
 go_ret
 exact ⟨rfl,Z.out⟩
theorem rn (i:Int) (p:Nat->Addr) (w:World) (hG:GE w p):
  Calls Pg 150 #[.iface 185 (.agg #[Ii Jj i,.iface 271 (.pointer (some (p 6)))])] w fun e w'=>e=.returned (Ii Jj 8)/\Below w.heap.size w w':=by
 have G0:Hid (GE w p):=hG
 clear hG
 go_enter Tryz.func150,Tryz.ntmps150
 go_wp2_with fail
 refine (jo i p 6 w G0.out).mono ?_
 rintro e w1 ⟨rfl,c0,c1,B1⟩
 have X1:Hid (w1.cell? ⟨w.heap.size,0,none⟩=some (Ii Jj i)/\w1.cell? ⟨w.heap.size,1,none⟩=some (.iface 271 (.pointer (some (p 6))))/\GE w1 p/\Below w.heap.size w w1/\w.heap.size<w1.heap.size):=⟨c0,c1,G0.out.below B1,B1,World.block_lt_of_cell? w1 _ c0⟩
 clear B1 c0 c1
 obtain ⟨c0,c1,gx,_,hz⟩:=X1.out
 have gv:=gx.var 0 (by omega)
 clear gx
 go_wp2_with fail
 refine (aI i p 6 0 _ X1.out.2.2.1 (by omega) (by omega) (by omega)).mono ?_
 rintro e w2 ⟨rfl,B2⟩
 have X2:Hid (w2.cell? ⟨w.heap.size,0,none⟩=some (Ii Jj i)/\w2.cell? ⟨w.heap.size,1,none⟩=some (.iface 271 (.pointer (some (p 6))))/\GE w2 p/\Below w.heap.size w w2/\w.heap.size<w2.heap.size):=
  ⟨by rw[B2.cell (p:=⟨w.heap.size,0,none⟩) hz];exact c0,by rw[B2.cell (p:=⟨w.heap.size,1,none⟩) hz];exact c1,X1.out.2.2.1.below B2,X1.out.2.2.2.1.trans (B2.mono X1.out.2.2.2.1.size),Nat.lt_of_lt_of_le hz B2.size⟩
 clear B2 X1 c0 c1 gv hz
 obtain ⟨c0,c1,gx,_,hz⟩:=X2.out
 have gv:=gx.var 2 (by omega)
 clear gx
 go_wp2_with fail
 refine (aI i p 6 2 _ X2.out.2.2.1 (by omega) (by omega) (by omega)).mono ?_
 rintro e w3 ⟨rfl,B3⟩
 have X3:Hid (w3.cell? ⟨w.heap.size,0,none⟩=some (Ii Jj i)/\w3.cell? ⟨w.heap.size,1,none⟩=some (.iface 271 (.pointer (some (p 6))))/\GE w3 p/\Below w.heap.size w w3/\w.heap.size<w3.heap.size):=
  ⟨by rw[B3.cell (p:=⟨w.heap.size,0,none⟩) hz];exact c0,by rw[B3.cell (p:=⟨w.heap.size,1,none⟩) hz];exact c1,X2.out.2.2.1.below B3,X2.out.2.2.2.1.trans (B3.mono X2.out.2.2.2.1.size),Nat.lt_of_lt_of_le hz B3.size⟩
 clear B3 X2 c0 c1 gv hz
 obtain ⟨c0,c1,gx,_,hz⟩:=X3.out
 have gv:=gx.var 3 (by omega)
 clear gx
 go_wp2_with fail
 refine (aI i p 6 3 _ X3.out.2.2.1 (by omega) (by omega) (by omega)).mono ?_
 rintro e w4 ⟨rfl,B4⟩
 have X4:Hid (w4.cell? ⟨w.heap.size,0,none⟩=some (Ii Jj i)/\w4.cell? ⟨w.heap.size,1,none⟩=some (.iface 271 (.pointer (some (p 6))))/\GE w4 p/\Below w.heap.size w w4/\w.heap.size<w4.heap.size):=
  ⟨by rw[B4.cell (p:=⟨w.heap.size,0,none⟩) hz];exact c0,by rw[B4.cell (p:=⟨w.heap.size,1,none⟩) hz];exact c1,X3.out.2.2.1.below B4,X3.out.2.2.2.1.trans (B4.mono X3.out.2.2.2.1.size),Nat.lt_of_lt_of_le hz B4.size⟩
 clear B4 X3 c0 c1 gv hz
 obtain ⟨c0,c1,gx,_,hz⟩:=X4.out
 have gv:=gx.var 4 (by omega)
 clear gx
 go_wp2_with fail
 refine (aI i p 6 4 _ X4.out.2.2.1 (by omega) (by omega) (by omega)).mono ?_
 rintro e w5 ⟨rfl,B5⟩
 have X5:Hid (w5.cell? ⟨w.heap.size,0,none⟩=some (Ii Jj i)/\w5.cell? ⟨w.heap.size,1,none⟩=some (.iface 271 (.pointer (some (p 6))))/\GE w5 p/\Below w.heap.size w w5/\w.heap.size<w5.heap.size):=
  ⟨by rw[B5.cell (p:=⟨w.heap.size,0,none⟩) hz];exact c0,by rw[B5.cell (p:=⟨w.heap.size,1,none⟩) hz];exact c1,X4.out.2.2.1.below B5,X4.out.2.2.2.1.trans (B5.mono X4.out.2.2.2.1.size),Nat.lt_of_lt_of_le hz B5.size⟩
 clear B5 X4 c0 c1 gv hz
 obtain ⟨c0,c1,gx,_,hz⟩:=X5.out
 have gv:=gx.var 5 (by omega)
 clear gx
 go_wp2_with fail
 refine (aI i p 6 5 _ X5.out.2.2.1 (by omega) (by omega) (by omega)).mono ?_
 rintro e w6 ⟨rfl,B6⟩
 have X6:Hid (w6.cell? ⟨w.heap.size,0,none⟩=some (Ii Jj i)/\w6.cell? ⟨w.heap.size,1,none⟩=some (.iface 271 (.pointer (some (p 6))))/\GE w6 p/\Below w.heap.size w w6/\w.heap.size<w6.heap.size):=
  ⟨by rw[B6.cell (p:=⟨w.heap.size,0,none⟩) hz];exact c0,by rw[B6.cell (p:=⟨w.heap.size,1,none⟩) hz];exact c1,X5.out.2.2.1.below B6,X5.out.2.2.2.1.trans (B6.mono X5.out.2.2.2.1.size),Nat.lt_of_lt_of_le hz B6.size⟩
 clear B6 X5 c0 c1 gv hz
 obtain ⟨c0,c1,gx,_,hz⟩:=X6.out
 have gv:=gx.var 6 (by omega)
 clear gx
 go_wp2_with fail
 refine (dL i p 6 _).mono ?_
 rintro e w7 ⟨rfl,B7⟩
 have Z:Hid (Below w.heap.size w w7):=X6.out.2.2.2.1.trans (B7.mono X6.out.2.2.2.1.size)
 clear B7 X6 c0 c1 gv hz
 go_wp2
 go_ret
 exact ⟨rfl,Z.out⟩
def aF (g:Nat):Int:=if g=0 then 2 else if g=1 then 7 else if g=2 then 3 else if g=3 then 4 else if g=4 then 5 else if g=5 then 6 else 8
theorem oA (i:Int) (p:Nat->Addr) (g:Nat) (w:World) (hG:GE w p) (hg:g<7):
  Calls Pg 150 #[jn p i g] w fun e w'=>e=.returned (Ii Jj (aF g))/\Below w.heap.size w w':=by
 unfold jn
 have:g=0\/g=1\/g=2\/g=3\/g=4\/g=5\/g=6:=by omega
 rcases this with e|e|e|e|e|e|e <;>subst e
 ·exact rh i p w hG
 ·exact ri i p w hG
 ·exact rj i p w hG
 ·exact rk i p w hG
 ·exact rl i p w hG
 ·exact rm i p w hG
 ·exact rn i p w hG
end Go.Proofs.YtghkbhggopiajaaGreatDoor
