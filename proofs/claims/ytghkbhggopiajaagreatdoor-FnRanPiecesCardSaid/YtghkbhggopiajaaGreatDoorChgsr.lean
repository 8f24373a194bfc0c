/- The type switch over deeds. -/
import Derived.Test.YtghkbhggopiajaaGreatDoorCopr
import Derived.Test.YtghkbhggopiajaaGreatDoorDeedr
import Derived.Deep.RegionLaw
import Derived.Shelf.Spec.SlicesInsert
import Derived.Lib.AppendZerosOnto
import Derived.Laws.NewBlocks
namespace Go.Proofs.YtghkbhggopiajaaGreatDoor
open Value renaming int → Ii,slice → Sl
open IntKind renaming i64 → Jj
open Nat renaming le_refl → Nf
open Go.Proofs.Tryz renaming prog → Pg
set_option maxHeartbeats 4000000
set_option maxRecDepth 100000
open Go.RowKit
@[go_sem] theorem ul (v:Value) (w:World):(Instr.typeAssert (.iface 210 v) 187 210 true).run Pg w=.ok (.tuple #[v,.bool true]) w:=by kernel_rfl
@[go_sem] theorem um (v:Value) (w:World):(Instr.typeAssert (.iface 214 v) 187 210 true).run Pg w=.ok (.tuple #[.agg #[Ii Jj 0,Ii Jj 0,Ii Jj 0,Ii Jj 0,Ii Jj 0,.bool false,Ii Jj 0,Ii Jj 0],.bool false]) w:=by kernel_rfl
@[go_sem] theorem uo (v:Value) (w:World):(Instr.typeAssert (.iface 214 v) 187 214 true).run Pg w=.ok (.tuple #[v,.bool true]) w:=by kernel_rfl
@[go_sem] theorem uq (v:Value) (w:World):(Instr.typeAssert (.iface 212 v) 187 210 true).run Pg w=.ok (.tuple #[.agg #[Ii Jj 0,Ii Jj 0,Ii Jj 0,Ii Jj 0,Ii Jj 0,.bool false,Ii Jj 0,Ii Jj 0],.bool false]) w:=by kernel_rfl
@[go_sem] theorem ur (v:Value) (w:World):(Instr.typeAssert (.iface 212 v) 187 214 true).run Pg w=.ok (.tuple #[.agg #[Ii Jj 0],.bool false]) w:=by kernel_rfl
@[go_sem] theorem us (v:Value) (w:World):(Instr.typeAssert (.iface 212 v) 187 212 true).run Pg w=.ok (.tuple #[v,.bool true]) w:=by kernel_rfl
@[go_sem] theorem ut (v:Value) (w:World):(Instr.typeAssert (.iface 216 v) 187 210 true).run Pg w=.ok (.tuple #[.agg #[Ii Jj 0,Ii Jj 0,Ii Jj 0,Ii Jj 0,Ii Jj 0,.bool false,Ii Jj 0,Ii Jj 0],.bool false]) w:=by kernel_rfl
@[go_sem] theorem uu (v:Value) (w:World):(Instr.typeAssert (.iface 216 v) 187 214 true).run Pg w=.ok (.tuple #[.agg #[Ii Jj 0],.bool false]) w:=by kernel_rfl
@[go_sem] theorem uv (v:Value) (w:World):(Instr.typeAssert (.iface 216 v) 187 212 true).run Pg w=.ok (.tuple #[.agg #[Ii Jj 0,.bool false],.bool false]) w:=by kernel_rfl
@[go_sem] theorem uw (v:Value) (w:World):(Instr.typeAssert (.iface 216 v) 187 216 true).run Pg w=.ok (.tuple #[v,.bool true]) w:=by kernel_rfl
@[go_sem] theorem ux (v:Value) (w:World):(Instr.typeAssert (.iface 217 v) 187 210 true).run Pg w=.ok (.tuple #[.agg #[Ii Jj 0,Ii Jj 0,Ii Jj 0,Ii Jj 0,Ii Jj 0,.bool false,Ii Jj 0,Ii Jj 0],.bool false]) w:=by kernel_rfl
@[go_sem] theorem uy (v:Value) (w:World):(Instr.typeAssert (.iface 217 v) 187 214 true).run Pg w=.ok (.tuple #[.agg #[Ii Jj 0],.bool false]) w:=by kernel_rfl
@[go_sem] theorem uz (v:Value) (w:World):(Instr.typeAssert (.iface 217 v) 187 212 true).run Pg w=.ok (.tuple #[.agg #[Ii Jj 0,.bool false],.bool false]) w:=by kernel_rfl
@[go_sem] theorem uA (v:Value) (w:World):(Instr.typeAssert (.iface 217 v) 187 216 true).run Pg w=.ok (.tuple #[.agg #[Ii Jj 0,Ii Jj 0],.bool false]) w:=by kernel_rfl
@[go_sem] theorem uB (v:Value) (w:World):(Instr.typeAssert (.iface 217 v) 187 217 true).run Pg w=.ok (.tuple #[v,.bool true]) w:=by kernel_rfl
@[go_sem] theorem uC (v:Value) (w:World):(Instr.typeAssert (.iface 219 v) 187 210 true).run Pg w=.ok (.tuple #[.agg #[Ii Jj 0,Ii Jj 0,Ii Jj 0,Ii Jj 0,Ii Jj 0,.bool false,Ii Jj 0,Ii Jj 0],.bool false]) w:=by kernel_rfl
@[go_sem] theorem uD (v:Value) (w:World):(Instr.typeAssert (.iface 219 v) 187 214 true).run Pg w=.ok (.tuple #[.agg #[Ii Jj 0],.bool false]) w:=by kernel_rfl
@[go_sem] theorem uF (v:Value) (w:World):(Instr.typeAssert (.iface 219 v) 187 212 true).run Pg w=.ok (.tuple #[.agg #[Ii Jj 0,.bool false],.bool false]) w:=by kernel_rfl
@[go_sem] theorem uG (v:Value) (w:World):(Instr.typeAssert (.iface 219 v) 187 216 true).run Pg w=.ok (.tuple #[.agg #[Ii Jj 0,Ii Jj 0],.bool false]) w:=by kernel_rfl
@[go_sem] theorem uH (v:Value) (w:World):(Instr.typeAssert (.iface 219 v) 187 217 true).run Pg w=.ok (.tuple #[.agg #[Ii Jj 0,Ii Jj 0],.bool false]) w:=by kernel_rfl
@[go_sem] theorem uI (v:Value) (w:World):(Instr.typeAssert (.iface 219 v) 187 219 true).run Pg w=.ok (.tuple #[v,.bool true]) w:=by kernel_rfl
@[go_sem] theorem uJ (v:Value) (w:World):(Instr.typeAssert (.iface 221 v) 187 210 true).run Pg w=.ok (.tuple #[.agg #[Ii Jj 0,Ii Jj 0,Ii Jj 0,Ii Jj 0,Ii Jj 0,.bool false,Ii Jj 0,Ii Jj 0],.bool false]) w:=by kernel_rfl
@[go_sem] theorem uK (v:Value) (w:World):(Instr.typeAssert (.iface 221 v) 187 214 true).run Pg w=.ok (.tuple #[.agg #[Ii Jj 0],.bool false]) w:=by kernel_rfl
@[go_sem] theorem uL (v:Value) (w:World):(Instr.typeAssert (.iface 221 v) 187 212 true).run Pg w=.ok (.tuple #[.agg #[Ii Jj 0,.bool false],.bool false]) w:=by kernel_rfl
@[go_sem] theorem uM (v:Value) (w:World):(Instr.typeAssert (.iface 221 v) 187 216 true).run Pg w=.ok (.tuple #[.agg #[Ii Jj 0,Ii Jj 0],.bool false]) w:=by kernel_rfl
@[go_sem] theorem uN (v:Value) (w:World):(Instr.typeAssert (.iface 221 v) 187 217 true).run Pg w=.ok (.tuple #[.agg #[Ii Jj 0,Ii Jj 0],.bool false]) w:=by kernel_rfl
@[go_sem] theorem uO (v:Value) (w:World):(Instr.typeAssert (.iface 221 v) 187 219 true).run Pg w=.ok (.tuple #[.agg #[Ii Jj 0,Ii Jj 0,Ii Jj 0],.bool false]) w:=by kernel_rfl
@[go_sem] theorem uP (v:Value) (w:World):(Instr.typeAssert (.iface 221 v) 187 221 true).run Pg w=.ok (.tuple #[v,.bool true]) w:=by kernel_rfl
@[go_sem] theorem uQ (v:Value) (w:World):(Instr.typeAssert (.iface 223 v) 187 210 true).run Pg w=.ok (.tuple #[.agg #[Ii Jj 0,Ii Jj 0,Ii Jj 0,Ii Jj 0,Ii Jj 0,.bool false,Ii Jj 0,Ii Jj 0],.bool false]) w:=by kernel_rfl
@[go_sem] theorem uR (v:Value) (w:World):(Instr.typeAssert (.iface 223 v) 187 214 true).run Pg w=.ok (.tuple #[.agg #[Ii Jj 0],.bool false]) w:=by kernel_rfl
@[go_sem] theorem uS (v:Value) (w:World):(Instr.typeAssert (.iface 223 v) 187 212 true).run Pg w=.ok (.tuple #[.agg #[Ii Jj 0,.bool false],.bool false]) w:=by kernel_rfl
@[go_sem] theorem uT (v:Value) (w:World):(Instr.typeAssert (.iface 223 v) 187 216 true).run Pg w=.ok (.tuple #[.agg #[Ii Jj 0,Ii Jj 0],.bool false]) w:=by kernel_rfl
@[go_sem] theorem uU (v:Value) (w:World):(Instr.typeAssert (.iface 223 v) 187 217 true).run Pg w=.ok (.tuple #[.agg #[Ii Jj 0,Ii Jj 0],.bool false]) w:=by kernel_rfl
@[go_sem] theorem uV (v:Value) (w:World):(Instr.typeAssert (.iface 223 v) 187 219 true).run Pg w=.ok (.tuple #[.agg #[Ii Jj 0,Ii Jj 0,Ii Jj 0],.bool false]) w:=by kernel_rfl
@[go_sem] theorem uX (v:Value) (w:World):(Instr.typeAssert (.iface 223 v) 187 221 true).run Pg w=.ok (.tuple #[.agg #[Ii Jj 0,Ii Jj 0],.bool false]) w:=by kernel_rfl
@[go_sem] theorem uY (v:Value) (w:World):(Instr.typeAssert (.iface 223 v) 187 223 true).run Pg w=.ok (.tuple #[v,.bool true]) w:=by kernel_rfl
@[go_sem] theorem uZ (v:Value) (w:World):(Instr.typeAssert (.iface 225 v) 187 210 true).run Pg w=.ok (.tuple #[.agg #[Ii Jj 0,Ii Jj 0,Ii Jj 0,Ii Jj 0,Ii Jj 0,.bool false,Ii Jj 0,Ii Jj 0],.bool false]) w:=by kernel_rfl
@[go_sem] theorem vd (v:Value) (w:World):(Instr.typeAssert (.iface 225 v) 187 214 true).run Pg w=.ok (.tuple #[.agg #[Ii Jj 0],.bool false]) w:=by kernel_rfl
@[go_sem] theorem ve (v:Value) (w:World):(Instr.typeAssert (.iface 225 v) 187 212 true).run Pg w=.ok (.tuple #[.agg #[Ii Jj 0,.bool false],.bool false]) w:=by kernel_rfl
@[go_sem] theorem vf (v:Value) (w:World):(Instr.typeAssert (.iface 225 v) 187 216 true).run Pg w=.ok (.tuple #[.agg #[Ii Jj 0,Ii Jj 0],.bool false]) w:=by kernel_rfl
@[go_sem] theorem vg (v:Value) (w:World):(Instr.typeAssert (.iface 225 v) 187 217 true).run Pg w=.ok (.tuple #[.agg #[Ii Jj 0,Ii Jj 0],.bool false]) w:=by kernel_rfl
@[go_sem] theorem vh (v:Value) (w:World):(Instr.typeAssert (.iface 225 v) 187 219 true).run Pg w=.ok (.tuple #[.agg #[Ii Jj 0,Ii Jj 0,Ii Jj 0],.bool false]) w:=by kernel_rfl
@[go_sem] theorem vl (v:Value) (w:World):(Instr.typeAssert (.iface 225 v) 187 221 true).run Pg w=.ok (.tuple #[.agg #[Ii Jj 0,Ii Jj 0],.bool false]) w:=by kernel_rfl
@[go_sem] theorem vn (v:Value) (w:World):(Instr.typeAssert (.iface 225 v) 187 223 true).run Pg w=.ok (.tuple #[.agg #[Ii Jj 0,Ii Jj 0],.bool false]) w:=by kernel_rfl
@[go_sem] theorem vp (v:Value) (w:World):(Instr.typeAssert (.iface 225 v) 187 225 true).run Pg w=.ok (.tuple #[v,.bool true]) w:=by kernel_rfl
open Go.RowKit
def CS (w W:World) (b:Nat) (X:Array Value) (g c:Nat) (M:List aj):Prop:=
 (∀q u,X[q]? =some u->W.cell? ⟨b,q,none⟩=some u)/\AL W w.heap.size (Sl (some ⟨g,0,none⟩) M.length c) M/\Below w.heap.size w W/\b<W.heap.size/\b≠g
theorem CS.new {w w1:World} {g c:Nat} {M:List aj} (X:Array Value) (T:Nat) (h:AL w1 w.heap.size (Sl (some ⟨g,0,none⟩) M.length c) M) (hB:Below w.heap.size w w1):CS w (w1.alloc (.cells X T)) w1.heap.size X g c M:=by
 refine ⟨fun q u hq=>?_,World.ownsRow.alloc h _,hB.alloc hB.size _,by simp,fun e=>?_⟩
 ·have e:(w1.alloc (.cells X T)).heap[w1.heap.size]? =some (.cells X T (0,0)):=by
   show (w1.heap.push _)[w1.heap.size]? =_
   simp
  simp only[World.cell?]
  rw[e]
  simp[hq]
 ·have:=h.block.2
  omega
theorem CS.below {w W W':World} {b g c:Nat} {X:Array Value} {M:List aj} (h:CS w W b X g c M) (hb:Below W.heap.size W W'):CS w W' b X g c M:=
 ⟨fun q u hq=>by rw[hb.cell (p:=⟨b,q,none⟩) h.2.2.2.1];exact h.1 q u hq,h.2.1.kept hb,h.2.2.1.trans (hb.mono h.2.2.1.size),Nat.lt_of_lt_of_le h.2.2.2.1 hb.size,h.2.2.2.2⟩
theorem CS.drew {w W:World} {b g c:Nat} {X:Array Value} {M:List aj} (h:CS w W b X g c M):CS w W.drew b X g c M:=h.below ⟨rfl,rfl,rfl,Nf _,fun _ _=>rfl⟩
theorem CS.stored {w W:World} {b g c:Nat} {X:Array Value} {M:List aj} (h:CS w W b X g c M) {p:Nat} (hp:p<M.length) (j:Nat) (hj:j<8) (u:Value) (A:aj) (hA:(ab (FL M p)).set j u=ab A):CS w (W.setCell ⟨g,p*8+j,none⟩ u) b X g c (M.set p A):=by
 obtain ⟨h1,h2,h3,h4,h5⟩:=h
 refine ⟨fun q v hq=>?_,h2.stored hp j hj u A hA,dx h3 h2.block.1 _ _,by simpa [World.setCell] using h4,h5⟩
 rw[World.cell?_setCell_other _ _ _ _ (fun e=>h5 (by simpa using (congrArg Addr.block e).symm))]
 exact h1 q v hq
theorem nx (a:Option Addr) (c:Nat) (L:List aj) (i:Int) (b:Bool) (j:Nat) (w:World) (h:Fo w a L.length (FL L)) (hp:ao (FL L) L.length i=some j):
  Calls Pg 167 #[Sl a L.length c,.iface 212 (.agg #[Ii Jj i,.bool b])] w fun e w'=>∃v,e=.returned v/\AL w' w.heap.size v (L.set j {FL L j with frozen:=b})/\Below w.heap.size w w':=by
 have H:=aa h
 have hj:=(ar hp).1
 have hn:=h.1
 have HP:Hid (aK (FL L) L.length i=(j:Int)):=aE hp
 clear h hp
 go_enter Tryz.func167,Tryz.ntmps167
 go_wp2_with fail
 refine (cw a L.length c L _ rfl H.out (by omega)).mono ?_
 rintro e w1 ⟨g,c',rfl,A1,B1⟩
 obtain ⟨W,hW⟩:∃W,W=w1.alloc (.cells #[Ii Jj i,.bool b] 212):=⟨_,rfl⟩
 have S1:Hid (CS w W w1.heap.size #[Ii Jj i,.bool b] g c' L):=by rw[hW];exact CS.new #[Ii Jj i,.bool b] 212 A1 B1
 have D1:Hid (CS w W.drew w1.heap.size #[Ii Jj i,.bool b] g c' L):=S1.out.drew
 clear A1 B1
 have r0:=S1.out.1 0 _ rfl
 have r1:=S1.out.1 1 _ rfl
 go_wp2
 rw[←hW]
 clear hW
 go_region_with (
  go_at_call 63
  refine (dp a L.length c (FL L) i W.drew (H.out.below D1.out.2.2.1)).mono ?_
  rw[HP.out]
  rintro e w2 ⟨rfl,B2⟩
  have S2:=aa (D1.out.below B2)
  have s1:=S2.out.1 1 _ rfl
  have fz:∀q,w2.frozen? ⟨g,q,none⟩=false:=fun q=>S2.out.2.1.frozen q
  obtain ⟨p0,p1,p2,p3,p4,p5,p6,p7⟩:=S2.out.2.1.acc hj
  clear B2)
 all_goals go_wp2
 all_goals go_ret
 all_goals
  have Z:=S2.out.stored hj 5 (by decide) (.bool b) {FL L j with frozen:=b} rfl
  exact ⟨_,rfl,by simpa using Z.2.1,Z.2.2.1⟩
theorem rJ (a:Option Addr) (c:Nat) (L:List aj) (i m:Int) (j:Nat) (w:World) (h:Fo w a L.length (FL L)) (hp:ao (FL L) L.length i=some j):
  Calls Pg 167 #[Sl a L.length c,.iface 221 (.agg #[Ii Jj i,Ii Jj m])] w fun e w'=>∃v,e=.returned v/\AL w' w.heap.size v (L.set j {FL L j with limit:=m})/\Below w.heap.size w w':=by
 have H:=aa h
 have hj:=(ar hp).1
 have hn:=h.1
 have HP:Hid (aK (FL L) L.length i=(j:Int)):=aE hp
 clear h hp
 go_enter Tryz.func167,Tryz.ntmps167
 go_wp2_with fail
 refine (cw a L.length c L _ rfl H.out (by omega)).mono ?_
 rintro e w1 ⟨g,c',rfl,A1,B1⟩
 obtain ⟨W,hW⟩:∃W,W=w1.alloc (.cells #[Ii Jj i,Ii Jj m] 221):=⟨_,rfl⟩
 have S1:Hid (CS w W w1.heap.size #[Ii Jj i,Ii Jj m] g c' L):=by rw[hW];exact CS.new #[Ii Jj i,Ii Jj m] 221 A1 B1
 have D1:Hid (CS w W.drew w1.heap.size #[Ii Jj i,Ii Jj m] g c' L):=S1.out.drew
 clear A1 B1
 have r0:=S1.out.1 0 _ rfl
 have r1:=S1.out.1 1 _ rfl
 go_wp2
 rw[←hW]
 clear hW
 go_region_with (
  go_at_call 63
  refine (dp a L.length c (FL L) i W.drew (H.out.below D1.out.2.2.1)).mono ?_
  rw[HP.out]
  rintro e w2 ⟨rfl,B2⟩
  have S2:=aa (D1.out.below B2)
  have s1:=S2.out.1 1 _ rfl
  have fz:∀q,w2.frozen? ⟨g,q,none⟩=false:=fun q=>S2.out.2.1.frozen q
  obtain ⟨p0,p1,p2,p3,p4,p5,p6,p7⟩:=S2.out.2.1.acc hj
  clear B2)
 all_goals go_wp2
 all_goals go_ret
 all_goals
  have Z:=S2.out.stored hj 2 (by decide) (Ii Jj m) {FL L j with limit:=m} rfl
  exact ⟨_,rfl,by simpa using Z.2.1,Z.2.2.1⟩
theorem qw (a:Option Addr) (c:Nat) (L:List aj) (i m:Int) (j:Nat) (w:World) (h:Fo w a L.length (FL L)) (hp:ao (FL L) L.length i=some j):
  Calls Pg 167 #[Sl a L.length c,.iface 223 (.agg #[Ii Jj i,Ii Jj m])] w fun e w'=>∃v,e=.returned v/\AL w' w.heap.size v (L.set j {FL L j with target:=m})/\Below w.heap.size w w':=by
 have H:=aa h
 have hj:=(ar hp).1
 have hn:=h.1
 have HP:Hid (aK (FL L) L.length i=(j:Int)):=aE hp
 clear h hp
 go_enter Tryz.func167,Tryz.ntmps167
 go_wp2_with fail
 refine (cw a L.length c L _ rfl H.out (by omega)).mono ?_
 rintro e w1 ⟨g,c',rfl,A1,B1⟩
 obtain ⟨W,hW⟩:∃W,W=w1.alloc (.cells #[Ii Jj i,Ii Jj m] 223):=⟨_,rfl⟩
 have S1:Hid (CS w W w1.heap.size #[Ii Jj i,Ii Jj m] g c' L):=by rw[hW];exact CS.new #[Ii Jj i,Ii Jj m] 223 A1 B1
 have D1:Hid (CS w W.drew w1.heap.size #[Ii Jj i,Ii Jj m] g c' L):=S1.out.drew
 clear A1 B1
 have r0:=S1.out.1 0 _ rfl
 have r1:=S1.out.1 1 _ rfl
 go_wp2
 rw[←hW]
 clear hW
 go_region_with (
  go_at_call 63
  refine (dp a L.length c (FL L) i W.drew (H.out.below D1.out.2.2.1)).mono ?_
  rw[HP.out]
  rintro e w2 ⟨rfl,B2⟩
  have S2:=aa (D1.out.below B2)
  have s1:=S2.out.1 1 _ rfl
  have fz:∀q,w2.frozen? ⟨g,q,none⟩=false:=fun q=>S2.out.2.1.frozen q
  obtain ⟨p0,p1,p2,p3,p4,p5,p6,p7⟩:=S2.out.2.1.acc hj
  clear B2)
 all_goals go_wp2
 all_goals go_ret
 all_goals
  have Z:=S2.out.stored hj 4 (by decide) (Ii Jj m) {FL L j with target:=m} rfl
  exact ⟨_,rfl,by simpa using Z.2.1,Z.2.2.1⟩
theorem sx (a:Option Addr) (c:Nat) (L:List aj) (i t:Int) (j:Nat) (w:World) (h:Fo w a L.length (FL L)) (hp:ao (FL L) L.length i=some j):
  Calls Pg 167 #[Sl a L.length c,.iface 225 (.agg #[Ii Jj i,Ii Jj t])] w fun e w'=>∃v,e=.returned v/\AL w' w.heap.size v (L.set j {FL L j with up:=t})/\Below w.heap.size w w':=by
 have H:=aa h
 have hj:=(ar hp).1
 have hn:=h.1
 have HP:Hid (aK (FL L) L.length i=(j:Int)):=aE hp
 clear h hp
 go_enter Tryz.func167,Tryz.ntmps167
 go_wp2_with fail
 refine (cw a L.length c L _ rfl H.out (by omega)).mono ?_
 rintro e w1 ⟨g,c',rfl,A1,B1⟩
 obtain ⟨W,hW⟩:∃W,W=w1.alloc (.cells #[Ii Jj i,Ii Jj t] 225):=⟨_,rfl⟩
 have S1:Hid (CS w W w1.heap.size #[Ii Jj i,Ii Jj t] g c' L):=by rw[hW];exact CS.new #[Ii Jj i,Ii Jj t] 225 A1 B1
 have D1:Hid (CS w W.drew w1.heap.size #[Ii Jj i,Ii Jj t] g c' L):=S1.out.drew
 clear A1 B1
 have r0:=S1.out.1 0 _ rfl
 have r1:=S1.out.1 1 _ rfl
 go_wp2
 rw[←hW]
 clear hW
 go_region_with (
  go_at_call 63
  refine (dp a L.length c (FL L) i W.drew (H.out.below D1.out.2.2.1)).mono ?_
  rw[HP.out]
  rintro e w2 ⟨rfl,B2⟩
  have S2:=aa (D1.out.below B2)
  have s1:=S2.out.1 1 _ rfl
  have fz:∀q,w2.frozen? ⟨g,q,none⟩=false:=fun q=>S2.out.2.1.frozen q
  obtain ⟨p0,p1,p2,p3,p4,p5,p6,p7⟩:=S2.out.2.1.acc hj
  clear B2)
 all_goals go_wp2
 all_goals go_ret
 all_goals
  have Z:=S2.out.stored hj 1 (by decide) (Ii Jj t) {FL L j with up:=t} rfl
  exact ⟨_,rfl,by simpa using Z.2.1,Z.2.2.1⟩
open Go.RowKit
theorem fi (x:Int) (h1: -4000000000000<=x) (h2:x<=4000000000000):IntKind.i64.wrap x=x:=by
 simp[IntKind.wrap,IntKind.signed,IntKind.bits]
 omega
theorem ti (a:Option Addr) (c:Nat) (L:List aj) (i m:Int) (j:Nat) (w:World) (h:Fo w a L.length (FL L)) (hp:ao (FL L) L.length i=some j) (hm1: -1000000000000<=m) (hm2:m<=1000000000000) (hb1: -1000000000000<=(FL L j).balance) (hb2:(FL L j).balance<=1000000000000):
  Calls Pg 167 #[Sl a L.length c,.iface 216 (.agg #[Ii Jj i,Ii Jj m])] w fun e w'=>∃v,e=.returned v/\AL w' w.heap.size v (L.set j {FL L j with balance:=(FL L j).balance+m})/\Below w.heap.size w w':=by
 have H:=aa h
 have hj:=(ar hp).1
 have hn:=h.1
 have HP1:Hid (aK (FL L) L.length i=(j:Int)):=aE hp
 have HW:Hid (IntKind.i64.wrap ((FL L j).balance+m)=(FL L j).balance+m):=fi _ (by omega) (by omega)
 clear h hp hm1 hm2 hb1 hb2
 go_enter Tryz.func167,Tryz.ntmps167
 go_wp2_with fail
 refine (cw a L.length c L _ rfl H.out (by omega)).mono ?_
 rintro e w1 ⟨g,c',rfl,A1,B1⟩
 obtain ⟨W,hW⟩:∃W,W=w1.alloc (.cells #[Ii Jj i,Ii Jj m] 216):=⟨_,rfl⟩
 have S1:Hid (CS w W w1.heap.size #[Ii Jj i,Ii Jj m] g c' L):=by rw[hW];exact CS.new #[Ii Jj i,Ii Jj m] 216 A1 B1
 have D1:Hid (CS w W.drew w1.heap.size #[Ii Jj i,Ii Jj m] g c' L):=S1.out.drew
 clear A1 B1
 have r0:=S1.out.1 0 _ rfl
 have r1:=S1.out.1 1 _ rfl
 skip
 go_wp2
 rw[←hW]
 clear hW
 go_region_with (
  go_at_call 63
  refine (dp a L.length c (FL L) i W.drew (H.out.below D1.out.2.2.1)).mono ?_
  rw[HP1.out]
  rintro e w2 ⟨rfl,BB⟩
  have S1b:=aa (D1.out.below BB)
  have s0:=S1b.out.1 0 _ rfl
  have s1:=S1b.out.1 1 _ rfl
  have fz:∀q,w2.frozen? ⟨g,q,none⟩=false:=fun q=>S1b.out.2.1.frozen q
  have p6:=(S1b.out.2.1.acc hj).2.2.2.2.2.2.1
  clear BB)
 all_goals go_wp2
 all_goals go_ret
 all_goals
  have Z:=S1b.out.stored hj 6 (by decide) (Ii Jj ((FL L j).balance+m)) {FL L j with balance:=(FL L j).balance+m} rfl
  rw[HW.out]
  exact ⟨_,rfl,by simpa using Z.2.1,Z.2.2.1⟩
theorem sy (a:Option Addr) (c:Nat) (L:List aj) (i m:Int) (j:Nat) (w:World) (h:Fo w a L.length (FL L)) (hp:ao (FL L) L.length i=some j) (hm1: -1000000000000<=m) (hm2:m<=1000000000000) (hb1: -1000000000000<=(FL L j).balance) (hb2:(FL L j).balance<=1000000000000):
  Calls Pg 167 #[Sl a L.length c,.iface 217 (.agg #[Ii Jj i,Ii Jj m])] w fun e w'=>∃v,e=.returned v/\AL w' w.heap.size v (L.set j {FL L j with balance:=(FL L j).balance-m})/\Below w.heap.size w w':=by
 have H:=aa h
 have hj:=(ar hp).1
 have hn:=h.1
 have HP1:Hid (aK (FL L) L.length i=(j:Int)):=aE hp
 have HW:Hid (IntKind.i64.wrap ((FL L j).balance-m)=(FL L j).balance-m):=fi _ (by omega) (by omega)
 clear h hp hm1 hm2 hb1 hb2
 go_enter Tryz.func167,Tryz.ntmps167
 go_wp2_with fail
 refine (cw a L.length c L _ rfl H.out (by omega)).mono ?_
 rintro e w1 ⟨g,c',rfl,A1,B1⟩
 obtain ⟨W,hW⟩:∃W,W=w1.alloc (.cells #[Ii Jj i,Ii Jj m] 217):=⟨_,rfl⟩
 have S1:Hid (CS w W w1.heap.size #[Ii Jj i,Ii Jj m] g c' L):=by rw[hW];exact CS.new #[Ii Jj i,Ii Jj m] 217 A1 B1
 have D1:Hid (CS w W.drew w1.heap.size #[Ii Jj i,Ii Jj m] g c' L):=S1.out.drew
 clear A1 B1
 have r0:=S1.out.1 0 _ rfl
 have r1:=S1.out.1 1 _ rfl
 skip
 go_wp2
 rw[←hW]
 clear hW
 go_region_with (
  go_at_call 63
  refine (dp a L.length c (FL L) i W.drew (H.out.below D1.out.2.2.1)).mono ?_
  rw[HP1.out]
  rintro e w2 ⟨rfl,BB⟩
  have S1b:=aa (D1.out.below BB)
  have s0:=S1b.out.1 0 _ rfl
  have s1:=S1b.out.1 1 _ rfl
  have fz:∀q,w2.frozen? ⟨g,q,none⟩=false:=fun q=>S1b.out.2.1.frozen q
  have p6:=(S1b.out.2.1.acc hj).2.2.2.2.2.2.1
  clear BB)
 all_goals go_wp2
 all_goals go_ret
 all_goals
  have Z:=S1b.out.stored hj 6 (by decide) (Ii Jj ((FL L j).balance-m)) {FL L j with balance:=(FL L j).balance-m} rfl
  rw[HW.out]
  exact ⟨_,rfl,by simpa using Z.2.1,Z.2.2.1⟩
open Go.RowKit
theorem tj (a:Option Addr) (c:Nat) (L:List aj) (i t m:Int) (j q:Nat) (w:World) (h:Fo w a L.length (FL L)) (hp:ao (FL L) L.length i=some j) (hq:ao (FL L) L.length t=some q) (hjq:j≠q) (hm1: -1000000000000<=m) (hm2:m<=1000000000000) (hb1: -1000000000000<=(FL L j).balance) (hb2:(FL L j).balance<=1000000000000) (hc1: -1000000000000<=(FL L q).balance) (hc2:(FL L q).balance<=1000000000000):
  Calls Pg 167 #[Sl a L.length c,.iface 219 (.agg #[Ii Jj i,Ii Jj t,Ii Jj m])] w fun e w'=>∃v,e=.returned v/\AL w' w.heap.size v ((L.set j {FL L j with balance:=(FL L j).balance-m}).set q {FL L q with balance:=(FL L q).balance+m})/\Below w.heap.size w w':=by
 have H:=aa h
 have hj:=(ar hp).1
 have hn:=h.1
 have HP1:Hid (aK (FL L) L.length i=(j:Int)):=aE hp
 have hql:=(ar hq).1
 have HP2:Hid (aK (FL L) L.length t=(q:Int)):=aE hq
 have HW:Hid (IntKind.i64.wrap ((FL L j).balance-m)=(FL L j).balance-m):=fi _ (by omega) (by omega)
 have HV:Hid (IntKind.i64.wrap ((FL L q).balance+m)=(FL L q).balance+m):=fi _ (by omega) (by omega)
 have HQ:Hid (FL (L.set j {FL L j with balance:=(FL L j).balance-m}) q=FL L q):=fS _ (by omega)
 have hql':q<(L.set j {FL L j with balance:=(FL L j).balance-m}).length:=by simpa using hql
 clear h hp hq hm1 hm2 hb1 hb2 hc1 hc2
 go_enter Tryz.func167,Tryz.ntmps167
 go_wp2_with fail
 refine (cw a L.length c L _ rfl H.out (by omega)).mono ?_
 rintro e w1 ⟨g,c',rfl,A1,B1⟩
 obtain ⟨W,hW⟩:∃W,W=w1.alloc (.cells #[Ii Jj i,Ii Jj t,Ii Jj m] 219):=⟨_,rfl⟩
 have S1:Hid (CS w W w1.heap.size #[Ii Jj i,Ii Jj t,Ii Jj m] g c' L):=by rw[hW];exact CS.new #[Ii Jj i,Ii Jj t,Ii Jj m] 219 A1 B1
 have D1:Hid (CS w W.drew w1.heap.size #[Ii Jj i,Ii Jj t,Ii Jj m] g c' L):=S1.out.drew
 clear A1 B1
 have r0:=S1.out.1 0 _ rfl
 have r1:=S1.out.1 1 _ rfl
 have r2:=S1.out.1 2 _ rfl
 go_upto_region 24 with fail
 rw[←hW]
 clear hW
 go_cut[5,13] (fun s5 s13 wx=>s5=Sl (some ⟨g,0,none⟩) L.length c'/\s13=.pointer (some ⟨w1.heap.size,0,none⟩)/\Hid (CS w wx w1.heap.size #[Ii Jj i,Ii Jj t,Ii Jj m] g c' (L.set j {FL L j with balance:=(FL L j).balance-m})))
 case first=>
  go_region_with (
   go_at_call 63
   refine (dp a L.length c (FL L) i W.drew (H.out.below D1.out.2.2.1)).mono ?_
   rw[HP1.out]
   rintro e w2 ⟨rfl,BB⟩
   have S1b:=aa (D1.out.below BB)
   have s0:=S1b.out.1 0 _ rfl
   have s1:=S1b.out.1 1 _ rfl
   have s2:=S1b.out.1 2 _ rfl
   have fz:∀q,w2.frozen? ⟨g,q,none⟩=false:=fun q=>S1b.out.2.1.frozen q
   have p6:=(S1b.out.2.1.acc hj).2.2.2.2.2.2.1
   clear BB)
  all_goals go_wp2_with fail
  all_goals go_meet
  all_goals
   have Z:=S1b.out.stored hj 6 (by decide) (Ii Jj ((FL L j).balance-m)) {FL L j with balance:=(FL L j).balance-m} rfl
   rw[HW.out]
   exact ⟨rfl,rfl,Z⟩
 case rest=>
  obtain ⟨rfl,rfl,hcut2⟩:=hcut
  obtain ⟨V,hV⟩:∃V,V=wc:=⟨_,rfl⟩
  have S3:Hid (CS w V w1.heap.size #[Ii Jj i,Ii Jj t,Ii Jj m] g c' (L.set j {FL L j with balance:=(FL L j).balance-m})):=by rw[hV];exact hcut2.out
  have D3:Hid (CS w V.drew w1.heap.size #[Ii Jj i,Ii Jj t,Ii Jj m] g c' (L.set j {FL L j with balance:=(FL L j).balance-m})):=S3.out.drew
  clear hcut2 r0 r1 r2
  have r0:=S3.out.1 0 _ rfl
  have r1:=S3.out.1 1 _ rfl
  have r2:=S3.out.1 2 _ rfl
  go_wp2_with fail
  rw[←hV]
  clear hV
  go_region_with (
   go_at_call 63
   refine (dp a L.length c (FL L) t V.drew (H.out.below D3.out.2.2.1)).mono ?_
   rw[HP2.out]
   rintro e w2 ⟨rfl,BB⟩
   have S2b:=aa (D3.out.below BB)
   have s0:=S2b.out.1 0 _ rfl
   have s1:=S2b.out.1 1 _ rfl
   have s2:=S2b.out.1 2 _ rfl
   have fz:∀q,w2.frozen? ⟨g,q,none⟩=false:=fun q=>S2b.out.2.1.frozen q
   have p6:=(S2b.out.2.1.acc hql').2.2.2.2.2.2.1
   rw[HQ.out] at p6
   clear BB)
  all_goals go_wp2
  all_goals go_ret
  all_goals
   have Z:=S2b.out.stored hql' 6 (by decide) (Ii Jj ((FL L q).balance+m)) {FL L q with balance:=(FL L q).balance+m} (by rw[HQ.out];rfl)
   rw[HV.out]
   exact ⟨_,rfl,by simpa using Z.2.1,Z.2.2.1⟩
open Go.RowKit
def cP:List Value->Nat->List Value->List Value
 | xs,_,[]=>xs
 | xs,o,v::r=>cP (xs.set o v) (o+1) r
theorem de:∀(vs xs:List Value) (o:Nat),o+vs.length<=xs.length->cP xs o vs=xs.take o++vs++xs.drop (o+vs.length)
 | [],xs,o,_=>by simp[cP]
 | v::r,xs,o,h=>by
  simp only[List.length_cons] at h
  rw[cP,de r (xs.set o v) (o+1) (by simp;omega)]
  rw[List.take_add_one,List.getElem?_set_self (by omega),List.take_set_of_le (by omega),List.drop_set_of_lt (by omega)]
  simp only[List.length_cons,Option.toList_some,List.append_assoc,List.nil_append,List.cons_append]
  rw[show o+(r.length+1)=o+1+r.length by omega]
theorem aW {base e size n cap g:Nat}:∀(vs:List Value) (o:Nat) (w:World) (xs:List Value),w.ownsRow base e size (Sl (some ⟨g,0,none⟩) n cap) n xs->(w.setCells g o vs).ownsRow base e size (Sl (some ⟨g,0,none⟩) n cap) n (cP xs o vs)
 | [],_,_,_,h=>h
 | v::r,o,_,_,h=>aW r (o+1) _ _ (World.ownsRow.stored h o v).1
theorem aS {B g:Nat} (hg:B<=g) {w0:World}:∀(vs:List Value) (o:Nat) (w:World),Below B w0 w->Below B w0 (w.setCells g o vs)
 | [],_,_,h=>h
 | v::r,o,_,h=>aS hg r (o+1) _ (dx h hg o v)
theorem ny {w:World} {base e size n m cap g:Nat} {xs:List Value} (h:w.ownsRow base e size (Sl (some ⟨g,0,none⟩) n cap) n xs) (hm:m<=n):w.ownsRow base e size (Sl (some ⟨g,0,none⟩) m cap) m (xs.take (m*size)):=by
 have hms:m*size<=n*size:=Nat.mul_le_mul_right _ hm
 rcases h.2 with ⟨h',_⟩|⟨g',cap',cur,h',hb,hg,hnc,hcm,hcs,htake⟩
 ·simp at h'
 ·simp only[Value.slice.injEq,Option.some.injEq,Addr.mk.injEq,and_true,true_and] at h'
  obtain ⟨rfl,rfl⟩:=h'
  refine ⟨by rw[List.length_take,h.1];omega,.inr ⟨g,cap,cur,rfl,hb,hg,by omega,hcm,hcs,?_⟩⟩
  rw[←htake,List.take_take]
  congr 1
  omega
theorem io (L:List aj) (p:Nat) (hp:p<=L.length):(L.flatMap ab).take (p*8)=(L.take p).flatMap ab:=by
 have e:L.flatMap ab=(L.take p).flatMap ab++(L.drop p).flatMap ab:=by rw[←List.flatMap_append,List.take_append_drop]
 have hl:((L.take p).flatMap ab).length=p*8:=by rw[aZ];simp;omega
 rw[e,List.take_append_of_le_length (by omega),List.take_of_length_le (by omega)]
def fv:List Value:=[Ii Jj 0,Ii Jj 0,Ii Jj 0,Ii Jj 0,Ii Jj 0,.bool false,Ii Jj 0,Ii Jj 0]
theorem oR:(Builtin.zeroCells (Value.agg #[Ii Jj 0,Ii Jj 0,Ii Jj 0,Ii Jj 0,Ii Jj 0,.bool false,Ii Jj 0,Ii Jj 0]).cells 1).toList=fv:=by kernel_rfl
theorem oS (w:World) (ty:TypeId) (b o c:Nat) (hc:∀j,j<8->(w.cell? ⟨b,o+j,none⟩).isSome=true) (hf:∀j,j<8->w.frozen? ⟨b,o+j,none⟩=false):
  (Builtin.clear_ #[24] ty #[Sl (some ⟨b,o,none⟩) 1 c]).run Pg w=.ok (.tuple #[]) (w.setCells b o fv):=by
 have hst:=run_storeCells_cells (P:=Pg) b o fv 0 w (by simpa [fv] using hc) (by simpa [fv] using hf) (by intro v hv;simp only[fv,List.mem_cons,List.not_mem_nil,or_false] at hv;rcases hv with e|e|e|e|e|e|e|e <;>subst e <;>rfl)
 simp only[Nat.add_zero] at hst
 simp[Builtin.clear_,run_underlying Tryz.underlying24,oR,hst]
open Go.RowKit
theorem rK (L:List aj) (p:Nat) (hp:p<L.length):
  (cP (cP (L.flatMap ab) (p*8) ((L.drop (p+1)).flatMap ab)) ((L.length-1)*8) fv).take ((L.length-1)*8)=(L.take p++L.drop (p+1)).flatMap ab:=by
 have hl:(L.flatMap ab).length=L.length*8:=aZ L
 have hd:((L.drop (p+1)).flatMap ab).length=(L.length-(p+1))*8:=by rw[aZ];simp
 have ht:((L.take p).flatMap ab).length=p*8:=by rw[aZ];simp;omega
 have h8:fv.length=8:=rfl
 have h1:(cP (L.flatMap ab) (p*8) ((L.drop (p+1)).flatMap ab))=(L.take p).flatMap ab++(L.drop (p+1)).flatMap ab++(L.flatMap ab).drop (p*8+(L.length-(p+1))*8):=by
  rw[de _ _ _ (by omega),io L p (by omega),hd]
 have h2:((L.take p).flatMap ab++(L.drop (p+1)).flatMap ab).length=(L.length-1)*8:=by rw[List.length_append];omega
 have h3:(cP (L.flatMap ab) (p*8) ((L.drop (p+1)).flatMap ab)).length=L.length*8:=by
  rw[h1,List.length_append,h2,List.length_drop];omega
 rw[de _ _ _ (by omega),List.append_assoc,List.take_append_of_le_length (by simp;omega),List.take_take,Nat.min_self,h1,List.take_append_of_le_length (by omega),List.take_of_length_le (by omega),List.flatMap_append]
theorem oT (B g c:Nat) (L:List aj) (p:Nat) (w:World) (h:AL w B (Sl (some ⟨g,0,none⟩) L.length c) L) (hp:p<L.length) (hl:L.length<=1048576):
  Calls Pg 191 #[Sl (some ⟨g,0,none⟩) L.length c,Ii Jj p,Ii Jj ((p:Int)+1)] w fun e w'=>∃v,e=.returned v/\AL w' B v (L.take p++L.drop (p+1))/\Below B w w':=by
 obtain ⟨i0,hi,hz0,hz1,hz2⟩:=info_parts dq
 obtain ⟨hc1,hc2⟩:=h.cap
 unfold maxLen at hc2
 have hBg:=h.block.1
 obtain ⟨news,hnews⟩:∃news,news=(L.drop (p+1)).flatMap ab:=⟨_,rfl⟩
 have hnl:news.length=(L.length-(p+1))*8:=by rw[hnews,aZ];simp
 have O0:w.drew.ownsRow B 30 8 (Sl (some ⟨g,0,none⟩) L.length c) L.length (L.flatMap ab):=h
 have fl:(L.flatMap ab).length=L.length*8:=aZ L
 obtain ⟨A,hA,hsrc⟩:∃A:Addr,(if c=p+1 then some (⟨g,0,none⟩:Addr) else some ⟨g,(p+1)*8,none⟩)=some A/\Hid (∀t u,news[t]? =some u->w.drew.cell? (A.add t)=some u):=by
  by_cases e:c=p+1
  ·refine ⟨⟨g,0,none⟩,by simp[e],fun t u hu=>?_⟩
   have h0:news.length=0:=by rw[hnl];omega
   rw[List.length_eq_zero_iff.1 h0] at hu
   simp at hu
  ·refine ⟨⟨g,(p+1)*8,none⟩,by simp[e],fun t u hu=>?_⟩
   rw[hnews] at hu
   exact h.news (p+1) t u hu
 have s1:=aa hnl
 have s2:Hid (∀u ∈ news,u.oneCell'=true):=(by rw[hnews];exact dD _:∀u ∈ news,u.oneCell'=true)
 have s3:Hid (∀t,t<news.length->(w.drew.cell? ⟨g,0+p*8+t,none⟩).isSome=true/\w.drew.frozen? ⟨g,0+p*8+t,none⟩=false):=by
  intro t ht
  rw[hnl] at ht
  refine ⟨?_,h.frozen _⟩
  rw[World.ownsRow.cellAt O0 _ (by omega),List.getElem?_eq_getElem (by omega)]
  rfl
 obtain ⟨W1,hW1⟩:∃W1,W1=w.drew.setCells g (0+p*8) news:=⟨_,rfl⟩
 have O1:W1.ownsRow B 30 8 (Sl (some ⟨g,0,none⟩) L.length c) L.length (cP (L.flatMap ab) (p*8) news):=by
  have:=aW news (0+p*8) _ _ O0
  rw[←hW1,Nat.zero_add] at this
  exact this
 have B1:Below B w W1:=by rw[hW1];exact aS hBg news _ _ ⟨rfl,rfl,rfl,Nf _,fun _ _=>rfl⟩
 have hcl:∀ty,(Builtin.clear_ #[24] ty #[Sl (some ⟨g,(L.length-1)*8,none⟩) (L.length-(L.length-1)) (c-(L.length-1))]).run Pg W1=.ok (.tuple #[]) (W1.setCells g ((L.length-1)*8) fv):=fun ty=>by
  rw[show L.length-(L.length-1)=1 by omega]
  exact oS W1 ty g _ _ (fun j hj=>by rw[World.ownsRow.cellAt O1 _ (by omega),List.getElem?_eq_getElem (by rw[O1.1];omega)];rfl) (fun j _=>World.ownsRow.frozenAt O1 _)
 have hW:=aa hW1
 have Z:Hid (AL (W1.setCells g ((L.length-1)*8) fv) B (Sl (some ⟨g,0,none⟩) (L.length-1) c) (L.take p++L.drop (p+1))/\Below B w (W1.setCells g ((L.length-1)*8) fv)):=by
  refine ⟨?_,aS hBg _ _ _ B1⟩
  have o2:=ny (aW fv ((L.length-1)*8) _ _ O1) (show L.length-1<=L.length by omega)
  rw[hnews,rK L p hp] at o2
  have hlen:(L.take p++L.drop (p+1)).length=L.length-1:=by simp;omega
  unfold AL
  rw[hlen]
  exact o2
 have b0:(0:Int)<=(p:Int):=by omega
 have b1:(p:Int)<=(c:Int):=by omega
 have b2:(p:Int)+1<=(c:Int):=by omega
 have b3:(0:Int)<=(p:Int)+1:=by omega
 have b4:(p:Int)+1<=(L.length:Int):=by omega
 have b5:(p:Int)<=(p:Int)+1:=by omega
 have b6:((p:Int)+1).toNat=p+1:=by omega
 have b7:((p:Int) == (p:Int)+1)=false:=by simp;omega
 have b8:(L.length:Int)<=(c:Int):=by omega
 have b9:p+(L.length-(p+1))=L.length-1:=by omega
 clear h hnews hnl O0 O1 B1 hW1
 go_enter Tryz.func191,Tryz.ntmps191
 go_wp2_with fail
 go_region_law (refine step_append_room rfl (.tmp 22) (.tmp 25) 24 rfl 30 i0 8 Tryz.underlying24 hi hz1 g 0 p c (by simp[Act.eval,Act.put]) A (L.length-(p+1)) (c-(p+1)) news (by simp[Act.eval,Act.put]) s1.out hsrc.out s2.out (by omega) s3.out ?_;rw[←hW.out,b9])
 go_wp2
 go_ret
 exact ⟨_,rfl,Z.out.1,Z.out.2⟩
open Go.RowKit
theorem rL (a:Option Addr) (c:Nat) (L:List aj) (i:Int) (j:Nat) (w:World) (h:Fo w a L.length (FL L)) (hp:ao (FL L) L.length i=some j):
  Calls Pg 167 #[Sl a L.length c,.iface 214 (.agg #[Ii Jj i])] w fun e w'=>∃v,e=.returned v/\AL w' w.heap.size v (L.take j++L.drop (j+1))/\Below w.heap.size w w':=by
 have H:=aa h
 have hj:=(ar hp).1
 have hn:=h.1
 have HP:Hid (aK (FL L) L.length i=(j:Int)):=aE hp
 have hwr:IntKind.i64.wrap ((j:Int)+1)=(j:Int)+1:=by rw[IntKind.wrap_i64];omega
 clear h hp
 go_enter Tryz.func167,Tryz.ntmps167
 go_wp2_with fail
 refine (cw a L.length c L _ rfl H.out (by omega)).mono ?_
 rintro e w1 ⟨g,c',rfl,A1,B1⟩
 have S1:Hid (CS w (w1.alloc (.cells #[Ii Jj i] 214)) w1.heap.size #[Ii Jj i] g c' L):=CS.new #[Ii Jj i] 214 A1 B1
 clear A1 B1
 go_wp2_with fail
 refine (dp a L.length c (FL L) i _ (H.out.below S1.out.2.2.1)).mono ?_
 rw[HP.out]
 rintro e w2 ⟨rfl,B2⟩
 have S2:=aa (S1.out.below B2)
 clear B2 S1
 go_wp2_with fail
 refine (oT w.heap.size g c' L j _ S2.out.2.1 hj hn).mono ?_
 rintro e w3 ⟨v,rfl,A3,B3⟩
 have S3:Hid (AL w3 w.heap.size v (L.take j++L.drop (j+1))/\Below w.heap.size w w3):=⟨A3,S2.out.2.2.1.trans B3⟩
 obtain ⟨va,vc,hv⟩:=A3.len
 obtain ⟨n',hn'⟩:∃n',n'=(L.take j++L.drop (j+1)).length:=⟨_,rfl⟩
 rw[←hn'] at hv
 subst hv
 clear A3 B3 hn'
 go_wp2
 go_ret
 exact ⟨_,rfl,S3.out.1,S3.out.2⟩
open Go.RowKit
theorem fX (w:World) (ty:TypeId) (b o dLen dCap:Nat) (a:Addr) (sLen sCap:Nat) (n:Nat) (cs:List Value)
  (hn:n=Nat.min sLen dLen) (hl:cs.length=n*8)
  (hsrc:∀j v,cs[j]? =some v->w.cell? (a.add j)=some v) (hc:∀j,j<cs.length->(w.cell? ⟨b,o+j,none⟩).isSome=true) (hf:∀j,j<cs.length->w.frozen? ⟨b,o+j,none⟩=false) (h1:∀v ∈ cs,v.oneCell'=true):
  (Builtin.copy_ #[24,24] ty #[Sl (some ⟨b,o,none⟩) dLen dCap,Sl (some a) sLen sCap]).run Pg w=.ok (goInt n) (w.setCells b o cs):=by
 obtain ⟨i0,hi,hz0,hz1,hz2⟩:=info_parts dq
 have hld:=run_loadCells_list (P:=Pg) w a cs hsrc
 have hst:=run_storeCells_cells (P:=Pg) b o cs 0 w (by simpa using hc) (by simpa using hf) h1
 rw[hl] at hld
 simp[Builtin.copy_,run_underlying Tryz.underlying24,Builtin.lenOf,Builtin.firstCells,sizeOf,typeInfo,hi,hz1,←hn,hld,hst]
theorem nz {w:World} {base e size n cap g:Nat} {xs:List Value} (h:w.ownsRow base e size (Sl (some ⟨g,0,none⟩) n cap) n xs) (hn:n+1<=cap):∃ys:List Value,ys.length=size/\w.ownsRow base e size (Sl (some ⟨g,0,none⟩) (n+1) cap) (n+1) (xs++ys):=by
 rcases h.2 with ⟨h',_⟩|⟨g',cap',cur,h',hb,hg,hnc,hcm,hcs,htake⟩
 ·simp at h'
 ·simp only[Value.slice.injEq,Option.some.injEq,Addr.mk.injEq,and_true,true_and] at h'
  obtain ⟨rfl,rfl⟩:=h'
  have hms:(n+1)*size<=cap*size:=Nat.mul_le_mul_right _ hn
  have hm1:(n+1)*size=n*size+size:=by rw[Nat.add_mul,Nat.one_mul]
  refine ⟨(cur.toList.drop (n*size)).take size,by simp[hcs];omega,⟨by rw[List.length_append,h.1];simp[hcs];omega,.inr ⟨g,cap,cur,rfl,hb,hg,hn,hcm,hcs,?_⟩⟩⟩
  rw[←htake,hm1,List.take_add]
theorem rM (L:List aj) (i:Nat) (x:aj) (ys:List Value) (hy:ys.length=8) (hi:i<L.length):
  cP (cP (L.flatMap ab++ys) ((i+1)*8) ((L.drop i).flatMap ab)) (i*8) (ab x)=(L.take i++x::L.drop i).flatMap ab:=by
 have hl:(L.flatMap ab).length=L.length*8:=aZ L
 have hd:((L.drop i).flatMap ab).length=(L.length-i)*8:=by rw[aZ];simp
 have ht:((L.take i).flatMap ab).length=i*8:=by rw[aZ];simp;omega
 have h8:(ab x).length=8:=rfl
 have hw:(L.flatMap ab++ys).length=(L.length+1)*8:=by rw[List.length_append];omega
 have e1:cP (L.flatMap ab++ys) ((i+1)*8) ((L.drop i).flatMap ab)=(L.flatMap ab++ys).take ((i+1)*8)++(L.drop i).flatMap ab:=by
  have ez:(L.flatMap ab++ys).drop ((i+1)*8+(L.length-i)*8)=[]:=List.drop_eq_nil_of_le (by omega)
  rw[de _ _ _ (by omega),hd,ez,List.append_nil]
 have e3:((L.flatMap ab++ys).take ((i+1)*8)).length=(i+1)*8:=by rw[List.length_take];omega
 rw[e1,de _ _ _ (by rw[List.length_append];omega),h8]
 rw[List.take_append_of_le_length (by omega),List.take_take,show min (i*8) ((i+1)*8)=i*8 by omega,List.take_append_of_le_length (by omega),io L i (by omega)]
 rw[show i*8+8=(i+1)*8 by omega,List.drop_append_of_le_length (by omega),List.drop_of_length_le (by omega)]
 simp
open Go.RowKit
theorem kN {w:World} {base e size n cap g:Nat} {xs:List Value} (h:w.ownsRow base e size (Sl (some ⟨g,0,none⟩) n cap) n xs):∃cur,w.heap[g]? =some (.cells cur e (0,0))/\cur.size=cap*size:=by
 rcases h.2 with ⟨h',_⟩|⟨g',cap',cur,h',hb,hg,hnc,hcm,hcs,htake⟩
 ·simp at h'
 ·simp only[Value.slice.injEq,Option.some.injEq,Addr.mk.injEq,and_true,true_and] at h'
  obtain ⟨rfl,rfl⟩:=h'
  exact ⟨cur,hg,hcs⟩
theorem tk (w:World):(Go.sizeOf 30).run Pg w=.ok 8 w:=by kernel_rfl
theorem fU (x:aj):∀v ∈ ab x,v.oneCell'=true:=by
 intro u hx
 simp only[ab,List.mem_cons,List.not_mem_nil,or_false] at hx
 rcases hx with e|e|e|e|e|e|e|e <;>subst e <;>rfl
def lL (w:World) (vb:Nat) (x:aj):Prop:=w.heap[vb]? =some (.cells (ab x).toArray 30 (0,0))
theorem lL.cell {w:World} {vb:Nat} {x:aj} (h:lL w vb x) (j:Nat) (v:Value) (hj:(ab x)[j]? =some v):w.cell? ((⟨vb,0,none⟩:Addr).add j)=some v:=by
 rw[Addr.add_lit,Nat.zero_add]
 unfold lL at h
 simp only[World.cell?,h]
 simp[hj]
theorem lL.setCells {vb:Nat} {x:aj} {g:Nat} (hne:vb≠g):∀(vs:List Value) (o:Nat) (w:World),lL w vb x->lL (w.setCells g o vs) vb x
 | [],_,_,h=>h
 | v::r,o,_,h=>lL.setCells hne r (o+1) _ (by unfold lL at h ⊢;rw[Below.heap_setCell _ _ _ _ hne];exact h)
theorem rN (B g c:Nat) (L:List aj) (i:Nat) (x:aj) (vb:Nat) (w:World) (h:AL w B (Sl (some ⟨g,0,none⟩) L.length c) L) (hi:i<L.length) (hr:L.length+1<=c) (hl:L.length<=1048576) (hv:lL w vb x) (hne:vb≠g):
  Calls Pg 190 #[Sl (some ⟨g,0,none⟩) L.length c,Ii Jj i,Sl (some ⟨vb,0,none⟩) 1 1] w fun e w'=>e=.returned (Sl (some ⟨g,0,none⟩) (L.length+1) c)/\AL w' B (Sl (some ⟨g,0,none⟩) (L.length+1) c) (L.take i++x::L.drop i)/\Below B w w':=by
 obtain ⟨hc1,hc2⟩:=h.cap
 unfold maxLen at hc2
 have hBg:=h.block.1
 obtain ⟨cur,hcur,hcs⟩:=kN h
 obtain ⟨ys,hy,O0⟩:=nz h hr
 have fl:(L.flatMap ab++ys).length=(L.length+1)*8:=by rw[List.length_append,aZ,hy];omega
 have hov:∀lb cb,(callFunc 205 #[Sl (some ⟨vb,0,none⟩) 1 1,Sl (some ⟨g,(i+1)*8,none⟩) lb cb]).run Pg w=.ok (.value (.bool false)) w:=fun lb cb=>by
  rw[run_callFunc_extern Tryz.func205 (by kernel_rfl) (by kernel_rfl) (by kernel_rfl) (e:=Extern.SlicesOverlaps.overlaps #[24,24] #[4]) (by kernel_rfl),
   Lib.run_overlaps_apart w 24 4 30 Tryz.underlying24 8 tk ⟨vb,0,none⟩ ⟨g,(i+1)*8,none⟩ 1 1 lb cb hne 30 30 8 (c*8) (by unfold World.shape?;rw[hv];rfl) (by unfold World.shape?;rw[hcur,←hcs]) (by omega) (by unfold World.frozen?;rw[hv];rfl) (by unfold World.frozen?;rw[hv];rfl)]
  rfl
 obtain ⟨cs,hcsd⟩:∃cs,cs=(L.drop i).flatMap ab:=⟨_,rfl⟩
 have hdl:cs.length=(L.length-i)*8:=by rw[hcsd,aZ];simp
 have O0d:w.drew.ownsRow B 30 8 (Sl (some ⟨g,0,none⟩) (L.length+1) c) (L.length+1) (L.flatMap ab++ys):=O0
 obtain ⟨W1,hW1⟩:∃W1,W1=w.drew.setCells g ((i+1)*8) cs:=⟨_,rfl⟩
 have hcp1:∀ty dc sc,(Builtin.copy_ #[24,24] ty #[Sl (some ⟨g,(i+1)*8,none⟩) (L.length-i) dc,Sl (some ⟨g,i*8,none⟩) (L.length+1-i) sc]).run Pg w.drew=.ok (goInt ((L.length-i:Nat):Int)) W1:=fun ty dc sc=>by
  rw[hW1]
  exact fX w.drew ty g ((i+1)*8) (L.length-i) dc ⟨g,i*8,none⟩ (L.length+1-i) sc (L.length-i) cs (by simp only[Nat.min_def];split <;>omega) hdl
   (fun j v hj=>by rw[hcsd] at hj;exact h.news i j v hj)
   (fun j hj=>by rw[World.ownsRow.cellAt O0d _ (by omega),List.getElem?_eq_getElem (by omega)];rfl) (fun j _=>World.ownsRow.frozenAt O0d _) (by rw[hcsd];exact dD _)
 have O1:W1.ownsRow B 30 8 (Sl (some ⟨g,0,none⟩) (L.length+1) c) (L.length+1) (cP (L.flatMap ab++ys) ((i+1)*8) cs):=by rw[hW1];exact aW cs _ _ _ O0d
 have hv1:lL W1 vb x:=by rw[hW1];exact lL.setCells hne cs _ _ hv
 have B1:Below B w W1:=by rw[hW1];exact aS hBg cs _ _ ⟨rfl,rfl,rfl,Nf _,fun _ _=>rfl⟩
 have hcp2:∀ty dc,(Builtin.copy_ #[24,24] ty #[Sl (some ⟨g,i*8,none⟩) (L.length+1-i) dc,Sl (some ⟨vb,0,none⟩) 1 1]).run Pg W1=.ok (goInt 1) (W1.setCells g (i*8) (ab x)):=fun ty dc=>
  fX W1 ty g (i*8) (L.length+1-i) dc ⟨vb,0,none⟩ 1 1 1 (ab x) (by simp only[Nat.min_def];split <;>omega) rfl hv1.cell
   (fun j hj=>by have h8:j<8:=hj;rw[World.ownsRow.cellAt O1 _ (by omega),List.getElem?_eq_getElem (by rw[O1.1];omega)];rfl) (fun j _=>World.ownsRow.frozenAt O1 _) (fU x)
 have Z:Hid (AL (W1.setCells g (i*8) (ab x)) B (Sl (some ⟨g,0,none⟩) (L.length+1) c) (L.take i++x::L.drop i)/\Below B w (W1.setCells g (i*8) (ab x))):=by
  refine ⟨?_,aS hBg _ _ _ B1⟩
  have o2:=aW (ab x) (i*8) _ _ O1
  rw[hcsd,rM L i x ys hy hi] at o2
  have hlen:(L.take i++x::L.drop i).length=L.length+1:=by simp;omega
  unfold AL
  rw[hlen]
  exact o2
 have hz2:((i:Int) == (L.length:Int))=false:=by simp;omega
 have hw1:IntKind.i64.wrap ((i:Int)+1)=(i:Int)+1:=by rw[IntKind.wrap_i64];omega
 have hw2:IntKind.i64.wrap ((L.length:Int)+1)=(L.length:Int)+1:=by rw[IntKind.wrap_i64];omega
 have hb1:(0:Int)<=(i:Int)+1:=by omega
 have hb0:(0:Int)<=(L.length:Int)+1:=by omega
 have hb5:(L.length:Int)+1<=(c:Int):=by omega
 have hin:i<=L.length:=by omega
 have htn:((i:Int)+1).toNat=i+1:=by omega
 have htl:((L.length:Int)+1).toNat=L.length+1:=by omega
 have hb2:¬(c=i+1):=by omega
 have hb3:(i:Int)<=(L.length:Int)+1:=by omega
 have hb6:(i:Int)+1<=(L.length:Int)+1:=by omega
 have hb4:¬(c=i):=by omega
 clear h hcur hcs O0 O0d fl hdl hcsd hW1 O1 hv1 B1 hv hy
 go_enter Tryz.func190,Tryz.ntmps190
 go_wp2_with (simp only[hov])
 go_region_law (refine step_copy_runI rfl _ _ 24 24 rfl (Sl (some ⟨g,(i+1)*8,none⟩) (L.length-i) (c-(i+1))) (Sl (some ⟨g,i*8,none⟩) (L.length+1-i) (c-i)) (by simp[Act.eval,Act.put]) (by simp[Act.eval,Act.put]) (hcp1 3 (c-(i+1)) (c-i)) ?_)
 go_wp2_with (at_builtin;refine wpList_copy_runI _ rfl _ _ 24 24 rfl _ _ rfl rfl (hcp2 _ _) ?_)
 go_ret
 exact ⟨rfl,Z.out.1,Z.out.2⟩
open Go.RowKit
theorem tl (B g c:Nat) (L:List aj) (x:aj) (vb:Nat) (w:World) (h:AL w B (Sl (some ⟨g,0,none⟩) L.length c) L) (hB:B<=w.heap.size) (hl:L.length<=1048576) (hv:lL w vb x):
  Calls Pg 190 #[Sl (some ⟨g,0,none⟩) L.length c,Ii Jj L.length,Sl (some ⟨vb,0,none⟩) 1 1] w fun e w'=>∃v,e=.returned v/\AL w' B v (L++[x])/\Below B w w':=by
 obtain ⟨i0,hi,hz0,hz1,hz2⟩:=info_parts dq
 obtain ⟨hc1,hc2⟩:=h.cap
 unfold maxLen at hc2
 have H:=aa h
 have HV:=aa hv
 have hBg:=h.block.1
 obtain ⟨A,hA⟩:∃A:Addr,(if c=L.length then some (⟨g,0,none⟩:Addr) else some ⟨g,L.length*8,none⟩)=some A:=by
  by_cases e:c=L.length
  ·exact ⟨_,by rw[if_pos e]⟩
  ·exact ⟨_,by rw[if_neg e]⟩
 clear h hv
 go_enter Tryz.func190,Tryz.ntmps190
 go_wp2_with (at_builtin;refine wpList_append_own _ rfl _ _ 24 rfl B 30 i0 _ 8 64 Tryz.underlying24 hi hz0 hz1 hz2 rfl (by decide) _ _ _ rfl H.out ⟨vb,0,none⟩ 1 1 (ab x) rfl rfl HV.out.cell (fU x) ?_ ?_ hB ?_)
 ·unfold maxLen;omega
 ·omega
 ·intro v' w2 hown hgrow hnn
  have A2:Hid (AL w2 B v' (L++[x])):=by
   show AL w2 B v' (L++[x])
   unfold AL
   simpa using hown
  have B2:Hid (Below B w w2):=(Below.refl _ _).grown hgrow hB (fun q hq=>by simp[Value.ownBlock] at hq;omega)
  clear hown hgrow hnn
  obtain ⟨a2,c2,hv2⟩:=A2.out.len
  obtain ⟨n',hn'⟩:∃n',n'=(L++[x]).length:=⟨_,rfl⟩
  rw[←hn'] at hv2
  subst hv2
  clear hn'
  go_wp2
  go_ret
  exact ⟨_,rfl,A2.out,B2.out⟩
theorem tm (B:Nat) (x:aj) (vb:Nat) (w:World) (hB:B<=w.heap.size) (hv:lL w vb x):
  Calls Pg 190 #[Sl none 0 0,Ii Jj 0,Sl (some ⟨vb,0,none⟩) 1 1] w fun e w'=>∃v,e=.returned v/\AL w' B v [x]/\Below B w w':=by
 obtain ⟨i0,hi,hz0,hz1,hz2⟩:=info_parts dq
 have H:Hid (AL w B (Sl none 0 0) []):=World.ownsRow_nil _ _ _ _
 have HV:=aa hv
 clear hv
 go_enter Tryz.func190,Tryz.ntmps190
 go_wp2_with (at_builtin;refine wpList_append_own _ rfl _ _ 24 rfl B 30 i0 _ 8 64 Tryz.underlying24 hi hz0 hz1 hz2 rfl (by decide) _ _ _ rfl H.out ⟨vb,0,none⟩ 1 1 (ab x) rfl rfl HV.out.cell (fU x) ?_ ?_ hB ?_)
 ·unfold maxLen;simp
 ·simp
 ·intro v' w2 hown hgrow hnn
  have A2:Hid (AL w2 B v' [x]):=by
   show AL w2 B v' [x]
   unfold AL
   simpa using hown
  have B2:Hid (Below B w w2):=(Below.refl _ _).grown hgrow hB (fun q hq=>by simp[Value.ownBlock] at hq)
  clear hown hgrow hnn
  obtain ⟨a2,c2,hv2⟩:=A2.out.len
  obtain ⟨n',hn'⟩:∃n',n'=[x].length:=⟨_,rfl⟩
  rw[←hn'] at hv2
  subst hv2
  clear hn'
  go_wp2
  go_ret
  exact ⟨_,rfl,A2.out,B2.out⟩
open Go.RowKit
theorem vy (k:Nat):(Builtin.zeroCells (Value.agg #[Ii Jj 0,Ii Jj 0,Ii Jj 0,Ii Jj 0,Ii Jj 0,.bool false,Ii Jj 0,Ii Jj 0]).cells k).size=k*8:=by
 simp[Builtin.zeroCells,Value.cells]
theorem sA (B g c:Nat) (L:List aj) (i:Nat) (x:aj) (vb:Nat) (w:World) (h:AL w B (Sl (some ⟨g,0,none⟩) L.length c) L) (hB:B<=w.heap.size) (hi:i<L.length) (hr:c<L.length+1) (hl:L.length<=1048576) (hv:lL w vb x) (hvw:vb<w.heap.size):
  Calls Pg 190 #[Sl (some ⟨g,0,none⟩) L.length c,Ii Jj i,Sl (some ⟨vb,0,none⟩) 1 1] w fun e w'=>∃v,e=.returned v/\AL w' B v (L.take i++x::L.drop i)/\Below B w w':=by
 obtain ⟨i0,hi0,hz0,hzs,hzb⟩:=info_parts dq
 obtain ⟨hc1,hc2⟩:=h.cap
 unfold maxLen at hc2
 obtain ⟨hBg,hgw⟩:=h.block
 have hkk:(L.length:Int)+1-(i:Int)=((L.length+1-i:Nat):Int):=by omega
 have hik:i+(L.length+1-i)=L.length+1:=by omega
 have htl:((L.take i).flatMap ab).length=i*8:=by rw[aZ];simp;omega
 have fl:(L.flatMap ab).length=L.length*8:=aZ L
 have hold:(Builtin.firstCells i0.size i (Sl (some ⟨g,0,none⟩) i c)).run Pg w.drew=.ok ((L.take i).flatMap ab).toArray w.drew:=by
  rw[hzs]
  exact run_firstCells_some w.drew 8 i ⟨g,0,none⟩ i c ((L.take i).flatMap ab) htl (fun j v hj=>by
   rw[Addr.add_lit,Nat.zero_add]
   have hjl:j<i*8:=by
    have:=(List.getElem?_eq_some_iff.1 hj).1
    rwa [htl] at this
   show w.cell? ⟨g,j,none⟩=some v
   rw[World.ownsRow.cellAt h j (by omega),←hj,←io L i (by omega),List.getElem?_take]
   simp[hjl])
 have hrz:∀ty,(Builtin.append_ #[24,3] ty #[Sl (some ⟨g,0,none⟩) i c,Ii Jj ((L.length:Int)+1-(i:Int))]).run Pg w=
   .ok (Sl (some ⟨w.heap.size,0,none⟩) (L.length+1) (grownCap w (L.length+1) c 30)) (w.drew.alloc (.cells (((L.take i).flatMap ab).toArray++Builtin.zeroCells (Value.agg #[Ii Jj 0,Ii Jj 0,Ii Jj 0,Ii Jj 0,Ii Jj 0,.bool false,Ii Jj 0,Ii Jj 0]).cells (L.length+1-i)++Builtin.zeroCells (Value.agg #[Ii Jj 0,Ii Jj 0,Ii Jj 0,Ii Jj 0,Ii Jj 0,.bool false,Ii Jj 0,Ii Jj 0]).cells (grownCap w (L.length+1) c 30-(L.length+1))) 30)):=fun ty=>by
  have h:=Lib.run_append_grow_zeros w 24 3 ty 30 i0 _ .i64 .i64 Tryz.underlying24 Tryz.underlying3 hi0 hz0 (some ⟨g,0,none⟩) i c ((L.take i).flatMap ab) hold (L.length+1-i) (by omega) (by omega) (by omega) (by omega) (by rw[hzb];omega) (by rw[hzb,hik];exact growslice_fits hr (by omega))
  rw[hik] at h
  rw[hkk]
  exact h
 obtain ⟨G,hG⟩:∃G,G=grownCap w (L.length+1) c 30:=⟨_,rfl⟩
 obtain ⟨ROW,hROW⟩:∃ROW:Array Value,ROW=((L.take i).flatMap ab).toArray++Builtin.zeroCells (Value.agg #[Ii Jj 0,Ii Jj 0,Ii Jj 0,Ii Jj 0,Ii Jj 0,.bool false,Ii Jj 0,Ii Jj 0]).cells (L.length+1-i)++Builtin.zeroCells (Value.agg #[Ii Jj 0,Ii Jj 0,Ii Jj 0,Ii Jj 0,Ii Jj 0,.bool false,Ii Jj 0,Ii Jj 0]).cells (G-(L.length+1)):=⟨_,rfl⟩
 rw[←hG] at hrz
 rw[←hROW] at hrz
 have hGn:L.length+1<=G:=by rw[hG];exact grownCap_ge w _ _ _
 have hG63:G<=maxLen:=by
  rw[hG]
  exact grownCap_le_maxLen w (L.length+1) c 30 (by unfold maxLen;omega)
 have hRs:ROW.size=G*8:=by
  rw[hROW]
  simp only[Array.size_append,vy,List.size_toArray,htl]
  omega
 obtain ⟨W1,hW1⟩:∃W1,W1=w.drew.alloc (.cells ROW 30):=⟨_,rfl⟩
 rw[←hW1] at hrz
 obtain ⟨zs,hzl,hzs'⟩:∃zs:List Value,zs.length=(L.length+1-i)*8/\ROW.toList.take ((L.length+1)*8)=(L.take i).flatMap ab++zs:=by
  refine ⟨(Builtin.zeroCells (Value.agg #[Ii Jj 0,Ii Jj 0,Ii Jj 0,Ii Jj 0,Ii Jj 0,.bool false,Ii Jj 0,Ii Jj 0]).cells (L.length+1-i)).toList,by rw[Array.length_toList,vy],?_⟩
  have e2:(((L.take i).flatMap ab)++(Builtin.zeroCells (Value.agg #[Ii Jj 0,Ii Jj 0,Ii Jj 0,Ii Jj 0,Ii Jj 0,.bool false,Ii Jj 0,Ii Jj 0]).cells (L.length+1-i)).toList).length=(L.length+1)*8:=by
   rw[List.length_append,htl,Array.length_toList,vy];omega
  rw[hROW,Array.toList_append,Array.toList_append,List.toList_toArray,List.take_append_of_le_length (by omega),List.take_of_length_le (by omega)]
 have O1:W1.ownsRow B 30 8 (Sl (some ⟨w.heap.size,0,none⟩) (L.length+1) G) (L.length+1) ((L.take i).flatMap ab++zs):=by
  refine ⟨by rw[List.length_append,htl,hzl];omega,.inr ⟨w.heap.size,G,ROW,rfl,hB,?_,hGn,hG63,hRs,hzs'⟩⟩
  rw[hW1]
  show (w.heap.push _)[w.heap.size]? =_
  simp
 have B1:Below w.heap.size w W1:=by
  rw[hW1]
  exact (show Below w.heap.size w w.drew from ⟨rfl,rfl,rfl,Nf _,fun _ _=>rfl⟩).alloc (Nf _) _
 have hv1:lL W1 vb x:=by unfold lL at hv ⊢;rw[B1.block vb hvw];exact hv
 have hcpA:∀ty dc,(Builtin.copy_ #[24,24] ty #[Sl (some ⟨w.heap.size,i*8,none⟩) (L.length+1-i) dc,Sl (some ⟨vb,0,none⟩) 1 1]).run Pg W1=.ok (goInt 1) (W1.setCells w.heap.size (i*8) (ab x)):=fun ty dc=>
  fX W1 ty w.heap.size (i*8) (L.length+1-i) dc ⟨vb,0,none⟩ 1 1 1 (ab x) (by simp only[Nat.min_def];split <;>omega) rfl hv1.cell
   (fun j hj=>by have h8:j<8:=hj;rw[World.ownsRow.cellAt O1 _ (by omega),List.getElem?_eq_getElem (by rw[O1.1];omega)];rfl) (fun j _=>World.ownsRow.frozenAt O1 _) (fU x)
 obtain ⟨W2,hW2⟩:∃W2,W2=W1.setCells w.heap.size (i*8) (ab x):=⟨_,rfl⟩
 rw[←hW2] at hcpA
 have O2:W2.ownsRow B 30 8 (Sl (some ⟨w.heap.size,0,none⟩) (L.length+1) G) (L.length+1) (cP ((L.take i).flatMap ab++zs) (i*8) (ab x)):=by rw[hW2];exact aW _ _ _ _ O1
 have O2d:W2.drew.ownsRow B 30 8 (Sl (some ⟨w.heap.size,0,none⟩) (L.length+1) G) (L.length+1) (cP ((L.take i).flatMap ab++zs) (i*8) (ab x)):=O2
 have B2:Below w.heap.size w W2.drew:=by
  have:Below w.heap.size w W2:=by rw[hW2];exact aS (Nf _) _ _ _ B1
  exact this.trans ⟨rfl,rfl,rfl,Nf _,fun _ _=>rfl⟩
 obtain ⟨cs,hcsd⟩:∃cs,cs=(L.drop i).flatMap ab:=⟨_,rfl⟩
 have hdl:cs.length=(L.length-i)*8:=by rw[hcsd,aZ];simp
 have hcpB:∀ty dc sc,(Builtin.copy_ #[24,24] ty #[Sl (some ⟨w.heap.size,(i+1)*8,none⟩) (L.length-i) dc,Sl (some ⟨g,i*8,none⟩) (L.length-i) sc]).run Pg W2.drew=.ok (goInt ((L.length-i:Nat):Int)) (W2.drew.setCells w.heap.size ((i+1)*8) cs):=fun ty dc sc=>
  fX W2.drew ty w.heap.size ((i+1)*8) (L.length-i) dc ⟨g,i*8,none⟩ (L.length-i) sc (L.length-i) cs (by simp only[Nat.min_def];split <;>omega) hdl
   (fun j v hj=>by
    rw[hcsd] at hj
    have:=h.news i j v hj
    rw[Addr.add_lit] at this ⊢
    rw[B2.cell (p:=⟨g,i*8+j,none⟩) hgw]
    exact this)
   (fun j hj=>by rw[World.ownsRow.cellAt O2d _ (by omega),List.getElem?_eq_getElem (by rw[O2d.1];omega)];rfl) (fun j _=>World.ownsRow.frozenAt O2d _) (by rw[hcsd];exact dD _)
 have Z:Hid (AL (W2.drew.setCells w.heap.size ((i+1)*8) cs) B (Sl (some ⟨w.heap.size,0,none⟩) (L.length+1) G) (L.take i++x::L.drop i)/\Below B w (W2.drew.setCells w.heap.size ((i+1)*8) cs)):=by
  refine ⟨?_,(aS (Nf _) _ _ _ B2).mono hB⟩
  have o3:=aW cs ((i+1)*8) _ _ O2d
  have h8:(ab x).length=8:=rfl
  have hx1:((L.take i).flatMap ab++zs).length=(L.length+1)*8:=by rw[List.length_append,htl,hzl];omega
  have e1:cP ((L.take i).flatMap ab++zs) (i*8) (ab x)=(L.take i).flatMap ab++ab x++((L.take i).flatMap ab++zs).drop ((i+1)*8):=by
   rw[de _ _ _ (by omega),List.take_append_of_le_length (by omega),List.take_of_length_le (by omega),h8,show i*8+8=(i+1)*8 by omega]
  have hx2:(cP ((L.take i).flatMap ab++zs) (i*8) (ab x)).length=(L.length+1)*8:=O2.1
  have hx3:((L.take i).flatMap ab++ab x).length=(i+1)*8:=by rw[List.length_append,htl,h8];omega
  have ez:(cP ((L.take i).flatMap ab++zs) (i*8) (ab x)).drop ((i+1)*8+(L.length-i)*8)=[]:=List.drop_eq_nil_of_le (by omega)
  have e2:cP (cP ((L.take i).flatMap ab++zs) (i*8) (ab x)) ((i+1)*8) cs=(L.take i).flatMap ab++ab x++cs:=by
   rw[de _ _ _ (by omega),hdl,ez,List.append_nil,e1,List.take_append_of_le_length (by omega),List.take_of_length_le (by omega)]
  rw[e2] at o3
  have hlen:(L.take i++x::L.drop i).length=L.length+1:=by simp;omega
  unfold AL
  rw[hlen,List.flatMap_append,List.flatMap_cons,←List.append_assoc,←hcsd]
  exact o3
 have hz2:((i:Int) == (L.length:Int))=false:=by simp;omega
 have hz3:(c:Int)<(L.length:Int)+1:=by omega
 have hz4:decide ((c:Int)<(L.length:Int)+1)=true:=by simp;omega
 have hw1:IntKind.i64.wrap ((i:Int)+1)=(i:Int)+1:=by rw[IntKind.wrap_i64];omega
 have hw2:IntKind.i64.wrap ((L.length:Int)+1)=(L.length:Int)+1:=by rw[IntKind.wrap_i64];omega
 have hw3:IntKind.i64.wrap ((L.length:Int)+1-(i:Int))=(L.length:Int)+1-(i:Int):=by rw[IntKind.wrap_i64];omega
 have hb1:(0:Int)<=(i:Int)+1:=by omega
 have hin:i<=L.length:=by omega
 have hic:i<=c:=by omega
 have htn:((i:Int)+1).toNat=i+1:=by omega
 have hGi:¬(G=i):=by omega
 have hGim:¬(G=i+1):=by omega
 have hb3:(i:Int)<=(L.length:Int)+1:=by omega
 have hb6:(i:Int)+1<=(L.length:Int)+1:=by omega
 have hb4:¬(c=i):=by omega
 unfold maxLen at hG63
 clear h hkk hik htl fl hold hROW hG hRs hzs' hzl O1 B1 hv1 hv hW1 hW2 O2 O2d B2 hcsd hdl
 go_enter Tryz.func190,Tryz.ntmps190
 go_wp2_with (first
  | (at_builtin;refine Lib.wpList_append_run _ rfl _ _ _ _ rfl _ _ rfl rfl _ _ (hrz _) ?_)
  | (at_builtin;refine wpList_copy_runI _ rfl _ _ 24 24 rfl _ _ rfl rfl (hcpA _ _) ?_))
 go_region_law (refine step_copy_runI rfl _ _ 24 24 rfl (Sl (some ⟨w.heap.size,(i+1)*8,none⟩) (L.length-i) (G-(i+1))) (Sl (some ⟨g,i*8,none⟩) (L.length-i) (c-i)) (by simp[Act.eval,Act.put]) (by simp[Act.eval,Act.put]) (hcpB 3 (G-(i+1)) (c-i)) ?_)
 go_wp2
 go_ret
 exact ⟨_,rfl,Z.out.1,Z.out.2⟩
open Go.RowKit
theorem jD (B:Nat) (v:Value) (L:List aj) (k:Nat) (x:aj) (vb:Nat) (w:World) (h:AL w B v L) (hB:B<=w.heap.size) (hk:k<=L.length) (hl:L.length<=1048576) (hv:lL w vb x) (hvw:vb<w.heap.size) (hne:v.ownBlock≠some vb):
  Calls Pg 190 #[v,Ii Jj k,Sl (some ⟨vb,0,none⟩) 1 1] w fun e w'=>∃v',e=.returned v'/\AL w' B v' (L.take k++x::L.drop k)/\Below B w w':=by
 by_cases hn:v=Sl none 0 0
 ·subst hn
  obtain ⟨a,c,e⟩:=h.len
  have h0:L.length=0:=by simp at e;omega
  have hL:L=[]:=List.length_eq_zero_iff.1 h0
  subst hL
  have hk0:k=0:=by simpa using hk
  subst hk0
  simpa using tm B x vb w hB hv
 ·obtain ⟨g,c,e⟩:=h.own hn
  subst e
  by_cases hkn:k=L.length
  ·subst hkn
   have:=tl B g c L x vb w h hB hl hv
   simpa using this
  ·have hlt:k<L.length:=by omega
   by_cases hr:L.length+1<=c
   ·exact (rN B g c L k x vb w h hlt hr hl hv (fun e=>hne (by simp[Value.ownBlock,e]))).mono fun e w' ⟨h1,h2,h3⟩=>⟨_,h1,h2,h3⟩
   ·exact sA B g c L k x vb w h hB hlt (by omega) hl hv hvw
open Go.RowKit
theorem tn (x:aj) (i:Int) (b:Nat) (w:World) (hb:w.cell? ⟨b,0,none⟩=some (Ii Jj i)) (hbz:b<w.heap.size):
  Calls Pg 189 #[.agg #[Ii Jj x.id,Ii Jj x.up,Ii Jj x.limit,Ii Jj x.rate,Ii Jj x.target,.bool x.frozen,Ii Jj x.balance,Ii Jj x.carry],.pointer (some ⟨b,0,none⟩)] w fun e w'=>e=.returned (.bool (decide (i<x.id)))/\Below w.heap.size w w':=by
 have hne:¬w.heap.size=b:=by omega
 have hne':¬b=w.heap.size:=by omega
 go_enter Tryz.func189,Tryz.ntmps189
 go_wp2
 go_ret
 exact ⟨rfl,(Below.refl _ _).alloc (Nf _) _⟩
theorem rO (L:List aj) (i:Int) (hno:∀j,j<L.length->(FL L j).id≠i):
  (∃k,k<L.length/\dE L i=k/\ej (fun x=>decide (i<x.id)) L=(k:Int))\/(dE L i=L.length/\ej (fun x=>decide (i<x.id)) L= -1):=by
 by_cases hex:∃k,k<L.length/\i<(FL L k).id/\∀j,j<k->¬i<(FL L j).id
 ·obtain ⟨k,hk,h1,h2⟩:=hex
  refine Or.inl ⟨k,hk,gL L i k (by omega) (fun j hj=>?_) (fun _=>by omega),kL hk (by simpa using h1) (fun j hj=>by simpa using h2 j hj)⟩
  have:=h2 j hj
  have:=hno j (by omega)
  omega
 ·have hall:∀j,j<L.length->¬i<(FL L j).id:=by
   intro j
   induction j using Nat.strongRecOn with
   | _ j ih=>exact fun hj hlt=>hex ⟨j,hj,hlt,fun q hq=>ih q hq (by omega)⟩
  refine Or.inr ⟨gL L i L.length (Nf _) (fun j hj=>?_) (fun h=>absurd h (Nat.lt_irrefl _)),jC (fun j hj=>by simpa using hall j hj)⟩
  have:=hall j hj
  have:=hno j hj
  omega
theorem sB (a:Option Addr) (c:Nat) (L:List aj) (i t m r:Int) (w:World) (h:Fo w a L.length (FL L)) (hno:∀j,j<L.length->(FL L j).id≠i):
  Calls Pg 167 #[Sl a L.length c,.iface 210 (.agg #[Ii Jj i,Ii Jj t,Ii Jj m,Ii Jj r,Ii Jj (-1),.bool false,Ii Jj 0,Ii Jj 0])] w fun e w'=>∃v,e=.returned v/\AL w' w.heap.size v (L.take (dE L i)++(⟨i,t,m,r,-1,false,0,0⟩:aj)::L.drop (dE L i))/\Below w.heap.size w w':=by
 have H:=aa h
 have hn:=h.1
 have HI:=rO L i hno
 clear h hno
 go_enter Tryz.func167,Tryz.ntmps167
 go_wp2_with fail
 refine (fg a L.length c L _ rfl H.out).mono ?_
 rintro e w1 ⟨v1,rfl,A1,B1⟩
 obtain ⟨va,vc,hv⟩:=A1.len
 obtain ⟨n',hn'⟩:∃n',n'=L.length:=⟨_,rfl⟩
 have N':=aa hn'
 rw[←hn'] at hv
 subst hv
 clear hn'
 obtain ⟨W,hW⟩:∃W,W=w1.alloc (.cells #[Ii Jj i,Ii Jj t,Ii Jj m,Ii Jj r,Ii Jj (-1),.bool false,Ii Jj 0,Ii Jj 0] 210):=⟨_,rfl⟩
 have BX:Hid (Below w.heap.size w W):=by rw[hW];exact B1.alloc B1.size _
 have AX:Hid (AL W w.heap.size (Sl va n' vc) L):=by rw[hW];exact World.ownsRow.alloc A1 _
 have XX:Hid (bV W w1.heap.size ⟨i,t,m,r,-1,false,0,0⟩):=by rw[hW];exact bV.new w1 ⟨i,t,m,r,-1,false,0,0⟩ 210
 have hbz:w1.heap.size<W.heap.size:=by rw[hW];simp
 have hown:∀q,(Value.slice va n' vc).ownBlock=some q->q<w1.heap.size:=fun q hq=>(World.ownsRow.lt A1 q hq).2
 have HO:=aa hown
 clear A1 B1 hown
 have hc0:W.cell? ⟨w1.heap.size,0,none⟩=some (Ii Jj i):=by simpa using XX.out.1.1
 have CF:=kM a c L 189 #[.pointer (some ⟨w1.heap.size,0,none⟩)] (fun x=>decide (i<x.id)) W (H.out.below BX.out) (enters_of Tryz.func189 (by kernel_rfl) rfl) (fun x V hV=>tn x i w1.heap.size V (by rw[hV.cell (p:=⟨w1.heap.size,0,none⟩) hbz];exact hc0) (Nat.lt_of_lt_of_le hbz hV.size))
 have HCF:Hid (Calls Pg 188 #[Sl a L.length c,.func (.func 189) #[] #[.pointer (some ⟨w1.heap.size,0,none⟩)]] W fun e w'=>e=.returned (Ii Jj (ej (fun x=>decide (i<x.id)) L))/\Below W.heap.size W w'):=CF
 clear CF hc0
 go_wp2_with fail
 rw[←hW]
 refine HCF.out.mono ?_
 rintro e w2 ⟨rfl,B2⟩
 have S2:Hid (Below w.heap.size w w2/\AL w2 w.heap.size (Sl va n' vc) L/\bV w2 w1.heap.size ⟨i,t,m,r,-1,false,0,0⟩/\w1.heap.size<w2.heap.size):=⟨BX.out.trans (B2.mono BX.out.size),AX.out.kept B2,XX.out.below B2,Nat.lt_of_lt_of_le hbz B2.size⟩
 clear B2 hW HCF BX AX XX hbz W
 obtain ⟨V,hV⟩:∃V,V=w2.alloc (.cells #[Ii Jj i,Ii Jj t,Ii Jj m,Ii Jj r,Ii Jj (-1),.bool false,Ii Jj 0,Ii Jj 0] 30):=⟨_,rfl⟩
 have S3:Hid (Below w.heap.size w V/\AL V w.heap.size (Sl va n' vc) L/\lL V w2.heap.size ⟨i,t,m,r,-1,false,0,0⟩/\w2.heap.size<V.heap.size/\(Value.slice va n' vc).ownBlock≠some w2.heap.size):=by
  refine ⟨by rw[hV];exact S2.out.1.alloc S2.out.1.size _,by rw[hV];exact World.ownsRow.alloc S2.out.2.1 _,?_,by rw[hV];simp,fun e=>?_⟩
  ·unfold lL
   rw[hV]
   show (w2.heap.push _)[w2.heap.size]? =_
   simp[ab]
  ·have h1:=HO.out _ e
   have h2:=S2.out.2.2.2
   omega
 obtain ⟨r0,r1,r2,r3,r4,r5,r6,r7⟩:=S2.out.2.2.1.1
 simp only[Nat.zero_add] at r0 r1 r2 r3 r4 r5 r6 r7
 rcases HI with ⟨k,hk,ek,ei⟩|⟨ek,ei⟩
 ·have EK:Hid (dE L i=k):=ek
  rw[ei]
  clear ek ei
  go_wp2_with fail
  rw[←hV]
  refine (jD w.heap.size _ L k ⟨i,t,m,r,-1,false,0,0⟩ w2.heap.size V S3.out.2.1 S3.out.1.size (by omega) hn S3.out.2.2.1 S3.out.2.2.2.1 S3.out.2.2.2.2).mono ?_
  rintro e w3 ⟨v3,rfl,A3,B3⟩
  have S4:Hid (AL w3 w.heap.size v3 (L.take k++(⟨i,t,m,r,-1,false,0,0⟩:aj)::L.drop k)/\Below w.heap.size w w3):=⟨A3,S3.out.1.trans B3⟩
  obtain ⟨ua,uc,hu⟩:=A3.len
  obtain ⟨un,hun⟩:∃un,un=(L.take k++(⟨i,t,m,r,-1,false,0,0⟩:aj)::L.drop k).length:=⟨_,rfl⟩
  rw[←hun] at hu
  subst hu
  clear A3 B3 hun
  go_wp2
  go_ret
  rw[EK.out]
  exact ⟨_,rfl,S4.out.1,S4.out.2⟩
 ·have EK:Hid (dE L i=L.length):=ek
  rw[ei]
  clear ek ei
  go_wp2_with fail
  rw[←hV]
  refine (jD w.heap.size _ L L.length ⟨i,t,m,r,-1,false,0,0⟩ w2.heap.size V S3.out.2.1 S3.out.1.size (Nf _) hn S3.out.2.2.1 S3.out.2.2.2.1 S3.out.2.2.2.2).mono ?_
  rintro e w3 ⟨v3,rfl,A3,B3⟩
  have S4:Hid (AL w3 w.heap.size v3 (L.take L.length++(⟨i,t,m,r,-1,false,0,0⟩:aj)::L.drop L.length)/\Below w.heap.size w w3):=⟨A3,S3.out.1.trans B3⟩
  obtain ⟨ua,uc,hu⟩:=A3.len
  obtain ⟨un,hun⟩:∃un,un=(L.take L.length++(⟨i,t,m,r,-1,false,0,0⟩:aj)::L.drop L.length).length:=⟨_,rfl⟩
  rw[←hun] at hu
  subst hu
  clear A3 B3 hun
  go_wp2
  go_ret
  rw[EK.out]
  exact ⟨_,rfl,S4.out.1,S4.out.2⟩
end Go.Proofs.YtghkbhggopiajaaGreatDoor
