/- Ops of a bank. -/
import Derived.Test.YtghkbhggopiajaaGreatDoorEdtr
set_option maxHeartbeats 4000000
namespace Go.Proofs.YtghkbhggopiajaaGreatDoor
open Go.RowKit
set_option maxRecDepth 8000
structure OpF where
 k:Int
 i:Int
 t:Int
 m:Int
 r:Int
def zeroX (x:OpF):Prop:=x.k=0/\x.i=0/\x.t=0/\x.m=0/\x.r=0
def zeroO (o:Ord):Prop:=o.id=0/\o.src=0/\o.dst=0/\o.amount=0/\o.first=0/\o.every=0/\o.times=0
def bopOk (K:Int) (x:OpF) (o:Ord) (n:Int):Prop:=
 (K=19/\opOk x.k x.i x.t x.m x.r/\zeroO o/\n=0)\/(K=20/\zeroX x/\ordOk o/\n=0)\/(K=21/\zeroX x/\zeroO o/\1<=n/\n<=1000000)\/(K=22/\zeroX x/\zeroO o/\n=0)
def Bx14 (w:World) (R:Nat) (K:Int) (x:OpF) (o:Ord) (n:Int):Prop:=(w.cell? ⟨R,0,none⟩=some (.int .i64 K)/\w.cell? ⟨R,1,none⟩=some (.int .i64 x.k)/\w.cell? ⟨R,2,none⟩=some (.int .i64 x.i)/\w.cell? ⟨R,3,none⟩=some (.int .i64 x.t)/\w.cell? ⟨R,4,none⟩=some (.int .i64 x.m)/\w.cell? ⟨R,5,none⟩=some (.int .i64 x.r)/\w.cell? ⟨R,6,none⟩=some (.int .i64 o.id)/\w.cell? ⟨R,7,none⟩=some (.int .i64 o.src)/\w.cell? ⟨R,8,none⟩=some (.int .i64 o.dst)/\w.cell? ⟨R,9,none⟩=some (.int .i64 o.amount)/\w.cell? ⟨R,10,none⟩=some (.int .i64 o.first)/\w.cell? ⟨R,11,none⟩=some (.int .i64 o.every)/\w.cell? ⟨R,12,none⟩=some (.int .i64 o.times)/\w.cell? ⟨R,13,none⟩=some (.int .i64 n))/\R<w.heap.size
theorem Bx14.new (w:World) (K:Int) (x:OpF) (o:Ord) (n:Int) (T:Nat):Bx14 (w.alloc (.cells #[.int .i64 K,.int .i64 x.k,.int .i64 x.i,.int .i64 x.t,.int .i64 x.m,.int .i64 x.r,.int .i64 o.id,.int .i64 o.src,.int .i64 o.dst,.int .i64 o.amount,.int .i64 o.first,.int .i64 o.every,.int .i64 o.times,.int .i64 n] T)) w.heap.size K x o n:=
 ⟨by refine ⟨?_,?_,?_,?_,?_,?_,?_,?_,?_,?_,?_,?_,?_,?_⟩ <;>simp[go_sem],by simp⟩
theorem Bx14.kept {n₀:Nat} {w w':World} {R:Nat} {K:Int} {x:OpF} {o:Ord} {n:Int} (h:Bx14 w R K x o n) (hb:Below n₀ w w') (hR:R<n₀):Bx14 w' R K x o n:=by
 obtain ⟨⟨c0,c1,c2,c3,c4,c5,c6,c7,c8,c9,c10,c11,c12,c13⟩,hz⟩:=h
 exact ⟨⟨(hb.cell (p:=⟨R,0,none⟩) hR).trans c0,(hb.cell (p:=⟨R,1,none⟩) hR).trans c1,(hb.cell (p:=⟨R,2,none⟩) hR).trans c2,(hb.cell (p:=⟨R,3,none⟩) hR).trans c3,(hb.cell (p:=⟨R,4,none⟩) hR).trans c4,(hb.cell (p:=⟨R,5,none⟩) hR).trans c5,(hb.cell (p:=⟨R,6,none⟩) hR).trans c6,(hb.cell (p:=⟨R,7,none⟩) hR).trans c7,(hb.cell (p:=⟨R,8,none⟩) hR).trans c8,(hb.cell (p:=⟨R,9,none⟩) hR).trans c9,(hb.cell (p:=⟨R,10,none⟩) hR).trans c10,(hb.cell (p:=⟨R,11,none⟩) hR).trans c11,(hb.cell (p:=⟨R,12,none⟩) hR).trans c12,(hb.cell (p:=⟨R,13,none⟩) hR).trans c13⟩,Nat.lt_of_lt_of_le hz hb.size⟩
theorem implBop_day (K n:Int) (x:OpF) (o:Ord) (w:World) (h19:K≠19) (h20:K≠20) (h21:K≠21):
  Calls Tryz.prog 128 #[.agg #[.int .i64 K,.int .i64 x.k,.int .i64 x.i,.int .i64 x.t,.int .i64 x.m,.int .i64 x.r,.int .i64 o.id,.int .i64 o.src,.int .i64 o.dst,.int .i64 o.amount,.int .i64 o.first,.int .i64 o.every,.int .i64 o.times,.int .i64 n]] w fun e w'=>Tells e (K=22/\(x.k=0/\x.i=0/\x.t=0/\x.m=0/\x.r=0)/\(o.id=0/\o.src=0/\o.dst=0/\o.amount=0/\o.first=0/\o.every=0/\o.times=0)/\n=0)/\Below w.heap.size w w':=by
 go_enter Tryz.func128,Tryz.ntmps128
 go_wp2
 all_goals (go_ret;exact ⟨by first|exact Tells.yes (by omega)|exact Tells.no (by omega),(Below.refl _ _).alloc (Nat.le_refl _) _⟩)
theorem implBop_cancel (n:Int) (x:OpF) (o:Ord) (w:World):
  Calls Tryz.prog 128 #[.agg #[.int .i64 21,.int .i64 x.k,.int .i64 x.i,.int .i64 x.t,.int .i64 x.m,.int .i64 x.r,.int .i64 o.id,.int .i64 o.src,.int .i64 o.dst,.int .i64 o.amount,.int .i64 o.first,.int .i64 o.every,.int .i64 o.times,.int .i64 n]] w fun e w'=>Tells e ((1<=n/\n<=1000000)/\(x.k=0/\x.i=0/\x.t=0/\x.m=0/\x.r=0)/\(o.id=0/\o.src=0/\o.dst=0/\o.amount=0/\o.first=0/\o.every=0/\o.times=0))/\Below w.heap.size w w':=by
 by_cases hn:1<=n/\n<=1000000
 ·have ID:Hid (∀w,Calls Tryz.prog 110 #[.int .i64 n] w fun e w'=>e=.returned (.bool true)/\w'=w):=fun w=>idOk_yes n w hn
  go_enter Tryz.func128,Tryz.ntmps128
  go_wp2_with (go_at_call 110;refine (ID.out _).mono ?_;rintro e wz ⟨rfl,hwz⟩;subst wz)
  all_goals (go_ret;exact ⟨by first|exact Tells.yes (by omega)|exact Tells.no (by omega),(Below.refl _ _).alloc (Nat.le_refl _) _⟩)
 ·have ID:Hid (∀w,Calls Tryz.prog 110 #[.int .i64 n] w fun e w'=>e=.returned (.bool false)/\w'=w):=fun w=>idOk_no n w hn
  go_enter Tryz.func128,Tryz.ntmps128
  go_wp2_with (go_at_call 110;refine (ID.out _).mono ?_;rintro e wz ⟨rfl,hwz⟩;subst wz)
  all_goals (go_ret;exact ⟨by first|exact Tells.yes (by omega)|exact Tells.no (by omega),(Below.refl _ _).alloc (Nat.le_refl _) _⟩)
theorem implBop_op (n:Int) (x:OpF) (o:Ord) (w:World):
  Calls Tryz.prog 128 #[.agg #[.int .i64 19,.int .i64 x.k,.int .i64 x.i,.int .i64 x.t,.int .i64 x.m,.int .i64 x.r,.int .i64 o.id,.int .i64 o.src,.int .i64 o.dst,.int .i64 o.amount,.int .i64 o.first,.int .i64 o.every,.int .i64 o.times,.int .i64 n]] w fun e w'=>Tells e (opOk x.k x.i x.t x.m x.r/\(o.id=0/\o.src=0/\o.dst=0/\o.amount=0/\o.first=0/\o.every=0/\o.times=0)/\n=0)/\Below w.heap.size w w':=by
 obtain ⟨W0,hW0⟩:∃W0,W0=w.alloc (.cells #[.int .i64 19,.int .i64 x.k,.int .i64 x.i,.int .i64 x.t,.int .i64 x.m,.int .i64 x.r,.int .i64 o.id,.int .i64 o.src,.int .i64 o.dst,.int .i64 o.amount,.int .i64 o.first,.int .i64 o.every,.int .i64 o.times,.int .i64 n] 51):=⟨_,rfl⟩
 have X0:Hid (Bx14 W0 w.heap.size 19 x o n):=by rw[hW0];exact Bx14.new w 19 x o n 51
 have B0:Hid (Below w.heap.size w W0):=by rw[hW0];exact (Below.refl _ _).alloc (Nat.le_refl _) _
 have HW0:=hidOf hW0
 have CL:Hid (∀w,Calls Tryz.prog 156 #[.agg #[.int .i64 x.k,.int .i64 x.i,.int .i64 x.t,.int .i64 x.m,.int .i64 x.r]] w fun e w'=>Tells e (opOk x.k x.i x.t x.m x.r)/\Below w.heap.size w w'):=fun w=>implOpOk_b x.k x.i x.t x.m x.r w
 clear hW0
 generalize opOk x.k x.i x.t x.m x.r=PP at*
 go_enter Tryz.func128,Tryz.ntmps128
 go_wp2_with fail
 rw[←HW0.out]
 clear HW0
 refine (CL.out _).mono ?_
 rintro e w1 ⟨⟨bb,rfl,h1,h2⟩,B1⟩
 obtain ⟨⟨c0,c1,c2,c3,c4,c5,c6,c7,c8,c9,c10,c11,c12,c13⟩,hz⟩:=X0.out.kept B1 X0.out.2
 have BB:=hidOf (B0.out.trans (B1.mono B0.out.size))
 clear X0 B0 B1
 cases bb with
 | false=>
  have HN:Hid (¬PP):=h2 rfl
  clear h1 h2
  go_wp2
  go_ret
  exact ⟨Tells.no (fun h=>HN.out h.1),BB.out⟩
 | true=>
  have HY:Hid PP:=h1 rfl
  clear h1 h2
  go_wp2
  all_goals (go_ret;exact ⟨by first|exact Tells.yes ⟨HY.out,by omega,by omega⟩|exact Tells.no (fun h=>by have:=h.2;omega),BB.out⟩)
theorem implBop_order (n:Int) (x:OpF) (o:Ord) (w:World):
  Calls Tryz.prog 128 #[.agg #[.int .i64 20,.int .i64 x.k,.int .i64 x.i,.int .i64 x.t,.int .i64 x.m,.int .i64 x.r,.int .i64 o.id,.int .i64 o.src,.int .i64 o.dst,.int .i64 o.amount,.int .i64 o.first,.int .i64 o.every,.int .i64 o.times,.int .i64 n]] w fun e w'=>Tells e (ordOk o/\(x.k=0/\x.i=0/\x.t=0/\x.m=0/\x.r=0)/\n=0)/\Below w.heap.size w w':=by
 obtain ⟨W0,hW0⟩:∃W0,W0=w.alloc (.cells #[.int .i64 20,.int .i64 x.k,.int .i64 x.i,.int .i64 x.t,.int .i64 x.m,.int .i64 x.r,.int .i64 o.id,.int .i64 o.src,.int .i64 o.dst,.int .i64 o.amount,.int .i64 o.first,.int .i64 o.every,.int .i64 o.times,.int .i64 n] 51):=⟨_,rfl⟩
 have X0:Hid (Bx14 W0 w.heap.size 20 x o n):=by rw[hW0];exact Bx14.new w 20 x o n 51
 have B0:Hid (Below w.heap.size w W0):=by rw[hW0];exact (Below.refl _ _).alloc (Nat.le_refl _) _
 have HW0:=hidOf hW0
 have CL:Hid (∀w,Calls Tryz.prog 74 #[.agg #[.int .i64 o.id,.int .i64 o.src,.int .i64 o.dst,.int .i64 o.amount,.int .i64 o.first,.int .i64 o.every,.int .i64 o.times]] w fun e w'=>Tells e (ordOk o)/\Below w.heap.size w w'):=fun w=>implOrd o w
 clear hW0
 generalize ordOk o=PP at*
 go_enter Tryz.func128,Tryz.ntmps128
 go_wp2_with fail
 rw[←HW0.out]
 clear HW0
 refine (CL.out _).mono ?_
 rintro e w1 ⟨⟨bb,rfl,h1,h2⟩,B1⟩
 obtain ⟨⟨c0,c1,c2,c3,c4,c5,c6,c7,c8,c9,c10,c11,c12,c13⟩,hz⟩:=X0.out.kept B1 X0.out.2
 have BB:=hidOf (B0.out.trans (B1.mono B0.out.size))
 clear X0 B0 B1
 cases bb with
 | false=>
  have HN:Hid (¬PP):=h2 rfl
  clear h1 h2
  go_wp2
  go_ret
  exact ⟨Tells.no (fun h=>HN.out h.1),BB.out⟩
 | true=>
  have HY:Hid PP:=h1 rfl
  clear h1 h2
  go_wp2
  all_goals (go_ret;exact ⟨by first|exact Tells.yes ⟨HY.out,by omega,by omega⟩|exact Tells.no (fun h=>by have:=h.2;omega),BB.out⟩)
end Go.Proofs.YtghkbhggopiajaaGreatDoor
