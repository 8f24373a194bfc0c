/- Ops of a bank. -/
import Derived.Test.YtjhgchlfpolkcaaGreatDoorEdsx
namespace Go.Proofs.YtjhgchlfpolkcaaGreatDoor
open Value renaming int → Ii,slice → Sl
open IntKind renaming i64 → Jj
open Nat renaming le_refl → Nf
open Go.Proofs.Tryz renaming prog → Pg
set_option maxHeartbeats 4000000
open Go.RowKit
set_option maxRecDepth 8000
structure bB where
 k:Int
 i:Int
 t:Int
 m:Int
 r:Int
def dc (x:bB):Prop:=x.k=0/\x.i=0/\x.t=0/\x.m=0/\x.r=0
def db (o:am):Prop:=o.id=0/\o.src=0/\o.dst=0/\o.amount=0/\o.first=0/\o.every=0/\o.times=0
def aA (K:Int) (x:bB) (o:am) (n:Int):Prop:=
 (K=19/\ax x.k x.i x.t x.m x.r/\db o/\n=0)\/(K=20/\dc x/\aE o/\n=0)\/(K=21/\dc x/\db o/\1<=n/\n<=1000000)\/(K=22/\dc x/\db o/\n=0)
def aG (w:World) (R:Nat) (K:Int) (x:bB) (o:am) (n:Int):Prop:=(w.cell? ⟨R,0,none⟩=some (Ii Jj K)/\w.cell? ⟨R,1,none⟩=some (Ii Jj x.k)/\w.cell? ⟨R,2,none⟩=some (Ii Jj x.i)/\w.cell? ⟨R,3,none⟩=some (Ii Jj x.t)/\w.cell? ⟨R,4,none⟩=some (Ii Jj x.m)/\w.cell? ⟨R,5,none⟩=some (Ii Jj x.r)/\w.cell? ⟨R,6,none⟩=some (Ii Jj o.id)/\w.cell? ⟨R,7,none⟩=some (Ii Jj o.src)/\w.cell? ⟨R,8,none⟩=some (Ii Jj o.dst)/\w.cell? ⟨R,9,none⟩=some (Ii Jj o.amount)/\w.cell? ⟨R,10,none⟩=some (Ii Jj o.first)/\w.cell? ⟨R,11,none⟩=some (Ii Jj o.every)/\w.cell? ⟨R,12,none⟩=some (Ii Jj o.times)/\w.cell? ⟨R,13,none⟩=some (Ii Jj n))/\R<w.heap.size
theorem aG.new (w:World) (K:Int) (x:bB) (o:am) (n:Int) (T:Nat):aG (w.alloc (.cells #[Ii Jj K,Ii Jj x.k,Ii Jj x.i,Ii Jj x.t,Ii Jj x.m,Ii Jj x.r,Ii Jj o.id,Ii Jj o.src,Ii Jj o.dst,Ii Jj o.amount,Ii Jj o.first,Ii Jj o.every,Ii Jj o.times,Ii Jj n] T)) w.heap.size K x o n:=
 ⟨by refine ⟨?_,?_,?_,?_,?_,?_,?_,?_,?_,?_,?_,?_,?_,?_⟩ <;>simp[go_sem],by simp⟩
theorem aG.kept {n₀:Nat} {w w':World} {R:Nat} {K:Int} {x:bB} {o:am} {n:Int} (h:aG w R K x o n) (hb:Below n₀ w w') (hR:R<n₀):aG w' R K x o n:=by
 obtain ⟨⟨c0,c1,c2,c3,c4,c5,c6,c7,c8,c9,c10,c11,c12,c13⟩,hz⟩:=h
 exact ⟨⟨(hb.cell (p:=⟨R,0,none⟩) hR).trans c0,(hb.cell (p:=⟨R,1,none⟩) hR).trans c1,(hb.cell (p:=⟨R,2,none⟩) hR).trans c2,(hb.cell (p:=⟨R,3,none⟩) hR).trans c3,(hb.cell (p:=⟨R,4,none⟩) hR).trans c4,(hb.cell (p:=⟨R,5,none⟩) hR).trans c5,(hb.cell (p:=⟨R,6,none⟩) hR).trans c6,(hb.cell (p:=⟨R,7,none⟩) hR).trans c7,(hb.cell (p:=⟨R,8,none⟩) hR).trans c8,(hb.cell (p:=⟨R,9,none⟩) hR).trans c9,(hb.cell (p:=⟨R,10,none⟩) hR).trans c10,(hb.cell (p:=⟨R,11,none⟩) hR).trans c11,(hb.cell (p:=⟨R,12,none⟩) hR).trans c12,(hb.cell (p:=⟨R,13,none⟩) hR).trans c13⟩,Nat.lt_of_lt_of_le hz hb.size⟩
theorem lY (K n:Int) (x:bB) (o:am) (w:World) (h19:K≠19) (h20:K≠20) (h21:K≠21):
  Calls Pg 31 #[.agg #[Ii Jj K,Ii Jj x.k,Ii Jj x.i,Ii Jj x.t,Ii Jj x.m,Ii Jj x.r,Ii Jj o.id,Ii Jj o.src,Ii Jj o.dst,Ii Jj o.amount,Ii Jj o.first,Ii Jj o.every,Ii Jj o.times,Ii Jj n]] w fun e w'=>ae e (K=22/\(x.k=0/\x.i=0/\x.t=0/\x.m=0/\x.r=0)/\(o.id=0/\o.src=0/\o.dst=0/\o.amount=0/\o.first=0/\o.every=0/\o.times=0)/\n=0)/\Below w.heap.size w w':=by
 go_enter Tryz.func31,Tryz.ntmps31
 go_wp2
 all_goals (go_ret;exact ⟨by first|exact ae.yes (by omega)|exact ae.no (by omega),(Below.refl _ _).alloc (Nf _) _⟩)
theorem jf (n:Int) (x:bB) (o:am) (w:World):
  Calls Pg 31 #[.agg #[Ii Jj 21,Ii Jj x.k,Ii Jj x.i,Ii Jj x.t,Ii Jj x.m,Ii Jj x.r,Ii Jj o.id,Ii Jj o.src,Ii Jj o.dst,Ii Jj o.amount,Ii Jj o.first,Ii Jj o.every,Ii Jj o.times,Ii Jj n]] w fun e w'=>ae e ((1<=n/\n<=1000000)/\(x.k=0/\x.i=0/\x.t=0/\x.m=0/\x.r=0)/\(o.id=0/\o.src=0/\o.dst=0/\o.amount=0/\o.first=0/\o.every=0/\o.times=0))/\Below w.heap.size w w':=by
 by_cases hn:1<=n/\n<=1000000
 ·have ID:Hid (∀w,Calls Pg 68 #[Ii Jj n] w fun e w'=>e=.returned (.bool true)/\w'=w):=fun w=>bv n w hn
  go_enter Tryz.func31,Tryz.ntmps31
  go_wp2_with (go_at_call 68;refine (ID.out _).mono ?_;rintro e wz ⟨rfl,hwz⟩;subst wz)
  all_goals (go_ret;exact ⟨by first|exact ae.yes (by omega)|exact ae.no (by omega),(Below.refl _ _).alloc (Nf _) _⟩)
 ·have ID:Hid (∀w,Calls Pg 68 #[Ii Jj n] w fun e w'=>e=.returned (.bool false)/\w'=w):=fun w=>bT n w hn
  go_enter Tryz.func31,Tryz.ntmps31
  go_wp2_with (go_at_call 68;refine (ID.out _).mono ?_;rintro e wz ⟨rfl,hwz⟩;subst wz)
  all_goals (go_ret;exact ⟨by first|exact ae.yes (by omega)|exact ae.no (by omega),(Below.refl _ _).alloc (Nf _) _⟩)
theorem nz (n:Int) (x:bB) (o:am) (w:World):
  Calls Pg 31 #[.agg #[Ii Jj 19,Ii Jj x.k,Ii Jj x.i,Ii Jj x.t,Ii Jj x.m,Ii Jj x.r,Ii Jj o.id,Ii Jj o.src,Ii Jj o.dst,Ii Jj o.amount,Ii Jj o.first,Ii Jj o.every,Ii Jj o.times,Ii Jj n]] w fun e w'=>ae e (ax x.k x.i x.t x.m x.r/\(o.id=0/\o.src=0/\o.dst=0/\o.amount=0/\o.first=0/\o.every=0/\o.times=0)/\n=0)/\Below w.heap.size w w':=by
 obtain ⟨W0,hW0⟩:∃W0,W0=w.alloc (.cells #[Ii Jj 19,Ii Jj x.k,Ii Jj x.i,Ii Jj x.t,Ii Jj x.m,Ii Jj x.r,Ii Jj o.id,Ii Jj o.src,Ii Jj o.dst,Ii Jj o.amount,Ii Jj o.first,Ii Jj o.every,Ii Jj o.times,Ii Jj n] 37):=⟨_,rfl⟩
 have X0:Hid (aG W0 w.heap.size 19 x o n):=by rw[hW0];exact aG.new w 19 x o n 37
 have B0:Hid (Below w.heap.size w W0):=by rw[hW0];exact (Below.refl _ _).alloc (Nf _) _
 have HW0:Hid (W0=_):=hW0
 have CL:Hid (∀w,Calls Pg 66 #[.agg #[Ii Jj x.k,Ii Jj x.i,Ii Jj x.t,Ii Jj x.m,Ii Jj x.r]] w fun e w'=>ae e (ax x.k x.i x.t x.m x.r)/\Below w.heap.size w w'):=fun w=>nA x.k x.i x.t x.m x.r w
 clear hW0
 generalize ax x.k x.i x.t x.m x.r=PP at*
 go_enter Tryz.func31,Tryz.ntmps31
 go_wp2_with fail
 rw[←HW0.out]
 clear HW0
 refine (CL.out _).mono ?_
 rintro e w1 ⟨⟨bb,rfl,h1,h2⟩,B1⟩
 obtain ⟨⟨c0,c1,c2,c3,c4,c5,c6,c7,c8,c9,c10,c11,c12,c13⟩,hz⟩:=X0.out.kept B1 X0.out.2
 have BB:Hid (Below w.heap.size w w1):=B0.out.trans (B1.mono B0.out.size)
 clear X0 B0 B1
 cases bb with
 | false=>
  have HN:Hid (¬PP):=h2 rfl
  clear h1 h2
  go_wp2
  go_ret
  exact ⟨ae.no (fun h=>HN.out h.1),BB.out⟩
 | true=>
  have HY:Hid PP:=h1 rfl
  clear h1 h2
  go_wp2
  all_goals (go_ret;exact ⟨by first|exact ae.yes ⟨HY.out,by omega,by omega⟩|exact ae.no (fun h=>by have:=h.2;omega),BB.out⟩)
theorem jL (n:Int) (x:bB) (o:am) (w:World):
  Calls Pg 31 #[.agg #[Ii Jj 20,Ii Jj x.k,Ii Jj x.i,Ii Jj x.t,Ii Jj x.m,Ii Jj x.r,Ii Jj o.id,Ii Jj o.src,Ii Jj o.dst,Ii Jj o.amount,Ii Jj o.first,Ii Jj o.every,Ii Jj o.times,Ii Jj n]] w fun e w'=>ae e (aE o/\(x.k=0/\x.i=0/\x.t=0/\x.m=0/\x.r=0)/\n=0)/\Below w.heap.size w w':=by
 obtain ⟨W0,hW0⟩:∃W0,W0=w.alloc (.cells #[Ii Jj 20,Ii Jj x.k,Ii Jj x.i,Ii Jj x.t,Ii Jj x.m,Ii Jj x.r,Ii Jj o.id,Ii Jj o.src,Ii Jj o.dst,Ii Jj o.amount,Ii Jj o.first,Ii Jj o.every,Ii Jj o.times,Ii Jj n] 37):=⟨_,rfl⟩
 have X0:Hid (aG W0 w.heap.size 20 x o n):=by rw[hW0];exact aG.new w 20 x o n 37
 have B0:Hid (Below w.heap.size w W0):=by rw[hW0];exact (Below.refl _ _).alloc (Nf _) _
 have HW0:Hid (W0=_):=hW0
 have CL:Hid (∀w,Calls Pg 67 #[.agg #[Ii Jj o.id,Ii Jj o.src,Ii Jj o.dst,Ii Jj o.amount,Ii Jj o.first,Ii Jj o.every,Ii Jj o.times]] w fun e w'=>ae e (aE o)/\Below w.heap.size w w'):=fun w=>l0 o w
 clear hW0
 generalize aE o=PP at*
 go_enter Tryz.func31,Tryz.ntmps31
 go_wp2_with fail
 rw[←HW0.out]
 clear HW0
 refine (CL.out _).mono ?_
 rintro e w1 ⟨⟨bb,rfl,h1,h2⟩,B1⟩
 obtain ⟨⟨c0,c1,c2,c3,c4,c5,c6,c7,c8,c9,c10,c11,c12,c13⟩,hz⟩:=X0.out.kept B1 X0.out.2
 have BB:Hid (Below w.heap.size w w1):=B0.out.trans (B1.mono B0.out.size)
 clear X0 B0 B1
 cases bb with
 | false=>
  have HN:Hid (¬PP):=h2 rfl
  clear h1 h2
  go_wp2
  go_ret
  exact ⟨ae.no (fun h=>HN.out h.1),BB.out⟩
 | true=>
  have HY:Hid PP:=h1 rfl
  clear h1 h2
  go_wp2
  all_goals (go_ret;exact ⟨by first|exact ae.yes ⟨HY.out,by omega,by omega⟩|exact ae.no (fun h=>by have:=h.2;omega),BB.out⟩)
end Go.Proofs.YtjhgchlfpolkcaaGreatDoor
