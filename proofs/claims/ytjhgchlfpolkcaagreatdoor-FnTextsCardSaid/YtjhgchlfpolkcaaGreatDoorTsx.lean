/- BOpText of the specification. -/
import Derived.Test.YtjhgchlfpolkcaaGreatDoorTxx
namespace Go.Proofs.YtjhgchlfpolkcaaGreatDoor
open Value renaming int → Ii,slice → Sl
open IntKind renaming i64 → Jj
open Nat renaming le_refl → Nf
open Go.RowKit.Below renaming refl → Bf
open Go.Proofs.Tryz renaming prog → Pg
set_option maxHeartbeats 4000000
open Go.RowKit
set_option maxRecDepth 8000
theorem ae.true {e:Ending} {P:Prop} (h:ae e P) (hp:P):e=.returned (.bool true):=by
 obtain ⟨b,rfl,h1,h2⟩:=h
 cases b
 ·exact absurd hp (h2 rfl)
 ·rfl
theorem ae.false {e:Ending} {P:Prop} (h:ae e P) (hp:¬P):e=.returned (.bool false):=by
 obtain ⟨b,rfl,h1,h2⟩:=h
 cases b
 ·rfl
 ·exact absurd (h1 rfl) hp
def cp:List ByteArray:=[⟨#[]⟩,⟨#[111,112,101,110]⟩,⟨#[102,114,101,101,122,101]⟩,⟨#[116,104,97,119]⟩,⟨#[99,108,111,115,101]⟩,⟨#[112,117,116]⟩,⟨#[116,97,107,101]⟩,⟨#[112,97,121]⟩,⟨#[108,105,109,105,116]⟩,⟨#[104,97,110,103]⟩,⟨#[116,97,114,103,101,116]⟩]
theorem co (w:World):Calls Pg 48 #[] w fun e w'=>e=.returned (Sl (some ⟨w.heap.size,0,none⟩) 11 11)/\w'=w.alloc (.cells (cp.map Value.string).toArray 9):=by
 go_enter Tryz.func48,Tryz.ntmps48
 go_wp2
 go_ret
 exact ⟨rfl,rfl⟩
theorem bQ (w:World) (i:Nat) (hi:i<cp.length):(w.alloc (.cells (cp.map Value.string).toArray 9)).cell? ⟨w.heap.size,i,none⟩=some (.string cp[i]):=by
 rw[World.cell?_alloc_mark]
 simp[List.getElem?_eq_getElem hi]
def cF (w:World) (b:ByteArray) (e:Ending) (w':World):Prop:=e=.returned (.string b)/\Below w.heap.size w w'
theorem rI (K n:Int) (x:bB) (o:am) (w:World) (h:¬aA K x o n):Calls Pg 14 #[.agg #[Ii Jj K,Ii Jj x.k,Ii Jj x.i,Ii Jj x.t,Ii Jj x.m,Ii Jj x.r,Ii Jj o.id,Ii Jj o.src,Ii Jj o.dst,Ii Jj o.amount,Ii Jj o.first,Ii Jj o.every,Ii Jj o.times,Ii Jj n]] w fun e w'=>cF w ⟨#[]⟩ e w':=by
 have HB:Hid (Below w.heap.size w (w.alloc (.cells #[Ii Jj K,Ii Jj x.k,Ii Jj x.i,Ii Jj x.t,Ii Jj x.m,Ii Jj x.r,Ii Jj o.id,Ii Jj o.src,Ii Jj o.dst,Ii Jj o.amount,Ii Jj o.first,Ii Jj o.every,Ii Jj o.times,Ii Jj n] 37))):=(Bf _ _).alloc (Nf _) _
 have HN:Hid (¬aA K x o n):=h
 clear h
 obtain ⟨W0,hW0⟩:∃W0,W0=w.alloc (.cells #[Ii Jj K,Ii Jj x.k,Ii Jj x.i,Ii Jj x.t,Ii Jj x.m,Ii Jj x.r,Ii Jj o.id,Ii Jj o.src,Ii Jj o.dst,Ii Jj o.amount,Ii Jj o.first,Ii Jj o.every,Ii Jj o.times,Ii Jj n] 37):=⟨_,rfl⟩
 rw[←hW0] at HB
 have HW0:Hid (W0=_):=hW0
 clear hW0
 go_enter Tryz.func14,Tryz.ntmps14
 go_wp2_with fail
 rw[←HW0.out]
 refine (bG K n x o _).mono ?_
 rintro e w1 ⟨ht,B1⟩
 have he:=ht.false HN.out
 subst he
 have H1:Hid (Below w.heap.size w w1):=HB.out.trans (B1.mono HB.out.size)
 clear ht B1 HB HW0
 go_wp2
 go_ret
 exact ⟨rfl,H1.out⟩
theorem rB (o:am) (w:World):Calls Pg 47 #[.agg #[Ii Jj o.id,Ii Jj o.src,Ii Jj o.dst,Ii Jj o.amount,Ii Jj o.first,Ii Jj o.every,Ii Jj o.times]] w fun e w'=>∃a c,e=.returned (Sl a 7 c)/\bn w' a [o.id,o.src,o.dst,o.amount,o.first,o.every,o.times]/\Below w.heap.size w w':=by
 have FI:Hid (bn ((w.alloc (.cells #[Ii Jj o.id,Ii Jj o.src,Ii Jj o.dst,Ii Jj o.amount,Ii Jj o.first,Ii Jj o.every,Ii Jj o.times] 35)).alloc (.cells #[Ii Jj o.id,Ii Jj o.src,Ii Jj o.dst,Ii Jj o.amount,Ii Jj o.first,Ii Jj o.every,Ii Jj o.times] 2)) (some ⟨w.heap.size+1,0,none⟩) [o.id,o.src,o.dst,o.amount,o.first,o.every,o.times]/\Below w.heap.size w ((w.alloc (.cells #[Ii Jj o.id,Ii Jj o.src,Ii Jj o.dst,Ii Jj o.amount,Ii Jj o.first,Ii Jj o.every,Ii Jj o.times] 35)).alloc (.cells #[Ii Jj o.id,Ii Jj o.src,Ii Jj o.dst,Ii Jj o.amount,Ii Jj o.first,Ii Jj o.every,Ii Jj o.times] 2))):=by
  have:=bn.lit (w.alloc (.cells #[Ii Jj o.id,Ii Jj o.src,Ii Jj o.dst,Ii Jj o.amount,Ii Jj o.first,Ii Jj o.every,Ii Jj o.times] 35)) [o.id,o.src,o.dst,o.amount,o.first,o.every,o.times]
  rw[World.size_alloc] at this
  exact ⟨this,((Bf _ _).alloc (Nf _) _).alloc (by simp) _⟩
 go_enter Tryz.func47,Tryz.ntmps47
 go_wp2
 go_ret
 exact ⟨_,_,rfl,FI.out.1,FI.out.2⟩
theorem rF (x:bB) (n:Int) (o:am) (w:World) (h:aA 20 x o n) (hs:∀z ∈ [o.id,o.src,o.dst,o.amount,o.first,o.every,o.times],e8 z):Calls Pg 14 #[.agg #[Ii Jj 20,Ii Jj x.k,Ii Jj x.i,Ii Jj x.t,Ii Jj x.m,Ii Jj x.r,Ii Jj o.id,Ii Jj o.src,Ii Jj o.dst,Ii Jj o.amount,Ii Jj o.first,Ii Jj o.every,Ii Jj o.times,Ii Jj n]] w fun e w'=>cF w (be ⟨#[111,114,100,101,114]⟩ [o.id,o.src,o.dst,o.amount,o.first,o.every,o.times]) e w':=by
 obtain ⟨W0,hW0,X0,HB⟩:∃W0,W0=w.alloc (.cells #[Ii Jj 20,Ii Jj x.k,Ii Jj x.i,Ii Jj x.t,Ii Jj x.m,Ii Jj x.r,Ii Jj o.id,Ii Jj o.src,Ii Jj o.dst,Ii Jj o.amount,Ii Jj o.first,Ii Jj o.every,Ii Jj o.times,Ii Jj n] 37)/\Hid (aG W0 w.heap.size 20 x o n)/\Hid (Below w.heap.size w W0):=⟨_,rfl,aG.new w 20 x o n 37,(Bf _ _).alloc (Nf _) _⟩
 have HW0:Hid (W0=_):=hW0
 have HN:Hid (aA 20 x o n/\∀z ∈ [o.id,o.src,o.dst,o.amount,o.first,o.every,o.times],e8 z):=⟨h,hs⟩
 clear h hs hW0
 go_enter Tryz.func14,Tryz.ntmps14
 go_wp2_with fail
 rw[←HW0.out]
 refine (bG 20 n x o _).mono ?_
 rintro e w1 ⟨ht,B1⟩
 have he:=ht.true HN.out.1
 subst he
 have H1:Hid (aG w1 w.heap.size 20 x o n/\Below w.heap.size w w1):=⟨X0.out.kept B1 X0.out.2,HB.out.trans (B1.mono HB.out.size)⟩
 clear ht B1 HB HW0 X0
 obtain ⟨⟨c0,c1,c2,c3,c4,c5,c6,c7,c8,c9,c10,c11,c12,c13⟩,_⟩:=H1.out.1
 go_wp2_with fail
 refine (rB o _).mono ?_
 rintro e w2 ⟨a,c,rfl,I2,B2⟩
 have U2:Hid (bn w2 a [o.id,o.src,o.dst,o.amount,o.first,o.every,o.times]/\Below w.heap.size w w2):=⟨I2,H1.out.2.trans (B2.mono H1.out.2.size)⟩
 clear I2 B2 H1 c0 c1 c2 c3 c4 c5 c6 c7 c8 c9 c10 c11 c12 c13
 go_wp2_with fail
 refine (cw ⟨#[111,114,100,101,114]⟩ (by decide) a 7 c [o.id,o.src,o.dst,o.amount,o.first,o.every,o.times] rfl (by omega) HN.out.2 _ U2.out.1).mono ?_
 rintro e w3 ⟨rfl,B3⟩
 have U3:Hid (Below w.heap.size w w3):=U2.out.2.trans (B3.mono U2.out.2.size)
 clear B3
 go_wp2
 go_ret
 exact ⟨rfl,U3.out⟩
theorem rG (x:bB) (n:Int) (o:am) (w:World) (h:aA 21 x o n) (hs:∀z ∈ [n],e8 z):Calls Pg 14 #[.agg #[Ii Jj 21,Ii Jj x.k,Ii Jj x.i,Ii Jj x.t,Ii Jj x.m,Ii Jj x.r,Ii Jj o.id,Ii Jj o.src,Ii Jj o.dst,Ii Jj o.amount,Ii Jj o.first,Ii Jj o.every,Ii Jj o.times,Ii Jj n]] w fun e w'=>cF w (be ⟨#[99,97,110,99,101,108]⟩ [n]) e w':=by
 obtain ⟨W0,hW0,X0,HB⟩:∃W0,W0=w.alloc (.cells #[Ii Jj 21,Ii Jj x.k,Ii Jj x.i,Ii Jj x.t,Ii Jj x.m,Ii Jj x.r,Ii Jj o.id,Ii Jj o.src,Ii Jj o.dst,Ii Jj o.amount,Ii Jj o.first,Ii Jj o.every,Ii Jj o.times,Ii Jj n] 37)/\Hid (aG W0 w.heap.size 21 x o n)/\Hid (Below w.heap.size w W0):=⟨_,rfl,aG.new w 21 x o n 37,(Bf _ _).alloc (Nf _) _⟩
 have HW0:Hid (W0=_):=hW0
 have HN:Hid (aA 21 x o n/\∀z ∈ [n],e8 z):=⟨h,hs⟩
 clear h hs hW0
 go_enter Tryz.func14,Tryz.ntmps14
 go_wp2_with fail
 rw[←HW0.out]
 refine (bG 21 n x o _).mono ?_
 rintro e w1 ⟨ht,B1⟩
 have he:=ht.true HN.out.1
 subst he
 have H1:Hid (aG w1 w.heap.size 21 x o n/\Below w.heap.size w w1):=⟨X0.out.kept B1 X0.out.2,HB.out.trans (B1.mono HB.out.size)⟩
 clear ht B1 HB HW0 X0
 obtain ⟨⟨c0,c1,c2,c3,c4,c5,c6,c7,c8,c9,c10,c11,c12,c13⟩,_⟩:=H1.out.1
 have U2:Hid (bn (w1.alloc (.cells #[Ii Jj n] 2)) (some ⟨w1.heap.size,0,none⟩) [n]/\Below w.heap.size w (w1.alloc (.cells #[Ii Jj n] 2))):=⟨bn.lit w1 [n],H1.out.2.alloc H1.out.2.size _⟩
 clear H1
 go_wp2_with fail
 refine (cw ⟨#[99,97,110,99,101,108]⟩ (by decide) _ 1 1 [n] rfl (by omega) HN.out.2 _ U2.out.1).mono ?_
 rintro e w3 ⟨rfl,B3⟩
 have U3:Hid (Below w.heap.size w w3):=U2.out.2.trans (B3.mono U2.out.2.size)
 clear B3 U2
 go_wp2
 go_ret
 exact ⟨rfl,U3.out⟩
theorem rH (x:bB) (n:Int) (o:am) (w:World) (h:aA 22 x o n) (hs:∀z ∈ ([]:List Int),e8 z):Calls Pg 14 #[.agg #[Ii Jj 22,Ii Jj x.k,Ii Jj x.i,Ii Jj x.t,Ii Jj x.m,Ii Jj x.r,Ii Jj o.id,Ii Jj o.src,Ii Jj o.dst,Ii Jj o.amount,Ii Jj o.first,Ii Jj o.every,Ii Jj o.times,Ii Jj n]] w fun e w'=>cF w (be ⟨#[100,97,121]⟩ ([]:List Int)) e w':=by
 obtain ⟨W0,hW0,X0,HB⟩:∃W0,W0=w.alloc (.cells #[Ii Jj 22,Ii Jj x.k,Ii Jj x.i,Ii Jj x.t,Ii Jj x.m,Ii Jj x.r,Ii Jj o.id,Ii Jj o.src,Ii Jj o.dst,Ii Jj o.amount,Ii Jj o.first,Ii Jj o.every,Ii Jj o.times,Ii Jj n] 37)/\Hid (aG W0 w.heap.size 22 x o n)/\Hid (Below w.heap.size w W0):=⟨_,rfl,aG.new w 22 x o n 37,(Bf _ _).alloc (Nf _) _⟩
 have HW0:Hid (W0=_):=hW0
 have HN:Hid (aA 22 x o n/\∀z ∈ ([]:List Int),e8 z):=⟨h,hs⟩
 clear h hs hW0
 go_enter Tryz.func14,Tryz.ntmps14
 go_wp2_with fail
 rw[←HW0.out]
 refine (bG 22 n x o _).mono ?_
 rintro e w1 ⟨ht,B1⟩
 have he:=ht.true HN.out.1
 subst he
 have H1:Hid (aG w1 w.heap.size 22 x o n/\Below w.heap.size w w1):=⟨X0.out.kept B1 X0.out.2,HB.out.trans (B1.mono HB.out.size)⟩
 clear ht B1 HB HW0 X0
 obtain ⟨⟨c0,c1,c2,c3,c4,c5,c6,c7,c8,c9,c10,c11,c12,c13⟩,_⟩:=H1.out.1
 have U3:Hid (Below w.heap.size w w1):=H1.out.2
 clear H1
 go_wp2
 go_ret
 exact ⟨rfl,U3.out⟩
theorem sG (i t m r n:Int) (o:am) (w:World) (h:aA 19 ⟨2,i,t,m,r⟩ o n) (hs:∀z ∈ [i],e8 z):Calls Pg 14 #[.agg #[Ii Jj 19,Ii Jj 2,Ii Jj i,Ii Jj t,Ii Jj m,Ii Jj r,Ii Jj o.id,Ii Jj o.src,Ii Jj o.dst,Ii Jj o.amount,Ii Jj o.first,Ii Jj o.every,Ii Jj o.times,Ii Jj n]] w fun e w'=>cF w (be ⟨#[102,114,101,101,122,101]⟩ [i]) e w':=by
 obtain ⟨W0,hW0,X0,HB⟩:∃W0,W0=w.alloc (.cells #[Ii Jj 19,Ii Jj 2,Ii Jj i,Ii Jj t,Ii Jj m,Ii Jj r,Ii Jj o.id,Ii Jj o.src,Ii Jj o.dst,Ii Jj o.amount,Ii Jj o.first,Ii Jj o.every,Ii Jj o.times,Ii Jj n] 37)/\Hid (aG W0 w.heap.size 19 ⟨2,i,t,m,r⟩ o n)/\Hid (Below w.heap.size w W0):=⟨_,rfl,aG.new w 19 ⟨2,i,t,m,r⟩ o n 37,(Bf _ _).alloc (Nf _) _⟩
 have HW0:Hid (W0=_):=hW0
 have HN:Hid (aA 19 ⟨2,i,t,m,r⟩ o n/\∀z ∈ [i],e8 z):=⟨h,hs⟩
 clear h hs hW0
 go_enter Tryz.func14,Tryz.ntmps14
 go_wp2_with fail
 rw[←HW0.out]
 refine (bG 19 n ⟨2,i,t,m,r⟩ o _).mono ?_
 rintro e w1 ⟨ht,B1⟩
 have he:=ht.true HN.out.1
 subst he
 have H1:Hid (aG w1 w.heap.size 19 ⟨2,i,t,m,r⟩ o n/\Below w.heap.size w w1):=⟨X0.out.kept B1 X0.out.2,HB.out.trans (B1.mono HB.out.size)⟩
 clear ht B1 HB HW0 X0
 obtain ⟨V,hV,kV,LV,BV⟩:∃V,V=(w1.alloc (.cells #[Ii Jj 2,Ii Jj i,Ii Jj t,Ii Jj m,Ii Jj r] 33)).alloc (.cells #[Ii Jj i] 2)/\Hid (V.cell? ⟨w1.heap.size,0,none⟩=some (Ii Jj 2))/\Hid (bn V (some ⟨w1.heap.size+1,0,none⟩) [i]/\w1.heap.size<V.heap.size)/\Hid (Below w.heap.size w V):=by
  refine ⟨_,rfl,(World.cell?_alloc_lt _ _ _ (by simp)).trans (by simp[go_sem]),⟨?_,by simp;omega⟩,?_⟩
  ·have:=bn.lit ((w1.alloc (.cells #[Ii Jj 2,Ii Jj i,Ii Jj t,Ii Jj m,Ii Jj r] 33))) [i]
   simpa using this
  ·have hz:=H1.out.2.size
   exact (H1.out.2.alloc hz _).alloc (by simp;omega) _
 have HV:Hid (V=_):=hV
 obtain ⟨⟨c0,c1,c2,c3,c4,c5,_⟩,_⟩:=H1.out.1
 clear hV H1
 go_wp2_with fail
 rw[←HV.out]
 clear HV
 have kD:V.drew.cell? ⟨w1.heap.size,0,none⟩=some (Ii Jj 2):=kV.out
 go_region_with (first|(go_at_call 48;refine (co _).mono ?_;rintro e u1 ⟨rfl,hu1⟩;have U1:Hid (u1.cell? ⟨V.heap.size,2,none⟩=some (.string ⟨#[102,114,101,101,122,101]⟩)/\u1.cell? ⟨w1.heap.size,0,none⟩=some (Ii Jj 2)/\bn u1 (some ⟨w1.heap.size+1,0,none⟩) [i]/\Below w.heap.size w u1):=(by rw[hu1];exact ⟨bQ V.drew 2 (by decide),(World.cell?_alloc_lt _ _ _ LV.out.2).trans kV.out,(LV.out.1.below ((Bf _ _).drew)).below ((Bf _ _).alloc (Nf _) _),(BV.out.drew).alloc BV.out.size _⟩);obtain ⟨y0,y1,_,_⟩:=U1.out;clear hu1)|(go_at_call 46;refine (cw ⟨#[102,114,101,101,122,101]⟩ (by decide) _ 1 _ [i] rfl (by omega) HN.out.2 _ U1.out.2.2.1).mono ?_;rintro e u2 ⟨rfl,B2⟩;have U2:Hid (Below w.heap.size w u2):=U1.out.2.2.2.trans (B2.mono U1.out.2.2.2.size);clear B2))
 all_goals go_wp2
 all_goals go_ret
 all_goals exact ⟨rfl,U2.out⟩
end Go.Proofs.YtjhgchlfpolkcaaGreatDoor
