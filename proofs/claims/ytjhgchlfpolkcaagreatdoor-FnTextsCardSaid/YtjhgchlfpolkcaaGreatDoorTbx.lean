/- BOpText of the specification, more kinds. -/
import Derived.Test.YtjhgchlfpolkcaaGreatDoorTsx
namespace Go.Proofs.YtjhgchlfpolkcaaGreatDoor
open Value renaming int → Ii,slice → Sl
open IntKind renaming i64 → Jj
open Nat renaming le_refl → Nf
open Go.RowKit.Below renaming refl → Bf
set_option maxHeartbeats 4000000
open Go.RowKit
set_option maxRecDepth 8000
theorem sF (i t m r n:Int) (o:am) (w:World) (h:aA 19 ⟨1,i,t,m,r⟩ o n) (hs:∀z ∈ [i,t,m,r],e8 z):Calls Tryz.prog 14 #[.agg #[Ii Jj 19,Ii Jj 1,Ii Jj i,Ii Jj t,Ii Jj m,Ii Jj r,Ii Jj o.id,Ii Jj o.src,Ii Jj o.dst,Ii Jj o.amount,Ii Jj o.first,Ii Jj o.every,Ii Jj o.times,Ii Jj n]] w fun e w'=>cF w (be ⟨#[111,112,101,110]⟩ [i,t,m,r]) e w':=by
 obtain ⟨W0,hW0,X0,HB⟩:∃W0,W0=w.alloc (.cells #[Ii Jj 19,Ii Jj 1,Ii Jj i,Ii Jj t,Ii Jj m,Ii Jj r,Ii Jj o.id,Ii Jj o.src,Ii Jj o.dst,Ii Jj o.amount,Ii Jj o.first,Ii Jj o.every,Ii Jj o.times,Ii Jj n] 37)/\Hid (aG W0 w.heap.size 19 ⟨1,i,t,m,r⟩ o n)/\Hid (Below w.heap.size w W0):=⟨_,rfl,aG.new w 19 ⟨1,i,t,m,r⟩ o n 37,(Bf _ _).alloc (Nf _) _⟩
 have HW0:Hid (W0=_):=hW0
 have HN:Hid (aA 19 ⟨1,i,t,m,r⟩ o n/\∀z ∈ [i,t,m,r],e8 z):=⟨h,hs⟩
 clear h hs hW0
 go_enter Tryz.func14,Tryz.ntmps14
 go_wp2_with fail
 rw[←HW0.out]
 refine (bG 19 n ⟨1,i,t,m,r⟩ o _).mono ?_
 rintro e w1 ⟨ht,B1⟩
 have he:=ht.true HN.out.1
 subst he
 have H1:Hid (aG w1 w.heap.size 19 ⟨1,i,t,m,r⟩ o n/\Below w.heap.size w w1):=⟨X0.out.kept B1 X0.out.2,HB.out.trans (B1.mono HB.out.size)⟩
 clear ht B1 HB HW0 X0
 obtain ⟨V,hV,kV,LV,BV⟩:∃V,V=((w1.alloc (.cells #[Ii Jj 1,Ii Jj i,Ii Jj t,Ii Jj m,Ii Jj r] 33)).alloc (.cells #[Ii Jj i] 2)).alloc (.cells #[Ii Jj i,Ii Jj t,Ii Jj m,Ii Jj r] 2)/\Hid (V.cell? ⟨w1.heap.size,0,none⟩=some (Ii Jj 1))/\Hid (bn V (some ⟨w1.heap.size+1+1,0,none⟩) [i,t,m,r]/\w1.heap.size<V.heap.size)/\Hid (Below w.heap.size w V):=by
  refine ⟨_,rfl,(World.cell?_alloc_lt _ _ _ (by simp;omega)).trans ((World.cell?_alloc_lt _ _ _ (by simp)).trans (by simp[go_sem])),⟨?_,by simp;omega⟩,?_⟩
  ·have:=bn.lit ((w1.alloc (.cells #[Ii Jj 1,Ii Jj i,Ii Jj t,Ii Jj m,Ii Jj r] 33)).alloc (.cells #[Ii Jj i] 2)) [i,t,m,r]
   simpa using this
  ·have hz:=H1.out.2.size
   exact ((H1.out.2.alloc hz _).alloc (by simp;omega) _).alloc (by simp;omega) _
 have HV:Hid (V=_):=hV
 obtain ⟨⟨c0,c1,c2,c3,c4,c5,_⟩,_⟩:=H1.out.1
 clear hV H1
 go_wp2_with fail
 rw[←HV.out]
 clear HV
 have kD:V.drew.cell? ⟨w1.heap.size,0,none⟩=some (Ii Jj 1):=kV.out
 go_region_with (first|(go_at_call 48;refine (co _).mono ?_;rintro e u1 ⟨rfl,hu1⟩;have U1:Hid (u1.cell? ⟨V.heap.size,1,none⟩=some (.string ⟨#[111,112,101,110]⟩)/\u1.cell? ⟨w1.heap.size,0,none⟩=some (Ii Jj 1)/\bn u1 (some ⟨w1.heap.size+1+1,0,none⟩) [i,t,m,r]/\Below w.heap.size w u1):=(by rw[hu1];exact ⟨bQ V.drew 1 (by decide),(World.cell?_alloc_lt _ _ _ LV.out.2).trans kV.out,(LV.out.1.below ((Bf _ _).drew)).below ((Bf _ _).alloc (Nf _) _),(BV.out.drew).alloc BV.out.size _⟩);obtain ⟨y0,y1,_,_⟩:=U1.out;clear hu1)|(go_at_call 46;refine (cw ⟨#[111,112,101,110]⟩ (by decide) _ 4 _ [i,t,m,r] rfl (by omega) HN.out.2 _ U1.out.2.2.1).mono ?_;rintro e u2 ⟨rfl,B2⟩;have U2:Hid (Below w.heap.size w u2):=U1.out.2.2.2.trans (B2.mono U1.out.2.2.2.size);clear B2))
 all_goals go_wp2
 all_goals go_ret
 all_goals exact ⟨rfl,U2.out⟩
theorem sL (i t m r n:Int) (o:am) (w:World) (h:aA 19 ⟨7,i,t,m,r⟩ o n) (hs:∀z ∈ [i,t,m],e8 z):Calls Tryz.prog 14 #[.agg #[Ii Jj 19,Ii Jj 7,Ii Jj i,Ii Jj t,Ii Jj m,Ii Jj r,Ii Jj o.id,Ii Jj o.src,Ii Jj o.dst,Ii Jj o.amount,Ii Jj o.first,Ii Jj o.every,Ii Jj o.times,Ii Jj n]] w fun e w'=>cF w (be ⟨#[112,97,121]⟩ [i,t,m]) e w':=by
 obtain ⟨W0,hW0,X0,HB⟩:∃W0,W0=w.alloc (.cells #[Ii Jj 19,Ii Jj 7,Ii Jj i,Ii Jj t,Ii Jj m,Ii Jj r,Ii Jj o.id,Ii Jj o.src,Ii Jj o.dst,Ii Jj o.amount,Ii Jj o.first,Ii Jj o.every,Ii Jj o.times,Ii Jj n] 37)/\Hid (aG W0 w.heap.size 19 ⟨7,i,t,m,r⟩ o n)/\Hid (Below w.heap.size w W0):=⟨_,rfl,aG.new w 19 ⟨7,i,t,m,r⟩ o n 37,(Bf _ _).alloc (Nf _) _⟩
 have HW0:Hid (W0=_):=hW0
 have HN:Hid (aA 19 ⟨7,i,t,m,r⟩ o n/\∀z ∈ [i,t,m],e8 z):=⟨h,hs⟩
 clear h hs hW0
 go_enter Tryz.func14,Tryz.ntmps14
 go_wp2_with fail
 rw[←HW0.out]
 refine (bG 19 n ⟨7,i,t,m,r⟩ o _).mono ?_
 rintro e w1 ⟨ht,B1⟩
 have he:=ht.true HN.out.1
 subst he
 have H1:Hid (aG w1 w.heap.size 19 ⟨7,i,t,m,r⟩ o n/\Below w.heap.size w w1):=⟨X0.out.kept B1 X0.out.2,HB.out.trans (B1.mono HB.out.size)⟩
 clear ht B1 HB HW0 X0
 obtain ⟨V,hV,kV,LV,BV⟩:∃V,V=((w1.alloc (.cells #[Ii Jj 7,Ii Jj i,Ii Jj t,Ii Jj m,Ii Jj r] 33)).alloc (.cells #[Ii Jj i] 2)).alloc (.cells #[Ii Jj i,Ii Jj t,Ii Jj m] 2)/\Hid (V.cell? ⟨w1.heap.size,0,none⟩=some (Ii Jj 7))/\Hid (bn V (some ⟨w1.heap.size+1+1,0,none⟩) [i,t,m]/\w1.heap.size<V.heap.size)/\Hid (Below w.heap.size w V):=by
  refine ⟨_,rfl,(World.cell?_alloc_lt _ _ _ (by simp;omega)).trans ((World.cell?_alloc_lt _ _ _ (by simp)).trans (by simp[go_sem])),⟨?_,by simp;omega⟩,?_⟩
  ·have:=bn.lit ((w1.alloc (.cells #[Ii Jj 7,Ii Jj i,Ii Jj t,Ii Jj m,Ii Jj r] 33)).alloc (.cells #[Ii Jj i] 2)) [i,t,m]
   simpa using this
  ·have hz:=H1.out.2.size
   exact ((H1.out.2.alloc hz _).alloc (by simp;omega) _).alloc (by simp;omega) _
 have HV:Hid (V=_):=hV
 obtain ⟨⟨c0,c1,c2,c3,c4,c5,_⟩,_⟩:=H1.out.1
 clear hV H1
 go_wp2_with fail
 rw[←HV.out]
 clear HV
 have kD:V.drew.cell? ⟨w1.heap.size,0,none⟩=some (Ii Jj 7):=kV.out
 go_region_with (first|(go_at_call 48;refine (co _).mono ?_;rintro e u1 ⟨rfl,hu1⟩;have U1:Hid (u1.cell? ⟨V.heap.size,7,none⟩=some (.string ⟨#[112,97,121]⟩)/\u1.cell? ⟨w1.heap.size,0,none⟩=some (Ii Jj 7)/\bn u1 (some ⟨w1.heap.size+1+1,0,none⟩) [i,t,m]/\Below w.heap.size w u1):=(by rw[hu1];exact ⟨bQ V.drew 7 (by decide),(World.cell?_alloc_lt _ _ _ LV.out.2).trans kV.out,(LV.out.1.below ((Bf _ _).drew)).below ((Bf _ _).alloc (Nf _) _),(BV.out.drew).alloc BV.out.size _⟩);obtain ⟨y0,y1,_,_⟩:=U1.out;clear hu1)|(go_at_call 46;refine (cw ⟨#[112,97,121]⟩ (by decide) _ 3 _ [i,t,m] rfl (by omega) HN.out.2 _ U1.out.2.2.1).mono ?_;rintro e u2 ⟨rfl,B2⟩;have U2:Hid (Below w.heap.size w u2):=U1.out.2.2.2.trans (B2.mono U1.out.2.2.2.size);clear B2))
 all_goals go_wp2
 all_goals go_ret
 all_goals exact ⟨rfl,U2.out⟩
theorem sM (i t m r n:Int) (o:am) (w:World) (h:aA 19 ⟨8,i,t,m,r⟩ o n) (hs:∀z ∈ [i,m],e8 z):Calls Tryz.prog 14 #[.agg #[Ii Jj 19,Ii Jj 8,Ii Jj i,Ii Jj t,Ii Jj m,Ii Jj r,Ii Jj o.id,Ii Jj o.src,Ii Jj o.dst,Ii Jj o.amount,Ii Jj o.first,Ii Jj o.every,Ii Jj o.times,Ii Jj n]] w fun e w'=>cF w (be ⟨#[108,105,109,105,116]⟩ [i,m]) e w':=by
 obtain ⟨W0,hW0,X0,HB⟩:∃W0,W0=w.alloc (.cells #[Ii Jj 19,Ii Jj 8,Ii Jj i,Ii Jj t,Ii Jj m,Ii Jj r,Ii Jj o.id,Ii Jj o.src,Ii Jj o.dst,Ii Jj o.amount,Ii Jj o.first,Ii Jj o.every,Ii Jj o.times,Ii Jj n] 37)/\Hid (aG W0 w.heap.size 19 ⟨8,i,t,m,r⟩ o n)/\Hid (Below w.heap.size w W0):=⟨_,rfl,aG.new w 19 ⟨8,i,t,m,r⟩ o n 37,(Bf _ _).alloc (Nf _) _⟩
 have HW0:Hid (W0=_):=hW0
 have HN:Hid (aA 19 ⟨8,i,t,m,r⟩ o n/\∀z ∈ [i,m],e8 z):=⟨h,hs⟩
 clear h hs hW0
 go_enter Tryz.func14,Tryz.ntmps14
 go_wp2_with fail
 rw[←HW0.out]
 refine (bG 19 n ⟨8,i,t,m,r⟩ o _).mono ?_
 rintro e w1 ⟨ht,B1⟩
 have he:=ht.true HN.out.1
 subst he
 have H1:Hid (aG w1 w.heap.size 19 ⟨8,i,t,m,r⟩ o n/\Below w.heap.size w w1):=⟨X0.out.kept B1 X0.out.2,HB.out.trans (B1.mono HB.out.size)⟩
 clear ht B1 HB HW0 X0
 obtain ⟨V,hV,kV,LV,BV⟩:∃V,V=((w1.alloc (.cells #[Ii Jj 8,Ii Jj i,Ii Jj t,Ii Jj m,Ii Jj r] 33)).alloc (.cells #[Ii Jj i] 2)).alloc (.cells #[Ii Jj i,Ii Jj m] 2)/\Hid (V.cell? ⟨w1.heap.size,0,none⟩=some (Ii Jj 8))/\Hid (bn V (some ⟨w1.heap.size+1+1,0,none⟩) [i,m]/\w1.heap.size<V.heap.size)/\Hid (Below w.heap.size w V):=by
  refine ⟨_,rfl,(World.cell?_alloc_lt _ _ _ (by simp;omega)).trans ((World.cell?_alloc_lt _ _ _ (by simp)).trans (by simp[go_sem])),⟨?_,by simp;omega⟩,?_⟩
  ·have:=bn.lit ((w1.alloc (.cells #[Ii Jj 8,Ii Jj i,Ii Jj t,Ii Jj m,Ii Jj r] 33)).alloc (.cells #[Ii Jj i] 2)) [i,m]
   simpa using this
  ·have hz:=H1.out.2.size
   exact ((H1.out.2.alloc hz _).alloc (by simp;omega) _).alloc (by simp;omega) _
 have HV:Hid (V=_):=hV
 obtain ⟨⟨c0,c1,c2,c3,c4,c5,_⟩,_⟩:=H1.out.1
 clear hV H1
 go_wp2_with fail
 rw[←HV.out]
 clear HV
 have kD:V.drew.cell? ⟨w1.heap.size,0,none⟩=some (Ii Jj 8):=kV.out
 go_region_with (first|(go_at_call 48;refine (co _).mono ?_;rintro e u1 ⟨rfl,hu1⟩;have U1:Hid (u1.cell? ⟨V.heap.size,8,none⟩=some (.string ⟨#[108,105,109,105,116]⟩)/\u1.cell? ⟨w1.heap.size,0,none⟩=some (Ii Jj 8)/\bn u1 (some ⟨w1.heap.size+1+1,0,none⟩) [i,m]/\Below w.heap.size w u1):=(by rw[hu1];exact ⟨bQ V.drew 8 (by decide),(World.cell?_alloc_lt _ _ _ LV.out.2).trans kV.out,(LV.out.1.below ((Bf _ _).drew)).below ((Bf _ _).alloc (Nf _) _),(BV.out.drew).alloc BV.out.size _⟩);obtain ⟨y0,y1,_,_⟩:=U1.out;clear hu1)|(go_at_call 46;refine (cw ⟨#[108,105,109,105,116]⟩ (by decide) _ 2 _ [i,m] rfl (by omega) HN.out.2 _ U1.out.2.2.1).mono ?_;rintro e u2 ⟨rfl,B2⟩;have U2:Hid (Below w.heap.size w u2):=U1.out.2.2.2.trans (B2.mono U1.out.2.2.2.size);clear B2))
 all_goals go_wp2
 all_goals go_ret
 all_goals exact ⟨rfl,U2.out⟩
end Go.Proofs.YtjhgchlfpolkcaaGreatDoor
