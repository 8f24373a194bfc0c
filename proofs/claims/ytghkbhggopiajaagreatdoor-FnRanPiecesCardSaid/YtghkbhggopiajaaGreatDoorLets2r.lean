/- Contracts of the number functions of chapter 1 that read no table. -/
import Derived.Test.YtghkbhggopiajaaGreatDoorLedsr
import Derived.Test.YtghkbhggopiajaaGreatDoorPaysr
namespace Go.Proofs.YtghkbhggopiajaaGreatDoor
open Value renaming int → Ii,slice → Sl
open IntKind renaming i64 → Jj
open Nat renaming le_refl → Nf
open Go.RowKit.Below renaming refl → Bf
open Go.Proofs.Tryz renaming prog → Pg
set_option maxHeartbeats 4000000
open Go.RowKit
set_option maxRecDepth 8000
def qK (n lo hi:Int):Bool:=decide (lo<=n) && decide (n<=hi)
theorem eM {n lo hi:Int} (h:lo<=n/\n<=hi):qK n lo hi=true:=by simp[qK,h]
theorem gD {n lo hi:Int} (h:¬(lo<=n/\n<=hi)):qK n lo hi=false:=by simp only[qK,Bool.and_eq_false_iff,decide_eq_false_iff_not];omega
theorem dG (n lo hi:Int) (w:World):
  Calls Pg 85 #[Ii Jj n,Ii Jj lo,Ii Jj hi] w fun e w'=>e=.returned (.bool (qK n lo hi))/\w'=w:=by
 by_cases h1:lo<=n
 ·by_cases h2:n<=hi
  ·rw[eM ⟨h1,h2⟩]
   go_enter Tryz.func85,Tryz.ntmps85
   go_wp2
   go_ret
   exact ⟨rfl,rfl⟩
  ·rw[gD (by omega)]
   have h2':hi<n:=by omega
   go_enter Tryz.func85,Tryz.ntmps85
   go_wp2
   go_ret
   exact ⟨rfl,rfl⟩
 ·rw[gD (by omega)]
  have h1':n<lo:=by omega
  go_enter Tryz.func85,Tryz.ntmps85
  go_wp2
  go_ret
  exact ⟨rfl,rfl⟩
def wd (n:Int):Int:=if qK n 0 3000000=true then n % 7+1 else -1
open Go.RowKit
set_option maxRecDepth 8000
theorem qp (t:Int) (h:t<0):t.tdiv 3650000= -((-t) / 3650000):=by
 have e:t= -(-t):=by omega
 rw[e,Int.neg_tdiv,Int.tdiv_eq_ediv_of_nonneg (by omega)];simp
theorem qs (t:Int) (h:t<0):t.tmod 3650000= -((-t) % 3650000):=by
 have e:t= -(-t):=by omega
 rw[e,Int.neg_tmod,Int.tmod_eq_emod_of_nonneg (by omega)];simp
theorem oP (b r:Int) (h1: -1000000000000<=b) (h2:b<=1000000000000) (h3:0<=r) (h4:r<=10000): -10000000000000000<=b*r/\b*r<=10000000000000000:=by
 have a1:b*r<=1000000000000*r:=Int.mul_le_mul_of_nonneg_right h2 h3
 have a2: -1000000000000*r<=b*r:=Int.mul_le_mul_of_nonneg_right h1 h3
 omega
theorem rF {a b a' b':Int} {x y:Bool} (h:a=a') (k:b=b') (l:x=y):Ending.returned (.tuple #[Ii Jj a,Ii Jj b,.bool x])=.returned (.tuple #[Ii Jj a',Ii Jj b',.bool y]):=by rw[h,k,l]
theorem kI (t:Int) (h:t<0) (hb: -20000000000000000<=t):∃q m:Int,t.tdiv 3650000=q/\t.tmod 3650000=m/\ -20000000000<=q/\q<=0/\ -3650000<m/\m<=0/\t=q*3650000+m/\
  (m<0->q-1=t / 3650000/\m+3650000=t % 3650000)/\(m=0->q=t / 3650000/\0=t % 3650000):=by
 refine ⟨_,_,qp t h,qs t h,by omega,by omega,by omega,by omega,by omega,fun _=>by omega,fun _=>by omega⟩
theorem iJ (b r c : Int) (w : World) (h1 : -1000000000000 <= b) (h2 : b <= 1000000000000) (h3 : 0 <= r) (h4 : r <= 10000) (h5 : 0 <= c) (h6 : c < 3650000) :
    Calls Pg 152 #[Ii Jj b,Ii Jj r,Ii Jj c] w fun e w'=>e=.returned (.tuple #[Ii Jj ((b*r+c) / 3650000),Ii Jj ((b*r+c) % 3650000),.bool true])/\w'=w:=by
  obtain ⟨m1,m2⟩:=oP b r h1 h2 h3 h4
  by_cases ht:0<=b*r+c
  · go_enter Tryz.func152,Tryz.ntmps152
    go_wp2
    go_ret3
    exact ⟨rfl,rfl⟩
  · obtain ⟨q,m,hq,hm,q1,q2,q3,q4,ht',hy,hn⟩:=kI (b*r+c) (by omega) (by omega)
    by_cases hm0:m<0
    · obtain ⟨e1,e2⟩:=hy hm0
      have E1:=aa e1
      have E2:=aa e2
      clear e1 e2 hy hn ht'
      go_enter Tryz.func152,Tryz.ntmps152
      go_wp2
      go_ret3
      exact ⟨rF E1.out E2.out rfl,rfl⟩
    · obtain ⟨e1,e2⟩:=hn (by omega)
      have E1:=aa e1
      have E2 : Hid (m = (b * r + c) % 3650000) := by have : m = 0 := by omega
                                                      rw[this];exact e2
      clear e1 e2 hy hn ht'
      go_enter Tryz.func152,Tryz.ntmps152
      go_wp2
      go_ret3
      exact ⟨rF E1.out E2.out rfl,rfl⟩
theorem jy (b r c:Int) (w:World) (h:¬(-1000000000000<=b/\b<=1000000000000/\0<=r/\r<=10000/\0<=c/\c<3650000)):
  Calls Pg 152 #[Ii Jj b,Ii Jj r,Ii Jj c] w fun e w'=>e=.returned (.tuple #[Ii Jj 0,Ii Jj 0,.bool false])/\w'=w:=by
 by_cases h1:b< -1000000000000
 ·go_enter Tryz.func152,Tryz.ntmps152
  go_wp2
  go_ret3
  exact ⟨rfl,rfl⟩
 by_cases h2:1000000000000<b
 ·go_enter Tryz.func152,Tryz.ntmps152
  go_wp2
  go_ret3
  exact ⟨rfl,rfl⟩
 by_cases h3:r<0
 ·go_enter Tryz.func152,Tryz.ntmps152
  go_wp2
  go_ret3
  exact ⟨rfl,rfl⟩
 by_cases h4:10000<r
 ·go_enter Tryz.func152,Tryz.ntmps152
  go_wp2
  go_ret3
  exact ⟨rfl,rfl⟩
 by_cases h5:c<0
 ·go_enter Tryz.func152,Tryz.ntmps152
  go_wp2
  go_ret3
  exact ⟨rfl,rfl⟩
 have h6:3650000<=c:=by omega
 go_enter Tryz.func152,Tryz.ntmps152
 go_wp2
 go_ret3
 exact ⟨rfl,rfl⟩
theorem iK (b r c:Int) (w:World) (h1: -1000000000000<=b) (h2:b<=1000000000000) (h3:0<=r) (h4:r<=10000) (h5:0<=c) (h6:c<3650000):
  Calls Pg 154 #[Ii Jj b,Ii Jj r,Ii Jj c] w fun e w'=>e=.returned (.tuple #[Ii Jj ((b*r+c) / 3650000),Ii Jj ((b*r+c) % 3650000),.bool true])/\w'=w:=by
 obtain ⟨m1,m2⟩:=oP b r h1 h2 h3 h4
 have i1:=eM ⟨h1,h2⟩
 have i2:=eM ⟨h3,h4⟩
 have i3:qK c 0 3649999=true:=eM ⟨h5,by omega⟩
 by_cases ht:0<=b*r+c
 ·have E:Hid (b*r+c-(b*r+c) / 3650000*3650000=(b*r+c) % 3650000):=by show _=_;omega
  go_enter Tryz.func154,Tryz.ntmps154
  go_wp2_with (go_at_call 85;refine (dG _ _ _ _).mono ?_;rintro e w' ⟨rfl,rfl⟩)
  go_ret3
  exact ⟨rF rfl E.out rfl,rfl⟩
 ·obtain ⟨q,m,hq,hm,q1,q2,q3,q4,ht',hy,hn⟩:=kI (b*r+c) (by omega) (by omega)
  by_cases hm0:m<0
  ·obtain ⟨e1,e2⟩:=hy hm0
   have E1:=aa e1
   have E2:Hid (b*r+c-(q-1)*3650000=(b*r+c) % 3650000):=by show _=_;omega
   have b1: -20000000000*3650000<=b*r+c:=by omega
   clear e1 e2 hy hn ht'
   go_enter Tryz.func154,Tryz.ntmps154
   go_wp2_with (go_at_call 85;refine (dG _ _ _ _).mono ?_;rintro e w' ⟨rfl,rfl⟩)
   go_ret3
   exact ⟨rF E1.out E2.out rfl,rfl⟩
  ·obtain ⟨e1,e2⟩:=hn (by omega)
   have E1:=aa e1
   have E2:Hid (b*r+c-q*3650000=(b*r+c) % 3650000):=by show _=_;omega
   clear e1 e2 hy hn ht'
   go_enter Tryz.func154,Tryz.ntmps154
   go_wp2_with (go_at_call 85;refine (dG _ _ _ _).mono ?_;rintro e w' ⟨rfl,rfl⟩)
   go_ret3
   exact ⟨rF E1.out E2.out rfl,rfl⟩
theorem jz (b r c:Int) (w:World) (h:¬(-1000000000000<=b/\b<=1000000000000/\0<=r/\r<=10000/\0<=c/\c<3650000)):
  Calls Pg 154 #[Ii Jj b,Ii Jj r,Ii Jj c] w fun e w'=>e=.returned (.tuple #[Ii Jj 0,Ii Jj 0,.bool false])/\w'=w:=by
 by_cases h1: -1000000000000<=b/\b<=1000000000000
 ·have i1:=eM h1
  by_cases h2:0<=r/\r<=10000
  ·have i2:=eM h2
   have i3:qK c 0 3649999=false:=gD (by omega)
   clear h h1 h2
   go_enter Tryz.func154,Tryz.ntmps154
   go_wp2_with (go_at_call 85;refine (dG _ _ _ _).mono ?_;rintro e w' ⟨rfl,rfl⟩)
   go_ret3
   exact ⟨rfl,rfl⟩
  ·have i2:=gD h2
   clear h h1 h2
   go_enter Tryz.func154,Tryz.ntmps154
   go_wp2_with (go_at_call 85;refine (dG _ _ _ _).mono ?_;rintro e w' ⟨rfl,rfl⟩)
   go_ret3
   exact ⟨rfl,rfl⟩
 ·have i1:=gD h1
  clear h h1
  go_enter Tryz.func154,Tryz.ntmps154
  go_wp2_with (go_at_call 85;refine (dG _ _ _ _).mono ?_;rintro e w' ⟨rfl,rfl⟩)
  go_ret3
  exact ⟨rfl,rfl⟩
open Go.RowKit
set_option maxRecDepth 8000
def dg (A:aj) (s:Int):Int:=(s*A.rate+A.carry) / 3650000
def eN (A:aj) (s:Int):Int:=(s*A.rate+A.carry) % 3650000
def fH (A:aj) (s:Int):Prop:=(-1000000000000<=s/\s<=1000000000000)/\(-1000000000000<=A.balance+dg A s/\A.balance+dg A s<=1000000000000)
instance (A:aj) (s:Int):Decidable (fH A s):=by unfold fH;infer_instance
def fI (A:aj) (s:Int):Int:=if fH A s then dg A s else 0
def gp (A:aj) (s:Int):aj:=if fH A s then {A with balance:=A.balance+dg A s,carry:=eN A s} else A
theorem iX {A:aj} {s:Int} (ho:gi A) (h: -1000000000000<=s/\s<=1000000000000): -3000000000<=dg A s/\dg A s<=3000000000/\0<=eN A s/\eN A s<3650000:=by
 obtain ⟨_,_,_,h4,_,_,h7,_⟩:=ho
 obtain ⟨m1,m2⟩:=oP s A.rate h.1 h.2 h4.1 h4.2
 unfold dg eN
 generalize s*A.rate=t at*
 omega
theorem nj {A:aj} {x c:Int} (ho:gi A) (hu:A.up=0) (hc:0<=c/\c<3650000):iz {A with balance:=A.balance+x,carry:=c}↔(-1000000000000<=A.balance+x/\A.balance+x<=1000000000000):=by
 have h:=((iU A).1 ho).1
 unfold iz at h ⊢
 simp only
 omega
theorem nk (A:aj) (s:Int) (w:World) (ho:gi A) (h: -1000000000000<=s/\s<=1000000000000):
  Calls Pg 152 #[Ii Jj s,Ii Jj A.rate,Ii Jj A.carry] w fun e w'=>e=.returned (.tuple #[Ii Jj (dg A s),Ii Jj (eN A s),.bool true])/\w'=w:=by
 obtain ⟨_,_,_,h4,_,_,h7,_⟩:=ho
 exact iJ s A.rate A.carry w h.1 h.2 h4.1 h4.2 h7.1 (by omega)
theorem np (A:aj) (s:Int) (w:World) (h:¬(-1000000000000<=s/\s<=1000000000000)):
  Calls Pg 152 #[Ii Jj s,Ii Jj A.rate,Ii Jj A.carry] w fun e w'=>e=.returned (.tuple #[Ii Jj 0,Ii Jj 0,.bool false])/\w'=w:=
 jy s A.rate A.carry w (by omega)
theorem aV {w v:World} {g:Nat} (h:w.grownBy v (some g)) (o:Nat) (u:Value):w.grownBy (v.setCell ⟨g,o,none⟩ u) (some g):=
 ⟨h.os,h.tape,h.output,by simpa [World.setCell] using h.size,fun i hi hne=>by
  have e:i≠g:=fun e=>hne (by rw[e])
  rw[←h.block i hi hne]
  simp[World.setCell,Array.getElem?_modify,Ne.symm e]⟩
theorem jA {w v:World} (h:Below w.heap.size w v) (g:Nat) (x:aj):w.grownBy (dT v g 0 x) (some g):=by
 have h0:w.grownBy v (some g):=⟨h.os,h.tape,h.output,h.size,fun i hi _=>h.block i hi⟩
 unfold dT
 exact aV (aV (aV (aV (aV (aV (aV (aV h0 _ _) _ _) _ _) _ _) _ _) _ _) _ _) _ _
theorem lH (g:Nat) (A:aj) (s:Int) (w:World) (hA:bV w g A) (ho:gi A) (hu:A.up=0) (hs: -1000000000000<=s/\s<=1000000000000) (hp: -1000000000000<=A.balance+dg A s/\A.balance+dg A s<=1000000000000):
  Calls Pg 118 #[.pointer (some ⟨g,0,none⟩),Ii Jj s] w fun e w'=>e=.returned (Ii Jj (dg A s))/\bV w' g {A with balance:=A.balance+dg A s,carry:=eN A s}/\w.grownBy w' (some g):=by
 have HA:=aa hA
 obtain ⟨x1,x2,y1,y2⟩:=iX ho hs
 have cA:=fun W=>nk A s W ho hs
 have hok:=(nj (x:=dg A s) (c:=eN A s) ho hu ⟨y1,y2⟩).2 hp
 have cO:=fun W=>eI _ W hok
 obtain ⟨p1,p2⟩:=hp
 generalize dg A s=x at*
 generalize eN A s=y at*
 obtain ⟨c0,c1,c2,c3,c4,c5,c6,c7⟩:=hA.1
 have hg:=hA.2.2
 clear hA hok ho hu hs
 go_enter Tryz.func118,Tryz.ntmps118
 go_wp2_with fail
 go_quiet ((go_at_call 152;exact Calls.quiet_of_same (cA _)))
 obtain ⟨W,hW⟩:∃W,W=w.drewN nq:=⟨_,rfl⟩
 have HB:Hid (Below w.heap.size w W):=by rw[hW];exact below_drewN (Bf _ _) _
 have HAW:Hid (bV W g A):=by rw[hW];exact HA.out
 rw[←hW]
 clear hW c0 c1 c2 c3 c4 c5 c6 c7 hg
 obtain ⟨c0,c1,c2,c3,c4,c5,c6,c7⟩:=HAW.out.1
 have hg:=HAW.out.2.2
 go_wp2_with fail
 refine (cO _).mono ?_
 rintro e w1 ⟨rfl,B1⟩
 have HB1:Hid (Below W.heap.size W w1):=((Bf _ _).alloc (Nf _) _).trans (B1.mono (by simp))
 have HN:Hid (bV w1 W.heap.size {A with balance:=A.balance+x,carry:=y}):=(bV.new W {A with balance:=A.balance+x,carry:=y} 30).below B1
 have HG:=aa (HAW.out.below HB1.out)
 clear c0 c1 c2 c3 c4 c5 c6 c7 B1 hg
 obtain ⟨n0,n1,n2,n3,n4,n5,n6,n7⟩:=HN.out.1
 obtain ⟨c0,c1,c2,c3,c4,c5,c6,c7⟩:=HG.out.1
 have hf:=HG.out.2.1
 have hg:=HAW.out.2.2
 clear cA cO p1 p2 x1 x2 y1 y2
 obtain ⟨V,hV,hBV,hGV⟩:∃V,Hid (V=dT w1 g 0 {A with balance:=A.balance+x,carry:=y})/\Hid (bV V g {A with balance:=A.balance+x,carry:=y})/\Hid (w.grownBy V (some g)):=⟨_,rfl,HG.out.set _,jA (HB.out.trans (HB1.out.mono HB.out.size)) g _⟩
 go_wp2
 have hV:=hV.out
 simp only[dT,Nat.zero_add] at hV
 rw[←hV]
 go_ret
 exact ⟨rfl,hBV.out,hGV.out⟩
theorem jB (g:Nat) (A:aj) (s:Int) (w:World) (hA:bV w g A) (ho:gi A) (hs:¬(-1000000000000<=s/\s<=1000000000000)):
  Calls Pg 118 #[.pointer (some ⟨g,0,none⟩),Ii Jj s] w fun e w'=>e=.returned (Ii Jj 0)/\Below w.heap.size w w':=by
 have HA:=aa hA
 have cA:=fun W=>np A s W hs
 obtain ⟨c0,c1,c2,c3,c4,c5,c6,c7⟩:=hA.1
 have hg:=hA.2.2
 obtain ⟨b1,b2⟩:=ho.2.2.2.2.2.1
 clear hA ho hs
 go_enter Tryz.func118,Tryz.ntmps118
 go_wp2_with fail
 go_quiet ((go_at_call 152;exact Calls.quiet_of_same (cA _)))
 obtain ⟨W,hW⟩:∃W,W=w.drewN nq:=⟨_,rfl⟩
 have HB:Hid (Below w.heap.size w W):=by rw[hW];exact below_drewN (Bf _ _) _
 have HAW:Hid (bV W g A):=by rw[hW];exact HA.out
 rw[←hW]
 clear hW c0 c1 c2 c3 c4 c5 c6 c7 hg
 obtain ⟨c0,c1,c2,c3,c4,c5,c6,c7⟩:=HAW.out.1
 have hg:=HAW.out.2.2
 go_wp2
 go_ret
 exact ⟨rfl,HB.out.alloc HB.out.size _⟩
theorem nr (g:Nat) (A:aj) (s:Int) (w:World) (hA:bV w g A) (ho:gi A) (hu:A.up=0) (hs: -1000000000000<=s/\s<=1000000000000) (hp:¬(-1000000000000<=A.balance+dg A s/\A.balance+dg A s<=1000000000000)):
  Calls Pg 118 #[.pointer (some ⟨g,0,none⟩),Ii Jj s] w fun e w'=>e=.returned (Ii Jj 0)/\Below w.heap.size w w':=by
 have HA:=aa hA
 obtain ⟨x1,x2,y1,y2⟩:=iX ho hs
 have cA:=fun W=>nk A s W ho hs
 have hok:¬iz {A with balance:=A.balance+dg A s,carry:=eN A s}:=fun h=>hp ((nj (x:=dg A s) (c:=eN A s) ho hu ⟨y1,y2⟩).1 h)
 have cO:=fun W=>je _ W hok
 obtain ⟨b1,b2⟩:=ho.2.2.2.2.2.1
 clear hp
 generalize dg A s=x at*
 generalize eN A s=y at*
 obtain ⟨c0,c1,c2,c3,c4,c5,c6,c7⟩:=hA.1
 have hg:=hA.2.2
 clear hA hok ho hu hs
 go_enter Tryz.func118,Tryz.ntmps118
 go_wp2_with fail
 go_quiet ((go_at_call 152;exact Calls.quiet_of_same (cA _)))
 obtain ⟨W,hW⟩:∃W,W=w.drewN nq:=⟨_,rfl⟩
 have HB:Hid (Below w.heap.size w W):=by rw[hW];exact below_drewN (Bf _ _) _
 have HAW:Hid (bV W g A):=by rw[hW];exact HA.out
 rw[←hW]
 clear hW c0 c1 c2 c3 c4 c5 c6 c7 hg
 obtain ⟨c0,c1,c2,c3,c4,c5,c6,c7⟩:=HAW.out.1
 have hg:=HAW.out.2.2
 go_wp2_with fail
 refine (cO _).mono ?_
 rintro e w1 ⟨rfl,B1⟩
 have HB1:Hid (Below w.heap.size w w1):=HB.out.trans ((((Bf _ _).alloc (Nf _) _).trans (B1.mono (by simp))).mono HB.out.size)
 clear c0 c1 c2 c3 c4 c5 c6 c7 B1 hg
 go_wp2
 go_ret
 exact ⟨rfl,HB1.out⟩
theorem rG (g:Nat) (A:aj) (s:Int) (w:World) (hA:bV w g A) (ho:gi A) (hu:A.up=0):
  Calls Pg 118 #[.pointer (some ⟨g,0,none⟩),Ii Jj s] w fun e w'=>e=.returned (Ii Jj (fI A s))/\bV w' g (gp A s)/\w.grownBy w' (some g):=by
 by_cases h:fH A s
 ·unfold fI gp
  rw[if_pos h,if_pos h]
  exact lH g A s w hA ho hu h.1 h.2
 ·unfold fI gp
  rw[if_neg h,if_neg h]
  have k:Calls Pg 118 #[.pointer (some ⟨g,0,none⟩),Ii Jj s] w fun e w'=>e=.returned (Ii Jj 0)/\Below w.heap.size w w':=by
   by_cases hs: -1000000000000<=s/\s<=1000000000000
   ·exact nr g A s w hA ho hu hs (fun hp=>h ⟨hs,hp⟩)
   ·exact jB g A s w hA ho hs
  exact k.mono fun e w' ⟨he,hb⟩=>⟨he,hA.below hb,hb.os,hb.tape,hb.output,hb.size,fun i hi _=>hb.block i hi⟩
open Go.RowKit
set_option maxRecDepth 8000
def eO (A:aj):Prop:=A.up=0/\A.rate≠0
instance (A:aj):Decidable (eO A):=by unfold eO;infer_instance
def qu (F:Nat->aj) (n i:Nat):aj:=if eO (F i) then gp (F i) (ax F n i) else F i
def lI (F:Nat->aj) (n i:Nat):Int:=if eO (F i) then fI (F i) (ax F n i) else 0
def ed (F:Nat->aj) (n k:Nat):Nat->aj:=fun i=>if i<k then qu F n i else F i
def di (F:Nat->aj) (n k:Nat):Int:=aX (lI F n) k
theorem nt (A:aj) (s:Int):(gp A s).id=A.id:=by unfold gp;split <;>rfl
theorem sv (F:Nat->aj) (n i:Nat):(qu F n i).id=(F i).id:=by unfold qu;split;exact nt _ _;rfl
theorem gR (F:Nat->aj) (n k i:Nat):(ed F n k i).id=(F i).id:=by unfold ed;split;exact sv _ _ _;rfl
theorem gS (F:Nat->aj) (n k:Nat):ed F n k k=F k:=by simp[ed]
theorem kJ (F:Nat->aj) (n:Nat):ed F n 0=F:=by funext i;simp[ed]
theorem kK (F:Nat->aj) (n k:Nat):ed F n (k+1)=fun i=>if i=k then qu F n k else ed F n k i:=by
 funext i
 unfold ed
 by_cases h:i=k
 ·subst h;simp
 ·by_cases h':i<k
  ·rw[if_pos (by omega),if_neg h,if_pos h']
  ·rw[if_neg (by omega),if_neg h,if_neg h']
theorem nu {A:aj} (s:Int) (ho:gi A): -3000000000<=fI A s/\fI A s<=3000000000:=by
 unfold fI
 split
 ·rename_i h
  have:=iX ho h.1
  omega
 ·omega
theorem gT {F:Nat->aj} {n:Nat} (h:al F n):∀k,k<=n-> -(3000000000*(k:Int))<=di F n k/\di F n k<=3000000000*(k:Int)
 | 0,_=>by simp[di,aX]
 | k+1,hk=>by
  have ih:=gT h k (by omega)
  have e:di F n (k+1)=di F n k+lI F n k:=rfl
  have b: -3000000000<=lI F n k/\lI F n k<=3000000000:=by
   unfold lI
   split
   ·exact nu _ (h.2.1 k (by omega))
   ·omega
  rw[e]
  omega
theorem al.rises {F:Nat->aj} {n:Nat} (h:al F n):eL F n:=fun _ _ hij hj=>kv h.2.2.1 hij hj
theorem al.idwf {F:Nat->aj} {n:Nat} (h:al F n):∀i,i<n->(Lit.int .i64 (F i).id).wf=true:=fun i hi=>by
 have:=(h.2.1 i hi).1
 exact WalkArith.wf_i64 (by omega)
theorem eL.congr {F F':Nat->aj} {n:Nat} (h:eL F n) (e:∀i,(F' i).id=(F i).id):eL F' n:=fun i j hij hj=>by rw[e,e];exact h i j hij hj
theorem gC.congr {w:World} {B b n:Nat} {F F':Nat->aj} {G:Nat->Nat} (h:gC w B b n F G) (e:∀i,i<n->F i=F' i):gC w B b n F' G:=by
 refine ⟨h.base,?_,fun i hi=>by rw[←e i hi];exact h.acc i hi,h.one⟩
 rw[←gB (F:=F) (G:=G) (fun i hi=>⟨by rw[e i hi],rfl⟩)]
 exact h.map
theorem gC.upd {w w':World} {B b n k:Nat} {F:Nat->aj} {G:Nat->Nat} {A:aj} (h:gC w B b n F G) (hk:k<n) (hg:w.grownBy w' (some (G k))) (hA:bV w' (G k) A) (hid:A.id=(F k).id):
  gC w' B b n (fun i=>if i=k then A else F i) G:=by
 have hlt:=h.map.lt
 refine ⟨h.base,?_,fun i hi=>?_,h.one⟩
 ·rw[gB (F':=F) (G':=G) (fun i _=>⟨by by_cases e:i=k <;>simp[e,hid],rfl⟩)]
  exact World.ownsMap.kept h.map hg (by simp;exact fun e=>(h.acc k hk).2.1 e.symm)
 ·refine ⟨(h.acc i hi).1,(h.acc i hi).2.1,?_⟩
  by_cases e:i=k
  ·subst e;simpa using hA
  ·rw[if_neg e]
   exact (h.acc i hi).2.2.same (hg.block _ (h.acc i hi).2.2.2.2 (by simp;exact fun e'=>e (h.one i k hi hk e')))
def oQ (v w:World) (n:Nat) (G:Nat->Nat):Prop:=v.heap.size<=w.heap.size/\∀j,j<v.heap.size->(∀i,i<n->G i≠j)->w.heap[j]? =v.heap[j]?
theorem oQ.step {v w w':World} {n k:Nat} {G:Nat->Nat} (h:oQ v w n G) (hk:k<n) (hg:w.grownBy w' (some (G k))):oQ v w' n G:=
 ⟨Nat.le_trans h.1 hg.size,fun j hj hn=>(hg.block j (Nat.lt_of_lt_of_le hj h.1) (by simp;exact fun e=>hn k hk e.symm)).trans (h.2 j hj hn)⟩
theorem oQ.below {v w w':World} {n:Nat} {G:Nat->Nat} (h:oQ v w n G) (hb:Below w.heap.size w w'):oQ v w' n G:=
 ⟨Nat.le_trans h.1 hb.size,fun j hj hn=>(hb.block j (Nat.lt_of_lt_of_le hj h.1)).trans (h.2 j hj hn)⟩
theorem fV {F:Nat->aj} {n k:Nat} (h:¬eO (F k)):ed F n (k+1)=ed F n k:=by
 rw[kK]
 funext i
 by_cases e:i=k
 ·subst e;simp[gS,qu,h]
 ·simp[e]
theorem fW {F:Nat->aj} {n k:Nat} (h:¬eO (F k)):di F n (k+1)=di F n k:=by
 have e:di F n (k+1)=di F n k+lI F n k:=rfl
 rw[e]
 simp[lI,h]
theorem gU {F:Nat->aj} {n k:Nat} (h:eO (F k)):ed F n (k+1)=fun i=>if i=k then gp (F k) (ax F n k) else ed F n k i:=by
 rw[kK]
 simp[qu,h]
theorem gV {F:Nat->aj} {n k:Nat} (h:eO (F k)):di F n (k+1)=di F n k+fI (F k) (ax F n k):=by
 have e:di F n (k+1)=di F n k+lI F n k:=rfl
 rw[e]
 simp[lI,h]
theorem ik (a:Option Addr) (n c:Nat) (F:Nat->aj) (w:World) (h:Fo w a n F) (hR:al F n):
  Calls Pg 69 #[Sl a n c] w fun e w'=>∃v,e=.returned (.tuple #[v,Ii Jj (di F n n)])/\AL w' w.heap.size v (ex (ed F n n) n)/\Below w.heap.size w w':=by
 have H:=aa h
 have HR:=aa hR
 have hn:=hR.1
 clear h hR
 go_enter Tryz.func69,Tryz.ntmps69
 go_wp2_with (first
  | (go_at_call 19;refine (og _ _ _ _ _ H.out).mono ?_;rintro e w0 ⟨b0,rfl,hb0,B0⟩;obtain rfl:b0=true:=hb0.2 HR.out;clear hb0)
  | (go_at_call 56;refine (ng a n c F w0 (H.out.below B0) HR.out.rises hn HR.out.idwf).mono ?_;rintro e w1 ⟨rfl,⟨G,L1⟩,B1⟩)
  | (go_at_call 57;refine (vx _ _ n F G w1 HR.out.rises hn L1).mono ?_;rintro e w2 ⟨a2,c2,rfl,I2,B2⟩))
 have hs01:=B0.size
 have hs12:=B1.size
 have HI:=aa I2
 have HL:=aa (L1.below B2 (Nf _))
 have HG1:Hid (∀i,i<n->G i<w1.heap.size):=fun i hi=>(L1.acc i hi).2.2.2.2
 have HB2:=aa (B0.trans ((B1.trans (B2.mono hs12)).mono hs01))
 clear I2 L1 B0 B1 B2 hs12
 go_loopw[19,5] (fun i p wr=>∃k:Nat,k<=n/\i=Ii Jj k/\p=Ii Jj (di F n k)/\Hid (gC wr w0.heap.size w0.heap.size n (ed F n k) G)/\Hid (oQ w2 wr n G)/\Hid (Below w.heap.size w wr)) (fun i _ _=>n-(eH i).toNat)
 case atStart=>exact ⟨0,Nat.zero_le _,rfl,rfl,by rw[kJ];exact HL,⟨Nf _,fun _ _ _=>rfl⟩,HB2⟩
 case round=>
  obtain ⟨k,hk,rfl,rfl,hL,hK,hB⟩:=hrel
  by_cases hlt:k<n
  ·obtain ⟨g,rfl,hg1,hg2,hc⟩:=HI.out k hlt
   have hc':wr.cell? ⟨g,k,none⟩=some (Ii Jj (F k).id):=by
    rw[←hc]
    unfold World.cell?
    simp only[hK.out.2 g hg2 (fun i hi e=>by have:=HG1.out i hi;omega)]
   have hlook:=hL.out.look (HR.out.rises.congr (gR F n k)) hlt (by rw[gR];exact HR.out.idwf k hlt)
   rw[gS] at hlook
   have hX:Hid (bV wr (G k) (F k)):=by have:=(hL.out.acc k hlt).2.2;rw[gS] at this;exact this
   obtain ⟨c0,c1,c2,c3,c4,c5,c6,c7⟩:=hX.out.1
   have hGl:=hX.out.2.2
   have hGb:w.heap.size<=G k:=Nat.le_trans hs01 (hL.out.acc k hlt).1
   obtain ⟨s1,s2⟩:=gT HR.out k hk
   have s3: -36000000000<=di F n k:=by omega
   have s4:di F n k<=36000000000:=by omega
   clear hc hg1 hg2 s1 s2
   by_cases hu:(F k).up=0
   ·by_cases hr:(F k).rate=0
    ·have hE:Hid (¬eO (F k)):=fun he=>he.2 hr
     have hu':((F k).up == 0)=true:=by simp[hu]
     have hr':((F k).rate != 0)=false:=by simp[hr]
     have hr2:((F k).rate == 0)=true:=by simp[hr]
     clear hu hr
     go_wp2
     go_roundw
     case rel=>exact ⟨k+1,by omega,by go_num,by rw[fW hE.out],by rw[fV hE.out];exact hL,hK,hB⟩
     case measure=>simp[eH];omega
    ·have hE:Hid (eO (F k)):=⟨hu,hr⟩
     have hO:Hid (gi (F k)):=HR.out.2.1 k hlt
     have hU:=aa hu
     have hu':((F k).up == 0)=true:=by simp[hu]
     have hr':((F k).rate != 0)=true:=by simp[hr]
     have hr2:((F k).rate == 0)=false:=by simp[hr]
     have hF:=aa (H.out.below hB.out)
     obtain ⟨p1,p2⟩:=nu (ax F n k) hO.out
     clear hu hr
     go_wp2_with (first
      | (go_at_call 117;refine (jY a n c F (F k).id k wr hF.out HR.out (bL HR.out.2.2.1 hlt)).mono ?_;rintro e w3 ⟨rfl,B3⟩)
      | (go_at_call 118;refine (rG (G k) (F k) (ax F n k) w3 (hX.out.below B3) hO.out hU.out).mono ?_;rintro e w4 ⟨rfl,X4,G4⟩))
     go_roundw
     case rel=>
      refine ⟨k+1,by omega,by go_num,by rw[gV hE.out],?_,(hK.out.below B3).step hlt G4,?_⟩
      ·rw[gU hE.out]
       exact (hL.out.below B3 (Nf _)).upd hlt G4 X4 (by rw[nt,gR])
      ·exact (hB.out.trans (B3.mono hB.out.size)).grown G4 (Nat.le_trans hB.out.size B3.size) (fun j hj=>by cases hj;exact hGb)
     case measure=>simp[eH];omega
   ·have hE:Hid (¬eO (F k)):=fun he=>hu he.1
    have hu':((F k).up == 0)=false:=by simp[hu]
    clear hu
    go_wp2
    go_roundw
    case rel=>exact ⟨k+1,by omega,by go_num,by rw[fW hE.out],by rw[fV hE.out];exact hL,hK,hB⟩
    case measure=>simp[eH];omega
  ·obtain rfl:k=n:=by omega
   have hs:=hB.out.size
   go_wp2_with (go_at_call 59;refine (ij _ _ k _ G _ (HR.out.rises.congr (gR F k k)) hn (fun i hi=>by rw[gR];exact HR.out.idwf i hi) hL.out).mono ?_;rintro e w3 ⟨v,rfl,A3,B3⟩)
   refine bodyPost_ret (v:=.tuple #[v,Ii Jj (di F k k)]) (by simp[results,Tryz.results69,go_sem]) rfl ?_
   exact ⟨v,rfl,⟨A3.1,A3.2.elim Or.inl (fun ⟨g,cap,cur,hv,hg,r⟩=>Or.inr ⟨g,cap,cur,hv,Nat.le_trans hs hg,r⟩)⟩,hB.out.trans (B3.mono hs)⟩
open Go.RowKit
set_option maxRecDepth 8000
theorem rH (A:aj) (s:Int) (w:World) (ho:gi A) (h: -1000000000000<=s/\s<=1000000000000):
  Calls Pg 154 #[Ii Jj s,Ii Jj A.rate,Ii Jj A.carry] w fun e w'=>e=.returned (.tuple #[Ii Jj (dg A s),Ii Jj (eN A s),.bool true])/\w'=w:=by
 obtain ⟨_,_,_,h4,_,_,h7,_⟩:=ho
 exact iK s A.rate A.carry w h.1 h.2 h4.1 h4.2 h7.1 (by omega)
theorem nv (A:aj) (s:Int) (w:World) (h:¬(-1000000000000<=s/\s<=1000000000000)):
  Calls Pg 154 #[Ii Jj s,Ii Jj A.rate,Ii Jj A.carry] w fun e w'=>e=.returned (.tuple #[Ii Jj 0,Ii Jj 0,.bool false])/\w'=w:=
 jz s A.rate A.carry w (by omega)
theorem Calls.over_same {P:Program} {f:FuncId} {args:Array Value} {w v:World} {u:Value}
  (h:Calls P f args (bH w v) fun e w'=>e=.returned u/\w'=bH w v):Calls P f args (bH w v) fun e w''=>e=.returned u/\∃x,w''=bH w x:=
 h.mono fun _ _ ⟨he,hb⟩=>⟨he,v,hb⟩
theorem pJ (F:Nat->aj) (n k:Nat) (A:aj):(iH F n).set k A=iH (fun i=>if i=k then A else F i) n:=by
 apply List.ext_getElem
 ·simp[iH]
 ·intro i h1 h2
  simp only[iH,List.getElem_set,List.getElem_map,List.getElem_range]
  by_cases e:k=i
  ·subst e;simp
  ·rw[if_neg e,if_neg (fun e'=>e e'.symm)]
theorem AL.post {w:World} {B g c n k:Nat} {F:Nat->aj} {x y:Int} (h:AL w B (Sl (some ⟨g,0,none⟩) n c) (iH F n)) (hk:k<n):
  AL ((w.setCell ⟨g,k*8+6,none⟩ (Ii Jj x)).setCell ⟨g,k*8+7,none⟩ (Ii Jj y)) B (Sl (some ⟨g,0,none⟩) n c) (iH (fun i=>if i=k then {F k with balance:=x,carry:=y} else F i) n):=by
 have hl:(iH F n).length=n:=db F n
 have h0:AL w B (Sl (some ⟨g,0,none⟩) (iH F n).length c) (iH F n):=by rw[hl];exact h
 have h1:=h0.stored (p:=k) (by rw[hl];exact hk) 6 (by omega) (Ii Jj x) {F k with balance:=x} (by rw[oq hk];rfl)
 have h2:=h1.stored (p:=k) (by simp[hl];exact hk) 7 (by omega) (Ii Jj y) {F k with balance:=x,carry:=y} (by rw[cH _ (by rw[hl];exact hk)];rfl)
 rw[pJ,pJ,db] at h2
 refine (congrArg (fun L=>AL _ _ _ (iH L n)) ?_).mp h2
 funext i
 by_cases e:i=k <;>simp[e]
theorem pK {w:World} {B:Nat} {v:Value} {n k:Nat} {F:Nat->aj} {m:Nat} (h:AL w B v (iH (ed F n k) m)):AL w B v (iH (fun i=>if i=k then F k else ed F n k i) m):=by
 have e:(fun i=>if i=k then F k else ed F n k i)=ed F n k:=by
  funext i
  by_cases e:i=k
  ·subst e;simp[gS]
  ·simp[e]
 rw[e];exact h
theorem lJ (a:Option Addr) (n c:Nat) (F:Nat->aj) (w:World) (h:Fo w a n F) (hR:al F n):
  Calls Pg 121 #[Sl a n c] w fun e w'=>∃v,e=.returned (.tuple #[v,Ii Jj (di F n n)])/\AL w' w.heap.size v (iH (ed F n n) n)/\Below w.heap.size w w':=by
 have H:=aa h
 have HR:=aa hR
 have hn:=hR.1
 have H0:Hid (Fo w a n (FL (iH F n))):=h.congr (fun j hj=>(oq hj).symm)
 clear h hR
 go_enter Tryz.func121,Tryz.ntmps121
 go_wp2_with (go_at_call 107;refine (aP a n c (iH F n) w (db F n).symm H0.out).mono ?_;rintro e w1 ⟨g,c',rfl,A1,B1⟩)
 rw[db] at*
 have HA1:=aa A1
 have HB1:=aa B1
 have hgB:=A1.block.1
 clear A1 B1 H0
 go_loopw[6,5] (fun i p wr=>∃k:Nat,k<=n/\i=Ii Jj k/\p=Ii Jj (di F n k)/\Hid (AL wr w.heap.size (Sl (some ⟨g,0,none⟩) n c') (iH (ed F n k) n))/\Hid (Below w.heap.size w wr)) (fun i _ _=>n-(eH i).toNat)
 case atStart=>exact ⟨0,Nat.zero_le _,rfl,rfl,by rw[kJ];exact HA1,HB1⟩
 case round=>
  obtain ⟨k,hk,rfl,rfl,hL,hB⟩:=hrel
  by_cases hlt:k<n
  ·obtain ⟨b,o,rfl,hb,hA⟩:=(H.out.below hB.out).acc hlt
   obtain ⟨c0,c1,c2,c3,c4,c5,c6,c7⟩:=hA
   obtain ⟨s1,s2⟩:=gT HR.out k hk
   have s3: -36000000000<=di F n k:=by omega
   have s4:di F n k<=36000000000:=by omega
   have hgl:=hL.out.block.2
   clear s1 s2
   by_cases hu:(F k).up=0
   ·by_cases hr:(F k).rate=0
    ·have hE:Hid (¬eO (F k)):=fun he=>he.2 hr
     have hu':((F k).up != 0)=false:=by simp[hu]
     have hu2:((F k).up == 0)=true:=by simp[hu]
     have hr2:((F k).rate == 0)=true:=by simp[hr]
     clear hu hr
     go_wp2
     go_roundw
     case rel=>exact ⟨k+1,by omega,by go_num,by rw[fW hE.out],by rw[fV hE.out];exact AL.kept hL.out ((Bf _ _).alloc (Nf _) _),hB.out.alloc hB.out.size _⟩
     case measure=>simp[eH];omega
    ·have hE:Hid (eO (F k)):=⟨hu,hr⟩
     have hO:Hid (gi (F k)):=HR.out.2.1 k hlt
     have hu':((F k).up != 0)=false:=by simp[hu]
     have hu2:((F k).up == 0)=true:=by simp[hu]
     have hr2:((F k).rate == 0)=false:=by simp[hr]
     clear hu hr
     go_upto_region 8 with fail
     obtain ⟨W,hW⟩:∃W,W=wr.alloc (.cells #[Ii Jj (F k).id,Ii Jj (F k).up,Ii Jj (F k).limit,Ii Jj (F k).rate,Ii Jj (F k).target,.bool (F k).frozen,Ii Jj (F k).balance,Ii Jj (F k).carry] 30):=⟨_,rfl⟩
     have hXW:Hid (bV W wr.heap.size (F k)):=by rw[hW];exact bV.new wr (F k) 30
     have hB0:Below wr.heap.size wr W:=by rw[hW];exact (Bf _ _).alloc (Nf _) _
     have hBW:=aa (hB.out.trans (hB0.mono hB.out.size))
     have hLW:=aa (hL.out.kept hB0)
     rw[←hW]
     clear hW hB0 c0 c1 c2 c3 c4 c5 c6 c7 hb
     have q:∀v j,(bH W v).cell? ⟨wr.heap.size,j,none⟩=W.cell? ⟨wr.heap.size,j,none⟩:=fun v j=>(ap W v).cell (p:=⟨wr.heap.size,j,none⟩) hXW.out.2.2
     have q0:∀v,(bH W v).cell? ⟨wr.heap.size,0,none⟩=some (Ii Jj (F k).id):=fun v=>(q v 0).trans hXW.out.1.1
     have q3:∀v,(bH W v).cell? ⟨wr.heap.size,3,none⟩=some (Ii Jj (F k).rate):=fun v=>(q v 3).trans hXW.out.1.2.2.2.1
     have q7:∀v,(bH W v).cell? ⟨wr.heap.size,7,none⟩=some (Ii Jj (F k).carry):=fun v=>(q v 7).trans hXW.out.1.2.2.2.2.2.2.2
     clear q
     have cS:Hid (∀v,Calls Pg 155 #[Sl (some ⟨b,o,none⟩) n c,Ii Jj (F k).id] (bH W v) fun e w'=>e=.returned (Ii Jj (ax F n k))/\Below (bH W v).heap.size (bH W v) w'):=fun v=>iV _ n c F k _ ((H.out.below hBW.out).below (ap W v)) HR.out hlt
     have hbal:=hO.out.2.2.2.2.2.1
     by_cases hs: -1000000000000<=ax F n k/\ax F n k<=1000000000000
     ·have cA:Hid (∀w,Calls Pg 154 #[Ii Jj (ax F n k),Ii Jj (F k).rate,Ii Jj (F k).carry] w fun e w'=>e=.returned (.tuple #[Ii Jj (dg (F k) (ax F n k)),Ii Jj (eN (F k) (ax F n k)),.bool true])/\w'=w):=fun w=>rH (F k) _ w hO.out hs
      have HS:=aa hs
      obtain ⟨x1,x2,y1,y2⟩:=iX hO.out hs
      obtain ⟨x,hx⟩:∃x,x=dg (F k) (ax F n k):=⟨_,rfl⟩
      obtain ⟨y,hy⟩:∃y,y=eN (F k) (ax F n k):=⟨_,rfl⟩
      rw[←hx] at cA x1 x2
      rw[←hy] at cA y1 y2
      have HX:=aa hx
      have HY:=aa hy
      clear hs hx hy
      refine aw (by kernel_rfl) (by kernel_rfl) ?_
      go_big_quiet_step (fail)
      go_big_quiet_step (fail)
      go_big_quiet_step (fail)
      go_big_quiet_step ((go_at_call 155;exact Calls.over_of (cS.out _)))
      go_big_quiet_step (fail)
      go_big_quiet_step (fail)
      go_big_quiet_step (fail)
      go_big_quiet_step (fail)
      go_big_quiet_step ((go_at_call 154;exact Calls.over_same (cA.out _)))
      go_big_quiet_step (fail)
      go_big_quiet_step (fail)
      go_big_quiet_step (fail)
      go_big_quiet_step (fail)
      go_big_quiet_step (fail)
      go_big_quiet_step (fail)
      go_big_quiet_step (fail)
      refine wpQuiet_nil ?_
      intro V hV
      have hBV:Hid (Below W.heap.size W V):=by obtain ⟨vq,rfl⟩:=hV;exact ap W vq
      have hXV:=aa (hXW.out.below hBV.out)
      have hLV:=aa (hLW.out.kept hBV.out)
      have hBB:=aa (hBW.out.trans (hBV.out.mono hBW.out.size))
      clear hV q0 q3 q7 cS
      obtain ⟨c0,c1,c2,c3,c4,c5,c6,c7⟩:=hXV.out.1
      have hVl:=hXV.out.2.2
      by_cases hp: -1000000000000<=(F k).balance+x/\(F k).balance+x<=1000000000000
      ·have cI:Hid (∀w,Calls Pg 85 #[Ii Jj ((F k).balance+x),Ii Jj (-1000000000000),Ii Jj 1000000000000] w fun e w'=>e=.returned (.bool true)/\w'=w):=fun w=>by have:=dG ((F k).balance+x) (-1000000000000) 1000000000000 w;rwa [eM hp] at this
       have hP:Hid (fH (F k) (ax F n k)):=⟨HS.out,by rw[←HX.out];exact hp⟩
       clear hp
       have hgV:=hLV.out.block.2
       obtain ⟨d0,d1,d2,d3,d4,d5,d6,d7⟩:dS V g (k*8) (ed F n k k):=by have:=AL.acc (L:=iH (ed F n k) n) (by rw[db];exact hLV.out) (i:=k) (by rw[db];exact hlt);rwa [oq hlt] at this
       have hfz:∀j,V.frozen? ⟨g,j,none⟩=false:=fun j=>AL.frozen (L:=iH (ed F n k) n) (by rw[db];exact hLV.out) j
       have hgw:g≠wr.heap.size:=by omega
       clear d0 d1 d2 d3 d4 d5
       go_wp2_with (go_at_call 85;refine (cI.out _).mono ?_;rintro e w' ⟨rfl,rfl⟩)
       go_roundw
       case rel=>
        refine ⟨k+1,by omega,by go_num,?_,?_,dx (dx hBB.out hgB _ _) hgB _ _⟩
        ·rw[gV hE.out]
         unfold fI
         rw[if_pos hP.out,←HX.out]
        ·rw[gU hE.out]
         unfold gp
         rw[if_pos hP.out,←HX.out,←HY.out]
         have:=hLV.out.post (x:=(F k).balance+x) (y:=y) hlt
         rw[gS] at this
         exact this
       case measure=>simp[eH];omega
      ·have cI:Hid (∀w,Calls Pg 85 #[Ii Jj ((F k).balance+x),Ii Jj (-1000000000000),Ii Jj 1000000000000] w fun e w'=>e=.returned (.bool false)/\w'=w):=fun w=>by have:=dG ((F k).balance+x) (-1000000000000) 1000000000000 w;rwa [gD hp] at this
       have hP:Hid (¬fH (F k) (ax F n k)):=fun h=>hp (by rw[HX.out];exact h.2)
       clear hp
       go_wp2_with (go_at_call 85;refine (cI.out _).mono ?_;rintro e w' ⟨rfl,rfl⟩)
       go_roundw
       case rel=>exact ⟨k+1,by omega,by go_num,by rw[gV hE.out,fI,if_neg hP.out,Int.add_zero],by rw[gU hE.out,gp,if_neg hP.out];exact pK hLV.out,hBB.out⟩
       case measure=>simp[eH];omega
     ·have cA:Hid (∀w,Calls Pg 154 #[Ii Jj (ax F n k),Ii Jj (F k).rate,Ii Jj (F k).carry] w fun e w'=>e=.returned (.tuple #[Ii Jj 0,Ii Jj 0,.bool false])/\w'=w):=fun w=>nv (F k) _ w hs
      have hP:Hid (¬fH (F k) (ax F n k)):=fun h=>hs h.1
      clear hs
      refine aw (by kernel_rfl) (by kernel_rfl) ?_
      go_big_quiet_step (fail)
      go_big_quiet_step (fail)
      go_big_quiet_step (fail)
      go_big_quiet_step ((go_at_call 155;exact Calls.over_of (cS.out _)))
      go_big_quiet_step (fail)
      go_big_quiet_step (fail)
      go_big_quiet_step (fail)
      go_big_quiet_step (fail)
      go_big_quiet_step ((go_at_call 154;exact Calls.over_same (cA.out _)))
      go_big_quiet_step (fail)
      go_big_quiet_step (fail)
      go_big_quiet_step (fail)
      go_big_quiet_step (fail)
      go_big_quiet_step (fail)
      go_big_quiet_step (fail)
      go_big_quiet_step (fail)
      refine wpQuiet_nil ?_
      intro V hV
      have hBV:Hid (Below W.heap.size W V):=by obtain ⟨vq,rfl⟩:=hV;exact ap W vq
      have hXV:=aa (hXW.out.below hBV.out)
      have hLV:=aa (hLW.out.kept hBV.out)
      have hBB:=aa (hBW.out.trans (hBV.out.mono hBW.out.size))
      clear hV q0 q3 q7 cS
      obtain ⟨c0,c1,c2,c3,c4,c5,c6,c7⟩:=hXV.out.1
      have hVl:=hXV.out.2.2
      go_wp2
      go_roundw
      case rel=>exact ⟨k+1,by omega,by go_num,by rw[gV hE.out,fI,if_neg hP.out,Int.add_zero],by rw[gU hE.out,gp,if_neg hP.out];exact pK hLV.out,hBB.out⟩
      case measure=>simp[eH];omega
   ·have hE:Hid (¬eO (F k)):=fun he=>hu he.1
    have hu':((F k).up != 0)=true:=by simp[hu]
    have hu2:((F k).up == 0)=false:=by simp[hu]
    clear hu
    go_wp2
    go_roundw
    case rel=>exact ⟨k+1,by omega,by go_num,by rw[fW hE.out],by rw[fV hE.out];exact AL.kept hL.out ((Bf _ _).alloc (Nf _) _),hB.out.alloc hB.out.size _⟩
    case measure=>simp[eH];omega
  ·obtain rfl:k=n:=by omega
   go_wp2
   refine bodyPost_ret (v:=.tuple #[Sl (some ⟨g,0,none⟩) k c',Ii Jj (di F k k)]) (by simp[results,Tryz.results121,go_sem]) rfl ?_
   exact ⟨_,rfl,hL.out,hB.out⟩
end Go.Proofs.YtghkbhggopiajaaGreatDoor
