/- Contracts of the number functions of chapter 1 that read no table. -/
import Derived.Test.YtghkbhggopiajaaGreatDoorLedsr
import Derived.Test.YtghkbhggopiajaaGreatDoorPaysr
set_option maxHeartbeats 4000000
namespace Go.Proofs.YtghkbhggopiajaaGreatDoor
open Go.RowKit
set_option maxRecDepth 8000
def inB (n lo hi:Int):Bool:=decide (lo<=n) && decide (n<=hi)
theorem inB_yes {n lo hi:Int} (h:lo<=n/\n<=hi):inB n lo hi=true:=by simp[inB,h]
theorem inB_no {n lo hi:Int} (h:¬(lo<=n/\n<=hi)):inB n lo hi=false:=by simp only[inB,Bool.and_eq_false_iff,decide_eq_false_iff_not];omega
theorem l1In_any (n lo hi:Int) (w:World):
  Calls Tryz.prog 85 #[.int .i64 n,.int .i64 lo,.int .i64 hi] w fun e w'=>e=.returned (.bool (inB n lo hi))/\w'=w:=by
 by_cases h1:lo<=n
 ·by_cases h2:n<=hi
  ·rw[inB_yes ⟨h1,h2⟩]
   go_enter Tryz.func85,Tryz.ntmps85
   go_wp2
   go_ret
   exact ⟨rfl,rfl⟩
  ·rw[inB_no (by omega)]
   have h2':hi<n:=by omega
   go_enter Tryz.func85,Tryz.ntmps85
   go_wp2
   go_ret
   exact ⟨rfl,rfl⟩
 ·rw[inB_no (by omega)]
  have h1':n<lo:=by omega
  go_enter Tryz.func85,Tryz.ntmps85
  go_wp2
  go_ret
  exact ⟨rfl,rfl⟩
def wd (n:Int):Int:=if inB n 0 3000000=true then n % 7+1 else -1
open Go.RowKit
set_option maxRecDepth 8000
theorem tdiv_neg' (t:Int) (h:t<0):t.tdiv 3650000= -((-t) / 3650000):=by
 have e:t= -(-t):=by omega
 rw[e,Int.neg_tdiv,Int.tdiv_eq_ediv_of_nonneg (by omega)];simp
theorem tmod_neg' (t:Int) (h:t<0):t.tmod 3650000= -((-t) % 3650000):=by
 have e:t= -(-t):=by omega
 rw[e,Int.neg_tmod,Int.tmod_eq_emod_of_nonneg (by omega)];simp
theorem mul_bd (b r:Int) (h1: -1000000000000<=b) (h2:b<=1000000000000) (h3:0<=r) (h4:r<=10000): -10000000000000000<=b*r/\b*r<=10000000000000000:=by
 have a1:b*r<=1000000000000*r:=Int.mul_le_mul_of_nonneg_right h2 h3
 have a2: -1000000000000*r<=b*r:=Int.mul_le_mul_of_nonneg_right h1 h3
 omega
theorem ret3 {a b a' b':Int} {x y:Bool} (h:a=a') (k:b=b') (l:x=y):Ending.returned (.tuple #[.int .i64 a,.int .i64 b,.bool x])=.returned (.tuple #[.int .i64 a',.int .i64 b',.bool y]):=by rw[h,k,l]
theorem neg_parts (t:Int) (h:t<0) (hb: -20000000000000000<=t):∃q m:Int,t.tdiv 3650000=q/\t.tmod 3650000=m/\ -20000000000<=q/\q<=0/\ -3650000<m/\m<=0/\t=q*3650000+m/\
  (m<0->q-1=t / 3650000/\m+3650000=t % 3650000)/\(m=0->q=t / 3650000/\0=t % 3650000):=by
 refine ⟨_,_,tdiv_neg' t h,tmod_neg' t h,by omega,by omega,by omega,by omega,by omega,fun _=>by omega,fun _=>by omega⟩
theorem implAccrued_yes (b r c : Int) (w : World) (h1 : -1000000000000 <= b) (h2 : b <= 1000000000000) (h3 : 0 <= r) (h4 : r <= 10000) (h5 : 0 <= c) (h6 : c < 3650000) :
    Calls Tryz.prog 152 #[.int .i64 b,.int .i64 r,.int .i64 c] w fun e w'=>e=.returned (.tuple #[.int .i64 ((b*r+c) / 3650000),.int .i64 ((b*r+c) % 3650000),.bool true])/\w'=w:=by
  obtain ⟨m1,m2⟩:=mul_bd b r h1 h2 h3 h4
  by_cases ht:0<=b*r+c
  · go_enter Tryz.func152,Tryz.ntmps152
    go_wp2
    go_ret3
    exact ⟨rfl,rfl⟩
  · obtain ⟨q,m,hq,hm,q1,q2,q3,q4,ht',hy,hn⟩:=neg_parts (b*r+c) (by omega) (by omega)
    by_cases hm0:m<0
    · obtain ⟨e1,e2⟩:=hy hm0
      have E1:=hidOf e1
      have E2:=hidOf e2
      clear e1 e2 hy hn ht'
      go_enter Tryz.func152,Tryz.ntmps152
      go_wp2
      go_ret3
      exact ⟨ret3 E1.out E2.out rfl,rfl⟩
    · obtain ⟨e1,e2⟩:=hn (by omega)
      have E1:=hidOf e1
      have E2 : Hid (m = (b * r + c) % 3650000) := by have : m = 0 := by omega
                                                      rw[this];exact e2
      clear e1 e2 hy hn ht'
      go_enter Tryz.func152,Tryz.ntmps152
      go_wp2
      go_ret3
      exact ⟨ret3 E1.out E2.out rfl,rfl⟩
theorem implAccrued_no (b r c:Int) (w:World) (h:¬(-1000000000000<=b/\b<=1000000000000/\0<=r/\r<=10000/\0<=c/\c<3650000)):
  Calls Tryz.prog 152 #[.int .i64 b,.int .i64 r,.int .i64 c] w fun e w'=>e=.returned (.tuple #[.int .i64 0,.int .i64 0,.bool false])/\w'=w:=by
 by_cases h1:b< -1000000000000
 ·go_enter Tryz.func152,Tryz.ntmps152
  go_wp2
  go_ret3
  exact ⟨rfl,rfl⟩
 by_cases h2:1000000000000<b
 ·go_enter Tryz.func152,Tryz.ntmps152
  go_wp2
  go_ret3
  exact ⟨rfl,rfl⟩
 by_cases h3:r<0
 ·go_enter Tryz.func152,Tryz.ntmps152
  go_wp2
  go_ret3
  exact ⟨rfl,rfl⟩
 by_cases h4:10000<r
 ·go_enter Tryz.func152,Tryz.ntmps152
  go_wp2
  go_ret3
  exact ⟨rfl,rfl⟩
 by_cases h5:c<0
 ·go_enter Tryz.func152,Tryz.ntmps152
  go_wp2
  go_ret3
  exact ⟨rfl,rfl⟩
 have h6:3650000<=c:=by omega
 go_enter Tryz.func152,Tryz.ntmps152
 go_wp2
 go_ret3
 exact ⟨rfl,rfl⟩
theorem specAccrued_yes (b r c:Int) (w:World) (h1: -1000000000000<=b) (h2:b<=1000000000000) (h3:0<=r) (h4:r<=10000) (h5:0<=c) (h6:c<3650000):
  Calls Tryz.prog 154 #[.int .i64 b,.int .i64 r,.int .i64 c] w fun e w'=>e=.returned (.tuple #[.int .i64 ((b*r+c) / 3650000),.int .i64 ((b*r+c) % 3650000),.bool true])/\w'=w:=by
 obtain ⟨m1,m2⟩:=mul_bd b r h1 h2 h3 h4
 have i1:=inB_yes ⟨h1,h2⟩
 have i2:=inB_yes ⟨h3,h4⟩
 have i3:inB c 0 3649999=true:=inB_yes ⟨h5,by omega⟩
 by_cases ht:0<=b*r+c
 ·have E:Hid (b*r+c-(b*r+c) / 3650000*3650000=(b*r+c) % 3650000):=by show _=_;omega
  go_enter Tryz.func154,Tryz.ntmps154
  go_wp2_with (go_at_call 85;refine (l1In_any _ _ _ _).mono ?_;rintro e w' ⟨rfl,rfl⟩)
  go_ret3
  exact ⟨ret3 rfl E.out rfl,rfl⟩
 ·obtain ⟨q,m,hq,hm,q1,q2,q3,q4,ht',hy,hn⟩:=neg_parts (b*r+c) (by omega) (by omega)
  by_cases hm0:m<0
  ·obtain ⟨e1,e2⟩:=hy hm0
   have E1:=hidOf e1
   have E2:Hid (b*r+c-(q-1)*3650000=(b*r+c) % 3650000):=by show _=_;omega
   have b1: -20000000000*3650000<=b*r+c:=by omega
   clear e1 e2 hy hn ht'
   go_enter Tryz.func154,Tryz.ntmps154
   go_wp2_with (go_at_call 85;refine (l1In_any _ _ _ _).mono ?_;rintro e w' ⟨rfl,rfl⟩)
   go_ret3
   exact ⟨ret3 E1.out E2.out rfl,rfl⟩
  ·obtain ⟨e1,e2⟩:=hn (by omega)
   have E1:=hidOf e1
   have E2:Hid (b*r+c-q*3650000=(b*r+c) % 3650000):=by show _=_;omega
   clear e1 e2 hy hn ht'
   go_enter Tryz.func154,Tryz.ntmps154
   go_wp2_with (go_at_call 85;refine (l1In_any _ _ _ _).mono ?_;rintro e w' ⟨rfl,rfl⟩)
   go_ret3
   exact ⟨ret3 E1.out E2.out rfl,rfl⟩
theorem specAccrued_no (b r c:Int) (w:World) (h:¬(-1000000000000<=b/\b<=1000000000000/\0<=r/\r<=10000/\0<=c/\c<3650000)):
  Calls Tryz.prog 154 #[.int .i64 b,.int .i64 r,.int .i64 c] w fun e w'=>e=.returned (.tuple #[.int .i64 0,.int .i64 0,.bool false])/\w'=w:=by
 by_cases h1: -1000000000000<=b/\b<=1000000000000
 ·have i1:=inB_yes h1
  by_cases h2:0<=r/\r<=10000
  ·have i2:=inB_yes h2
   have i3:inB c 0 3649999=false:=inB_no (by omega)
   clear h h1 h2
   go_enter Tryz.func154,Tryz.ntmps154
   go_wp2_with (go_at_call 85;refine (l1In_any _ _ _ _).mono ?_;rintro e w' ⟨rfl,rfl⟩)
   go_ret3
   exact ⟨rfl,rfl⟩
  ·have i2:=inB_no h2
   clear h h1 h2
   go_enter Tryz.func154,Tryz.ntmps154
   go_wp2_with (go_at_call 85;refine (l1In_any _ _ _ _).mono ?_;rintro e w' ⟨rfl,rfl⟩)
   go_ret3
   exact ⟨rfl,rfl⟩
 ·have i1:=inB_no h1
  clear h h1
  go_enter Tryz.func154,Tryz.ntmps154
  go_wp2_with (go_at_call 85;refine (l1In_any _ _ _ _).mono ?_;rintro e w' ⟨rfl,rfl⟩)
  go_ret3
  exact ⟨rfl,rfl⟩
open Go.RowKit
set_option maxRecDepth 8000
def postX (A:Acc) (s:Int):Int:=(s*A.rate+A.carry) / 3650000
def postC (A:Acc) (s:Int):Int:=(s*A.rate+A.carry) % 3650000
def postOk (A:Acc) (s:Int):Prop:=(-1000000000000<=s/\s<=1000000000000)/\(-1000000000000<=A.balance+postX A s/\A.balance+postX A s<=1000000000000)
instance (A:Acc) (s:Int):Decidable (postOk A s):=by unfold postOk;infer_instance
def postN (A:Acc) (s:Int):Int:=if postOk A s then postX A s else 0
def postA (A:Acc) (s:Int):Acc:=if postOk A s then {A with balance:=A.balance+postX A s,carry:=postC A s} else A
theorem post_bd {A:Acc} {s:Int} (ho:okS A) (h: -1000000000000<=s/\s<=1000000000000): -3000000000<=postX A s/\postX A s<=3000000000/\0<=postC A s/\postC A s<3650000:=by
 obtain ⟨_,_,_,h4,_,_,h7,_⟩:=ho
 obtain ⟨m1,m2⟩:=mul_bd s A.rate h.1 h.2 h4.1 h4.2
 unfold postX postC
 generalize s*A.rate=t at*
 omega
theorem post_acc {A:Acc} {x c:Int} (ho:okS A) (hu:A.up=0) (hc:0<=c/\c<3650000):okI {A with balance:=A.balance+x,carry:=c}↔(-1000000000000<=A.balance+x/\A.balance+x<=1000000000000):=by
 have h:=((okS_iff A).1 ho).1
 unfold okI at h ⊢
 simp only
 omega
theorem implAccr (A:Acc) (s:Int) (w:World) (ho:okS A) (h: -1000000000000<=s/\s<=1000000000000):
  Calls Tryz.prog 152 #[.int .i64 s,.int .i64 A.rate,.int .i64 A.carry] w fun e w'=>e=.returned (.tuple #[.int .i64 (postX A s),.int .i64 (postC A s),.bool true])/\w'=w:=by
 obtain ⟨_,_,_,h4,_,_,h7,_⟩:=ho
 exact implAccrued_yes s A.rate A.carry w h.1 h.2 h4.1 h4.2 h7.1 (by omega)
theorem implAccr_no (A:Acc) (s:Int) (w:World) (h:¬(-1000000000000<=s/\s<=1000000000000)):
  Calls Tryz.prog 152 #[.int .i64 s,.int .i64 A.rate,.int .i64 A.carry] w fun e w'=>e=.returned (.tuple #[.int .i64 0,.int .i64 0,.bool false])/\w'=w:=
 implAccrued_no s A.rate A.carry w (by omega)
theorem setCell_grown {w v:World} {g:Nat} (h:w.grownBy v (some g)) (o:Nat) (u:Value):w.grownBy (v.setCell ⟨g,o,none⟩ u) (some g):=
 ⟨h.os,h.tape,h.output,by simpa [World.setCell] using h.size,fun i hi hne=>by
  have e:i≠g:=fun e=>hne (by rw[e])
  rw[←h.block i hi hne]
  simp[World.setCell,Array.getElem?_modify,Ne.symm e]⟩
theorem set8_grown {w v:World} (h:Below w.heap.size w v) (g:Nat) (x:Acc):w.grownBy (set8 v g 0 x) (some g):=by
 have h0:w.grownBy v (some g):=⟨h.os,h.tape,h.output,h.size,fun i hi _=>h.block i hi⟩
 unfold set8
 exact setCell_grown (setCell_grown (setCell_grown (setCell_grown (setCell_grown (setCell_grown (setCell_grown (setCell_grown h0 _ _) _ _) _ _) _ _) _ _) _ _) _ _) _ _
theorem implPost_yes (g:Nat) (A:Acc) (s:Int) (w:World) (hA:Box w g A) (ho:okS A) (hu:A.up=0) (hs: -1000000000000<=s/\s<=1000000000000) (hp: -1000000000000<=A.balance+postX A s/\A.balance+postX A s<=1000000000000):
  Calls Tryz.prog 118 #[.pointer (some ⟨g,0,none⟩),.int .i64 s] w fun e w'=>e=.returned (.int .i64 (postX A s))/\Box w' g {A with balance:=A.balance+postX A s,carry:=postC A s}/\w.grownBy w' (some g):=by
 have HA:=hidOf hA
 obtain ⟨x1,x2,y1,y2⟩:=post_bd ho hs
 have cA:=fun W=>implAccr A s W ho hs
 have hok:=(post_acc (x:=postX A s) (c:=postC A s) ho hu ⟨y1,y2⟩).2 hp
 have cO:=fun W=>implAcc_yes _ W hok
 obtain ⟨p1,p2⟩:=hp
 generalize postX A s=x at*
 generalize postC A s=y at*
 obtain ⟨c0,c1,c2,c3,c4,c5,c6,c7⟩:=hA.1
 have hg:=hA.2.2
 clear hA hok ho hu hs
 go_enter Tryz.func118,Tryz.ntmps118
 go_wp2_with fail
 go_quiet ((go_at_call 152;exact Calls.quiet_of_same (cA _)))
 obtain ⟨W,hW⟩:∃W,W=w.drewN nq:=⟨_,rfl⟩
 have HB:Hid (Below w.heap.size w W):=by rw[hW];exact below_drewN (Below.refl _ _) _
 have HAW:Hid (Box W g A):=by rw[hW];exact HA.out
 rw[←hW]
 clear hW c0 c1 c2 c3 c4 c5 c6 c7 hg
 obtain ⟨c0,c1,c2,c3,c4,c5,c6,c7⟩:=HAW.out.1
 have hg:=HAW.out.2.2
 go_wp2_with fail
 refine (cO _).mono ?_
 rintro e w1 ⟨rfl,B1⟩
 have HB1:Hid (Below W.heap.size W w1):=((Below.refl _ _).alloc (Nat.le_refl _) _).trans (B1.mono (by simp))
 have HN:Hid (Box w1 W.heap.size {A with balance:=A.balance+x,carry:=y}):=(Box.new W {A with balance:=A.balance+x,carry:=y} 30).below B1
 have HG:=hidOf (HAW.out.below HB1.out)
 clear c0 c1 c2 c3 c4 c5 c6 c7 B1 hg
 obtain ⟨n0,n1,n2,n3,n4,n5,n6,n7⟩:=HN.out.1
 obtain ⟨c0,c1,c2,c3,c4,c5,c6,c7⟩:=HG.out.1
 have hf:=HG.out.2.1
 have hg:=HAW.out.2.2
 clear cA cO p1 p2 x1 x2 y1 y2
 obtain ⟨V,hV,hBV,hGV⟩:∃V,Hid (V=set8 w1 g 0 {A with balance:=A.balance+x,carry:=y})/\Hid (Box V g {A with balance:=A.balance+x,carry:=y})/\Hid (w.grownBy V (some g)):=⟨_,rfl,HG.out.set _,set8_grown (HB.out.trans (HB1.out.mono HB.out.size)) g _⟩
 go_wp2
 have hV:=hV.out
 simp only[set8,Nat.zero_add] at hV
 rw[←hV]
 go_ret
 exact ⟨rfl,hBV.out,hGV.out⟩
theorem implPost_small (g:Nat) (A:Acc) (s:Int) (w:World) (hA:Box w g A) (ho:okS A) (hs:¬(-1000000000000<=s/\s<=1000000000000)):
  Calls Tryz.prog 118 #[.pointer (some ⟨g,0,none⟩),.int .i64 s] w fun e w'=>e=.returned (.int .i64 0)/\Below w.heap.size w w':=by
 have HA:=hidOf hA
 have cA:=fun W=>implAccr_no A s W hs
 obtain ⟨c0,c1,c2,c3,c4,c5,c6,c7⟩:=hA.1
 have hg:=hA.2.2
 obtain ⟨b1,b2⟩:=ho.2.2.2.2.2.1
 clear hA ho hs
 go_enter Tryz.func118,Tryz.ntmps118
 go_wp2_with fail
 go_quiet ((go_at_call 152;exact Calls.quiet_of_same (cA _)))
 obtain ⟨W,hW⟩:∃W,W=w.drewN nq:=⟨_,rfl⟩
 have HB:Hid (Below w.heap.size w W):=by rw[hW];exact below_drewN (Below.refl _ _) _
 have HAW:Hid (Box W g A):=by rw[hW];exact HA.out
 rw[←hW]
 clear hW c0 c1 c2 c3 c4 c5 c6 c7 hg
 obtain ⟨c0,c1,c2,c3,c4,c5,c6,c7⟩:=HAW.out.1
 have hg:=HAW.out.2.2
 go_wp2
 go_ret
 exact ⟨rfl,HB.out.alloc HB.out.size _⟩
theorem implPost_no (g:Nat) (A:Acc) (s:Int) (w:World) (hA:Box w g A) (ho:okS A) (hu:A.up=0) (hs: -1000000000000<=s/\s<=1000000000000) (hp:¬(-1000000000000<=A.balance+postX A s/\A.balance+postX A s<=1000000000000)):
  Calls Tryz.prog 118 #[.pointer (some ⟨g,0,none⟩),.int .i64 s] w fun e w'=>e=.returned (.int .i64 0)/\Below w.heap.size w w':=by
 have HA:=hidOf hA
 obtain ⟨x1,x2,y1,y2⟩:=post_bd ho hs
 have cA:=fun W=>implAccr A s W ho hs
 have hok:¬okI {A with balance:=A.balance+postX A s,carry:=postC A s}:=fun h=>hp ((post_acc (x:=postX A s) (c:=postC A s) ho hu ⟨y1,y2⟩).1 h)
 have cO:=fun W=>implAcc_no _ W hok
 obtain ⟨b1,b2⟩:=ho.2.2.2.2.2.1
 clear hp
 generalize postX A s=x at*
 generalize postC A s=y at*
 obtain ⟨c0,c1,c2,c3,c4,c5,c6,c7⟩:=hA.1
 have hg:=hA.2.2
 clear hA hok ho hu hs
 go_enter Tryz.func118,Tryz.ntmps118
 go_wp2_with fail
 go_quiet ((go_at_call 152;exact Calls.quiet_of_same (cA _)))
 obtain ⟨W,hW⟩:∃W,W=w.drewN nq:=⟨_,rfl⟩
 have HB:Hid (Below w.heap.size w W):=by rw[hW];exact below_drewN (Below.refl _ _) _
 have HAW:Hid (Box W g A):=by rw[hW];exact HA.out
 rw[←hW]
 clear hW c0 c1 c2 c3 c4 c5 c6 c7 hg
 obtain ⟨c0,c1,c2,c3,c4,c5,c6,c7⟩:=HAW.out.1
 have hg:=HAW.out.2.2
 go_wp2_with fail
 refine (cO _).mono ?_
 rintro e w1 ⟨rfl,B1⟩
 have HB1:Hid (Below w.heap.size w w1):=HB.out.trans ((((Below.refl _ _).alloc (Nat.le_refl _) _).trans (B1.mono (by simp))).mono HB.out.size)
 clear c0 c1 c2 c3 c4 c5 c6 c7 B1 hg
 go_wp2
 go_ret
 exact ⟨rfl,HB1.out⟩
theorem implPost (g:Nat) (A:Acc) (s:Int) (w:World) (hA:Box w g A) (ho:okS A) (hu:A.up=0):
  Calls Tryz.prog 118 #[.pointer (some ⟨g,0,none⟩),.int .i64 s] w fun e w'=>e=.returned (.int .i64 (postN A s))/\Box w' g (postA A s)/\w.grownBy w' (some g):=by
 by_cases h:postOk A s
 ·unfold postN postA
  rw[if_pos h,if_pos h]
  exact implPost_yes g A s w hA ho hu h.1 h.2
 ·unfold postN postA
  rw[if_neg h,if_neg h]
  have k:Calls Tryz.prog 118 #[.pointer (some ⟨g,0,none⟩),.int .i64 s] w fun e w'=>e=.returned (.int .i64 0)/\Below w.heap.size w w':=by
   by_cases hs: -1000000000000<=s/\s<=1000000000000
   ·exact implPost_no g A s w hA ho hu hs (fun hp=>h ⟨hs,hp⟩)
   ·exact implPost_small g A s w hA ho hs
  exact k.mono fun e w' ⟨he,hb⟩=>⟨he,hA.below hb,hb.os,hb.tape,hb.output,hb.size,fun i hi _=>hb.block i hi⟩
open Go.RowKit
set_option maxRecDepth 8000
def earns (A:Acc):Prop:=A.up=0/\A.rate≠0
instance (A:Acc):Decidable (earns A):=by unfold earns;infer_instance
def intA (F:Nat->Acc) (n i:Nat):Acc:=if earns (F i) then postA (F i) (sumAll F n i) else F i
def intN (F:Nat->Acc) (n i:Nat):Int:=if earns (F i) then postN (F i) (sumAll F n i) else 0
def intF (F:Nat->Acc) (n k:Nat):Nat->Acc:=fun i=>if i<k then intA F n i else F i
def intS (F:Nat->Acc) (n k:Nat):Int:=sumTo (intN F n) k
theorem postA_id (A:Acc) (s:Int):(postA A s).id=A.id:=by unfold postA;split <;>rfl
theorem intA_id (F:Nat->Acc) (n i:Nat):(intA F n i).id=(F i).id:=by unfold intA;split;exact postA_id _ _;rfl
theorem intF_id (F:Nat->Acc) (n k i:Nat):(intF F n k i).id=(F i).id:=by unfold intF;split;exact intA_id _ _ _;rfl
theorem intF_at (F:Nat->Acc) (n k:Nat):intF F n k k=F k:=by simp[intF]
theorem intF_zero (F:Nat->Acc) (n:Nat):intF F n 0=F:=by funext i;simp[intF]
theorem intF_succ (F:Nat->Acc) (n k:Nat):intF F n (k+1)=fun i=>if i=k then intA F n k else intF F n k i:=by
 funext i
 unfold intF
 by_cases h:i=k
 ·subst h;simp
 ·by_cases h':i<k
  ·rw[if_pos (by omega),if_neg h,if_pos h']
  ·rw[if_neg (by omega),if_neg h,if_neg h']
theorem postN_bd {A:Acc} (s:Int) (ho:okS A): -3000000000<=postN A s/\postN A s<=3000000000:=by
 unfold postN
 split
 ·rename_i h
  have:=post_bd ho h.1
  omega
 ·omega
theorem intS_bd {F:Nat->Acc} {n:Nat} (h:Right F n):∀k,k<=n-> -(3000000000*(k:Int))<=intS F n k/\intS F n k<=3000000000*(k:Int)
 | 0,_=>by simp[intS,sumTo]
 | k+1,hk=>by
  have ih:=intS_bd h k (by omega)
  have e:intS F n (k+1)=intS F n k+intN F n k:=rfl
  have b: -3000000000<=intN F n k/\intN F n k<=3000000000:=by
   unfold intN
   split
   ·exact postN_bd _ (h.2.1 k (by omega))
   ·omega
  rw[e]
  omega
theorem Right.rises {F:Nat->Acc} {n:Nat} (h:Right F n):Rises F n:=fun _ _ hij hj=>rising_lt h.2.2.1 hij hj
theorem Right.idwf {F:Nat->Acc} {n:Nat} (h:Right F n):∀i,i<n->(Lit.int .i64 (F i).id).wf=true:=fun i hi=>by
 have:=(h.2.1 i hi).1
 exact WalkArith.wf_i64 (by omega)
theorem Rises.congr {F F':Nat->Acc} {n:Nat} (h:Rises F n) (e:∀i,(F' i).id=(F i).id):Rises F' n:=fun i j hij hj=>by rw[e,e];exact h i j hij hj
theorem Led.congr {w:World} {B b n:Nat} {F F':Nat->Acc} {G:Nat->Nat} (h:Led w B b n F G) (e:∀i,i<n->F i=F' i):Led w B b n F' G:=by
 refine ⟨h.base,?_,fun i hi=>by rw[←e i hi];exact h.acc i hi,h.one⟩
 rw[←ksOf_congr (F:=F) (G:=G) (fun i hi=>⟨by rw[e i hi],rfl⟩)]
 exact h.map
theorem Led.upd {w w':World} {B b n k:Nat} {F:Nat->Acc} {G:Nat->Nat} {A:Acc} (h:Led w B b n F G) (hk:k<n) (hg:w.grownBy w' (some (G k))) (hA:Box w' (G k) A) (hid:A.id=(F k).id):
  Led w' B b n (fun i=>if i=k then A else F i) G:=by
 have hlt:=h.map.lt
 refine ⟨h.base,?_,fun i hi=>?_,h.one⟩
 ·rw[ksOf_congr (F':=F) (G':=G) (fun i _=>⟨by by_cases e:i=k <;>simp[e,hid],rfl⟩)]
  exact World.ownsMap.kept h.map hg (by simp;exact fun e=>(h.acc k hk).2.1 e.symm)
 ·refine ⟨(h.acc i hi).1,(h.acc i hi).2.1,?_⟩
  by_cases e:i=k
  ·subst e;simpa using hA
  ·rw[if_neg e]
   exact (h.acc i hi).2.2.same (hg.block _ (h.acc i hi).2.2.2.2 (by simp;exact fun e'=>e (h.one i k hi hk e')))
def Kept (v w:World) (n:Nat) (G:Nat->Nat):Prop:=v.heap.size<=w.heap.size/\∀j,j<v.heap.size->(∀i,i<n->G i≠j)->w.heap[j]? =v.heap[j]?
theorem Kept.step {v w w':World} {n k:Nat} {G:Nat->Nat} (h:Kept v w n G) (hk:k<n) (hg:w.grownBy w' (some (G k))):Kept v w' n G:=
 ⟨Nat.le_trans h.1 hg.size,fun j hj hn=>(hg.block j (Nat.lt_of_lt_of_le hj h.1) (by simp;exact fun e=>hn k hk e.symm)).trans (h.2 j hj hn)⟩
theorem Kept.below {v w w':World} {n:Nat} {G:Nat->Nat} (h:Kept v w n G) (hb:Below w.heap.size w w'):Kept v w' n G:=
 ⟨Nat.le_trans h.1 hb.size,fun j hj hn=>(hb.block j (Nat.lt_of_lt_of_le hj h.1)).trans (h.2 j hj hn)⟩
theorem intF_skip {F:Nat->Acc} {n k:Nat} (h:¬earns (F k)):intF F n (k+1)=intF F n k:=by
 rw[intF_succ]
 funext i
 by_cases e:i=k
 ·subst e;simp[intF_at,intA,h]
 ·simp[e]
theorem intS_skip {F:Nat->Acc} {n k:Nat} (h:¬earns (F k)):intS F n (k+1)=intS F n k:=by
 have e:intS F n (k+1)=intS F n k+intN F n k:=rfl
 rw[e]
 simp[intN,h]
theorem intF_hit {F:Nat->Acc} {n k:Nat} (h:earns (F k)):intF F n (k+1)=fun i=>if i=k then postA (F k) (sumAll F n k) else intF F n k i:=by
 rw[intF_succ]
 simp[intA,h]
theorem intS_hit {F:Nat->Acc} {n k:Nat} (h:earns (F k)):intS F n (k+1)=intS F n k+postN (F k) (sumAll F n k):=by
 have e:intS F n (k+1)=intS F n k+intN F n k:=rfl
 rw[e]
 simp[intN,h]
theorem implInterest_yes (a:Option Addr) (n c:Nat) (F:Nat->Acc) (w:World) (h:Fo w a n F) (hR:Right F n):
  Calls Tryz.prog 69 #[.slice a n c] w fun e w'=>∃v,e=.returned (.tuple #[v,.int .i64 (intS F n n)])/\AL w' w.heap.size v (accsOf (intF F n n) n)/\Below w.heap.size w w':=by
 have H:=hidOf h
 have HR:=hidOf hR
 have hn:=hR.1
 clear h hR
 go_enter Tryz.func69,Tryz.ntmps69
 go_wp2_with (first
  | (go_at_call 19;refine (implOk _ _ _ _ _ H.out).mono ?_;rintro e w0 ⟨b0,rfl,hb0,B0⟩;obtain rfl:b0=true:=hb0.2 HR.out;clear hb0)
  | (go_at_call 56;refine (ledgerOf a n c F w0 (H.out.below B0) HR.out.rises hn HR.out.idwf).mono ?_;rintro e w1 ⟨rfl,⟨G,L1⟩,B1⟩)
  | (go_at_call 57;refine (ids _ _ n F G w1 HR.out.rises hn L1).mono ?_;rintro e w2 ⟨a2,c2,rfl,I2,B2⟩))
 have hs01:=B0.size
 have hs12:=B1.size
 have HI:=hidOf I2
 have HL:=hidOf (L1.below B2 (Nat.le_refl _))
 have HG1:Hid (∀i,i<n->G i<w1.heap.size):=fun i hi=>(L1.acc i hi).2.2.2.2
 have HB2:=hidOf (B0.trans ((B1.trans (B2.mono hs12)).mono hs01))
 clear I2 L1 B0 B1 B2 hs12
 go_loopw[19,5] (fun i p wr=>∃k:Nat,k<=n/\i=.int .i64 k/\p=.int .i64 (intS F n k)/\Hid (Led wr w0.heap.size w0.heap.size n (intF F n k) G)/\Hid (Kept w2 wr n G)/\Hid (Below w.heap.size w wr)) (fun i _ _=>n-(ctr i).toNat)
 case atStart=>exact ⟨0,Nat.zero_le _,rfl,rfl,by rw[intF_zero];exact HL,⟨Nat.le_refl _,fun _ _ _=>rfl⟩,HB2⟩
 case round=>
  obtain ⟨k,hk,rfl,rfl,hL,hK,hB⟩:=hrel
  by_cases hlt:k<n
  ·obtain ⟨g,rfl,hg1,hg2,hc⟩:=HI.out k hlt
   have hc':wr.cell? ⟨g,k,none⟩=some (.int .i64 (F k).id):=by
    rw[←hc]
    unfold World.cell?
    simp only[hK.out.2 g hg2 (fun i hi e=>by have:=HG1.out i hi;omega)]
   have hlook:=hL.out.look (HR.out.rises.congr (intF_id F n k)) hlt (by rw[intF_id];exact HR.out.idwf k hlt)
   rw[intF_at] at hlook
   have hX:Hid (Box wr (G k) (F k)):=by have:=(hL.out.acc k hlt).2.2;rw[intF_at] at this;exact this
   obtain ⟨c0,c1,c2,c3,c4,c5,c6,c7⟩:=hX.out.1
   have hGl:=hX.out.2.2
   have hGb:w.heap.size<=G k:=Nat.le_trans hs01 (hL.out.acc k hlt).1
   obtain ⟨s1,s2⟩:=intS_bd HR.out k hk
   have s3: -36000000000<=intS F n k:=by omega
   have s4:intS F n k<=36000000000:=by omega
   clear hc hg1 hg2 s1 s2
   by_cases hu:(F k).up=0
   ·by_cases hr:(F k).rate=0
    ·have hE:Hid (¬earns (F k)):=fun he=>he.2 hr
     have hu':((F k).up == 0)=true:=by simp[hu]
     have hr':((F k).rate != 0)=false:=by simp[hr]
     have hr2:((F k).rate == 0)=true:=by simp[hr]
     clear hu hr
     go_wp2
     go_roundw
     case rel=>exact ⟨k+1,by omega,by go_num,by rw[intS_skip hE.out],by rw[intF_skip hE.out];exact hL,hK,hB⟩
     case measure=>simp[ctr];omega
    ·have hE:Hid (earns (F k)):=⟨hu,hr⟩
     have hO:Hid (okS (F k)):=HR.out.2.1 k hlt
     have hU:=hidOf hu
     have hu':((F k).up == 0)=true:=by simp[hu]
     have hr':((F k).rate != 0)=true:=by simp[hr]
     have hr2:((F k).rate == 0)=false:=by simp[hr]
     have hF:=hidOf (H.out.below hB.out)
     obtain ⟨p1,p2⟩:=postN_bd (sumAll F n k) hO.out
     clear hu hr
     go_wp2_with (first
      | (go_at_call 117;refine (implSumOf_yes a n c F (F k).id k wr hF.out HR.out (place_self HR.out.2.2.1 hlt)).mono ?_;rintro e w3 ⟨rfl,B3⟩)
      | (go_at_call 118;refine (implPost (G k) (F k) (sumAll F n k) w3 (hX.out.below B3) hO.out hU.out).mono ?_;rintro e w4 ⟨rfl,X4,G4⟩))
     go_roundw
     case rel=>
      refine ⟨k+1,by omega,by go_num,by rw[intS_hit hE.out],?_,(hK.out.below B3).step hlt G4,?_⟩
      ·rw[intF_hit hE.out]
       exact (hL.out.below B3 (Nat.le_refl _)).upd hlt G4 X4 (by rw[postA_id,intF_id])
      ·exact (hB.out.trans (B3.mono hB.out.size)).grown G4 (Nat.le_trans hB.out.size B3.size) (fun j hj=>by cases hj;exact hGb)
     case measure=>simp[ctr];omega
   ·have hE:Hid (¬earns (F k)):=fun he=>hu he.1
    have hu':((F k).up == 0)=false:=by simp[hu]
    clear hu
    go_wp2
    go_roundw
    case rel=>exact ⟨k+1,by omega,by go_num,by rw[intS_skip hE.out],by rw[intF_skip hE.out];exact hL,hK,hB⟩
    case measure=>simp[ctr];omega
  ·obtain rfl:k=n:=by omega
   have hs:=hB.out.size
   go_wp2_with (go_at_call 59;refine (ledForest _ _ k _ G _ (HR.out.rises.congr (intF_id F k k)) hn (fun i hi=>by rw[intF_id];exact HR.out.idwf i hi) hL.out).mono ?_;rintro e w3 ⟨v,rfl,A3,B3⟩)
   refine bodyPost_ret (v:=.tuple #[v,.int .i64 (intS F k k)]) (by simp[results,Tryz.results69,go_sem]) rfl ?_
   exact ⟨v,rfl,⟨A3.1,A3.2.elim Or.inl (fun ⟨g,cap,cur,hv,hg,r⟩=>Or.inr ⟨g,cap,cur,hv,Nat.le_trans hs hg,r⟩)⟩,hB.out.trans (B3.mono hs)⟩
open Go.RowKit
set_option maxRecDepth 8000
theorem specAccr (A:Acc) (s:Int) (w:World) (ho:okS A) (h: -1000000000000<=s/\s<=1000000000000):
  Calls Tryz.prog 154 #[.int .i64 s,.int .i64 A.rate,.int .i64 A.carry] w fun e w'=>e=.returned (.tuple #[.int .i64 (postX A s),.int .i64 (postC A s),.bool true])/\w'=w:=by
 obtain ⟨_,_,_,h4,_,_,h7,_⟩:=ho
 exact specAccrued_yes s A.rate A.carry w h.1 h.2 h4.1 h4.2 h7.1 (by omega)
theorem specAccr_no (A:Acc) (s:Int) (w:World) (h:¬(-1000000000000<=s/\s<=1000000000000)):
  Calls Tryz.prog 154 #[.int .i64 s,.int .i64 A.rate,.int .i64 A.carry] w fun e w'=>e=.returned (.tuple #[.int .i64 0,.int .i64 0,.bool false])/\w'=w:=
 specAccrued_no s A.rate A.carry w (by omega)
theorem Calls.over_same {P:Program} {f:FuncId} {args:Array Value} {w v:World} {u:Value}
  (h:Calls P f args (over w v) fun e w'=>e=.returned u/\w'=over w v):Calls P f args (over w v) fun e w''=>e=.returned u/\∃x,w''=over w x:=
 h.mono fun _ _ ⟨he,hb⟩=>⟨he,v,hb⟩
theorem toL_set (F:Nat->Acc) (n k:Nat) (A:Acc):(toL F n).set k A=toL (fun i=>if i=k then A else F i) n:=by
 apply List.ext_getElem
 ·simp[toL]
 ·intro i h1 h2
  simp only[toL,List.getElem_set,List.getElem_map,List.getElem_range]
  by_cases e:k=i
  ·subst e;simp
  ·rw[if_neg e,if_neg (fun e'=>e e'.symm)]
theorem AL.post {w:World} {B g c n k:Nat} {F:Nat->Acc} {x y:Int} (h:AL w B (.slice (some ⟨g,0,none⟩) n c) (toL F n)) (hk:k<n):
  AL ((w.setCell ⟨g,k*8+6,none⟩ (.int .i64 x)).setCell ⟨g,k*8+7,none⟩ (.int .i64 y)) B (.slice (some ⟨g,0,none⟩) n c) (toL (fun i=>if i=k then {F k with balance:=x,carry:=y} else F i) n):=by
 have hl:(toL F n).length=n:=toL_len F n
 have h0:AL w B (.slice (some ⟨g,0,none⟩) (toL F n).length c) (toL F n):=by rw[hl];exact h
 have h1:=h0.stored (p:=k) (by rw[hl];exact hk) 6 (by omega) (.int .i64 x) {F k with balance:=x} (by rw[FL_toL hk];rfl)
 have h2:=h1.stored (p:=k) (by simp[hl];exact hk) 7 (by omega) (.int .i64 y) {F k with balance:=x,carry:=y} (by rw[FL_set_at _ (by rw[hl];exact hk)];rfl)
 rw[toL_set,toL_set,toL_len] at h2
 refine (congrArg (fun L=>AL _ _ _ (toL L n)) ?_).mp h2
 funext i
 by_cases e:i=k <;>simp[e]
theorem same_at {w:World} {B:Nat} {v:Value} {n k:Nat} {F:Nat->Acc} {m:Nat} (h:AL w B v (toL (intF F n k) m)):AL w B v (toL (fun i=>if i=k then F k else intF F n k i) m):=by
 have e:(fun i=>if i=k then F k else intF F n k i)=intF F n k:=by
  funext i
  by_cases e:i=k
  ·subst e;simp[intF_at]
  ·simp[e]
 rw[e];exact h
theorem specInterest (a:Option Addr) (n c:Nat) (F:Nat->Acc) (w:World) (h:Fo w a n F) (hR:Right F n):
  Calls Tryz.prog 121 #[.slice a n c] w fun e w'=>∃v,e=.returned (.tuple #[v,.int .i64 (intS F n n)])/\AL w' w.heap.size v (toL (intF F n n) n)/\Below w.heap.size w w':=by
 have H:=hidOf h
 have HR:=hidOf hR
 have hn:=hR.1
 have H0:Hid (Fo w a n (FL (toL F n))):=h.congr (fun j hj=>(FL_toL hj).symm)
 clear h hR
 go_enter Tryz.func121,Tryz.ntmps121
 go_wp2_with (go_at_call 107;refine (specCopy2 a n c (toL F n) w (toL_len F n).symm H0.out).mono ?_;rintro e w1 ⟨g,c',rfl,A1,B1⟩)
 rw[toL_len] at*
 have HA1:=hidOf A1
 have HB1:=hidOf B1
 have hgB:=A1.block.1
 clear A1 B1 H0
 go_loopw[6,5] (fun i p wr=>∃k:Nat,k<=n/\i=.int .i64 k/\p=.int .i64 (intS F n k)/\Hid (AL wr w.heap.size (.slice (some ⟨g,0,none⟩) n c') (toL (intF F n k) n))/\Hid (Below w.heap.size w wr)) (fun i _ _=>n-(ctr i).toNat)
 case atStart=>exact ⟨0,Nat.zero_le _,rfl,rfl,by rw[intF_zero];exact HA1,HB1⟩
 case round=>
  obtain ⟨k,hk,rfl,rfl,hL,hB⟩:=hrel
  by_cases hlt:k<n
  ·obtain ⟨b,o,rfl,hb,hA⟩:=(H.out.below hB.out).acc hlt
   obtain ⟨c0,c1,c2,c3,c4,c5,c6,c7⟩:=hA
   obtain ⟨s1,s2⟩:=intS_bd HR.out k hk
   have s3: -36000000000<=intS F n k:=by omega
   have s4:intS F n k<=36000000000:=by omega
   have hgl:=hL.out.block.2
   clear s1 s2
   by_cases hu:(F k).up=0
   ·by_cases hr:(F k).rate=0
    ·have hE:Hid (¬earns (F k)):=fun he=>he.2 hr
     have hu':((F k).up != 0)=false:=by simp[hu]
     have hu2:((F k).up == 0)=true:=by simp[hu]
     have hr2:((F k).rate == 0)=true:=by simp[hr]
     clear hu hr
     go_wp2
     go_roundw
     case rel=>exact ⟨k+1,by omega,by go_num,by rw[intS_skip hE.out],by rw[intF_skip hE.out];exact AL.kept hL.out ((Below.refl _ _).alloc (Nat.le_refl _) _),hB.out.alloc hB.out.size _⟩
     case measure=>simp[ctr];omega
    ·have hE:Hid (earns (F k)):=⟨hu,hr⟩
     have hO:Hid (okS (F k)):=HR.out.2.1 k hlt
     have hu':((F k).up != 0)=false:=by simp[hu]
     have hu2:((F k).up == 0)=true:=by simp[hu]
     have hr2:((F k).rate == 0)=false:=by simp[hr]
     clear hu hr
     go_upto_region 8 with fail
     obtain ⟨W,hW⟩:∃W,W=wr.alloc (.cells #[.int .i64 (F k).id,.int .i64 (F k).up,.int .i64 (F k).limit,.int .i64 (F k).rate,.int .i64 (F k).target,.bool (F k).frozen,.int .i64 (F k).balance,.int .i64 (F k).carry] 30):=⟨_,rfl⟩
     have hXW:Hid (Box W wr.heap.size (F k)):=by rw[hW];exact Box.new wr (F k) 30
     have hB0:Below wr.heap.size wr W:=by rw[hW];exact (Below.refl _ _).alloc (Nat.le_refl _) _
     have hBW:=hidOf (hB.out.trans (hB0.mono hB.out.size))
     have hLW:=hidOf (hL.out.kept hB0)
     rw[←hW]
     clear hW hB0 c0 c1 c2 c3 c4 c5 c6 c7 hb
     have q:∀v j,(over W v).cell? ⟨wr.heap.size,j,none⟩=W.cell? ⟨wr.heap.size,j,none⟩:=fun v j=>(below_over W v).cell (p:=⟨wr.heap.size,j,none⟩) hXW.out.2.2
     have q0:∀v,(over W v).cell? ⟨wr.heap.size,0,none⟩=some (.int .i64 (F k).id):=fun v=>(q v 0).trans hXW.out.1.1
     have q3:∀v,(over W v).cell? ⟨wr.heap.size,3,none⟩=some (.int .i64 (F k).rate):=fun v=>(q v 3).trans hXW.out.1.2.2.2.1
     have q7:∀v,(over W v).cell? ⟨wr.heap.size,7,none⟩=some (.int .i64 (F k).carry):=fun v=>(q v 7).trans hXW.out.1.2.2.2.2.2.2.2
     clear q
     have cS:Hid (∀v,Calls Tryz.prog 155 #[.slice (some ⟨b,o,none⟩) n c,.int .i64 (F k).id] (over W v) fun e w'=>e=.returned (.int .i64 (sumAll F n k))/\Below (over W v).heap.size (over W v) w'):=fun v=>specSum _ n c F k _ ((H.out.below hBW.out).below (below_over W v)) HR.out hlt
     have hbal:=hO.out.2.2.2.2.2.1
     by_cases hs: -1000000000000<=sumAll F n k/\sumAll F n k<=1000000000000
     ·have cA:Hid (∀w,Calls Tryz.prog 154 #[.int .i64 (sumAll F n k),.int .i64 (F k).rate,.int .i64 (F k).carry] w fun e w'=>e=.returned (.tuple #[.int .i64 (postX (F k) (sumAll F n k)),.int .i64 (postC (F k) (sumAll F n k)),.bool true])/\w'=w):=fun w=>specAccr (F k) _ w hO.out hs
      have HS:=hidOf hs
      obtain ⟨x1,x2,y1,y2⟩:=post_bd hO.out hs
      obtain ⟨x,hx⟩:∃x,x=postX (F k) (sumAll F n k):=⟨_,rfl⟩
      obtain ⟨y,hy⟩:∃y,y=postC (F k) (sumAll F n k):=⟨_,rfl⟩
      rw[←hx] at cA x1 x2
      rw[←hy] at cA y1 y2
      have HX:=hidOf hx
      have HY:=hidOf hy
      clear hs hx hy
      refine wp_region_over (by kernel_rfl) (by kernel_rfl) ?_
      go_big_quiet_step (fail)
      go_big_quiet_step (fail)
      go_big_quiet_step (fail)
      go_big_quiet_step ((go_at_call 155;exact Calls.over_of (cS.out _)))
      go_big_quiet_step (fail)
      go_big_quiet_step (fail)
      go_big_quiet_step (fail)
      go_big_quiet_step (fail)
      go_big_quiet_step ((go_at_call 154;exact Calls.over_same (cA.out _)))
      go_big_quiet_step (fail)
      go_big_quiet_step (fail)
      go_big_quiet_step (fail)
      go_big_quiet_step (fail)
      go_big_quiet_step (fail)
      go_big_quiet_step (fail)
      go_big_quiet_step (fail)
      refine wpQuiet_nil ?_
      intro V hV
      have hBV:Hid (Below W.heap.size W V):=by obtain ⟨vq,rfl⟩:=hV;exact below_over W vq
      have hXV:=hidOf (hXW.out.below hBV.out)
      have hLV:=hidOf (hLW.out.kept hBV.out)
      have hBB:=hidOf (hBW.out.trans (hBV.out.mono hBW.out.size))
      clear hV q0 q3 q7 cS
      obtain ⟨c0,c1,c2,c3,c4,c5,c6,c7⟩:=hXV.out.1
      have hVl:=hXV.out.2.2
      by_cases hp: -1000000000000<=(F k).balance+x/\(F k).balance+x<=1000000000000
      ·have cI:Hid (∀w,Calls Tryz.prog 85 #[.int .i64 ((F k).balance+x),.int .i64 (-1000000000000),.int .i64 1000000000000] w fun e w'=>e=.returned (.bool true)/\w'=w):=fun w=>by have:=l1In_any ((F k).balance+x) (-1000000000000) 1000000000000 w;rwa [inB_yes hp] at this
       have hP:Hid (postOk (F k) (sumAll F n k)):=⟨HS.out,by rw[←HX.out];exact hp⟩
       clear hp
       have hgV:=hLV.out.block.2
       obtain ⟨d0,d1,d2,d3,d4,d5,d6,d7⟩:AccAt V g (k*8) (intF F n k k):=by have:=AL.acc (L:=toL (intF F n k) n) (by rw[toL_len];exact hLV.out) (i:=k) (by rw[toL_len];exact hlt);rwa [FL_toL hlt] at this
       have hfz:∀j,V.frozen? ⟨g,j,none⟩=false:=fun j=>AL.frozen (L:=toL (intF F n k) n) (by rw[toL_len];exact hLV.out) j
       have hgw:g≠wr.heap.size:=by omega
       clear d0 d1 d2 d3 d4 d5
       go_wp2_with (go_at_call 85;refine (cI.out _).mono ?_;rintro e w' ⟨rfl,rfl⟩)
       go_roundw
       case rel=>
        refine ⟨k+1,by omega,by go_num,?_,?_,below_set (below_set hBB.out hgB _ _) hgB _ _⟩
        ·rw[intS_hit hE.out]
         unfold postN
         rw[if_pos hP.out,←HX.out]
        ·rw[intF_hit hE.out]
         unfold postA
         rw[if_pos hP.out,←HX.out,←HY.out]
         have:=hLV.out.post (x:=(F k).balance+x) (y:=y) hlt
         rw[intF_at] at this
         exact this
       case measure=>simp[ctr];omega
      ·have cI:Hid (∀w,Calls Tryz.prog 85 #[.int .i64 ((F k).balance+x),.int .i64 (-1000000000000),.int .i64 1000000000000] w fun e w'=>e=.returned (.bool false)/\w'=w):=fun w=>by have:=l1In_any ((F k).balance+x) (-1000000000000) 1000000000000 w;rwa [inB_no hp] at this
       have hP:Hid (¬postOk (F k) (sumAll F n k)):=fun h=>hp (by rw[HX.out];exact h.2)
       clear hp
       go_wp2_with (go_at_call 85;refine (cI.out _).mono ?_;rintro e w' ⟨rfl,rfl⟩)
       go_roundw
       case rel=>exact ⟨k+1,by omega,by go_num,by rw[intS_hit hE.out,postN,if_neg hP.out,Int.add_zero],by rw[intF_hit hE.out,postA,if_neg hP.out];exact same_at hLV.out,hBB.out⟩
       case measure=>simp[ctr];omega
     ·have cA:Hid (∀w,Calls Tryz.prog 154 #[.int .i64 (sumAll F n k),.int .i64 (F k).rate,.int .i64 (F k).carry] w fun e w'=>e=.returned (.tuple #[.int .i64 0,.int .i64 0,.bool false])/\w'=w):=fun w=>specAccr_no (F k) _ w hs
      have hP:Hid (¬postOk (F k) (sumAll F n k)):=fun h=>hs h.1
      clear hs
      refine wp_region_over (by kernel_rfl) (by kernel_rfl) ?_
      go_big_quiet_step (fail)
      go_big_quiet_step (fail)
      go_big_quiet_step (fail)
      go_big_quiet_step ((go_at_call 155;exact Calls.over_of (cS.out _)))
      go_big_quiet_step (fail)
      go_big_quiet_step (fail)
      go_big_quiet_step (fail)
      go_big_quiet_step (fail)
      go_big_quiet_step ((go_at_call 154;exact Calls.over_same (cA.out _)))
      go_big_quiet_step (fail)
      go_big_quiet_step (fail)
      go_big_quiet_step (fail)
      go_big_quiet_step (fail)
      go_big_quiet_step (fail)
      go_big_quiet_step (fail)
      go_big_quiet_step (fail)
      refine wpQuiet_nil ?_
      intro V hV
      have hBV:Hid (Below W.heap.size W V):=by obtain ⟨vq,rfl⟩:=hV;exact below_over W vq
      have hXV:=hidOf (hXW.out.below hBV.out)
      have hLV:=hidOf (hLW.out.kept hBV.out)
      have hBB:=hidOf (hBW.out.trans (hBV.out.mono hBW.out.size))
      clear hV q0 q3 q7 cS
      obtain ⟨c0,c1,c2,c3,c4,c5,c6,c7⟩:=hXV.out.1
      have hVl:=hXV.out.2.2
      go_wp2
      go_roundw
      case rel=>exact ⟨k+1,by omega,by go_num,by rw[intS_hit hE.out,postN,if_neg hP.out,Int.add_zero],by rw[intF_hit hE.out,postA,if_neg hP.out];exact same_at hLV.out,hBB.out⟩
      case measure=>simp[ctr];omega
   ·have hE:Hid (¬earns (F k)):=fun he=>hu he.1
    have hu':((F k).up != 0)=true:=by simp[hu]
    have hu2:((F k).up == 0)=false:=by simp[hu]
    clear hu
    go_wp2
    go_roundw
    case rel=>exact ⟨k+1,by omega,by go_num,by rw[intS_skip hE.out],by rw[intF_skip hE.out];exact AL.kept hL.out ((Below.refl _ _).alloc (Nat.le_refl _) _),hB.out.alloc hB.out.size _⟩
    case measure=>simp[ctr];omega
  ·obtain rfl:k=n:=by omega
   go_wp2
   refine bodyPost_ret (v:=.tuple #[.slice (some ⟨g,0,none⟩) k c',.int .i64 (intS F k k)]) (by simp[results,Tryz.results121,go_sem]) rfl ?_
   exact ⟨_,rfl,hL.out,hB.out⟩
end Go.Proofs.YtghkbhggopiajaaGreatDoor
