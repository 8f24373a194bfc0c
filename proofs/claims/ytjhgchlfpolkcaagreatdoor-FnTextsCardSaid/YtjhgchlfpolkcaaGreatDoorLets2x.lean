/- Contracts of the number functions of chapter 1 that read no table. -/
import Derived.Test.YtjhgchlfpolkcaaGreatDoorRows
import Derived.WalkKit
import Derived.WalkLawsBesides
import Derived.Below
import Derived.Test.YtjhgchlfpolkcaaGreatDoorLedsx
namespace Go.Proofs.YtjhgchlfpolkcaaGreatDoor
open Value renaming int → Ii,slice → Sl
open IntKind renaming i64 → Jj
open Go.Proofs.Tryz renaming prog → Pg
set_option maxRecDepth 8000
set_option maxHeartbeats 4000000
open Go.RowKit
def qx (n lo hi:Int):Bool:=decide (lo<=n) && decide (n<=hi)
theorem eG {n lo hi:Int} (h:lo<=n/\n<=hi):qx n lo hi=true:=by simp[qx,h]
theorem gd {n lo hi:Int} (h:¬(lo<=n/\n<=hi)):qx n lo hi=false:=by simp only[qx,Bool.and_eq_false_iff,decide_eq_false_iff_not];omega
theorem dw (n lo hi:Int) (w:World):
  Calls Pg 75 #[Ii Jj n,Ii Jj lo,Ii Jj hi] w fun e w'=>e=.returned (.bool (qx n lo hi))/\w'=w:=by
 by_cases h1:lo<=n
 ·by_cases h2:n<=hi
  ·rw[eG ⟨h1,h2⟩]
   go_enter Tryz.func75,Tryz.ntmps75
   go_wp2
   go_ret
   exact ⟨rfl,rfl⟩
  ·rw[gd (by omega)]
   have h2':hi<n:=by omega
   go_enter Tryz.func75,Tryz.ntmps75
   go_wp2
   go_ret
   exact ⟨rfl,rfl⟩
 ·rw[gd (by omega)]
  have h1':n<lo:=by omega
  go_enter Tryz.func75,Tryz.ntmps75
  go_wp2
  go_ret
  exact ⟨rfl,rfl⟩
open Go.RowKit
theorem pK (t:Int) (h:t<0):t.tdiv 3650000= -((-t) / 3650000):=by
 have e:t= -(-t):=by omega
 rw[e,Int.neg_tdiv,Int.tdiv_eq_ediv_of_nonneg (by omega)];simp
theorem pL (t:Int) (h:t<0):t.tmod 3650000= -((-t) % 3650000):=by
 have e:t= -(-t):=by omega
 rw[e,Int.neg_tmod,Int.tmod_eq_emod_of_nonneg (by omega)];simp
theorem qI (b r:Int) (h1: -1000000000000<=b) (h2:b<=1000000000000) (h3:0<=r) (h4:r<=10000): -10000000000000000<=b*r/\b*r<=10000000000000000:=by
 have a1:b*r<=1000000000000*r:=Int.mul_le_mul_of_nonneg_right h2 h3
 have a2: -1000000000000*r<=b*r:=Int.mul_le_mul_of_nonneg_right h1 h3
 omega
theorem tK {a b a' b':Int} {x y:Bool} (h:a=a') (k:b=b') (l:x=y):Ending.returned (.tuple #[Ii Jj a,Ii Jj b,.bool x])=.returned (.tuple #[Ii Jj a',Ii Jj b',.bool y]):=by rw[h,k,l]
theorem pn (t:Int) (h:t<0) (hb: -20000000000000000<=t):∃q m:Int,t.tdiv 3650000=q/\t.tmod 3650000=m/\ -20000000000<=q/\q<=0/\ -3650000<m/\m<=0/\t=q*3650000+m/\
  (m<0->q-1=t / 3650000/\m+3650000=t % 3650000)/\(m=0->q=t / 3650000/\0=t % 3650000):=by
 refine ⟨_,_,pK t h,pL t h,by omega,by omega,by omega,by omega,by omega,fun _=>by omega,fun _=>by omega⟩
theorem iF (b r c:Int) (w:World) (h1: -1000000000000<=b) (h2:b<=1000000000000) (h3:0<=r) (h4:r<=10000) (h5:0<=c) (h6:c<3650000):
  Calls Pg 143 #[Ii Jj b,Ii Jj r,Ii Jj c] w fun e w'=>e=.returned (.tuple #[Ii Jj ((b*r+c) / 3650000),Ii Jj ((b*r+c) % 3650000),.bool true])/\w'=w:=by
 obtain ⟨m1,m2⟩:=qI b r h1 h2 h3 h4
 have i1:=eG ⟨h1,h2⟩
 have i2:=eG ⟨h3,h4⟩
 have i3:qx c 0 3649999=true:=eG ⟨h5,by omega⟩
 by_cases ht:0<=b*r+c
 ·have E:Hid (b*r+c-(b*r+c) / 3650000*3650000=(b*r+c) % 3650000):=by show _=_;omega
  go_enter Tryz.func143,Tryz.ntmps143
  go_wp2_with (go_at_call 75;refine (dw _ _ _ _).mono ?_;rintro e w' ⟨rfl,rfl⟩)
  go_ret3
  exact ⟨tK rfl E.out rfl,rfl⟩
 ·obtain ⟨q,m,hq,hm,q1,q2,q3,q4,ht',hy,hn⟩:=pn (b*r+c) (by omega) (by omega)
  by_cases hm0:m<0
  ·obtain ⟨e1,e2⟩:=hy hm0
   have E1:Hid (q-1=(b*r+c) / 3650000):=e1
   have E2:Hid (b*r+c-(q-1)*3650000=(b*r+c) % 3650000):=by show _=_;omega
   have b1: -20000000000*3650000<=b*r+c:=by omega
   clear e1 e2 hy hn ht'
   go_enter Tryz.func143,Tryz.ntmps143
   go_wp2_with (go_at_call 75;refine (dw _ _ _ _).mono ?_;rintro e w' ⟨rfl,rfl⟩)
   go_ret3
   exact ⟨tK E1.out E2.out rfl,rfl⟩
  ·obtain ⟨e1,e2⟩:=hn (by omega)
   have E1:Hid (q=(b*r+c) / 3650000):=e1
   have E2:Hid (b*r+c-q*3650000=(b*r+c) % 3650000):=by show _=_;omega
   clear e1 e2 hy hn ht'
   go_enter Tryz.func143,Tryz.ntmps143
   go_wp2_with (go_at_call 75;refine (dw _ _ _ _).mono ?_;rintro e w' ⟨rfl,rfl⟩)
   go_ret3
   exact ⟨tK E1.out E2.out rfl,rfl⟩
theorem jw (b r c:Int) (w:World) (h:¬(-1000000000000<=b/\b<=1000000000000/\0<=r/\r<=10000/\0<=c/\c<3650000)):
  Calls Pg 143 #[Ii Jj b,Ii Jj r,Ii Jj c] w fun e w'=>e=.returned (.tuple #[Ii Jj 0,Ii Jj 0,.bool false])/\w'=w:=by
 by_cases h1: -1000000000000<=b/\b<=1000000000000
 ·have i1:=eG h1
  by_cases h2:0<=r/\r<=10000
  ·have i2:=eG h2
   have i3:qx c 0 3649999=false:=gd (by omega)
   clear h h1 h2
   go_enter Tryz.func143,Tryz.ntmps143
   go_wp2_with (go_at_call 75;refine (dw _ _ _ _).mono ?_;rintro e w' ⟨rfl,rfl⟩)
   go_ret3
   exact ⟨rfl,rfl⟩
  ·have i2:=gd h2
   clear h h1 h2
   go_enter Tryz.func143,Tryz.ntmps143
   go_wp2_with (go_at_call 75;refine (dw _ _ _ _).mono ?_;rintro e w' ⟨rfl,rfl⟩)
   go_ret3
   exact ⟨rfl,rfl⟩
 ·have i1:=gd h1
  clear h h1
  go_enter Tryz.func143,Tryz.ntmps143
  go_wp2_with (go_at_call 75;refine (dw _ _ _ _).mono ?_;rintro e w' ⟨rfl,rfl⟩)
  go_ret3
  exact ⟨rfl,rfl⟩
open Go.RowKit
def fG (A:al) (s:Int):Int:=(s*A.rate+A.carry) / 3650000
def io (A:al) (s:Int):Int:=(s*A.rate+A.carry) % 3650000
def gp (A:al) (s:Int):Prop:=(-1000000000000<=s/\s<=1000000000000)/\(-1000000000000<=A.balance+fG A s/\A.balance+fG A s<=1000000000000)
instance (A:al) (s:Int):Decidable (gp A s):=by unfold gp;infer_instance
def ip (A:al) (s:Int):Int:=if gp A s then fG A s else 0
def mq (A:al) (s:Int):al:=if gp A s then {A with balance:=A.balance+fG A s,carry:=io A s} else A
theorem oE {A:al} {s:Int} (ho:ey A) (h: -1000000000000<=s/\s<=1000000000000): -3000000000<=fG A s/\fG A s<=3000000000/\0<=io A s/\io A s<3650000:=by
 obtain ⟨_,_,_,h4,_,_,h7,_⟩:=ho
 obtain ⟨m1,m2⟩:=qI s A.rate h.1 h.2 h4.1 h4.2
 unfold fG io
 generalize s*A.rate=t at*
 omega
theorem fZ {w v:World} {g:Nat} (h:w.grownBy v (some g)) (o:Nat) (u:Value):w.grownBy (v.setCell ⟨g,o,none⟩ u) (some g):=
 ⟨h.os,h.tape,h.output,by simpa [World.setCell] using h.size,fun i hi hne=>by
  have e:i≠g:=fun e=>hne (by rw[e])
  rw[←h.block i hi hne]
  simp[World.setCell,Array.getElem?_modify,Ne.symm e]⟩
open Go.RowKit
def fx (A:al):Prop:=A.up=0/\A.rate≠0
instance (A:al):Decidable (fx A):=by unfold fx;infer_instance
def rX (F:Nat->al) (n i:Nat):al:=if fx (F i) then mq (F i) (aF F n i) else F i
def l6 (F:Nat->al) (n i:Nat):Int:=if fx (F i) then ip (F i) (aF F n i) else 0
def dZ (F:Nat->al) (n k:Nat):Nat->al:=fun i=>if i<k then rX F n i else F i
def e7 (F:Nat->al) (n k:Nat):Int:=fM (l6 F n) k
theorem l4 (F:Nat->al) (n k:Nat):dZ F n k k=F k:=by simp[dZ]
theorem pg (F:Nat->al) (n:Nat):dZ F n 0=F:=by funext i;simp[dZ]
theorem kj (F:Nat->al) (n k:Nat):dZ F n (k+1)=fun i=>if i=k then rX F n k else dZ F n k i:=by
 funext i
 unfold dZ
 by_cases h:i=k
 ·subst h;simp
 ·by_cases h':i<k
  ·rw[if_pos (by omega),if_neg h,if_pos h']
  ·rw[if_neg (by omega),if_neg h,if_neg h']
theorem qZ {A:al} (s:Int) (ho:ey A): -3000000000<=ip A s/\ip A s<=3000000000:=by
 unfold ip
 split
 ·rename_i h
  have:=oE ho h.1
  omega
 ·omega
theorem la {F:Nat->al} {n:Nat} (h:ap F n):∀k,k<=n-> -(3000000000*(k:Int))<=e7 F n k/\e7 F n k<=3000000000*(k:Int)
 | 0,_=>by simp[e7,fM]
 | k+1,hk=>by
  have ih:=la h k (by omega)
  have e:e7 F n (k+1)=e7 F n k+l6 F n k:=rfl
  have b: -3000000000<=l6 F n k/\l6 F n k<=3000000000:=by
   unfold l6
   split
   ·exact qZ _ (h.2.1 k (by omega))
   ·omega
  rw[e]
  omega
theorem ki {F:Nat->al} {n k:Nat} (h:¬fx (F k)):dZ F n (k+1)=dZ F n k:=by
 rw[kj]
 funext i
 by_cases e:i=k
 ·subst e;simp[l4,rX,h]
 ·simp[e]
theorem kl {F:Nat->al} {n k:Nat} (h:¬fx (F k)):e7 F n (k+1)=e7 F n k:=by
 have e:e7 F n (k+1)=e7 F n k+l6 F n k:=rfl
 rw[e]
 simp[l6,h]
theorem jm {F:Nat->al} {n k:Nat} (h:fx (F k)):dZ F n (k+1)=fun i=>if i=k then mq (F k) (aF F n k) else dZ F n k i:=by
 rw[kj]
 simp[rX,h]
theorem jo {F:Nat->al} {n k:Nat} (h:fx (F k)):e7 F n (k+1)=e7 F n k+ip (F k) (aF F n k):=by
 have e:e7 F n (k+1)=e7 F n k+l6 F n k:=rfl
 rw[e]
 simp[l6,h]
open Go.RowKit
theorem rl (A:al) (s:Int) (w:World) (ho:ey A) (h: -1000000000000<=s/\s<=1000000000000):
  Calls Pg 143 #[Ii Jj s,Ii Jj A.rate,Ii Jj A.carry] w fun e w'=>e=.returned (.tuple #[Ii Jj (fG A s),Ii Jj (io A s),.bool true])/\w'=w:=by
 obtain ⟨_,_,_,h4,_,_,h7,_⟩:=ho
 exact iF s A.rate A.carry w h.1 h.2 h4.1 h4.2 h7.1 (by omega)
theorem mz (A:al) (s:Int) (w:World) (h:¬(-1000000000000<=s/\s<=1000000000000)):
  Calls Pg 143 #[Ii Jj s,Ii Jj A.rate,Ii Jj A.carry] w fun e w'=>e=.returned (.tuple #[Ii Jj 0,Ii Jj 0,.bool false])/\w'=w:=
 jw s A.rate A.carry w (by omega)
theorem Calls.over_same {P:Program} {f:FuncId} {args:Array Value} {w v:World} {u:Value}
  (h:Calls P f args (bW w v) fun e w'=>e=.returned u/\w'=bW w v):Calls P f args (bW w v) fun e w''=>e=.returned u/\∃x,w''=bW w x:=
 h.mono fun _ _ ⟨he,hb⟩=>⟨he,v,hb⟩
theorem oR (F:Nat->al) (n k:Nat) (A:al):(ia F n).set k A=ia (fun i=>if i=k then A else F i) n:=by
 apply List.ext_getElem
 ·simp[ia]
 ·intro i h1 h2
  simp only[ia,List.getElem_set,List.getElem_map,List.getElem_range]
  by_cases e:k=i
  ·subst e;simp
  ·rw[if_neg e,if_neg (fun e'=>e e'.symm)]
theorem AL.post {w:World} {B g c n k:Nat} {F:Nat->al} {x y:Int} (h:AL w B (Sl (some ⟨g,0,none⟩) n c) (ia F n)) (hk:k<n):
  AL ((w.setCell ⟨g,k*8+6,none⟩ (Ii Jj x)).setCell ⟨g,k*8+7,none⟩ (Ii Jj y)) B (Sl (some ⟨g,0,none⟩) n c) (ia (fun i=>if i=k then {F k with balance:=x,carry:=y} else F i) n):=by
 have hl:(ia F n).length=n:=dN F n
 have h0:AL w B (Sl (some ⟨g,0,none⟩) (ia F n).length c) (ia F n):=by rw[hl];exact h
 have h1:=h0.stored (p:=k) (by rw[hl];exact hk) 6 (by omega) (Ii Jj x) {F k with balance:=x} (by rw[n8 hk];rfl)
 have h2:=h1.stored (p:=k) (by simp[hl];exact hk) 7 (by omega) (Ii Jj y) {F k with balance:=x,carry:=y} (by rw[cE _ (by rw[hl];exact hk)];rfl)
 rw[oR,oR,dN] at h2
 refine (congrArg (fun L=>AL _ _ _ (ia L n)) ?_).mp h2
 funext i
 by_cases e:i=k <;>simp[e]
theorem oM {w:World} {B:Nat} {v:Value} {n k:Nat} {F:Nat->al} {m:Nat} (h:AL w B v (ia (dZ F n k) m)):AL w B v (ia (fun i=>if i=k then F k else dZ F n k i) m):=by
 have e:(fun i=>if i=k then F k else dZ F n k i)=dZ F n k:=by
  funext i
  by_cases e:i=k
  ·subst e;simp[l4]
  ·simp[e]
 rw[e];exact h
theorem lw (a:Option Addr) (n c:Nat) (F:Nat->al) (w:World) (h:Fo w a n F) (hR:ap F n):
  Calls Pg 125 #[Sl a n c] w fun e w'=>∃v,e=.returned (.tuple #[v,Ii Jj (e7 F n n)])/\AL w' w.heap.size v (ia (dZ F n n) n)/\Below w.heap.size w w':=by
 have H:Hid (Fo w a n F):=h
 have HR:Hid (ap F n):=hR
 have hn:=hR.1
 have H0:Hid (Fo w a n (FL (ia F n))):=h.congr (fun j hj=>(n8 hj).symm)
 clear h hR
 go_enter Tryz.func125,Tryz.ntmps125
 go_wp2_with (go_at_call 118;refine (aM a n c (ia F n) w (dN F n).symm H0.out).mono ?_;rintro e w1 ⟨g,c',rfl,A1,B1⟩)
 rw[dN] at*
 have HA1:Hid (AL w1 w.heap.size (Sl (some ⟨g,0,none⟩) n c') (ia F n)):=A1
 have HB1:Hid (Below w.heap.size w w1):=B1
 have hgB:=A1.block.1
 clear A1 B1 H0
 go_loopw[6,5] (fun i p wr=>∃k:Nat,k<=n/\i=Ii Jj k/\p=Ii Jj (e7 F n k)/\Hid (AL wr w.heap.size (Sl (some ⟨g,0,none⟩) n c') (ia (dZ F n k) n))/\Hid (Below w.heap.size w wr)) (fun i _ _=>n-(jH i).toNat)
 case atStart=>exact ⟨0,Nat.zero_le _,rfl,rfl,by rw[pg];exact HA1,HB1⟩
 case round=>
  obtain ⟨k,hk,rfl,rfl,hL,hB⟩:=hrel
  by_cases hlt:k<n
  ·obtain ⟨b,o,rfl,hb,hA⟩:=(H.out.below hB.out).acc hlt
   obtain ⟨c0,c1,c2,c3,c4,c5,c6,c7⟩:=hA
   obtain ⟨s1,s2⟩:=la HR.out k hk
   have s3: -36000000000<=e7 F n k:=by omega
   have s4:e7 F n k<=36000000000:=by omega
   have hgl:=hL.out.block.2
   clear s1 s2
   by_cases hu:(F k).up=0
   ·by_cases hr:(F k).rate=0
    ·have hE:Hid (¬fx (F k)):=fun he=>he.2 hr
     have hu':((F k).up != 0)=false:=by simp[hu]
     have hu2:((F k).up == 0)=true:=by simp[hu]
     have hr2:((F k).rate == 0)=true:=by simp[hr]
     clear hu hr
     go_wp2
     go_roundw
     case rel=>exact ⟨k+1,by omega,by go_num,by rw[kl hE.out],by rw[ki hE.out];exact AL.kept hL.out ((Below.refl _ _).alloc (Nat.le_refl _) _),hB.out.alloc hB.out.size _⟩
     case measure=>simp[jH];omega
    ·have hE:Hid (fx (F k)):=⟨hu,hr⟩
     have hO:Hid (ey (F k)):=HR.out.2.1 k hlt
     have hu':((F k).up != 0)=false:=by simp[hu]
     have hu2:((F k).up == 0)=true:=by simp[hu]
     have hr2:((F k).rate == 0)=false:=by simp[hr]
     clear hu hr
     go_upto_region 8 with fail
     obtain ⟨W,hW⟩:∃W,W=wr.alloc (.cells #[Ii Jj (F k).id,Ii Jj (F k).up,Ii Jj (F k).limit,Ii Jj (F k).rate,Ii Jj (F k).target,.bool (F k).frozen,Ii Jj (F k).balance,Ii Jj (F k).carry] 53):=⟨_,rfl⟩
     have hXW:Hid (dD W wr.heap.size (F k)):=by rw[hW];exact dD.new wr (F k) 53
     have hB0:Below wr.heap.size wr W:=by rw[hW];exact (Below.refl _ _).alloc (Nat.le_refl _) _
     have hBW:Hid (Below w.heap.size w W):=hB.out.trans (hB0.mono hB.out.size)
     have hLW:Hid (AL W w.heap.size (Sl (some ⟨g,0,none⟩) n c') (ia (dZ F n k) n)):=hL.out.kept hB0
     rw[←hW]
     clear hW hB0 c0 c1 c2 c3 c4 c5 c6 c7 hb
     have q:∀v j,(bW W v).cell? ⟨wr.heap.size,j,none⟩=W.cell? ⟨wr.heap.size,j,none⟩:=fun v j=>(ar W v).cell (p:=⟨wr.heap.size,j,none⟩) hXW.out.2.2
     have q0:∀v,(bW W v).cell? ⟨wr.heap.size,0,none⟩=some (Ii Jj (F k).id):=fun v=>(q v 0).trans hXW.out.1.1
     have q3:∀v,(bW W v).cell? ⟨wr.heap.size,3,none⟩=some (Ii Jj (F k).rate):=fun v=>(q v 3).trans hXW.out.1.2.2.2.1
     have q7:∀v,(bW W v).cell? ⟨wr.heap.size,7,none⟩=some (Ii Jj (F k).carry):=fun v=>(q v 7).trans hXW.out.1.2.2.2.2.2.2.2
     clear q
     have cS:Hid (∀v,Calls Pg 140 #[Sl (some ⟨b,o,none⟩) n c,Ii Jj (F k).id] (bW W v) fun e w'=>e=.returned (Ii Jj (aF F n k))/\Below (bW W v).heap.size (bW W v) w'):=fun v=>iR _ n c F k _ ((H.out.below hBW.out).below (ar W v)) HR.out hlt
     have hbal:=hO.out.2.2.2.2.2.1
     by_cases hs: -1000000000000<=aF F n k/\aF F n k<=1000000000000
     ·have cA:Hid (∀w,Calls Pg 143 #[Ii Jj (aF F n k),Ii Jj (F k).rate,Ii Jj (F k).carry] w fun e w'=>e=.returned (.tuple #[Ii Jj (fG (F k) (aF F n k)),Ii Jj (io (F k) (aF F n k)),.bool true])/\w'=w):=fun w=>rl (F k) _ w hO.out hs
      have HS:Hid (-1000000000000<=aF F n k/\aF F n k<=1000000000000):=hs
      obtain ⟨x1,x2,y1,y2⟩:=oE hO.out hs
      obtain ⟨x,hx⟩:∃x,x=fG (F k) (aF F n k):=⟨_,rfl⟩
      obtain ⟨y,hy⟩:∃y,y=io (F k) (aF F n k):=⟨_,rfl⟩
      rw[←hx] at cA x1 x2
      rw[←hy] at cA y1 y2
      have HX:Hid (x=fG (F k) (aF F n k)):=hx
      have HY:Hid (y=io (F k) (aF F n k)):=hy
      clear hs hx hy
      refine aw (by kernel_rfl) (by kernel_rfl) ?_
      go_big_quiet_step (fail)
      go_big_quiet_step (fail)
      go_big_quiet_step (fail)
      go_big_quiet_step ((go_at_call 140;exact Calls.over_of (cS.out _)))
      go_big_quiet_step (fail)
      go_big_quiet_step (fail)
      go_big_quiet_step (fail)
      go_big_quiet_step (fail)
      go_big_quiet_step ((go_at_call 143;exact Calls.over_same (cA.out _)))
      go_big_quiet_step (fail)
      go_big_quiet_step (fail)
      go_big_quiet_step (fail)
      go_big_quiet_step (fail)
      go_big_quiet_step (fail)
      go_big_quiet_step (fail)
      go_big_quiet_step (fail)
      refine wpQuiet_nil ?_
      intro V hV
      have hBV:Hid (Below W.heap.size W V):=by obtain ⟨vq,rfl⟩:=hV;exact ar W vq
      have hXV:Hid (dD V wr.heap.size (F k)):=hXW.out.below hBV.out
      have hLV:Hid (AL V w.heap.size (Sl (some ⟨g,0,none⟩) n c') (ia (dZ F n k) n)):=hLW.out.kept hBV.out
      have hBB:Hid (Below w.heap.size w V):=hBW.out.trans (hBV.out.mono hBW.out.size)
      clear hV q0 q3 q7 cS
      obtain ⟨c0,c1,c2,c3,c4,c5,c6,c7⟩:=hXV.out.1
      have hVl:=hXV.out.2.2
      by_cases hp: -1000000000000<=(F k).balance+x/\(F k).balance+x<=1000000000000
      ·have cI:Hid (∀w,Calls Pg 75 #[Ii Jj ((F k).balance+x),Ii Jj (-1000000000000),Ii Jj 1000000000000] w fun e w'=>e=.returned (.bool true)/\w'=w):=fun w=>by have:=dw ((F k).balance+x) (-1000000000000) 1000000000000 w;rwa [eG hp] at this
       have hP:Hid (gp (F k) (aF F n k)):=⟨HS.out,by rw[←HX.out];exact hp⟩
       clear hp
       have hgV:=hLV.out.block.2
       obtain ⟨d0,d1,d2,d3,d4,d5,d6,d7⟩:eA V g (k*8) (dZ F n k k):=by have:=AL.acc (L:=ia (dZ F n k) n) (by rw[dN];exact hLV.out) (i:=k) (by rw[dN];exact hlt);rwa [n8 hlt] at this
       have hfz:∀j,V.frozen? ⟨g,j,none⟩=false:=fun j=>AL.frozen (L:=ia (dZ F n k) n) (by rw[dN];exact hLV.out) j
       have hgw:g≠wr.heap.size:=by omega
       clear d0 d1 d2 d3 d4 d5
       go_wp2_with (go_at_call 75;refine (cI.out _).mono ?_;rintro e w' ⟨rfl,rfl⟩)
       go_roundw
       case rel=>
        refine ⟨k+1,by omega,by go_num,?_,?_,ed (ed hBB.out hgB _ _) hgB _ _⟩
        ·rw[jo hE.out]
         unfold ip
         rw[if_pos hP.out,←HX.out]
        ·rw[jm hE.out]
         unfold mq
         rw[if_pos hP.out,←HX.out,←HY.out]
         have:=hLV.out.post (x:=(F k).balance+x) (y:=y) hlt
         rw[l4] at this
         exact this
       case measure=>simp[jH];omega
      ·have cI:Hid (∀w,Calls Pg 75 #[Ii Jj ((F k).balance+x),Ii Jj (-1000000000000),Ii Jj 1000000000000] w fun e w'=>e=.returned (.bool false)/\w'=w):=fun w=>by have:=dw ((F k).balance+x) (-1000000000000) 1000000000000 w;rwa [gd hp] at this
       have hP:Hid (¬gp (F k) (aF F n k)):=fun h=>hp (by rw[HX.out];exact h.2)
       clear hp
       go_wp2_with (go_at_call 75;refine (cI.out _).mono ?_;rintro e w' ⟨rfl,rfl⟩)
       go_roundw
       case rel=>exact ⟨k+1,by omega,by go_num,by rw[jo hE.out,ip,if_neg hP.out,Int.add_zero],by rw[jm hE.out,mq,if_neg hP.out];exact oM hLV.out,hBB.out⟩
       case measure=>simp[jH];omega
     ·have cA:Hid (∀w,Calls Pg 143 #[Ii Jj (aF F n k),Ii Jj (F k).rate,Ii Jj (F k).carry] w fun e w'=>e=.returned (.tuple #[Ii Jj 0,Ii Jj 0,.bool false])/\w'=w):=fun w=>mz (F k) _ w hs
      have hP:Hid (¬gp (F k) (aF F n k)):=fun h=>hs h.1
      clear hs
      refine aw (by kernel_rfl) (by kernel_rfl) ?_
      go_big_quiet_step (fail)
      go_big_quiet_step (fail)
      go_big_quiet_step (fail)
      go_big_quiet_step ((go_at_call 140;exact Calls.over_of (cS.out _)))
      go_big_quiet_step (fail)
      go_big_quiet_step (fail)
      go_big_quiet_step (fail)
      go_big_quiet_step (fail)
      go_big_quiet_step ((go_at_call 143;exact Calls.over_same (cA.out _)))
      go_big_quiet_step (fail)
      go_big_quiet_step (fail)
      go_big_quiet_step (fail)
      go_big_quiet_step (fail)
      go_big_quiet_step (fail)
      go_big_quiet_step (fail)
      go_big_quiet_step (fail)
      refine wpQuiet_nil ?_
      intro V hV
      have hBV:Hid (Below W.heap.size W V):=by obtain ⟨vq,rfl⟩:=hV;exact ar W vq
      have hXV:Hid (dD V wr.heap.size (F k)):=hXW.out.below hBV.out
      have hLV:Hid (AL V w.heap.size (Sl (some ⟨g,0,none⟩) n c') (ia (dZ F n k) n)):=hLW.out.kept hBV.out
      have hBB:Hid (Below w.heap.size w V):=hBW.out.trans (hBV.out.mono hBW.out.size)
      clear hV q0 q3 q7 cS
      obtain ⟨c0,c1,c2,c3,c4,c5,c6,c7⟩:=hXV.out.1
      have hVl:=hXV.out.2.2
      go_wp2
      go_roundw
      case rel=>exact ⟨k+1,by omega,by go_num,by rw[jo hE.out,ip,if_neg hP.out,Int.add_zero],by rw[jm hE.out,mq,if_neg hP.out];exact oM hLV.out,hBB.out⟩
      case measure=>simp[jH];omega
   ·have hE:Hid (¬fx (F k)):=fun he=>hu he.1
    have hu':((F k).up != 0)=true:=by simp[hu]
    have hu2:((F k).up == 0)=false:=by simp[hu]
    clear hu
    go_wp2
    go_roundw
    case rel=>exact ⟨k+1,by omega,by go_num,by rw[kl hE.out],by rw[ki hE.out];exact AL.kept hL.out ((Below.refl _ _).alloc (Nat.le_refl _) _),hB.out.alloc hB.out.size _⟩
    case measure=>simp[jH];omega
  ·obtain rfl:k=n:=by omega
   go_wp2
   refine bodyPost_ret (v:=.tuple #[Sl (some ⟨g,0,none⟩) k c',Ii Jj (e7 F k k)]) (by simp[results,Tryz.results125,go_sem]) rfl ?_
   exact ⟨_,rfl,hL.out,hB.out⟩
end Go.Proofs.YtjhgchlfpolkcaaGreatDoor
