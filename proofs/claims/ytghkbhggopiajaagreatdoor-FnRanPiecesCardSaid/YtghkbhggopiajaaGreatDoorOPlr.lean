/- Where an order stands. -/
import Derived.Test.YtghkbhggopiajaaGreatDoorDelOr
namespace Go.Proofs.YtghkbhggopiajaaGreatDoor
open Value renaming int → Ii,slice → Sl
open IntKind renaming i64 → Jj
open Nat renaming le_refl → Nf
open Go.Proofs.Tryz renaming prog → Pg
open Go.RowKit
set_option maxRecDepth 8000
def e8 (x y:Int):Int:=if x<y then -1 else if y<x then 1 else 0
theorem tr (x:Int) (w:World):Calls Pg 198 #[Ii Jj x] w fun e w'=>e=.returned (.bool false)/\w'=w:=by
 have e0:(x != x)=false:=by simp
 go_enter Tryz.func198,Tryz.ntmps198
 go_wp2
 go_ret
 exact ⟨rfl,rfl⟩
theorem ts (x y:Int) (w:World):Calls Pg 174 #[Ii Jj x,Ii Jj y] w fun e w'=>e=.returned (Ii Jj (e8 x y))/\w'=w:=by
 have NN:Hid (∀x w,Calls Pg 198 #[Ii Jj x] w fun e w'=>e=.returned (.bool false)/\w'=w):=tr
 by_cases h1:x<y
 ·have E:Hid (e8 x y= -1):=by show e8 x y= -1;simp[e8,h1]
  go_enter Tryz.func174,Tryz.ntmps174
  go_wp2_with (go_at_call 198;refine (NN.out _ _).mono ?_;rintro e wz ⟨rfl,hwz⟩;subst wz)
  go_ret
  rw[E.out];exact ⟨rfl,rfl⟩
 ·by_cases h2:y<x
  ·have E:Hid (e8 x y=1):=by show e8 x y=1;simp[e8,h1,h2]
   go_enter Tryz.func174,Tryz.ntmps174
   go_wp2_with (go_at_call 198;refine (NN.out _ _).mono ?_;rintro e wz ⟨rfl,hwz⟩;subst wz)
   go_ret
   rw[E.out];exact ⟨rfl,rfl⟩
  ·have E:Hid (e8 x y=0):=by show e8 x y=0;simp[e8,h1,h2]
   go_enter Tryz.func174,Tryz.ntmps174
   go_wp2_with (go_at_call 198;refine (NN.out _ _).mono ?_;rintro e wz ⟨rfl,hwz⟩;subst wz)
   go_ret
   rw[E.out];exact ⟨rfl,rfl⟩
theorem rT (o:au) (n:Int) (w:World):Calls Pg 173 #[.agg #[Ii Jj o.id,Ii Jj o.src,Ii Jj o.dst,Ii Jj o.amount,Ii Jj o.first,Ii Jj o.every,Ii Jj o.times],Ii Jj n] w fun e w'=>e=.returned (Ii Jj (e8 o.id n))/\Below w.heap.size w w':=by
 have CC:Hid (∀w,Calls Pg 174 #[Ii Jj o.id,Ii Jj n] w fun e w'=>e=.returned (Ii Jj (e8 o.id n))/\w'=w):=fun w=>ts o.id n w
 generalize e8 o.id n=c at*
 go_enter Tryz.func173,Tryz.ntmps173
 go_wp2_with (go_at_call 174;refine (CC.out _).mono ?_;rintro e wz ⟨rfl,hwz⟩;subst wz)
 go_ret
 exact ⟨rfl,(Below.refl _ _).alloc (Nf _) _⟩
open Go.RowKit
set_option maxRecDepth 8000
def dN (P:List au) (n:Int) (i j:Nat):Prop:=(∀t,t<i->(ae P t).id<n)/\(∀t,j<=t->t<P.length->n<=(ae P t).id)
set_option maxHeartbeats 4000000 in
theorem kS (a:Option Addr) (c:Nat) (P:List au) (n:Int) (w:World) (h:aG w a P.length (ae P)) (hs:∀s t,s<t->t<P.length->(ae P s).id<(ae P t).id):
  Calls Pg 172 #[Sl a P.length c,Ii Jj n,.func (.func 173) #[] #[]] w fun e w'=>∃r:Nat,r<=P.length/\dN P n r r/\e=.returned (.tuple #[Ii Jj r,.bool (decide (r<P.length/\(ae P r).id=n))])/\Below w.heap.size w w':=by
 have H:=aa h
 have HS:=aa hs
 have hn:=h.1
 have ent:∀args w,(callFunc 173 args).run Pg w=.ok (.enter 173 args) w:=enters_of Tryz.func173 (by kernel_rfl) rfl
 clear h hs
 go_enter Tryz.func172,Tryz.ntmps172
 go_wp2
 go_loopw[9,10] (fun vi vj wr=>∃i j:Nat,i<=j/\j<=P.length/\vi=Ii Jj i/\vj=Ii Jj j/\Hid (dN P n i j)/\Hid (Below w.heap.size w wr)) (fun vi vj _=>(eH vj).toNat-(eH vi).toNat)
 case atStart=>exact ⟨0,P.length,Nat.zero_le _,Nf _,rfl,rfl,⟨fun t ht=>absurd ht (Nat.not_lt_zero _),fun t h1 h2=>by omega⟩,Below.refl _ _⟩
 case round=>
  obtain ⟨i,j,hij,hj,rfl,rfl,hH,hB⟩:=hrel
  by_cases hlt:i<j
  ·obtain ⟨m,hm⟩:∃m:Nat,m=(i+j) / 2:=⟨_,rfl⟩
   have hmj:m<j:=by omega
   have him:i<=m:=by omega
   go_upto_region 5 with fail
   have hmi:((i:Int)+(j:Int)) / 2=(m:Int):=by omega
   rw[hmi]
   have hmP:m<P.length:=by omega
   obtain ⟨b,q,rfl,hb,hA⟩:=(H.out.below hB.out).acc hmP
   obtain ⟨c0,c1,c2,c3,c4,c5,c6⟩:=hA
   have CO:Hid (∀W,Calls Pg 173 #[.agg #[Ii Jj (ae P m).id,Ii Jj (ae P m).src,Ii Jj (ae P m).dst,Ii Jj (ae P m).amount,Ii Jj (ae P m).first,Ii Jj (ae P m).every,Ii Jj (ae P m).times],Ii Jj n] W fun e w'=>e=.returned (Ii Jj (e8 (ae P m).id n))/\Below W.heap.size W w'):=fun W=>rT (ae P m) n W
   by_cases hc:(ae P m).id<n
   ·have HN:Hid (dN P n (m+1) j):=⟨fun t ht=>by
     by_cases e:t=m
     ·subst e;exact hc
     ·have:=HS.out t m (by omega) hmP;omega,hH.out.2⟩
    have E:Hid (e8 (ae P m).id n= -1):=by show e8 (ae P m).id n= -1;simp[e8,hc]
    rw[E.out] at CO
    clear hc hm hmi
    go_wp2_with fail
    refine (CO.out _).mono ?_
    rintro e w1 ⟨rfl,B1⟩
    have B1':=aa (hB.out.trans (B1.mono hB.out.size))
    clear B1
    go_wp2
    go_roundw
    case rel=>exact ⟨m+1,j,by omega,hj,by go_num,rfl,HN,B1'⟩
    case measure=>simp[eH];omega
   ·have HN:Hid (dN P n i m):=⟨hH.out.1,fun t h1 h2=>by
     by_cases e:t=m
     ·subst e;omega
     ·have:=HS.out m t (by omega) h2;omega⟩
    obtain ⟨z,hz⟩:∃z,z=e8 (ae P m).id n:=⟨_,rfl⟩
    have hz0:0<=z:=by rw[hz];unfold e8;rw[if_neg hc];split <;>omega
    have hzb:decide (z<0)=false:=by simp;omega
    rw[←hz] at CO
    clear hc hm hmi hz
    go_wp2_with fail
    refine (CO.out _).mono ?_
    rintro e w1 ⟨rfl,B1⟩
    have B1':=aa (hB.out.trans (B1.mono hB.out.size))
    clear B1
    go_wp2
    go_roundw
    case rel=>exact ⟨i,m,him,by omega,rfl,by go_num,HN,B1'⟩
    case measure=>simp[eH];omega
  ·obtain rfl:i=j:=by omega
   by_cases hi:i<P.length
   ·obtain ⟨b,q,rfl,hb,hA⟩:=(H.out.below hB.out).acc hi
    obtain ⟨c0,c1,c2,c3,c4,c5,c6⟩:=hA
    have CO:Hid (∀W,Calls Pg 173 #[.agg #[Ii Jj (ae P i).id,Ii Jj (ae P i).src,Ii Jj (ae P i).dst,Ii Jj (ae P i).amount,Ii Jj (ae P i).first,Ii Jj (ae P i).every,Ii Jj (ae P i).times],Ii Jj n] W fun e w'=>e=.returned (Ii Jj (e8 (ae P i).id n))/\Below W.heap.size W w'):=fun W=>rT (ae P i) n W
    have hge:n<=(ae P i).id:=hH.out.2 i (Nf _) hi
    by_cases hc:(ae P i).id=n
    ·have E:Hid (e8 (ae P i).id n=0):=by show e8 (ae P i).id n=0;simp[e8,hc]
     have ED:Hid (decide (i<P.length/\(ae P i).id=n)=true):=by show decide _=true;simp[hi,hc]
     rw[E.out] at CO
     clear hc hge
     go_wp2_with fail
     refine (CO.out _).mono ?_
     rintro e w1 ⟨rfl,B1⟩
     have B1':=aa (hB.out.trans (B1.mono hB.out.size))
     clear B1
     go_wp2
     go_ret2
     exact ⟨i,hj,hH.out,by rw[ED.out];rfl,B1'.out⟩
    ·have E:Hid (e8 (ae P i).id n=1):=by show e8 (ae P i).id n=1;unfold e8;rw[if_neg (by omega),if_pos (by omega)]
     have ED:Hid (decide (i<P.length/\(ae P i).id=n)=false):=by show decide _=false;simp[hc]
     rw[E.out] at CO
     clear hc hge
     go_wp2_with fail
     refine (CO.out _).mono ?_
     rintro e w1 ⟨rfl,B1⟩
     have B1':=aa (hB.out.trans (B1.mono hB.out.size))
     clear B1
     go_wp2
     go_ret2
     exact ⟨i,hj,hH.out,by rw[ED.out];rfl,B1'.out⟩
   ·have ED:Hid (decide (i<P.length/\(ae P i).id=n)=false):=by show decide _=false;simp[hi]
    go_wp2
    go_ret2
    exact ⟨i,hj,hH.out,by rw[ED.out];rfl,hB.out⟩
open Go.RowKit
set_option maxRecDepth 8000
theorem dB {P:List au} (h:bB (ae P) P.length):∀s t,s<t->t<P.length->(ae P s).id<(ae P t).id:=by
 intro s t hst ht
 induction t with
 | zero=>omega
 | succ t ih=>
  have h1:=h.2.2 (t+1) (by omega) ht
  rw[Nat.add_sub_cancel] at h1
  rcases Nat.lt_or_eq_of_le (Nat.le_of_lt_succ hst) with hlt|rfl
  ·have:=ih hlt (by omega)
   omega
  ·exact h1
theorem pc {P:List au} {n:Int} {r s:Nat} (hr:r<=P.length) (hs:s<=P.length) (h1:dN P n r r) (h2:dN P n s s):r=s:=by
 rcases Nat.lt_trichotomy r s with h|h|h
 ·have a:=h2.1 r h
  have b:=h1.2 r (Nf _) (by omega)
  omega
 ·exact h
 ·have a:=h1.1 s h
  have b:=h2.2 s (Nf _) (by omega)
  omega
open Classical in
noncomputable def jW (P:List au) (n:Int):Nat:=if h:∃r,r<=P.length/\dN P n r r then h.choose else 0
theorem jJ {P:List au} {n:Int} {r:Nat} (hr:r<=P.length) (h:dN P n r r):jW P n=r:=by
 have hx:∃r,r<=P.length/\dN P n r r:=⟨r,hr,h⟩
 unfold jW
 rw[dif_pos hx]
 exact pc hx.choose_spec.1 hr hx.choose_spec.2 h
def bv (P:List au) (n:Int):Prop:=∃t,t<P.length/\(ae P t).id=n
theorem kT {P:List au} {n:Int} {r:Nat} (hR:bB (ae P) P.length) (h:dN P n r r):(r<P.length/\(ae P r).id=n)↔bv P n:=by
 constructor
 ·exact fun h=>⟨r,h⟩
 ·rintro ⟨t,ht,e⟩
  have h1:¬t<r:=fun hh=>by
   have:=h.1 t hh
   omega
  by_cases e2:t=r
  ·subst e2;exact ⟨ht,e⟩
  ·have h2:=h.2 r (Nf _) (by omega)
   have:=dB hR r t (by omega) ht
   omega
theorem fM {P:List au} {n:Int} (hR:bB (ae P) P.length) (ht:bv P n):∃r,r<P.length/\(ae P r).id=n/\jW P n=r/\gg (jI n) P=(r:Int):=by
 obtain ⟨t,h1,h2⟩:=ht
 have hH:dN P n t t:=⟨fun s hs=>by have:=dB hR s t hs h1;omega,fun s h3 h4=>by
  by_cases e:s=t
  ·subst e;omega
  ·have:=dB hR t s (by omega) h4
   omega⟩
 exact ⟨t,h1,h2,jJ (by omega) hH,gW h1 (by simp[jI,h2]) (fun j hj=>by have:=hH.1 j hj;simp[jI];omega)⟩
theorem jK {P:List au} {n:Int} (ht:¬bv P n):gg (jI n) P= -1:=eZ (fun j hj=>by simp only[jI,beq_eq_false_iff_ne];intro e;exact ht ⟨j,hj,e⟩)
theorem pd (P:List au) (n:Int):jW P n<=P.length:=by
 unfold jW
 split
 ·rename_i h;exact h.choose_spec.1
 ·omega
noncomputable def bd (O:List au) (o:au):List au:=O.take (jW O o.id)++o::O.drop (jW O o.id)
noncomputable def cQ (O:List au) (n:Int):List au:=O.take (jW O n)++O.drop (jW O n+1)
theorem jL (O:List au) (o:au):(bd O o).length=O.length+1:=by
 have:=pd O o.id
 simp[bd];omega
theorem nJ (O:List au) (n:Int):(cQ O n).length<=O.length:=by
 have:=pd O n
 simp[cQ];omega
structure Rn where
 code:Int
 L:List aj
 O:List au
 k:Bk
def Rn.ok (q:Rn):Prop:=aq (FL q.L) q.L.length (ae q.O) q.O.length q.k
def cM (k:Bk) (x:cV):Bk:=⟨k.day,if x.k=5 then k.inn+x.m else k.inn,if x.k=6 then k.out+x.m else k.out,k.posted,k.missed⟩
open Classical in
noncomputable def eU (L:List aj) (O:List au) (k:Bk) (K:Int) (x:cV) (o:au) (n:Int):Rn:=
 if ¬ba K x o n then ⟨2,L,O,k⟩
 else if K=19 then ⟨(am L x.k x.i x.t x.m x.r).1,(am L x.k x.i x.t x.m x.r).2,O,cM k x⟩
 else if K=20 then (if bv O o.id then ⟨4,L,O,k⟩ else ⟨0,L,bd O o,k⟩)
 else if K=21 then (if bv O n then ⟨0,L,cQ O n,k⟩ else ⟨3,L,O,k⟩)
 else if cU L O k then ⟨0,ct L O k,bU O k,bh L O k⟩ else ⟨7,L,O,k⟩
open Classical in
noncomputable def cG (L:List aj) (O:List au) (k:Bk) (q:Rn):Rn:=if q.code=0 then (if q.ok then q else ⟨7,L,O,k⟩) else ⟨q.code,L,O,k⟩
noncomputable def dk (L:List aj) (O:List au) (k:Bk) (K:Int) (x:cV) (o:au) (n:Int):Rn:=cG L O k (eU L O k K x o n)
open Classical in
noncomputable def aY (L:List aj) (O:List au) (k:Bk) (K:Int) (x:cV) (o:au) (n:Int):Rn:=if aq (FL L) L.length (ae O) O.length k then dk L O k K x o n else ⟨1,[],[],⟨0,0,0,0,0⟩⟩
def ch (q:Rn) (w:World) (e:Ending) (w':World):Prop:=∃v u,e=.returned (.tuple #[.agg #[Ii Jj q.k.day,v,u,Ii Jj q.k.inn,Ii Jj q.k.out,Ii Jj q.k.posted,Ii Jj q.k.missed],Ii Jj q.code])/\AL w' w.heap.size v q.L/\ah w' w.heap.size u q.O/\Below w.heap.size w w'
theorem jM {L:List aj} {O:List au} {k:Bk} {K:Int} {x:cV} {o:au} {n:Int} (h:¬ba K x o n):eU L O k K x o n=⟨2,L,O,k⟩:=by unfold eU;rw[if_pos h]
theorem pf {L:List aj} {O:List au} {k:Bk} {x:cV} {o:au} {n:Int} (h:ba 19 x o n):eU L O k 19 x o n=⟨(am L x.k x.i x.t x.m x.r).1,(am L x.k x.i x.t x.m x.r).2,O,cM k x⟩:=by unfold eU;rw[if_neg (fun hh=>hh h),if_pos rfl]
theorem ip {L:List aj} {O:List au} {k:Bk} {x:cV} {o:au} {n:Int} (h:ba 20 x o n) (ht:bv O o.id):eU L O k 20 x o n=⟨4,L,O,k⟩:=by unfold eU;rw[if_neg (fun hh=>hh h),if_neg (by decide),if_pos rfl,if_pos ht]
theorem lO {L:List aj} {O:List au} {k:Bk} {x:cV} {o:au} {n:Int} (h:ba 20 x o n) (ht:¬bv O o.id):eU L O k 20 x o n=⟨0,L,bd O o,k⟩:=by unfold eU;rw[if_neg (fun hh=>hh h),if_neg (by decide),if_pos rfl,if_neg ht]
theorem lP {L:List aj} {O:List au} {k:Bk} {x:cV} {o:au} {n:Int} (h:ba 21 x o n) (ht:bv O n):eU L O k 21 x o n=⟨0,L,cQ O n,k⟩:=by unfold eU;rw[if_neg (fun hh=>hh h),if_neg (by decide),if_neg (by decide),if_pos rfl,if_pos ht]
theorem jN {L:List aj} {O:List au} {k:Bk} {x:cV} {o:au} {n:Int} (h:ba 21 x o n) (ht:¬bv O n):eU L O k 21 x o n=⟨3,L,O,k⟩:=by unfold eU;rw[if_neg (fun hh=>hh h),if_neg (by decide),if_neg (by decide),if_pos rfl,if_neg ht]
theorem lQ {L:List aj} {O:List au} {k:Bk} {x:cV} {o:au} {n:Int} (h:ba 22 x o n) (ht:cU L O k):eU L O k 22 x o n=⟨0,ct L O k,bU O k,bh L O k⟩:=by unfold eU;rw[if_neg (fun hh=>hh h),if_neg (by decide),if_neg (by decide),if_neg (by decide),if_pos ht]
theorem jO {L:List aj} {O:List au} {k:Bk} {x:cV} {o:au} {n:Int} (h:ba 22 x o n) (ht:¬cU L O k):eU L O k 22 x o n=⟨7,L,O,k⟩:=by unfold eU;rw[if_neg (fun hh=>hh h),if_neg (by decide),if_neg (by decide),if_neg (by decide),if_neg ht]
theorem fp {L:List aj} {O:List au} {k:Bk} {q:Rn} (h:q.code≠0):cG L O k q=⟨q.code,L,O,k⟩:=by unfold cG;rw[if_neg h]
theorem dQ {L:List aj} {O:List au} {k:Bk} {q:Rn} (h:q.code=0) (hq:q.ok):cG L O k q=q:=by unfold cG;rw[if_pos h,if_pos hq]
theorem dl {L:List aj} {O:List au} {k:Bk} {q:Rn} (h:q.code=0) (hq:¬q.ok):cG L O k q=⟨7,L,O,k⟩:=by unfold cG;rw[if_pos h,if_neg hq]
theorem jP {K n:Int} {x:cV} {o:au} (h:ba K x o n):K=19\/K=20\/K=21\/K=22:=by
 by_cases h1:K=19
 ·exact Or.inl h1
 by_cases h2:K=20
 ·exact Or.inr (Or.inl h2)
 by_cases h3:K=21
 ·exact Or.inr (Or.inr (Or.inl h3))
 ·exact Or.inr (Or.inr (Or.inr ((tK K n x o h1 h2 h3).1 h).1))
end Go.Proofs.YtghkbhggopiajaaGreatDoor
