/- Where an order stands. -/
import Derived.Test.YtghkbhggopiajaaGreatDoorDelOr
namespace Go.Proofs.YtghkbhggopiajaaGreatDoor
open Go.RowKit
set_option maxRecDepth 8000
def cmp3 (x y:Int):Int:=if x<y then -1 else if y<x then 1 else 0
theorem nanInt (x:Int) (w:World):Calls Tryz.prog 198 #[.int .i64 x] w fun e w'=>e=.returned (.bool false)/\w'=w:=by
 have e0:(x != x)=false:=by simp
 go_enter Tryz.func198,Tryz.ntmps198
 go_wp2
 go_ret
 exact ⟨rfl,rfl⟩
theorem cmpInt (x y:Int) (w:World):Calls Tryz.prog 174 #[.int .i64 x,.int .i64 y] w fun e w'=>e=.returned (.int .i64 (cmp3 x y))/\w'=w:=by
 have NN:Hid (∀x w,Calls Tryz.prog 198 #[.int .i64 x] w fun e w'=>e=.returned (.bool false)/\w'=w):=nanInt
 by_cases h1:x<y
 ·have E:Hid (cmp3 x y= -1):=by show cmp3 x y= -1;simp[cmp3,h1]
  go_enter Tryz.func174,Tryz.ntmps174
  go_wp2_with (go_at_call 198;refine (NN.out _ _).mono ?_;rintro e wz ⟨rfl,hwz⟩;subst wz)
  go_ret
  rw[E.out];exact ⟨rfl,rfl⟩
 ·by_cases h2:y<x
  ·have E:Hid (cmp3 x y=1):=by show cmp3 x y=1;simp[cmp3,h1,h2]
   go_enter Tryz.func174,Tryz.ntmps174
   go_wp2_with (go_at_call 198;refine (NN.out _ _).mono ?_;rintro e wz ⟨rfl,hwz⟩;subst wz)
   go_ret
   rw[E.out];exact ⟨rfl,rfl⟩
  ·have E:Hid (cmp3 x y=0):=by show cmp3 x y=0;simp[cmp3,h1,h2]
   go_enter Tryz.func174,Tryz.ntmps174
   go_wp2_with (go_at_call 198;refine (NN.out _ _).mono ?_;rintro e wz ⟨rfl,hwz⟩;subst wz)
   go_ret
   rw[E.out];exact ⟨rfl,rfl⟩
theorem cmpOrd (o:Ord) (n:Int) (w:World):Calls Tryz.prog 173 #[.agg #[.int .i64 o.id,.int .i64 o.src,.int .i64 o.dst,.int .i64 o.amount,.int .i64 o.first,.int .i64 o.every,.int .i64 o.times],.int .i64 n] w fun e w'=>e=.returned (.int .i64 (cmp3 o.id n))/\Below w.heap.size w w':=by
 have CC:Hid (∀w,Calls Tryz.prog 174 #[.int .i64 o.id,.int .i64 n] w fun e w'=>e=.returned (.int .i64 (cmp3 o.id n))/\w'=w):=fun w=>cmpInt o.id n w
 generalize cmp3 o.id n=c at*
 go_enter Tryz.func173,Tryz.ntmps173
 go_wp2_with (go_at_call 174;refine (CC.out _).mono ?_;rintro e wz ⟨rfl,hwz⟩;subst wz)
 go_ret
 exact ⟨rfl,(Below.refl _ _).alloc (Nat.le_refl _) _⟩
open Go.RowKit
set_option maxRecDepth 8000
def Halves (P:List Ord) (n:Int) (i j:Nat):Prop:=(∀t,t<i->(OrdF P t).id<n)/\(∀t,j<=t->t<P.length->n<=(OrdF P t).id)
set_option maxHeartbeats 4000000 in
theorem binSearch (a:Option Addr) (c:Nat) (P:List Ord) (n:Int) (w:World) (h:Ords w a P.length (OrdF P)) (hs:∀s t,s<t->t<P.length->(OrdF P s).id<(OrdF P t).id):
  Calls Tryz.prog 172 #[.slice a P.length c,.int .i64 n,.func (.func 173) #[] #[]] w fun e w'=>∃r:Nat,r<=P.length/\Halves P n r r/\e=.returned (.tuple #[.int .i64 r,.bool (decide (r<P.length/\(OrdF P r).id=n))])/\Below w.heap.size w w':=by
 have H:=hidOf h
 have HS:=hidOf hs
 have hn:=h.1
 have ent:∀args w,(callFunc 173 args).run Tryz.prog w=.ok (.enter 173 args) w:=enters_of Tryz.func173 (by kernel_rfl) rfl
 clear h hs
 go_enter Tryz.func172,Tryz.ntmps172
 go_wp2
 go_loopw[9,10] (fun vi vj wr=>∃i j:Nat,i<=j/\j<=P.length/\vi=.int .i64 i/\vj=.int .i64 j/\Hid (Halves P n i j)/\Hid (Below w.heap.size w wr)) (fun vi vj _=>(ctr vj).toNat-(ctr vi).toNat)
 case atStart=>exact ⟨0,P.length,Nat.zero_le _,Nat.le_refl _,rfl,rfl,⟨fun t ht=>absurd ht (Nat.not_lt_zero _),fun t h1 h2=>by omega⟩,Below.refl _ _⟩
 case round=>
  obtain ⟨i,j,hij,hj,rfl,rfl,hH,hB⟩:=hrel
  by_cases hlt:i<j
  ·obtain ⟨m,hm⟩:∃m:Nat,m=(i+j) / 2:=⟨_,rfl⟩
   have hmj:m<j:=by omega
   have him:i<=m:=by omega
   go_upto_region 5 with fail
   have hmi:((i:Int)+(j:Int)) / 2=(m:Int):=by omega
   rw[hmi]
   have hmP:m<P.length:=by omega
   obtain ⟨b,q,rfl,hb,hA⟩:=(H.out.below hB.out).acc hmP
   obtain ⟨c0,c1,c2,c3,c4,c5,c6⟩:=hA
   have CO:Hid (∀W,Calls Tryz.prog 173 #[.agg #[.int .i64 (OrdF P m).id,.int .i64 (OrdF P m).src,.int .i64 (OrdF P m).dst,.int .i64 (OrdF P m).amount,.int .i64 (OrdF P m).first,.int .i64 (OrdF P m).every,.int .i64 (OrdF P m).times],.int .i64 n] W fun e w'=>e=.returned (.int .i64 (cmp3 (OrdF P m).id n))/\Below W.heap.size W w'):=fun W=>cmpOrd (OrdF P m) n W
   by_cases hc:(OrdF P m).id<n
   ·have HN:Hid (Halves P n (m+1) j):=⟨fun t ht=>by
     by_cases e:t=m
     ·subst e;exact hc
     ·have:=HS.out t m (by omega) hmP;omega,hH.out.2⟩
    have E:Hid (cmp3 (OrdF P m).id n= -1):=by show cmp3 (OrdF P m).id n= -1;simp[cmp3,hc]
    rw[E.out] at CO
    clear hc hm hmi
    go_wp2_with fail
    refine (CO.out _).mono ?_
    rintro e w1 ⟨rfl,B1⟩
    have B1':=hidOf (hB.out.trans (B1.mono hB.out.size))
    clear B1
    go_wp2
    go_roundw
    case rel=>exact ⟨m+1,j,by omega,hj,by go_num,rfl,HN,B1'⟩
    case measure=>simp[ctr];omega
   ·have HN:Hid (Halves P n i m):=⟨hH.out.1,fun t h1 h2=>by
     by_cases e:t=m
     ·subst e;omega
     ·have:=HS.out m t (by omega) h2;omega⟩
    obtain ⟨z,hz⟩:∃z,z=cmp3 (OrdF P m).id n:=⟨_,rfl⟩
    have hz0:0<=z:=by rw[hz];unfold cmp3;rw[if_neg hc];split <;>omega
    have hzb:decide (z<0)=false:=by simp;omega
    rw[←hz] at CO
    clear hc hm hmi hz
    go_wp2_with fail
    refine (CO.out _).mono ?_
    rintro e w1 ⟨rfl,B1⟩
    have B1':=hidOf (hB.out.trans (B1.mono hB.out.size))
    clear B1
    go_wp2
    go_roundw
    case rel=>exact ⟨i,m,him,by omega,rfl,by go_num,HN,B1'⟩
    case measure=>simp[ctr];omega
  ·obtain rfl:i=j:=by omega
   by_cases hi:i<P.length
   ·obtain ⟨b,q,rfl,hb,hA⟩:=(H.out.below hB.out).acc hi
    obtain ⟨c0,c1,c2,c3,c4,c5,c6⟩:=hA
    have CO:Hid (∀W,Calls Tryz.prog 173 #[.agg #[.int .i64 (OrdF P i).id,.int .i64 (OrdF P i).src,.int .i64 (OrdF P i).dst,.int .i64 (OrdF P i).amount,.int .i64 (OrdF P i).first,.int .i64 (OrdF P i).every,.int .i64 (OrdF P i).times],.int .i64 n] W fun e w'=>e=.returned (.int .i64 (cmp3 (OrdF P i).id n))/\Below W.heap.size W w'):=fun W=>cmpOrd (OrdF P i) n W
    have hge:n<=(OrdF P i).id:=hH.out.2 i (Nat.le_refl _) hi
    by_cases hc:(OrdF P i).id=n
    ·have E:Hid (cmp3 (OrdF P i).id n=0):=by show cmp3 (OrdF P i).id n=0;simp[cmp3,hc]
     have ED:Hid (decide (i<P.length/\(OrdF P i).id=n)=true):=by show decide _=true;simp[hi,hc]
     rw[E.out] at CO
     clear hc hge
     go_wp2_with fail
     refine (CO.out _).mono ?_
     rintro e w1 ⟨rfl,B1⟩
     have B1':=hidOf (hB.out.trans (B1.mono hB.out.size))
     clear B1
     go_wp2
     go_ret2
     exact ⟨i,hj,hH.out,by rw[ED.out];rfl,B1'.out⟩
    ·have E:Hid (cmp3 (OrdF P i).id n=1):=by show cmp3 (OrdF P i).id n=1;unfold cmp3;rw[if_neg (by omega),if_pos (by omega)]
     have ED:Hid (decide (i<P.length/\(OrdF P i).id=n)=false):=by show decide _=false;simp[hc]
     rw[E.out] at CO
     clear hc hge
     go_wp2_with fail
     refine (CO.out _).mono ?_
     rintro e w1 ⟨rfl,B1⟩
     have B1':=hidOf (hB.out.trans (B1.mono hB.out.size))
     clear B1
     go_wp2
     go_ret2
     exact ⟨i,hj,hH.out,by rw[ED.out];rfl,B1'.out⟩
   ·have ED:Hid (decide (i<P.length/\(OrdF P i).id=n)=false):=by show decide _=false;simp[hi]
    go_wp2
    go_ret2
    exact ⟨i,hj,hH.out,by rw[ED.out];rfl,hB.out⟩
open Go.RowKit
set_option maxRecDepth 8000
theorem rightO_rise {P:List Ord} (h:RightO (OrdF P) P.length):∀s t,s<t->t<P.length->(OrdF P s).id<(OrdF P t).id:=by
 intro s t hst ht
 induction t with
 | zero=>omega
 | succ t ih=>
  have h1:=h.2.2 (t+1) (by omega) ht
  rw[Nat.add_sub_cancel] at h1
  rcases Nat.lt_or_eq_of_le (Nat.le_of_lt_succ hst) with hlt|rfl
  ·have:=ih hlt (by omega)
   omega
  ·exact h1
theorem halves_one {P:List Ord} {n:Int} {r s:Nat} (hr:r<=P.length) (hs:s<=P.length) (h1:Halves P n r r) (h2:Halves P n s s):r=s:=by
 rcases Nat.lt_trichotomy r s with h|h|h
 ·have a:=h2.1 r h
  have b:=h1.2 r (Nat.le_refl _) (by omega)
  omega
 ·exact h
 ·have a:=h1.1 s h
  have b:=h2.2 s (Nat.le_refl _) (by omega)
  omega
open Classical in
noncomputable def plc (P:List Ord) (n:Int):Nat:=if h:∃r,r<=P.length/\Halves P n r r then h.choose else 0
theorem plc_eq {P:List Ord} {n:Int} {r:Nat} (hr:r<=P.length) (h:Halves P n r r):plc P n=r:=by
 have hx:∃r,r<=P.length/\Halves P n r r:=⟨r,hr,h⟩
 unfold plc
 rw[dif_pos hx]
 exact halves_one hx.choose_spec.1 hr hx.choose_spec.2 h
def thereO (P:List Ord) (n:Int):Prop:=∃t,t<P.length/\(OrdF P t).id=n
theorem there_iff {P:List Ord} {n:Int} {r:Nat} (hR:RightO (OrdF P) P.length) (h:Halves P n r r):(r<P.length/\(OrdF P r).id=n)↔thereO P n:=by
 constructor
 ·exact fun h=>⟨r,h⟩
 ·rintro ⟨t,ht,e⟩
  have h1:¬t<r:=fun hh=>by
   have:=h.1 t hh
   omega
  by_cases e2:t=r
  ·subst e2;exact ⟨ht,e⟩
  ·have h2:=h.2 r (Nat.le_refl _) (by omega)
   have:=rightO_rise hR r t (by omega) ht
   omega
theorem there_place {P:List Ord} {n:Int} (hR:RightO (OrdF P) P.length) (ht:thereO P n):∃r,r<P.length/\(OrdF P r).id=n/\plc P n=r/\idxO (isId n) P=(r:Int):=by
 obtain ⟨t,h1,h2⟩:=ht
 have hH:Halves P n t t:=⟨fun s hs=>by have:=rightO_rise hR s t hs h1;omega,fun s h3 h4=>by
  by_cases e:s=t
  ·subst e;omega
  ·have:=rightO_rise hR t s (by omega) h4
   omega⟩
 exact ⟨t,h1,h2,plc_eq (by omega) hH,idxO_hit h1 (by simp[isId,h2]) (fun j hj=>by have:=hH.1 j hj;simp[isId];omega)⟩
theorem idx_none {P:List Ord} {n:Int} (ht:¬thereO P n):idxO (isId n) P= -1:=idxO_miss (fun j hj=>by simp only[isId,beq_eq_false_iff_ne];intro e;exact ht ⟨j,hj,e⟩)
theorem plc_le (P:List Ord) (n:Int):plc P n<=P.length:=by
 unfold plc
 split
 ·rename_i h;exact h.choose_spec.1
 ·omega
noncomputable def newO (O:List Ord) (o:Ord):List Ord:=O.take (plc O o.id)++o::O.drop (plc O o.id)
noncomputable def cutO (O:List Ord) (n:Int):List Ord:=O.take (plc O n)++O.drop (plc O n+1)
theorem newO_len (O:List Ord) (o:Ord):(newO O o).length=O.length+1:=by
 have:=plc_le O o.id
 simp[newO];omega
theorem cutO_len (O:List Ord) (n:Int):(cutO O n).length<=O.length:=by
 have:=plc_le O n
 simp[cutO];omega
structure Rn where
 code:Int
 L:List Acc
 O:List Ord
 k:Bk
def Rn.ok (q:Rn):Prop:=bankOk (FL q.L) q.L.length (OrdF q.O) q.O.length q.k
def opK (k:Bk) (x:OpF):Bk:=⟨k.day,if x.k=5 then k.inn+x.m else k.inn,if x.k=6 then k.out+x.m else k.out,k.posted,k.missed⟩
open Classical in
noncomputable def preS (L:List Acc) (O:List Ord) (k:Bk) (K:Int) (x:OpF) (o:Ord) (n:Int):Rn:=
 if ¬bopOk K x o n then ⟨2,L,O,k⟩
 else if K=19 then ⟨(doneS L x.k x.i x.t x.m x.r).1,(doneS L x.k x.i x.t x.m x.r).2,O,opK k x⟩
 else if K=20 then (if thereO O o.id then ⟨4,L,O,k⟩ else ⟨0,L,newO O o,k⟩)
 else if K=21 then (if thereO O n then ⟨0,L,cutO O n,k⟩ else ⟨3,L,O,k⟩)
 else if endOk L O k then ⟨0,endA L O k,endO O k,endK L O k⟩ else ⟨7,L,O,k⟩
open Classical in
noncomputable def finR (L:List Acc) (O:List Ord) (k:Bk) (q:Rn):Rn:=if q.code=0 then (if q.ok then q else ⟨7,L,O,k⟩) else ⟨q.code,L,O,k⟩
noncomputable def ranS (L:List Acc) (O:List Ord) (k:Bk) (K:Int) (x:OpF) (o:Ord) (n:Int):Rn:=finR L O k (preS L O k K x o n)
open Classical in
noncomputable def ranAny (L:List Acc) (O:List Ord) (k:Bk) (K:Int) (x:OpF) (o:Ord) (n:Int):Rn:=if bankOk (FL L) L.length (OrdF O) O.length k then ranS L O k K x o n else ⟨1,[],[],⟨0,0,0,0,0⟩⟩
def RanOut (q:Rn) (w:World) (e:Ending) (w':World):Prop:=∃v u,e=.returned (.tuple #[.agg #[.int .i64 q.k.day,v,u,.int .i64 q.k.inn,.int .i64 q.k.out,.int .i64 q.k.posted,.int .i64 q.k.missed],.int .i64 q.code])/\AL w' w.heap.size v q.L/\OrdL w' w.heap.size u q.O/\Below w.heap.size w w'
theorem pre_form {L:List Acc} {O:List Ord} {k:Bk} {K:Int} {x:OpF} {o:Ord} {n:Int} (h:¬bopOk K x o n):preS L O k K x o n=⟨2,L,O,k⟩:=by unfold preS;rw[if_pos h]
theorem pre_op {L:List Acc} {O:List Ord} {k:Bk} {x:OpF} {o:Ord} {n:Int} (h:bopOk 19 x o n):preS L O k 19 x o n=⟨(doneS L x.k x.i x.t x.m x.r).1,(doneS L x.k x.i x.t x.m x.r).2,O,opK k x⟩:=by unfold preS;rw[if_neg (fun hh=>hh h),if_pos rfl]
theorem pre_there {L:List Acc} {O:List Ord} {k:Bk} {x:OpF} {o:Ord} {n:Int} (h:bopOk 20 x o n) (ht:thereO O o.id):preS L O k 20 x o n=⟨4,L,O,k⟩:=by unfold preS;rw[if_neg (fun hh=>hh h),if_neg (by decide),if_pos rfl,if_pos ht]
theorem pre_new {L:List Acc} {O:List Ord} {k:Bk} {x:OpF} {o:Ord} {n:Int} (h:bopOk 20 x o n) (ht:¬thereO O o.id):preS L O k 20 x o n=⟨0,L,newO O o,k⟩:=by unfold preS;rw[if_neg (fun hh=>hh h),if_neg (by decide),if_pos rfl,if_neg ht]
theorem pre_cut {L:List Acc} {O:List Ord} {k:Bk} {x:OpF} {o:Ord} {n:Int} (h:bopOk 21 x o n) (ht:thereO O n):preS L O k 21 x o n=⟨0,L,cutO O n,k⟩:=by unfold preS;rw[if_neg (fun hh=>hh h),if_neg (by decide),if_neg (by decide),if_pos rfl,if_pos ht]
theorem pre_none {L:List Acc} {O:List Ord} {k:Bk} {x:OpF} {o:Ord} {n:Int} (h:bopOk 21 x o n) (ht:¬thereO O n):preS L O k 21 x o n=⟨3,L,O,k⟩:=by unfold preS;rw[if_neg (fun hh=>hh h),if_neg (by decide),if_neg (by decide),if_pos rfl,if_neg ht]
theorem pre_day {L:List Acc} {O:List Ord} {k:Bk} {x:OpF} {o:Ord} {n:Int} (h:bopOk 22 x o n) (ht:endOk L O k):preS L O k 22 x o n=⟨0,endA L O k,endO O k,endK L O k⟩:=by unfold preS;rw[if_neg (fun hh=>hh h),if_neg (by decide),if_neg (by decide),if_neg (by decide),if_pos ht]
theorem pre_full {L:List Acc} {O:List Ord} {k:Bk} {x:OpF} {o:Ord} {n:Int} (h:bopOk 22 x o n) (ht:¬endOk L O k):preS L O k 22 x o n=⟨7,L,O,k⟩:=by unfold preS;rw[if_neg (fun hh=>hh h),if_neg (by decide),if_neg (by decide),if_neg (by decide),if_neg ht]
theorem fin_no {L:List Acc} {O:List Ord} {k:Bk} {q:Rn} (h:q.code≠0):finR L O k q=⟨q.code,L,O,k⟩:=by unfold finR;rw[if_neg h]
theorem fin_yes {L:List Acc} {O:List Ord} {k:Bk} {q:Rn} (h:q.code=0) (hq:q.ok):finR L O k q=q:=by unfold finR;rw[if_pos h,if_pos hq]
theorem fin_full {L:List Acc} {O:List Ord} {k:Bk} {q:Rn} (h:q.code=0) (hq:¬q.ok):finR L O k q=⟨7,L,O,k⟩:=by unfold finR;rw[if_pos h,if_neg hq]
theorem bop_kind {K n:Int} {x:OpF} {o:Ord} (h:bopOk K x o n):K=19\/K=20\/K=21\/K=22:=by
 by_cases h1:K=19
 ·exact Or.inl h1
 by_cases h2:K=20
 ·exact Or.inr (Or.inl h2)
 by_cases h3:K=21
 ·exact Or.inr (Or.inr (Or.inl h3))
 ·exact Or.inr (Or.inr (Or.inr ((b22 K n x o h1 h2 h3).1 h).1))
end Go.Proofs.YtghkbhggopiajaaGreatDoor
