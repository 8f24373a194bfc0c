/- RanAll. -/
import Derived.Test.YtjhgchlfpolkcaaGreatDoorBosx
import Derived.Test.YtjhgchlfpolkcaaGreatDoorProg
import Derived.Deep.RegionLaw
import Derived.Shelf.Spec.SlicesInsert
import Derived.Lib.AppendZerosOnto
import Derived.Laws.NewBlocks
import Derived.Test.YtjhgchlfpolkcaaGreatDoorStvx
import Derived.Deep.RegionHeld3
import Derived.Deep.AppendLies
namespace Go.Proofs.YtjhgchlfpolkcaaGreatDoor
section
open Go.RowKit
set_option maxRecDepth 8000
def jp (n:Int) (o:am):Bool:=o.id == n
set_option maxHeartbeats 2000000 in
theorem f0 (a:Option Addr) (c:Nat) (P:List am) (n:Int) (w:World) (h:aJ w a P.length (ai P)):
  Calls Tryz.prog 106 #[.slice a P.length c,.int .i64 n] w fun e w'=>e=.returned (.int .i64 (kW (jp n) P))/\Below w.heap.size w w':=by
 have H:Hid (aJ w a P.length (ai P)):=h
 have hn:=h.1
 clear h
 go_enter Tryz.func106,Tryz.ntmps106
 go_wp2
 go_loopw[5] (fun i wr=>∃k:Nat,k<=P.length/\i=.int .i64 k/\Hid (∀j,j<k->jp n (ai P j)=false)/\Hid (Below w.heap.size w wr)) (fun i _=>P.length-(jH i).toNat)
 case atStart=>exact ⟨0,Nat.zero_le _,rfl,fun j hj=>absurd hj (Nat.not_lt_zero _),Below.refl _ _⟩
 case round=>
  obtain ⟨k,hk,rfl,hno,hB⟩:=hrel
  by_cases hlt:k<P.length
  ·obtain ⟨b,q,rfl,hb,hA⟩:=(H.out.below hB.out).acc hlt
   obtain ⟨c0,c1,c2,c3,c4,c5,c6⟩:=hA
   cases hpr:jp n (ai P k) with
   | true=>
    have E:Hid (kW (jp n) P=(k:Int)):=lV hlt hpr hno.out
    have e0:((ai P k).id == n)=true:=hpr
    clear hpr
    generalize ai P k=o at*
    go_wp2
    go_ret
    rw[E.out]
    exact ⟨rfl,hB.out⟩
   | false=>
    have HN:Hid (∀j,j<k+1->jp n (ai P j)=false):=fun j hj=>by
     by_cases e:j=k
     ·subst e;exact hpr
     ·exact hno.out j (by omega)
    have e0:((ai P k).id == n)=false:=hpr
    clear hpr
    go_wp2
    go_roundw
    case rel=>exact ⟨k+1,by omega,by go_num,HN,hB⟩
    case measure=>simp[jH];omega
  ·have hkn:k=P.length:=by omega
   have E:Hid (kW (jp n) P= -1):=kg (fun j hj=>hno.out j (by omega))
   go_wp2
   go_ret
   rw[E.out]
   exact ⟨rfl,hB.out⟩
end
section
open Go.RowKit
set_option maxRecDepth 8000
theorem ag.cap {w:World} {B g c:Nat} {L:List am} (h:ag w B (.slice (some ⟨g,0,none⟩) L.length c) L):L.length<=c/\c<=maxLen:=by
 rcases h.2 with ⟨hv,_⟩|⟨g',c',cur,hv,_,_,h1,h2,_⟩
 ·cases hv
 ·have:c=c':=(Value.slice.inj hv).2.2
  subst this
  exact ⟨h1,h2⟩
theorem jc (L:List am) (p:Nat) (hp:p<=L.length):(L.flatMap au).take (p*7)=(L.take p).flatMap au:=by
 have e:L.flatMap au=(L.take p).flatMap au++(L.drop p).flatMap au:=by rw[←List.flatMap_append,List.take_append_drop]
 have hl:((L.take p).flatMap au).length=p*7:=by rw[bq];simp;omega
 rw[e,List.take_append_of_le_length (by omega),List.take_of_length_le (by omega)]
end
section
open Go.RowKit
set_option maxRecDepth 8000
theorem ag.len {w:World} {B:Nat} {v:Value} {L:List am} (h:ag w B v L):∃a c,v=.slice a L.length c:=by
 obtain ⟨a,c,hv,_⟩:=h.shape
 exact ⟨a,c,hv⟩
theorem ag.own {w:World} {B:Nat} {v:Value} {L:List am} (h:ag w B v L) (hv:v≠ .slice none 0 0):∃g c,v=.slice (some ⟨g,0,none⟩) L.length c:=by
 rcases h.2 with ⟨e,_⟩|⟨g,c,_,e,_⟩
 ·exact absurd e hv
 ·exact ⟨g,c,e⟩
theorem ld (x:am):∀v ∈ au x,v.oneCell'=true:=by
 intro u hx
 simp only[au,List.mem_cons,List.not_mem_nil,or_false] at hx
 rcases hx with e|e|e|e|e|e|e <;>subst e <;>rfl
def kM (w:World) (vb:Nat) (x:am):Prop:=w.heap[vb]? =some (.cells (au x).toArray 35 (0,0))
theorem kM.cell {w:World} {vb:Nat} {x:am} (h:kM w vb x) (j:Nat) (v:Value) (hj:(au x)[j]? =some v):w.cell? ((⟨vb,0,none⟩:Addr).add j)=some v:=by
 rw[Addr.add_lit,Nat.zero_add]
 unfold kM at h
 simp only[World.cell?,h]
 simp[hj]
end
section
open Go.RowKit
set_option maxRecDepth 8000
def fu (P:List am) (n:Int) (i j:Nat):Prop:=(∀t,t<i->(ai P t).id<n)/\(∀t,j<=t->t<P.length->n<=(ai P t).id)
end
section
open Go.RowKit
set_option maxRecDepth 8000
theorem fJ {P:List am} (h:cf (ai P) P.length):∀s t,s<t->t<P.length->(ai P s).id<(ai P t).id:=by
 intro s t hst ht
 induction t with
 | zero=>omega
 | succ t ih=>
  have h1:=h.2.2 (t+1) (by omega) ht
  rw[Nat.add_sub_cancel] at h1
  rcases Nat.lt_or_eq_of_le (Nat.le_of_lt_succ hst) with hlt|rfl
  ·have:=ih hlt (by omega)
   omega
  ·exact h1
theorem nv {P:List am} {n:Int} {r s:Nat} (hr:r<=P.length) (hs:s<=P.length) (h1:fu P n r r) (h2:fu P n s s):r=s:=by
 rcases Nat.lt_trichotomy r s with h|h|h
 ·have a:=h2.1 r h
  have b:=h1.2 r (Nat.le_refl _) (by omega)
  omega
 ·exact h
 ·have a:=h1.1 s h
  have b:=h2.2 s (Nat.le_refl _) (by omega)
  omega
open Classical in
noncomputable def sn (P:List am) (n:Int):Nat:=if h:∃r,r<=P.length/\fu P n r r then h.choose else 0
theorem nQ {P:List am} {n:Int} {r:Nat} (hr:r<=P.length) (h:fu P n r r):sn P n=r:=by
 have hx:∃r,r<=P.length/\fu P n r r:=⟨r,hr,h⟩
 unfold sn
 rw[dif_pos hx]
 exact nv hx.choose_spec.1 hr hx.choose_spec.2 h
def dy (P:List am) (n:Int):Prop:=∃t,t<P.length/\(ai P t).id=n
theorem iw {P:List am} {n:Int} (hR:cf (ai P) P.length) (ht:dy P n):∃r,r<P.length/\(ai P r).id=n/\sn P n=r/\kW (jp n) P=(r:Int):=by
 obtain ⟨t,h1,h2⟩:=ht
 have hH:fu P n t t:=⟨fun s hs=>by have:=fJ hR s t hs h1;omega,fun s h3 h4=>by
  by_cases e:s=t
  ·subst e;omega
  ·have:=fJ hR t s (by omega) h4
   omega⟩
 exact ⟨t,h1,h2,nQ (by omega) hH,lV h1 (by simp[jp,h2]) (fun j hj=>by have:=hH.1 j hj;simp[jp];omega)⟩
theorem je {P:List am} {n:Int} (ht:¬dy P n):kW (jp n) P= -1:=kg (fun j hj=>by simp only[jp,beq_eq_false_iff_ne];intro e;exact ht ⟨j,hj,e⟩)
theorem qY (P:List am) (n:Int):sn P n<=P.length:=by
 unfold sn
 split
 ·rename_i h;exact h.choose_spec.1
 ·omega
noncomputable def bg (O:List am) (o:am):List am:=O.take (sn O o.id)++o::O.drop (sn O o.id)
noncomputable def dp (O:List am) (n:Int):List am:=O.take (sn O n)++O.drop (sn O n+1)
theorem qK (O:List am) (o:am):(bg O o).length=O.length+1:=by
 have:=qY O o.id
 simp[bg];omega
theorem qg (O:List am) (n:Int):(dp O n).length<=O.length:=by
 have:=qY O n
 simp[dp];omega
structure Rn where
 code:Int
 L:List al
 O:List am
 k:Bk
def Rn.ok (q:Rn):Prop:=aj (FL q.L) q.L.length (ai q.O) q.O.length q.k
def el (k:Bk) (x:bB):Bk:=⟨k.day,if x.k=5 then k.inn+x.m else k.inn,if x.k=6 then k.out+x.m else k.out,k.posted,k.missed⟩
open Classical in
noncomputable def fH (L:List al) (O:List am) (k:Bk) (K:Int) (x:bB) (o:am) (n:Int):Rn:=
 if ¬aA K x o n then ⟨2,L,O,k⟩
 else if K=19 then ⟨(ao L x.k x.i x.t x.m x.r).1,(ao L x.k x.i x.t x.m x.r).2,O,el k x⟩
 else if K=20 then (if dy O o.id then ⟨4,L,O,k⟩ else ⟨0,L,bg O o,k⟩)
 else if K=21 then (if dy O n then ⟨0,L,dp O n,k⟩ else ⟨3,L,O,k⟩)
 else if fy L O k then ⟨0,eM L O k,eJ O k,dq L O k⟩ else ⟨7,L,O,k⟩
open Classical in
noncomputable def cM (L:List al) (O:List am) (k:Bk) (q:Rn):Rn:=if q.code=0 then (if q.ok then q else ⟨7,L,O,k⟩) else ⟨q.code,L,O,k⟩
noncomputable def gq (L:List al) (O:List am) (k:Bk) (K:Int) (x:bB) (o:am) (n:Int):Rn:=cM L O k (fH L O k K x o n)
open Classical in
noncomputable def jt (L:List al) (O:List am) (k:Bk) (K:Int) (x:bB) (o:am) (n:Int):Rn:=if aj (FL L) L.length (ai O) O.length k then gq L O k K x o n else ⟨1,[],[],⟨0,0,0,0,0⟩⟩
def cY (q:Rn) (w:World) (e:Ending) (w':World):Prop:=∃v u,e=.returned (.tuple #[.agg #[.int .i64 q.k.day,v,u,.int .i64 q.k.inn,.int .i64 q.k.out,.int .i64 q.k.posted,.int .i64 q.k.missed],.int .i64 q.code])/\AL w' w.heap.size v q.L/\ag w' w.heap.size u q.O/\Below w.heap.size w w'
theorem ra {L:List al} {O:List am} {k:Bk} {K:Int} {x:bB} {o:am} {n:Int} (h:¬aA K x o n):fH L O k K x o n=⟨2,L,O,k⟩:=by unfold fH;rw[if_pos h]
theorem tI {L:List al} {O:List am} {k:Bk} {x:bB} {o:am} {n:Int} (h:aA 19 x o n):fH L O k 19 x o n=⟨(ao L x.k x.i x.t x.m x.r).1,(ao L x.k x.i x.t x.m x.r).2,O,el k x⟩:=by unfold fH;rw[if_neg (fun hh=>hh h),if_pos rfl]
theorem pw {L:List al} {O:List am} {k:Bk} {x:bB} {o:am} {n:Int} (h:aA 20 x o n) (ht:dy O o.id):fH L O k 20 x o n=⟨4,L,O,k⟩:=by unfold fH;rw[if_neg (fun hh=>hh h),if_neg (by decide),if_pos rfl,if_pos ht]
theorem sr {L:List al} {O:List am} {k:Bk} {x:bB} {o:am} {n:Int} (h:aA 20 x o n) (ht:¬dy O o.id):fH L O k 20 x o n=⟨0,L,bg O o,k⟩:=by unfold fH;rw[if_neg (fun hh=>hh h),if_neg (by decide),if_pos rfl,if_neg ht]
theorem so {L:List al} {O:List am} {k:Bk} {x:bB} {o:am} {n:Int} (h:aA 21 x o n) (ht:dy O n):fH L O k 21 x o n=⟨0,L,dp O n,k⟩:=by unfold fH;rw[if_neg (fun hh=>hh h),if_neg (by decide),if_neg (by decide),if_pos rfl,if_pos ht]
theorem rd {L:List al} {O:List am} {k:Bk} {x:bB} {o:am} {n:Int} (h:aA 21 x o n) (ht:¬dy O n):fH L O k 21 x o n=⟨3,L,O,k⟩:=by unfold fH;rw[if_neg (fun hh=>hh h),if_neg (by decide),if_neg (by decide),if_pos rfl,if_neg ht]
theorem sq {L:List al} {O:List am} {k:Bk} {x:bB} {o:am} {n:Int} (h:aA 22 x o n) (ht:fy L O k):fH L O k 22 x o n=⟨0,eM L O k,eJ O k,dq L O k⟩:=by unfold fH;rw[if_neg (fun hh=>hh h),if_neg (by decide),if_neg (by decide),if_neg (by decide),if_pos ht]
theorem rc {L:List al} {O:List am} {k:Bk} {x:bB} {o:am} {n:Int} (h:aA 22 x o n) (ht:¬fy L O k):fH L O k 22 x o n=⟨7,L,O,k⟩:=by unfold fH;rw[if_neg (fun hh=>hh h),if_neg (by decide),if_neg (by decide),if_neg (by decide),if_neg ht]
theorem gc {L:List al} {O:List am} {k:Bk} {q:Rn} (h:q.code≠0):cM L O k q=⟨q.code,L,O,k⟩:=by unfold cM;rw[if_neg h]
theorem eF {L:List al} {O:List am} {k:Bk} {q:Rn} (h:q.code=0) (hq:q.ok):cM L O k q=q:=by unfold cM;rw[if_pos h,if_pos hq]
theorem dR {L:List al} {O:List am} {k:Bk} {q:Rn} (h:q.code=0) (hq:¬q.ok):cM L O k q=⟨7,L,O,k⟩:=by unfold cM;rw[if_pos h,if_neg hq]
theorem pZ {K n:Int} {x:bB} {o:am} (h:aA K x o n):K=19\/K=20\/K=21\/K=22:=by
 by_cases h1:K=19
 ·exact Or.inl h1
 by_cases h2:K=20
 ·exact Or.inr (Or.inl h2)
 by_cases h3:K=21
 ·exact Or.inr (Or.inr (Or.inl h3))
 ·exact Or.inr (Or.inr (Or.inr ((tO K n x o h1 h2 h3).1 h).1))
end
section
open Go.RowKit
set_option maxRecDepth 8000
theorem gU (L:List al) (k i t m r:Int):(ao L k i t m r).2.length<=L.length+1:=by
 have:=eU L k i t m r
 unfold ao bV
 split
 ·split
  ·split
   ·exact this
   ·simp
  ·simp
 ·simp
theorem AL.off {w:World} {B:Nat} {v:Value} {L:List al} (h:AL w B v L) {Q:Nat} (hQ:∀q,v.ownBlock=some q->q≠Q) (o:Nat) (u:Value):AL (w.setCell ⟨Q,o,none⟩ u) B v L:=oL h hQ o u
end
section
open Value renaming int → Ii,slice → Sl
open IntKind renaming i64 → Jj
open Go.RowKit
set_option maxRecDepth 8000
set_option linter.unusedVariables false
theorem hJ {k i t m r:Int} (h:ax k i t m r): -1<=m/\m<=1000000000000:=by
 obtain ⟨_,h⟩:=h
 rcases h with h|h|h|h|h|h|h <;>omega
theorem d8 {K n:Int} {x:bB} {o:am} (hok:aA K x o n) (W:World):Calls Tryz.prog 45 #[.agg #[Ii Jj K,Ii Jj x.k,Ii Jj x.i,Ii Jj x.t,Ii Jj x.m,Ii Jj x.r,Ii Jj o.id,Ii Jj o.src,Ii Jj o.dst,Ii Jj o.amount,Ii Jj o.first,Ii Jj o.every,Ii Jj o.times,Ii Jj n]] W fun e w'=>e=.returned (.bool true)/\Below W.heap.size W w':=(bG K n x o W).mono (by
 rintro e w' ⟨⟨bb,rfl,h1,h2⟩,hB⟩
 cases bb with
 | true=>exact ⟨rfl,hB⟩
 | false=>exact absurd hok (h2 rfl))
theorem rU {K n:Int} {x:bB} {o:am} (hok:¬aA K x o n) (W:World):Calls Tryz.prog 45 #[.agg #[Ii Jj K,Ii Jj x.k,Ii Jj x.i,Ii Jj x.t,Ii Jj x.m,Ii Jj x.r,Ii Jj o.id,Ii Jj o.src,Ii Jj o.dst,Ii Jj o.amount,Ii Jj o.first,Ii Jj o.every,Ii Jj o.times,Ii Jj n]] W fun e w'=>e=.returned (.bool false)/\Below W.heap.size W w':=(bG K n x o W).mono (by
 rintro e w' ⟨⟨bb,rfl,h1,h2⟩,hB⟩
 cases bb with
 | false=>exact ⟨rfl,hB⟩
 | true=>exact absurd (h1 rfl) hok)
end
section
open Value renaming int → Ii,slice → Sl
open IntKind renaming i64 → Jj
open Nat renaming le_refl → Nf
open Go.RowKit
set_option maxRecDepth 8000
set_option linter.unusedVariables false
theorem cn (a b:Option Addr) (c d:Nat) (L:List al) (O:List am) (k:Bk) (K n:Int) (x:bB) (o:am) (w:World):∃W0,W0=((w.alloc (.cells #[Ii Jj k.day,Sl a L.length c,Sl b O.length d,Ii Jj k.inn,Ii Jj k.out,Ii Jj k.posted,Ii Jj k.missed] 27)).alloc (.cells #[Ii Jj K,Ii Jj x.k,Ii Jj x.i,Ii Jj x.t,Ii Jj x.m,Ii Jj x.r,Ii Jj o.id,Ii Jj o.src,Ii Jj o.dst,Ii Jj o.amount,Ii Jj o.first,Ii Jj o.every,Ii Jj o.times,Ii Jj n] 37)).alloc (.cells #[Ii Jj 0,Sl none 0 0,Sl none 0 0,Ii Jj 0,Ii Jj 0,Ii Jj 0,Ii Jj 0] 27)/\W0.heap.size=w.heap.size+1+1+1/\Below w.heap.size w W0/\af W0 w.heap.size (Ii Jj k.day) (Sl a L.length c) (Sl b O.length d) (Ii Jj (k.inn)) (Ii Jj (k.out)) (Ii Jj k.posted) (Ii Jj k.missed)/\aG W0 (w.heap.size+1) K x o n/\af W0 (w.heap.size+1+1) (Ii Jj 0) (Sl none 0 0) (Sl none 0 0) (Ii Jj 0) (Ii Jj 0) (Ii Jj 0) (Ii Jj 0):=by
 refine ⟨_,rfl,by simp,(((Below.refl _ _).alloc (Nf _) _).alloc (by simp) _).alloc (by simp;omega) _,((af.new w _ _ _ _ _ _ _ 27).kept ((Below.refl _ _).alloc (Nf _) _) (by simp)).kept ((Below.refl _ _).alloc (Nf _) _) (by simp;omega),?_,?_⟩
 ·have:=aG.new (w.alloc (.cells #[Ii Jj k.day,Sl a L.length c,Sl b O.length d,Ii Jj k.inn,Ii Jj k.out,Ii Jj k.posted,Ii Jj k.missed] 27)) K x o n 37
  rw[World.size_alloc] at this
  exact this.kept ((Below.refl _ _).alloc (Nf _) _) (by simp)
 ·have:=af.new ((w.alloc (.cells #[Ii Jj k.day,Sl a L.length c,Sl b O.length d,Ii Jj k.inn,Ii Jj k.out,Ii Jj k.posted,Ii Jj k.missed] 27)).alloc (.cells #[Ii Jj K,Ii Jj x.k,Ii Jj x.i,Ii Jj x.t,Ii Jj x.m,Ii Jj x.r,Ii Jj o.id,Ii Jj o.src,Ii Jj o.dst,Ii Jj o.amount,Ii Jj o.first,Ii Jj o.every,Ii Jj o.times,Ii Jj n] 37)) (Ii Jj 0) (Sl none 0 0) (Sl none 0 0) (Ii Jj 0) (Ii Jj 0) (Ii Jj 0) (Ii Jj 0) 27
  simp only[World.size_alloc] at this
  exact this
theorem ss {L:List al} {O:List am} {k:Bk} {K n:Int} {x:bB} {o:am} (h:(gq L O k K x o n).code≠0):gq L O k K x o n=⟨(gq L O k K x o n).code,L,O,k⟩:=by
 unfold gq cM at h ⊢
 split
 ·rename_i h0
  rw[if_pos h0] at h
  split
  ·rename_i h1
   rw[if_pos h1] at h
   exact absurd h0 h
  ·rfl
 ·rfl
theorem st {L:List al} {O:List am} {k:Bk} {K n:Int} {x:bB} {o:am} (h:(gq L O k K x o n).code=0):(gq L O k K x o n).ok:=by
 unfold gq cM at h ⊢
 split
 ·rename_i h0
  rw[if_pos h0] at h
  split
  ·assumption
  ·rename_i h1
   rw[if_neg h1] at h
   simp at h
 ·rename_i h0
  rw[if_neg h0] at h
  exact absurd h h0
theorem px {L:List al} {O:List am} {k:Bk} (K n:Int) (x:bB) (o:am) (hb:aj (FL L) L.length (ai O) O.length k):(gq L O k K x o n).ok:=by
 by_cases h:(gq L O k K x o n).code=0
 ·exact st h
 ·rw[ss h];exact hb
end
section
open Go.RowKit
set_option maxRecDepth 8000
def iD (W:World) (R:Nat) (k:Bk) (v u:Value):World:=((((((W.setCell ⟨R,0,none⟩ (.int .i64 k.day)).setCell ⟨R,1,none⟩ (v)).setCell ⟨R,2,none⟩ (u)).setCell ⟨R,3,none⟩ (.int .i64 k.inn)).setCell ⟨R,4,none⟩ (.int .i64 k.out)).setCell ⟨R,5,none⟩ (.int .i64 k.posted)).setCell ⟨R,6,none⟩ (.int .i64 k.missed)
theorem tu (W:World) (R:Nat) (k:Bk) (v u:Value):W.grownBy (iD W R k v u) (some R):=by
 unfold iD
 exact cj (cj (cj (cj (cj (cj (aS _ _ _ _) (aS _ _ _ _)) (aS _ _ _ _)) (aS _ _ _ _)) (aS _ _ _ _)) (aS _ _ _ _)) (aS _ _ _ _)
theorem mv {w w':World} {B1 e1 s1 n1 R:Nat} {v1:Value} {x1:List Value} (h1:w.ownsRow B1 e1 s1 v1 n1 x1) (hg:w.grownBy w' (some R)) (hR:∀q,v1.ownBlock=some q->q≠R):w'.ownsRow B1 e1 s1 v1 n1 x1:=World.ownsRow.kept h1 hg (Or.inr (fun e=>hR R e rfl))
theorem ag.room {w:World} {B m d:Nat} {b:Option Addr} {O:List am} (h:ag w B (.slice b m d) O):O.length<=d/\((b=none/\d=0)\/∃pb po,b=some ⟨pb,po,none⟩):=by
 rcases h.2 with ⟨e,e2⟩|⟨g,cap,cur,e,_,_,h1,_⟩
 ·obtain ⟨rfl,_,rfl⟩:b=none/\m=0/\d=0:=by simpa using e
  exact ⟨by omega,Or.inl ⟨rfl,rfl⟩⟩
 ·obtain ⟨rfl,_,rfl⟩:b=some ⟨g,0,none⟩/\m=O.length/\d=cap:=by simpa using e
  exact ⟨h1,Or.inr ⟨g,0,rfl⟩⟩
end
end Go.Proofs.YtjhgchlfpolkcaaGreatDoor
