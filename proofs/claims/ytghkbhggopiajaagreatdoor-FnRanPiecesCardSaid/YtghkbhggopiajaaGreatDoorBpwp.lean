/- Own lists of ops. -/
import Derived.Test.YtghkbhggopiajaaGreatDoorDrrp
namespace Go.Proofs.YtghkbhggopiajaaGreatDoor
open Value renaming int → Ii,slice → Sl
open IntKind renaming i64 → Jj
open Nat renaming le_refl → Nf
open Go.RowKit
set_option maxRecDepth 8000
def gG (w:World) (B:Nat) (v:Value) (l:List Bp):Prop:=w.ownsRow B 51 14 v l.length (l.flatMap sa)
theorem pn (l:List Bp):∀(i j:Nat) (hi:i<l.length) (_:j<14),(l.flatMap sa)[i*14+j]? =(sa l[i])[j]? :=by
 induction l with
 | nil=>intro i j hi;simp at hi
 | cons a l ih=>
  intro i j hi hj
  rw[List.flatMap_cons]
  cases i with
  | zero=>
   rw[List.getElem?_append_left (by simp[sa];omega)]
   simp
  | succ i=>
   have hl:(sa a).length=14:=rfl
   rw[List.getElem?_append_right (by rw[hl];omega),hl]
   have e:(i+1)*14+j-14=i*14+j:=by omega
   rw[e,ih i j (by simpa using hi) hj]
   simp
theorem gG.kept {w w':World} {B:Nat} {v:Value} {l:List Bp} (h:gG w B v l) (hb:Below w.heap.size w w'):gG w' B v l:=
 World.ownsRow.kept (row:=none) h ⟨hb.os,hb.tape,hb.output,hb.size,fun k hk _=>hb.block k hk⟩ (by cases hv:v.ownBlock <;>simp)
theorem gG.shape {w:World} {B:Nat} {v:Value} {l:List Bp} (h:gG w B v l):
  ∃a cap,v=Sl a l.length cap/\(∀g,v.ownBlock=some g->B<=g/\g<w.heap.size)/\
   ∀i (hi:i<l.length),∃g,a=some ⟨g,0,none⟩/\B<=g/\g<w.heap.size/\px w g (i*14) l[i]:=by
 have hlt:=World.ownsRow.lt h
 rcases h.2 with ⟨hv,hn⟩|⟨g,cap,cur,hv,hg,r⟩
 ·refine ⟨none,0,by rw[hv,hn],fun g hg=>hlt g hg,fun i hi=>?_⟩
  omega
 ·refine ⟨some ⟨g,0,none⟩,cap,hv,fun g hg=>hlt g hg,fun i hi=>?_⟩
  have ho:v.ownBlock=some g:=by rw[hv];rfl
  have hs:w.ownsRow B 51 14 (Sl (some ⟨g,0,none⟩) l.length cap) l.length (l.flatMap sa):=by rw[←hv];exact h
  have hc:∀j,j<14->w.cell? ⟨g,i*14+j,none⟩=(sa l[i])[j]? :=fun j hj=>by
   rw[World.ownsRow.cellAt hs (i*14+j) (by omega),pn l i j hi hj]
  exact ⟨g,rfl,hg,(hlt g ho).2,hc 0 (by omega),hc 1 (by omega),hc 2 (by omega),hc 3 (by omega),hc 4 (by omega),hc 5 (by omega),hc 6 (by omega),hc 7 (by omega),hc 8 (by omega),hc 9 (by omega),hc 10 (by omega),hc 11 (by omega),hc 12 (by omega),hc 13 (by omega)⟩
theorem gG.mono {w:World} {B B':Nat} {v:Value} {l:List Bp} (h:gG w B v l) (hB:B'<=B):gG w B' v l:=
 ⟨h.1,h.2.elim Or.inl (fun ⟨g,cap,cur,hv,hg,r⟩=>Or.inr ⟨g,cap,cur,hv,Nat.le_trans hB hg,r⟩)⟩
theorem gG.nil (w:World) (B:Nat):gG w B (Sl none 0 0) []:=World.ownsRow_nil w B 51 14
theorem gG.empty (w:World) (B:Nat) (hB:B<=w.heap.size):gG (w.alloc (.cells #[] 51)) B (Sl (some ⟨w.heap.size,0,none⟩) 0 0) []:=World.ownsRow_lit w #[] 0 hB (Nat.zero_le _) (by simp)
theorem gG.list {w:World} {B:Nat} {a:Option Addr} {c m:Nat} {L:List Bp} (h:gG w B (Sl a m c) L) (hl:L.length<=1048576):m=L.length/\dO w a m (eu L):=by
 obtain ⟨a',c',hv,_,hs⟩:=h.shape
 obtain ⟨rfl,rfl,rfl⟩:a=a'/\m=L.length/\c=c':=by simpa using hv
 refine ⟨rfl,hl,?_⟩
 by_cases h0:L.length=0
 ·exact Or.inl h0
 ·obtain ⟨g,ea,_,hg,_⟩:=hs 0 (by omega)
  refine Or.inr ⟨g,0,ea,hg,fun i hi=>?_⟩
  obtain ⟨g',ea',_,_,hA⟩:=hs i hi
  rw[ea] at ea'
  have:g=g':=by simpa using ea'
  subst this
  rw[iw hi]
  simpa using hA
theorem gG.stp {B Bs:Nat} {w w':World} {v:Value} {L:List Bp} (h:gG w Bs v L) (hs:aH B w w') (hB:B<Bs):gG w' Bs v L:=by
 refine World.ownsRow.kept (row:=some B) h ⟨hs.os,hs.tape,hs.output,hs.size,fun k hk hn=>hs.block k hk (fun e=>hn (by rw[e]))⟩ (Or.inr ?_)
 intro e
 have:=(World.ownsRow.lt h B e).1
 omega
theorem gG.own {w:World} {B:Nat} {v:Value} {L:List Bp} (h:gG w B v L) (hv:v≠ Sl none 0 0):∃g c,v=Sl (some ⟨g,0,none⟩) L.length c/\L.length<=c/\c<=maxLen:=by
 rcases h.2 with ⟨e,_⟩|⟨g,cap,cur,e,_,_,h1,h2,_⟩
 ·exact absurd e hv
 ·exact ⟨g,cap,e,h1,h2⟩
theorem dO.take {w:World} {g k:Nat} {O:List Bp} (h:dO w (some ⟨g,0,none⟩) O.length (eu O)) (hk:k<=O.length):dO w (some ⟨g,0,none⟩) k (eu (O.take k)):=by
 refine ⟨by have:=h.1;omega,?_⟩
 rcases h.2 with h0|⟨b,o,ha,hlt,hall⟩
 ·left;omega
 ·refine Or.inr ⟨b,o,ha,hlt,fun i hi=>?_⟩
  have:=hall i (by omega)
  rw[iw (by omega)] at this
  rw[iw (by simp;omega),List.getElem_take]
  exact this
theorem dO.drop {w:World} {g k:Nat} {O:List Bp} (h:dO w (some ⟨g,0,none⟩) O.length (eu O)) (hk:k<=O.length):dO w (some ⟨g,k*14,none⟩) (O.length-k) (eu (O.drop k)):=by
 refine ⟨by have:=h.1;omega,?_⟩
 rcases h.2 with h0|⟨b,o,ha,hlt,hall⟩
 ·left;omega
 ·obtain ⟨rfl,rfl⟩:g=b/\0=o:=by simpa using ha
  refine Or.inr ⟨g,k*14,rfl,hlt,fun i hi=>?_⟩
  have:=hall (k+i) (by omega)
  rw[iw (by omega)] at this
  rw[iw (by simp;omega),List.getElem_drop]
  rw[show k*14+i*14=0+(k+i)*14 by omega]
  exact this
theorem pp {w w':World} {B C:Nat} {v u:Value} {L:List aj} {l:List Bp} (h:AL w B v L) (hl:gG w C u l) (hg:w.grownBy w' u.ownBlock):AL w' B v L:=gb h hl (by decide) hg
theorem pq {w w':World} {B C:Nat} {v u:Value} {L:List au} {l:List Bp} (h:ah w B v L) (hl:gG w C u l) (hg:w.grownBy w' u.ownBlock):ah w' B v L:=gb h hl (by decide) hg
set_option maxHeartbeats 8000000 in
theorem pt (a:Option Addr) (len cap:Nat) (w:World) (hc:Code w a len):
  Calls Tryz.prog 32 #[Sl a len cap] w fun e w'=>∃(k:Bk) (L:List aj) (O:List au) (v u lv:Value) (l:List Bp),e=.returned (.tuple #[.agg #[Ii Jj k.day,v,u,Ii Jj k.inn,Ii Jj k.out,Ii Jj k.posted,Ii Jj k.missed],lv])/\(L.length<=12/\O.length<=8/\l.length<=12)/\AL w' w.heap.size v L/\ah w' w.heap.size u O/\gG w' w.heap.size lv l/\lv≠ Sl none 0 0/\Below w.heap.size w w':=by
 obtain ⟨i0,hi,hz0,hz1,hz2⟩:=info_parts tJ
 obtain ⟨h,hh⟩:∃h,w.heap.size=h:=⟨_,rfl⟩
 have HH:=aa hh
 obtain ⟨W0,hW0,X0⟩:∃W0,W0=w.alloc (.cells #[Ii Jj 0,Sl none 0 0,Sl none 0 0,Ii Jj 0,Ii Jj 0,Ii Jj 0,Ii Jj 0] 38)/\Hid (ak W0 h (Ii Jj 0) (Sl none 0 0) (Sl none 0 0) (Ii Jj 0) (Ii Jj 0) (Ii Jj 0) (Ii Jj 0)/\Below h w W0/\W0.heap.size=h+1/\Code W0 a len):=by
  have bb:Below w.heap.size w (w.alloc (.cells #[Ii Jj 0,Sl none 0 0,Sl none 0 0,Ii Jj 0,Ii Jj 0,Ii Jj 0,Ii Jj 0] 38)):=(Below.refl _ _).alloc (Nf _) _
  exact ⟨_,rfl,by rw[←hh];exact ak.new w _ _ _ _ _ _ _ 38,by rw[←hh];exact bb,by simp[hh],Code.below hc bb⟩
 have HW0:=aa hW0
 clear hW0 hc
 go_enter Tryz.func32,Tryz.ntmps32
 go_upto_region 1 with fail
 rw[←HW0.out]
 try rw[hh]
 clear HW0 hh
 go_wp2_with fail
 refine (sN a len cap _ X0.out.2.2.2.1 X0.out.2.2.2.2).mono ?_
 rintro e w1 ⟨rfl,R1,B1⟩
 rw[X0.out.2.2.1] at R1
 have X1:Hid (ak w1 h (Ii Jj 0) (Sl none 0 0) (Sl none 0 0) (Ii Jj 0) (Ii Jj 0) (Ii Jj 0) (Ii Jj 0)/\Below h w w1/\Rd w1 (h+1) a len cap):=⟨X0.out.1.kept B1 X0.out.1.2.2,X0.out.2.1.trans (B1.mono (by have:=X0.out.2.2.1;omega)),R1⟩
 try rw[X0.out.2.2.1]
 clear R1 B1 X0
 go_wp2_with fail
 refine (sL (h+1) a len cap 6 _ X1.out.2.2 (by omega) (by omega)).mono ?_
 rintro e w2 ⟨k,L,O,v,u,rfl,l2,o2,A2,Q2,R2,S2⟩
 obtain ⟨a1,c1,hv⟩:=A2.len
 subst hv
 obtain ⟨b1,d1,hv⟩:=Q2.len
 subst hv
 obtain ⟨m1,hm1⟩:∃m,L.length=m:=⟨_,rfl⟩
 obtain ⟨m2,hm2⟩:∃m,O.length=m:=⟨_,rfl⟩
 have HL:Hid (L.length<=12/\O.length<=8):=⟨l2,o2⟩
 simp only[hm1,hm2]
 obtain ⟨V2,hV2,X2⟩:∃V,V=(w2.alloc (.cells #[Ii Jj k.day,(Sl a1 m1 c1),(Sl b1 m2 d1),Ii Jj k.inn,Ii Jj k.out,Ii Jj k.posted,Ii Jj k.missed] 38)).alloc (.cells #[] 51)/\Hid (ak V h (Ii Jj 0) (Sl none 0 0) (Sl none 0 0) (Ii Jj 0) (Ii Jj 0) (Ii Jj 0) (Ii Jj 0)/\ak V w2.heap.size (Ii Jj k.day) (Sl a1 m1 c1) (Sl b1 m2 d1) (Ii Jj k.inn) (Ii Jj k.out) (Ii Jj k.posted) (Ii Jj k.missed)/\AL V (h+2) (Sl a1 m1 c1) L/\ah V (h+2) (Sl b1 m2 d1) O/\gG V (w2.heap.size+1) (Sl (some ⟨w2.heap.size+1,0,none⟩) 0 0) []/\Rd V (h+1) a len cap/\Below h w V/\w2.heap.size+1<=V.heap.size/\h+2<=w2.heap.size):=by
  have z1:=X1.out.2.2.2.2.2.1
  have z2:=S2.size
  have b2:Below (h+1) w1 w2:=S2.below (by omega)
  have bb:Below w2.heap.size w2 ((w2.alloc (.cells #[Ii Jj k.day,(Sl a1 m1 c1),(Sl b1 m2 d1),Ii Jj k.inn,Ii Jj k.out,Ii Jj k.posted,Ii Jj k.missed] 38)).alloc (.cells #[] 51)):=((Below.refl _ _).alloc (Nf _) _).alloc (by simp) _
  have v1:=(ak.new w2 (Ii Jj k.day) (Sl a1 m1 c1) (Sl b1 m2 d1) (Ii Jj k.inn) (Ii Jj k.out) (Ii Jj k.posted) (Ii Jj k.missed) 38).kept ((Below.refl _ _).alloc (Nf _) (.cells #[] 51)) (by simp)
  have il:=gG.empty (w2.alloc (.cells #[Ii Jj k.day,(Sl a1 m1 c1),(Sl b1 m2 d1),Ii Jj k.inn,Ii Jj k.out,Ii Jj k.posted,Ii Jj k.missed] 38)) (w2.heap.size+1) (by simp)
  simp only[World.size_alloc] at il
  rw[hm1] at A2
  rw[hm2] at Q2
  exact ⟨_,rfl,(X1.out.1.kept b2 (by omega)).kept bb (by omega),v1,(A2.kept bb).mono (by omega),(Q2.kept bb).mono (by omega),il,R2.same (bb.mono (by omega)),(X1.out.2.1.trans (b2.mono (by omega))).trans (bb.mono (by omega)),by simp,by omega⟩
 have HV2:=aa hV2
 obtain ⟨r5,hr5⟩:∃r,w2.heap.size=r:=⟨_,rfl⟩
 rw[hr5] at X2
 clear hV2 l2 o2 A2 Q2 R2 S2 X1 hm1 hm2
 have h25:h+2<=r5:=X2.out.2.2.2.2.2.2.2.2
 go_upto_region 4 with fail
 rw[←HV2.out]
 try rw[hr5]
 clear HV2 hr5
 go_wp2_with fail
 refine (ay (h+1) a len cap 12 _ X2.out.2.2.2.2.2.1 (by omega) (by omega)).mono ?_
 rintro e w3 ⟨y,rfl,y1,y2,R3,S3⟩
 have X3:Hid (ak w3 h (Ii Jj 0) (Sl none 0 0) (Sl none 0 0) (Ii Jj 0) (Ii Jj 0) (Ii Jj 0) (Ii Jj 0)/\ak w3 r5 (Ii Jj k.day) (Sl a1 m1 c1) (Sl b1 m2 d1) (Ii Jj k.inn) (Ii Jj k.out) (Ii Jj k.posted) (Ii Jj k.missed)/\AL w3 (h+2) (Sl a1 m1 c1) L/\ah w3 (h+2) (Sl b1 m2 d1) O/\gG w3 (r5+1) (Sl (some ⟨r5+1,0,none⟩) 0 0) []/\Rd w3 (h+1) a len cap/\Below h w w3/\r5+1<=w3.heap.size/\((Sl (some ⟨r5+1,0,none⟩) 0 0):Value)≠ Sl none 0 0):=by
  obtain ⟨x1,x2,x3,x4,x5,x6,x7,x8,x9⟩:=X2.out
  exact ⟨x1.stp S3 (by omega),x2.stp S3 (by omega),x3.stp S3 (by omega),x4.stp S3 (by omega),x5.stp S3 (by omega),R3,x7.trans ((S3.below (by omega)).mono (by omega)),Nat.le_trans x8 S3.size,by simp⟩
 clear R3 S3 X2
 obtain ⟨n0,rfl⟩:=Int.eq_ofNat_of_zero_le y1
 go_wp2
 go_loopw[6,7] (fun lv q wr=>∃(j:Nat) (l:List Bp),j<=n0/\q=Ii Jj j/\Hid (l.length+j<=12)/\Hid (ak wr h (Ii Jj 0) (Sl none 0 0) (Sl none 0 0) (Ii Jj 0) (Ii Jj 0) (Ii Jj 0) (Ii Jj 0)/\ak wr r5 (Ii Jj k.day) (Sl a1 m1 c1) (Sl b1 m2 d1) (Ii Jj k.inn) (Ii Jj k.out) (Ii Jj k.posted) (Ii Jj k.missed)/\AL wr (h+2) (Sl a1 m1 c1) L/\ah wr (h+2) (Sl b1 m2 d1) O/\gG wr (r5+1) lv l/\Rd wr (h+1) a len cap/\Below h w wr/\r5+1<=wr.heap.size/\(lv:Value)≠ Sl none 0 0)) (fun _ q _=>(intOf q).toNat)
 case atStart=>exact ⟨n0,[],Nf _,rfl,(by show _<=12;simp;omega),X3⟩
 case round=>
  obtain ⟨j,l,hj,rfl,HJ,X4⟩:=hrel
  clear X3
  obtain ⟨la,lc,hv,_⟩:=X4.out.2.2.2.2.1.shape
  subst hv
  obtain ⟨ln,hln⟩:∃m,l.length=m:=⟨_,rfl⟩
  have HLN:=aa hln
  rw[hln] at X4 HJ ⊢
  clear hln
  have hln12:ln+j<=12:=HJ.out
  by_cases h0:0<j
  ·have h0':(0:Int)<(j:Int):=by omega
   go_wp2_with fail
   refine (pl (h+1) a len cap _ X4.out.2.2.2.2.2.1).mono ?_
   rintro e w5 ⟨K,n,x,o,rfl,R5,S5⟩
   have X5:Hid (ak w5 h (Ii Jj 0) (Sl none 0 0) (Sl none 0 0) (Ii Jj 0) (Ii Jj 0) (Ii Jj 0) (Ii Jj 0)/\ak w5 r5 (Ii Jj k.day) (Sl a1 m1 c1) (Sl b1 m2 d1) (Ii Jj k.inn) (Ii Jj k.out) (Ii Jj k.posted) (Ii Jj k.missed)/\AL w5 (h+2) (Sl a1 m1 c1) L/\ah w5 (h+2) (Sl b1 m2 d1) O/\gG w5 (r5+1) (Sl la ln lc) l/\Rd w5 (h+1) a len cap/\Below h w w5/\r5+1<=w5.heap.size/\((Sl la ln lc):Value)≠ Sl none 0 0):=by
    obtain ⟨x1,x2,x3,x4,x5,x6,x7,x8,x9⟩:=X4.out
    exact ⟨x1.stp S5 (by omega),x2.stp S5 (by omega),x3.stp S5 (by omega),x4.stp S5 (by omega),x5.stp S5 (by omega),R5,x7.trans ((S5.below (by omega)).mono (by omega)),Nat.le_trans x8 S5.size,x9⟩
   clear R5 S5 X4
   have hbc:Hid (∀q,(Value.slice la ln lc).ownBlock=some q->r5+1<=q):=fun q hq=>(World.ownsRow.lt X5.out.2.2.2.2.1 q hq).1
   go_wp2_with (at_builtin;refine wpList_append_own _ rfl _ _ 56 rfl (r5+1) 51 i0 _ 14 112 Tryz.underlying56 hi hz0 hz1 hz2 rfl (by decide) _ _ _ rfl (World.ownsRow.alloc (by have:=X5.out.2.2.2.2.1;unfold gG at this;exact this) _) ⟨_,0,none⟩ 1 1 (sa ⟨K,x,o,n⟩) rfl rfl ?_ ?_ ?_ ?_ ?_ ?_)
   ·intro q y hq
    have hq14:q<14:=by
     by_cases e:q<14
     ·exact e
     ·rw[List.getElem?_eq_none (by simp[sa];omega)] at hq;cases hq
    have hcase:q=0\/q=1\/q=2\/q=3\/q=4\/q=5\/q=6\/q=7\/q=8\/q=9\/q=10\/q=11\/q=12\/q=13:=by omega
    rcases hcase with e|e|e|e|e|e|e|e|e|e|e|e|e|e <;>subst e <;>simp[sa] at hq <;>subst hq <;>simp[Addr.add,go_sem]
   ·intro y hy
    simp only[sa,List.mem_cons,List.not_mem_nil,or_false] at hy
    rcases hy with e|e|e|e|e|e|e|e|e|e|e|e|e|e <;>subst e <;>rfl
   ·rw[HLN.out];unfold maxLen;omega
   ·rw[HLN.out];omega
   ·have:=X5.out.2.2.2.2.2.2.2.1;simp;omega
   ·intro lv w6 hown hgrow hnn
    have X6:Hid (ak w6 h (Ii Jj 0) (Sl none 0 0) (Sl none 0 0) (Ii Jj 0) (Ii Jj 0) (Ii Jj 0) (Ii Jj 0)/\ak w6 r5 (Ii Jj k.day) (Sl a1 m1 c1) (Sl b1 m2 d1) (Ii Jj k.inn) (Ii Jj k.out) (Ii Jj k.posted) (Ii Jj k.missed)/\AL w6 (h+2) (Sl a1 m1 c1) L/\ah w6 (h+2) (Sl b1 m2 d1) O/\gG w6 (r5+1) lv (l++[⟨K,x,o,n⟩])/\Rd w6 (h+1) a len cap/\Below h w w6/\r5+1<=w6.heap.size/\(lv:Value)≠ Sl none 0 0):=by
     obtain ⟨x1,x2,x3,x4,x5,x6,x7,x8,x9⟩:=X5.out
     have hb:Below w5.heap.size w5 (w5.alloc (.cells #[Ii Jj K,Ii Jj x.k,Ii Jj x.i,Ii Jj x.t,Ii Jj x.m,Ii Jj x.r,Ii Jj o.id,Ii Jj o.src,Ii Jj o.dst,Ii Jj o.amount,Ii Jj o.first,Ii Jj o.every,Ii Jj o.times,Ii Jj n] 51)):=(Below.refl _ _).alloc (Nf _) _
     have lt:∀q,(Value.slice la ln lc).ownBlock=some q->r5+1<=q:=hbc.out
     have y5:=x5.kept hb
     exact ⟨(x1.kept hb x1.2.2).same (hgrow.block h (by have:=x1.2.2;simp;omega) (fun e=>by have:=lt _ e.symm;omega)),(x2.kept hb x2.2.2).same (hgrow.block r5 (by have:=x2.2.2;simp;omega) (fun e=>by have:=lt _ e.symm;omega)),pp (x3.kept hb) y5 hgrow,pq (x4.kept hb) y5 hgrow,by unfold gG;simpa using hown,(x6.alloc _).same ((Below.refl _ _).grown hgrow (by have:=x6.2.2.2.1;simp;omega) (fun q hq=>by have:=lt q hq;omega)),(x7.trans (hb.mono (by omega))).grown hgrow (by simp;omega) (fun q hq=>by have:=lt q hq;omega),Nat.le_trans x8 (Nat.le_trans hb.size hgrow.size),hnn⟩
    obtain ⟨a6,e6,hv6,_⟩:=X6.out.2.2.2.2.1.shape
    subst hv6
    have HJ2:Hid ((l++[(⟨K,x,o,n⟩:Bp)]).length+(j-1)<=12):=by show _<=12;have:=HLN.out;simp;omega
    clear hown hgrow hnn X5 hbc
    obtain ⟨m6,hm6⟩:∃m,(l++[(⟨K,x,o,n⟩:Bp)]).length=m:=⟨_,rfl⟩
    rw[hm6] at X6
    simp only[hm6]
    clear hm6
    go_wp2
    go_roundw
    case rel=>exact ⟨j-1,_,by omega,by go_num,HJ2,X6⟩
    case measure=>simp[intOf];omega
  ·have hj0:j=0:=by omega
   subst hj0
   obtain ⟨⟨s0,s1,s2,s3,s4,s5,s6⟩,sf,sz⟩:=X4.out.2.1
   obtain ⟨⟨t0,t1,t2,t3,t4,t5,t6⟩,tf,tz⟩:=X4.out.1
   have n1:¬h=r5:=by omega
   have n2:¬r5=h:=by omega
   go_wp2
   refine bodyPost_ret (v:=.tuple #[.agg #[Ii Jj k.day,(Sl a1 m1 c1),(Sl b1 m2 d1),Ii Jj k.inn,Ii Jj k.out,Ii Jj k.posted,Ii Jj k.missed],Sl la ln lc]) (by simp[results,Tryz.results32,go_sem,t0,t1,t2,t3,t4,t5,t6]) rfl ⟨k,L,O,_,_,_,l,rfl,⟨HL.out.1,HL.out.2,by rw[HLN.out];omega⟩,?_,?_,?_,X4.out.2.2.2.2.2.2.2.2,?_⟩
   ·rw[HH.out]
    refine AL.mono (B:=h+2) ?_ (by omega)
    repeat (refine AL.far ?_ (by omega) _ _)
    exact X4.out.2.2.1
   ·rw[HH.out]
    refine ah.mono (B:=h+2) ?_ (by omega)
    repeat (refine ah.far ?_ (by omega) _ _)
    exact X4.out.2.2.2.1
   ·rw[HH.out]
    refine gG.mono (B:=r5+1) ?_ (by omega)
    have g:=dP wr h k (Sl a1 m1 c1) (Sl b1 m2 d1)
    exact aO X4.out.2.2.2.2.1 g (fun q hq=>by have:=(World.ownsRow.lt X4.out.2.2.2.2.1 q hq).1;omega)
   ·rw[HH.out]
    repeat (refine ai ?_ (by omega) _ _)
    exact X4.out.2.2.2.2.2.2.1
end Go.Proofs.YtghkbhggopiajaaGreatDoor
