/- The specification's payment between two accounts. -/
import Derived.Test.YtjhgchlfpolkcaaGreatDoorListsx
import Derived.Deep.RegionHeld3
import Derived.Deep.AppendLies
import Derived.Deep.DeepCutAuto
namespace Go.Proofs.YtjhgchlfpolkcaaGreatDoor
open Value renaming int → Ii,slice → Sl
open IntKind renaming i64 → Jj
open Nat renaming le_refl → Nf
open Go.RowKit.Below renaming refl → Bf
open Go.Proofs.Tryz renaming prog → Pg
set_option maxRecDepth 8000
set_option maxHeartbeats 4000000
open Go.RowKit
theorem AL.acc {w:World} {B g c:Nat} {L:List al} (h:AL w B (Sl (some ⟨g,0,none⟩) L.length c) L) {i:Nat} (hi:i<L.length):eA w g (i*8) (FL L i):=by
 obtain ⟨a',c',hv,_,hs⟩:=h.shape
 obtain ⟨g',ea,_,_,hA⟩:=hs i hi
 rw[ea] at hv
 have:g=g':=by simpa using (Value.slice.inj hv).1
 subst this
 rw[eB hi]
 exact hA
theorem AL.kept_fo {w:World} {B g c:Nat} {L:List al} (h:AL w B (Sl (some ⟨g,0,none⟩) L.length c) L) (hl:L.length<=1048576):Fo w (some ⟨g,0,none⟩) L.length (FL L):=(h.fo hl).2
def eV (L:List al) (p q:Nat) (m:Int):Prop:=∃r,gr (FL L) L.length (aI (FL L) L.length q) p=some r/\r<m
open Classical in
noncomputable def eo (L:List al) (p q:Nat) (m:Int):Int×List al:=
 if (FL L p).frozen=true\/(FL L q).frozen=true then (5,L) else if eV L p q m then (6,L) else
  (0,(L.set p {FL L p with balance:=(FL L p).balance-m}).set q {FL L q with balance:=(FL L q).balance+m})
theorem sE (B g c:Nat) (L:List al) (p q:Nat) (m:Int) (w:World) (h:AL w B (Sl (some ⟨g,0,none⟩) L.length c) L) (hBw:B<=w.heap.size) (hR:ap (FL L) L.length) (hp:p<L.length) (hq:q<L.length) (hpq:p≠q) (hm1:1<=m) (hm2:m<=1000000000000):
  Calls Pg 120 #[Sl (some ⟨g,0,none⟩) L.length c,Ii Jj p,Ii Jj q,Ii Jj m] w fun e w'=>e=.returned (.tuple #[Sl (some ⟨g,0,none⟩) L.length c,Ii Jj (eo L p q m).1])/\AL w' B (Sl (some ⟨g,0,none⟩) L.length c) (eo L p q m).2/\Below B w w':=by
 have H:Hid (AL w B (Sl (some ⟨g,0,none⟩) L.length c) L):=h
 have HR:Hid (ap (FL L) L.length):=hR
 have hn:=hR.1
 have hl:L.length<=1048576:=by omega
 have HF:Hid (Fo w (some ⟨g,0,none⟩) L.length (FL L)):=h.kept_fo hl
 obtain ⟨hBg,hgz⟩:=h.block
 obtain ⟨p0,p1,p2,p3,p4,p5,p6,p7⟩:=h.acc hp
 obtain ⟨q0,q1,q2,q3,q4,q5,q6,q7⟩:=h.acc hq
 obtain ⟨pb1,pb2⟩:=(hR.2.1 p hp).2.2.2.2.2.1
 obtain ⟨qb1,qb2⟩:=(hR.2.1 q hq).2.2.2.2.2.1
 clear h hR p1 p2 p3 p4 p7 q1 q2 q3 q4 q7
 have HV:Hid (eo L p q m=eo L p q m):=rfl
 by_cases hfp:(FL L p).frozen=true
 ·have E:Hid (eo L p q m=(5,L)):=(by unfold eo;rw[if_pos (Or.inl hfp)]:eo L p q m=(5,L))
  rw[hfp] at p5
  go_enter Tryz.func120,Tryz.ntmps120
  go_wp2
  go_ret2
  rw[E.out]
  exact ⟨rfl,H.out,Bf _ _⟩
 have hfp':(FL L p).frozen=false:=by simpa using hfp
 by_cases hfq:(FL L q).frozen=true
 ·have E:Hid (eo L p q m=(5,L)):=(by unfold eo;rw[if_pos (Or.inr hfq)]:eo L p q m=(5,L))
  rw[hfp'] at p5
  rw[hfq] at q5
  go_enter Tryz.func120,Tryz.ntmps120
  go_wp2
  go_ret2
  rw[E.out]
  exact ⟨rfl,H.out,Bf _ _⟩
 have hfq':(FL L q).frozen=false:=by simpa using hfq
 have HN:Hid (¬((FL L p).frozen=true\/(FL L q).frozen=true)):=fun e=>e.elim hfp hfq
 rw[hfp'] at p5
 rw[hfq'] at q5
 clear hfp hfq
 go_enter Tryz.func120,Tryz.ntmps120
 go_wp2_with fail
 refine (cP _ L.length c (FL L) q _ HF.out HR.out hq).mono ?_
 rintro e w1 ⟨v,rfl,I1,B1⟩
 have I1':Hid (IL w1 w.heap.size v (aI (FL L) L.length q)):=I1
 have B1':Hid (Below w.heap.size w w1):=B1
 have hpl:(aI (FL L) L.length q).length<=1048576:=by have:=fE HR.out hq;omega
 have H1:Hid (AL w1 B (Sl (some ⟨g,0,none⟩) L.length c) L):=H.out.kept B1
 clear B1 I1 p0 p5 p6 q0 q5 q6
 have p0:=(H1.out.acc hp).1
 obtain ⟨va,vm,hvv,_⟩:=I1'.out.shape
 subst hvv
 go_wp2_with fail
 refine (mU _ L.length c (FL L) (aI (FL L) L.length q) p w.heap.size _ _ (HF.out.below B1'.out) HR.out hp I1'.out hpl).mono ?_
 rintro e w2 ⟨rfl,B2⟩
 have B2':Hid (Below w.heap.size w w2):=B1'.out.trans (B2.mono B1'.out.size)
 have H2:Hid (AL w2 B (Sl (some ⟨g,0,none⟩) L.length c) L):=H1.out.kept B2
 clear B2 p0 H1
 have BB:Hid (Below B w w2):=B2'.out.mono hBw
 have HPS:Hid (eV L p q m↔∃r,gr (FL L) L.length (aI (FL L) L.length q) p=some r/\r<m):=Iff.rfl
 have fz:∀j,w2.frozen? ⟨g,j,none⟩=false:=fun j=>H2.out.frozen j
 have p6:=(H2.out.acc hp).2.2.2.2.2.2.1
 have q6:=(H2.out.acc hq).2.2.2.2.2.2.1
 have hne:¬q*8+6=p*8+6:=by omega
 have hDone:Hid (¬eV L p q m->eo L p q m=(0,(L.set p {FL L p with balance:=(FL L p).balance-m}).set q {FL L q with balance:=(FL L q).balance+m})):=fun hs=>by
  unfold eo
  rw[if_neg HN.out,if_neg hs]
 have hAL:Hid (AL ((w2.setCell ⟨g,p*8+6,none⟩ (Ii Jj ((FL L p).balance-m))).setCell ⟨g,q*8+6,none⟩ (Ii Jj ((FL L q).balance+m))) B (Sl (some ⟨g,0,none⟩) L.length c) ((L.set p {FL L p with balance:=(FL L p).balance-m}).set q {FL L q with balance:=(FL L q).balance+m})):=by
  have s1:=H2.out.stored hp 6 (by omega) (Ii Jj ((FL L p).balance-m)) {FL L p with balance:=(FL L p).balance-m} rfl
  have e1:FL (L.set p {FL L p with balance:=(FL L p).balance-m}) q=FL L q:=gR _ (fun e=>hpq e.symm)
  have s2:=s1.stored (p:=q) (by simpa using hq) 6 (by omega) (Ii Jj ((FL L q).balance+m)) {FL L q with balance:=(FL L q).balance+m} (by rw[e1];rfl)
  simp only[List.length_set] at s2
  exact s2
 have hBl:Hid (Below B w ((w2.setCell ⟨g,p*8+6,none⟩ (Ii Jj ((FL L p).balance-m))).setCell ⟨g,q*8+6,none⟩ (Ii Jj ((FL L q).balance+m)))):=ed (ed BB.out hBg _ _) hBg _ _
 generalize hz:gr (FL L) L.length (aI (FL L) L.length q) p=z at*
 cases z with
 | none=>
  have NS:Hid (¬eV L p q m):=fun hh=>by obtain ⟨r,e,_⟩:=HPS.out.1 hh;cases e
  simp only[Option.isSome_none,Option.getD_none]
  go_wp2
  go_ret2
  rw[hDone.out NS.out]
  exact ⟨rfl,hAL.out,hBl.out⟩
 | some r=>
  simp only[Option.isSome_some,Option.getD_some]
  by_cases hr:r<m
  ·have E:Hid (eo L p q m=(6,L)):=(by unfold eo;rw[if_neg HN.out,if_pos (HPS.out.2 ⟨r,rfl,hr⟩)]:eo L p q m=(6,L))
   go_wp2
   go_ret2
   rw[E.out]
   exact ⟨rfl,H2.out,BB.out⟩
  ·have NS:Hid (¬eV L p q m):=fun hh=>by obtain ⟨r',e,e2⟩:=HPS.out.1 hh;obtain rfl:=Option.some.inj e;exact hr e2
   go_wp2
   go_ret2
   rw[hDone.out NS.out]
   exact ⟨rfl,hAL.out,hBl.out⟩
open Go.RowKit
theorem AL.stored8 {w:World} {B g cap:Nat} {L:List al} (h:AL w B (Sl (some ⟨g,0,none⟩) L.length cap) L) {p:Nat} (hp:p<L.length) (A:al):
  AL (iE w g (p*8) A) B (Sl (some ⟨g,0,none⟩) L.length cap) (L.set p A):=by
 have s0:=h.stored hp 0 (by omega) (Ii Jj A.id) {FL L p with id:=A.id} rfl
 have s1:=s0.stored (p:=p) (by simpa using hp) 1 (by omega) (Ii Jj A.up) {FL L p with id:=A.id,up:=A.up} (by rw[cE _ hp];rfl)
 simp only[List.set_set] at s1
 have s2:=s1.stored (p:=p) (by simpa using hp) 2 (by omega) (Ii Jj A.limit) {FL L p with id:=A.id,up:=A.up,limit:=A.limit} (by rw[cE _ hp];rfl)
 simp only[List.set_set] at s2
 have s3:=s2.stored (p:=p) (by simpa using hp) 3 (by omega) (Ii Jj A.rate) {FL L p with id:=A.id,up:=A.up,limit:=A.limit,rate:=A.rate} (by rw[cE _ hp];rfl)
 simp only[List.set_set] at s3
 have s4:=s3.stored (p:=p) (by simpa using hp) 4 (by omega) (Ii Jj A.target) {FL L p with id:=A.id,up:=A.up,limit:=A.limit,rate:=A.rate,target:=A.target} (by rw[cE _ hp];rfl)
 simp only[List.set_set] at s4
 have s5:=s4.stored (p:=p) (by simpa using hp) 5 (by omega) (.bool A.frozen) {FL L p with id:=A.id,up:=A.up,limit:=A.limit,rate:=A.rate,target:=A.target,frozen:=A.frozen} (by rw[cE _ hp];rfl)
 simp only[List.set_set] at s5
 have s6:=s5.stored (p:=p) (by simpa using hp) 6 (by omega) (Ii Jj A.balance) {FL L p with id:=A.id,up:=A.up,limit:=A.limit,rate:=A.rate,target:=A.target,frozen:=A.frozen,balance:=A.balance} (by rw[cE _ hp];rfl)
 simp only[List.set_set] at s6
 have s7:=s6.stored (p:=p) (by simpa using hp) 7 (by omega) (Ii Jj A.carry) A (by rw[cE _ hp];rfl)
 simp only[List.set_set,List.length_set,Nat.add_zero] at s7
 exact s7
theorem mA (B g c:Nat) (L:List al) (p:Nat) (i t m r xi xu xl xr xt xb xc:Int) (w:World) (h:AL w B (Sl (some ⟨g,0,none⟩) L.length c) L) (hBw:B<=w.heap.size) (hp:p<L.length) (hx:FL L p=⟨xi,xu,xl,xr,xt,true,xb,xc⟩):
  Calls Pg 122 #[Sl (some ⟨g,0,none⟩) L.length c,Ii Jj p,.agg #[Ii Jj 2,Ii Jj i,Ii Jj t,Ii Jj m,Ii Jj r]] w fun e w'=>e=.returned (.tuple #[Sl (some ⟨g,0,none⟩) L.length c,Ii Jj 5])/\AL w' B (Sl (some ⟨g,0,none⟩) L.length c) L/\Below B w w':=by
 have H:Hid (AL w B (Sl (some ⟨g,0,none⟩) L.length c) L):=h
 obtain ⟨hBg,hgz⟩:=h.block
 obtain ⟨p0,p1,p2,p3,p4,p5,p6,p7⟩:=h.acc hp
 rw[hx] at p0 p1 p2 p3 p4 p5 p6 p7
 have fz:∀j,w.frozen? ⟨g,j,none⟩=false:=fun j=>H.out.frozen j
 clear h hx
 go_enter Tryz.func122,Tryz.ntmps122
 go_wp2
 go_ret2
 exact ⟨rfl,World.ownsRow.alloc (World.ownsRow.alloc H.out _) _,(((Bf _ _).alloc hBw _).alloc (by simp;omega) _)⟩
theorem lj (B g c:Nat) (L:List al) (p:Nat) (i t m r xi xu xl xr xt xb xc:Int) (w:World) (h:AL w B (Sl (some ⟨g,0,none⟩) L.length c) L) (hBw:B<=w.heap.size) (hp:p<L.length) (hx:FL L p=⟨xi,xu,xl,xr,xt,false,xb,xc⟩):
  Calls Pg 122 #[Sl (some ⟨g,0,none⟩) L.length c,Ii Jj p,.agg #[Ii Jj 2,Ii Jj i,Ii Jj t,Ii Jj m,Ii Jj r]] w fun e w'=>e=.returned (.tuple #[Sl (some ⟨g,0,none⟩) L.length c,Ii Jj 0])/\AL w' B (Sl (some ⟨g,0,none⟩) L.length c) (L.set p ⟨xi,xu,xl,xr,xt,true,xb,xc⟩)/\Below B w w':=by
 have H:Hid (AL w B (Sl (some ⟨g,0,none⟩) L.length c) L):=h
 obtain ⟨hBg,hgz⟩:=h.block
 obtain ⟨p0,p1,p2,p3,p4,p5,p6,p7⟩:=h.acc hp
 rw[hx] at p0 p1 p2 p3 p4 p5 p6 p7
 have fz:∀j,w.frozen? ⟨g,j,none⟩=false:=fun j=>H.out.frozen j
 clear h hx
 go_enter Tryz.func122,Tryz.ntmps122
 go_wp2
 go_ret2
 exact ⟨rfl,World.ownsRow.alloc (World.ownsRow.alloc (H.out.stored8 hp ⟨xi,xu,xl,xr,xt,true,xb,xc⟩) _) _,(((cN (Bf _ _) g (p*8) ⟨xi,xu,xl,xr,xt,true,xb,xc⟩ hBg).alloc (by simp[bP];omega) _).alloc (by simp[bP];omega) _)⟩
theorem mB (B g c:Nat) (L:List al) (p:Nat) (i t m r xi xu xl xr xt xb xc:Int) (w:World) (h:AL w B (Sl (some ⟨g,0,none⟩) L.length c) L) (hBw:B<=w.heap.size) (hp:p<L.length) (hx:FL L p=⟨xi,xu,xl,xr,xt,false,xb,xc⟩):
  Calls Pg 122 #[Sl (some ⟨g,0,none⟩) L.length c,Ii Jj p,.agg #[Ii Jj 3,Ii Jj i,Ii Jj t,Ii Jj m,Ii Jj r]] w fun e w'=>e=.returned (.tuple #[Sl (some ⟨g,0,none⟩) L.length c,Ii Jj 5])/\AL w' B (Sl (some ⟨g,0,none⟩) L.length c) L/\Below B w w':=by
 have H:Hid (AL w B (Sl (some ⟨g,0,none⟩) L.length c) L):=h
 obtain ⟨hBg,hgz⟩:=h.block
 obtain ⟨p0,p1,p2,p3,p4,p5,p6,p7⟩:=h.acc hp
 rw[hx] at p0 p1 p2 p3 p4 p5 p6 p7
 have fz:∀j,w.frozen? ⟨g,j,none⟩=false:=fun j=>H.out.frozen j
 clear h hx
 go_enter Tryz.func122,Tryz.ntmps122
 go_wp2
 go_ret2
 exact ⟨rfl,World.ownsRow.alloc (World.ownsRow.alloc H.out _) _,(((Bf _ _).alloc hBw _).alloc (by simp;omega) _)⟩
theorem lk (B g c:Nat) (L:List al) (p:Nat) (i t m r xi xu xl xr xt xb xc:Int) (w:World) (h:AL w B (Sl (some ⟨g,0,none⟩) L.length c) L) (hBw:B<=w.heap.size) (hp:p<L.length) (hx:FL L p=⟨xi,xu,xl,xr,xt,true,xb,xc⟩):
  Calls Pg 122 #[Sl (some ⟨g,0,none⟩) L.length c,Ii Jj p,.agg #[Ii Jj 3,Ii Jj i,Ii Jj t,Ii Jj m,Ii Jj r]] w fun e w'=>e=.returned (.tuple #[Sl (some ⟨g,0,none⟩) L.length c,Ii Jj 0])/\AL w' B (Sl (some ⟨g,0,none⟩) L.length c) (L.set p ⟨xi,xu,xl,xr,xt,false,xb,xc⟩)/\Below B w w':=by
 have H:Hid (AL w B (Sl (some ⟨g,0,none⟩) L.length c) L):=h
 obtain ⟨hBg,hgz⟩:=h.block
 obtain ⟨p0,p1,p2,p3,p4,p5,p6,p7⟩:=h.acc hp
 rw[hx] at p0 p1 p2 p3 p4 p5 p6 p7
 have fz:∀j,w.frozen? ⟨g,j,none⟩=false:=fun j=>H.out.frozen j
 clear h hx
 go_enter Tryz.func122,Tryz.ntmps122
 go_wp2
 go_ret2
 exact ⟨rfl,World.ownsRow.alloc (World.ownsRow.alloc (H.out.stored8 hp ⟨xi,xu,xl,xr,xt,false,xb,xc⟩) _) _,(((cN (Bf _ _) g (p*8) ⟨xi,xu,xl,xr,xt,false,xb,xc⟩ hBg).alloc (by simp[bP];omega) _).alloc (by simp[bP];omega) _)⟩
theorem mC (B g c:Nat) (L:List al) (p:Nat) (i t m r xi xu xl xr xt xb xc:Int) (w:World) (h:AL w B (Sl (some ⟨g,0,none⟩) L.length c) L) (hBw:B<=w.heap.size) (hp:p<L.length) (hx:FL L p=⟨xi,xu,xl,xr,xt,true,xb,xc⟩):
  Calls Pg 122 #[Sl (some ⟨g,0,none⟩) L.length c,Ii Jj p,.agg #[Ii Jj 4,Ii Jj i,Ii Jj t,Ii Jj m,Ii Jj r]] w fun e w'=>e=.returned (.tuple #[Sl (some ⟨g,0,none⟩) L.length c,Ii Jj 5])/\AL w' B (Sl (some ⟨g,0,none⟩) L.length c) L/\Below B w w':=by
 have H:Hid (AL w B (Sl (some ⟨g,0,none⟩) L.length c) L):=h
 obtain ⟨hBg,hgz⟩:=h.block
 obtain ⟨p0,p1,p2,p3,p4,p5,p6,p7⟩:=h.acc hp
 rw[hx] at p0 p1 p2 p3 p4 p5 p6 p7
 have fz:∀j,w.frozen? ⟨g,j,none⟩=false:=fun j=>H.out.frozen j
 clear h hx
 go_enter Tryz.func122,Tryz.ntmps122
 go_wp2
 go_ret2
 exact ⟨rfl,World.ownsRow.alloc (World.ownsRow.alloc H.out _) _,(((Bf _ _).alloc hBw _).alloc (by simp;omega) _)⟩
theorem mD (B g c:Nat) (L:List al) (p:Nat) (i t m r xi xu xl xr xt xb xc:Int) (w:World) (h:AL w B (Sl (some ⟨g,0,none⟩) L.length c) L) (hBw:B<=w.heap.size) (hp:p<L.length) (hx:FL L p=⟨xi,xu,xl,xr,xt,true,xb,xc⟩):
  Calls Pg 122 #[Sl (some ⟨g,0,none⟩) L.length c,Ii Jj p,.agg #[Ii Jj 5,Ii Jj i,Ii Jj t,Ii Jj m,Ii Jj r]] w fun e w'=>e=.returned (.tuple #[Sl (some ⟨g,0,none⟩) L.length c,Ii Jj 5])/\AL w' B (Sl (some ⟨g,0,none⟩) L.length c) L/\Below B w w':=by
 have H:Hid (AL w B (Sl (some ⟨g,0,none⟩) L.length c) L):=h
 obtain ⟨hBg,hgz⟩:=h.block
 obtain ⟨p0,p1,p2,p3,p4,p5,p6,p7⟩:=h.acc hp
 rw[hx] at p0 p1 p2 p3 p4 p5 p6 p7
 have fz:∀j,w.frozen? ⟨g,j,none⟩=false:=fun j=>H.out.frozen j
 clear h hx
 go_enter Tryz.func122,Tryz.ntmps122
 go_wp2
 go_ret2
 exact ⟨rfl,World.ownsRow.alloc (World.ownsRow.alloc H.out _) _,(((Bf _ _).alloc hBw _).alloc (by simp;omega) _)⟩
theorem ll (B g c:Nat) (L:List al) (p:Nat) (i t m r xi xu xl xr xt xb xc:Int) (w:World) (h:AL w B (Sl (some ⟨g,0,none⟩) L.length c) L) (hBw:B<=w.heap.size) (hp:p<L.length) (hx:FL L p=⟨xi,xu,xl,xr,xt,false,xb,xc⟩) (hm1: -1000000000000<=m) (hm2:m<=1000000000000) (hb1: -1000000000000<=xb) (hb2:xb<=1000000000000):
  Calls Pg 122 #[Sl (some ⟨g,0,none⟩) L.length c,Ii Jj p,.agg #[Ii Jj 5,Ii Jj i,Ii Jj t,Ii Jj m,Ii Jj r]] w fun e w'=>e=.returned (.tuple #[Sl (some ⟨g,0,none⟩) L.length c,Ii Jj 0])/\AL w' B (Sl (some ⟨g,0,none⟩) L.length c) (L.set p ⟨xi,xu,xl,xr,xt,false,(xb+m),xc⟩)/\Below B w w':=by
 have H:Hid (AL w B (Sl (some ⟨g,0,none⟩) L.length c) L):=h
 obtain ⟨hBg,hgz⟩:=h.block
 obtain ⟨p0,p1,p2,p3,p4,p5,p6,p7⟩:=h.acc hp
 rw[hx] at p0 p1 p2 p3 p4 p5 p6 p7
 have fz:∀j,w.frozen? ⟨g,j,none⟩=false:=fun j=>H.out.frozen j
 clear h hx
 go_enter Tryz.func122,Tryz.ntmps122
 go_wp2
 go_ret2
 exact ⟨rfl,World.ownsRow.alloc (World.ownsRow.alloc (H.out.stored8 hp ⟨xi,xu,xl,xr,xt,false,(xb+m),xc⟩) _) _,(((cN (Bf _ _) g (p*8) ⟨xi,xu,xl,xr,xt,false,(xb+m),xc⟩ hBg).alloc (by simp[bP];omega) _).alloc (by simp[bP];omega) _)⟩
theorem mE (B g c:Nat) (L:List al) (p:Nat) (i t m r xi xu xl xr xt xb xc:Int) (w:World) (h:AL w B (Sl (some ⟨g,0,none⟩) L.length c) L) (hBw:B<=w.heap.size) (hp:p<L.length) (hx:FL L p=⟨xi,xu,xl,xr,xt,true,xb,xc⟩):
  Calls Pg 122 #[Sl (some ⟨g,0,none⟩) L.length c,Ii Jj p,.agg #[Ii Jj 6,Ii Jj i,Ii Jj t,Ii Jj m,Ii Jj r]] w fun e w'=>e=.returned (.tuple #[Sl (some ⟨g,0,none⟩) L.length c,Ii Jj 5])/\AL w' B (Sl (some ⟨g,0,none⟩) L.length c) L/\Below B w w':=by
 have H:Hid (AL w B (Sl (some ⟨g,0,none⟩) L.length c) L):=h
 obtain ⟨hBg,hgz⟩:=h.block
 obtain ⟨p0,p1,p2,p3,p4,p5,p6,p7⟩:=h.acc hp
 rw[hx] at p0 p1 p2 p3 p4 p5 p6 p7
 have fz:∀j,w.frozen? ⟨g,j,none⟩=false:=fun j=>H.out.frozen j
 clear h hx
 go_enter Tryz.func122,Tryz.ntmps122
 go_wp2
 go_ret2
 exact ⟨rfl,World.ownsRow.alloc (World.ownsRow.alloc H.out _) _,(((Bf _ _).alloc hBw _).alloc (by simp;omega) _)⟩
theorem mF (B g c:Nat) (L:List al) (p:Nat) (i t m r xi xl xr xt xb xc:Int) (xf:Bool) (w:World) (h:AL w B (Sl (some ⟨g,0,none⟩) L.length c) L) (hBw:B<=w.heap.size) (hp:p<L.length) (hx:FL L p=⟨xi,0,xl,xr,xt,xf,xb,xc⟩) (hm:m<0):
  Calls Pg 122 #[Sl (some ⟨g,0,none⟩) L.length c,Ii Jj p,.agg #[Ii Jj 8,Ii Jj i,Ii Jj t,Ii Jj m,Ii Jj r]] w fun e w'=>e=.returned (.tuple #[Sl (some ⟨g,0,none⟩) L.length c,Ii Jj 8])/\AL w' B (Sl (some ⟨g,0,none⟩) L.length c) L/\Below B w w':=by
 have H:Hid (AL w B (Sl (some ⟨g,0,none⟩) L.length c) L):=h
 obtain ⟨hBg,hgz⟩:=h.block
 obtain ⟨p0,p1,p2,p3,p4,p5,p6,p7⟩:=h.acc hp
 rw[hx] at p0 p1 p2 p3 p4 p5 p6 p7
 have fz:∀j,w.frozen? ⟨g,j,none⟩=false:=fun j=>H.out.frozen j
 clear h hx
 go_enter Tryz.func122,Tryz.ntmps122
 go_wp2
 go_ret2
 exact ⟨rfl,World.ownsRow.alloc (World.ownsRow.alloc H.out _) _,(((Bf _ _).alloc hBw _).alloc (by simp;omega) _)⟩
theorem jP (B g c:Nat) (L:List al) (p:Nat) (i t m r xi xl xr xt xb xc:Int) (xf:Bool) (w:World) (h:AL w B (Sl (some ⟨g,0,none⟩) L.length c) L) (hBw:B<=w.heap.size) (hp:p<L.length) (hx:FL L p=⟨xi,0,xl,xr,xt,xf,xb,xc⟩) (hm:0<=m):
  Calls Pg 122 #[Sl (some ⟨g,0,none⟩) L.length c,Ii Jj p,.agg #[Ii Jj 8,Ii Jj i,Ii Jj t,Ii Jj m,Ii Jj r]] w fun e w'=>e=.returned (.tuple #[Sl (some ⟨g,0,none⟩) L.length c,Ii Jj 0])/\AL w' B (Sl (some ⟨g,0,none⟩) L.length c) (L.set p ⟨xi,0,m,xr,xt,xf,xb,xc⟩)/\Below B w w':=by
 have H:Hid (AL w B (Sl (some ⟨g,0,none⟩) L.length c) L):=h
 obtain ⟨hBg,hgz⟩:=h.block
 obtain ⟨p0,p1,p2,p3,p4,p5,p6,p7⟩:=h.acc hp
 rw[hx] at p0 p1 p2 p3 p4 p5 p6 p7
 have fz:∀j,w.frozen? ⟨g,j,none⟩=false:=fun j=>H.out.frozen j
 clear h hx
 go_enter Tryz.func122,Tryz.ntmps122
 go_wp2
 go_ret2
 exact ⟨rfl,World.ownsRow.alloc (World.ownsRow.alloc (H.out.stored8 hp ⟨xi,0,m,xr,xt,xf,xb,xc⟩) _) _,(((cN (Bf _ _) g (p*8) ⟨xi,0,m,xr,xt,xf,xb,xc⟩ hBg).alloc (by simp[bP];omega) _).alloc (by simp[bP];omega) _)⟩
theorem lm (B g c:Nat) (L:List al) (p:Nat) (i t m r xi xu xl xr xt xb xc:Int) (xf:Bool) (w:World) (h:AL w B (Sl (some ⟨g,0,none⟩) L.length c) L) (hBw:B<=w.heap.size) (hp:p<L.length) (hx:FL L p=⟨xi,xu,xl,xr,xt,xf,xb,xc⟩) (hu:xu≠0):
  Calls Pg 122 #[Sl (some ⟨g,0,none⟩) L.length c,Ii Jj p,.agg #[Ii Jj 8,Ii Jj i,Ii Jj t,Ii Jj m,Ii Jj r]] w fun e w'=>e=.returned (.tuple #[Sl (some ⟨g,0,none⟩) L.length c,Ii Jj 0])/\AL w' B (Sl (some ⟨g,0,none⟩) L.length c) (L.set p ⟨xi,xu,m,xr,xt,xf,xb,xc⟩)/\Below B w w':=by
 have H:Hid (AL w B (Sl (some ⟨g,0,none⟩) L.length c) L):=h
 obtain ⟨hBg,hgz⟩:=h.block
 obtain ⟨p0,p1,p2,p3,p4,p5,p6,p7⟩:=h.acc hp
 rw[hx] at p0 p1 p2 p3 p4 p5 p6 p7
 have fz:∀j,w.frozen? ⟨g,j,none⟩=false:=fun j=>H.out.frozen j
 clear h hx
 have hub:(xu == 0)=false:=by simp[hu]
 clear hu
 go_enter Tryz.func122,Tryz.ntmps122
 go_wp2
 go_ret2
 exact ⟨rfl,World.ownsRow.alloc (World.ownsRow.alloc (H.out.stored8 hp ⟨xi,xu,m,xr,xt,xf,xb,xc⟩) _) _,(((cN (Bf _ _) g (p*8) ⟨xi,xu,m,xr,xt,xf,xb,xc⟩ hBg).alloc (by simp[bP];omega) _).alloc (by simp[bP];omega) _)⟩
theorem li (B g c:Nat) (L:List al) (p:Nat) (i t m r xi xl xr xt xb xc:Int) (xf:Bool) (w:World) (h:AL w B (Sl (some ⟨g,0,none⟩) L.length c) L) (hBw:B<=w.heap.size) (hp:p<L.length) (hx:FL L p=⟨xi,0,xl,xr,xt,xf,xb,xc⟩):
  Calls Pg 122 #[Sl (some ⟨g,0,none⟩) L.length c,Ii Jj p,.agg #[Ii Jj 10,Ii Jj i,Ii Jj t,Ii Jj m,Ii Jj r]] w fun e w'=>e=.returned (.tuple #[Sl (some ⟨g,0,none⟩) L.length c,Ii Jj 8])/\AL w' B (Sl (some ⟨g,0,none⟩) L.length c) L/\Below B w w':=by
 have H:Hid (AL w B (Sl (some ⟨g,0,none⟩) L.length c) L):=h
 obtain ⟨hBg,hgz⟩:=h.block
 obtain ⟨p0,p1,p2,p3,p4,p5,p6,p7⟩:=h.acc hp
 rw[hx] at p0 p1 p2 p3 p4 p5 p6 p7
 have fz:∀j,w.frozen? ⟨g,j,none⟩=false:=fun j=>H.out.frozen j
 clear h hx
 go_enter Tryz.func122,Tryz.ntmps122
 go_wp2
 go_ret2
 exact ⟨rfl,World.ownsRow.alloc (World.ownsRow.alloc H.out _) _,(((Bf _ _).alloc hBw _).alloc (by simp;omega) _)⟩
theorem jO (B g c:Nat) (L:List al) (p:Nat) (i t m r xi xu xl xr xt xb xc:Int) (xf:Bool) (w:World) (h:AL w B (Sl (some ⟨g,0,none⟩) L.length c) L) (hBw:B<=w.heap.size) (hp:p<L.length) (hx:FL L p=⟨xi,xu,xl,xr,xt,xf,xb,xc⟩) (hu:xu≠0):
  Calls Pg 122 #[Sl (some ⟨g,0,none⟩) L.length c,Ii Jj p,.agg #[Ii Jj 10,Ii Jj i,Ii Jj t,Ii Jj m,Ii Jj r]] w fun e w'=>e=.returned (.tuple #[Sl (some ⟨g,0,none⟩) L.length c,Ii Jj 0])/\AL w' B (Sl (some ⟨g,0,none⟩) L.length c) (L.set p ⟨xi,xu,xl,xr,m,xf,xb,xc⟩)/\Below B w w':=by
 have H:Hid (AL w B (Sl (some ⟨g,0,none⟩) L.length c) L):=h
 obtain ⟨hBg,hgz⟩:=h.block
 obtain ⟨p0,p1,p2,p3,p4,p5,p6,p7⟩:=h.acc hp
 rw[hx] at p0 p1 p2 p3 p4 p5 p6 p7
 have fz:∀j,w.frozen? ⟨g,j,none⟩=false:=fun j=>H.out.frozen j
 clear h hx
 have hub:(xu == 0)=false:=by simp[hu]
 clear hu
 go_enter Tryz.func122,Tryz.ntmps122
 go_wp2
 go_ret2
 exact ⟨rfl,World.ownsRow.alloc (World.ownsRow.alloc (H.out.stored8 hp ⟨xi,xu,xl,xr,m,xf,xb,xc⟩) _) _,(((cN (Bf _ _) g (p*8) ⟨xi,xu,xl,xr,m,xf,xb,xc⟩ hBg).alloc (by simp[bP];omega) _).alloc (by simp[bP];omega) _)⟩
open Go.RowKit
theorem AL.set_other {w:World} {B g m c:Nat} {L:List al} (h:AL w B (Sl (some ⟨g,0,none⟩) m c) L) {k:Nat} (hk:k≠g) (o:Nat) (u:Value):AL (w.setCell ⟨k,o,none⟩ u) B (Sl (some ⟨g,0,none⟩) m c) L:=by
 refine World.ownsRow.kept (row:=some k) h (oZ w k o u) (Or.inr ?_)
 simp[Value.ownBlock]
 exact fun e=>hk e.symm
def fs (R:Int×List al) (B:Nat) (w:World) (e:Ending) (w':World):Prop:=∃v,e=.returned (.tuple #[v,Ii Jj R.1])/\AL w' B v R.2/\Below B w w'
open Classical in
noncomputable def eI (L:List al) (p:Nat) (m:Int):Int×List al:=
 if (gr (FL L) L.length [] p).getD 0<m then (6,L) else (0,L.set p {FL L p with balance:=(FL L p).balance-m})
theorem rn (B g c:Nat) (L:List al) (p:Nat) (i t m r xi xu xl xr xt xb xc:Int) (w:World) (h:AL w B (Sl (some ⟨g,0,none⟩) L.length c) L) (hBw:B<=w.heap.size) (hR:ap (FL L) L.length) (hp:p<L.length) (hx:FL L p=⟨xi,xu,xl,xr,xt,false,xb,xc⟩) (hm1:1<=m) (hm2:m<=1000000000000):
  Calls Pg 122 #[Sl (some ⟨g,0,none⟩) L.length c,Ii Jj p,.agg #[Ii Jj 6,Ii Jj i,Ii Jj t,Ii Jj m,Ii Jj r]] w fun e w'=>fs (eI L p m) B w e w':=by
 have H:Hid (AL w B (Sl (some ⟨g,0,none⟩) L.length c) L):=h
 have hn:=hR.1
 obtain ⟨hBg,hgz⟩:=h.block
 obtain ⟨p0,p1,p2,p3,p4,p5,p6,p7⟩:=h.acc hp
 rw[hx] at p0 p1 p2 p3 p4 p5 p6 p7
 have fz:∀j,w.frozen? ⟨g,j,none⟩=false:=fun j=>H.out.frozen j
 obtain ⟨xb1,xb2⟩: -1000000000000<=xb/\xb<=1000000000000:=by have:=(hR.2.1 p hp).2.2.2.2.2.1;rw[hx] at this;exact this
 have SR:Hid (∀w',Fo w' (some ⟨g,0,none⟩) L.length (FL L)->Calls Pg 138 #[Sl (some ⟨g,0,none⟩) L.length c,Ii Jj xi,Sl none 0 0] w' fun e w''=>e=.returned (.tuple #[Ii Jj ((gr (FL L) L.length [] p).getD 0),.bool (gr (FL L) L.length [] p).isSome])/\Below w'.heap.size w' w''):=fun w' h'=>by
  have:=mU (some ⟨g,0,none⟩) L.length c (FL L) [] p 0 (Sl none 0 0) w' h' hR hp (IL.nil _ _) (by simp)
  rw[hx] at this
  exact this
 have HF:Hid (Fo w (some ⟨g,0,none⟩) L.length (FL L)):=h.kept_fo (by omega)
 have XA:Hid (dD ((w.alloc (.cells #[Ii Jj 6,Ii Jj i,Ii Jj t,Ii Jj m,Ii Jj r] 33)).alloc (.cells #[Ii Jj xi,Ii Jj xu,Ii Jj xl,Ii Jj xr,Ii Jj xt,.bool false,Ii Jj xb,Ii Jj xc] 53)) (w.heap.size+1) ⟨xi,xu,xl,xr,xt,false,xb,xc⟩):=by
  have:=dD.new (w.alloc (.cells #[Ii Jj 6,Ii Jj i,Ii Jj t,Ii Jj m,Ii Jj r] 33)) ⟨xi,xu,xl,xr,xt,false,xb,xc⟩ 53
  have e:(w.alloc (.cells #[Ii Jj 6,Ii Jj i,Ii Jj t,Ii Jj m,Ii Jj r] 33)).heap.size=w.heap.size+1:=by simp
  rw[e] at this
  exact this
 have OB:Hid (aN ((w.alloc (.cells #[Ii Jj 6,Ii Jj i,Ii Jj t,Ii Jj m,Ii Jj r] 33)).alloc (.cells #[Ii Jj xi,Ii Jj xu,Ii Jj xl,Ii Jj xr,Ii Jj xt,.bool false,Ii Jj xb,Ii Jj xc] 53)) w.heap.size 6 i t m r):=(aN.new w 6 i t m r 33).below ((Bf _ _).alloc (Nf _) _)
 have HT:Hid (eI L p m=if (gr (FL L) L.length [] p).getD 0<m then (6,L) else (0,L.set p ⟨xi,xu,xl,xr,xt,false,xb-m,xc⟩)):=(by unfold eI;rw[hx]:eI L p m=if (gr (FL L) L.length [] p).getD 0<m then (6,L) else (0,L.set p ⟨xi,xu,xl,xr,xt,false,xb-m,xc⟩))
 clear h hR hx
 go_enter Tryz.func122,Tryz.ntmps122
 go_wp2_with fail
 refine (SR.out _ ((HF.out.alloc _).alloc _)).mono ?_
 rintro e w1 ⟨rfl,B1⟩
 have X1:Hid (dD w1 (w.heap.size+1) ⟨xi,xu,xl,xr,xt,false,xb,xc⟩):=XA.out.below B1
 have O1:Hid (aN w1 w.heap.size 6 i t m r):=OB.out.below B1
 have H1:Hid (AL w1 B (Sl (some ⟨g,0,none⟩) L.length c) L):=AL.kept (World.ownsRow.alloc (World.ownsRow.alloc H.out _) _) B1
 have BB:Hid (Below B w w1):=(((Bf _ _).alloc hBw _).alloc (by simp;omega) _).trans (B1.mono (by simp;omega))
 clear B1 XA OB SR HF H p0 p1 p2 p3 p4 p5 p6 p7 fz
 generalize gr (FL L) L.length [] p=z at HT
 obtain ⟨o0,o1,o2,o3,o4,oz⟩:=O1.out
 obtain ⟨⟨x0,x1,x2,x3,x4,x5,x6,x7⟩,xz,xs⟩:=X1.out
 simp only[Nat.zero_add] at x1 x2 x3 x4 x5 x6 x7
 by_cases hz:z.getD 0<m
 ·have E:Hid (eI L p m=(6,L)):=(by rw[HT.out,if_pos hz]:eI L p m=(6,L))
  clear HT
  go_wp2
  go_ret2
  rw[E.out]
  exact ⟨_,rfl,H1.out,BB.out⟩
 ·have fz:∀j,w1.frozen? ⟨g,j,none⟩=false:=fun j=>H1.out.frozen j
  obtain ⟨p0,p1,p2,p3,p4,p5,p6,p7⟩:=H1.out.acc hp
  have hne:¬w.heap.size+1=g:=by omega
  have hne':¬g=w.heap.size+1:=by omega
  have HA:Hid (AL (iE (w1.setCell ⟨w.heap.size+1,6,none⟩ (Ii Jj (xb-m))) g (p*8) ⟨xi,xu,xl,xr,xt,false,xb-m,xc⟩) B (Sl (some ⟨g,0,none⟩) L.length c) (L.set p ⟨xi,xu,xl,xr,xt,false,xb-m,xc⟩)):=(H1.out.set_other hne _ _).stored8 hp _
  have HB:Hid (Below B w (iE (w1.setCell ⟨w.heap.size+1,6,none⟩ (Ii Jj (xb-m))) g (p*8) ⟨xi,xu,xl,xr,xt,false,xb-m,xc⟩)):=cN (ed BB.out (by omega) _ _) g (p*8) _ hBg
  have E:Hid (eI L p m=(0,L.set p ⟨xi,xu,xl,xr,xt,false,xb-m,xc⟩)):=(by rw[HT.out,if_neg hz]:eI L p m=(0,L.set p ⟨xi,xu,xl,xr,xt,false,xb-m,xc⟩))
  clear X1 O1 H1 HT
  go_wp2
  go_ret2
  rw[E.out]
  exact ⟨_,rfl,HA.out,HB.out⟩
open Go.RowKit
section
variable {P:Program} (w:World)
theorem az {ops:Array Oper} {o:Oper} {a:Act} {K:Act->World->Prop} {Q:Exit->Act->World->Prop} {E:Prop} (hgd:o.guard=none) (s x:Operand) (t:TypeId)
  (ho:o.op=.call {callee:=.builtin .append,args:=#[s,x],argTypes:=#[t,t]})
  (base:Nat) (e:TypeId) (i:TypeInfo) (z:Value) (size bytes:Nat) (ht:P.underlying t=some (.slice e)) (hi:P.info? e=some i) (hz:i.zero=some z)
  (hsize:i.size=size) (hby:i.bytes=bytes) (hzs:z.cells.size=size) (hsz:0<size)
  (v:Value) (n:Nat) (xs:List Value) (hs:a.eval s=v) (hown:w.ownsRow base e size v n xs)
  (ad:Addr) (m c:Nat) (news:List Value) (hx:a.eval x=Sl (some ad) m c) (hl:news.length=m*size) (hnews:∀j u,news[j]? =some u->w.cell? (ad.add j)=some u) (h1:∀u ∈ news,u.oneCell'=true)
  (h63:n+m<=maxLen) (hbytes:(n+m)*bytes<=140737488355328) (hbase:base<=w.heap.size)
  (h:∀v' w',w'.ownsRow base e size v' (n+m) (xs++news)->w.grownBy w' v.ownBlock->K (a.put o.dst v') w'):
  if Region.wanted o (yielded ops a.tmps)=true then Oper.wp P o a w K Q else E:=by
 have hw:Region.wanted o (yielded ops a.tmps)=true:=by simp[Region.wanted,hgd]
 rw[if_pos hw]
 exact wp_append_own w s x t ho base e i z size bytes ht hi hz hsize hby hzs hsz v n xs hs hown ad m c news hx hl hnews h1 h63 hbytes hbase (fun v' w' h2 h3 _=>h v' w' h2 h3)
end
theorem AL.news {w:World} {B g c:Nat} {L:List al} (h:AL w B (Sl (some ⟨g,0,none⟩) L.length c) L) (q:Nat):∀j u,((L.drop q).flatMap ab)[j]? =some u->w.cell? ((⟨g,q*8,none⟩:Addr).add j)=some u:=by
 intro j u hj
 have hjl:j<(L.drop q).length*8:=by
  by_cases e:j<(L.drop q).length*8
  ·exact e
  ·rw[List.getElem?_eq_none (by rw[dT];omega)] at hj;cases hj
 have hd:j=(j / 8)*8+j % 8:=by omega
 have hq:j / 8<(L.drop q).length:=by omega
 rw[hd,gF _ _ _ hq (Nat.mod_lt _ (by omega))] at hj
 have e1:(⟨g,q*8,none⟩:Addr).add j=⟨g,(q+j / 8)*8+j % 8,none⟩:=by
  by_cases h0:j=0
  ·subst h0;simp[Addr.add]
  ·simp only[Addr.add,h0];simp;omega
 have hqi:q+j / 8<L.length:=by simp at hq;omega
 rw[e1]
 have hA:=h.acc hqi
 rw[eB hqi] at hA
 have e2:(L.drop q)[j / 8]=L[q+j / 8]:=by simp
 rw[e2] at hj
 obtain ⟨c0,c1,c2,c3,c4,c5,c6,c7⟩:=hA
 have hm:j % 8<8:=Nat.mod_lt _ (by omega)
 generalize L[q+j / 8]=x at*
 generalize j % 8=m at*
 match m,hm with
 | 0,_=>simpa [ab] using c0.trans hj
 | 1,_=>simpa [ab] using c1.trans hj
 | 2,_=>simpa [ab] using c2.trans hj
 | 3,_=>simpa [ab] using c3.trans hj
 | 4,_=>simpa [ab] using c4.trans hj
 | 5,_=>simpa [ab] using c5.trans hj
 | 6,_=>simpa [ab] using c6.trans hj
 | 7,_=>simpa [ab] using c7.trans hj
theorem eN (L:List al):∀u ∈ L.flatMap ab,u.oneCell'=true:=by
 intro u hu
 obtain ⟨x,_,hx⟩:=List.mem_flatMap.1 hu
 simp only[ab,List.mem_cons,List.not_mem_nil,or_false] at hx
 rcases hx with e|e|e|e|e|e|e|e <;>subst e <;>rfl
theorem AL.cap {w:World} {B g c:Nat} {L:List al} (h:AL w B (Sl (some ⟨g,0,none⟩) L.length c) L):L.length<=c/\c<=maxLen:=by
 rcases h.2 with ⟨hv,_⟩|⟨g',c',cur,hv,_,_,h1,h2,_⟩
 ·cases hv
 ·have:c=c':=(Value.slice.inj hv).2.2
  subst this
  exact ⟨h1,h2⟩
open Classical in
noncomputable def cG (L:List al) (p:Nat):Int×List al:=
 if (FL L p).balance≠0\/dm (FL L) (FL L p).id L.length≠[] then (8,L) else (0,L.take p++L.drop (p+1))
theorem rm (B g c:Nat) (L:List al) (p:Nat) (i t m r xi xu xl xr xt xb xc:Int) (w:World) (h:AL w B (Sl (some ⟨g,0,none⟩) L.length c) L) (hBw:B<=w.heap.size) (hR:ap (FL L) L.length) (hp:p<L.length) (hx:FL L p=⟨xi,xu,xl,xr,xt,false,xb,xc⟩):
  Calls Pg 122 #[Sl (some ⟨g,0,none⟩) L.length c,Ii Jj p,.agg #[Ii Jj 4,Ii Jj i,Ii Jj t,Ii Jj m,Ii Jj r]] w fun e w'=>fs (cG L p) B w e w':=by
 have H:Hid (AL w B (Sl (some ⟨g,0,none⟩) L.length c) L):=h
 have hn:=hR.1
 have HR:Hid (ap (FL L) L.length):=hR
 obtain ⟨hBg,hgz⟩:=h.block
 obtain ⟨p0,p1,p2,p3,p4,p5,p6,p7⟩:=h.acc hp
 rw[hx] at p0 p1 p2 p3 p4 p5 p6 p7
 have fz:∀j,w.frozen? ⟨g,j,none⟩=false:=fun j=>H.out.frozen j
 have HF:Hid (Fo w (some ⟨g,0,none⟩) L.length (FL L)):=h.kept_fo (by omega)
 have HT:Hid (cG L p=if xb≠0\/dm (FL L) xi L.length≠[] then (8,L) else (0,L.take p++L.drop (p+1))):=(by unfold cG;rw[hx]:cG L p=if xb≠0\/dm (FL L) xi L.length≠[] then (8,L) else (0,L.take p++L.drop (p+1)))
 clear h hR hx
 by_cases hb:xb=0
 ·have hbb:(xb != 0)=false:=by simp[hb]
  have HT2:Hid (cG L p=if dm (FL L) xi L.length≠[] then (8,L) else (0,L.take p++L.drop (p+1))):=(by rw[HT.out];simp[hb]:cG L p=if dm (FL L) xi L.length≠[] then (8,L) else (0,L.take p++L.drop (p+1)))
  clear hb HT
  go_enter Tryz.func122,Tryz.ntmps122
  go_wp2_with fail
  refine (lx _ L.length c (FL L) xi _ ((HF.out.alloc _).alloc _) HR.out).mono ?_
  rintro e w1 ⟨v,rfl,I1,B1⟩
  have H1:Hid (AL w1 B (Sl (some ⟨g,0,none⟩) L.length c) L):=AL.kept (World.ownsRow.alloc (World.ownsRow.alloc H.out _) _) B1
  have BB:Hid (Below B w w1):=(((Bf _ _).alloc hBw _).alloc (by simp;omega) _).trans (B1.mono (by simp;omega))
  obtain ⟨va,vm,rfl,_,_⟩:=I1.shape
  have hkl:=jq (FL L) xi L.length
  clear B1 I1 HF H p0 p1 p2 p3 p4 p5 p6 p7 fz
  generalize dm (FL L) xi L.length=K at*
  cases K with
  | cons k0 K=>
   have E:Hid (cG L p=(8,L)):=(by rw[HT2.out,if_pos (by simp)]:cG L p=(8,L))
   have hlen:(0:Int)<((k0::K).length:Int):=by simp
   clear HT2
   go_wp2
   go_ret2
   rw[E.out]
   exact ⟨_,rfl,H1.out,BB.out⟩
  | nil=>
   have E:Hid (cG L p=(0,L.take p++L.drop (p+1))):=(by rw[HT2.out,if_neg (by simp)]:cG L p=(0,L.take p++L.drop (p+1)))
   clear HT2
   have HF1:Hid (Fo w1 (some ⟨g,0,none⟩) p (FL (L.take p))):=by
    have h1:=H1.out.kept_fo (by omega)
    refine ⟨by omega,?_⟩
    rcases h1.2 with h0|⟨b,o,ha,hb,hall⟩
    ·omega
    ·refine Or.inr ⟨b,o,ha,hb,fun j hj=>?_⟩
     have e:FL (L.take p) j=FL L j:=by
      rw[eB (by simp;omega),eB (show j<L.length by omega)]
      simp
     rw[e]
     exact hall j (by omega)
   have HL:Hid (p=(L.take p).length):=(by simp;omega:p=(L.take p).length)
   obtain ⟨i0,hi,hz0,hz1,hz2⟩:=info_parts ge
   obtain ⟨hc1,hc2⟩:=H1.out.cap
   unfold maxLen at hc2
   have b0:(0:Int)<=(p:Int):=by omega
   have b1:(p:Int)<=(c:Int):=by omega
   have b2:(p:Int)+1<=(c:Int):=by omega
   have b3:(0:Int)<=(p:Int)+1:=by omega
   have b4:(p:Int)+1<=(L.length:Int):=by omega
   have b5:IntKind.i64.wrap ((p:Int)+1)=(p:Int)+1:=by rw[IntKind.wrap_i64];omega
   have HF2:Hid (Fo w1.drew (some ⟨g,0,none⟩) p (FL (L.take p))):=HF1.out
   go_wp2_with fail
   have hDl:Hid (((L.drop (p+1)).flatMap ab).length=(L.length-(p+1))*8):=(by rw[dT];simp:((L.drop (p+1)).flatMap ab).length=(L.length-(p+1))*8)
   have h63:Hid ((L.take p).length+(L.length-(p+1))<=maxLen):=(by unfold maxLen;simp;omega:(L.take p).length+(L.length-(p+1))<=maxLen)
   have hby:Hid (((L.take p).length+(L.length-(p+1)))*64<=140737488355328):=(by simp;omega:((L.take p).length+(L.length-(p+1)))*64<=140737488355328)
   have H1d:Hid (AL w1.drew B (Sl (some ⟨g,0,none⟩) L.length c) L):=H1.out
   by_cases hcp:c=p+1
   ·have hdrop:Hid (∀(x:World) j u,((L.drop (p+1)).flatMap ab)[j]? =some u->x.cell? ((⟨g,0,none⟩:Addr).add j)=some u):=fun x j u hj=>by
     rw[List.drop_eq_nil_of_le (by omega)] at hj
     simp at hj
    subst hcp
    have b6:(p:Int)<=(p:Int)+1:=by omega
    have b7:(0:Int)<=(p:Int)+1:=by omega
    have b8:(p:Int)+1<=(p:Int)+1:=by omega
    clear hc1 hc2 b1 b2
    go_region_held3? (fun _=>True) (trivial) (first|(go_at_call 118;refine (dX (some ⟨g,0,none⟩) p (p+1) (L.take p) w1.drew HL.out HF2.out).mono ?_;rintro e w2 ⟨v2,rfl,A2,B2⟩)|(refine az _ (by rfl) _ _ 24 (by rfl) w1.heap.size 53 i0 _ 8 64 Tryz.underlying24 hi hz0 hz1 hz2 rfl (by decide) _ _ _ (by rfl) A2 ⟨g,0,none⟩ (L.length-(p+1)) _ ((L.drop (p+1)).flatMap ab) (by rfl) hDl.out (hdrop.out _) (eN _) h63.out hby.out B2.size ?_;intro v3 w3 hown hgrow))
    have A3:Hid (AL w3 B v3 (L.take p++L.drop (p+1))):=by
     have a3:AL w3 w1.heap.size v3 (L.take p++L.drop (p+1)):=by
      unfold AL
      rw[List.flatMap_append,List.length_append,List.length_drop]
      exact hown
     exact a3.mono (Nat.le_trans hBw BB.out.size)
    have B3:Hid (Below B w w3):=by
     have b2:Below B w w2:=Below.trans (show Below B w w1.drew from ⟨BB.out.os,BB.out.tape,BB.out.output,BB.out.size,BB.out.block⟩) (B2.mono (Nat.le_trans hBw BB.out.size))
     exact b2.grown hgrow (Nat.le_trans hBw b2.size) (fun q hq=>Nat.le_trans (Nat.le_trans hBw BB.out.size) (World.ownsRow.lt A2 q hq).1)
    clear hown hgrow A2 B2
    go_wp2
    go_ret2
    rw[E.out]
    exact ⟨_,rfl,A3.out,B3.out⟩
   ·go_region_held3 (fun _=>True) (trivial) (first|(go_at_call 118;refine (dX (some ⟨g,0,none⟩) p c (L.take p) w1.drew HL.out HF2.out).mono ?_;rintro e w2 ⟨v2,rfl,A2,B2⟩)|(refine az _ (by rfl) _ _ 24 (by rfl) w1.heap.size 53 i0 _ 8 64 Tryz.underlying24 hi hz0 hz1 hz2 rfl (by decide) _ _ _ (by rfl) A2 ⟨g,(p+1)*8,none⟩ (L.length-(p+1)) (c-(p+1)) ((L.drop (p+1)).flatMap ab) (by rfl) hDl.out (AL.news (H1d.out.kept B2) (p+1)) (eN _) h63.out hby.out B2.size ?_;intro v3 w3 hown hgrow))
    have A3:Hid (AL w3 B v3 (L.take p++L.drop (p+1))):=by
     have a3:AL w3 w1.heap.size v3 (L.take p++L.drop (p+1)):=by
      unfold AL
      rw[List.flatMap_append,List.length_append,List.length_drop]
      exact hown
     exact a3.mono (Nat.le_trans hBw BB.out.size)
    have B3:Hid (Below B w w3):=by
     have b2:Below B w w2:=Below.trans (show Below B w w1.drew from ⟨BB.out.os,BB.out.tape,BB.out.output,BB.out.size,BB.out.block⟩) (B2.mono (Nat.le_trans hBw BB.out.size))
     exact b2.grown hgrow (Nat.le_trans hBw b2.size) (fun q hq=>Nat.le_trans (Nat.le_trans hBw BB.out.size) (World.ownsRow.lt A2 q hq).1)
    clear hown hgrow A2 B2
    go_wp2
    go_ret2
    rw[E.out]
    exact ⟨_,rfl,A3.out,B3.out⟩
 ·have hbb:(xb != 0)=true:=by simp[hb]
  have E:Hid (cG L p=(8,L)):=(by rw[HT.out,if_pos (Or.inl hb)]:cG L p=(8,L))
  clear hb HT
  go_enter Tryz.func122,Tryz.ntmps122
  go_wp2
  go_ret2
  rw[E.out]
  exact ⟨_,rfl,World.ownsRow.alloc (World.ownsRow.alloc H.out _) _,(((Bf _ _).alloc hBw _).alloc (by simp;omega) _)⟩
open Go.RowKit
def eW (L:List al) (i:Int):Nat:=(L.takeWhile (fun a=>decide (a.id<i))).length
theorem le:∀(L:List al) (i:Int) (k:Nat),k<=L.length->(∀j,j<k->(FL L j).id<i)->(k<L.length->¬(FL L k).id<i)->eW L i=k
 | [],i,k,hk,_,_=>by simp at hk;subst hk;rfl
 | x::L,i,0,_,_,h=>by
  have h0:=h (by simp)
  have e:FL (x::L) 0=x:=rfl
  rw[e] at h0
  simp[eW,h0]
 | x::L,i,k+1,hk,hlo,hhi=>by
  have h0:x.id<i:=hlo 0 (by omega)
  have ih:=le L i k (by simpa using hk) (fun j hj=>by have:=hlo (j+1) (by omega);simpa [FL,List.getD] using this) (fun hl=>by have:=hhi (by simpa using hl);simpa [FL,List.getD] using this)
  unfold eW at ih ⊢
  simp[h0,ih]
open Classical in
noncomputable def da (L:List al) (i t m r:Int):Int×List al:=
 if (aB (FL L) L.length i).isSome=true then (4,L) else if t≠0/\aB (FL L) L.length t=none then (3,L) else
  (0,L.take (eW L i)++(⟨i,t,m,r,-1,false,0,0⟩:al)::L.drop (eW L i))
theorem AL.fo_take {w:World} {B g c:Nat} {L:List al} (h:AL w B (Sl (some ⟨g,0,none⟩) L.length c) L) {k:Nat} (hk:k<=L.length) (hl:L.length<=1048576):Fo w (some ⟨g,0,none⟩) k (FL (L.take k)):=by
 refine ⟨by omega,?_⟩
 by_cases h0:k=0
 ·exact Or.inl h0
 ·refine Or.inr ⟨g,0,rfl,h.block.2,fun j hj=>?_⟩
  have e:FL (L.take k) j=FL L j:=by
   rw[eB (by simp;omega),eB (show j<L.length by omega)]
   simp
  rw[e]
  simpa using h.acc (show j<L.length by omega)
theorem dD.grown {w w':World} {R:Nat} {x:al} {row:Option Nat} (h:dD w R x) (hg:w.grownBy w' row) (hne:row≠some R):dD w' R x:=by
 have hb:w'.heap[R]? =w.heap[R]? :=hg.block R h.2.2 (fun e=>hne e.symm)
 refine ⟨h.1.of_cells (fun q=>World.cell?_of_block hb),fun o=>?_,Nat.lt_of_lt_of_le h.2.2 hg.size⟩
 have:=h.2.1 o
 unfold World.frozen? at this ⊢
 simp only[hb]
 exact this
theorem gT {w:World} {R:Nat} {x:al} (h:dD w R x):w.cell? ⟨R,0,none⟩=some (Ii Jj x.id)/\w.cell? ⟨R,1,none⟩=some (Ii Jj x.up)/\w.cell? ⟨R,2,none⟩=some (Ii Jj x.limit)/\w.cell? ⟨R,3,none⟩=some (Ii Jj x.rate)/\
  w.cell? ⟨R,4,none⟩=some (Ii Jj x.target)/\w.cell? ⟨R,5,none⟩=some (.bool x.frozen)/\w.cell? ⟨R,6,none⟩=some (Ii Jj x.balance)/\w.cell? ⟨R,7,none⟩=some (Ii Jj x.carry):=by
 have:=h.1
 unfold eA at this
 simpa only[Nat.zero_add] using this
theorem gI {w:World} {R:Nat} {x:al} (h:dD w R x):∀j u,(ab x)[j]? =some u->w.cell? ((⟨R,0,none⟩:Addr).add j)=some u:=by
 obtain ⟨c0,c1,c2,c3,c4,c5,c6,c7⟩:=gT h
 intro j u hj
 have hj8:j<8:=by
  by_cases e:j<8
  ·exact e
  ·rw[List.getElem?_eq_none (by simp[ab];omega)] at hj;cases hj
 have hcase:j=0\/j=1\/j=2\/j=3\/j=4\/j=5\/j=6\/j=7:=by omega
 rcases hcase with e|e|e|e|e|e|e|e <;>subst e <;>simp[ab] at hj <;>subst hj <;>simp[Addr.add,go_sem, *]
theorem gJ {B V0:Nat} {w V wx w3:World} {k:Nat} {L:List al} {x:al} {v2 v3:Value} (hV:V0=V.heap.size) (hB:B<=V0) (BV:Below B w V) (h2:Below V0 V wx) (hA:AL wx V0 v2 (L.take k)) (hown:w3.ownsRow V0 53 8 v3 ((L.take k).length+1) ((L.take k).flatMap ab++ab x)) (hgrow:wx.grownBy w3 v2.ownBlock):
  AL w3 B v3 (L.take k++[x])/\(∀q,v3.ownBlock=some q->V.heap.size<=q)/\Below B w w3/\Below V.heap.size V w3:=by
 subst hV
 have a3:AL w3 V.heap.size v3 (L.take k++[x]):=by
  unfold AL
  rw[List.flatMap_append,List.length_append]
  simpa using hown
 have hlt:=World.ownsRow.lt hA
 refine ⟨a3.mono hB,fun q hq=>(World.ownsRow.lt a3 q hq).1,?_,?_⟩
 ·exact (BV.trans (h2.mono hB)).grown hgrow (Nat.le_trans hB h2.size) (fun q hq=>Nat.le_trans hB (hlt q hq).1)
 ·exact h2.grown hgrow h2.size (fun q hq=>(hlt q hq).1)
theorem rA (B g c:Nat) (L:List al) (i t m r:Int) (w:World) (h:AL w B (Sl (some ⟨g,0,none⟩) L.length c) L) (hBw:B<=w.heap.size) (hn:L.length<=12):
  Calls Pg 119 #[Sl (some ⟨g,0,none⟩) L.length c,.agg #[Ii Jj 1,Ii Jj i,Ii Jj t,Ii Jj m,Ii Jj r]] w fun e w'=>fs (da L i t m r) B w e w':=by
 have H:Hid (AL w B (Sl (some ⟨g,0,none⟩) L.length c) L):=h
 obtain ⟨hBg,hgz⟩:=h.block
 have HF:Hid (Fo w (some ⟨g,0,none⟩) L.length (FL L)):=h.kept_fo (by omega)
 clear h
 cases hpi:aB (FL L) L.length i with
 | some q=>
  have E:Hid (da L i t m r=(4,L)):=(by unfold da;rw[hpi];rfl:da L i t m r=(4,L))
  have P:Hid (aT (FL L) L.length i=(q:Int)):=aX hpi
  clear hpi
  go_enter Tryz.func119,Tryz.ntmps119
  go_wp2_with fail
  refine (bE _ L.length c (FL L) i _ (HF.out.alloc _)).mono ?_
  rintro e w0 ⟨rfl,hw0⟩
  subst hw0
  rw[P.out]
  go_wp2
  go_ret2
  rw[E.out]
  exact ⟨_,rfl,World.ownsRow.alloc H.out _,(Bf _ _).alloc hBw _⟩
 | none=>
  have P:Hid (aT (FL L) L.length i= -1):=bL hpi
  by_cases hno:t≠0/\aB (FL L) L.length t=none
  ·have E:Hid (da L i t m r=(3,L)):=(by unfold da;rw[hpi,if_neg (by simp),if_pos hno]:da L i t m r=(3,L))
   have htb:(t != 0)=true:=by simp[hno.1]
   have P2:Hid (aT (FL L) L.length t= -1):=bL hno.2
   clear hpi hno
   go_enter Tryz.func119,Tryz.ntmps119
   go_wp2_with fail
   refine (bE _ L.length c (FL L) i _ (HF.out.alloc _)).mono ?_
   rintro e w0 ⟨rfl,hw0⟩
   subst hw0
   rw[P.out]
   go_wp2_with fail
   refine (bE _ L.length c (FL L) t _ (HF.out.alloc _)).mono ?_
   rintro e w0 ⟨rfl,hw0⟩
   subst hw0
   rw[P2.out]
   go_wp2
   go_ret2
   rw[E.out]
   exact ⟨_,rfl,World.ownsRow.alloc H.out _,(Bf _ _).alloc hBw _⟩
  ·have E:Hid (da L i t m r=(0,L.take (eW L i)++(⟨i,t,m,r,-1,false,0,0⟩:al)::L.drop (eW L i))):=(by unfold da;rw[hpi,if_neg (by simp),if_neg hno]:da L i t m r=(0,L.take (eW L i)++(⟨i,t,m,r,-1,false,0,0⟩:al)::L.drop (eW L i)))
   have HT:Hid (t=0\/t≠0/\∃q:Nat,aT (FL L) L.length t=(q:Int)):=by
    by_cases ht:t=0
    ·exact Or.inl ht
    ·refine Or.inr ⟨ht,?_⟩
     cases hq:aB (FL L) L.length t with
     | none=>exact absurd ⟨ht,hq⟩ hno
     | some q=>exact ⟨q,aX hq⟩
   clear hpi hno
   go_enter Tryz.func119,Tryz.ntmps119
   go_wp2_with fail
   refine (bE _ L.length c (FL L) i _ (HF.out.alloc _)).mono ?_
   rintro e w0 ⟨rfl,hw0⟩
   subst hw0
   rw[P.out]
   go_upto_region 3 with fail
   go_cut[24] (fun s24 wx=>s24=.bool false/\wx=w.alloc (.cells #[Ii Jj 1,Ii Jj i,Ii Jj t,Ii Jj m,Ii Jj r] 33))
   case first=>
    rcases HT.out with ht|⟨ht,q,hq⟩
    ·have htb:(t != 0)=false:=by simp[ht]
     clear ht
     go_wp2
     go_meet
     exact ⟨rfl,rfl⟩
    ·have htb:(t != 0)=true:=by simp[ht]
     have PQ:Hid (aT (FL L) L.length t=(q:Int)):=hq
     clear ht hq
     go_wp2_with fail
     refine (bE _ L.length c (FL L) t _ (HF.out.alloc _)).mono ?_
     rintro e w0 ⟨rfl,hw0⟩
     subst hw0
     rw[PQ.out]
     go_wp2
     go_meet
     exact ⟨rfl,rfl⟩
   case rest=>
    obtain ⟨rfl,rfl⟩:=hcut
    obtain ⟨W,hW⟩:∃W,W=(w.alloc (.cells #[Ii Jj 1,Ii Jj i,Ii Jj t,Ii Jj m,Ii Jj r] 33)).alloc (.cells #[Ii Jj i,Ii Jj t,Ii Jj m,Ii Jj r,Ii Jj (-1),.bool false,Ii Jj 0,Ii Jj 0] 53):=⟨_,rfl⟩
    have AW:Hid (AL W B (Sl (some ⟨g,0,none⟩) L.length c) L):=by rw[hW];exact World.ownsRow.alloc (World.ownsRow.alloc H.out _) _
    have OW:Hid (aN W w.heap.size 1 i t m r):=by rw[hW];exact (aN.new w 1 i t m r 33).below ((Bf _ _).alloc (Nf _) _)
    have XW:Hid (dD W (w.heap.size+1) ⟨i,t,m,r,-1,false,0,0⟩):=by
     have:=dD.new (w.alloc (.cells #[Ii Jj 1,Ii Jj i,Ii Jj t,Ii Jj m,Ii Jj r] 33)) ⟨i,t,m,r,-1,false,0,0⟩ 53
     have e:(w.alloc (.cells #[Ii Jj 1,Ii Jj i,Ii Jj t,Ii Jj m,Ii Jj r] 33)).heap.size=w.heap.size+1:=by simp
     rw[e] at this
     rw[hW]
     exact this
    have BW:Hid (Below B w W):=by rw[hW];exact ((Bf _ _).alloc hBw _).alloc (by simp;omega) _
    obtain ⟨o0,o1,o2,o3,o4,oz⟩:=OW.out
    go_wp2
    rw[←hW]
    clear hW
    go_loopw[7] (fun q wr=>∃(k d:Nat),k<=L.length/\q=Ii Jj k/\wr=W.drewN d/\Hid (∀j,j<k->(FL L j).id<i)) (fun q _=>L.length-(intOf q).toNat)
    case atStart=>exact ⟨0,0,Nat.zero_le _,rfl,rfl,fun j hj=>absurd hj (Nat.not_lt_zero _)⟩
    case round=>
     obtain ⟨k,d,hk,rfl,rfl,hlo⟩:=hrel
     by_cases hlt:k<L.length
     ·have hA:=AW.out.acc hlt
      have c0:=hA.1
      have hk0:(k:Int)<(L.length:Int):=by omega
      clear hA
      by_cases hid:(FL L k).id<i
      ·have HN:Hid (∀j,j<k+1->(FL L j).id<i):=fun j hj=>by
        by_cases e:j=k
        ·rw[e];exact hid
        ·exact hlo.out j (by omega)
       go_wp2
       go_quiet (fail)
       go_wp2
       go_roundw
       case rel=>exact ⟨k+1,_,by omega,by go_num,rfl,HN⟩
       case measure=>simp[intOf];omega
      ·have HK:Hid (eW L i=k):=le L i k hk hlo.out (fun _=>hid)
       go_wp2
       go_quiet (fail)
       go_wp2_with fail
       generalize hV:(W.drewN d).drewN nq=V
       have AV:Hid (AL V B (Sl (some ⟨g,0,none⟩) L.length c) L):=by rw[←hV];exact AW.out
       have XV:Hid (dD V (w.heap.size+1) ⟨i,t,m,r,-1,false,0,0⟩):=by rw[←hV];exact XW.out
       have BV:Hid (Below B w V):=by rw[←hV];exact ⟨BW.out.os,BW.out.tape,BW.out.output,BW.out.size,BW.out.block⟩
       clear hV
       go_cut[8] (fun s8 wx=>Hid (AL wx B s8 (L.take k++[(⟨i,t,m,r,-1,false,0,0⟩:al)])/\(∀q,s8.ownBlock=some q->V.heap.size<=q)/\Below B w wx/\Below V.heap.size V wx))
       case first=>
        obtain ⟨i0,hi,hz0,hz1,hz2⟩:=info_parts ge
        obtain ⟨hc1,hc2⟩:=AV.out.cap
        unfold maxLen at hc2
        have b0:(0:Int)<=(k:Int):=by omega
        have b1:(k:Int)<=(c:Int):=by omega
        have HL:Hid (k=(L.take k).length):=(by simp;omega:k=(L.take k).length)
        have HFv:Hid (Fo V (some ⟨g,0,none⟩) k (FL (L.take k))):=AV.out.fo_take hk (by omega)
        have HFa:Hid (Fo V.drew (some ⟨g,0,none⟩) k (FL (L.take k))):=HFv.out
        have HFb:Hid (Fo (V.drew.alloc (.cells #[Ii Jj i,Ii Jj t,Ii Jj m,Ii Jj r,Ii Jj (-1),.bool false,Ii Jj 0,Ii Jj 0] 53)) (some ⟨g,0,none⟩) k (FL (L.take k))):=Fo.alloc (w:=V.drew) HFv.out _
        have hBV:B<=V.heap.size:=Nat.le_trans hBw BV.out.size
        have BD:Hid (Below V.heap.size V V.drew):=⟨rfl,rfl,rfl,Nf _,fun _ _=>rfl⟩
        have hR:w.heap.size+1<V.heap.size:=XV.out.2.2
        have hs1:Hid (V.heap.size<=(V.drew.alloc (.cells #[Ii Jj i,Ii Jj t,Ii Jj m,Ii Jj r,Ii Jj (-1),.bool false,Ii Jj 0,Ii Jj 0] 53)).heap.size):=(by rw[World.size_alloc];exact Nat.le_succ _:V.heap.size<=(V.drew.alloc (.cells #[Ii Jj i,Ii Jj t,Ii Jj m,Ii Jj r,Ii Jj (-1),.bool false,Ii Jj 0,Ii Jj 0] 53)).heap.size)
        have NB:Hid (dD (V.drew.alloc (.cells #[Ii Jj i,Ii Jj t,Ii Jj m,Ii Jj r,Ii Jj (-1),.bool false,Ii Jj 0,Ii Jj 0] 53)) V.heap.size ⟨i,t,m,r,-1,false,0,0⟩):=dD.new V.drew ⟨i,t,m,r,-1,false,0,0⟩ 53
        have BA:Hid (Below V.heap.size V.drew (V.drew.alloc (.cells #[Ii Jj i,Ii Jj t,Ii Jj m,Ii Jj r,Ii Jj (-1),.bool false,Ii Jj 0,Ii Jj 0] 53))):=(Bf V.heap.size V.drew).alloc (Nf V.heap.size) _
        have h63:Hid ((L.take k).length+1<=maxLen):=(by unfold maxLen;simp;omega:(L.take k).length+1<=maxLen)
        have hby:Hid (((L.take k).length+1)*64<=140737488355328):=(by simp;omega:((L.take k).length+1)*64<=140737488355328)
        have h1c:Hid (∀u ∈ ab ⟨i,t,m,r,-1,false,0,0⟩,u.oneCell'=true):=by
         intro u hu
         simp only[ab,List.mem_cons,List.not_mem_nil,or_false] at hu
         rcases hu with e|e|e|e|e|e|e|e <;>subst e <;>rfl
        go_region_held3 (fun w'=>w'.cell? ⟨w.heap.size+1,0,none⟩=some (Ii Jj i)/\w'.cell? ⟨w.heap.size+1,1,none⟩=some (Ii Jj t)/\w'.cell? ⟨w.heap.size+1,2,none⟩=some (Ii Jj m)/\w'.cell? ⟨w.heap.size+1,3,none⟩=some (Ii Jj r)/\w'.cell? ⟨w.heap.size+1,4,none⟩=some (Ii Jj (-1))/\w'.cell? ⟨w.heap.size+1,5,none⟩=some (.bool false)/\w'.cell? ⟨w.heap.size+1,6,none⟩=some (Ii Jj 0)/\w'.cell? ⟨w.heap.size+1,7,none⟩=some (Ii Jj 0))
         (first|exact gT Y3.out|exact gT XV.out|exact gT (dD.below (w:=V.drew) XV.out B2)|exact gT ((dD.below (w:=V.drew) XV.out ((Bf _ _).alloc (Nf _) _)).below B2)|exact gT (dD.below (w:=V.drew) XV.out ((Bf _ _).alloc (Nf _) _))|exact gT ((dD.below (w:=V.drew) XV.out B2).below ((Bf _ _).alloc (Nf _) _)))
         (first
          | (go_at_call 118;refine (dX (some ⟨g,0,none⟩) k c (L.take k) V.drew HL.out HFa.out).mono ?_;rintro e w2 ⟨v2,rfl,A2,B2⟩)
          | (go_at_call 118;refine (dX (some ⟨g,0,none⟩) k c (L.take k) (V.drew.alloc (.cells #[Ii Jj i,Ii Jj t,Ii Jj m,Ii Jj r,Ii Jj (-1),.bool false,Ii Jj 0,Ii Jj 0] 53)) HL.out HFb.out).mono ?_;rintro e w2 ⟨v2,rfl,A2,B2⟩)
          | (refine az _ (by rfl) _ _ 24 (by rfl) V.heap.size 53 i0 _ 8 64 Tryz.underlying24 hi hz0 hz1 hz2 rfl (by decide) _ _ _ (by rfl) (World.ownsRow.alloc A2 (.cells #[Ii Jj i,Ii Jj t,Ii Jj m,Ii Jj r,Ii Jj (-1),.bool false,Ii Jj 0,Ii Jj 0] 53)) ⟨w2.heap.size,0,none⟩ 1 1 (ab ⟨i,t,m,r,-1,false,0,0⟩) (by rfl) rfl (gI (dD.new w2 ⟨i,t,m,r,-1,false,0,0⟩ 53)) h1c.out h63.out hby.out (Nat.le_trans B2.size (by simp)) ?_;intro v3 w3 hown hgrow;have F3:=gJ rfl hBV BV.out (BD.out.trans (B2.alloc B2.size _)) (World.ownsRow.alloc A2 (.cells #[Ii Jj i,Ii Jj t,Ii Jj m,Ii Jj r,Ii Jj (-1),.bool false,Ii Jj 0,Ii Jj 0] 53)) hown hgrow;have Y3:Hid (dD w3 (w.heap.size+1) ⟨i,t,m,r,-1,false,0,0⟩):=dD.grown ((dD.below (w:=V.drew) XV.out B2).below ((Bf _ _).alloc (Nf _) _)) hgrow (fun e=>by have:=(World.ownsRow.lt A2 _ e).1;have:w.heap.size+1<V.heap.size:=hR;simp at *;omega))
          | (refine az _ (by rfl) _ _ 24 (by rfl) V.heap.size 53 i0 _ 8 64 Tryz.underlying24 hi hz0 hz1 hz2 rfl (by decide) _ _ _ (by rfl) (AL.mono A2 hs1.out) ⟨V.heap.size,0,none⟩ 1 1 (ab ⟨i,t,m,r,-1,false,0,0⟩) (by rfl) rfl (gI ((NB.out).below B2)) h1c.out h63.out hby.out (Nat.le_trans hs1.out B2.size) ?_;intro v3 w3 hown hgrow;have F3:=gJ rfl hBV BV.out (BD.out.trans ((BA.out).trans (B2.mono hs1.out))) (AL.mono A2 hs1.out) hown hgrow;have Y3:Hid (dD w3 (w.heap.size+1) ⟨i,t,m,r,-1,false,0,0⟩):=dD.grown ((dD.below (w:=V.drew) XV.out ((Bf _ _).alloc (Nf _) _)).below B2) hgrow (fun e=>by have:=(World.ownsRow.lt A2 _ e).1;have:w.heap.size+1<V.heap.size:=hR;simp at *;omega)))
        all_goals (go_wp2_with fail;go_meet;exact F3)
       case rest=>
        obtain ⟨A8,hq8,B8,BV8⟩:=hcut.out
        have A8':Hid (AL wc B _ (L.take k++[(⟨i,t,m,r,-1,false,0,0⟩:al)])):=A8
        have B8':Hid (Below B w wc):=B8
        have AF:Hid (AL wc B (Sl (some ⟨g,0,none⟩) L.length c) L):=AV.out.kept BV8
        clear hcut B8 BV8
        obtain ⟨a8,c8,h8⟩:=A8.len
        subst h8
        have Q8:Hid (∀n q,(Value.slice a8 n c8).ownBlock=some q->V.heap.size<=q):=fun n q h=>hq8 q (by cases a8 <;>exact h)
        clear A8 hq8
        obtain ⟨i0,hi,hz0,hz1,hz2⟩:=info_parts ge
        obtain ⟨hc1,hc2⟩:=AF.out.cap
        unfold maxLen at hc2
        have hBwc:B<=wc.heap.size:=Nat.le_trans hBw B8'.out.size
        have hl8:(L.take k++[(⟨i,t,m,r,-1,false,0,0⟩:al)]).length=k+1:=by simp;omega
        have hDl:Hid (((L.drop k).flatMap ab).length=(L.length-k)*8):=(by rw[dT];simp:((L.drop k).flatMap ab).length=(L.length-k)*8)
        have h63:Hid ((L.take k++[(⟨i,t,m,r,-1,false,0,0⟩:al)]).length+(L.length-k)<=maxLen):=(by unfold maxLen;omega:(L.take k++[(⟨i,t,m,r,-1,false,0,0⟩:al)]).length+(L.length-k)<=maxLen)
        have hby:Hid (((L.take k++[(⟨i,t,m,r,-1,false,0,0⟩:al)]).length+(L.length-k))*64<=140737488355328):=(by omega:((L.take k++[(⟨i,t,m,r,-1,false,0,0⟩:al)]).length+(L.length-k))*64<=140737488355328)
        have E':Hid (da L i t m r=(0,L.take k++[(⟨i,t,m,r,-1,false,0,0⟩:al)]++L.drop k)):=(by rw[E.out,HK.out];simp:da L i t m r=(0,L.take k++[(⟨i,t,m,r,-1,false,0,0⟩:al)]++L.drop k))
        have b0:(0:Int)<=(k:Int):=by omega
        have b2:(k:Int)<=(L.length:Int):=by omega
        by_cases hck:c=k
        ·have hdrop:Hid (∀(x:World) j u,((L.drop k).flatMap ab)[j]? =some u->x.cell? ((⟨g,0,none⟩:Addr).add j)=some u):=fun x j u hj=>by
          rw[List.drop_eq_nil_of_le (by omega)] at hj
          simp at hj
         subst hck
         clear hc1 hc2
         go_wp2_with (at_builtin;refine wpList_append_own _ rfl _ _ 24 rfl B 53 i0 _ 8 64 Tryz.underlying24 hi hz0 hz1 hz2 rfl (by decide) _ _ _ rfl A8'.out ⟨g,0,none⟩ (L.length-c) _ ((L.drop c).flatMap ab) rfl hDl.out (hdrop.out _) (eN _) h63.out hby.out hBwc ?_)
         intro v3 w3 hown hgrow _
         have A3:Hid (AL w3 B v3 (L.take c++[(⟨i,t,m,r,-1,false,0,0⟩:al)]++L.drop c)):=by
          show AL w3 B v3 (L.take c++[(⟨i,t,m,r,-1,false,0,0⟩:al)]++L.drop c)
          have e1:(L.take c++[(⟨i,t,m,r,-1,false,0,0⟩:al)]++L.drop c).length=c+1+(L.length-c):=by simp;omega
          have e2:(L.take c++[(⟨i,t,m,r,-1,false,0,0⟩:al)]++L.drop c).flatMap ab=(L.take c).flatMap ab++(ab ⟨i,t,m,r,-1,false,0,0⟩++(L.drop c).flatMap ab):=by simp
          unfold AL
          rw[e1,e2]
          simpa using hown
         have B3:Hid (Below B w w3):=B8'.out.grown hgrow hBwc (fun q hq=>Nat.le_trans hBw (Nat.le_trans BV.out.size (Q8.out _ q hq)))
         clear hown hgrow
         obtain ⟨a3,c3,h3⟩:=A3.out.len
         subst h3
         go_wp2
         go_ret2
         rw[E'.out]
         exact ⟨_,rfl,A3.out,B3.out⟩
        ·have b1:(k:Int)<=(c:Int):=by omega
         go_wp2_with (at_builtin;refine wpList_append_own _ rfl _ _ 24 rfl B 53 i0 _ 8 64 Tryz.underlying24 hi hz0 hz1 hz2 rfl (by decide) _ _ _ rfl A8'.out ⟨g,k*8,none⟩ (L.length-k) (c-k) ((L.drop k).flatMap ab) rfl hDl.out (AF.out.news k) (eN _) h63.out hby.out hBwc ?_)
         intro v3 w3 hown hgrow _
         have A3:Hid (AL w3 B v3 (L.take k++[(⟨i,t,m,r,-1,false,0,0⟩:al)]++L.drop k)):=by
          show AL w3 B v3 (L.take k++[(⟨i,t,m,r,-1,false,0,0⟩:al)]++L.drop k)
          have e1:(L.take k++[(⟨i,t,m,r,-1,false,0,0⟩:al)]++L.drop k).length=k+1+(L.length-k):=by simp;omega
          have e2:(L.take k++[(⟨i,t,m,r,-1,false,0,0⟩:al)]++L.drop k).flatMap ab=(L.take k).flatMap ab++(ab ⟨i,t,m,r,-1,false,0,0⟩++(L.drop k).flatMap ab):=by simp
          unfold AL
          rw[e1,e2]
          exact hown
         have B3:Hid (Below B w w3):=B8'.out.grown hgrow hBwc (fun q hq=>Nat.le_trans hBw (Nat.le_trans BV.out.size (Q8.out _ q hq)))
         clear hown hgrow
         obtain ⟨a3,c3,h3⟩:=A3.out.len
         subst h3
         go_wp2
         go_ret2
         rw[E'.out]
         exact ⟨_,rfl,A3.out,B3.out⟩
     ·have HK:Hid (eW L i=k):=le L i k hk hlo.out (fun h=>absurd h hlt)
      go_wp2
      go_quiet (fail)
      go_wp2_with fail
      generalize hV:(W.drewN d).drewN nq=V
      have AV:Hid (AL V B (Sl (some ⟨g,0,none⟩) L.length c) L):=by rw[←hV];exact AW.out
      have XV:Hid (dD V (w.heap.size+1) ⟨i,t,m,r,-1,false,0,0⟩):=by rw[←hV];exact XW.out
      have BV:Hid (Below B w V):=by rw[←hV];exact ⟨BW.out.os,BW.out.tape,BW.out.output,BW.out.size,BW.out.block⟩
      clear hV
      go_cut[8] (fun s8 wx=>Hid (AL wx B s8 (L.take k++[(⟨i,t,m,r,-1,false,0,0⟩:al)])/\(∀q,s8.ownBlock=some q->V.heap.size<=q)/\Below B w wx/\Below V.heap.size V wx))
      case first=>
       obtain ⟨i0,hi,hz0,hz1,hz2⟩:=info_parts ge
       obtain ⟨hc1,hc2⟩:=AV.out.cap
       unfold maxLen at hc2
       have b0:(0:Int)<=(k:Int):=by omega
       have b1:(k:Int)<=(c:Int):=by omega
       have HL:Hid (k=(L.take k).length):=(by simp;omega:k=(L.take k).length)
       have HFv:Hid (Fo V (some ⟨g,0,none⟩) k (FL (L.take k))):=AV.out.fo_take hk (by omega)
       have HFa:Hid (Fo V.drew (some ⟨g,0,none⟩) k (FL (L.take k))):=HFv.out
       have HFb:Hid (Fo (V.drew.alloc (.cells #[Ii Jj i,Ii Jj t,Ii Jj m,Ii Jj r,Ii Jj (-1),.bool false,Ii Jj 0,Ii Jj 0] 53)) (some ⟨g,0,none⟩) k (FL (L.take k))):=Fo.alloc (w:=V.drew) HFv.out _
       have hBV:B<=V.heap.size:=Nat.le_trans hBw BV.out.size
       have BD:Hid (Below V.heap.size V V.drew):=⟨rfl,rfl,rfl,Nf _,fun _ _=>rfl⟩
       have hR:w.heap.size+1<V.heap.size:=XV.out.2.2
       have hs1:Hid (V.heap.size<=(V.drew.alloc (.cells #[Ii Jj i,Ii Jj t,Ii Jj m,Ii Jj r,Ii Jj (-1),.bool false,Ii Jj 0,Ii Jj 0] 53)).heap.size):=(by rw[World.size_alloc];exact Nat.le_succ _:V.heap.size<=(V.drew.alloc (.cells #[Ii Jj i,Ii Jj t,Ii Jj m,Ii Jj r,Ii Jj (-1),.bool false,Ii Jj 0,Ii Jj 0] 53)).heap.size)
       have NB:Hid (dD (V.drew.alloc (.cells #[Ii Jj i,Ii Jj t,Ii Jj m,Ii Jj r,Ii Jj (-1),.bool false,Ii Jj 0,Ii Jj 0] 53)) V.heap.size ⟨i,t,m,r,-1,false,0,0⟩):=dD.new V.drew ⟨i,t,m,r,-1,false,0,0⟩ 53
       have BA:Hid (Below V.heap.size V.drew (V.drew.alloc (.cells #[Ii Jj i,Ii Jj t,Ii Jj m,Ii Jj r,Ii Jj (-1),.bool false,Ii Jj 0,Ii Jj 0] 53))):=(Bf V.heap.size V.drew).alloc (Nf V.heap.size) _
       have h63:Hid ((L.take k).length+1<=maxLen):=(by unfold maxLen;simp;omega:(L.take k).length+1<=maxLen)
       have hby:Hid (((L.take k).length+1)*64<=140737488355328):=(by simp;omega:((L.take k).length+1)*64<=140737488355328)
       have h1c:Hid (∀u ∈ ab ⟨i,t,m,r,-1,false,0,0⟩,u.oneCell'=true):=by
        intro u hu
        simp only[ab,List.mem_cons,List.not_mem_nil,or_false] at hu
        rcases hu with e|e|e|e|e|e|e|e <;>subst e <;>rfl
       go_region_held3 (fun w'=>w'.cell? ⟨w.heap.size+1,0,none⟩=some (Ii Jj i)/\w'.cell? ⟨w.heap.size+1,1,none⟩=some (Ii Jj t)/\w'.cell? ⟨w.heap.size+1,2,none⟩=some (Ii Jj m)/\w'.cell? ⟨w.heap.size+1,3,none⟩=some (Ii Jj r)/\w'.cell? ⟨w.heap.size+1,4,none⟩=some (Ii Jj (-1))/\w'.cell? ⟨w.heap.size+1,5,none⟩=some (.bool false)/\w'.cell? ⟨w.heap.size+1,6,none⟩=some (Ii Jj 0)/\w'.cell? ⟨w.heap.size+1,7,none⟩=some (Ii Jj 0))
        (first|exact gT Y3.out|exact gT XV.out|exact gT (dD.below (w:=V.drew) XV.out B2)|exact gT ((dD.below (w:=V.drew) XV.out ((Bf _ _).alloc (Nf _) _)).below B2)|exact gT (dD.below (w:=V.drew) XV.out ((Bf _ _).alloc (Nf _) _))|exact gT ((dD.below (w:=V.drew) XV.out B2).below ((Bf _ _).alloc (Nf _) _)))
        (first
         | (go_at_call 118;refine (dX (some ⟨g,0,none⟩) k c (L.take k) V.drew HL.out HFa.out).mono ?_;rintro e w2 ⟨v2,rfl,A2,B2⟩)
         | (go_at_call 118;refine (dX (some ⟨g,0,none⟩) k c (L.take k) (V.drew.alloc (.cells #[Ii Jj i,Ii Jj t,Ii Jj m,Ii Jj r,Ii Jj (-1),.bool false,Ii Jj 0,Ii Jj 0] 53)) HL.out HFb.out).mono ?_;rintro e w2 ⟨v2,rfl,A2,B2⟩)
         | (refine az _ (by rfl) _ _ 24 (by rfl) V.heap.size 53 i0 _ 8 64 Tryz.underlying24 hi hz0 hz1 hz2 rfl (by decide) _ _ _ (by rfl) (World.ownsRow.alloc A2 (.cells #[Ii Jj i,Ii Jj t,Ii Jj m,Ii Jj r,Ii Jj (-1),.bool false,Ii Jj 0,Ii Jj 0] 53)) ⟨w2.heap.size,0,none⟩ 1 1 (ab ⟨i,t,m,r,-1,false,0,0⟩) (by rfl) rfl (gI (dD.new w2 ⟨i,t,m,r,-1,false,0,0⟩ 53)) h1c.out h63.out hby.out (Nat.le_trans B2.size (by simp)) ?_;intro v3 w3 hown hgrow;have F3:=gJ rfl hBV BV.out (BD.out.trans (B2.alloc B2.size _)) (World.ownsRow.alloc A2 (.cells #[Ii Jj i,Ii Jj t,Ii Jj m,Ii Jj r,Ii Jj (-1),.bool false,Ii Jj 0,Ii Jj 0] 53)) hown hgrow;have Y3:Hid (dD w3 (w.heap.size+1) ⟨i,t,m,r,-1,false,0,0⟩):=dD.grown ((dD.below (w:=V.drew) XV.out B2).below ((Bf _ _).alloc (Nf _) _)) hgrow (fun e=>by have:=(World.ownsRow.lt A2 _ e).1;have:w.heap.size+1<V.heap.size:=hR;simp at *;omega))
         | (refine az _ (by rfl) _ _ 24 (by rfl) V.heap.size 53 i0 _ 8 64 Tryz.underlying24 hi hz0 hz1 hz2 rfl (by decide) _ _ _ (by rfl) (AL.mono A2 hs1.out) ⟨V.heap.size,0,none⟩ 1 1 (ab ⟨i,t,m,r,-1,false,0,0⟩) (by rfl) rfl (gI ((NB.out).below B2)) h1c.out h63.out hby.out (Nat.le_trans hs1.out B2.size) ?_;intro v3 w3 hown hgrow;have F3:=gJ rfl hBV BV.out (BD.out.trans ((BA.out).trans (B2.mono hs1.out))) (AL.mono A2 hs1.out) hown hgrow;have Y3:Hid (dD w3 (w.heap.size+1) ⟨i,t,m,r,-1,false,0,0⟩):=dD.grown ((dD.below (w:=V.drew) XV.out ((Bf _ _).alloc (Nf _) _)).below B2) hgrow (fun e=>by have:=(World.ownsRow.lt A2 _ e).1;have:w.heap.size+1<V.heap.size:=hR;simp at *;omega)))
       all_goals (go_wp2_with fail;go_meet;exact F3)
      case rest=>
       obtain ⟨A8,hq8,B8,BV8⟩:=hcut.out
       have A8':Hid (AL wc B _ (L.take k++[(⟨i,t,m,r,-1,false,0,0⟩:al)])):=A8
       have B8':Hid (Below B w wc):=B8
       have AF:Hid (AL wc B (Sl (some ⟨g,0,none⟩) L.length c) L):=AV.out.kept BV8
       clear hcut B8 BV8
       obtain ⟨a8,c8,h8⟩:=A8.len
       subst h8
       have Q8:Hid (∀n q,(Value.slice a8 n c8).ownBlock=some q->V.heap.size<=q):=fun n q h=>hq8 q (by cases a8 <;>exact h)
       clear A8 hq8
       obtain ⟨i0,hi,hz0,hz1,hz2⟩:=info_parts ge
       obtain ⟨hc1,hc2⟩:=AF.out.cap
       unfold maxLen at hc2
       have hBwc:B<=wc.heap.size:=Nat.le_trans hBw B8'.out.size
       have hl8:(L.take k++[(⟨i,t,m,r,-1,false,0,0⟩:al)]).length=k+1:=by simp;omega
       have hDl:Hid (((L.drop k).flatMap ab).length=(L.length-k)*8):=(by rw[dT];simp:((L.drop k).flatMap ab).length=(L.length-k)*8)
       have h63:Hid ((L.take k++[(⟨i,t,m,r,-1,false,0,0⟩:al)]).length+(L.length-k)<=maxLen):=(by unfold maxLen;omega:(L.take k++[(⟨i,t,m,r,-1,false,0,0⟩:al)]).length+(L.length-k)<=maxLen)
       have hby:Hid (((L.take k++[(⟨i,t,m,r,-1,false,0,0⟩:al)]).length+(L.length-k))*64<=140737488355328):=(by omega:((L.take k++[(⟨i,t,m,r,-1,false,0,0⟩:al)]).length+(L.length-k))*64<=140737488355328)
       have E':Hid (da L i t m r=(0,L.take k++[(⟨i,t,m,r,-1,false,0,0⟩:al)]++L.drop k)):=(by rw[E.out,HK.out];simp:da L i t m r=(0,L.take k++[(⟨i,t,m,r,-1,false,0,0⟩:al)]++L.drop k))
       have b0:(0:Int)<=(k:Int):=by omega
       have b2:(k:Int)<=(L.length:Int):=by omega
       by_cases hck:c=k
       ·have hdrop:Hid (∀(x:World) j u,((L.drop k).flatMap ab)[j]? =some u->x.cell? ((⟨g,0,none⟩:Addr).add j)=some u):=fun x j u hj=>by
         rw[List.drop_eq_nil_of_le (by omega)] at hj
         simp at hj
        subst hck
        clear hc1 hc2
        go_wp2_with (at_builtin;refine wpList_append_own _ rfl _ _ 24 rfl B 53 i0 _ 8 64 Tryz.underlying24 hi hz0 hz1 hz2 rfl (by decide) _ _ _ rfl A8'.out ⟨g,0,none⟩ (L.length-c) _ ((L.drop c).flatMap ab) rfl hDl.out (hdrop.out _) (eN _) h63.out hby.out hBwc ?_)
        intro v3 w3 hown hgrow _
        have A3:Hid (AL w3 B v3 (L.take c++[(⟨i,t,m,r,-1,false,0,0⟩:al)]++L.drop c)):=by
         show AL w3 B v3 (L.take c++[(⟨i,t,m,r,-1,false,0,0⟩:al)]++L.drop c)
         have e1:(L.take c++[(⟨i,t,m,r,-1,false,0,0⟩:al)]++L.drop c).length=c+1+(L.length-c):=by simp;omega
         have e2:(L.take c++[(⟨i,t,m,r,-1,false,0,0⟩:al)]++L.drop c).flatMap ab=(L.take c).flatMap ab++(ab ⟨i,t,m,r,-1,false,0,0⟩++(L.drop c).flatMap ab):=by simp
         unfold AL
         rw[e1,e2]
         simpa using hown
        have B3:Hid (Below B w w3):=B8'.out.grown hgrow hBwc (fun q hq=>Nat.le_trans hBw (Nat.le_trans BV.out.size (Q8.out _ q hq)))
        clear hown hgrow
        obtain ⟨a3,c3,h3⟩:=A3.out.len
        subst h3
        go_wp2
        go_ret2
        rw[E'.out]
        exact ⟨_,rfl,A3.out,B3.out⟩
       ·have b1:(k:Int)<=(c:Int):=by omega
        go_wp2_with (at_builtin;refine wpList_append_own _ rfl _ _ 24 rfl B 53 i0 _ 8 64 Tryz.underlying24 hi hz0 hz1 hz2 rfl (by decide) _ _ _ rfl A8'.out ⟨g,k*8,none⟩ (L.length-k) (c-k) ((L.drop k).flatMap ab) rfl hDl.out (AF.out.news k) (eN _) h63.out hby.out hBwc ?_)
        intro v3 w3 hown hgrow _
        have A3:Hid (AL w3 B v3 (L.take k++[(⟨i,t,m,r,-1,false,0,0⟩:al)]++L.drop k)):=by
         show AL w3 B v3 (L.take k++[(⟨i,t,m,r,-1,false,0,0⟩:al)]++L.drop k)
         have e1:(L.take k++[(⟨i,t,m,r,-1,false,0,0⟩:al)]++L.drop k).length=k+1+(L.length-k):=by simp;omega
         have e2:(L.take k++[(⟨i,t,m,r,-1,false,0,0⟩:al)]++L.drop k).flatMap ab=(L.take k).flatMap ab++(ab ⟨i,t,m,r,-1,false,0,0⟩++(L.drop k).flatMap ab):=by simp
         unfold AL
         rw[e1,e2]
         exact hown
        have B3:Hid (Below B w w3):=B8'.out.grown hgrow hBwc (fun q hq=>Nat.le_trans hBw (Nat.le_trans BV.out.size (Q8.out _ q hq)))
        clear hown hgrow
        obtain ⟨a3,c3,h3⟩:=A3.out.len
        subst h3
        go_wp2
        go_ret2
        rw[E'.out]
        exact ⟨_,rfl,A3.out,B3.out⟩
open Go.RowKit
def ov (F:Nat->al) (n:Nat) (s:Int) (out into:List Int) (j:Nat):Prop:=0<=(F j).limit/\(F j).id ∈ out/\(F j).id ∉ into/\aF F n j+(F j).limit<s
def pV (L:List al) (p q u j:Nat):Prop:=
 (0<aF (FL L) L.length p/\ov (FL L) L.length (aF (FL L) L.length p) (aI (FL L) L.length u) (aI (FL L) L.length q) j)\/
 (aF (FL L) L.length p<0/\ov (FL L) L.length (-aF (FL L) L.length p) (aI (FL L) L.length q) (aI (FL L) L.length u) j)
def eO (L:List al) (p q u:Nat):Prop:=∃j,j<L.length/\pV L p q u j
open Classical in
noncomputable def cW (L:List al) (p q u:Nat):Int×List al:=
 if (FL L p).up=0\/(FL L p).id ∈ aI (FL L) L.length q then (8,L) else if eO L p q u then (6,L) else (0,L.set p {FL L p with up:=(FL L q).id})
theorem rp (B g c:Nat) (L:List al) (p q u:Nat) (m r:Int) (w:World) (h:AL w B (Sl (some ⟨g,0,none⟩) L.length c) L) (hBw:B<=w.heap.size) (hR:ap (FL L) L.length) (hp:p<L.length) (hq:q<L.length) (hu:(FL L p).up≠0->u<L.length/\(FL L u).id=(FL L p).up):
  Calls Pg 121 #[Sl (some ⟨g,0,none⟩) L.length c,Ii Jj p,.agg #[Ii Jj 9,Ii Jj (FL L p).id,Ii Jj (FL L q).id,Ii Jj m,Ii Jj r]] w fun e w'=>fs (cW L p q u) B w e w':=by
 have hn:=hR.1
 have HR:Hid (ap (FL L) L.length):=hR
 obtain ⟨hBg,hgz⟩:=h.block
 obtain ⟨W,hW⟩:∃W,W=w.alloc (.cells #[Ii Jj 9,Ii Jj (FL L p).id,Ii Jj (FL L q).id,Ii Jj m,Ii Jj r] 33):=⟨_,rfl⟩
 have AW:Hid (AL W B (Sl (some ⟨g,0,none⟩) L.length c) L):=by rw[hW];exact World.ownsRow.alloc h _
 have OW:Hid (aN W w.heap.size 9 (FL L p).id (FL L q).id m r):=by rw[hW];exact aN.new w _ _ _ _ _ 33
 have BW:Hid (Below B w W):=by rw[hW];exact (Bf _ _).alloc hBw _
 have FW:Hid (Fo W (some ⟨g,0,none⟩) L.length (FL L)):=AW.out.kept_fo (by omega)
 have hWz:B<=W.heap.size:=Nat.le_trans hBw BW.out.size
 have HU:Hid ((FL L p).up≠0->u<L.length/\(FL L u).id=(FL L p).up):=hu
 obtain ⟨o0,o1,o2,o3,o4,oz⟩:=OW.out
 clear h hR hu o0 o3 o4
 go_enter Tryz.func121,Tryz.ntmps121
 go_upto_region 1 with fail
 rw[←hW]
 clear hW
 go_wp2_with fail
 refine (cP _ L.length c (FL L) q _ FW.out HR.out hq).mono ?_
 rintro e w1 ⟨v1,rfl,I1,B1⟩
 have I1':Hid (IL w1 W.heap.size v1 (aI (FL L) L.length q)):=I1
 have A1:Hid (AL w1 B (Sl (some ⟨g,0,none⟩) L.length c) L):=AW.out.kept B1
 have O1:Hid (aN w1 w.heap.size 9 (FL L p).id (FL L q).id m r):=OW.out.below B1
 have BB1:Hid (Below B w w1):=BW.out.trans (B1.mono hWz)
 have hlq:(aI (FL L) L.length q).length<=1048576:=by have:=fE HR.out hq;omega
 have z1:W.heap.size<=w1.heap.size:=B1.size
 clear B1 I1 o1 o2 oz FW OW AW BW
 obtain ⟨va1,vm1,hv1,_⟩:=I1'.out.shape
 subst hv1
 obtain ⟨p0,p1,p2,p3,p4,p5,p6,p7⟩:=A1.out.acc hp
 clear p0 p2 p3 p4 p5 p6 p7
 obtain ⟨o0,o1,o2,o3,o4,oz⟩:=O1.out
 clear o0 o2 o3 o4
 by_cases hup:(FL L p).up=0
 ·have E:Hid (cW L p q u=(8,L)):=(by unfold cW;rw[if_pos (Or.inl hup)]:cW L p q u=(8,L))
  have hub:((FL L p).up == 0)=true:=by simp[hup]
  clear hup
  go_wp2
  go_ret2
  rw[E.out]
  exact ⟨_,rfl,A1.out,BB1.out⟩
 have hub:((FL L p).up == 0)=false:=by simp[hup]
 obtain ⟨hul,hui⟩:=HU.out hup
 by_cases hon:(FL L p).id ∈ aI (FL L) L.length q
 ·have E:Hid (cW L p q u=(8,L)):=(by unfold cW;rw[if_pos (Or.inr hon)]:cW L p q u=(8,L))
  have HON:Hid ((FL L p).id ∈ aI (FL L) L.length q):=hon
  clear hup hon hui
  go_wp2_with fail
  refine (bz _ _ _ _ _ hlq I1'.out HON.out).mono ?_
  rintro e w2 ⟨rfl,hw2⟩
  subst hw2
  go_wp2
  go_ret2
  rw[E.out]
  exact ⟨_,rfl,A1.out,BB1.out⟩
 have HNN:Hid (¬((FL L p).up=0\/(FL L p).id ∈ aI (FL L) L.length q)):=fun e=>e.elim hup hon
 have HON:Hid ((FL L p).id ∉ aI (FL L) L.length q):=hon
 have HUI:Hid ((FL L u).id=(FL L p).up):=hui
 clear hup hon hui
 go_wp2_with fail
 refine (cu _ _ _ _ _ hlq I1'.out HON.out).mono ?_
 rintro e w2 ⟨rfl,hw2⟩
 have ew:w1=w2:=hw2.symm
 subst ew
 clear hw2
 go_wp2_with fail
 refine (iR _ L.length c (FL L) p _ (A1.out.kept_fo (by omega)) HR.out hp).mono ?_
 rintro e w3 ⟨rfl,B3⟩
 have I3:Hid (IL w3 W.heap.size (Sl va1 (aI (FL L) L.length q).length vm1) (aI (FL L) L.length q)):=I1'.out.kept B3
 have A3:Hid (AL w3 B (Sl (some ⟨g,0,none⟩) L.length c) L):=A1.out.kept B3
 have O3:Hid (aN w3 w.heap.size 9 (FL L p).id (FL L q).id m r):=O1.out.below B3
 have BB3:Hid (Below B w w3):=BB1.out.trans (B3.mono (Nat.le_trans hBw BB1.out.size))
 have z3:w1.heap.size<=w3.heap.size:=B3.size
 clear B3 I1' A1 O1 BB1 p1 o1 oz
 obtain ⟨p0,p1,p2,p3,p4,p5,p6,p7⟩:=A3.out.acc hp
 clear p0 p2 p3 p4 p5 p6 p7
 have SP:Hid (∀w',Fo w' (some ⟨g,0,none⟩) L.length (FL L)->Calls Pg 101 #[Sl (some ⟨g,0,none⟩) L.length c,Ii Jj (FL L p).up] w' fun e w''=>∃v,e=.returned (.tuple #[v,.bool true])/\IL w'' w'.heap.size v (aI (FL L) L.length u)/\Below w'.heap.size w' w''):=fun w' h'=>by
  have:=cP (some ⟨g,0,none⟩) L.length c (FL L) u w' h' HR.out hul
  rw[HUI.out] at this
  exact this
 go_wp2_with fail
 refine (SP.out _ (A3.out.kept_fo (by omega))).mono ?_
 rintro e w4 ⟨v4,rfl,J4,B4⟩
 have J4':Hid (IL w4 w3.heap.size v4 (aI (FL L) L.length u)):=J4
 have I4:Hid (IL w4 W.heap.size (Sl va1 (aI (FL L) L.length q).length vm1) (aI (FL L) L.length q)):=I3.out.kept B4
 have A4:Hid (AL w4 B (Sl (some ⟨g,0,none⟩) L.length c) L):=A3.out.kept B4
 have O4:Hid (aN w4 w.heap.size 9 (FL L p).id (FL L q).id m r):=O3.out.below B4
 have BB4:Hid (Below B w w4):=BB3.out.trans (B4.mono (Nat.le_trans hBw BB3.out.size))
 have hlu:(aI (FL L) L.length u).length<=1048576:=by have:=fE HR.out hul;omega
 clear B4 J4 I3 A3 O3 BB3 p1 SP
 obtain ⟨va4,vm4,hv4,_⟩:=J4'.out.shape
 subst hv4
 have HE6:Hid (eO L p q u->cW L p q u=(6,L)):=fun hs=>by
  unfold cW
  rw[if_neg HNN.out,if_pos hs]
 have HE0:Hid (¬eO L p q u->cW L p q u=(0,L.set p {FL L p with up:=(FL L q).id})):=fun hs=>by
  unfold cW
  rw[if_neg HNN.out,if_neg hs]
 clear HNN HON HU HUI
 have HB:Hid (∀j,pV L p q u j↔(0<aF (FL L) L.length p/\ov (FL L) L.length (aF (FL L) L.length p) (aI (FL L) L.length u) (aI (FL L) L.length q) j)\/
  (aF (FL L) L.length p<0/\ov (FL L) L.length (-aF (FL L) L.length p) (aI (FL L) L.length q) (aI (FL L) L.length u) j)):=fun j=>Iff.rfl
 obtain ⟨ss1,ss2⟩:=i9 HR.out p
 generalize hs:aF (FL L) L.length p=s at*
 clear hs
 generalize aI (FL L) L.length u=PU at*
 generalize aI (FL L) L.length q=PQ at*
 go_wp2
 go_loopw[13] (fun x wr=>∃k:Nat,k<=L.length/\x=Ii Jj k/\Hid (∀j,j<k->¬pV L p q u j)/\Hid (Below w4.heap.size w4 wr)) (fun x _=>L.length-(intOf x).toNat)
 case atStart=>exact ⟨0,Nat.zero_le _,rfl,fun j hj=>absurd hj (Nat.not_lt_zero _),Bf _ _⟩
 case round=>
  obtain ⟨k,hk,rfl,hno,hB⟩:=hrel
  have AR:Hid (AL wr B (Sl (some ⟨g,0,none⟩) L.length c) L):=A4.out.kept hB.out
  by_cases hlt:k<L.length
  ·obtain ⟨c0,c1,c2,c3,c4,c5,c6,c7⟩:=AR.out.acc hlt
   clear c1 c3 c4 c5 c6 c7
   have hgr:g<wr.heap.size:=AR.out.block.2
   have hov:∀v o,(bW wr v).cell? ⟨g,o,none⟩=wr.cell? ⟨g,o,none⟩:=fun v o=>(ar wr v).cell (p:=⟨g,o,none⟩) hgr
   have FR:Hid (Fo wr (some ⟨g,0,none⟩) L.length (FL L)):=AR.out.kept_fo (by omega)
   obtain ⟨sb1,sb2⟩:=i9 HR.out k
   obtain ⟨lb1,lb2⟩:=(HR.out.2.1 k hlt).2.2.1
   go_wp2
   refine aw (by kernel_rfl) (by kernel_rfl) ?_
   repeat (go_big_quiet_step ((first|(go_at_call 140;exact Calls.over_of (iR _ L.length c (FL L) k _ (FR.out.below (ar _ _)) HR.out hlt)))))
   refine wpQuiet_nil ?_
   intro w5 hw'
   obtain ⟨vq,hw''⟩:=hw'
   have B5:Hid (Below w4.heap.size w4 w5):=by rw[hw''];exact hB.out.trans ((ar wr vq).mono hB.out.size)
   clear hw'' hov c0 c2 hgr FR AR
   have A5:Hid (AL w5 B (Sl (some ⟨g,0,none⟩) L.length c) L):=A4.out.kept B5.out
   have I5:Hid (IL w5 W.heap.size (Sl va1 PQ.length vm1) PQ):=I4.out.kept B5.out
   have J5:Hid (IL w5 w3.heap.size (Sl va4 PU.length vm4) PU):=J4'.out.kept B5.out
   have BB5:Hid (Below B w w5):=BB4.out.trans (B5.out.mono (Nat.le_trans hBw BB4.out.size))
   obtain ⟨c0,c1,c2,c3,c4,c5,c6,c7⟩:=A5.out.acc hlt
   clear c1 c3 c4 c5 c6 c7
   by_cases hl0:(FL L k).limit<0
   ·skip
    have NB:Hid (∀j,j<k+1->¬pV L p q u j):=fun j hj hb=>by
     by_cases e:j=k
     ·subst e
      rcases (HB.out j).1 hb with ⟨a1,a2,a3,a4,a5⟩|⟨a1,a2,a3,a4,a5⟩
      ·omega
      ·omega
     ·exact hno.out j (by omega) hb
    go_wp2
    go_roundw
    case rel=>exact ⟨k+1,by omega,by go_num,NB,B5⟩
    case measure=>simp[intOf];omega
   ·have hl1:0<=(FL L k).limit:=by omega
    by_cases hs1:0<s
    ·have hs2:¬s<0:=by omega
     clear hl0
     by_cases mo:(FL L k).id ∈ PU
     ·have MPU:Hid ((FL L k).id ∈ PU):=mo
      by_cases mt:(FL L k).id ∈ PQ
      ·have MPQ:Hid ((FL L k).id ∈ PQ):=mt
       have NB:Hid (∀j,j<k+1->¬pV L p q u j):=fun j hj hb=>by
        by_cases e:j=k
        ·subst e
         rcases (HB.out j).1 hb with ⟨a1,a2,a3,a4,a5⟩|⟨a1,a2,a3,a4,a5⟩
         ·exact absurd mt a4
         ·omega
        ·exact hno.out j (by omega) hb
       clear mo mt
       go_wp2_with fail
       refine (bz _ _ _ _ _ hlu J5.out MPU.out).mono ?_
       rintro e w6 ⟨rfl,hw6⟩
       have ew:w5=w6:=hw6.symm
       subst ew
       clear hw6
       go_wp2_with fail
       refine (bz _ _ _ _ _ hlq I5.out MPQ.out).mono ?_
       rintro e w6 ⟨rfl,hw6⟩
       have ew:w5=w6:=hw6.symm
       subst ew
       clear hw6
       go_wp2
       go_roundw
       case rel=>exact ⟨k+1,by omega,by go_num,NB,B5⟩
       case measure=>simp[intOf];omega
      ·have MPQ:Hid ((FL L k).id ∉ PQ):=mt
       by_cases hlo:aF (FL L) L.length k+(FL L k).limit<s
       ·have E:Hid (cW L p q u=(6,L)):=HE6.out ⟨k,hlt,(HB.out k).2 (Or.inl ⟨by omega,by omega,mo,mt,hlo⟩)⟩
        clear mo mt
        go_wp2_with fail
        refine (bz _ _ _ _ _ hlu J5.out MPU.out).mono ?_
        rintro e w6 ⟨rfl,hw6⟩
        have ew:w5=w6:=hw6.symm
        subst ew
        clear hw6
        go_wp2_with fail
        refine (cu _ _ _ _ _ hlq I5.out MPQ.out).mono ?_
        rintro e w6 ⟨rfl,hw6⟩
        have ew:w5=w6:=hw6.symm
        subst ew
        clear hw6
        go_wp2
        go_ret2
        rw[E.out]
        exact ⟨_,rfl,A5.out,BB5.out⟩
       ·skip
        have NB:Hid (∀j,j<k+1->¬pV L p q u j):=fun j hj hb=>by
         by_cases e:j=k
         ·subst e
          rcases (HB.out j).1 hb with ⟨a1,a2,a3,a4,a5⟩|⟨a1,a2,a3,a4,a5⟩
          ·exact absurd a5 hlo
          ·omega
         ·exact hno.out j (by omega) hb
        clear mo mt
        go_wp2_with fail
        refine (bz _ _ _ _ _ hlu J5.out MPU.out).mono ?_
        rintro e w6 ⟨rfl,hw6⟩
        have ew:w5=w6:=hw6.symm
        subst ew
        clear hw6
        go_wp2_with fail
        refine (cu _ _ _ _ _ hlq I5.out MPQ.out).mono ?_
        rintro e w6 ⟨rfl,hw6⟩
        have ew:w5=w6:=hw6.symm
        subst ew
        clear hw6
        go_wp2
        go_roundw
        case rel=>exact ⟨k+1,by omega,by go_num,NB,B5⟩
        case measure=>simp[intOf];omega
     ·have MPU:Hid ((FL L k).id ∉ PU):=mo
      have NB:Hid (∀j,j<k+1->¬pV L p q u j):=fun j hj hb=>by
       by_cases e:j=k
       ·subst e
        rcases (HB.out j).1 hb with ⟨a1,a2,a3,a4,a5⟩|⟨a1,a2,a3,a4,a5⟩
        ·exact absurd a3 mo
        ·omega
       ·exact hno.out j (by omega) hb
      clear mo
      go_wp2_with fail
      refine (cu _ _ _ _ _ hlu J5.out MPU.out).mono ?_
      rintro e w6 ⟨rfl,hw6⟩
      have ew:w5=w6:=hw6.symm
      subst ew
      clear hw6
      go_wp2
      go_roundw
      case rel=>exact ⟨k+1,by omega,by go_num,NB,B5⟩
      case measure=>simp[intOf];omega
    ·by_cases hs2:s<0
     ·clear hl0
      by_cases mo:(FL L k).id ∈ PQ
      ·have MPQ:Hid ((FL L k).id ∈ PQ):=mo
       by_cases mt:(FL L k).id ∈ PU
       ·have MPU:Hid ((FL L k).id ∈ PU):=mt
        have NB:Hid (∀j,j<k+1->¬pV L p q u j):=fun j hj hb=>by
         by_cases e:j=k
         ·subst e
          rcases (HB.out j).1 hb with ⟨a1,a2,a3,a4,a5⟩|⟨a1,a2,a3,a4,a5⟩
          ·omega
          ·exact absurd mt a4
         ·exact hno.out j (by omega) hb
        clear mo mt
        go_wp2_with fail
        refine (bz _ _ _ _ _ hlq I5.out MPQ.out).mono ?_
        rintro e w6 ⟨rfl,hw6⟩
        have ew:w5=w6:=hw6.symm
        subst ew
        clear hw6
        go_wp2_with fail
        refine (bz _ _ _ _ _ hlu J5.out MPU.out).mono ?_
        rintro e w6 ⟨rfl,hw6⟩
        have ew:w5=w6:=hw6.symm
        subst ew
        clear hw6
        go_wp2
        go_roundw
        case rel=>exact ⟨k+1,by omega,by go_num,NB,B5⟩
        case measure=>simp[intOf];omega
       ·have MPU:Hid ((FL L k).id ∉ PU):=mt
        by_cases hlo:aF (FL L) L.length k+(FL L k).limit< -s
        ·have E:Hid (cW L p q u=(6,L)):=HE6.out ⟨k,hlt,(HB.out k).2 (Or.inr ⟨by omega,by omega,mo,mt,hlo⟩)⟩
         clear mo mt
         go_wp2_with fail
         refine (bz _ _ _ _ _ hlq I5.out MPQ.out).mono ?_
         rintro e w6 ⟨rfl,hw6⟩
         have ew:w5=w6:=hw6.symm
         subst ew
         clear hw6
         go_wp2_with fail
         refine (cu _ _ _ _ _ hlu J5.out MPU.out).mono ?_
         rintro e w6 ⟨rfl,hw6⟩
         have ew:w5=w6:=hw6.symm
         subst ew
         clear hw6
         go_wp2
         go_ret2
         rw[E.out]
         exact ⟨_,rfl,A5.out,BB5.out⟩
        ·skip
         have NB:Hid (∀j,j<k+1->¬pV L p q u j):=fun j hj hb=>by
          by_cases e:j=k
          ·subst e
           rcases (HB.out j).1 hb with ⟨a1,a2,a3,a4,a5⟩|⟨a1,a2,a3,a4,a5⟩
           ·omega
           ·exact absurd a5 hlo
          ·exact hno.out j (by omega) hb
         clear mo mt
         go_wp2_with fail
         refine (bz _ _ _ _ _ hlq I5.out MPQ.out).mono ?_
         rintro e w6 ⟨rfl,hw6⟩
         have ew:w5=w6:=hw6.symm
         subst ew
         clear hw6
         go_wp2_with fail
         refine (cu _ _ _ _ _ hlu J5.out MPU.out).mono ?_
         rintro e w6 ⟨rfl,hw6⟩
         have ew:w5=w6:=hw6.symm
         subst ew
         clear hw6
         go_wp2
         go_roundw
         case rel=>exact ⟨k+1,by omega,by go_num,NB,B5⟩
         case measure=>simp[intOf];omega
      ·have MPQ:Hid ((FL L k).id ∉ PQ):=mo
       have NB:Hid (∀j,j<k+1->¬pV L p q u j):=fun j hj hb=>by
        by_cases e:j=k
        ·subst e
         rcases (HB.out j).1 hb with ⟨a1,a2,a3,a4,a5⟩|⟨a1,a2,a3,a4,a5⟩
         ·omega
         ·exact absurd a3 mo
        ·exact hno.out j (by omega) hb
       clear mo
       go_wp2_with fail
       refine (cu _ _ _ _ _ hlq I5.out MPQ.out).mono ?_
       rintro e w6 ⟨rfl,hw6⟩
       have ew:w5=w6:=hw6.symm
       subst ew
       clear hw6
       go_wp2
       go_roundw
       case rel=>exact ⟨k+1,by omega,by go_num,NB,B5⟩
       case measure=>simp[intOf];omega
     ·skip
      have NB:Hid (∀j,j<k+1->¬pV L p q u j):=fun j hj hb=>by
       by_cases e:j=k
       ·subst e
        rcases (HB.out j).1 hb with ⟨a1,a2,a3,a4,a5⟩|⟨a1,a2,a3,a4,a5⟩
        ·omega
        ·omega
       ·exact hno.out j (by omega) hb
      clear hl0
      go_wp2
      go_roundw
      case rel=>exact ⟨k+1,by omega,by go_num,NB,B5⟩
      case measure=>simp[intOf];omega
  ·have hkn:k=L.length:=by omega
   subst hkn
   have NS:Hid (¬eO L p q u):=fun ⟨j,hj,hb⟩=>hno.out j hj hb
   have E:Hid (cW L p q u=(0,L.set p {FL L p with up:=(FL L q).id})):=HE0.out NS.out
   obtain ⟨p0,p1,p2,p3,p4,p5,p6,p7⟩:=AR.out.acc hp
   have fz:∀j,wr.frozen? ⟨g,j,none⟩=false:=fun j=>AR.out.frozen j
   obtain ⟨o0,o1,o2,o3,o4,oz⟩:=O4.out.below hB.out
   have A9:Hid (AL (wr.setCell ⟨g,p*8+1,none⟩ (Ii Jj (FL L q).id)) B (Sl (some ⟨g,0,none⟩) L.length c) (L.set p {FL L p with up:=(FL L q).id})):=by
    have s1:=AR.out.stored hp 1 (by omega) (Ii Jj (FL L q).id) {FL L p with up:=(FL L q).id} rfl
    simp only[List.length_set] at s1
    exact s1
   have B9:Hid (Below B w (wr.setCell ⟨g,p*8+1,none⟩ (Ii Jj (FL L q).id))):=ed (BB4.out.trans (hB.out.mono (Nat.le_trans hBw BB4.out.size))) hBg _ _
   clear p0 p2 p3 p4 p5 p6 p7 o0 o1 o3 o4
   go_wp2
   go_ret2
   rw[E.out]
   exact ⟨_,rfl,A9.out,B9.out⟩
open Go.RowKit
open Classical in
noncomputable def ch (L:List al) (p:Nat) (k m:Int):Int×List al:=
 if k=2 then (if (FL L p).frozen=true then (5,L) else (0,L.set p {FL L p with frozen:=true})) else
 if k=3 then (if (FL L p).frozen=true then (0,L.set p {FL L p with frozen:=false}) else (5,L)) else
 if k=4 then (if (FL L p).frozen=true then (5,L) else cG L p) else
 if k=5 then (if (FL L p).frozen=true then (5,L) else (0,L.set p {FL L p with balance:=(FL L p).balance+m})) else
 if k=6 then (if (FL L p).frozen=true then (5,L) else eI L p m) else
 if k=8 then (if (FL L p).up=0/\m<0 then (8,L) else (0,L.set p {FL L p with limit:=m})) else
 (if (FL L p).up=0 then (8,L) else (0,L.set p {FL L p with target:=m}))
theorem fs.of {R:Int×List al} {B:Nat} {w w':World} {e:Ending} {v:Value} {cd:Int} {L':List al} (hR:R=(cd,L')) (h:e=.returned (.tuple #[v,Ii Jj cd])/\AL w' B v L'/\Below B w w'):fs R B w e w':=by
 subst hR
 exact ⟨v,h.1,h.2.1,h.2.2⟩
theorem sy (B g c:Nat) (L:List al) (p:Nat) (k i t m r:Int) (w:World) (h:AL w B (Sl (some ⟨g,0,none⟩) L.length c) L) (hBw:B<=w.heap.size) (hR:ap (FL L) L.length) (hp:p<L.length) (ho:ax k i t m r) (h1:k≠1) (h7:k≠7) (h9:k≠9):
  Calls Pg 122 #[Sl (some ⟨g,0,none⟩) L.length c,Ii Jj p,.agg #[Ii Jj k,Ii Jj i,Ii Jj t,Ii Jj m,Ii Jj r]] w fun e w'=>fs (ch L p k m) B w e w':=by
 obtain ⟨xb1,xb2⟩:=(hR.2.1 p hp).2.2.2.2.2.1
 have hk:k=2\/k=3\/k=4\/k=5\/k=6\/k=8\/k=10:=by unfold ax at ho;omega
 cases hx:FL L p with
 | mk xi xu xl xr xt xf xb xc=>
 rw[hx] at xb1 xb2
 simp only at xb1 xb2
 rcases hk with rfl|rfl|rfl|rfl|rfl|rfl|rfl
 ·cases xf with
  | true=>exact (mA B g c L p i t m r xi xu xl xr xt xb xc w h hBw hp hx).mono fun e w' hh=>fs.of (by simp[ch,hx]) hh
  | false=>exact (lj B g c L p i t m r xi xu xl xr xt xb xc w h hBw hp hx).mono fun e w' hh=>fs.of (by simp[ch,hx]) hh
 ·cases xf with
  | false=>exact (mB B g c L p i t m r xi xu xl xr xt xb xc w h hBw hp hx).mono fun e w' hh=>fs.of (by simp[ch,hx]) hh
  | true=>exact (lk B g c L p i t m r xi xu xl xr xt xb xc w h hBw hp hx).mono fun e w' hh=>fs.of (by simp[ch,hx]) hh
 ·cases xf with
  | true=>exact (mC B g c L p i t m r xi xu xl xr xt xb xc w h hBw hp hx).mono fun e w' hh=>fs.of (by simp[ch,hx]) hh
  | false=>
   have e:ch L p 4 m=cG L p:=by simp[ch,hx]
   rw[e]
   exact rm B g c L p i t m r xi xu xl xr xt xb xc w h hBw hR hp hx
 ·cases xf with
  | true=>exact (mD B g c L p i t m r xi xu xl xr xt xb xc w h hBw hp hx).mono fun e w' hh=>fs.of (by simp[ch,hx]) hh
  | false=>exact (ll B g c L p i t m r xi xu xl xr xt xb xc w h hBw hp hx (by unfold ax at ho;omega) (by unfold ax at ho;omega) xb1 xb2).mono fun e w' hh=>fs.of (by simp[ch,hx]) hh
 ·cases xf with
  | true=>exact (mE B g c L p i t m r xi xu xl xr xt xb xc w h hBw hp hx).mono fun e w' hh=>fs.of (by simp[ch,hx]) hh
  | false=>
   have e:ch L p 6 m=eI L p m:=by simp[ch,hx]
   rw[e]
   exact rn B g c L p i t m r xi xu xl xr xt xb xc w h hBw hR hp hx (by unfold ax at ho;omega) (by unfold ax at ho;omega)
 ·by_cases hu:xu=0
  ·subst hu
   by_cases hm:m<0
   ·exact (mF B g c L p i t m r xi xl xr xt xb xc xf w h hBw hp hx hm).mono fun e w' hh=>fs.of (by simp[ch,hx,hm]) hh
   ·exact (jP B g c L p i t m r xi xl xr xt xb xc xf w h hBw hp hx (by omega)).mono fun e w' hh=>fs.of (by simp[ch,hx,hm]) hh
  ·exact (lm B g c L p i t m r xi xu xl xr xt xb xc xf w h hBw hp hx hu).mono fun e w' hh=>fs.of (by simp[ch,hx,hu]) hh
 ·by_cases hu:xu=0
  ·subst hu
   exact (li B g c L p i t m r xi xl xr xt xb xc xf w h hBw hp hx).mono fun e w' hh=>fs.of (by simp[ch,hx]) hh
  ·exact (jO B g c L p i t m r xi xu xl xr xt xb xc xf w h hBw hp hx hu).mono fun e w' hh=>fs.of (by simp[ch,hx,hu]) hh
noncomputable def aK (L:List al) (k i t m r:Int):Int×List al:=
 if k=1 then da L i t m r else
 match aB (FL L) L.length i with
 | none=>(3,L)
 | some p=>
  if k=7 then (match aB (FL L) L.length t with|none=>(3,L)|some q=>eo L p q m) else
  if k=9 then (match aB (FL L) L.length t with|none=>(3,L)|some q=>cW L p q ((aB (FL L) L.length (FL L p).up).getD 0)) else
  ch L p k m
open Classical in
noncomputable def bV (L:List al) (R:Int×List al):Int×List al:=if R.1=0 then (if ap (FL R.2) R.2.length then R else (7,L)) else (R.1,L)
open Classical in
noncomputable def ao (L:List al) (k i t m r:Int):Int×List al:=if ax k i t m r then bV L (aK L k i t m r) else (2,L)
theorem aZ {p:Prop} {d:Decidable p} {A C:Int×List al} {n:Nat} (hA:A.2.length<=n) (hC:C.2.length<=n):(if p then A else C).2.length<=n:=by
 split
 ·exact hA
 ·exact hC
theorem pu (L:List al) (i t m r:Int):(da L i t m r).2.length<=L.length+1:=by
 unfold da
 refine aZ (by simp) (aZ (by simp) ?_)
 simp
 omega
theorem qW (L:List al) (p q:Nat) (m:Int):(eo L p q m).2.length<=L.length+1:=by
 unfold eo
 exact aZ (by simp) (aZ (by simp) (by simp))
theorem p8 (L:List al) (p q u:Nat):(cW L p q u).2.length<=L.length+1:=by
 unfold cW
 exact aZ (by simp) (aZ (by simp) (by simp))
theorem pJ (L:List al) (p:Nat) (m:Int):(eI L p m).2.length<=L.length+1:=by
 unfold eI
 exact aZ (by simp) (by simp)
theorem nj (L:List al) (p:Nat):(cG L p).2.length<=L.length+1:=by
 unfold cG
 refine aZ (by simp) ?_
 simp
 omega
theorem pU (L:List al) (p:Nat) (k m:Int):(ch L p k m).2.length<=L.length+1:=by
 unfold ch
 exact aZ (aZ (by simp) (by simp)) (aZ (aZ (by simp) (by simp)) (aZ (aZ (by simp) (nj L p)) (aZ (aZ (by simp) (by simp)) (aZ (aZ (by simp) (pJ L p m)) (aZ (aZ (by simp) (by simp)) (aZ (by simp) (by simp)))))))
theorem eU (L:List al) (k i t m r:Int):(aK L k i t m r).2.length<=L.length+1:=by
 unfold aK
 refine aZ (pu L i t m r) ?_
 cases aB (FL L) L.length i with
 | none=>simp
 | some p=>
  refine aZ ?_ (aZ ?_ (pU L p k m))
  ·cases aB (FL L) L.length t with
   | none=>simp
   | some q=>exact qW L p q m
  ·cases aB (FL L) L.length t with
   | none=>simp
   | some q=>exact p8 L p q _
open Go.RowKit
theorem AL.own {w:World} {B:Nat} {v:Value} {L:List al} (h:AL w B v L) (hv:v≠ Sl none 0 0):∃g c,v=Sl (some ⟨g,0,none⟩) L.length c:=by
 rcases h.2 with ⟨e,_⟩|⟨g,c,_,e,_⟩
 ·exact absurd e hv
 ·exact ⟨g,c,e⟩
theorem aM (a:Option Addr) (n c:Nat) (L:List al) (w:World) (hn:n=L.length) (h:Fo w a n (FL L)):
  Calls Pg 118 #[Sl a n c] w fun e w'=>∃g c',e=.returned (Sl (some ⟨g,0,none⟩) L.length c')/\AL w' w.heap.size (Sl (some ⟨g,0,none⟩) L.length c') L/\Below w.heap.size w w':=by
 obtain ⟨i0,hi,hz0,hz1,hz2⟩:=info_parts ge
 have A0:Hid (AL (w.alloc (.cells #[] 53)) w.heap.size (Sl (some ⟨w.heap.size,0,none⟩) 0 0) []):=AL.empty w _ (Nf _)
 have H:Hid (Fo w a n (FL L)):=h
 have hb:=h.1
 clear h
 subst hn
 cases a with
 | none=>
  have h0:L.length=0:=by
   rcases H.out.2 with h0|⟨b,o,ha,_⟩
   ·exact h0
   ·cases ha
  have hL:L=[]:=List.length_eq_zero_iff.1 h0
  subst hL
  go_enter Tryz.func118,Tryz.ntmps118
  go_wp2
  go_ret
  exact ⟨_,_,rfl,A0.out,(Bf _ _).alloc (Nf _) _⟩
 | some p=>
  have HC:Hid (∀j u,(L.flatMap ab)[j]? =some u->(w.alloc (.cells #[] 53)).cell? (p.add j)=some u):=fun j u hj=>by
   have hjl:j<L.length*8:=by
    by_cases e:j<L.length*8
    ·exact e
    ·rw[List.getElem?_eq_none (by rw[dT];omega)] at hj;cases hj
   have hd:j=(j / 8)*8+j % 8:=by omega
   have hq:j / 8<L.length:=by omega
   obtain ⟨b,o,ea,hbz,hA⟩:=H.out.acc hq
   have ep:p=⟨b,o,none⟩:=by simpa using ea
   subst ep
   rw[hd,gF L _ _ hq (Nat.mod_lt _ (by omega))] at hj
   have e1:(⟨b,o,none⟩:Addr).add j=⟨b,o+(j / 8)*8+j % 8,none⟩:=by
    by_cases h0:j=0
    ·subst h0;simp[Addr.add]
    ·simp only[Addr.add,h0];simp;omega
   rw[e1,World.cell?_alloc_lt _ _ _ (by exact hbz)]
   rw[eB hq] at hA
   obtain ⟨c0,c1,c2,c3,c4,c5,c6,c7⟩:=hA
   have hm:j % 8<8:=Nat.mod_lt _ (by omega)
   generalize L[j / 8]=x at*
   generalize j % 8=m at*
   match m,hm with
   | 0,_=>simpa [ab] using c0.trans hj
   | 1,_=>simpa [ab] using c1.trans hj
   | 2,_=>simpa [ab] using c2.trans hj
   | 3,_=>simpa [ab] using c3.trans hj
   | 4,_=>simpa [ab] using c4.trans hj
   | 5,_=>simpa [ab] using c5.trans hj
   | 6,_=>simpa [ab] using c6.trans hj
   | 7,_=>simpa [ab] using c7.trans hj
  go_enter Tryz.func118,Tryz.ntmps118
  go_wp2_with (at_builtin;refine wpList_append_own _ rfl _ _ 24 rfl w.heap.size 53 i0 _ 8 64 Tryz.underlying24 hi hz0 hz1 hz2 rfl (by decide) _ _ _ rfl A0.out p L.length c (L.flatMap ab) rfl (dT L) HC.out ?_ ?_ ?_ ?_ ?_)
  ·intro u hu
   obtain ⟨x,_,hx⟩:=List.mem_flatMap.1 hu
   simp only[ab,List.mem_cons,List.not_mem_nil,or_false] at hx
   rcases hx with e|e|e|e|e|e|e|e <;>subst e <;>rfl
  ·unfold maxLen;simp;omega
  ·simp;omega
  ·simp
  ·intro v' w2 hown hgrow hnn
   have A2:Hid (AL w2 w.heap.size v' L):=by
    show AL w2 w.heap.size v' L
    unfold AL
    simpa using hown
   have B2:Hid (Below w.heap.size w w2):=((Bf _ _).alloc (Nf _) _).grown hgrow (by simp) (fun q hq=>by simp[Value.ownBlock] at hq;omega)
   have hne:v'≠ Sl none 0 0:=fun e=>hnn e
   clear hown hgrow hnn
   obtain ⟨a2,c2,hv2⟩:=A2.out.own hne
   subst hv2
   clear hne
   go_wp2
   go_ret
   exact ⟨_,_,rfl,A2.out,B2.out⟩
theorem bJ (k i t m r:Int) (w:World) (h:ax k i t m r):
  Calls Pg 82 #[.agg #[Ii Jj k,Ii Jj i,Ii Jj t,Ii Jj m,Ii Jj r]] w fun e w'=>e=.returned (.bool true)/\Below w.heap.size w w':=
 (gt k i t m r w).mono fun e w' ⟨⟨b,he,hb⟩,hB⟩=>⟨by cases b with|true=>exact he|false=>exact absurd h (hb.2 rfl),hB⟩
theorem mM (k i t m r:Int) (w:World) (h:¬ax k i t m r):
  Calls Pg 82 #[.agg #[Ii Jj k,Ii Jj i,Ii Jj t,Ii Jj m,Ii Jj r]] w fun e w'=>e=.returned (.bool false)/\Below w.heap.size w w':=
 (gt k i t m r w).mono fun e w' ⟨⟨b,he,hb⟩,hB⟩=>⟨by cases b with|false=>exact he|true=>exact absurd (hb.1 rfl) h,hB⟩
end Go.Proofs.YtjhgchlfpolkcaaGreatDoor
