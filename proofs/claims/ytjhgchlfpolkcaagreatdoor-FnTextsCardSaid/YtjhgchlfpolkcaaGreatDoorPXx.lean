/-
  For every code of bytes the law FnTexts returns true and leaves its argument as it was: right banks and ops come back from their texts; what is read, written again, has just its bytes. Condition: the library's three tables, its two errors and the program's errText start as their texts lay them.
  The frame is the guide's way; the walk is ours.
-/
import Derived.Deep.DeepCutAuto
import Derived.Test.YtjhgchlfpolkcaaGreatDoorDrXx
import Derived.Test.YtjhgchlfpolkcaaGreatDoorSrwx
import Derived.Test.YtjhgchlfpolkcaaGreatDoorRows
import Derived.Test.YtjhgchlfpolkcaaGreatDoorCards
import Derived.Test.YtjhgchlfpolkcaaGreatDoorTie
import Derived.Test.YtjhgchlfpolkcaaGreatDoorOpnx
import Derived.WalkKit
import Derived.ProofKit
import Derived.OpenShut
import Derived.OpenVars
import Derived.SevenTiedAt
namespace Go.Proofs.YtjhgchlfpolkcaaGreatDoor
section
open Value renaming int → Ii,slice → Sl
open IntKind renaming i64 → Jj
open Go.Proofs.Tryz renaming prog → Pg
set_option maxHeartbeats 2000000
open Go.RowKit
set_option maxRecDepth 8000
def pP (w:World) (wd:ByteArray) (ns:List Int) (e:Ending) (w':World):Prop:=
 ∃a c,e=.returned (.tuple #[.string wd,Sl a ns.length c])/\fm w' a ns/\Below w.heap.size w w'
theorem aG.at {w:World} {R:Nat} {K n:Int} {x:bB} {o:am} (h:aG w R K x o n):∀p v,(bl K x o n)[p]? =some v->w.cell? ⟨R,p,none⟩=some v:=by
 obtain ⟨⟨c0,c1,c2,c3,c4,c5,c6,c7,c8,c9,c10,c11,c12,c13⟩,_⟩:=h
 intro p v hv
 match p,hv with
 | 0,hv=>simp[bl] at hv;rw[←hv];exact c0
 | 1,hv=>simp[bl] at hv;rw[←hv];exact c1
 | 2,hv=>simp[bl] at hv;rw[←hv];exact c2
 | 3,hv=>simp[bl] at hv;rw[←hv];exact c3
 | 4,hv=>simp[bl] at hv;rw[←hv];exact c4
 | 5,hv=>simp[bl] at hv;rw[←hv];exact c5
 | 6,hv=>simp[bl] at hv;rw[←hv];exact c6
 | 7,hv=>simp[bl] at hv;rw[←hv];exact c7
 | 8,hv=>simp[bl] at hv;rw[←hv];exact c8
 | 9,hv=>simp[bl] at hv;rw[←hv];exact c9
 | 10,hv=>simp[bl] at hv;rw[←hv];exact c10
 | 11,hv=>simp[bl] at hv;rw[←hv];exact c11
 | 12,hv=>simp[bl] at hv;rw[←hv];exact c12
 | 13,hv=>simp[bl] at hv;rw[←hv];exact c13
 | p+14,hv=>simp[bl] at hv
theorem aC.toC {w w':World} {R:Nat} {K n:Int} {x:bB} {o:am} {wd:ByteArray} {ps:List Nat} {ns:List Int} {e:Ending} (h:aC w R wd ps e w') (hb:aG w R K x o n) (hm:ps.map (fun p=>(bl K x o n)[p]?)=ns.map (fun z=>some (Value.int .i64 z))):pP w wd ns e w':=by
 obtain ⟨a,c,he,hp,hB⟩:=h
 have hl:ps.length=ns.length:=by simpa using congrArg List.length hm
 refine ⟨a,c,by rw[he,hl],?_,hB⟩
 rcases hp with rfl|⟨b,ha,hb1,hb2,hc⟩
 ·left
  exact List.length_eq_zero_iff.1 (by simpa using hl.symm)
 ·refine Or.inr ⟨b,0,ha,hb1,fun i hi=>⟨R,ps[i]'(by omega),?_,by have:=hb.2;have:=hB.size;omega,?_⟩⟩
  ·rw[Nat.zero_add]
   exact hc i (by omega)
  ·rw[hB.cell (p:=⟨R,ps[i]'(by omega),none⟩) hb.2]
   have e1:(ps.map (fun p=>(bl K x o n)[p]?))[i]? =(ns.map (fun z=>some (Value.int .i64 z)))[i]? :=by rw[hm]
   rw[List.getElem?_map,List.getElem?_map,List.getElem?_eq_getElem hi,List.getElem?_eq_getElem (by omega:i<ps.length)] at e1
   exact hb.at _ _ (by simpa using e1)
theorem qw (K n:Int) (x:bB) (o:am) (w:World) (h:¬aA K x o n):Calls Pg 9 #[.agg #[Ii Jj K,Ii Jj x.k,Ii Jj x.i,Ii Jj x.t,Ii Jj x.m,Ii Jj x.r,Ii Jj o.id,Ii Jj o.src,Ii Jj o.dst,Ii Jj o.amount,Ii Jj o.first,Ii Jj o.every,Ii Jj o.times,Ii Jj n]] w fun e w'=>cF w ⟨#[]⟩ e w':=by
 have HB:Hid (Below w.heap.size w (w.alloc (.cells #[Ii Jj K,Ii Jj x.k,Ii Jj x.i,Ii Jj x.t,Ii Jj x.m,Ii Jj x.r,Ii Jj o.id,Ii Jj o.src,Ii Jj o.dst,Ii Jj o.amount,Ii Jj o.first,Ii Jj o.every,Ii Jj o.times,Ii Jj n] 37))):=(Below.refl _ _).alloc (Nat.le_refl _) _
 have HN:Hid (¬aA K x o n):=h
 clear h
 obtain ⟨W0,hW0⟩:∃W0,W0=w.alloc (.cells #[Ii Jj K,Ii Jj x.k,Ii Jj x.i,Ii Jj x.t,Ii Jj x.m,Ii Jj x.r,Ii Jj o.id,Ii Jj o.src,Ii Jj o.dst,Ii Jj o.amount,Ii Jj o.first,Ii Jj o.every,Ii Jj o.times,Ii Jj n] 37):=⟨_,rfl⟩
 rw[←hW0] at HB
 have HW0:Hid (W0=_):=hW0
 clear hW0
 go_enter Tryz.func9,Tryz.ntmps9
 go_wp2_with fail
 rw[←HW0.out]
 refine (kX K n x o _).mono ?_
 rintro e w1 ⟨ht,B1⟩
 have he:=ht.false HN.out
 subst he
 have H1:Hid (Below w.heap.size w w1):=HB.out.trans (B1.mono HB.out.size)
 clear ht B1 HB HW0
 go_wp2
 go_ret
 exact ⟨rfl,H1.out⟩
theorem eP (K n:Int) (x:bB) (o:am) (w:World) (h:aA K x o n) (hp:iy w) (wd:ByteArray) (ns:List Int) (hw:wd.size<=100) (hl:ns.length<=8) (hs:∀z ∈ ns,e8 z)
  (hf:∀R w,aG w R K x o n->Calls Pg 33 #[.pointer (some ⟨R,0,none⟩)] w fun e w'=>pP w wd ns e w'):Calls Pg 9 #[.agg #[Ii Jj K,Ii Jj x.k,Ii Jj x.i,Ii Jj x.t,Ii Jj x.m,Ii Jj x.r,Ii Jj o.id,Ii Jj o.src,Ii Jj o.dst,Ii Jj o.amount,Ii Jj o.first,Ii Jj o.every,Ii Jj o.times,Ii Jj n]] w fun e w'=>cF w (be wd ns) e w':=by
 obtain ⟨W0,hW0,X0,HB⟩:∃W0,W0=w.alloc (.cells #[Ii Jj K,Ii Jj x.k,Ii Jj x.i,Ii Jj x.t,Ii Jj x.m,Ii Jj x.r,Ii Jj o.id,Ii Jj o.src,Ii Jj o.dst,Ii Jj o.amount,Ii Jj o.first,Ii Jj o.every,Ii Jj o.times,Ii Jj n] 37)/\Hid (aG W0 w.heap.size K x o n)/\Hid (Below w.heap.size w W0):=⟨_,rfl,aG.new w K x o n 37,(Below.refl _ _).alloc (Nat.le_refl _) _⟩
 have HW0:Hid (W0=_):=hW0
 have HN:Hid (aA K x o n):=h
 have HF:Hid (∀R w,aG w R K x o n->Calls Pg 33 #[.pointer (some ⟨R,0,none⟩)] w fun e w'=>pP w wd ns e w'):=hf
 have HR:Hid (∀W a m c,ns.length=m->fm W a ns->iy W->Calls Pg 32 #[.string wd,Sl a m c] W fun e w'=>e=.returned (.string (be wd ns))/\Below W.heap.size W w'):=fun W a m c hm h1 h2=>ou wd hw a m c ns hm (by omega) hs W h1 h2
 have HP:Hid (iy w):=hp
 clear h hf hs hw hp hW0
 go_enter Tryz.func9,Tryz.ntmps9
 go_wp2_with fail
 rw[←HW0.out]
 refine (kX K n x o _).mono ?_
 rintro e w1 ⟨ht,B1⟩
 have he:=ht.true HN.out
 subst he
 have H1:Hid (aG w1 w.heap.size K x o n/\Below w.heap.size w w1):=⟨X0.out.kept B1 X0.out.2,HB.out.trans (B1.mono HB.out.size)⟩
 clear ht B1 HB HW0 X0
 go_wp2_with fail
 refine (HF.out _ _ H1.out.1).mono ?_
 rintro e w2 ⟨a,c,rfl,P2,B2⟩
 have H2:Hid (Below w.heap.size w w2/\fm w2 a ns):=⟨H1.out.2.trans (B2.mono H1.out.2.size),P2⟩
 obtain ⟨m,hm⟩:∃m,m=ns.length:=⟨_,rfl⟩
 rw[←hm]
 have HM:Hid (ns.length=m):=hm.symm
 clear P2 B2 H1 hm hl HF
 go_wp2_with fail
 refine (HR.out _ a m c HM.out H2.out.2 (HP.out.below H2.out.1)).mono ?_
 rintro e w3 ⟨rfl,B3⟩
 have H3:Hid (Below w.heap.size w w3):=H2.out.1.trans (B3.mono H2.out.1.size)
 clear B3 H2 HR
 go_wp2
 go_ret
 exact ⟨rfl,H3.out⟩
theorem f6 {b:ByteArray} (h:∃i,i<13/\b=cB i):b.size<=100:=by
 obtain ⟨i,hi,rfl⟩:=h
 exact (by decide:∀i,i<13->(cB i).size<=100) i hi
theorem bN {K n:Int} {x:bB} {o:am} (h:aA K x o n):∃i,i<13/\(bm K x o n).1=cB i:=by
 obtain ⟨i,hi,e,_⟩:=dg h
 exact ⟨i,hi,e⟩
theorem qp (K n:Int) (x:bB) (o:am) (w:World) (hp:iy w):Calls Pg 9 #[.agg (bl K x o n).toArray] w fun e w'=>cF w (dI K x o n) e w':=by
 by_cases h:aA K x o n
 rotate_left
 ·unfold dI
  rw[if_neg h]
  exact qw K n x o w h
 have hs:∀z ∈ (bm K x o n).2,e8 z:=fun z hz=>⟨by have:=eE h z hz;omega,by have:=eE h z hz;omega⟩
 unfold dI
 rw[if_pos h]
 have h':=h
 rcases h with ⟨rfl,h1,h2,h3⟩|⟨rfl,h1,h2,h3⟩|⟨rfl,h1,h2,h3⟩|⟨rfl,h1,h2,h3⟩
 ·obtain ⟨k,i,t,m,r⟩:=x
  have h5:=h1.2
  simp only at h5
  have h4:k=1\/k=2\/k=3\/k=4\/k=5\/k=6\/k=7\/k=8\/k=9\/k=10:=by omega
  rcases h4 with rfl|rfl|rfl|rfl|rfl|rfl|rfl|rfl|rfl|rfl
  ·exact eP 19 n ⟨1,i,t,m,r⟩ o w h' hp _ _ (show ByteArray.size _<=100 from f6 (bN h')) (by simp[bm]) hs (fun R w hb=>(bC R n ⟨1,i,t,m,r⟩ o w hb _ [2,3,4,5] (fun w hb=>mc R 19 n ⟨1,i,t,m,r⟩ o w hb rfl)).mono fun e w' hh=>aC.toC hh hb rfl)
  ·exact eP 19 n ⟨2,i,t,m,r⟩ o w h' hp _ _ (show ByteArray.size _<=100 from f6 (bN h')) (by simp[bm]) hs (fun R w hb=>(bC R n ⟨2,i,t,m,r⟩ o w hb _ [2] (fun w hb=>md R 19 n ⟨2,i,t,m,r⟩ o w hb rfl)).mono fun e w' hh=>aC.toC hh hb rfl)
  ·exact eP 19 n ⟨3,i,t,m,r⟩ o w h' hp _ _ (show ByteArray.size _<=100 from f6 (bN h')) (by simp[bm]) hs (fun R w hb=>(bC R n ⟨3,i,t,m,r⟩ o w hb _ [2] (fun w hb=>me R 19 n ⟨3,i,t,m,r⟩ o w hb rfl)).mono fun e w' hh=>aC.toC hh hb rfl)
  ·exact eP 19 n ⟨4,i,t,m,r⟩ o w h' hp _ _ (show ByteArray.size _<=100 from f6 (bN h')) (by simp[bm]) hs (fun R w hb=>(bC R n ⟨4,i,t,m,r⟩ o w hb _ [2] (fun w hb=>mf R 19 n ⟨4,i,t,m,r⟩ o w hb rfl)).mono fun e w' hh=>aC.toC hh hb rfl)
  ·exact eP 19 n ⟨5,i,t,m,r⟩ o w h' hp _ _ (show ByteArray.size _<=100 from f6 (bN h')) (by simp[bm]) hs (fun R w hb=>(bC R n ⟨5,i,t,m,r⟩ o w hb _ [2,4] (fun w hb=>mg R 19 n ⟨5,i,t,m,r⟩ o w hb rfl)).mono fun e w' hh=>aC.toC hh hb rfl)
  ·exact eP 19 n ⟨6,i,t,m,r⟩ o w h' hp _ _ (show ByteArray.size _<=100 from f6 (bN h')) (by simp[bm]) hs (fun R w hb=>(bC R n ⟨6,i,t,m,r⟩ o w hb _ [2,4] (fun w hb=>mh R 19 n ⟨6,i,t,m,r⟩ o w hb rfl)).mono fun e w' hh=>aC.toC hh hb rfl)
  ·exact eP 19 n ⟨7,i,t,m,r⟩ o w h' hp _ _ (show ByteArray.size _<=100 from f6 (bN h')) (by simp[bm]) hs (fun R w hb=>(bC R n ⟨7,i,t,m,r⟩ o w hb _ [2,3,4] (fun w hb=>mj R 19 n ⟨7,i,t,m,r⟩ o w hb rfl)).mono fun e w' hh=>aC.toC hh hb rfl)
  ·exact eP 19 n ⟨8,i,t,m,r⟩ o w h' hp _ _ (show ByteArray.size _<=100 from f6 (bN h')) (by simp[bm]) hs (fun R w hb=>(bC R n ⟨8,i,t,m,r⟩ o w hb _ [2,4] (fun w hb=>ml R 19 n ⟨8,i,t,m,r⟩ o w hb rfl)).mono fun e w' hh=>aC.toC hh hb rfl)
  ·exact eP 19 n ⟨9,i,t,m,r⟩ o w h' hp _ _ (show ByteArray.size _<=100 from f6 (bN h')) (by simp[bm]) hs (fun R w hb=>(bC R n ⟨9,i,t,m,r⟩ o w hb _ [2,3] (fun w hb=>mm R 19 n ⟨9,i,t,m,r⟩ o w hb rfl)).mono fun e w' hh=>aC.toC hh hb rfl)
  ·exact eP 19 n ⟨10,i,t,m,r⟩ o w h' hp _ _ (show ByteArray.size _<=100 from f6 (bN h')) (by simp[bm]) hs (fun R w hb=>(bC R n ⟨10,i,t,m,r⟩ o w hb _ [2,4] (fun w hb=>kp R 19 n ⟨10,i,t,m,r⟩ o w hb rfl)).mono fun e w' hh=>aC.toC hh hb rfl)
 ·exact eP 20 n x o w h' hp _ _ (show ByteArray.size _<=100 from f6 (bN h')) (by simp[bm]) hs (fun R w hb=>(oi R n x o w hb).mono fun e w' hh=>aC.toC hh hb rfl)
 ·exact eP 21 n x o w h' hp _ _ (show ByteArray.size _<=100 from f6 (bN h')) (by simp[bm]) hs (fun R w hb=>(oj R n x o w hb).mono fun e w' hh=>aC.toC hh hb rfl)
 ·exact eP 22 n x o w h' hp _ _ (show ByteArray.size _<=100 from f6 (bN h')) (by simp[bm]) hs (fun R w hb=>(ol R n x o w hb).mono fun e w' hh=>aC.toC hh hb rfl)
end
section
open Go.RowKit
set_option maxRecDepth 8000
theorem ic {B:Nat} {w w':World} (h:Below B w w') (q:Nat):Below B w (w'.drewN q):=⟨h.os,h.tape,h.output,h.size,h.block⟩
set_option maxHeartbeats 2000000 in
theorem iz (a b:Option Addr) (n c d:Nat) (F:Nat->al) (w:World) (ha:Fo w a n F) (hb:Fo w b n F):
  Calls Tryz.prog 43 #[.slice a n c,.slice b n d] w fun e w'=>e=.returned (.bool true)/\Below w.heap.size w w':=by
 have HA:Hid (Fo w a n F):=ha
 have HB:Hid (Fo w b n F):=hb
 have hn:=ha.1
 clear ha hb
 go_enter Tryz.func43,Tryz.ntmps43
 go_wp2
 go_loopw[5] (fun i wr=>∃(k q:Nat),k<=n/\i=.int .i64 k/\wr=w.drewN q) (fun i _=>n-(intOf i).toNat)
 case atStart=>exact ⟨0,0,Nat.zero_le _,rfl,rfl⟩
 case round=>
  obtain ⟨k,q,hk,rfl,rfl⟩:=hrel
  by_cases hlt:k<n
  ·obtain ⟨b1,o1,rfl,hz1,c0,c1,c2,c3,c4,c5,c6,c7⟩:=HA.out.acc hlt
   obtain ⟨b2,o2,rfl,hz2,d0,d1,d2,d3,d4,d5,d6,d7⟩:=HB.out.acc hlt
   generalize F k=x at c0 c1 c2 c3 c4 c5 c6 c7 d0 d1 d2 d3 d4 d5 d6 d7
   go_wp2
   go_quiet (fail)
   go_wp2
   go_roundw
   case rel=>exact ⟨k+1,_,by omega,by go_num,rfl⟩
   case measure=>simp[intOf];omega
  ·go_wp2
   go_ret
   exact ⟨rfl,ic (Below.refl _ _) _⟩
end
section
open Value renaming int → Ii,slice → Sl
open IntKind renaming i64 → Jj
set_option maxHeartbeats 4000000
open Go.RowKit
set_option maxRecDepth 8000
theorem iC (a b:Option Addr) (n c d:Nat) (F:Nat->am) (w:World) (ha:aJ w a n F) (hb:aJ w b n F):
  Calls Tryz.prog 44 #[Sl a n c,Sl b n d] w fun e w'=>e=.returned (.bool true)/\Below w.heap.size w w':=by
 have HA:Hid (aJ w a n F):=ha
 have HB:Hid (aJ w b n F):=hb
 have hn:=ha.1
 clear ha hb
 go_enter Tryz.func44,Tryz.ntmps44
 go_wp2
 go_loopw[5] (fun i wr=>∃(k q:Nat),k<=n/\i=Ii Jj k/\wr=w.drewN q) (fun i _=>n-(intOf i).toNat)
 case atStart=>exact ⟨0,0,Nat.zero_le _,rfl,rfl⟩
 case round=>
  obtain ⟨k,q,hk,rfl,rfl⟩:=hrel
  by_cases hlt:k<n
  ·obtain ⟨b1,o1,rfl,hz1,c0,c1,c2,c3,c4,c5,c6⟩:=HA.out.acc hlt
   obtain ⟨b2,o2,rfl,hz2,d0,d1,d2,d3,d4,d5,d6⟩:=HB.out.acc hlt
   generalize F k=x at c0 c1 c2 c3 c4 c5 c6 d0 d1 d2 d3 d4 d5 d6
   go_wp2
   go_quiet (fail)
   go_wp2
   go_roundw
   case rel=>exact ⟨k+1,_,by omega,by go_num,rfl⟩
   case measure=>simp[intOf];omega
  ·go_wp2
   go_ret
   exact ⟨rfl,ic (Below.refl _ _) _⟩
theorem jN (a1 a2 b1 b2:Option Addr) (n p1 p2 m q1 q2:Nat) (F:Nat->al) (O:Nat->am) (k:Bk) (w:World) (hF1:Fo w a1 n F) (hF2:Fo w a2 n F) (hO1:aJ w b1 m O) (hO2:aJ w b2 m O):
  Calls Tryz.prog 13 #[.agg #[Ii Jj k.day,Sl a1 n p1,Sl b1 m q1,Ii Jj k.inn,Ii Jj k.out,Ii Jj k.posted,Ii Jj k.missed],.agg #[Ii Jj k.day,Sl a2 n p2,Sl b2 m q2,Ii Jj k.inn,Ii Jj k.out,Ii Jj k.posted,Ii Jj k.missed]] w fun e w'=>e=.returned (.bool true)/\Below w.heap.size w w':=by
 obtain ⟨h,hh⟩:∃h,w.heap.size=h:=⟨_,rfl⟩
 have HH:Hid (w.heap.size=h):=hh
 obtain ⟨W0,hW0,X0⟩:∃W0,W0=(w.alloc (.cells #[Ii Jj k.day,Sl a1 n p1,Sl b1 m q1,Ii Jj k.inn,Ii Jj k.out,Ii Jj k.posted,Ii Jj k.missed] 27)).alloc (.cells #[Ii Jj k.day,Sl a2 n p2,Sl b2 m q2,Ii Jj k.inn,Ii Jj k.out,Ii Jj k.posted,Ii Jj k.missed] 27)/\Hid (af W0 h (Ii Jj k.day) (Sl a1 n p1) (Sl b1 m q1) (Ii Jj k.inn) (Ii Jj k.out) (Ii Jj k.posted) (Ii Jj k.missed)/\af W0 (h+1) (Ii Jj k.day) (Sl a2 n p2) (Sl b2 m q2) (Ii Jj k.inn) (Ii Jj k.out) (Ii Jj k.posted) (Ii Jj k.missed)/\Below h w W0/\Fo W0 a1 n F/\Fo W0 a2 n F/\aJ W0 b1 m O/\aJ W0 b2 m O):=by
  have bA:∀(V:World) (o:Obj),Below V.heap.size V (V.alloc o):=fun V o=>(Below.refl _ _).alloc (Nat.le_refl _) _
  have v0:=(af.new w (Ii Jj k.day) (Sl a1 n p1) (Sl b1 m q1) (Ii Jj k.inn) (Ii Jj k.out) (Ii Jj k.posted) (Ii Jj k.missed) 27).kept (bA _ (.cells #[Ii Jj k.day,Sl a2 n p2,Sl b2 m q2,Ii Jj k.inn,Ii Jj k.out,Ii Jj k.posted,Ii Jj k.missed] 27)) (by simp)
  have v1:=af.new (w.alloc (.cells #[Ii Jj k.day,Sl a1 n p1,Sl b1 m q1,Ii Jj k.inn,Ii Jj k.out,Ii Jj k.posted,Ii Jj k.missed] 27)) (Ii Jj k.day) (Sl a2 n p2) (Sl b2 m q2) (Ii Jj k.inn) (Ii Jj k.out) (Ii Jj k.posted) (Ii Jj k.missed) 27
  simp only[World.size_alloc] at v1
  rw[hh] at v0 v1
  have bb:Below w.heap.size w ((w.alloc (.cells #[Ii Jj k.day,Sl a1 n p1,Sl b1 m q1,Ii Jj k.inn,Ii Jj k.out,Ii Jj k.posted,Ii Jj k.missed] 27)).alloc (.cells #[Ii Jj k.day,Sl a2 n p2,Sl b2 m q2,Ii Jj k.inn,Ii Jj k.out,Ii Jj k.posted,Ii Jj k.missed] 27)):=((Below.refl _ _).alloc (Nat.le_refl _) _).alloc (by simp) _
  exact ⟨_,rfl,v0,v1,by rw[←hh];exact bb,hF1.below bb,hF2.below bb,hO1.below bb,hO2.below bb⟩
 have HW0:Hid (W0=_):=hW0
 clear hW0 hF1 hF2 hO1 hO2
 go_enter Tryz.func13,Tryz.ntmps13
 go_upto_region 1 with fail
 rw[←HW0.out]
 try rw[hh]
 clear HW0 hh
 obtain ⟨⟨x0,x1,x2,x3,x4,x5,x6⟩,xf,xz⟩:=X0.out.1
 obtain ⟨⟨y0,y1,y2,y3,y4,y5,y6⟩,yf,yz⟩:=X0.out.2.1
 go_wp2_with fail
 refine (iz a1 a2 n p1 p2 F _ X0.out.2.2.2.1 X0.out.2.2.2.2.1).mono ?_
 rintro e w1 ⟨rfl,B1⟩
 have X1:Hid (af w1 h (Ii Jj k.day) (Sl a1 n p1) (Sl b1 m q1) (Ii Jj k.inn) (Ii Jj k.out) (Ii Jj k.posted) (Ii Jj k.missed)/\af w1 (h+1) (Ii Jj k.day) (Sl a2 n p2) (Sl b2 m q2) (Ii Jj k.inn) (Ii Jj k.out) (Ii Jj k.posted) (Ii Jj k.missed)/\Below h w w1/\aJ w1 b1 m O/\aJ w1 b2 m O):=⟨X0.out.1.kept B1 X0.out.1.2.2,X0.out.2.1.kept B1 X0.out.2.1.2.2,X0.out.2.2.1.trans (B1.mono (by have:=X0.out.1.2.2;omega)),X0.out.2.2.2.2.2.1.below B1,X0.out.2.2.2.2.2.2.below B1⟩
 clear B1 X0 x0 y0 x1 y1 x2 y2 x3 y3 x4 y4 x5 y5 x6 y6 xf yf xz yz
 obtain ⟨⟨x0,x1,x2,x3,x4,x5,x6⟩,xf,xz⟩:=X1.out.1
 obtain ⟨⟨y0,y1,y2,y3,y4,y5,y6⟩,yf,yz⟩:=X1.out.2.1
 go_wp2_with fail
 refine (iC b1 b2 m q1 q2 O _ X1.out.2.2.2.1 X1.out.2.2.2.2).mono ?_
 rintro e w2 ⟨rfl,B2⟩
 have FI:Hid (Below h w w2):=X1.out.2.2.1.trans (B2.mono (by have:=X1.out.1.2.2;omega))
 clear B2 X1 x0 y0 x1 y1 x2 y2 x3 y3 x4 y4 x5 y5 x6 y6 xf yf xz yz
 go_wp2
 go_ret
 exact ⟨rfl,by rw[HH.out];exact FI.out⟩
end
section
open Value renaming int → Ii,slice → Sl
open IntKind renaming i64 → Jj
open Nat renaming le_refl → Nf
open Go.Proofs.Tryz renaming prog → Pg
open Go.RowKit Go.Shelf
set_option maxRecDepth 8000
theorem oI {s:List UInt8} {k k':Bk} {L L':List al} {O O':List am} {t t':List UInt8} (h:f8 s k L O t) (h':f8 s k' L' O' t'):k=k'/\L=L'/\O=O':=by
 obtain ⟨p1,p2,d1,d2,d3,_⟩:=h
 obtain ⟨q1,q2,e1,e2,e3,_⟩:=h'
 rw[d1] at e1
 obtain ⟨f1,f2⟩:=Prod.ext_iff.1 (Option.some.inj e1)
 simp only at f1 f2
 rw[←f2,d2] at e2
 obtain ⟨f3,f4⟩:=Prod.ext_iff.1 (Option.some.inj e2)
 simp only at f3 f4
 rw[←f4,d3] at e3
 obtain ⟨f5,_⟩:=Prod.ext_iff.1 (Option.some.inj e3)
 simp only at f5
 exact ⟨oc f1,gH o8 f3,gH oC f5⟩
def de (V:World) (r B:Nat) (v u:Value) (k:Bk) (L:List al) (O:List am):Prop:=af V r (Ii Jj k.day) v u (Ii Jj k.inn) (Ii Jj k.out) (Ii Jj k.posted) (Ii Jj k.missed)/\AL V B v L/\ag V B u O
theorem de.below {V W:World} {r B:Nat} {v u:Value} {k:Bk} {L:List al} {O:List am} (h:de V r B v u k L O) (hb:Below V.heap.size V W):de W r B v u k L O:=⟨h.1.kept hb h.1.2.2,AL.kept h.2.1 hb,ag.kept h.2.2 hb⟩
theorem de.new {V:World} {B:Nat} {v u:Value} {k:Bk} {L:List al} {O:List am} (h1:AL V B v L) (h2:ag V B u O):de (V.alloc (.cells #[Ii Jj k.day,v,u,Ii Jj k.inn,Ii Jj k.out,Ii Jj k.posted,Ii Jj k.missed] 27)) V.heap.size B v u k L O:=
 have hb:Below V.heap.size V (V.alloc (.cells #[Ii Jj k.day,v,u,Ii Jj k.inn,Ii Jj k.out,Ii Jj k.posted,Ii Jj k.missed] 27)):=(Below.refl _ _).alloc (Nf _) _
 ⟨af.new _ _ _ _ _ _ _ _ _,AL.kept h1 hb,ag.kept h2 hb⟩
set_option maxHeartbeats 4000000 in
theorem jk (s:ByteArray) (hs:s.size<=1048576) (w:World) (g:ba w):Calls Pg 10 #[.string s] w fun e w'=>dP w s e w':=by
 obtain ⟨h,hh⟩:∃h,w.heap.size=h:=⟨_,rfl⟩
 have HH:Hid (w.heap.size=h):=hh
 obtain ⟨W0,hW0,X0⟩:∃W0,W0=w.alloc (.cells (bZ 0).toArray 37)/\Hid (ah W0 h (bZ 0)/\Below h w W0/\ba W0):=by
  have bb:Below w.heap.size w (w.alloc (.cells (bZ 0).toArray 37)):=(Below.refl _ _).alloc (Nf _) _
  exact ⟨_,rfl,by rw[←hh];exact ah.new _ _ _,by rw[←hh];exact bb,g.below bb⟩
 have HW0:Hid (W0=_):=hW0
 clear hW0 g
 go_enter Tryz.func10,Tryz.ntmps10
 go_wp2_with fail
 rw[←HW0.out]
 clear HW0 hh
 refine (sO s hs W0 X0.out.2.2).mono ?_
 rintro e w1 ⟨B1,hor⟩
 obtain ⟨K,x,o,n,b,rfl,HF⟩:∃K x o n b,e=.returned (.tuple #[.agg (bl K x o n).toArray,.bool b])/\Hid (∀W,Below h w W->dP w s e W):=by
  rcases hor with ⟨K,x,o,n,hr,rfl⟩|⟨hr,rfl⟩
  ·exact ⟨K,x,o,n,true,rfl,fun W hb=>⟨by rw[HH.out];exact hb,Or.inl ⟨K,x,o,n,hr,rfl⟩⟩⟩
  ·exact ⟨0,⟨0,0,0,0,0⟩,O0,0,false,rfl,fun W hb=>⟨by rw[HH.out];exact hb,Or.inr ⟨hr,rfl⟩⟩⟩
 have X1:Hid (ah w1 h (bZ 0)/\Below h w w1):=⟨X0.out.1.kept B1 X0.out.1.2.2,X0.out.2.1.trans (B1.mono (by have:=X0.out.1.2.2;omega))⟩
 clear B1 hor X0
 have r0:=X1.out.1.1 0 _ rfl
 have r1:=X1.out.1.1 1 _ rfl
 have r2:=X1.out.1.1 2 _ rfl
 have r3:=X1.out.1.1 3 _ rfl
 have r4:=X1.out.1.1 4 _ rfl
 have r5:=X1.out.1.1 5 _ rfl
 have r6:=X1.out.1.1 6 _ rfl
 have r7:=X1.out.1.1 7 _ rfl
 have r8:=X1.out.1.1 8 _ rfl
 have r9:=X1.out.1.1 9 _ rfl
 have r10:=X1.out.1.1 10 _ rfl
 have r11:=X1.out.1.1 11 _ rfl
 have r12:=X1.out.1.1 12 _ rfl
 have r13:=X1.out.1.1 13 _ rfl
 have fz:=X1.out.1.2.1
 go_wp2
 refine bodyPost_ret (v:=.tuple #[.agg (bl K x o n).toArray,.bool b]) (by simp[results,Tryz.results10,go_sem,r0,r1,r2,r3,r4,r5,r6,r7,r8,r9,r10,r11,r12,r13]) rfl ?_
 exact HF.out _ ((((((((((((((X1.out.2.setCell (p:=⟨h,0,none⟩) (Nf _) _).setCell (p:=⟨h,1,none⟩) (Nf _) _).setCell (p:=⟨h,2,none⟩) (Nf _) _).setCell (p:=⟨h,3,none⟩) (Nf _) _).setCell (p:=⟨h,4,none⟩) (Nf _) _).setCell (p:=⟨h,5,none⟩) (Nf _) _).setCell (p:=⟨h,6,none⟩) (Nf _) _).setCell (p:=⟨h,7,none⟩) (Nf _) _).setCell (p:=⟨h,8,none⟩) (Nf _) _).setCell (p:=⟨h,9,none⟩) (Nf _) _).setCell (p:=⟨h,10,none⟩) (Nf _) _).setCell (p:=⟨h,11,none⟩) (Nf _) _).setCell (p:=⟨h,12,none⟩) (Nf _) _).setCell (p:=⟨h,13,none⟩) (Nf _) _)
theorem sX (s:ByteArray) (hs:s.size<=1048576):∃(k:Bk) (L:List al) (O:List am) (n m:Nat) (b:Bool),(L.length<=12/\O.length<=8)/\((b=true/\f8 s.data.toList k L O [])\/(b=false/\∀k L O,¬f8 s.data.toList k L O []))/\(∀w,ba w->Calls Pg 7 #[.string s] w fun e w'=>∃(a1:Option Addr) (c1:Nat) (b1:Option Addr) (d1:Nat),e=.returned (.tuple #[.agg #[Ii Jj k.day,(Sl a1 n c1),(Sl b1 m d1),Ii Jj k.inn,Ii Jj k.out,Ii Jj k.posted,Ii Jj k.missed],.bool b])/\AL w' w.heap.size (Sl a1 n c1) L/\ag w' w.heap.size (Sl b1 m d1) O/\Below w.heap.size w w')/\(∀w,Calls Pg 16 #[.string s] w fun e w'=>∃(a1:Option Addr) (c1:Nat) (b1:Option Addr) (d1:Nat),e=.returned (.tuple #[.agg #[Ii Jj k.day,(Sl a1 n c1),(Sl b1 m d1),Ii Jj k.inn,Ii Jj k.out,Ii Jj k.posted,Ii Jj k.missed],.bool b])/\AL w' w.heap.size (Sl a1 n c1) L/\ag w' w.heap.size (Sl b1 m d1) O/\Below w.heap.size w w'):=by
 by_cases h:∃k L O,f8 s.data.toList k L O []
 ·obtain ⟨k,L,O,hr⟩:=h
  have hb:=((dd s k L O).1 hr).1
  have hone:∀w e w',dA w s e w'->∃(a1:Option Addr) (c1:Nat) (b1:Option Addr) (d1:Nat),e=.returned (.tuple #[.agg #[Ii Jj k.day,(Sl a1 L.length c1),(Sl b1 O.length d1),Ii Jj k.inn,Ii Jj k.out,Ii Jj k.posted,Ii Jj k.missed],.bool true])/\AL w' w.heap.size (Sl a1 L.length c1) L/\ag w' w.heap.size (Sl b1 O.length d1) O/\Below w.heap.size w w':=by
   intro w e w' hw
   rcases hw.2 with ⟨k',L',O',v,u,hr',rfl,h1,h2⟩|⟨hn,_⟩
   ·obtain ⟨rfl,rfl,rfl⟩:=oI hr hr'
    obtain ⟨a1,c1,rfl⟩:=h1.len
    obtain ⟨b1,d1,rfl,_⟩:=h2.shape
    exact ⟨a1,c1,b1,d1,rfl,h1,h2,hw.1⟩
   ·exact absurd hr (hn k L O)
  exact ⟨k,L,O,_,_,true,⟨hb.2.1.1,hb.2.2.1.1⟩,Or.inl ⟨rfl,hr⟩,fun w g=>(kh s hs w g).mono fun e w' h=>hone w e w' h,fun w=>(kC s hs w).mono fun e w' h=>hone w e w' h⟩
 ·have hone:∀w e w',dA w s e w'->∃(a1:Option Addr) (c1:Nat) (b1:Option Addr) (d1:Nat),e=.returned (.tuple #[.agg #[Ii Jj 0,(Sl a1 0 c1),(Sl b1 0 d1),Ii Jj 0,Ii Jj 0,Ii Jj 0,Ii Jj 0],.bool false])/\AL w' w.heap.size (Sl a1 0 c1) []/\ag w' w.heap.size (Sl b1 0 d1) []/\Below w.heap.size w w':=by
   intro w e w' hw
   rcases hw.2 with ⟨k',L',O',v,u,hr',_⟩|⟨_,rfl⟩
   ·exact absurd ⟨k',L',O',hr'⟩ h
   ·exact ⟨none,0,none,0,rfl,AL.nil' _ _,ag.nil _ _,hw.1⟩
  exact ⟨⟨0,0,0,0,0⟩,[],[],0,0,false,⟨by simp,by simp⟩,Or.inr ⟨rfl,fun k L O hr=>h ⟨k,L,O,hr⟩⟩,fun w g=>(kh s hs w g).mono fun e w' h=>hone w e w' h,fun w=>(kC s hs w).mono fun e w' h=>hone w e w' h⟩
theorem ku {s:List UInt8} {K n K' n':Int} {x x':bB} {o o':am} {t t':List UInt8} (hr:aY s K x o n t) (hr':aY s K' x' o' n' t'):K=K'/\x=x'/\o=o'/\n=n':=by
 obtain ⟨i,hi,e1,e2,e3⟩:=dg hr.1
 have hww:(cB i).data.toList=bk s:=by rw[←e1,hr.2.1]
 have a:=eg (wd:=cB i) hww hi rfl hr
 have b:=eg (wd:=cB i) hww hi rfl hr'
 have c:=congrArg Prod.fst (Option.some.inj (a.1.symm.trans b.1))
 exact pX (a.2.symm.trans ((congrArg (cK (dt i) (gn i)) c).trans b.2))
theorem rh (s:ByteArray) (hs:s.size<=1048576):∃(K n:Int) (x:bB) (o:am) (b:Bool),((b=true/\aY s.data.toList K x o n [])\/(b=false/\∀K x o n,¬aY s.data.toList K x o n []))/\(∀w,ba w->Calls Pg 10 #[.string s] w fun e w'=>e=.returned (.tuple #[.agg #[Ii Jj K,Ii Jj x.k,Ii Jj x.i,Ii Jj x.t,Ii Jj x.m,Ii Jj x.r,Ii Jj o.id,Ii Jj o.src,Ii Jj o.dst,Ii Jj o.amount,Ii Jj o.first,Ii Jj o.every,Ii Jj o.times,Ii Jj n],.bool b])/\Below w.heap.size w w')/\(∀w,Calls Pg 18 #[.string s] w fun e w'=>e=.returned (.tuple #[.agg #[Ii Jj K,Ii Jj x.k,Ii Jj x.i,Ii Jj x.t,Ii Jj x.m,Ii Jj x.r,Ii Jj o.id,Ii Jj o.src,Ii Jj o.dst,Ii Jj o.amount,Ii Jj o.first,Ii Jj o.every,Ii Jj o.times,Ii Jj n],.bool b])/\Below w.heap.size w w'):=by
 by_cases h:∃K x o n,aY s.data.toList K x o n []
 ·obtain ⟨K,x,o,n,hr⟩:=h
  have hone:∀w e w',dP w s e w'->e=.returned (.tuple #[.agg #[Ii Jj K,Ii Jj x.k,Ii Jj x.i,Ii Jj x.t,Ii Jj x.m,Ii Jj x.r,Ii Jj o.id,Ii Jj o.src,Ii Jj o.dst,Ii Jj o.amount,Ii Jj o.first,Ii Jj o.every,Ii Jj o.times,Ii Jj n],.bool true])/\Below w.heap.size w w':=by
   intro w e w' hw
   refine ⟨?_,hw.1⟩
   rcases hw.2 with ⟨K',x',o',n',hr',rfl⟩|⟨hn,_⟩
   ·obtain ⟨rfl,rfl,rfl,rfl⟩:=ku hr hr'
    rfl
   ·exact absurd hr (hn K x o n)
  exact ⟨K,n,x,o,true,Or.inl ⟨rfl,hr⟩,fun w g=>(jk s hs w g).mono fun e w' h=>hone w e w' h,fun w=>(jF s hs w).mono fun e w' h=>hone w e w' h⟩
 ·have hone:∀w e w',dP w s e w'->e=.returned (.tuple #[.agg #[Ii Jj 0,Ii Jj 0,Ii Jj 0,Ii Jj 0,Ii Jj 0,Ii Jj 0,Ii Jj 0,Ii Jj 0,Ii Jj 0,Ii Jj 0,Ii Jj 0,Ii Jj 0,Ii Jj 0,Ii Jj 0],.bool false])/\Below w.heap.size w w':=by
   intro w e w' hw
   refine ⟨?_,hw.1⟩
   rcases hw.2 with ⟨K',x',o',n',hr',_⟩|⟨_,rfl⟩
   ·exact absurd ⟨K',x',o',n',hr'⟩ h
   ·rfl
  exact ⟨0,0,⟨0,0,0,0,0⟩,⟨0,0,0,0,0,0,0⟩,false,Or.inr ⟨rfl,fun K x o n hr=>h ⟨K,x,o,n,hr⟩⟩,fun w g=>(jk s hs w g).mono fun e w' h=>hone w e w' h,fun w=>(jF s hs w).mono fun e w' h=>hone w e w' h⟩
theorem sS (k:Bk) (L:List al) (O:List am) (hL:L.length<=12) (hO:O.length<=8):∃t:ByteArray,t.size<=5313/\((aj (FL L) L.length (ai O) O.length k/\t=cZ (FL L) L.length (ai O) O.length k)\/(¬aj (FL L) L.length (ai O) O.length k/\t=⟨#[]⟩))/\
  (∀(a b:Option Addr) (n c m d B C:Nat) (w:World),AL w B (Sl a n c) L->ag w C (Sl b m d) O->Calls Pg 11 #[.agg #[Ii Jj k.day,Sl a n c,Sl b m d,Ii Jj k.inn,Ii Jj k.out,Ii Jj k.posted,Ii Jj k.missed]] w fun e w'=>e=.returned (.string t)/\Below w.heap.size w w')/\
  (∀(a b:Option Addr) (n c m d B C:Nat) (w:World),iy w->AL w B (Sl a n c) L->ag w C (Sl b m d) O->Calls Pg 6 #[.agg #[Ii Jj k.day,Sl a n c,Sl b m d,Ii Jj k.inn,Ii Jj k.out,Ii Jj k.posted,Ii Jj k.missed]] w fun e w'=>e=.returned (.string t)/\Below w.heap.size w w'):=by
 by_cases h:aj (FL L) L.length (ai O) O.length k
 ·refine ⟨_,(dH h).1,Or.inl ⟨h,rfl⟩,fun a b n c m d B C w hA hQ=>?_,fun a b n c m d B C w hp hA hQ=>?_⟩
  ·obtain ⟨rfl,hF⟩:=hA.fo (by omega)
   obtain ⟨rfl,hR⟩:=hQ.list (by omega)
   exact jx a b _ c _ d _ _ k w hF hR _ ⟨fun _=>rfl,fun h'=>absurd h h'⟩
  ·obtain ⟨rfl,hF⟩:=hA.fo (by omega)
   obtain ⟨rfl,hR⟩:=hQ.list (by omega)
   exact ny a b _ c _ d _ _ k w hF hR h hp
 ·refine ⟨⟨#[]⟩,by decide,Or.inr ⟨h,rfl⟩,fun a b n c m d B C w hA hQ=>?_,fun a b n c m d B C w hp hA hQ=>?_⟩
  ·obtain ⟨rfl,hF⟩:=hA.fo (by omega)
   obtain ⟨rfl,hR⟩:=hQ.list (by omega)
   exact jx a b _ c _ d _ _ k w hF hR _ ⟨fun h'=>absurd h' h,fun _=>rfl⟩
  ·obtain ⟨rfl,hF⟩:=hA.fo (by omega)
   obtain ⟨rfl,hR⟩:=hQ.list (by omega)
   exact pd a b _ c _ d _ _ k w hF hR h
theorem ug (k:Bk) (L:List al) (O:List am) (hL:L.length<=12) (hO:O.length<=8) (a b:Option Addr) (n c m d B C:Nat) (w:World) (hA:AL w B (Sl a n c) L) (hQ:ag w C (Sl b m d) O):Calls Pg 12 #[.agg #[Ii Jj k.day,Sl a n c,Sl b m d,Ii Jj k.inn,Ii Jj k.out,Ii Jj k.posted,Ii Jj k.missed]] w fun e w'=>ae e (aj (FL L) L.length (ai O) O.length k)/\Below w.heap.size w w':=by
 obtain ⟨rfl,hF⟩:=hA.fo (by omega)
 obtain ⟨rfl,hR⟩:=hQ.list (by omega)
 exact gG a b _ c _ d _ _ k w hF hR
theorem t7 {a1 a2 b1 b2:Option Addr} {n p1 p2 m q1 q2 B C:Nat} {L:List al} {O:List am} (k:Bk) (w:World) (hL:L.length<=12) (hO:O.length<=8) (h1:AL w B (Sl a1 n p1) L) (h2:ag w B (Sl b1 m q1) O) (h3:AL w C (Sl a2 n p2) L) (h4:ag w C (Sl b2 m q2) O):
  Calls Pg 13 #[.agg #[Ii Jj k.day,Sl a1 n p1,Sl b1 m q1,Ii Jj k.inn,Ii Jj k.out,Ii Jj k.posted,Ii Jj k.missed],.agg #[Ii Jj k.day,Sl a2 n p2,Sl b2 m q2,Ii Jj k.inn,Ii Jj k.out,Ii Jj k.posted,Ii Jj k.missed]] w fun e w'=>e=.returned (.bool true)/\Below w.heap.size w w':=
 jN a1 a2 b1 b2 n p1 p2 m q1 q2 (FL L) (ai O) k w (h1.fo (by omega)).2 (h3.fo (by omega)).2 (h2.list (by omega)).2 (h4.list (by omega)).2
def St (w:World) (h:Nat) (a:Option Addr) (len:Nat) (W:World):Prop:=Code W a len/\ba W/\Below h w W/\h<=W.heap.size
theorem St.below {w W V:World} {h len:Nat} {a:Option Addr} (s:St w h a len W) (hb:Below W.heap.size W V):St w h a len V:=⟨s.1.below hb,s.2.1.below hb,s.2.2.1.trans (hb.mono s.2.2.2),Nat.le_trans s.2.2.2 hb.size⟩
end
section
open Value renaming int → Ii,slice → Sl
open IntKind renaming i64 → Jj
open Nat renaming le_refl → Nf
open Go.RowKit.Below renaming refl → Bf
open Go.RowKit
set_option maxRecDepth 8000
theorem AL.eqlen {w:World} {B C:Nat} {a b:Option Addr} {n m c d:Nat} {L:List al} (h:AL w B (Sl a n c) L) (h':AL w C (Sl b m d) L):n=m:=by
 obtain ⟨a1,c1,e1⟩:=h.len
 obtain ⟨a2,c2,e2⟩:=h'.len
 simp only[Value.slice.injEq] at e1 e2
 omega
theorem ag.eqlen {w:World} {B C:Nat} {a b:Option Addr} {n m c d:Nat} {L:List am} (h:ag w B (Sl a n c) L) (h':ag w C (Sl b m d) L):n=m:=by
 obtain ⟨a1,c1,e1⟩:=h.len
 obtain ⟨a2,c2,e2⟩:=h'.len
 simp only[Value.slice.injEq] at e1 e2
 omega
theorem qa {K n:Int} {x:bB} {o:am} {t:ByteArray} (h:aA K x o n) (ht:dI K x o n=t):t.toList≠[]:=by
 intro e
 have h1:=(eH h).2
 have h2:=kt h
 obtain ⟨y,b,hc,_⟩:=h2
 rw[ht] at hc
 rw[←ByteArray.toList_eq] at hc
 rw[e] at hc
 have:bF 32 ([]:List UInt8)=([],[],false):=rfl
 rw[this] at hc
 exact h1 (by simpa using (congrArg Prod.fst hc).symm)
set_option maxHeartbeats 16000000 in
theorem ul (a:Option Addr) (len cap:Nat) (w:World) (hc:Code w a len) (g:ba w):
  Calls Tryz.prog 3 #[Sl a len cap] w fun e w'=>e=.returned (.bool true)/\Below w.heap.size w w':=by
 have HC:Hid (Code w a len):=hc
 have HG:Hid (ba w):=g
 clear hc g
 by_cases hbig:1048576<len
 ·go_enter Tryz.func3,Tryz.ntmps3
  go_wp2_with (go_at_call 4;refine (rR _ _ _ _ hbig).mono ?_;rintro e w' ⟨rfl,rfl⟩)
  go_ret
  exact ⟨rfl,Bf _ _⟩
 go_enter Tryz.func3,Tryz.ntmps3
 go_wp2_with (go_at_call 4;refine (tl _ _ _ _ (by omega)).mono ?_;rintro e w' ⟨rfl,rfl⟩)
 clear hbig
 obtain ⟨h,hh⟩:∃h,w'.heap.size=h:=⟨_,rfl⟩
 have HH:Hid (w'.heap.size=h):=hh
 have S0:Hid (St w' h a len w'):=⟨HC.out,HG.out,Bf _ _,Nat.le_of_eq hh.symm⟩
 clear HC HG
 refine (tp a len cap _ S0.out.1).mono ?_
 rintro e w1 ⟨k,L,O,v,u,rfl,l1,o1,A1,Q1,B1⟩
 obtain ⟨a1,c1,hv⟩:=A1.len
 subst hv
 obtain ⟨b1,d1,hv⟩:=Q1.len
 subst hv
 obtain ⟨n1,hn1⟩:∃m,L.length=m:=⟨_,rfl⟩
 obtain ⟨m1,hm1⟩:∃m,O.length=m:=⟨_,rfl⟩
 rw[hn1] at A1
 rw[hm1] at Q1
 simp only[hn1,hm1]
 clear hn1 hm1
 rw[hh] at A1 Q1
 obtain ⟨t,hts,hto,hS,hI⟩:=sS k L O l1 o1
 have HLO:Hid (L.length<=12/\O.length<=8):=⟨l1,o1⟩
 have HS:Hid _:=hS
 have HI:Hid _:=hI
 have HT:Hid (t.size<=5313):=hts
 have HTO:Hid _:=hto
 clear hS hI hts hto l1 o1
 have S1:Hid (St w' h a len w1):=(S0.out).below B1
 clear S0 B1
 obtain ⟨W1,hW1,XW1⟩:∃V,V=w1.alloc (.cells #[Ii Jj k.day,(Sl a1 n1 c1),(Sl b1 m1 d1),Ii Jj k.inn,Ii Jj k.out,Ii Jj k.posted,Ii Jj k.missed] 27)/\Hid (St w' h a len V/\de V w1.heap.size h (Sl a1 n1 c1) (Sl b1 m1 d1) k L O):=by
  have hb:Below w1.heap.size w1 (w1.alloc (.cells #[Ii Jj k.day,(Sl a1 n1 c1),(Sl b1 m1 d1),Ii Jj k.inn,Ii Jj k.out,Ii Jj k.posted,Ii Jj k.missed] 27)):=(Bf _ _).alloc (Nf _) _
  exact ⟨_,rfl,(S1.out).below hb,de.new A1 Q1⟩
 have HW1:Hid (W1=_):=hW1
 clear hW1 S1 A1 Q1 hh
 go_upto_region 4 with fail
 rw[←HW1.out]
 obtain ⟨r3,hr3⟩:∃r,w1.heap.size=r:=⟨_,rfl⟩
 rw[hr3] at XW1
 try rw[hr3]
 clear HW1 hr3
 obtain ⟨⟨x0,x1,x2,x3,x4,x5,x6⟩,xf,xz⟩:=XW1.out.2.1
 go_wp2_with fail
 refine (HI.out a1 b1 n1 c1 m1 d1 h h _ XW1.out.1.2.1.2.2.2.1 XW1.out.2.2.1 XW1.out.2.2.2).mono ?_
 rintro e w2 ⟨rfl,B2⟩
 have X2:Hid (St w' h a len w2/\de w2 r3 h (Sl a1 n1 c1) (Sl b1 m1 d1) k L O):=⟨(XW1.out.1).below B2,(XW1.out.2).below B2⟩
 clear XW1 B2 x0 x1 x2 x3 x4 x5 x6 xf xz
 obtain ⟨k5,L5,O5,n5,m5,b5,hl5,hb5,hR5,_⟩:=sX t (by have:=HT.out;omega)
 have HR5:Hid _:=hR5
 have HL5:Hid (L5.length<=12/\O5.length<=8):=hl5
 have HB5:Hid _:=hb5
 clear hR5 hl5 hb5
 go_wp2_with fail
 refine (HR5.out _ X2.out.1.2.1).mono ?_
 rintro e w3 ⟨a5,c5,b9,d5,rfl,A3,Q3,B3⟩
 have A3':AL w3 h (Sl a5 n5 c5) L5:=A3.mono X2.out.1.2.2.2
 have Q3':ag w3 h (Sl b9 m5 d5) O5:=Q3.mono X2.out.1.2.2.2
 have X3:Hid (St w' h a len w3/\de w3 r3 h (Sl a1 n1 c1) (Sl b1 m1 d1) k L O):=⟨(X2.out.1).below B3,(X2.out.2).below B3⟩
 clear X2 B3 A3 Q3 HR5
 obtain ⟨W3,hW3,XW3⟩:∃V,V=w3.alloc (.cells #[Ii Jj k5.day,(Sl a5 n5 c5),(Sl b9 m5 d5),Ii Jj k5.inn,Ii Jj k5.out,Ii Jj k5.posted,Ii Jj k5.missed] 27)/\Hid (St w' h a len V/\de V r3 h (Sl a1 n1 c1) (Sl b1 m1 d1) k L O/\de V w3.heap.size h (Sl a5 n5 c5) (Sl b9 m5 d5) k5 L5 O5):=by
  have hb:Below w3.heap.size w3 (w3.alloc (.cells #[Ii Jj k5.day,(Sl a5 n5 c5),(Sl b9 m5 d5),Ii Jj k5.inn,Ii Jj k5.out,Ii Jj k5.posted,Ii Jj k5.missed] 27)):=(Bf _ _).alloc (Nf _) _
  exact ⟨_,rfl,(X3.out.1).below hb,(X3.out.2).below hb,de.new A3' Q3'⟩
 have HW3:Hid (W3=_):=hW3
 clear hW3 X3 A3' Q3'
 go_upto_region 6 with fail
 rw[←HW3.out]
 obtain ⟨r5,hr5⟩:∃r,w3.heap.size=r:=⟨_,rfl⟩
 rw[hr5] at XW3
 try rw[hr5]
 clear HW3 hr5
 go_wp2_with fail
 refine (tn a len cap _ XW3.out.1.1).mono ?_
 rintro e w4 ⟨K,n,x,o,rfl,B4⟩
 have X4:Hid (St w' h a len w4/\de w4 r3 h (Sl a1 n1 c1) (Sl b1 m1 d1) k L O/\de w4 r5 h (Sl a5 n5 c5) (Sl b9 m5 d5) k5 L5 O5):=⟨(XW3.out.1).below B4,(XW3.out.2.1).below B4,(XW3.out.2.2).below B4⟩
 clear XW3 B4
 obtain ⟨W4,hW4,XW4⟩:∃V,V=w4.alloc (.cells #[Ii Jj K,Ii Jj x.k,Ii Jj x.i,Ii Jj x.t,Ii Jj x.m,Ii Jj x.r,Ii Jj o.id,Ii Jj o.src,Ii Jj o.dst,Ii Jj o.amount,Ii Jj o.first,Ii Jj o.every,Ii Jj o.times,Ii Jj n] 37)/\Hid (St w' h a len V/\de V r3 h (Sl a1 n1 c1) (Sl b1 m1 d1) k L O/\de V r5 h (Sl a5 n5 c5) (Sl b9 m5 d5) k5 L5 O5/\ah V w4.heap.size [Ii Jj K,Ii Jj x.k,Ii Jj x.i,Ii Jj x.t,Ii Jj x.m,Ii Jj x.r,Ii Jj o.id,Ii Jj o.src,Ii Jj o.dst,Ii Jj o.amount,Ii Jj o.first,Ii Jj o.every,Ii Jj o.times,Ii Jj n]):=by
  have hb:Below w4.heap.size w4 (w4.alloc (.cells #[Ii Jj K,Ii Jj x.k,Ii Jj x.i,Ii Jj x.t,Ii Jj x.m,Ii Jj x.r,Ii Jj o.id,Ii Jj o.src,Ii Jj o.dst,Ii Jj o.amount,Ii Jj o.first,Ii Jj o.every,Ii Jj o.times,Ii Jj n] 37)):=(Bf _ _).alloc (Nf _) _
  exact ⟨_,rfl,(X4.out.1).below hb,(X4.out.2.1).below hb,(X4.out.2.2).below hb,ah.new w4 [Ii Jj K,Ii Jj x.k,Ii Jj x.i,Ii Jj x.t,Ii Jj x.m,Ii Jj x.r,Ii Jj o.id,Ii Jj o.src,Ii Jj o.dst,Ii Jj o.amount,Ii Jj o.first,Ii Jj o.every,Ii Jj o.times,Ii Jj n] 37⟩
 have HW4:Hid (W4=_):=hW4
 clear hW4 X4
 go_upto_region 7 with fail
 rw[←HW4.out]
 obtain ⟨r7,hr7⟩:∃r,w4.heap.size=r:=⟨_,rfl⟩
 rw[hr7] at XW4
 try rw[hr7]
 clear HW4 hr7
 have y0:=(XW4.out.2.2.2).1 0 _ rfl
 have y1:=(XW4.out.2.2.2).1 1 _ rfl
 have y2:=(XW4.out.2.2.2).1 2 _ rfl
 have y3:=(XW4.out.2.2.2).1 3 _ rfl
 have y4:=(XW4.out.2.2.2).1 4 _ rfl
 have y5:=(XW4.out.2.2.2).1 5 _ rfl
 have y6:=(XW4.out.2.2.2).1 6 _ rfl
 have y7:=(XW4.out.2.2.2).1 7 _ rfl
 have y8:=(XW4.out.2.2.2).1 8 _ rfl
 have y9:=(XW4.out.2.2.2).1 9 _ rfl
 have y10:=(XW4.out.2.2.2).1 10 _ rfl
 have y11:=(XW4.out.2.2.2).1 11 _ rfl
 have y12:=(XW4.out.2.2.2).1 12 _ rfl
 have y13:=(XW4.out.2.2.2).1 13 _ rfl
 obtain ⟨t2,ht2⟩:∃t,dI K x o n=t:=⟨_,rfl⟩
 have HI2:Hid (∀w,iy w->Calls Tryz.prog 9 #[.agg #[Ii Jj K,Ii Jj x.k,Ii Jj x.i,Ii Jj x.t,Ii Jj x.m,Ii Jj x.r,Ii Jj o.id,Ii Jj o.src,Ii Jj o.dst,Ii Jj o.amount,Ii Jj o.first,Ii Jj o.every,Ii Jj o.times,Ii Jj n]] w fun e w'=>e=.returned (.string t2)/\Below w.heap.size w w'):=fun w hp=>by rw[←ht2];exact qp K n x o w hp
 have HS2:Hid (∀w,Calls Tryz.prog 14 #[.agg #[Ii Jj K,Ii Jj x.k,Ii Jj x.i,Ii Jj x.t,Ii Jj x.m,Ii Jj x.r,Ii Jj o.id,Ii Jj o.src,Ii Jj o.dst,Ii Jj o.amount,Ii Jj o.first,Ii Jj o.every,Ii Jj o.times,Ii Jj n]] w fun e w'=>e=.returned (.string t2)/\Below w.heap.size w w'):=fun w=>by rw[←ht2];exact ln K n x o w
 have HT2:Hid (dI K x o n=t2/\t2.size<=1000):=⟨ht2,by rw[←ht2];exact jY K n x o⟩
 clear ht2
 go_wp2_with fail
 refine (HI2.out _ XW4.out.1.2.1.2.2.2.1).mono ?_
 rintro e w5 ⟨rfl,B5⟩
 have X5:Hid (St w' h a len w5/\de w5 r3 h (Sl a1 n1 c1) (Sl b1 m1 d1) k L O/\de w5 r5 h (Sl a5 n5 c5) (Sl b9 m5 d5) k5 L5 O5/\ah w5 r7 [Ii Jj K,Ii Jj x.k,Ii Jj x.i,Ii Jj x.t,Ii Jj x.m,Ii Jj x.r,Ii Jj o.id,Ii Jj o.src,Ii Jj o.dst,Ii Jj o.amount,Ii Jj o.first,Ii Jj o.every,Ii Jj o.times,Ii Jj n]):=⟨(XW4.out.1).below B5,(XW4.out.2.1).below B5,(XW4.out.2.2.1).below B5,(XW4.out.2.2.2).kept B5 (XW4.out.2.2.2).2.2⟩
 clear XW4 B5 y0 y1 y2 y3 y4 y5 y6 y7 y8 y9 y10 y11 y12 y13 HI2
 obtain ⟨K9,n9,x9,o9,b9',hb9,hR9,_⟩:=rh t2 (by have:=HT2.out.2;omega)
 have HR9:Hid _:=hR9
 have HB9:Hid _:=hb9
 clear hR9 hb9
 go_wp2_with fail
 refine (HR9.out _ X5.out.1.2.1).mono ?_
 rintro e w6 ⟨rfl,B6⟩
 have X6:Hid (St w' h a len w6/\de w6 r3 h (Sl a1 n1 c1) (Sl b1 m1 d1) k L O/\de w6 r5 h (Sl a5 n5 c5) (Sl b9 m5 d5) k5 L5 O5/\ah w6 r7 [Ii Jj K,Ii Jj x.k,Ii Jj x.i,Ii Jj x.t,Ii Jj x.m,Ii Jj x.r,Ii Jj o.id,Ii Jj o.src,Ii Jj o.dst,Ii Jj o.amount,Ii Jj o.first,Ii Jj o.every,Ii Jj o.times,Ii Jj n]):=⟨(X5.out.1).below B6,(X5.out.2.1).below B6,(X5.out.2.2.1).below B6,(X5.out.2.2.2).kept B6 (X5.out.2.2.2).2.2⟩
 clear X5 B6 HR9
 obtain ⟨W6,hW6,XW6⟩:∃V,V=w6.alloc (.cells #[Ii Jj K9,Ii Jj x9.k,Ii Jj x9.i,Ii Jj x9.t,Ii Jj x9.m,Ii Jj x9.r,Ii Jj o9.id,Ii Jj o9.src,Ii Jj o9.dst,Ii Jj o9.amount,Ii Jj o9.first,Ii Jj o9.every,Ii Jj o9.times,Ii Jj n9] 37)/\Hid (St w' h a len V/\de V r3 h (Sl a1 n1 c1) (Sl b1 m1 d1) k L O/\de V r5 h (Sl a5 n5 c5) (Sl b9 m5 d5) k5 L5 O5/\ah V r7 [Ii Jj K,Ii Jj x.k,Ii Jj x.i,Ii Jj x.t,Ii Jj x.m,Ii Jj x.r,Ii Jj o.id,Ii Jj o.src,Ii Jj o.dst,Ii Jj o.amount,Ii Jj o.first,Ii Jj o.every,Ii Jj o.times,Ii Jj n]/\ah V w6.heap.size [Ii Jj K9,Ii Jj x9.k,Ii Jj x9.i,Ii Jj x9.t,Ii Jj x9.m,Ii Jj x9.r,Ii Jj o9.id,Ii Jj o9.src,Ii Jj o9.dst,Ii Jj o9.amount,Ii Jj o9.first,Ii Jj o9.every,Ii Jj o9.times,Ii Jj n9]):=by
  have hb:Below w6.heap.size w6 (w6.alloc (.cells #[Ii Jj K9,Ii Jj x9.k,Ii Jj x9.i,Ii Jj x9.t,Ii Jj x9.m,Ii Jj x9.r,Ii Jj o9.id,Ii Jj o9.src,Ii Jj o9.dst,Ii Jj o9.amount,Ii Jj o9.first,Ii Jj o9.every,Ii Jj o9.times,Ii Jj n9] 37)):=(Bf _ _).alloc (Nf _) _
  exact ⟨_,rfl,(X6.out.1).below hb,(X6.out.2.1).below hb,(X6.out.2.2.1).below hb,(X6.out.2.2.2).kept hb (X6.out.2.2.2).2.2,ah.new w6 [Ii Jj K9,Ii Jj x9.k,Ii Jj x9.i,Ii Jj x9.t,Ii Jj x9.m,Ii Jj x9.r,Ii Jj o9.id,Ii Jj o9.src,Ii Jj o9.dst,Ii Jj o9.amount,Ii Jj o9.first,Ii Jj o9.every,Ii Jj o9.times,Ii Jj n9] 37⟩
 have HW6:Hid (W6=_):=hW6
 clear hW6 X6
 go_upto_region 9 with fail
 rw[←HW6.out]
 obtain ⟨r9,hr9⟩:∃r,w6.heap.size=r:=⟨_,rfl⟩
 rw[hr9] at XW6
 try rw[hr9]
 clear HW6 hr9
 have M5:(b5=true/\k=k5/\L=L5/\O=O5/\aj (FL L) L.length (ai O) O.length k)\/(b5=false/\¬aj (FL L) L.length (ai O) O.length k):=by
  rcases HB5.out with ⟨e5,hr⟩|⟨e5,hn⟩
  ·rcases HTO.out with ⟨ho,rfl⟩|⟨_,rfl⟩
   ·obtain ⟨e1,e2,e3⟩:=oI hr ((dd _ k L O).2 ⟨ho,rfl⟩)
    exact Or.inl ⟨e5,e1.symm,e2.symm,e3.symm,ho⟩
   ·have:=(dd _ _ _ _).1 hr
    have h2:=(dH this.1).2
    rw[←this.2] at h2
    exact absurd h2 (by decide)
  ·refine Or.inr ⟨e5,fun ho=>?_⟩
   rcases HTO.out with ⟨_,rfl⟩|⟨hno,_⟩
   ·exact hn k L O ((dd _ k L O).2 ⟨ho,rfl⟩)
   ·exact hno ho
 have M9:(b9'=true/\K=K9/\x=x9/\o=o9/\n=n9/\t2.toList≠[])\/(b9'=false/\t2=⟨#[]⟩):=by
  obtain ⟨ht2,_⟩:=HT2.out
  by_cases ho:aA K x o n
  ·have hr:=er.2 ⟨ho,ht2⟩
   rcases HB9.out with ⟨e9,hr9⟩|⟨e9,hn⟩
   ·obtain ⟨e1,e2,e3,e4⟩:=ku hr9 hr
    exact Or.inl ⟨e9,e1.symm,e2.symm,e3.symm,e4.symm,qa ho ht2⟩
   ·exact absurd hr (hn _ _ _ _)
  ·have e2:t2=⟨#[]⟩:=by rw[←ht2];unfold dI;rw[if_neg ho]
   rcases HB9.out with ⟨e9,hr9⟩|⟨e9,_⟩
   ·have:=er.1 hr9
    exact absurd (by rw[e2];rw[Lib.toList_data]) (qa this.1 this.2)
   ·exact Or.inr ⟨e9,e2⟩
 clear HB5 HB9 HTO HT2 HT
 go_cut[79] (fun s wx=>s=.bool false/\St w' h a len wx)
 case first=>
  rcases M5 with ⟨rfl,rfl,rfl,rfl,hok⟩|⟨rfl,hok⟩
  ·have HOK:Hid _:=hok
   clear hok
   have HNN:Hid (n1=n5/\m1=m5):=⟨XW6.out.2.1.2.1.eqlen XW6.out.2.2.1.2.1,XW6.out.2.1.2.2.eqlen XW6.out.2.2.1.2.2⟩
   obtain ⟨hnn,hmm⟩:=HNN.out
   subst hnn
   subst hmm
   rcases M9 with ⟨rfl,rfl,rfl,rfl,rfl,hne⟩|⟨rfl,rfl⟩
   ·have HNE:Hid (t2.toList≠[]):=hne
    clear hne
    obtain ⟨⟨x0,x1,x2,x3,x4,x5,x6⟩,xf,xz⟩:=XW6.out.2.1.1
    obtain ⟨⟨z0,z1,z2,z3,z4,z5,z6⟩,zf,zz⟩:=XW6.out.2.2.1.1
    have y0:=(XW6.out.2.2.2.1).1 0 _ rfl
    have y1:=(XW6.out.2.2.2.1).1 1 _ rfl
    have y2:=(XW6.out.2.2.2.1).1 2 _ rfl
    have y3:=(XW6.out.2.2.2.1).1 3 _ rfl
    have y4:=(XW6.out.2.2.2.1).1 4 _ rfl
    have y5:=(XW6.out.2.2.2.1).1 5 _ rfl
    have y6:=(XW6.out.2.2.2.1).1 6 _ rfl
    have y7:=(XW6.out.2.2.2.1).1 7 _ rfl
    have y8:=(XW6.out.2.2.2.1).1 8 _ rfl
    have y9:=(XW6.out.2.2.2.1).1 9 _ rfl
    have y10:=(XW6.out.2.2.2.1).1 10 _ rfl
    have y11:=(XW6.out.2.2.2.1).1 11 _ rfl
    have y12:=(XW6.out.2.2.2.1).1 12 _ rfl
    have y13:=(XW6.out.2.2.2.1).1 13 _ rfl
    have q0:=(XW6.out.2.2.2.2).1 0 _ rfl
    have q1:=(XW6.out.2.2.2.2).1 1 _ rfl
    have q2:=(XW6.out.2.2.2.2).1 2 _ rfl
    have q3:=(XW6.out.2.2.2.2).1 3 _ rfl
    have q4:=(XW6.out.2.2.2.2).1 4 _ rfl
    have q5:=(XW6.out.2.2.2.2).1 5 _ rfl
    have q6:=(XW6.out.2.2.2.2).1 6 _ rfl
    have q7:=(XW6.out.2.2.2.2).1 7 _ rfl
    have q8:=(XW6.out.2.2.2.2).1 8 _ rfl
    have q9:=(XW6.out.2.2.2.2).1 9 _ rfl
    have q10:=(XW6.out.2.2.2.2).1 10 _ rfl
    have q11:=(XW6.out.2.2.2.2).1 11 _ rfl
    have q12:=(XW6.out.2.2.2.2).1 12 _ rfl
    have q13:=(XW6.out.2.2.2.2).1 13 _ rfl
    go_wp2_with fail
    refine (HS.out a1 b1 n1 c1 m1 d1 h h _ XW6.out.2.1.2.1 XW6.out.2.1.2.2).mono ?_
    rintro e w7 ⟨rfl,B7⟩
    have X7:Hid (St w' h a len w7/\de w7 r3 h (Sl a1 n1 c1) (Sl b1 m1 d1) k L O/\de w7 r5 h (Sl a5 n1 c5) (Sl b9 m1 d5) k L O/\ah w7 r7 [Ii Jj K,Ii Jj x.k,Ii Jj x.i,Ii Jj x.t,Ii Jj x.m,Ii Jj x.r,Ii Jj o.id,Ii Jj o.src,Ii Jj o.dst,Ii Jj o.amount,Ii Jj o.first,Ii Jj o.every,Ii Jj o.times,Ii Jj n]/\ah w7 r9 [Ii Jj K,Ii Jj x.k,Ii Jj x.i,Ii Jj x.t,Ii Jj x.m,Ii Jj x.r,Ii Jj o.id,Ii Jj o.src,Ii Jj o.dst,Ii Jj o.amount,Ii Jj o.first,Ii Jj o.every,Ii Jj o.times,Ii Jj n]):=⟨(XW6.out.1).below B7,(XW6.out.2.1).below B7,(XW6.out.2.2.1).below B7,(XW6.out.2.2.2.1).kept B7 (XW6.out.2.2.2.1).2.2,(XW6.out.2.2.2.2).kept B7 (XW6.out.2.2.2.2).2.2⟩
    clear XW6 B7 x0 x1 x2 x3 x4 x5 x6 xf xz z0 z1 z2 z3 z4 z5 z6 zf zz y0 y1 y2 y3 y4 y5 y6 y7 y8 y9 y10 y11 y12 y13 q0 q1 q2 q3 q4 q5 q6 q7 q8 q9 q10 q11 q12 q13
    obtain ⟨⟨x0,x1,x2,x3,x4,x5,x6⟩,xf,xz⟩:=X7.out.2.1.1
    obtain ⟨⟨z0,z1,z2,z3,z4,z5,z6⟩,zf,zz⟩:=X7.out.2.2.1.1
    have y0:=(X7.out.2.2.2.1).1 0 _ rfl
    have y1:=(X7.out.2.2.2.1).1 1 _ rfl
    have y2:=(X7.out.2.2.2.1).1 2 _ rfl
    have y3:=(X7.out.2.2.2.1).1 3 _ rfl
    have y4:=(X7.out.2.2.2.1).1 4 _ rfl
    have y5:=(X7.out.2.2.2.1).1 5 _ rfl
    have y6:=(X7.out.2.2.2.1).1 6 _ rfl
    have y7:=(X7.out.2.2.2.1).1 7 _ rfl
    have y8:=(X7.out.2.2.2.1).1 8 _ rfl
    have y9:=(X7.out.2.2.2.1).1 9 _ rfl
    have y10:=(X7.out.2.2.2.1).1 10 _ rfl
    have y11:=(X7.out.2.2.2.1).1 11 _ rfl
    have y12:=(X7.out.2.2.2.1).1 12 _ rfl
    have y13:=(X7.out.2.2.2.1).1 13 _ rfl
    have q0:=(X7.out.2.2.2.2).1 0 _ rfl
    have q1:=(X7.out.2.2.2.2).1 1 _ rfl
    have q2:=(X7.out.2.2.2.2).1 2 _ rfl
    have q3:=(X7.out.2.2.2.2).1 3 _ rfl
    have q4:=(X7.out.2.2.2.2).1 4 _ rfl
    have q5:=(X7.out.2.2.2.2).1 5 _ rfl
    have q6:=(X7.out.2.2.2.2).1 6 _ rfl
    have q7:=(X7.out.2.2.2.2).1 7 _ rfl
    have q8:=(X7.out.2.2.2.2).1 8 _ rfl
    have q9:=(X7.out.2.2.2.2).1 9 _ rfl
    have q10:=(X7.out.2.2.2.2).1 10 _ rfl
    have q11:=(X7.out.2.2.2.2).1 11 _ rfl
    have q12:=(X7.out.2.2.2.2).1 12 _ rfl
    have q13:=(X7.out.2.2.2.2).1 13 _ rfl
    go_wp2_with fail
    refine (ug k L O HLO.out.1 HLO.out.2 a1 b1 n1 c1 m1 d1 h h _ X7.out.2.1.2.1 X7.out.2.1.2.2).mono ?_
    rintro e w8 ⟨ht,B8⟩
    have he:=ht.true HOK.out
    subst he
    clear ht
    have X8:Hid (St w' h a len w8/\de w8 r3 h (Sl a1 n1 c1) (Sl b1 m1 d1) k L O/\de w8 r5 h (Sl a5 n1 c5) (Sl b9 m1 d5) k L O/\ah w8 r7 [Ii Jj K,Ii Jj x.k,Ii Jj x.i,Ii Jj x.t,Ii Jj x.m,Ii Jj x.r,Ii Jj o.id,Ii Jj o.src,Ii Jj o.dst,Ii Jj o.amount,Ii Jj o.first,Ii Jj o.every,Ii Jj o.times,Ii Jj n]/\ah w8 r9 [Ii Jj K,Ii Jj x.k,Ii Jj x.i,Ii Jj x.t,Ii Jj x.m,Ii Jj x.r,Ii Jj o.id,Ii Jj o.src,Ii Jj o.dst,Ii Jj o.amount,Ii Jj o.first,Ii Jj o.every,Ii Jj o.times,Ii Jj n]):=⟨(X7.out.1).below B8,(X7.out.2.1).below B8,(X7.out.2.2.1).below B8,(X7.out.2.2.2.1).kept B8 (X7.out.2.2.2.1).2.2,(X7.out.2.2.2.2).kept B8 (X7.out.2.2.2.2).2.2⟩
    clear X7 B8 x0 x1 x2 x3 x4 x5 x6 xf xz z0 z1 z2 z3 z4 z5 z6 zf zz y0 y1 y2 y3 y4 y5 y6 y7 y8 y9 y10 y11 y12 y13 q0 q1 q2 q3 q4 q5 q6 q7 q8 q9 q10 q11 q12 q13
    obtain ⟨⟨x0,x1,x2,x3,x4,x5,x6⟩,xf,xz⟩:=X8.out.2.1.1
    obtain ⟨⟨z0,z1,z2,z3,z4,z5,z6⟩,zf,zz⟩:=X8.out.2.2.1.1
    have y0:=(X8.out.2.2.2.1).1 0 _ rfl
    have y1:=(X8.out.2.2.2.1).1 1 _ rfl
    have y2:=(X8.out.2.2.2.1).1 2 _ rfl
    have y3:=(X8.out.2.2.2.1).1 3 _ rfl
    have y4:=(X8.out.2.2.2.1).1 4 _ rfl
    have y5:=(X8.out.2.2.2.1).1 5 _ rfl
    have y6:=(X8.out.2.2.2.1).1 6 _ rfl
    have y7:=(X8.out.2.2.2.1).1 7 _ rfl
    have y8:=(X8.out.2.2.2.1).1 8 _ rfl
    have y9:=(X8.out.2.2.2.1).1 9 _ rfl
    have y10:=(X8.out.2.2.2.1).1 10 _ rfl
    have y11:=(X8.out.2.2.2.1).1 11 _ rfl
    have y12:=(X8.out.2.2.2.1).1 12 _ rfl
    have y13:=(X8.out.2.2.2.1).1 13 _ rfl
    have q0:=(X8.out.2.2.2.2).1 0 _ rfl
    have q1:=(X8.out.2.2.2.2).1 1 _ rfl
    have q2:=(X8.out.2.2.2.2).1 2 _ rfl
    have q3:=(X8.out.2.2.2.2).1 3 _ rfl
    have q4:=(X8.out.2.2.2.2).1 4 _ rfl
    have q5:=(X8.out.2.2.2.2).1 5 _ rfl
    have q6:=(X8.out.2.2.2.2).1 6 _ rfl
    have q7:=(X8.out.2.2.2.2).1 7 _ rfl
    have q8:=(X8.out.2.2.2.2).1 8 _ rfl
    have q9:=(X8.out.2.2.2.2).1 9 _ rfl
    have q10:=(X8.out.2.2.2.2).1 10 _ rfl
    have q11:=(X8.out.2.2.2.2).1 11 _ rfl
    have q12:=(X8.out.2.2.2.2).1 12 _ rfl
    have q13:=(X8.out.2.2.2.2).1 13 _ rfl
    go_wp2_with fail
    refine (t7 k _ HLO.out.1 HLO.out.2 X8.out.2.2.1.2.1 X8.out.2.2.1.2.2 X8.out.2.1.2.1 X8.out.2.1.2.2).mono ?_
    rintro e w9 ⟨rfl,B9⟩
    have X9:Hid (St w' h a len w9/\de w9 r3 h (Sl a1 n1 c1) (Sl b1 m1 d1) k L O/\de w9 r5 h (Sl a5 n1 c5) (Sl b9 m1 d5) k L O/\ah w9 r7 [Ii Jj K,Ii Jj x.k,Ii Jj x.i,Ii Jj x.t,Ii Jj x.m,Ii Jj x.r,Ii Jj o.id,Ii Jj o.src,Ii Jj o.dst,Ii Jj o.amount,Ii Jj o.first,Ii Jj o.every,Ii Jj o.times,Ii Jj n]/\ah w9 r9 [Ii Jj K,Ii Jj x.k,Ii Jj x.i,Ii Jj x.t,Ii Jj x.m,Ii Jj x.r,Ii Jj o.id,Ii Jj o.src,Ii Jj o.dst,Ii Jj o.amount,Ii Jj o.first,Ii Jj o.every,Ii Jj o.times,Ii Jj n]):=⟨(X8.out.1).below B9,(X8.out.2.1).below B9,(X8.out.2.2.1).below B9,(X8.out.2.2.2.1).kept B9 (X8.out.2.2.2.1).2.2,(X8.out.2.2.2.2).kept B9 (X8.out.2.2.2.2).2.2⟩
    clear X8 B9 x0 x1 x2 x3 x4 x5 x6 xf xz z0 z1 z2 z3 z4 z5 z6 zf zz y0 y1 y2 y3 y4 y5 y6 y7 y8 y9 y10 y11 y12 y13 q0 q1 q2 q3 q4 q5 q6 q7 q8 q9 q10 q11 q12 q13
    obtain ⟨⟨x0,x1,x2,x3,x4,x5,x6⟩,xf,xz⟩:=X9.out.2.1.1
    obtain ⟨⟨z0,z1,z2,z3,z4,z5,z6⟩,zf,zz⟩:=X9.out.2.2.1.1
    have y0:=(X9.out.2.2.2.1).1 0 _ rfl
    have y1:=(X9.out.2.2.2.1).1 1 _ rfl
    have y2:=(X9.out.2.2.2.1).1 2 _ rfl
    have y3:=(X9.out.2.2.2.1).1 3 _ rfl
    have y4:=(X9.out.2.2.2.1).1 4 _ rfl
    have y5:=(X9.out.2.2.2.1).1 5 _ rfl
    have y6:=(X9.out.2.2.2.1).1 6 _ rfl
    have y7:=(X9.out.2.2.2.1).1 7 _ rfl
    have y8:=(X9.out.2.2.2.1).1 8 _ rfl
    have y9:=(X9.out.2.2.2.1).1 9 _ rfl
    have y10:=(X9.out.2.2.2.1).1 10 _ rfl
    have y11:=(X9.out.2.2.2.1).1 11 _ rfl
    have y12:=(X9.out.2.2.2.1).1 12 _ rfl
    have y13:=(X9.out.2.2.2.1).1 13 _ rfl
    have q0:=(X9.out.2.2.2.2).1 0 _ rfl
    have q1:=(X9.out.2.2.2.2).1 1 _ rfl
    have q2:=(X9.out.2.2.2.2).1 2 _ rfl
    have q3:=(X9.out.2.2.2.2).1 3 _ rfl
    have q4:=(X9.out.2.2.2.2).1 4 _ rfl
    have q5:=(X9.out.2.2.2.2).1 5 _ rfl
    have q6:=(X9.out.2.2.2.2).1 6 _ rfl
    have q7:=(X9.out.2.2.2.2).1 7 _ rfl
    have q8:=(X9.out.2.2.2.2).1 8 _ rfl
    have q9:=(X9.out.2.2.2.2).1 9 _ rfl
    have q10:=(X9.out.2.2.2.2).1 10 _ rfl
    have q11:=(X9.out.2.2.2.2).1 11 _ rfl
    have q12:=(X9.out.2.2.2.2).1 12 _ rfl
    have q13:=(X9.out.2.2.2.2).1 13 _ rfl
    go_wp2_with fail
    refine (HS2.out _).mono ?_
    rintro e w10 ⟨rfl,B10⟩
    have X10:Hid (St w' h a len w10/\de w10 r3 h (Sl a1 n1 c1) (Sl b1 m1 d1) k L O/\de w10 r5 h (Sl a5 n1 c5) (Sl b9 m1 d5) k L O/\ah w10 r7 [Ii Jj K,Ii Jj x.k,Ii Jj x.i,Ii Jj x.t,Ii Jj x.m,Ii Jj x.r,Ii Jj o.id,Ii Jj o.src,Ii Jj o.dst,Ii Jj o.amount,Ii Jj o.first,Ii Jj o.every,Ii Jj o.times,Ii Jj n]/\ah w10 r9 [Ii Jj K,Ii Jj x.k,Ii Jj x.i,Ii Jj x.t,Ii Jj x.m,Ii Jj x.r,Ii Jj o.id,Ii Jj o.src,Ii Jj o.dst,Ii Jj o.amount,Ii Jj o.first,Ii Jj o.every,Ii Jj o.times,Ii Jj n]):=⟨(X9.out.1).below B10,(X9.out.2.1).below B10,(X9.out.2.2.1).below B10,(X9.out.2.2.2.1).kept B10 (X9.out.2.2.2.1).2.2,(X9.out.2.2.2.2).kept B10 (X9.out.2.2.2.2).2.2⟩
    clear X9 B10 x0 x1 x2 x3 x4 x5 x6 xf xz z0 z1 z2 z3 z4 z5 z6 zf zz y0 y1 y2 y3 y4 y5 y6 y7 y8 y9 y10 y11 y12 y13 q0 q1 q2 q3 q4 q5 q6 q7 q8 q9 q10 q11 q12 q13
    obtain ⟨⟨x0,x1,x2,x3,x4,x5,x6⟩,xf,xz⟩:=X10.out.2.1.1
    obtain ⟨⟨z0,z1,z2,z3,z4,z5,z6⟩,zf,zz⟩:=X10.out.2.2.1.1
    have y0:=(X10.out.2.2.2.1).1 0 _ rfl
    have y1:=(X10.out.2.2.2.1).1 1 _ rfl
    have y2:=(X10.out.2.2.2.1).1 2 _ rfl
    have y3:=(X10.out.2.2.2.1).1 3 _ rfl
    have y4:=(X10.out.2.2.2.1).1 4 _ rfl
    have y5:=(X10.out.2.2.2.1).1 5 _ rfl
    have y6:=(X10.out.2.2.2.1).1 6 _ rfl
    have y7:=(X10.out.2.2.2.1).1 7 _ rfl
    have y8:=(X10.out.2.2.2.1).1 8 _ rfl
    have y9:=(X10.out.2.2.2.1).1 9 _ rfl
    have y10:=(X10.out.2.2.2.1).1 10 _ rfl
    have y11:=(X10.out.2.2.2.1).1 11 _ rfl
    have y12:=(X10.out.2.2.2.1).1 12 _ rfl
    have y13:=(X10.out.2.2.2.1).1 13 _ rfl
    have q0:=(X10.out.2.2.2.2).1 0 _ rfl
    have q1:=(X10.out.2.2.2.2).1 1 _ rfl
    have q2:=(X10.out.2.2.2.2).1 2 _ rfl
    have q3:=(X10.out.2.2.2.2).1 3 _ rfl
    have q4:=(X10.out.2.2.2.2).1 4 _ rfl
    have q5:=(X10.out.2.2.2.2).1 5 _ rfl
    have q6:=(X10.out.2.2.2.2).1 6 _ rfl
    have q7:=(X10.out.2.2.2.2).1 7 _ rfl
    have q8:=(X10.out.2.2.2.2).1 8 _ rfl
    have q9:=(X10.out.2.2.2.2).1 9 _ rfl
    have q10:=(X10.out.2.2.2.2).1 10 _ rfl
    have q11:=(X10.out.2.2.2.2).1 11 _ rfl
    have q12:=(X10.out.2.2.2.2).1 12 _ rfl
    have q13:=(X10.out.2.2.2.2).1 13 _ rfl
    have hn1:(t2.toList == [])=false:=beq_eq_false_iff_ne.2 HNE.out
    have hn2:(t2.toList != [])=true:=bne_iff_ne.2 HNE.out
    go_wp2_with fail
    go_meet
    exact ⟨rfl,X10.out.1⟩
   ·have _:=HH
    obtain ⟨⟨x0,x1,x2,x3,x4,x5,x6⟩,xf,xz⟩:=XW6.out.2.1.1
    obtain ⟨⟨z0,z1,z2,z3,z4,z5,z6⟩,zf,zz⟩:=XW6.out.2.2.1.1
    have y0:=(XW6.out.2.2.2.1).1 0 _ rfl
    have y1:=(XW6.out.2.2.2.1).1 1 _ rfl
    have y2:=(XW6.out.2.2.2.1).1 2 _ rfl
    have y3:=(XW6.out.2.2.2.1).1 3 _ rfl
    have y4:=(XW6.out.2.2.2.1).1 4 _ rfl
    have y5:=(XW6.out.2.2.2.1).1 5 _ rfl
    have y6:=(XW6.out.2.2.2.1).1 6 _ rfl
    have y7:=(XW6.out.2.2.2.1).1 7 _ rfl
    have y8:=(XW6.out.2.2.2.1).1 8 _ rfl
    have y9:=(XW6.out.2.2.2.1).1 9 _ rfl
    have y10:=(XW6.out.2.2.2.1).1 10 _ rfl
    have y11:=(XW6.out.2.2.2.1).1 11 _ rfl
    have y12:=(XW6.out.2.2.2.1).1 12 _ rfl
    have y13:=(XW6.out.2.2.2.1).1 13 _ rfl
    go_wp2_with fail
    refine (HS.out a1 b1 n1 c1 m1 d1 h h _ XW6.out.2.1.2.1 XW6.out.2.1.2.2).mono ?_
    rintro e w7 ⟨rfl,B7⟩
    have X7:Hid (St w' h a len w7/\de w7 r3 h (Sl a1 n1 c1) (Sl b1 m1 d1) k L O/\de w7 r5 h (Sl a5 n1 c5) (Sl b9 m1 d5) k L O/\ah w7 r7 [Ii Jj K,Ii Jj x.k,Ii Jj x.i,Ii Jj x.t,Ii Jj x.m,Ii Jj x.r,Ii Jj o.id,Ii Jj o.src,Ii Jj o.dst,Ii Jj o.amount,Ii Jj o.first,Ii Jj o.every,Ii Jj o.times,Ii Jj n]/\ah w7 r9 [Ii Jj K9,Ii Jj x9.k,Ii Jj x9.i,Ii Jj x9.t,Ii Jj x9.m,Ii Jj x9.r,Ii Jj o9.id,Ii Jj o9.src,Ii Jj o9.dst,Ii Jj o9.amount,Ii Jj o9.first,Ii Jj o9.every,Ii Jj o9.times,Ii Jj n9]):=⟨(XW6.out.1).below B7,(XW6.out.2.1).below B7,(XW6.out.2.2.1).below B7,(XW6.out.2.2.2.1).kept B7 (XW6.out.2.2.2.1).2.2,(XW6.out.2.2.2.2).kept B7 (XW6.out.2.2.2.2).2.2⟩
    clear XW6 B7 x0 x1 x2 x3 x4 x5 x6 xf xz z0 z1 z2 z3 z4 z5 z6 zf zz y0 y1 y2 y3 y4 y5 y6 y7 y8 y9 y10 y11 y12 y13
    obtain ⟨⟨x0,x1,x2,x3,x4,x5,x6⟩,xf,xz⟩:=X7.out.2.1.1
    obtain ⟨⟨z0,z1,z2,z3,z4,z5,z6⟩,zf,zz⟩:=X7.out.2.2.1.1
    have y0:=(X7.out.2.2.2.1).1 0 _ rfl
    have y1:=(X7.out.2.2.2.1).1 1 _ rfl
    have y2:=(X7.out.2.2.2.1).1 2 _ rfl
    have y3:=(X7.out.2.2.2.1).1 3 _ rfl
    have y4:=(X7.out.2.2.2.1).1 4 _ rfl
    have y5:=(X7.out.2.2.2.1).1 5 _ rfl
    have y6:=(X7.out.2.2.2.1).1 6 _ rfl
    have y7:=(X7.out.2.2.2.1).1 7 _ rfl
    have y8:=(X7.out.2.2.2.1).1 8 _ rfl
    have y9:=(X7.out.2.2.2.1).1 9 _ rfl
    have y10:=(X7.out.2.2.2.1).1 10 _ rfl
    have y11:=(X7.out.2.2.2.1).1 11 _ rfl
    have y12:=(X7.out.2.2.2.1).1 12 _ rfl
    have y13:=(X7.out.2.2.2.1).1 13 _ rfl
    go_wp2_with fail
    refine (ug k L O HLO.out.1 HLO.out.2 a1 b1 n1 c1 m1 d1 h h _ X7.out.2.1.2.1 X7.out.2.1.2.2).mono ?_
    rintro e w8 ⟨ht,B8⟩
    have he:=ht.true HOK.out
    subst he
    clear ht
    have X8:Hid (St w' h a len w8/\de w8 r3 h (Sl a1 n1 c1) (Sl b1 m1 d1) k L O/\de w8 r5 h (Sl a5 n1 c5) (Sl b9 m1 d5) k L O/\ah w8 r7 [Ii Jj K,Ii Jj x.k,Ii Jj x.i,Ii Jj x.t,Ii Jj x.m,Ii Jj x.r,Ii Jj o.id,Ii Jj o.src,Ii Jj o.dst,Ii Jj o.amount,Ii Jj o.first,Ii Jj o.every,Ii Jj o.times,Ii Jj n]/\ah w8 r9 [Ii Jj K9,Ii Jj x9.k,Ii Jj x9.i,Ii Jj x9.t,Ii Jj x9.m,Ii Jj x9.r,Ii Jj o9.id,Ii Jj o9.src,Ii Jj o9.dst,Ii Jj o9.amount,Ii Jj o9.first,Ii Jj o9.every,Ii Jj o9.times,Ii Jj n9]):=⟨(X7.out.1).below B8,(X7.out.2.1).below B8,(X7.out.2.2.1).below B8,(X7.out.2.2.2.1).kept B8 (X7.out.2.2.2.1).2.2,(X7.out.2.2.2.2).kept B8 (X7.out.2.2.2.2).2.2⟩
    clear X7 B8 x0 x1 x2 x3 x4 x5 x6 xf xz z0 z1 z2 z3 z4 z5 z6 zf zz y0 y1 y2 y3 y4 y5 y6 y7 y8 y9 y10 y11 y12 y13
    obtain ⟨⟨x0,x1,x2,x3,x4,x5,x6⟩,xf,xz⟩:=X8.out.2.1.1
    obtain ⟨⟨z0,z1,z2,z3,z4,z5,z6⟩,zf,zz⟩:=X8.out.2.2.1.1
    have y0:=(X8.out.2.2.2.1).1 0 _ rfl
    have y1:=(X8.out.2.2.2.1).1 1 _ rfl
    have y2:=(X8.out.2.2.2.1).1 2 _ rfl
    have y3:=(X8.out.2.2.2.1).1 3 _ rfl
    have y4:=(X8.out.2.2.2.1).1 4 _ rfl
    have y5:=(X8.out.2.2.2.1).1 5 _ rfl
    have y6:=(X8.out.2.2.2.1).1 6 _ rfl
    have y7:=(X8.out.2.2.2.1).1 7 _ rfl
    have y8:=(X8.out.2.2.2.1).1 8 _ rfl
    have y9:=(X8.out.2.2.2.1).1 9 _ rfl
    have y10:=(X8.out.2.2.2.1).1 10 _ rfl
    have y11:=(X8.out.2.2.2.1).1 11 _ rfl
    have y12:=(X8.out.2.2.2.1).1 12 _ rfl
    have y13:=(X8.out.2.2.2.1).1 13 _ rfl
    go_wp2_with fail
    refine (t7 k _ HLO.out.1 HLO.out.2 X8.out.2.2.1.2.1 X8.out.2.2.1.2.2 X8.out.2.1.2.1 X8.out.2.1.2.2).mono ?_
    rintro e w9 ⟨rfl,B9⟩
    have X9:Hid (St w' h a len w9/\de w9 r3 h (Sl a1 n1 c1) (Sl b1 m1 d1) k L O/\de w9 r5 h (Sl a5 n1 c5) (Sl b9 m1 d5) k L O/\ah w9 r7 [Ii Jj K,Ii Jj x.k,Ii Jj x.i,Ii Jj x.t,Ii Jj x.m,Ii Jj x.r,Ii Jj o.id,Ii Jj o.src,Ii Jj o.dst,Ii Jj o.amount,Ii Jj o.first,Ii Jj o.every,Ii Jj o.times,Ii Jj n]/\ah w9 r9 [Ii Jj K9,Ii Jj x9.k,Ii Jj x9.i,Ii Jj x9.t,Ii Jj x9.m,Ii Jj x9.r,Ii Jj o9.id,Ii Jj o9.src,Ii Jj o9.dst,Ii Jj o9.amount,Ii Jj o9.first,Ii Jj o9.every,Ii Jj o9.times,Ii Jj n9]):=⟨(X8.out.1).below B9,(X8.out.2.1).below B9,(X8.out.2.2.1).below B9,(X8.out.2.2.2.1).kept B9 (X8.out.2.2.2.1).2.2,(X8.out.2.2.2.2).kept B9 (X8.out.2.2.2.2).2.2⟩
    clear X8 B9 x0 x1 x2 x3 x4 x5 x6 xf xz z0 z1 z2 z3 z4 z5 z6 zf zz y0 y1 y2 y3 y4 y5 y6 y7 y8 y9 y10 y11 y12 y13
    obtain ⟨⟨x0,x1,x2,x3,x4,x5,x6⟩,xf,xz⟩:=X9.out.2.1.1
    obtain ⟨⟨z0,z1,z2,z3,z4,z5,z6⟩,zf,zz⟩:=X9.out.2.2.1.1
    have y0:=(X9.out.2.2.2.1).1 0 _ rfl
    have y1:=(X9.out.2.2.2.1).1 1 _ rfl
    have y2:=(X9.out.2.2.2.1).1 2 _ rfl
    have y3:=(X9.out.2.2.2.1).1 3 _ rfl
    have y4:=(X9.out.2.2.2.1).1 4 _ rfl
    have y5:=(X9.out.2.2.2.1).1 5 _ rfl
    have y6:=(X9.out.2.2.2.1).1 6 _ rfl
    have y7:=(X9.out.2.2.2.1).1 7 _ rfl
    have y8:=(X9.out.2.2.2.1).1 8 _ rfl
    have y9:=(X9.out.2.2.2.1).1 9 _ rfl
    have y10:=(X9.out.2.2.2.1).1 10 _ rfl
    have y11:=(X9.out.2.2.2.1).1 11 _ rfl
    have y12:=(X9.out.2.2.2.1).1 12 _ rfl
    have y13:=(X9.out.2.2.2.1).1 13 _ rfl
    go_wp2_with fail
    refine (HS2.out _).mono ?_
    rintro e w10 ⟨rfl,B10⟩
    have X10:Hid (St w' h a len w10/\de w10 r3 h (Sl a1 n1 c1) (Sl b1 m1 d1) k L O/\de w10 r5 h (Sl a5 n1 c5) (Sl b9 m1 d5) k L O/\ah w10 r7 [Ii Jj K,Ii Jj x.k,Ii Jj x.i,Ii Jj x.t,Ii Jj x.m,Ii Jj x.r,Ii Jj o.id,Ii Jj o.src,Ii Jj o.dst,Ii Jj o.amount,Ii Jj o.first,Ii Jj o.every,Ii Jj o.times,Ii Jj n]/\ah w10 r9 [Ii Jj K9,Ii Jj x9.k,Ii Jj x9.i,Ii Jj x9.t,Ii Jj x9.m,Ii Jj x9.r,Ii Jj o9.id,Ii Jj o9.src,Ii Jj o9.dst,Ii Jj o9.amount,Ii Jj o9.first,Ii Jj o9.every,Ii Jj o9.times,Ii Jj n9]):=⟨(X9.out.1).below B10,(X9.out.2.1).below B10,(X9.out.2.2.1).below B10,(X9.out.2.2.2.1).kept B10 (X9.out.2.2.2.1).2.2,(X9.out.2.2.2.2).kept B10 (X9.out.2.2.2.2).2.2⟩
    clear X9 B10 x0 x1 x2 x3 x4 x5 x6 xf xz z0 z1 z2 z3 z4 z5 z6 zf zz y0 y1 y2 y3 y4 y5 y6 y7 y8 y9 y10 y11 y12 y13
    obtain ⟨⟨x0,x1,x2,x3,x4,x5,x6⟩,xf,xz⟩:=X10.out.2.1.1
    obtain ⟨⟨z0,z1,z2,z3,z4,z5,z6⟩,zf,zz⟩:=X10.out.2.2.1.1
    have y0:=(X10.out.2.2.2.1).1 0 _ rfl
    have y1:=(X10.out.2.2.2.1).1 1 _ rfl
    have y2:=(X10.out.2.2.2.1).1 2 _ rfl
    have y3:=(X10.out.2.2.2.1).1 3 _ rfl
    have y4:=(X10.out.2.2.2.1).1 4 _ rfl
    have y5:=(X10.out.2.2.2.1).1 5 _ rfl
    have y6:=(X10.out.2.2.2.1).1 6 _ rfl
    have y7:=(X10.out.2.2.2.1).1 7 _ rfl
    have y8:=(X10.out.2.2.2.1).1 8 _ rfl
    have y9:=(X10.out.2.2.2.1).1 9 _ rfl
    have y10:=(X10.out.2.2.2.1).1 10 _ rfl
    have y11:=(X10.out.2.2.2.1).1 11 _ rfl
    have y12:=(X10.out.2.2.2.1).1 12 _ rfl
    have y13:=(X10.out.2.2.2.1).1 13 _ rfl
    go_wp2_with fail
    go_meet
    exact ⟨rfl,X10.out.1⟩
  ·have HOK:Hid _:=hok
   clear hok
   rcases M9 with ⟨rfl,rfl,rfl,rfl,rfl,hne⟩|⟨rfl,rfl⟩
   ·have HNE:Hid (t2.toList≠[]):=hne
    clear hne
    obtain ⟨⟨x0,x1,x2,x3,x4,x5,x6⟩,xf,xz⟩:=XW6.out.2.1.1
    have y0:=(XW6.out.2.2.2.1).1 0 _ rfl
    have y1:=(XW6.out.2.2.2.1).1 1 _ rfl
    have y2:=(XW6.out.2.2.2.1).1 2 _ rfl
    have y3:=(XW6.out.2.2.2.1).1 3 _ rfl
    have y4:=(XW6.out.2.2.2.1).1 4 _ rfl
    have y5:=(XW6.out.2.2.2.1).1 5 _ rfl
    have y6:=(XW6.out.2.2.2.1).1 6 _ rfl
    have y7:=(XW6.out.2.2.2.1).1 7 _ rfl
    have y8:=(XW6.out.2.2.2.1).1 8 _ rfl
    have y9:=(XW6.out.2.2.2.1).1 9 _ rfl
    have y10:=(XW6.out.2.2.2.1).1 10 _ rfl
    have y11:=(XW6.out.2.2.2.1).1 11 _ rfl
    have y12:=(XW6.out.2.2.2.1).1 12 _ rfl
    have y13:=(XW6.out.2.2.2.1).1 13 _ rfl
    have q0:=(XW6.out.2.2.2.2).1 0 _ rfl
    have q1:=(XW6.out.2.2.2.2).1 1 _ rfl
    have q2:=(XW6.out.2.2.2.2).1 2 _ rfl
    have q3:=(XW6.out.2.2.2.2).1 3 _ rfl
    have q4:=(XW6.out.2.2.2.2).1 4 _ rfl
    have q5:=(XW6.out.2.2.2.2).1 5 _ rfl
    have q6:=(XW6.out.2.2.2.2).1 6 _ rfl
    have q7:=(XW6.out.2.2.2.2).1 7 _ rfl
    have q8:=(XW6.out.2.2.2.2).1 8 _ rfl
    have q9:=(XW6.out.2.2.2.2).1 9 _ rfl
    have q10:=(XW6.out.2.2.2.2).1 10 _ rfl
    have q11:=(XW6.out.2.2.2.2).1 11 _ rfl
    have q12:=(XW6.out.2.2.2.2).1 12 _ rfl
    have q13:=(XW6.out.2.2.2.2).1 13 _ rfl
    go_wp2_with fail
    refine (HS.out a1 b1 n1 c1 m1 d1 h h _ XW6.out.2.1.2.1 XW6.out.2.1.2.2).mono ?_
    rintro e w7 ⟨rfl,B7⟩
    have X7:Hid (St w' h a len w7/\de w7 r3 h (Sl a1 n1 c1) (Sl b1 m1 d1) k L O/\de w7 r5 h (Sl a5 n5 c5) (Sl b9 m5 d5) k5 L5 O5/\ah w7 r7 [Ii Jj K,Ii Jj x.k,Ii Jj x.i,Ii Jj x.t,Ii Jj x.m,Ii Jj x.r,Ii Jj o.id,Ii Jj o.src,Ii Jj o.dst,Ii Jj o.amount,Ii Jj o.first,Ii Jj o.every,Ii Jj o.times,Ii Jj n]/\ah w7 r9 [Ii Jj K,Ii Jj x.k,Ii Jj x.i,Ii Jj x.t,Ii Jj x.m,Ii Jj x.r,Ii Jj o.id,Ii Jj o.src,Ii Jj o.dst,Ii Jj o.amount,Ii Jj o.first,Ii Jj o.every,Ii Jj o.times,Ii Jj n]):=⟨(XW6.out.1).below B7,(XW6.out.2.1).below B7,(XW6.out.2.2.1).below B7,(XW6.out.2.2.2.1).kept B7 (XW6.out.2.2.2.1).2.2,(XW6.out.2.2.2.2).kept B7 (XW6.out.2.2.2.2).2.2⟩
    clear XW6 B7 x0 x1 x2 x3 x4 x5 x6 xf xz y0 y1 y2 y3 y4 y5 y6 y7 y8 y9 y10 y11 y12 y13 q0 q1 q2 q3 q4 q5 q6 q7 q8 q9 q10 q11 q12 q13
    obtain ⟨⟨x0,x1,x2,x3,x4,x5,x6⟩,xf,xz⟩:=X7.out.2.1.1
    have y0:=(X7.out.2.2.2.1).1 0 _ rfl
    have y1:=(X7.out.2.2.2.1).1 1 _ rfl
    have y2:=(X7.out.2.2.2.1).1 2 _ rfl
    have y3:=(X7.out.2.2.2.1).1 3 _ rfl
    have y4:=(X7.out.2.2.2.1).1 4 _ rfl
    have y5:=(X7.out.2.2.2.1).1 5 _ rfl
    have y6:=(X7.out.2.2.2.1).1 6 _ rfl
    have y7:=(X7.out.2.2.2.1).1 7 _ rfl
    have y8:=(X7.out.2.2.2.1).1 8 _ rfl
    have y9:=(X7.out.2.2.2.1).1 9 _ rfl
    have y10:=(X7.out.2.2.2.1).1 10 _ rfl
    have y11:=(X7.out.2.2.2.1).1 11 _ rfl
    have y12:=(X7.out.2.2.2.1).1 12 _ rfl
    have y13:=(X7.out.2.2.2.1).1 13 _ rfl
    have q0:=(X7.out.2.2.2.2).1 0 _ rfl
    have q1:=(X7.out.2.2.2.2).1 1 _ rfl
    have q2:=(X7.out.2.2.2.2).1 2 _ rfl
    have q3:=(X7.out.2.2.2.2).1 3 _ rfl
    have q4:=(X7.out.2.2.2.2).1 4 _ rfl
    have q5:=(X7.out.2.2.2.2).1 5 _ rfl
    have q6:=(X7.out.2.2.2.2).1 6 _ rfl
    have q7:=(X7.out.2.2.2.2).1 7 _ rfl
    have q8:=(X7.out.2.2.2.2).1 8 _ rfl
    have q9:=(X7.out.2.2.2.2).1 9 _ rfl
    have q10:=(X7.out.2.2.2.2).1 10 _ rfl
    have q11:=(X7.out.2.2.2.2).1 11 _ rfl
    have q12:=(X7.out.2.2.2.2).1 12 _ rfl
    have q13:=(X7.out.2.2.2.2).1 13 _ rfl
    go_wp2_with fail
    refine (ug k L O HLO.out.1 HLO.out.2 a1 b1 n1 c1 m1 d1 h h _ X7.out.2.1.2.1 X7.out.2.1.2.2).mono ?_
    rintro e w8 ⟨ht,B8⟩
    have he:=ht.false HOK.out
    subst he
    clear ht
    have X8:Hid (St w' h a len w8/\de w8 r3 h (Sl a1 n1 c1) (Sl b1 m1 d1) k L O/\de w8 r5 h (Sl a5 n5 c5) (Sl b9 m5 d5) k5 L5 O5/\ah w8 r7 [Ii Jj K,Ii Jj x.k,Ii Jj x.i,Ii Jj x.t,Ii Jj x.m,Ii Jj x.r,Ii Jj o.id,Ii Jj o.src,Ii Jj o.dst,Ii Jj o.amount,Ii Jj o.first,Ii Jj o.every,Ii Jj o.times,Ii Jj n]/\ah w8 r9 [Ii Jj K,Ii Jj x.k,Ii Jj x.i,Ii Jj x.t,Ii Jj x.m,Ii Jj x.r,Ii Jj o.id,Ii Jj o.src,Ii Jj o.dst,Ii Jj o.amount,Ii Jj o.first,Ii Jj o.every,Ii Jj o.times,Ii Jj n]):=⟨(X7.out.1).below B8,(X7.out.2.1).below B8,(X7.out.2.2.1).below B8,(X7.out.2.2.2.1).kept B8 (X7.out.2.2.2.1).2.2,(X7.out.2.2.2.2).kept B8 (X7.out.2.2.2.2).2.2⟩
    clear X7 B8 x0 x1 x2 x3 x4 x5 x6 xf xz y0 y1 y2 y3 y4 y5 y6 y7 y8 y9 y10 y11 y12 y13 q0 q1 q2 q3 q4 q5 q6 q7 q8 q9 q10 q11 q12 q13
    obtain ⟨⟨x0,x1,x2,x3,x4,x5,x6⟩,xf,xz⟩:=X8.out.2.1.1
    have y0:=(X8.out.2.2.2.1).1 0 _ rfl
    have y1:=(X8.out.2.2.2.1).1 1 _ rfl
    have y2:=(X8.out.2.2.2.1).1 2 _ rfl
    have y3:=(X8.out.2.2.2.1).1 3 _ rfl
    have y4:=(X8.out.2.2.2.1).1 4 _ rfl
    have y5:=(X8.out.2.2.2.1).1 5 _ rfl
    have y6:=(X8.out.2.2.2.1).1 6 _ rfl
    have y7:=(X8.out.2.2.2.1).1 7 _ rfl
    have y8:=(X8.out.2.2.2.1).1 8 _ rfl
    have y9:=(X8.out.2.2.2.1).1 9 _ rfl
    have y10:=(X8.out.2.2.2.1).1 10 _ rfl
    have y11:=(X8.out.2.2.2.1).1 11 _ rfl
    have y12:=(X8.out.2.2.2.1).1 12 _ rfl
    have y13:=(X8.out.2.2.2.1).1 13 _ rfl
    have q0:=(X8.out.2.2.2.2).1 0 _ rfl
    have q1:=(X8.out.2.2.2.2).1 1 _ rfl
    have q2:=(X8.out.2.2.2.2).1 2 _ rfl
    have q3:=(X8.out.2.2.2.2).1 3 _ rfl
    have q4:=(X8.out.2.2.2.2).1 4 _ rfl
    have q5:=(X8.out.2.2.2.2).1 5 _ rfl
    have q6:=(X8.out.2.2.2.2).1 6 _ rfl
    have q7:=(X8.out.2.2.2.2).1 7 _ rfl
    have q8:=(X8.out.2.2.2.2).1 8 _ rfl
    have q9:=(X8.out.2.2.2.2).1 9 _ rfl
    have q10:=(X8.out.2.2.2.2).1 10 _ rfl
    have q11:=(X8.out.2.2.2.2).1 11 _ rfl
    have q12:=(X8.out.2.2.2.2).1 12 _ rfl
    have q13:=(X8.out.2.2.2.2).1 13 _ rfl
    go_wp2_with fail
    refine (HS2.out _).mono ?_
    rintro e w10 ⟨rfl,B10⟩
    have X10:Hid (St w' h a len w10/\de w10 r3 h (Sl a1 n1 c1) (Sl b1 m1 d1) k L O/\de w10 r5 h (Sl a5 n5 c5) (Sl b9 m5 d5) k5 L5 O5/\ah w10 r7 [Ii Jj K,Ii Jj x.k,Ii Jj x.i,Ii Jj x.t,Ii Jj x.m,Ii Jj x.r,Ii Jj o.id,Ii Jj o.src,Ii Jj o.dst,Ii Jj o.amount,Ii Jj o.first,Ii Jj o.every,Ii Jj o.times,Ii Jj n]/\ah w10 r9 [Ii Jj K,Ii Jj x.k,Ii Jj x.i,Ii Jj x.t,Ii Jj x.m,Ii Jj x.r,Ii Jj o.id,Ii Jj o.src,Ii Jj o.dst,Ii Jj o.amount,Ii Jj o.first,Ii Jj o.every,Ii Jj o.times,Ii Jj n]):=⟨(X8.out.1).below B10,(X8.out.2.1).below B10,(X8.out.2.2.1).below B10,(X8.out.2.2.2.1).kept B10 (X8.out.2.2.2.1).2.2,(X8.out.2.2.2.2).kept B10 (X8.out.2.2.2.2).2.2⟩
    clear X8 B10 x0 x1 x2 x3 x4 x5 x6 xf xz y0 y1 y2 y3 y4 y5 y6 y7 y8 y9 y10 y11 y12 y13 q0 q1 q2 q3 q4 q5 q6 q7 q8 q9 q10 q11 q12 q13
    obtain ⟨⟨x0,x1,x2,x3,x4,x5,x6⟩,xf,xz⟩:=X10.out.2.1.1
    have y0:=(X10.out.2.2.2.1).1 0 _ rfl
    have y1:=(X10.out.2.2.2.1).1 1 _ rfl
    have y2:=(X10.out.2.2.2.1).1 2 _ rfl
    have y3:=(X10.out.2.2.2.1).1 3 _ rfl
    have y4:=(X10.out.2.2.2.1).1 4 _ rfl
    have y5:=(X10.out.2.2.2.1).1 5 _ rfl
    have y6:=(X10.out.2.2.2.1).1 6 _ rfl
    have y7:=(X10.out.2.2.2.1).1 7 _ rfl
    have y8:=(X10.out.2.2.2.1).1 8 _ rfl
    have y9:=(X10.out.2.2.2.1).1 9 _ rfl
    have y10:=(X10.out.2.2.2.1).1 10 _ rfl
    have y11:=(X10.out.2.2.2.1).1 11 _ rfl
    have y12:=(X10.out.2.2.2.1).1 12 _ rfl
    have y13:=(X10.out.2.2.2.1).1 13 _ rfl
    have q0:=(X10.out.2.2.2.2).1 0 _ rfl
    have q1:=(X10.out.2.2.2.2).1 1 _ rfl
    have q2:=(X10.out.2.2.2.2).1 2 _ rfl
    have q3:=(X10.out.2.2.2.2).1 3 _ rfl
    have q4:=(X10.out.2.2.2.2).1 4 _ rfl
    have q5:=(X10.out.2.2.2.2).1 5 _ rfl
    have q6:=(X10.out.2.2.2.2).1 6 _ rfl
    have q7:=(X10.out.2.2.2.2).1 7 _ rfl
    have q8:=(X10.out.2.2.2.2).1 8 _ rfl
    have q9:=(X10.out.2.2.2.2).1 9 _ rfl
    have q10:=(X10.out.2.2.2.2).1 10 _ rfl
    have q11:=(X10.out.2.2.2.2).1 11 _ rfl
    have q12:=(X10.out.2.2.2.2).1 12 _ rfl
    have q13:=(X10.out.2.2.2.2).1 13 _ rfl
    have hn1:(t2.toList == [])=false:=beq_eq_false_iff_ne.2 HNE.out
    have hn2:(t2.toList != [])=true:=bne_iff_ne.2 HNE.out
    go_wp2_with fail
    go_meet
    exact ⟨rfl,X10.out.1⟩
   ·have _:=HH
    obtain ⟨⟨x0,x1,x2,x3,x4,x5,x6⟩,xf,xz⟩:=XW6.out.2.1.1
    have y0:=(XW6.out.2.2.2.1).1 0 _ rfl
    have y1:=(XW6.out.2.2.2.1).1 1 _ rfl
    have y2:=(XW6.out.2.2.2.1).1 2 _ rfl
    have y3:=(XW6.out.2.2.2.1).1 3 _ rfl
    have y4:=(XW6.out.2.2.2.1).1 4 _ rfl
    have y5:=(XW6.out.2.2.2.1).1 5 _ rfl
    have y6:=(XW6.out.2.2.2.1).1 6 _ rfl
    have y7:=(XW6.out.2.2.2.1).1 7 _ rfl
    have y8:=(XW6.out.2.2.2.1).1 8 _ rfl
    have y9:=(XW6.out.2.2.2.1).1 9 _ rfl
    have y10:=(XW6.out.2.2.2.1).1 10 _ rfl
    have y11:=(XW6.out.2.2.2.1).1 11 _ rfl
    have y12:=(XW6.out.2.2.2.1).1 12 _ rfl
    have y13:=(XW6.out.2.2.2.1).1 13 _ rfl
    go_wp2_with fail
    refine (HS.out a1 b1 n1 c1 m1 d1 h h _ XW6.out.2.1.2.1 XW6.out.2.1.2.2).mono ?_
    rintro e w7 ⟨rfl,B7⟩
    have X7:Hid (St w' h a len w7/\de w7 r3 h (Sl a1 n1 c1) (Sl b1 m1 d1) k L O/\de w7 r5 h (Sl a5 n5 c5) (Sl b9 m5 d5) k5 L5 O5/\ah w7 r7 [Ii Jj K,Ii Jj x.k,Ii Jj x.i,Ii Jj x.t,Ii Jj x.m,Ii Jj x.r,Ii Jj o.id,Ii Jj o.src,Ii Jj o.dst,Ii Jj o.amount,Ii Jj o.first,Ii Jj o.every,Ii Jj o.times,Ii Jj n]/\ah w7 r9 [Ii Jj K9,Ii Jj x9.k,Ii Jj x9.i,Ii Jj x9.t,Ii Jj x9.m,Ii Jj x9.r,Ii Jj o9.id,Ii Jj o9.src,Ii Jj o9.dst,Ii Jj o9.amount,Ii Jj o9.first,Ii Jj o9.every,Ii Jj o9.times,Ii Jj n9]):=⟨(XW6.out.1).below B7,(XW6.out.2.1).below B7,(XW6.out.2.2.1).below B7,(XW6.out.2.2.2.1).kept B7 (XW6.out.2.2.2.1).2.2,(XW6.out.2.2.2.2).kept B7 (XW6.out.2.2.2.2).2.2⟩
    clear XW6 B7 x0 x1 x2 x3 x4 x5 x6 xf xz y0 y1 y2 y3 y4 y5 y6 y7 y8 y9 y10 y11 y12 y13
    obtain ⟨⟨x0,x1,x2,x3,x4,x5,x6⟩,xf,xz⟩:=X7.out.2.1.1
    have y0:=(X7.out.2.2.2.1).1 0 _ rfl
    have y1:=(X7.out.2.2.2.1).1 1 _ rfl
    have y2:=(X7.out.2.2.2.1).1 2 _ rfl
    have y3:=(X7.out.2.2.2.1).1 3 _ rfl
    have y4:=(X7.out.2.2.2.1).1 4 _ rfl
    have y5:=(X7.out.2.2.2.1).1 5 _ rfl
    have y6:=(X7.out.2.2.2.1).1 6 _ rfl
    have y7:=(X7.out.2.2.2.1).1 7 _ rfl
    have y8:=(X7.out.2.2.2.1).1 8 _ rfl
    have y9:=(X7.out.2.2.2.1).1 9 _ rfl
    have y10:=(X7.out.2.2.2.1).1 10 _ rfl
    have y11:=(X7.out.2.2.2.1).1 11 _ rfl
    have y12:=(X7.out.2.2.2.1).1 12 _ rfl
    have y13:=(X7.out.2.2.2.1).1 13 _ rfl
    go_wp2_with fail
    refine (ug k L O HLO.out.1 HLO.out.2 a1 b1 n1 c1 m1 d1 h h _ X7.out.2.1.2.1 X7.out.2.1.2.2).mono ?_
    rintro e w8 ⟨ht,B8⟩
    have he:=ht.false HOK.out
    subst he
    clear ht
    have X8:Hid (St w' h a len w8/\de w8 r3 h (Sl a1 n1 c1) (Sl b1 m1 d1) k L O/\de w8 r5 h (Sl a5 n5 c5) (Sl b9 m5 d5) k5 L5 O5/\ah w8 r7 [Ii Jj K,Ii Jj x.k,Ii Jj x.i,Ii Jj x.t,Ii Jj x.m,Ii Jj x.r,Ii Jj o.id,Ii Jj o.src,Ii Jj o.dst,Ii Jj o.amount,Ii Jj o.first,Ii Jj o.every,Ii Jj o.times,Ii Jj n]/\ah w8 r9 [Ii Jj K9,Ii Jj x9.k,Ii Jj x9.i,Ii Jj x9.t,Ii Jj x9.m,Ii Jj x9.r,Ii Jj o9.id,Ii Jj o9.src,Ii Jj o9.dst,Ii Jj o9.amount,Ii Jj o9.first,Ii Jj o9.every,Ii Jj o9.times,Ii Jj n9]):=⟨(X7.out.1).below B8,(X7.out.2.1).below B8,(X7.out.2.2.1).below B8,(X7.out.2.2.2.1).kept B8 (X7.out.2.2.2.1).2.2,(X7.out.2.2.2.2).kept B8 (X7.out.2.2.2.2).2.2⟩
    clear X7 B8 x0 x1 x2 x3 x4 x5 x6 xf xz y0 y1 y2 y3 y4 y5 y6 y7 y8 y9 y10 y11 y12 y13
    obtain ⟨⟨x0,x1,x2,x3,x4,x5,x6⟩,xf,xz⟩:=X8.out.2.1.1
    have y0:=(X8.out.2.2.2.1).1 0 _ rfl
    have y1:=(X8.out.2.2.2.1).1 1 _ rfl
    have y2:=(X8.out.2.2.2.1).1 2 _ rfl
    have y3:=(X8.out.2.2.2.1).1 3 _ rfl
    have y4:=(X8.out.2.2.2.1).1 4 _ rfl
    have y5:=(X8.out.2.2.2.1).1 5 _ rfl
    have y6:=(X8.out.2.2.2.1).1 6 _ rfl
    have y7:=(X8.out.2.2.2.1).1 7 _ rfl
    have y8:=(X8.out.2.2.2.1).1 8 _ rfl
    have y9:=(X8.out.2.2.2.1).1 9 _ rfl
    have y10:=(X8.out.2.2.2.1).1 10 _ rfl
    have y11:=(X8.out.2.2.2.1).1 11 _ rfl
    have y12:=(X8.out.2.2.2.1).1 12 _ rfl
    have y13:=(X8.out.2.2.2.1).1 13 _ rfl
    go_wp2_with fail
    refine (HS2.out _).mono ?_
    rintro e w10 ⟨rfl,B10⟩
    have X10:Hid (St w' h a len w10/\de w10 r3 h (Sl a1 n1 c1) (Sl b1 m1 d1) k L O/\de w10 r5 h (Sl a5 n5 c5) (Sl b9 m5 d5) k5 L5 O5/\ah w10 r7 [Ii Jj K,Ii Jj x.k,Ii Jj x.i,Ii Jj x.t,Ii Jj x.m,Ii Jj x.r,Ii Jj o.id,Ii Jj o.src,Ii Jj o.dst,Ii Jj o.amount,Ii Jj o.first,Ii Jj o.every,Ii Jj o.times,Ii Jj n]/\ah w10 r9 [Ii Jj K9,Ii Jj x9.k,Ii Jj x9.i,Ii Jj x9.t,Ii Jj x9.m,Ii Jj x9.r,Ii Jj o9.id,Ii Jj o9.src,Ii Jj o9.dst,Ii Jj o9.amount,Ii Jj o9.first,Ii Jj o9.every,Ii Jj o9.times,Ii Jj n9]):=⟨(X8.out.1).below B10,(X8.out.2.1).below B10,(X8.out.2.2.1).below B10,(X8.out.2.2.2.1).kept B10 (X8.out.2.2.2.1).2.2,(X8.out.2.2.2.2).kept B10 (X8.out.2.2.2.2).2.2⟩
    clear X8 B10 x0 x1 x2 x3 x4 x5 x6 xf xz y0 y1 y2 y3 y4 y5 y6 y7 y8 y9 y10 y11 y12 y13
    obtain ⟨⟨x0,x1,x2,x3,x4,x5,x6⟩,xf,xz⟩:=X10.out.2.1.1
    have y0:=(X10.out.2.2.2.1).1 0 _ rfl
    have y1:=(X10.out.2.2.2.1).1 1 _ rfl
    have y2:=(X10.out.2.2.2.1).1 2 _ rfl
    have y3:=(X10.out.2.2.2.1).1 3 _ rfl
    have y4:=(X10.out.2.2.2.1).1 4 _ rfl
    have y5:=(X10.out.2.2.2.1).1 5 _ rfl
    have y6:=(X10.out.2.2.2.1).1 6 _ rfl
    have y7:=(X10.out.2.2.2.1).1 7 _ rfl
    have y8:=(X10.out.2.2.2.1).1 8 _ rfl
    have y9:=(X10.out.2.2.2.1).1 9 _ rfl
    have y10:=(X10.out.2.2.2.1).1 10 _ rfl
    have y11:=(X10.out.2.2.2.1).1 11 _ rfl
    have y12:=(X10.out.2.2.2.1).1 12 _ rfl
    have y13:=(X10.out.2.2.2.1).1 13 _ rfl
    go_wp2_with fail
    go_meet
    exact ⟨rfl,X10.out.1⟩
 clear M5 M9 XW6 HS HS2 HLO HL5
 obtain ⟨rfl,hst⟩:=hcut
 have S1:Hid (St w' h a len wc):=hst
 clear hst
 go_wp2_with fail
 refine (tq a len cap _ S1.out.1).mono ?_
 rintro e u1 ⟨s,rfl,hs,B1⟩
 have Y1:Hid (St w' h a len u1):=(S1.out).below B1
 clear S1 B1
 obtain ⟨k2,L2,O2,n2,m2,f2,hl2,hb2,hR2,hQ2⟩:=sX s (by omega)
 have HR2:Hid _:=hR2
 have HQ2:Hid _:=hQ2
 have HL2:Hid (L2.length<=12/\O2.length<=8):=hl2
 have HF2:Hid _:=hb2
 clear hR2 hQ2 hl2 hb2 hs
 go_wp2_with fail
 refine (HR2.out _ Y1.out.2.1).mono ?_
 rintro e u2 ⟨a2,c2,b2,d2,rfl,A3,Q3,B2⟩
 have A3':AL u2 h (Sl a2 n2 c2) L2:=A3.mono Y1.out.2.2.2
 have Q3':ag u2 h (Sl b2 m2 d2) O2:=Q3.mono Y1.out.2.2.2
 have Y2:Hid (St w' h a len u2):=(Y1.out).below B2
 clear Y1 B2 A3 Q3 HR2
 obtain ⟨U2,hU2,XU2⟩:∃V,V=u2.alloc (.cells #[Ii Jj k2.day,(Sl a2 n2 c2),(Sl b2 m2 d2),Ii Jj k2.inn,Ii Jj k2.out,Ii Jj k2.posted,Ii Jj k2.missed] 27)/\Hid (St w' h a len V/\de V u2.heap.size h (Sl a2 n2 c2) (Sl b2 m2 d2) k2 L2 O2):=by
  have hb:Below u2.heap.size u2 (u2.alloc (.cells #[Ii Jj k2.day,(Sl a2 n2 c2),(Sl b2 m2 d2),Ii Jj k2.inn,Ii Jj k2.out,Ii Jj k2.posted,Ii Jj k2.missed] 27)):=(Bf _ _).alloc (Nf _) _
  exact ⟨_,rfl,(Y2.out).below hb,de.new A3' Q3'⟩
 have HU2:Hid (U2=_):=hU2
 clear hU2 Y2 A3' Q3'
 go_upto_region 13 with fail
 rw[←HU2.out]
 obtain ⟨r12,hr12⟩:∃r,u2.heap.size=r:=⟨_,rfl⟩
 rw[hr12] at XU2
 try rw[hr12]
 clear HU2 hr12
 go_wp2_with fail
 refine (HQ2.out _).mono ?_
 rintro e u3 ⟨a3,c3,b3,d3,rfl,A4,Q4,B3⟩
 have Y3:Hid (St w' h a len u3/\de u3 r12 h (Sl a2 n2 c2) (Sl b2 m2 d2) k2 L2 O2):=⟨(XU2.out.1).below B3,(XU2.out.2).below B3⟩
 clear XU2 B3 HQ2
 obtain ⟨U3,hU3,XU3⟩:∃V,V=u3.alloc (.cells #[Ii Jj k2.day,(Sl a3 n2 c3),(Sl b3 m2 d3),Ii Jj k2.inn,Ii Jj k2.out,Ii Jj k2.posted,Ii Jj k2.missed] 27)/\Hid (St w' h a len V/\de V r12 h (Sl a2 n2 c2) (Sl b2 m2 d2) k2 L2 O2):=by
  have hb:Below u3.heap.size u3 (u3.alloc (.cells #[Ii Jj k2.day,(Sl a3 n2 c3),(Sl b3 m2 d3),Ii Jj k2.inn,Ii Jj k2.out,Ii Jj k2.posted,Ii Jj k2.missed] 27)):=(Bf _ _).alloc (Nf _) _
  exact ⟨_,rfl,⟨(Y3.out.1).below hb,(Y3.out.2).below hb⟩⟩
 have HU3:Hid (U3=_):=hU3
 clear hU3 Y3 A4 Q4
 go_upto_region 14 with fail
 rw[←HU3.out]
 clear HU3
 go_wp2_with fail
 refine (rT a len cap _ XU3.out.1.1).mono ?_
 rintro e u4 ⟨s4,rfl,hs,B4⟩
 have Y4:Hid (St w' h a len u4/\de u4 r12 h (Sl a2 n2 c2) (Sl b2 m2 d2) k2 L2 O2):=⟨(XU3.out.1).below B4,(XU3.out.2).below B4⟩
 clear XU3 B4
 obtain ⟨K4,n4,x4,o4,f4,hb4,hR4,hQ4⟩:=rh s4 (by omega)
 have HR4:Hid _:=hR4
 have HQ4:Hid _:=hQ4
 have HF4:Hid _:=hb4
 clear hR4 hQ4 hb4 hs
 go_wp2_with fail
 refine (HR4.out _ Y4.out.1.2.1).mono ?_
 rintro e u5 ⟨rfl,B5⟩
 have Y5:Hid (St w' h a len u5/\de u5 r12 h (Sl a2 n2 c2) (Sl b2 m2 d2) k2 L2 O2):=⟨(Y4.out.1).below B5,(Y4.out.2).below B5⟩
 clear Y4 B5 HR4
 obtain ⟨U5,hU5,XU5⟩:∃V,V=u5.alloc (.cells #[Ii Jj K4,Ii Jj x4.k,Ii Jj x4.i,Ii Jj x4.t,Ii Jj x4.m,Ii Jj x4.r,Ii Jj o4.id,Ii Jj o4.src,Ii Jj o4.dst,Ii Jj o4.amount,Ii Jj o4.first,Ii Jj o4.every,Ii Jj o4.times,Ii Jj n4] 37)/\Hid (St w' h a len V/\de V r12 h (Sl a2 n2 c2) (Sl b2 m2 d2) k2 L2 O2/\ah V u5.heap.size [Ii Jj K4,Ii Jj x4.k,Ii Jj x4.i,Ii Jj x4.t,Ii Jj x4.m,Ii Jj x4.r,Ii Jj o4.id,Ii Jj o4.src,Ii Jj o4.dst,Ii Jj o4.amount,Ii Jj o4.first,Ii Jj o4.every,Ii Jj o4.times,Ii Jj n4]):=by
  have hb:Below u5.heap.size u5 (u5.alloc (.cells #[Ii Jj K4,Ii Jj x4.k,Ii Jj x4.i,Ii Jj x4.t,Ii Jj x4.m,Ii Jj x4.r,Ii Jj o4.id,Ii Jj o4.src,Ii Jj o4.dst,Ii Jj o4.amount,Ii Jj o4.first,Ii Jj o4.every,Ii Jj o4.times,Ii Jj n4] 37)):=(Bf _ _).alloc (Nf _) _
  exact ⟨_,rfl,(Y5.out.1).below hb,(Y5.out.2).below hb,ah.new u5 [Ii Jj K4,Ii Jj x4.k,Ii Jj x4.i,Ii Jj x4.t,Ii Jj x4.m,Ii Jj x4.r,Ii Jj o4.id,Ii Jj o4.src,Ii Jj o4.dst,Ii Jj o4.amount,Ii Jj o4.first,Ii Jj o4.every,Ii Jj o4.times,Ii Jj n4] 37⟩
 have HU5:Hid (U5=_):=hU5
 clear hU5 Y5
 go_upto_region 16 with fail
 rw[←HU5.out]
 obtain ⟨r17,hr17⟩:∃r,u5.heap.size=r:=⟨_,rfl⟩
 rw[hr17] at XU5
 try rw[hr17]
 clear HU5 hr17
 go_wp2_with fail
 refine (HQ4.out _).mono ?_
 rintro e u6 ⟨rfl,B6⟩
 have Y6:Hid (St w' h a len u6/\de u6 r12 h (Sl a2 n2 c2) (Sl b2 m2 d2) k2 L2 O2/\ah u6 r17 [Ii Jj K4,Ii Jj x4.k,Ii Jj x4.i,Ii Jj x4.t,Ii Jj x4.m,Ii Jj x4.r,Ii Jj o4.id,Ii Jj o4.src,Ii Jj o4.dst,Ii Jj o4.amount,Ii Jj o4.first,Ii Jj o4.every,Ii Jj o4.times,Ii Jj n4]):=⟨(XU5.out.1).below B6,(XU5.out.2.1).below B6,(XU5.out.2.2).kept B6 (XU5.out.2.2).2.2⟩
 clear XU5 B6 HQ4
 obtain ⟨U6,hU6,XU6⟩:∃V,V=u6.alloc (.cells #[Ii Jj K4,Ii Jj x4.k,Ii Jj x4.i,Ii Jj x4.t,Ii Jj x4.m,Ii Jj x4.r,Ii Jj o4.id,Ii Jj o4.src,Ii Jj o4.dst,Ii Jj o4.amount,Ii Jj o4.first,Ii Jj o4.every,Ii Jj o4.times,Ii Jj n4] 37)/\Hid (St w' h a len V/\de V r12 h (Sl a2 n2 c2) (Sl b2 m2 d2) k2 L2 O2/\ah V r17 [Ii Jj K4,Ii Jj x4.k,Ii Jj x4.i,Ii Jj x4.t,Ii Jj x4.m,Ii Jj x4.r,Ii Jj o4.id,Ii Jj o4.src,Ii Jj o4.dst,Ii Jj o4.amount,Ii Jj o4.first,Ii Jj o4.every,Ii Jj o4.times,Ii Jj n4]):=by
  have hb:Below u6.heap.size u6 (u6.alloc (.cells #[Ii Jj K4,Ii Jj x4.k,Ii Jj x4.i,Ii Jj x4.t,Ii Jj x4.m,Ii Jj x4.r,Ii Jj o4.id,Ii Jj o4.src,Ii Jj o4.dst,Ii Jj o4.amount,Ii Jj o4.first,Ii Jj o4.every,Ii Jj o4.times,Ii Jj n4] 37)):=(Bf _ _).alloc (Nf _) _
  exact ⟨_,rfl,⟨(Y6.out.1).below hb,(Y6.out.2.1).below hb,(Y6.out.2.2).kept hb (Y6.out.2.2).2.2⟩⟩
 have HU6:Hid (U6=_):=hU6
 clear hU6 Y6
 go_upto_region 17 with fail
 rw[←HU6.out]
 clear HU6
 have TX:f2=true->∀(a b:Option Addr) (n c m d B C:Nat) (w:World),iy w->AL w B (Sl a n c) L2->ag w C (Sl b m d) O2->Calls Tryz.prog 6 #[.agg #[Ii Jj k2.day,Sl a n c,Sl b m d,Ii Jj k2.inn,Ii Jj k2.out,Ii Jj k2.posted,Ii Jj k2.missed]] w fun e w'=>e=.returned (.string s)/\Below w.heap.size w w':=by
  intro hf
  obtain ⟨t3,_,ht3,_,hI3⟩:=sS k2 L2 O2 HL2.out.1 HL2.out.2
  rcases HF2.out with ⟨_,hr⟩|⟨e2,_⟩
  ·have hk:=(dd s k2 L2 O2).1 hr
   rcases ht3 with ⟨_,e3⟩|⟨hn,_⟩
   ·rw[hk.2,←e3]
    exact hI3
   ·exact absurd hk.1 hn
  ·rw[e2] at hf;cases hf
 have TO:f4=true->∀w,iy w->Calls Tryz.prog 9 #[.agg #[Ii Jj K4,Ii Jj x4.k,Ii Jj x4.i,Ii Jj x4.t,Ii Jj x4.m,Ii Jj x4.r,Ii Jj o4.id,Ii Jj o4.src,Ii Jj o4.dst,Ii Jj o4.amount,Ii Jj o4.first,Ii Jj o4.every,Ii Jj o4.times,Ii Jj n4]] w fun e w'=>e=.returned (.string s4)/\Below w.heap.size w w':=by
  intro hf w hp
  rcases HF4.out with ⟨_,hr⟩|⟨e2,_⟩
  ·have hk:=(er.1 hr).2
   rw[←hk]
   exact qp K4 n4 x4 o4 w hp
  ·rw[e2] at hf;cases hf
 clear HF2 HF4
 cases f2 with
 | false=>
  cases f4 with
  | false=>
   clear TX TO
   go_wp2
   go_ret
   exact ⟨rfl,by rw[HH.out];exact XU6.out.1.2.2.1⟩
  | true=>
   have HTO:Hid _:=TO rfl
   clear TX TO
   have y0:=(XU6.out.2.2).1 0 _ rfl
   have y1:=(XU6.out.2.2).1 1 _ rfl
   have y2:=(XU6.out.2.2).1 2 _ rfl
   have y3:=(XU6.out.2.2).1 3 _ rfl
   have y4:=(XU6.out.2.2).1 4 _ rfl
   have y5:=(XU6.out.2.2).1 5 _ rfl
   have y6:=(XU6.out.2.2).1 6 _ rfl
   have y7:=(XU6.out.2.2).1 7 _ rfl
   have y8:=(XU6.out.2.2).1 8 _ rfl
   have y9:=(XU6.out.2.2).1 9 _ rfl
   have y10:=(XU6.out.2.2).1 10 _ rfl
   have y11:=(XU6.out.2.2).1 11 _ rfl
   have y12:=(XU6.out.2.2).1 12 _ rfl
   have y13:=(XU6.out.2.2).1 13 _ rfl
   go_wp2_with fail
   refine (HTO.out _ XU6.out.1.2.1.2.2.2.1).mono ?_
   rintro e u8 ⟨rfl,B8⟩
   have Y8:Hid (St w' h a len u8/\de u8 r12 h (Sl a2 n2 c2) (Sl b2 m2 d2) k2 L2 O2/\ah u8 r17 [Ii Jj K4,Ii Jj x4.k,Ii Jj x4.i,Ii Jj x4.t,Ii Jj x4.m,Ii Jj x4.r,Ii Jj o4.id,Ii Jj o4.src,Ii Jj o4.dst,Ii Jj o4.amount,Ii Jj o4.first,Ii Jj o4.every,Ii Jj o4.times,Ii Jj n4]):=⟨(XU6.out.1).below B8,(XU6.out.2.1).below B8,(XU6.out.2.2).kept B8 (XU6.out.2.2).2.2⟩
   clear XU6 B8 y0 y1 y2 y3 y4 y5 y6 y7 y8 y9 y10 y11 y12 y13
   go_wp2
   go_ret
   exact ⟨rfl,by rw[HH.out];exact Y8.out.1.2.2.1⟩
 | true=>
  cases f4 with
  | false=>
   have HTX:Hid _:=TX rfl
   clear TX TO
   obtain ⟨⟨g0,g1,g2,g3,g4,g5,g6⟩,gf,gz⟩:=XU6.out.2.1.1
   go_wp2_with fail
   refine (HTX.out a2 b2 n2 c2 m2 d2 h h _ XU6.out.1.2.1.2.2.2.1 XU6.out.2.1.2.1 XU6.out.2.1.2.2).mono ?_
   rintro e u7 ⟨rfl,B7⟩
   have Y7:Hid (St w' h a len u7/\de u7 r12 h (Sl a2 n2 c2) (Sl b2 m2 d2) k2 L2 O2/\ah u7 r17 [Ii Jj K4,Ii Jj x4.k,Ii Jj x4.i,Ii Jj x4.t,Ii Jj x4.m,Ii Jj x4.r,Ii Jj o4.id,Ii Jj o4.src,Ii Jj o4.dst,Ii Jj o4.amount,Ii Jj o4.first,Ii Jj o4.every,Ii Jj o4.times,Ii Jj n4]):=⟨(XU6.out.1).below B7,(XU6.out.2.1).below B7,(XU6.out.2.2).kept B7 (XU6.out.2.2).2.2⟩
   clear XU6 B7 g0 g1 g2 g3 g4 g5 g6 gf gz
   go_wp2
   go_ret
   exact ⟨rfl,by rw[HH.out];exact Y7.out.1.2.2.1⟩
  | true=>
   have HTX:Hid _:=TX rfl
   have HTO:Hid _:=TO rfl
   clear TX TO
   obtain ⟨⟨g0,g1,g2,g3,g4,g5,g6⟩,gf,gz⟩:=XU6.out.2.1.1
   have y0:=(XU6.out.2.2).1 0 _ rfl
   have y1:=(XU6.out.2.2).1 1 _ rfl
   have y2:=(XU6.out.2.2).1 2 _ rfl
   have y3:=(XU6.out.2.2).1 3 _ rfl
   have y4:=(XU6.out.2.2).1 4 _ rfl
   have y5:=(XU6.out.2.2).1 5 _ rfl
   have y6:=(XU6.out.2.2).1 6 _ rfl
   have y7:=(XU6.out.2.2).1 7 _ rfl
   have y8:=(XU6.out.2.2).1 8 _ rfl
   have y9:=(XU6.out.2.2).1 9 _ rfl
   have y10:=(XU6.out.2.2).1 10 _ rfl
   have y11:=(XU6.out.2.2).1 11 _ rfl
   have y12:=(XU6.out.2.2).1 12 _ rfl
   have y13:=(XU6.out.2.2).1 13 _ rfl
   go_wp2_with fail
   refine (HTX.out a2 b2 n2 c2 m2 d2 h h _ XU6.out.1.2.1.2.2.2.1 XU6.out.2.1.2.1 XU6.out.2.1.2.2).mono ?_
   rintro e u7 ⟨rfl,B7⟩
   have Y7:Hid (St w' h a len u7/\de u7 r12 h (Sl a2 n2 c2) (Sl b2 m2 d2) k2 L2 O2/\ah u7 r17 [Ii Jj K4,Ii Jj x4.k,Ii Jj x4.i,Ii Jj x4.t,Ii Jj x4.m,Ii Jj x4.r,Ii Jj o4.id,Ii Jj o4.src,Ii Jj o4.dst,Ii Jj o4.amount,Ii Jj o4.first,Ii Jj o4.every,Ii Jj o4.times,Ii Jj n4]):=⟨(XU6.out.1).below B7,(XU6.out.2.1).below B7,(XU6.out.2.2).kept B7 (XU6.out.2.2).2.2⟩
   clear XU6 B7 g0 g1 g2 g3 g4 g5 g6 gf gz y0 y1 y2 y3 y4 y5 y6 y7 y8 y9 y10 y11 y12 y13
   have y0:=(Y7.out.2.2).1 0 _ rfl
   have y1:=(Y7.out.2.2).1 1 _ rfl
   have y2:=(Y7.out.2.2).1 2 _ rfl
   have y3:=(Y7.out.2.2).1 3 _ rfl
   have y4:=(Y7.out.2.2).1 4 _ rfl
   have y5:=(Y7.out.2.2).1 5 _ rfl
   have y6:=(Y7.out.2.2).1 6 _ rfl
   have y7:=(Y7.out.2.2).1 7 _ rfl
   have y8:=(Y7.out.2.2).1 8 _ rfl
   have y9:=(Y7.out.2.2).1 9 _ rfl
   have y10:=(Y7.out.2.2).1 10 _ rfl
   have y11:=(Y7.out.2.2).1 11 _ rfl
   have y12:=(Y7.out.2.2).1 12 _ rfl
   have y13:=(Y7.out.2.2).1 13 _ rfl
   go_wp2_with fail
   refine (HTO.out _ Y7.out.1.2.1.2.2.2.1).mono ?_
   rintro e u8 ⟨rfl,B8⟩
   have Y8:Hid (St w' h a len u8/\de u8 r12 h (Sl a2 n2 c2) (Sl b2 m2 d2) k2 L2 O2/\ah u8 r17 [Ii Jj K4,Ii Jj x4.k,Ii Jj x4.i,Ii Jj x4.t,Ii Jj x4.m,Ii Jj x4.r,Ii Jj o4.id,Ii Jj o4.src,Ii Jj o4.dst,Ii Jj o4.amount,Ii Jj o4.first,Ii Jj o4.every,Ii Jj o4.times,Ii Jj n4]):=⟨(Y7.out.1).below B8,(Y7.out.2.1).below B8,(Y7.out.2.2).kept B8 (Y7.out.2.2).2.2⟩
   clear Y7 B8 y0 y1 y2 y3 y4 y5 y6 y7 y8 y9 y10 y11 y12 y13
   go_wp2
   go_ret
   exact ⟨rfl,by rw[HH.out];exact Y8.out.1.2.2.1⟩
end
section
open Go.Proofs.Tryz renaming prog → Pg
open Go.ChangeShapes Go.WideShapes Go.ChangeAt Go.RowKit
set_option linter.unusedVariables false
set_option maxRecDepth 100000 in
theorem jd (os:Os) (started:os.Started) (H:Type) (enc:TypeId×Value->H):
  ReturnsInHanded {} Tryz.checked os 3 .any (fun w args=>(Rows.fnTextsSpec.pre enc Pg Tryz.f3 [] false w args/\laidMetH Pg ma w)/\sizedMet enc Pg Tryz.f3 (OpenSpec.ofChange Rows.fnTextsSpec) false w args)
   (Rows.fnTextsSpec.post enc Pg Tryz.f3 false true false false):=by
 refine returnsInHanded_of_change_and (C:=Tryz.checked) (X:=fun w _=>laidMetH Pg ma w) (fun _ _ _ hh h=>h.of_heap hh) uw started (by kernel_rfl) Tryz.func3
  (ChangeSpec.witness_shaped (enc:=enc) (C:=Tryz.checked) (os:=os) (X:=fun w _=>laidMetH Pg ma w) false (World.doorLaid Pg 400 os) #[.slice none 0 0] 8 rfl (World.shaped_of_RefB (by kernel_rfl) (by kernel_rfl)) (by kernel_rfl) (by kernel_rfl) (by kernel_rfl) (oV os _)) ?_
 intro W base args ds gs before hval0 hW _ _ hL _
 have hval:∀(j:Nat) t v,Tryz.f3.params[j]? =some t->args[j]? =some v->Value.okWide Pg W .any base t v:=hval0
 have hW':=hW
 obtain ⟨p,q,hA0,hV0,rfl,hfz,hnd⟩:=hW
 have hA:DataW.TrodAll enc Pg W 0 (fun _=>true) true Tryz.f3.params.toList args.toList ds p:=hA0
 have hV : DataW.TrodVars enc Pg W (fun _ => true) ["loop.example/g00362/impl.errText"] gs q := hV0
 rw[Tryz.params3] at hA hval
 obtain ⟨v0,d0,rfl,rfl,h0⟩:=trodAll_one hA
 have k0:=h0
 have lt0:∀x ∈ p,x.block<W.heap.size:=by obtain ⟨m,hm⟩:=k0;exact DataW.trod_lt m _ _ _ hm
 obtain ⟨g,t,cs,fuel,dv,pv,rfl,hg,htt,hvar,hd,rfl⟩:=trodVars_one hV
 obtain ⟨a0,len0,cap0,rfl⟩:=okWide_slice Tryz.underlying22 (hval 0 22 v0 rfl rfl)
 have hcode:Code W a0 len0:=rS h0
 clear hA0 hV0 hval0 hg htt hvar hd
 refine (ul a0 len0 cap0 W hcode (kS hL)).mono fun e W' ⟨he,bel⟩=>?_
 subst he
 exact ⟨_,rfl,_,_,_,[],_,_,hW',trodAll_mk1 (shut_bool Tryz.underlying4 _),trodAll_mk1 (Below.trod ox (by kernel_rfl) (of_decide_eq_true (by kernel_rfl)) k0 bel lt0),Below.trodVars ox bel ud hV,bel.frame _,fun h=>by cases h⟩
theorem lR:Rows.fnTextsRow.holds Tryz.pinned (OpenSpec.ofChange Rows.fnTextsSpec):=
 OpenClaim.holds_of_wide 3 Tryz.f3 rfl rfl rfl rfl rfl rfl rfl ⟨rfl,rfl,rfl,rfl,rfl⟩ rfl rfl rfl rfl rfl (by kernel_rfl) Tryz.func3 (by kernel_rfl)
  (of_decide_eq_true (by kernel_rfl)) (by unfold Func.isWrapper;first|(rw[if_pos (by decide +kernel)];kernel_rfl)|(rw[if_neg (by decide +kernel)];exact ⟨rfl,rfl⟩))
  (fun os started H enc _=>jd os started H enc)
theorem fnTexts_card:Rows.FnTextsCardSaid:=
 Claim7.holds_tied_plain_at .later [] [.data, .data, .data, .sentinel, .sentinel, .sentinel] true (true, "2071fc6e8f38c9270c883bd66e6000b5352c94e3a7426632408fc786f105b4e6") true
  lR (fun _ h=>by cases h) (by kernel_rfl) (fun _ h=>by cases h) fnTexts_row_tie rfl ⟨rfl,rfl⟩ (by kernel_rfl) rfl
  (fun f fn hf hfn=>by
   obtain rfl : f = 3 := Option.some.inj ((show Pg.funcNamed "loop.example/g00362/laws.FnTexts" = some 3 by kernel_rfl).symm.trans hf) |>.symm
   obtain rfl:fn=Tryz.f3:=(Option.some.inj (Tryz.func3.symm.trans hfn)).symm
   exact ⟨by kernel_rfl,fun j t ht=>by
    rw[Tryz.params3] at ht
    have hm:t ∈ [22]:=by simpa using Array.mem_of_getElem? ht
    have hall:([22].all fun u=> !Pg.wantsStandIn u)=true:=by kernel_rfl
    exact (show Pg.wantsStandIn t=false by simpa using List.all_eq_true.1 hall t hm)⟩)
  (by kernel_rfl)
#print axioms fnTexts_card
end
end Go.Proofs.YtjhgchlfpolkcaaGreatDoor
