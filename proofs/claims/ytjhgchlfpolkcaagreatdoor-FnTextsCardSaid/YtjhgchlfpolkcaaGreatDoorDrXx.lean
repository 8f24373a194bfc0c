/- The draws of FnTexts. -/
import Derived.Test.YtjhgchlfpolkcaaGreatDoorRdbx
import Derived.Test.YtjhgchlfpolkcaaGreatDoorSrbx
import Derived.Test.YtjhgchlfpolkcaaGreatDoorSrpx
namespace Go.Proofs.YtjhgchlfpolkcaaGreatDoor
open Value renaming int → Ii,slice → Sl
open IntKind renaming i64 → Jj
open Go.Proofs.Tryz renaming prog → Pg
set_option maxHeartbeats 8000000
open Go.RowKit
set_option maxRecDepth 8000
theorem Code.below {w w':World} {a:Option Addr} {len:Nat} (h:Code w a len) (hb:Below w.heap.size w w'):Code w' a len:=⟨h.1,fun i hi=>by
 obtain ⟨b,off,z,e,hlt,hc,h1,h2⟩:=h.2 i hi
 exact ⟨b,off,z,e,Nat.lt_of_lt_of_le hlt hb.size,(hb.cell (p:=⟨b,off+i,none⟩) hlt).trans hc,h1,h2⟩⟩
theorem tk (k:Bk) (L:List al) (O:List am):∃t:ByteArray,((aj (FL L) L.length (ai O) O.length k->t=cZ (FL L) L.length (ai O) O.length k)/\(¬aj (FL L) L.length (ai O) O.length k->t=⟨#[]⟩))/\t.size<=5313:=by
 by_cases h:aj (FL L) L.length (ai O) O.length k
 ·exact ⟨_,⟨fun _=>rfl,fun hn=>absurd h hn⟩,(dH h).1⟩
 ·exact ⟨⟨#[]⟩,⟨fun hy=>absurd hy h,fun _=>rfl⟩,by decide⟩
theorem jY (K n:Int) (x:bB) (o:am):(dI K x o n).size<=1000:=by
 unfold dI
 split
 ·rename_i h
  have hs:∀z ∈ (bm K x o n).2,e8 z:=fun z hz=>⟨by have:=eE h z hz;omega,by have:=eE h z hz;omega⟩
  obtain ⟨i,hi,e1,e2,_⟩:=dg h
  have h1:(bm K x o n).1.size<=100:=by rw[e1];exact (by decide:∀i,i<13->(cB i).size<=100) i hi
  have h2:=(nK i hi).2
  have:=cU hs h1
  omega
 ·decide
theorem tp (a:Option Addr) (len cap:Nat) (w:World) (hc:Code w a len):
  Calls Pg 5 #[Sl a len cap] w fun e w'=>∃(k:Bk) (L:List al) (O:List am) (v u:Value),e=.returned (.agg #[Ii Jj k.day,v,u,Ii Jj k.inn,Ii Jj k.out,Ii Jj k.posted,Ii Jj k.missed])/\L.length<=12/\O.length<=8/\AL w' w.heap.size v L/\ag w' w.heap.size u O/\Below w.heap.size w w':=by
 obtain ⟨h,hh⟩:∃h,w.heap.size=h:=⟨_,rfl⟩
 have HH:Hid (w.heap.size=h):=hh
 obtain ⟨W0,hW0,X0⟩:∃W0,W0=w.alloc (.cells #[Ii Jj 0,Sl none 0 0,Sl none 0 0,Ii Jj 0,Ii Jj 0,Ii Jj 0,Ii Jj 0] 27)/\Hid (af W0 h (Ii Jj 0) (Sl none 0 0) (Sl none 0 0) (Ii Jj 0) (Ii Jj 0) (Ii Jj 0) (Ii Jj 0)/\Below h w W0/\W0.heap.size=h+1/\Code W0 a len):=by
  have bb:Below w.heap.size w (w.alloc (.cells #[Ii Jj 0,Sl none 0 0,Sl none 0 0,Ii Jj 0,Ii Jj 0,Ii Jj 0,Ii Jj 0] 27)):=(Below.refl _ _).alloc (Nat.le_refl _) _
  exact ⟨_,rfl,by rw[←hh];exact af.new w _ _ _ _ _ _ _ 27,by rw[←hh];exact bb,by simp[hh],Code.below hc bb⟩
 have HW0:Hid (W0=_):=hW0
 clear hW0 hc
 go_enter Tryz.func5,Tryz.ntmps5
 go_upto_region 1 with fail
 rw[←HW0.out]
 try rw[hh]
 clear HW0 hh
 go_wp2_with fail
 refine (iP a len cap _ X0.out.2.2.2.1 X0.out.2.2.2.2).mono ?_
 rintro e w1 ⟨rfl,R1,B1⟩
 rw[X0.out.2.2.1] at R1
 have X1:Hid (af w1 h (Ii Jj 0) (Sl none 0 0) (Sl none 0 0) (Ii Jj 0) (Ii Jj 0) (Ii Jj 0) (Ii Jj 0)/\Below h w w1/\Rd w1 (h+1) a len cap):=⟨X0.out.1.kept B1 X0.out.1.2.2,X0.out.2.1.trans (B1.mono (by have:=X0.out.2.2.1;omega)),R1⟩
 try rw[X0.out.2.2.1]
 clear R1 B1 X0
 go_wp2_with fail
 refine (oF (h+1) a len cap 12 _ X1.out.2.2 (by omega) (by omega)).mono ?_
 rintro e w2 ⟨k,L,O,v,u,rfl,l2,o2,A2,Q2,R2,S2⟩
 obtain ⟨a1,c1,hv⟩:=A2.len
 subst hv
 obtain ⟨b1,d1,hv⟩:=Q2.len
 subst hv
 obtain ⟨m1,hm1⟩:∃m,L.length=m:=⟨_,rfl⟩
 obtain ⟨m2,hm2⟩:∃m,O.length=m:=⟨_,rfl⟩
 have HL:Hid (L.length<=12/\O.length<=8):=⟨l2,o2⟩
 have X2:Hid (af w2 h (Ii Jj 0) (Sl none 0 0) (Sl none 0 0) (Ii Jj 0) (Ii Jj 0) (Ii Jj 0) (Ii Jj 0)/\Below h w w2/\AL w2 (h+1) (Sl a1 m1 c1) L/\ag w2 (h+1) (Sl b1 m2 d1) O):=by
  have z1:=X1.out.2.2.2.2.2.1
  have b2:Below (h+1) w1 w2:=S2.below (by omega)
  rw[hm1] at A2
  rw[hm2] at Q2
  exact ⟨X1.out.1.kept b2 (by omega),X1.out.2.1.trans (b2.mono (by omega)),A2.mono (by omega),Q2.mono (by omega)⟩
 simp only[hm1,hm2]
 clear l2 o2 A2 Q2 R2 S2 X1 hm1 hm2
 obtain ⟨⟨r0,r1,r2,r3,r4,r5,r6⟩,rf,rz⟩:=X2.out.1
 go_wp2
 refine bodyPost_ret (v:=.agg #[Ii Jj k.day,(Sl a1 m1 c1),(Sl b1 m2 d1),Ii Jj k.inn,Ii Jj k.out,Ii Jj k.posted,Ii Jj k.missed]) (by simp[results,Tryz.results5,go_sem,r0,r1,r2,r3,r4,r5,r6]) rfl ⟨k,L,O,_,_,rfl,HL.out.1,HL.out.2,?_,?_,?_⟩
 ·rw[HH.out]
  refine AL.mono (B:=h+1) ?_ (by omega)
  repeat (refine AL.far ?_ (by omega) _ _)
  exact X2.out.2.2.1
 ·rw[HH.out]
  refine ag.mono (B:=h+1) ?_ (by omega)
  repeat (refine ag.far ?_ (by omega) _ _)
  exact X2.out.2.2.2
 ·rw[HH.out]
  repeat (refine ak ?_ (by omega) _ _)
  exact X2.out.2.1
theorem tn (a:Option Addr) (len cap:Nat) (w:World) (hc:Code w a len):
  Calls Pg 8 #[Sl a len cap] w fun e w'=>∃(K n:Int) (x:bB) (o:am),e=.returned (.agg #[Ii Jj K,Ii Jj x.k,Ii Jj x.i,Ii Jj x.t,Ii Jj x.m,Ii Jj x.r,Ii Jj o.id,Ii Jj o.src,Ii Jj o.dst,Ii Jj o.amount,Ii Jj o.first,Ii Jj o.every,Ii Jj o.times,Ii Jj n])/\Below w.heap.size w w':=by
 obtain ⟨h,hh⟩:∃h,w.heap.size=h:=⟨_,rfl⟩
 have HH:Hid (w.heap.size=h):=hh
 obtain ⟨W0,hW0,X0⟩:∃W0,W0=w.alloc (.cells ([Ii Jj 0,Ii Jj 0,Ii Jj 0,Ii Jj 0,Ii Jj 0,Ii Jj 0,Ii Jj 0,Ii Jj 0,Ii Jj 0,Ii Jj 0,Ii Jj 0,Ii Jj 0,Ii Jj 0,Ii Jj 0]:List Value).toArray 37)/\Hid (ah W0 h [Ii Jj 0,Ii Jj 0,Ii Jj 0,Ii Jj 0,Ii Jj 0,Ii Jj 0,Ii Jj 0,Ii Jj 0,Ii Jj 0,Ii Jj 0,Ii Jj 0,Ii Jj 0,Ii Jj 0,Ii Jj 0]/\Below h w W0/\W0.heap.size=h+1/\Code W0 a len):=by
  have bb:Below w.heap.size w (w.alloc (.cells ([Ii Jj 0,Ii Jj 0,Ii Jj 0,Ii Jj 0,Ii Jj 0,Ii Jj 0,Ii Jj 0,Ii Jj 0,Ii Jj 0,Ii Jj 0,Ii Jj 0,Ii Jj 0,Ii Jj 0,Ii Jj 0]:List Value).toArray 37)):=(Below.refl _ _).alloc (Nat.le_refl _) _
  exact ⟨_,rfl,by rw[←hh];exact ah.new _ _ _,by rw[←hh];exact bb,by simp[hh],Code.below hc bb⟩
 have HW0:Hid (W0=w.alloc (.cells #[Ii Jj 0,Ii Jj 0,Ii Jj 0,Ii Jj 0,Ii Jj 0,Ii Jj 0,Ii Jj 0,Ii Jj 0,Ii Jj 0,Ii Jj 0,Ii Jj 0,Ii Jj 0,Ii Jj 0,Ii Jj 0] 37)):=hW0
 clear hW0 hc
 go_enter Tryz.func8,Tryz.ntmps8
 go_upto_region 1 with fail
 rw[←HW0.out]
 try rw[hh]
 clear HW0 hh
 go_wp2_with fail
 refine (iP a len cap _ X0.out.2.2.2.1 X0.out.2.2.2.2).mono ?_
 rintro e w1 ⟨rfl,R1,B1⟩
 rw[X0.out.2.2.1] at R1
 have X1:Hid (ah w1 h [Ii Jj 0,Ii Jj 0,Ii Jj 0,Ii Jj 0,Ii Jj 0,Ii Jj 0,Ii Jj 0,Ii Jj 0,Ii Jj 0,Ii Jj 0,Ii Jj 0,Ii Jj 0,Ii Jj 0,Ii Jj 0]/\Below h w w1/\Rd w1 (h+1) a len cap):=⟨X0.out.1.kept B1 X0.out.1.2.2,X0.out.2.1.trans (B1.mono (by have:=X0.out.2.2.1;omega)),R1⟩
 try rw[X0.out.2.2.1]
 clear R1 B1 X0
 go_wp2_with fail
 refine (lf (h+1) a len cap _ X1.out.2.2).mono ?_
 rintro e w2 ⟨K,n,x,o,rfl,R2,S2⟩
 obtain ⟨V2,hV2,X2⟩:∃V,V=w2.alloc (.cells #[Ii Jj K,Ii Jj x.k,Ii Jj x.i,Ii Jj x.t,Ii Jj x.m,Ii Jj x.r,Ii Jj o.id,Ii Jj o.src,Ii Jj o.dst,Ii Jj o.amount,Ii Jj o.first,Ii Jj o.every,Ii Jj o.times,Ii Jj n] 37)/\Hid (ah V h [Ii Jj 0,Ii Jj 0,Ii Jj 0,Ii Jj 0,Ii Jj 0,Ii Jj 0,Ii Jj 0,Ii Jj 0,Ii Jj 0,Ii Jj 0,Ii Jj 0,Ii Jj 0,Ii Jj 0,Ii Jj 0]/\Below h w V/\Rd V (h+1) a len cap/\ah V w2.heap.size [Ii Jj K,Ii Jj x.k,Ii Jj x.i,Ii Jj x.t,Ii Jj x.m,Ii Jj x.r,Ii Jj o.id,Ii Jj o.src,Ii Jj o.dst,Ii Jj o.amount,Ii Jj o.first,Ii Jj o.every,Ii Jj o.times,Ii Jj n]/\h+1<w2.heap.size):=by
  have hb:Below w2.heap.size w2 (w2.alloc (.cells #[Ii Jj K,Ii Jj x.k,Ii Jj x.i,Ii Jj x.t,Ii Jj x.m,Ii Jj x.r,Ii Jj o.id,Ii Jj o.src,Ii Jj o.dst,Ii Jj o.amount,Ii Jj o.first,Ii Jj o.every,Ii Jj o.times,Ii Jj n] 37)):=(Below.refl _ _).alloc (Nat.le_refl _) _
  have z1:=X1.out.2.2.2.2.2.1
  have z2:=S2.size
  have b2:Below (h+1) w1 w2:=S2.below (by omega)
  exact ⟨_,rfl,(X1.out.1.kept b2 (by omega)).kept hb (by omega),(X1.out.2.1.trans (b2.mono (by omega))).trans (hb.mono (by omega)),R2.alloc _,ah.new w2 [Ii Jj K,Ii Jj x.k,Ii Jj x.i,Ii Jj x.t,Ii Jj x.m,Ii Jj x.r,Ii Jj o.id,Ii Jj o.src,Ii Jj o.dst,Ii Jj o.amount,Ii Jj o.first,Ii Jj o.every,Ii Jj o.times,Ii Jj n] 37,by omega⟩
 have HV2:Hid (V2=_):=hV2
 clear hV2 R2 S2 X1
 go_upto_region 3 with fail
 rw[←HV2.out]
 obtain ⟨r,hr⟩:∃r,w2.heap.size=r:=⟨_,rfl⟩
 rw[hr] at X2
 try rw[hr]
 clear HV2 hr
 have h35:h+1<r:=X2.out.2.2.2.2
 go_wp2_with fail
 refine (aU (h+1) a len cap 8 _ X2.out.2.2.1 (by omega) (by omega)).mono ?_
 rintro e w4 ⟨bo,rfl,R4,S4⟩
 have X4:Hid (ah w4 h [Ii Jj 0,Ii Jj 0,Ii Jj 0,Ii Jj 0,Ii Jj 0,Ii Jj 0,Ii Jj 0,Ii Jj 0,Ii Jj 0,Ii Jj 0,Ii Jj 0,Ii Jj 0,Ii Jj 0,Ii Jj 0]/\Below h w w4/\Rd w4 (h+1) a len cap/\ah w4 r [Ii Jj K,Ii Jj x.k,Ii Jj x.i,Ii Jj x.t,Ii Jj x.m,Ii Jj x.r,Ii Jj o.id,Ii Jj o.src,Ii Jj o.dst,Ii Jj o.amount,Ii Jj o.first,Ii Jj o.every,Ii Jj o.times,Ii Jj n]):=⟨X2.out.1.stp S4 (by omega),X2.out.2.1.trans ((S4.below (by have:=X2.out.2.2.1.2.2.2.1;omega)).mono (by omega)),R4,X2.out.2.2.2.1.stp S4 (by omega)⟩
 clear R4 S4 X2
 cases bo with
 | false=>
  have r0:=X4.out.1.1 0 _ rfl
  have r1:=X4.out.1.1 1 _ rfl
  have r2:=X4.out.1.1 2 _ rfl
  have r3:=X4.out.1.1 3 _ rfl
  have r4:=X4.out.1.1 4 _ rfl
  have r5:=X4.out.1.1 5 _ rfl
  have r6:=X4.out.1.1 6 _ rfl
  have r7:=X4.out.1.1 7 _ rfl
  have r8:=X4.out.1.1 8 _ rfl
  have r9:=X4.out.1.1 9 _ rfl
  have r10:=X4.out.1.1 10 _ rfl
  have r11:=X4.out.1.1 11 _ rfl
  have r12:=X4.out.1.1 12 _ rfl
  have r13:=X4.out.1.1 13 _ rfl
  have fz:=X4.out.1.2.1
  have y0:=X4.out.2.2.2.1 0 _ rfl
  have y1:=X4.out.2.2.2.1 1 _ rfl
  have y2:=X4.out.2.2.2.1 2 _ rfl
  have y3:=X4.out.2.2.2.1 3 _ rfl
  have y4:=X4.out.2.2.2.1 4 _ rfl
  have y5:=X4.out.2.2.2.1 5 _ rfl
  have y6:=X4.out.2.2.2.1 6 _ rfl
  have y7:=X4.out.2.2.2.1 7 _ rfl
  have y8:=X4.out.2.2.2.1 8 _ rfl
  have y9:=X4.out.2.2.2.1 9 _ rfl
  have y10:=X4.out.2.2.2.1 10 _ rfl
  have y11:=X4.out.2.2.2.1 11 _ rfl
  have y12:=X4.out.2.2.2.1 12 _ rfl
  have y13:=X4.out.2.2.2.1 13 _ rfl
  have gz:=X4.out.2.2.2.2.1
  go_wp2
  refine bodyPost_ret (v:=.agg #[Ii Jj K,Ii Jj x.k,Ii Jj x.i,Ii Jj x.t,Ii Jj x.m,Ii Jj x.r,Ii Jj o.id,Ii Jj o.src,Ii Jj o.dst,Ii Jj o.amount,Ii Jj o.first,Ii Jj o.every,Ii Jj o.times,Ii Jj n]) (by simp[results,Tryz.results8,go_sem,r0,r1,r2,r3,r4,r5,r6,r7,r8,r9,r10,r11,r12,r13]) rfl ⟨K,n,x,o,rfl,?_⟩
  rw[HH.out]
  repeat (refine ak ?_ (by omega) _ _)
  exact X4.out.2.1
 | true=>
  go_wp2_with fail
  refine (aV (h+1) a len cap 19 22 _ X4.out.2.2.1 (by omega) (by omega) (by omega)).mono ?_
  rintro e w5 ⟨v,rfl,R5,S5⟩
  have X5:Hid (ah w5 h [Ii Jj 0,Ii Jj 0,Ii Jj 0,Ii Jj 0,Ii Jj 0,Ii Jj 0,Ii Jj 0,Ii Jj 0,Ii Jj 0,Ii Jj 0,Ii Jj 0,Ii Jj 0,Ii Jj 0,Ii Jj 0]/\Below h w w5/\Rd w5 (h+1) a len cap/\ah w5 r [Ii Jj K,Ii Jj x.k,Ii Jj x.i,Ii Jj x.t,Ii Jj x.m,Ii Jj x.r,Ii Jj o.id,Ii Jj o.src,Ii Jj o.dst,Ii Jj o.amount,Ii Jj o.first,Ii Jj o.every,Ii Jj o.times,Ii Jj n]):=⟨X4.out.1.stp S5 (by omega),X4.out.2.1.trans ((S5.below (by have:=X4.out.2.2.1.2.2.2.1;omega)).mono (by omega)),R5,X4.out.2.2.2.stp S5 (by omega)⟩
  clear R5 S5 X4
  have r0:=X5.out.1.1 0 _ rfl
  have r1:=X5.out.1.1 1 _ rfl
  have r2:=X5.out.1.1 2 _ rfl
  have r3:=X5.out.1.1 3 _ rfl
  have r4:=X5.out.1.1 4 _ rfl
  have r5:=X5.out.1.1 5 _ rfl
  have r6:=X5.out.1.1 6 _ rfl
  have r7:=X5.out.1.1 7 _ rfl
  have r8:=X5.out.1.1 8 _ rfl
  have r9:=X5.out.1.1 9 _ rfl
  have r10:=X5.out.1.1 10 _ rfl
  have r11:=X5.out.1.1 11 _ rfl
  have r12:=X5.out.1.1 12 _ rfl
  have r13:=X5.out.1.1 13 _ rfl
  have fz:=X5.out.1.2.1
  have y0:=X5.out.2.2.2.1 0 _ rfl
  have y1:=X5.out.2.2.2.1 1 _ rfl
  have y2:=X5.out.2.2.2.1 2 _ rfl
  have y3:=X5.out.2.2.2.1 3 _ rfl
  have y4:=X5.out.2.2.2.1 4 _ rfl
  have y5:=X5.out.2.2.2.1 5 _ rfl
  have y6:=X5.out.2.2.2.1 6 _ rfl
  have y7:=X5.out.2.2.2.1 7 _ rfl
  have y8:=X5.out.2.2.2.1 8 _ rfl
  have y9:=X5.out.2.2.2.1 9 _ rfl
  have y10:=X5.out.2.2.2.1 10 _ rfl
  have y11:=X5.out.2.2.2.1 11 _ rfl
  have y12:=X5.out.2.2.2.1 12 _ rfl
  have y13:=X5.out.2.2.2.1 13 _ rfl
  have gz:=X5.out.2.2.2.2.1
  go_wp2
  refine bodyPost_ret (v:=.agg #[Ii Jj v,Ii Jj x.k,Ii Jj x.i,Ii Jj x.t,Ii Jj x.m,Ii Jj x.r,Ii Jj o.id,Ii Jj o.src,Ii Jj o.dst,Ii Jj o.amount,Ii Jj o.first,Ii Jj o.every,Ii Jj o.times,Ii Jj n]) (by simp[results,Tryz.results8,go_sem,r0,r1,r2,r3,r4,r5,r6,r7,r8,r9,r10,r11,r12,r13]) rfl ⟨v,n,x,o,rfl,?_⟩
  rw[HH.out]
  repeat (refine ak ?_ (by omega) _ _)
  exact X5.out.2.1
theorem tq (a:Option Addr) (len cap:Nat) (w:World) (hc:Code w a len):
  Calls Pg 15 #[Sl a len cap] w fun e w'=>∃s:ByteArray,e=.returned (.string s)/\s.size<=10001/\Below w.heap.size w w':=by
 have HC:Hid (Code w a len):=hc
 clear hc
 go_enter Tryz.func15,Tryz.ntmps15
 go_wp2_with fail
 refine (iP a len cap _ HC.out.1 HC.out.2).mono ?_
 rintro e w1 ⟨rfl,R1,B1⟩
 have X1:Hid (Rd w1 w.heap.size a len cap/\Below w.heap.size w w1):=⟨R1,B1⟩
 clear R1 B1
 go_wp2_with fail
 refine (oF w.heap.size a len cap 10 _ X1.out.1 (by omega) (by omega)).mono ?_
 rintro e w2 ⟨k,L,O,v,u,rfl,l2,o2,A2,Q2,R2,S2⟩
 obtain ⟨a1,c1,hv⟩:=A2.len
 subst hv
 obtain ⟨b1,d1,hv⟩:=Q2.len
 subst hv
 have X2:Hid (Rd w2 w.heap.size a len cap/\Below w.heap.size w w2):=⟨R2,X1.out.2.trans (S2.below (Nat.le_of_lt X1.out.1.2.2.2.1))⟩
 obtain ⟨t,ht,hz⟩:=tk k L O
 have C:Hid (∀W,Below w2.heap.size w2 W->Calls Pg 11 #[.agg #[Ii Jj k.day,Sl a1 L.length c1,Sl b1 O.length d1,Ii Jj k.inn,Ii Jj k.out,Ii Jj k.posted,Ii Jj k.missed]] W fun e w'=>e=.returned (.string t)/\Below W.heap.size W w'):=fun W hb=>jx a1 b1 L.length c1 O.length d1 (FL L) (ai O) k W ((A2.fo (by omega)).2.below hb) ((Q2.list (by omega)).2.below hb) t ht
 clear A2 Q2 R2 S2 X1 l2 o2 ht
 go_wp2_with fail
 refine (C.out _ (Below.refl _ _)).mono ?_
 rintro e w3 ⟨rfl,B3⟩
 have X3:Hid (Rd w3 w.heap.size a len cap/\Below w.heap.size w w3):=⟨X2.out.1.same (B3.mono (by have:=X2.out.1.2.2.2.1;omega)),X2.out.2.trans (B3.mono X2.out.2.size)⟩
 clear B3 X2 C
 go_wp2_with fail
 refine (oG w.heap.size a len cap t _ X3.out.1 (by omega)).mono ?_
 rintro e w4 ⟨y,rfl,hy,R4,S4⟩
 have X4:Hid (y.size<=10001/\Below w.heap.size w w4):=⟨hy,X3.out.2.trans (S4.below (Nat.le_of_lt X3.out.1.2.2.2.1))⟩
 clear R4 S4 X3 hz
 go_wp2
 go_ret
 exact ⟨_,rfl,X4.out.1,X4.out.2⟩
theorem rT (a:Option Addr) (len cap:Nat) (w:World) (hc:Code w a len):
  Calls Pg 17 #[Sl a len cap] w fun e w'=>∃s:ByteArray,e=.returned (.string s)/\s.size<=10001/\Below w.heap.size w w':=by
 have HC:Hid (Code w a len):=hc
 clear hc
 go_enter Tryz.func17,Tryz.ntmps17
 go_wp2_with fail
 refine (iP a len cap _ HC.out.1 HC.out.2).mono ?_
 rintro e w1 ⟨rfl,R1,B1⟩
 have X1:Hid (Rd w1 w.heap.size a len cap/\Below w.heap.size w w1):=⟨R1,B1⟩
 clear R1 B1
 go_wp2_with fail
 refine (lf w.heap.size a len cap _ X1.out.1).mono ?_
 rintro e w2 ⟨K,n,x,o,rfl,R2,S2⟩
 have X2:Hid (Rd w2 w.heap.size a len cap/\Below w.heap.size w w2):=⟨R2,X1.out.2.trans (S2.below (Nat.le_of_lt X1.out.1.2.2.2.1))⟩
 have hz:=jY K n x o
 obtain ⟨t,ht⟩:∃t,dI K x o n=t:=⟨_,rfl⟩
 rw[ht] at hz
 have C:Hid (∀W,Calls Pg 14 #[.agg #[Ii Jj K,Ii Jj x.k,Ii Jj x.i,Ii Jj x.t,Ii Jj x.m,Ii Jj x.r,Ii Jj o.id,Ii Jj o.src,Ii Jj o.dst,Ii Jj o.amount,Ii Jj o.first,Ii Jj o.every,Ii Jj o.times,Ii Jj n]] W fun e w'=>e=.returned (.string t)/\Below W.heap.size W w'):=fun W=>by rw[←ht];exact ln K n x o W
 clear R2 S2 X1 ht
 go_wp2_with fail
 refine (C.out _).mono ?_
 rintro e w3 ⟨rfl,B3⟩
 have X3:Hid (Rd w3 w.heap.size a len cap/\Below w.heap.size w w3):=⟨X2.out.1.same (B3.mono (by have:=X2.out.1.2.2.2.1;omega)),X2.out.2.trans (B3.mono X2.out.2.size)⟩
 clear B3 X2 C
 go_wp2_with fail
 refine (oG w.heap.size a len cap t _ X3.out.1 (by omega)).mono ?_
 rintro e w4 ⟨y,rfl,hy,R4,S4⟩
 have X4:Hid (y.size<=10001/\Below w.heap.size w w4):=⟨hy,X3.out.2.trans (S4.below (Nat.le_of_lt X3.out.1.2.2.2.1))⟩
 clear R4 S4 X3 hz
 go_wp2
 go_ret
 exact ⟨_,rfl,X4.out.1,X4.out.2⟩
end Go.Proofs.YtjhgchlfpolkcaaGreatDoor
