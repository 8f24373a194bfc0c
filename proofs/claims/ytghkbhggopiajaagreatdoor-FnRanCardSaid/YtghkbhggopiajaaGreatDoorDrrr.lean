/- The draw of a bank and an op. -/
import Derived.Test.YtghkbhggopiajaaGreatDoorRdbr
import Derived.Test.YtghkbhggopiajaaGreatDoorSmbr
import Derived.Test.YtghkbhggopiajaaGreatDoorDrawsr
namespace Go.Proofs.YtghkbhggopiajaaGreatDoor
open Go.RowKit
set_option maxRecDepth 8000
theorem Code.below {w w':World} {a:Option Addr} {len:Nat} (h:Code w a len) (hb:Below w.heap.size w w'):Code w' a len:=⟨h.1,fun i hi=>by
 obtain ⟨b,off,z,e,hlt,hc,h1,h2⟩:=h.2 i hi
 exact ⟨b,off,z,e,Nat.lt_of_lt_of_le hlt hb.size,(hb.cell (p:=⟨b,off+i,none⟩) hlt).trans hc,h1,h2⟩⟩
theorem Box7.nms {V:World} {r:Nat} {v0 v1 v2 v3 v4 v5 v6:Value} (h:Box7 V r v0 v1 v2 v3 v4 v5 v6):Nms r 0 [v0,v1,v2,v3,v4,v5,v6] V:=⟨h.2.2,fun i y hi=>by
 match i,hi with
 | 0,hi=>simp at hi;subst hi;simpa using h.1.1
 | 1,hi=>simp at hi;subst hi;simpa using h.1.2.1
 | 2,hi=>simp at hi;subst hi;simpa using h.1.2.2.1
 | 3,hi=>simp at hi;subst hi;simpa using h.1.2.2.2.1
 | 4,hi=>simp at hi;subst hi;simpa using h.1.2.2.2.2.1
 | 5,hi=>simp at hi;subst hi;simpa using h.1.2.2.2.2.2.1
 | 6,hi=>simp at hi;subst hi;simpa using h.1.2.2.2.2.2.2
⟩
theorem Vals.nms {V:World} {r:Nat} {l:List Value} (h:Vals V r l):Nms r 0 l V:=⟨h.2.2,fun i y hi=>by simpa using h.1 i y hi⟩
set_option maxHeartbeats 8000000 in
theorem drawRan (a:Option Addr) (len cap:Nat) (w:World) (hc:Code w a len):
  Calls Tryz.prog 28 #[.slice a len cap] w fun e w'=>∃(k:Bk) (L:List Acc) (O:List Ord) (v u:Value) (K n:Int) (x:OpF) (o:Ord),e=.returned (.tuple #[.agg #[.int .i64 k.day,v,u,.int .i64 k.inn,.int .i64 k.out,.int .i64 k.posted,.int .i64 k.missed],.agg #[.int .i64 K,.int .i64 x.k,.int .i64 x.i,.int .i64 x.t,.int .i64 x.m,.int .i64 x.r,.int .i64 o.id,.int .i64 o.src,.int .i64 o.dst,.int .i64 o.amount,.int .i64 o.first,.int .i64 o.every,.int .i64 o.times,.int .i64 n]])/\L.length<=12/\O.length<=8/\AL w' w.heap.size v L/\OrdL w' w.heap.size u O/\Below w.heap.size w w':=by
 have HC:=hidOf hc
 obtain ⟨h,hh⟩:∃h,w.heap.size=h:=⟨_,rfl⟩
 have HH:=hidOf hh
 obtain ⟨W0,hW0,X0⟩:∃W0,W0=(w.alloc (.cells #[.int .i64 0,.slice none 0 0,.slice none 0 0,.int .i64 0,.int .i64 0,.int .i64 0,.int .i64 0] 38)).alloc (.cells ([.int .i64 0,.int .i64 0,.int .i64 0,.int .i64 0,.int .i64 0,.int .i64 0,.int .i64 0,.int .i64 0,.int .i64 0,.int .i64 0,.int .i64 0,.int .i64 0,.int .i64 0,.int .i64 0]:List Value).toArray 51)/\Hid (Box7 W0 h (.int .i64 0) (.slice none 0 0) (.slice none 0 0) (.int .i64 0) (.int .i64 0) (.int .i64 0) (.int .i64 0)/\Vals W0 (h+1) [.int .i64 0,.int .i64 0,.int .i64 0,.int .i64 0,.int .i64 0,.int .i64 0,.int .i64 0,.int .i64 0,.int .i64 0,.int .i64 0,.int .i64 0,.int .i64 0,.int .i64 0,.int .i64 0]/\Below h w W0/\W0.heap.size=h+2/\Code W0 a len):=by
  have bA:∀(V:World) (o:Obj),Below V.heap.size V (V.alloc o):=fun V o=>(Below.refl _ _).alloc (Nat.le_refl _) _
  have v0:=(Box7.new w (.int .i64 0) (.slice none 0 0) (.slice none 0 0) (.int .i64 0) (.int .i64 0) (.int .i64 0) (.int .i64 0) 38).kept (bA _ (.cells ([.int .i64 0,.int .i64 0,.int .i64 0,.int .i64 0,.int .i64 0,.int .i64 0,.int .i64 0,.int .i64 0,.int .i64 0,.int .i64 0,.int .i64 0,.int .i64 0,.int .i64 0,.int .i64 0]:List Value).toArray 51)) (by simp)
  have v1:=Vals.new (w.alloc (.cells #[.int .i64 0,.slice none 0 0,.slice none 0 0,.int .i64 0,.int .i64 0,.int .i64 0,.int .i64 0] 38)) [.int .i64 0,.int .i64 0,.int .i64 0,.int .i64 0,.int .i64 0,.int .i64 0,.int .i64 0,.int .i64 0,.int .i64 0,.int .i64 0,.int .i64 0,.int .i64 0,.int .i64 0,.int .i64 0] 51
  simp only[World.size_alloc] at v1
  rw[hh] at v0 v1
  have bb:Below w.heap.size w ((w.alloc (.cells #[.int .i64 0,.slice none 0 0,.slice none 0 0,.int .i64 0,.int .i64 0,.int .i64 0,.int .i64 0] 38)).alloc (.cells ([.int .i64 0,.int .i64 0,.int .i64 0,.int .i64 0,.int .i64 0,.int .i64 0,.int .i64 0,.int .i64 0,.int .i64 0,.int .i64 0,.int .i64 0,.int .i64 0,.int .i64 0,.int .i64 0]:List Value).toArray 51)):=((Below.refl _ _).alloc (Nat.le_refl _) _).alloc (by simp) _
  exact ⟨_,rfl,v0,v1,by rw[←hh];exact bb,by simp[hh],Code.below hc bb⟩
 have HW0:Hid (W0=(w.alloc (.cells #[.int .i64 0,.slice none 0 0,.slice none 0 0,.int .i64 0,.int .i64 0,.int .i64 0,.int .i64 0] 38)).alloc (.cells #[.int .i64 0,.int .i64 0,.int .i64 0,.int .i64 0,.int .i64 0,.int .i64 0,.int .i64 0,.int .i64 0,.int .i64 0,.int .i64 0,.int .i64 0,.int .i64 0,.int .i64 0,.int .i64 0] 51)):=hW0
 clear hW0 hc
 go_enter Tryz.func28,Tryz.ntmps28
 go_upto_region 1 with fail
 rw[←HW0.out]
 try rw[hh]
 clear HW0 hh
 go_wp2_with fail
 refine (rd_open a len cap _ X0.out.2.2.2.2.1 X0.out.2.2.2.2.2).mono ?_
 rintro e w1 ⟨rfl,R1,B1⟩
 rw[X0.out.2.2.2.1] at R1
 have X1:Hid (Box7 w1 h (.int .i64 0) (.slice none 0 0) (.slice none 0 0) (.int .i64 0) (.int .i64 0) (.int .i64 0) (.int .i64 0)/\Vals w1 (h+1) [.int .i64 0,.int .i64 0,.int .i64 0,.int .i64 0,.int .i64 0,.int .i64 0,.int .i64 0,.int .i64 0,.int .i64 0,.int .i64 0,.int .i64 0,.int .i64 0,.int .i64 0,.int .i64 0]/\Below h w w1/\Rd w1 (h+2) a len cap):=⟨X0.out.1.kept B1 X0.out.1.2.2,X0.out.2.1.kept B1 X0.out.2.1.2.2,X0.out.2.2.1.trans (B1.mono (by have:=X0.out.2.2.2.1;omega)),R1⟩
 try rw[X0.out.2.2.2.1]
 clear R1 B1 X0
 go_wp2_with fail
 refine (rd_bank (h+2) a len cap 14 _ X1.out.2.2.2 (by omega) (by omega)).mono ?_
 rintro e w2 ⟨k,L,O,v,u,rfl,l2,o2,A2,Q2,R2,S2⟩
 have HL:Hid (L.length<=12/\O.length<=8):=⟨l2,o2⟩
 obtain ⟨a1,c1,hv⟩:=A2.len
 subst hv
 obtain ⟨b1,d1,hv⟩:=Q2.len
 subst hv
 obtain ⟨m1,hm1⟩:∃m,L.length=m:=⟨_,rfl⟩
 obtain ⟨m2,hm2⟩:∃m,O.length=m:=⟨_,rfl⟩
 rw[hm1] at A2
 rw[hm2] at Q2
 simp only[hm1,hm2]
 obtain ⟨V2,hV2,X2⟩:∃V,V=w2.alloc (.cells #[.int .i64 k.day,(.slice a1 m1 c1),(.slice b1 m2 d1),.int .i64 k.inn,.int .i64 k.out,.int .i64 k.posted,.int .i64 k.missed] 38)/\Hid (Box7 V h (.int .i64 0) (.slice none 0 0) (.slice none 0 0) (.int .i64 0) (.int .i64 0) (.int .i64 0) (.int .i64 0)/\Vals V (h+1) [.int .i64 0,.int .i64 0,.int .i64 0,.int .i64 0,.int .i64 0,.int .i64 0,.int .i64 0,.int .i64 0,.int .i64 0,.int .i64 0,.int .i64 0,.int .i64 0,.int .i64 0,.int .i64 0]/\(AL V (h+3) (.slice a1 m1 c1) L/\OrdL V (h+3) (.slice b1 m2 d1) O)/\Below h w V/\Rd V (h+2) a len cap/\Box7 V w2.heap.size (.int .i64 k.day) (.slice a1 m1 c1) (.slice b1 m2 d1) (.int .i64 k.inn) (.int .i64 k.out) (.int .i64 k.posted) (.int .i64 k.missed)/\h+3<=w2.heap.size):=by
  have hb:Below w2.heap.size w2 (w2.alloc (.cells #[.int .i64 k.day,(.slice a1 m1 c1),(.slice b1 m2 d1),.int .i64 k.inn,.int .i64 k.out,.int .i64 k.posted,.int .i64 k.missed] 38)):=(Below.refl _ _).alloc (Nat.le_refl _) _
  have z1:=X1.out.2.2.2.2.2.2.1
  have z2:=S2.size
  have b2:Below (h+2) w1 w2:=S2.below (by omega)
  exact ⟨_,rfl,(X1.out.1.kept b2 (by omega)).kept hb (by omega),(X1.out.2.1.kept b2 (by omega)).kept hb (by omega),⟨(A2.kept hb).mono (by omega),(Q2.kept hb).mono (by omega)⟩,(X1.out.2.2.1.trans (b2.mono (by omega))).trans (hb.mono (by omega)),R2.alloc _,Box7.new w2 _ _ _ _ _ _ _ 38,by omega⟩
 have HV2:=hidOf hV2
 clear hV2 l2 o2 A2 Q2 R2 S2 X1 hm1 hm2
 go_upto_region 3 with fail
 rw[←HV2.out]
 obtain ⟨r5,hr5⟩:∃r,w2.heap.size=r:=⟨_,rfl⟩
 rw[hr5] at X2
 try rw[hr5]
 clear HV2 hr5
 go_wp2_with fail
 refine (rd_bop (h+2) a len cap _ X2.out.2.2.2.2.1).mono ?_
 rintro e w3 ⟨K,n,x,o,rfl,R3,S3⟩
 obtain ⟨V3,hV3,X3⟩:∃V,V=w3.alloc (.cells #[.int .i64 K,.int .i64 x.k,.int .i64 x.i,.int .i64 x.t,.int .i64 x.m,.int .i64 x.r,.int .i64 o.id,.int .i64 o.src,.int .i64 o.dst,.int .i64 o.amount,.int .i64 o.first,.int .i64 o.every,.int .i64 o.times,.int .i64 n] 51)/\Hid ((Box7 V h (.int .i64 0) (.slice none 0 0) (.slice none 0 0) (.int .i64 0) (.int .i64 0) (.int .i64 0) (.int .i64 0)/\Vals V (h+1) [.int .i64 0,.int .i64 0,.int .i64 0,.int .i64 0,.int .i64 0,.int .i64 0,.int .i64 0,.int .i64 0,.int .i64 0,.int .i64 0,.int .i64 0,.int .i64 0,.int .i64 0,.int .i64 0]/\(AL V (h+3) (.slice a1 m1 c1) L/\OrdL V (h+3) (.slice b1 m2 d1) O)/\Below h w V/\Rd V (h+2) a len cap/\Box7 V r5 (.int .i64 k.day) (.slice a1 m1 c1) (.slice b1 m2 d1) (.int .i64 k.inn) (.int .i64 k.out) (.int .i64 k.posted) (.int .i64 k.missed))/\Vals V w3.heap.size [.int .i64 K,.int .i64 x.k,.int .i64 x.i,.int .i64 x.t,.int .i64 x.m,.int .i64 x.r,.int .i64 o.id,.int .i64 o.src,.int .i64 o.dst,.int .i64 o.amount,.int .i64 o.first,.int .i64 o.every,.int .i64 o.times,.int .i64 n]/\h+3<=r5/\r5<w3.heap.size):=by
  have hb:Below w3.heap.size w3 (w3.alloc (.cells #[.int .i64 K,.int .i64 x.k,.int .i64 x.i,.int .i64 x.t,.int .i64 x.m,.int .i64 x.r,.int .i64 o.id,.int .i64 o.src,.int .i64 o.dst,.int .i64 o.amount,.int .i64 o.first,.int .i64 o.every,.int .i64 o.times,.int .i64 n] 51)):=(Below.refl _ _).alloc (Nat.le_refl _) _
  have z1:=X2.out.2.2.2.2.2.1.2.2
  have z2:=S3.size
  have z3:=X2.out.2.2.2.2.2.2
  exact ⟨_,rfl,⟨(X2.out.1.stp S3 (by omega)).kept hb (by omega),(X2.out.2.1.stp S3 (by omega)).kept hb (by omega),⟨(X2.out.2.2.1.1.stp S3 (by omega)).kept hb,(X2.out.2.2.1.2.stp S3 (by omega)).kept hb⟩,(X2.out.2.2.2.1.trans ((S3.below (by omega)).mono (by omega))).trans (hb.mono (by omega)),R3.alloc _,(X2.out.2.2.2.2.2.1.stp S3 (by omega)).kept hb (by omega)⟩,Vals.new w3 [.int .i64 K,.int .i64 x.k,.int .i64 x.i,.int .i64 x.t,.int .i64 x.m,.int .i64 x.r,.int .i64 o.id,.int .i64 o.src,.int .i64 o.dst,.int .i64 o.amount,.int .i64 o.first,.int .i64 o.every,.int .i64 o.times,.int .i64 n] 51,z3,by omega⟩
 have HV3:=hidOf hV3
 have HB6a:(∀q,(Value.slice a1 m1 c1).ownBlock=some q->q≠w3.heap.size)/\(∀q,(Value.slice b1 m2 d1).ownBlock=some q->q≠w3.heap.size):=⟨fun q hq=>by have:=(World.ownsRow.lt X2.out.2.2.1.1 q hq).2;have:=S3.size;omega,fun q hq=>by have:=(World.ownsRow.lt X2.out.2.2.1.2 q hq).2;have:=S3.size;omega⟩
 clear hV3 R3 S3 X2
 go_upto_region 4 with fail
 rw[←HV3.out]
 obtain ⟨r6,hr6⟩:∃r,w3.heap.size=r:=⟨_,rfl⟩
 rw[hr6] at X3 HB6a
 try rw[hr6]
 clear HV3 hr6
 have h35:h+3<=r5:=X3.out.2.2.1
 have HB6:=hidOf HB6a
 clear HB6a
 have h56:r5<r6:=X3.out.2.2.2
 go_wp2_with fail
 refine (rd_once (h+2) a len cap 24 _ X3.out.1.2.2.2.2.1 (by omega) (by omega)).mono ?_
 rintro e w4 ⟨bo,rfl,R4,S4⟩
 have X4:Hid ((Box7 w4 h (.int .i64 0) (.slice none 0 0) (.slice none 0 0) (.int .i64 0) (.int .i64 0) (.int .i64 0) (.int .i64 0)/\Vals w4 (h+1) [.int .i64 0,.int .i64 0,.int .i64 0,.int .i64 0,.int .i64 0,.int .i64 0,.int .i64 0,.int .i64 0,.int .i64 0,.int .i64 0,.int .i64 0,.int .i64 0,.int .i64 0,.int .i64 0]/\(AL w4 (h+3) (.slice a1 m1 c1) L/\OrdL w4 (h+3) (.slice b1 m2 d1) O)/\Below h w w4/\Rd w4 (h+2) a len cap/\Box7 w4 r5 (.int .i64 k.day) (.slice a1 m1 c1) (.slice b1 m2 d1) (.int .i64 k.inn) (.int .i64 k.out) (.int .i64 k.posted) (.int .i64 k.missed))/\Vals w4 r6 [.int .i64 K,.int .i64 x.k,.int .i64 x.i,.int .i64 x.t,.int .i64 x.m,.int .i64 x.r,.int .i64 o.id,.int .i64 o.src,.int .i64 o.dst,.int .i64 o.amount,.int .i64 o.first,.int .i64 o.every,.int .i64 o.times,.int .i64 n]):=⟨⟨X3.out.1.1.stp S4 (by omega),X3.out.1.2.1.stp S4 (by omega),⟨X3.out.1.2.2.1.1.stp S4 (by omega),X3.out.1.2.2.1.2.stp S4 (by omega)⟩,X3.out.1.2.2.2.1.trans ((S4.below (by have:=X3.out.1.2.2.2.2.2.2.2;omega)).mono (by omega)),R4,X3.out.1.2.2.2.2.2.stp S4 (by omega)⟩,X3.out.2.1.stp S4 (by omega)⟩
 clear R4 S4 X3
 cases bo with
 | false=>
  obtain ⟨WE,hWE⟩:∃W,W=w4:=⟨_,rfl⟩
  subst hWE
  have XE:Hid (Box7 WE h (.int .i64 0) (.slice none 0 0) (.slice none 0 0) (.int .i64 0) (.int .i64 0) (.int .i64 0) (.int .i64 0)/\Vals WE (h+1) [.int .i64 0,.int .i64 0,.int .i64 0,.int .i64 0,.int .i64 0,.int .i64 0,.int .i64 0,.int .i64 0,.int .i64 0,.int .i64 0,.int .i64 0,.int .i64 0,.int .i64 0,.int .i64 0]/\(AL WE (h+1+1) (.slice a1 m1 c1) L/\OrdL WE (h+1+1) (.slice b1 m2 d1) O)/\Below h w WE/\Nms r5 0 [.int .i64 k.day,(.slice a1 m1 c1),(.slice b1 m2 d1),.int .i64 k.inn,.int .i64 k.out,.int .i64 k.posted,.int .i64 k.missed] WE/\Nms r6 0 [.int .i64 K,.int .i64 x.k,.int .i64 x.i,.int .i64 x.t,.int .i64 x.m,.int .i64 x.r,.int .i64 o.id,.int .i64 o.src,.int .i64 o.dst,.int .i64 o.amount,.int .i64 o.first,.int .i64 o.every,.int .i64 o.times,.int .i64 n] WE):=⟨X4.out.1.1,X4.out.1.2.1,⟨X4.out.1.2.2.1.1.mono (by omega),X4.out.1.2.2.1.2.mono (by omega)⟩,X4.out.1.2.2.2.1,Box7.nms X4.out.1.2.2.2.2.2,Vals.nms X4.out.2⟩
  clear X4
  have HS:Hid (Nms r5 0 [.int .i64 k.day,(.slice a1 m1 c1),(.slice b1 m2 d1),.int .i64 k.inn,.int .i64 k.out,.int .i64 k.posted,.int .i64 k.missed] WE.drew/\Nms r6 0 [.int .i64 K,.int .i64 x.k,.int .i64 x.i,.int .i64 x.t,.int .i64 x.m,.int .i64 x.r,.int .i64 o.id,.int .i64 o.src,.int .i64 o.dst,.int .i64 o.amount,.int .i64 o.first,.int .i64 o.every,.int .i64 o.times,.int .i64 n] WE.drew):=XE.out.2.2.2.2
  go_upto_region 6 with fail
  refine wp_region_held_drew (S:=fun V=>Nms r5 0 [.int .i64 k.day,(.slice a1 m1 c1),(.slice b1 m2 d1),.int .i64 k.inn,.int .i64 k.out,.int .i64 k.posted,.int .i64 k.missed] V/\Nms r6 0 [.int .i64 K,.int .i64 x.k,.int .i64 x.i,.int .i64 x.t,.int .i64 x.m,.int .i64 x.r,.int .i64 o.id,.int .i64 o.src,.int .i64 o.dst,.int .i64 o.amount,.int .i64 o.first,.int .i64 o.every,.int .i64 o.times,.int .i64 n] V) (by kernel_rfl) HS.out (fun hHeld=>?_)
  clear HS
  have XD:Hid (Box7 WE.drew h (.int .i64 0) (.slice none 0 0) (.slice none 0 0) (.int .i64 0) (.int .i64 0) (.int .i64 0) (.int .i64 0)/\Vals WE.drew (h+1) [.int .i64 0,.int .i64 0,.int .i64 0,.int .i64 0,.int .i64 0,.int .i64 0,.int .i64 0,.int .i64 0,.int .i64 0,.int .i64 0,.int .i64 0,.int .i64 0,.int .i64 0,.int .i64 0]/\(AL WE.drew (h+1+1) (.slice a1 m1 c1) L/\OrdL WE.drew (h+1+1) (.slice b1 m2 d1) O)/\Below h w WE.drew):=⟨XE.out.1,XE.out.2.1,XE.out.2.2.1,XE.out.2.2.2.1.drew⟩
  clear XE
  generalize WE.drew=wd at XD hHeld ⊢
  refine wpAnyH_take (i := 0) (oi := { dst := some 18, op := Op.load 38 (Operand.tmp 5), type := 38, pos := "l05_banks.go:265", after := #[], guard := none }) (v := ?_) rfl (by kernel_rfl) (by kernel_rfl) (by kernel_rfl) (fun _ _ _ h => h) (Or.inl ⟨by rfl, ?_⟩) hHeld ?_
  rotate_left
  ·intro wq hSw
   have y0:=hSw.1.2 0 _ rfl
   have y1:=hSw.1.2 1 _ rfl
   have y2:=hSw.1.2 2 _ rfl
   have y3:=hSw.1.2 3 _ rfl
   have y4:=hSw.1.2 4 _ rfl
   have y5:=hSw.1.2 5 _ rfl
   have y6:=hSw.1.2 6 _ rfl
   simp only[Nat.zero_add] at y0 y1 y2 y3 y4 y5 y6
   go_simp
   all_goals (with_reducible rfl)
  (try simp only[Act.put,List.setIfInBounds_toArray,List.set_cons_zero,List.set_cons_succ])
  refine wpAnyH_take (i := 1) (oi := { dst := some 19, op := Op.load 51 (Operand.tmp 6), type := 51, pos := "l05_banks.go:265", after := #[{ on := 2, ground := Ground.gcOnly Departure.lateStores }], guard := none }) (v := ?_) rfl (by kernel_rfl) (by kernel_rfl) (by kernel_rfl) (fun _ _ _ h => h) (Or.inl ⟨by rfl, ?_⟩) hHeld ?_
  rotate_left
  ·intro wq hSw
   have y0:=hSw.2.2 0 _ rfl
   have y1:=hSw.2.2 1 _ rfl
   have y2:=hSw.2.2 2 _ rfl
   have y3:=hSw.2.2 3 _ rfl
   have y4:=hSw.2.2 4 _ rfl
   have y5:=hSw.2.2 5 _ rfl
   have y6:=hSw.2.2 6 _ rfl
   have y7:=hSw.2.2 7 _ rfl
   have y8:=hSw.2.2 8 _ rfl
   have y9:=hSw.2.2 9 _ rfl
   have y10:=hSw.2.2 10 _ rfl
   have y11:=hSw.2.2 11 _ rfl
   have y12:=hSw.2.2 12 _ rfl
   have y13:=hSw.2.2 13 _ rfl
   simp only[Nat.zero_add] at y0 y1 y2 y3 y4 y5 y6 y7 y8 y9 y10 y11 y12 y13
   go_simp
   all_goals (with_reducible rfl)
  (try simp only[Act.put,List.setIfInBounds_toArray,List.set_cons_zero,List.set_cons_succ])
  refine wpAnyH_ready (rs:=[2]) (by kernel_rfl) (by simp) ?_
  refine AllReadyH.cons (o := { dst := none, op := Op.store 38 (Operand.tmp 2) (Operand.tmp 18), type := 0, pos := "l05_banks.go:265", after := #[{ on := 0, ground := Ground.data }, { on := 0, ground := Ground.phase }, { on := 1, ground := Ground.textOnly Departure.lateStores }], guard := none }) rfl (fun K' hK => ?_) AllReadyH.nil
  obtain ⟨⟨s0,s1,s2,s3,s4,s5,s6⟩,sf,sz⟩:=XD.out.1
  go_simp
  refine hK.out _ _ ?_ (fun hHeld=>?_)
  ·have hne:h≠r5:=by omega
   have hne':h≠r6:=by omega
   exact ⟨((((((hHeld.1.set hne _ _).set hne _ _).set hne _ _).set hne _ _).set hne _ _).set hne _ _).set hne _ _,((((((hHeld.2.set hne' _ _).set hne' _ _).set hne' _ _).set hne' _ _).set hne' _ _).set hne' _ _).set hne' _ _⟩
  clear hK
  clear s0 s1 s2 s3 s4 s5 s6 sf sz
  (try simp only[Act.put,List.setIfInBounds_toArray,List.set_cons_zero,List.set_cons_succ])
  obtain ⟨v1,hv1,X1⟩:∃V,V=set7 wd h k (.slice a1 m1 c1) (.slice b1 m2 d1)/\Hid (Box7 V h (.int .i64 k.day) (.slice a1 m1 c1) (.slice b1 m2 d1) (.int .i64 k.inn) (.int .i64 k.out) (.int .i64 k.posted) (.int .i64 k.missed)/\Vals V (h+1) [.int .i64 0,.int .i64 0,.int .i64 0,.int .i64 0,.int .i64 0,.int .i64 0,.int .i64 0,.int .i64 0,.int .i64 0,.int .i64 0,.int .i64 0,.int .i64 0,.int .i64 0,.int .i64 0]/\(AL V (h+1+1) (.slice a1 m1 c1) L/\OrdL V (h+1+1) (.slice b1 m2 d1) O)/\Below h w V):=by
   have g:=grown7 wd h k (.slice a1 m1 c1) (.slice b1 m2 d1)
   refine ⟨_,rfl,(((((((XD.out.1.set0 _).set1 _).set2 _).set3 _).set4 _).set5 _).set6 _),?_,⟨row_away XD.out.2.2.1.1 g (fun q hq=>by have:=(World.ownsRow.lt XD.out.2.2.1.1 q hq).1;omega),row_away XD.out.2.2.1.2 g (fun q hq=>by have:=(World.ownsRow.lt XD.out.2.2.1.2 q hq).1;omega)⟩,XD.out.2.2.2.grown g (by have:=XD.out.1.2.2;omega) (fun q hq=>by simp at hq;omega)⟩
   unfold set7
   exact (((((((XD.out.2.1.far (by omega) _ _).far (by omega) _ _).far (by omega) _ _).far (by omega) _ _).far (by omega) _ _).far (by omega) _ _).far (by omega) _ _)
  have HV1:Hid (v1=((((((wd.setCell ⟨h,0,none⟩ (.int .i64 k.day)).setCell ⟨h,1,none⟩ ((.slice a1 m1 c1))).setCell ⟨h,2,none⟩ ((.slice b1 m2 d1))).setCell ⟨h,3,none⟩ (.int .i64 k.inn)).setCell ⟨h,4,none⟩ (.int .i64 k.out)).setCell ⟨h,5,none⟩ (.int .i64 k.posted)).setCell ⟨h,6,none⟩ (.int .i64 k.missed)):=hv1
  rw[←HV1.out] at hHeld
  rw[←HV1.out]
  clear hv1 HV1 XD
  refine wpAnyH_ready (rs:=[3]) (by kernel_rfl) (by simp) ?_
  refine AllReadyH.cons (o := { dst := none, op := Op.store 51 (Operand.tmp 3) (Operand.tmp 19), type := 0, pos := "l05_banks.go:265", after := #[{ on := 1, ground := Ground.data }, { on := 2, ground := Ground.chain }, { on := 0, ground := Ground.phase }, { on := 1, ground := Ground.phase }, { on := 2, ground := Ground.phase }], guard := none }) rfl (fun K' hK => ?_) AllReadyH.nil
  have r0':=X1.out.2.1.1 0 _ rfl
  have r1':=X1.out.2.1.1 1 _ rfl
  have r2':=X1.out.2.1.1 2 _ rfl
  have r3':=X1.out.2.1.1 3 _ rfl
  have r4':=X1.out.2.1.1 4 _ rfl
  have r5':=X1.out.2.1.1 5 _ rfl
  have r6':=X1.out.2.1.1 6 _ rfl
  have r7':=X1.out.2.1.1 7 _ rfl
  have r8':=X1.out.2.1.1 8 _ rfl
  have r9':=X1.out.2.1.1 9 _ rfl
  have r10':=X1.out.2.1.1 10 _ rfl
  have r11':=X1.out.2.1.1 11 _ rfl
  have r12':=X1.out.2.1.1 12 _ rfl
  have r13':=X1.out.2.1.1 13 _ rfl
  have fz:=X1.out.2.1.2.1
  go_simp
  refine hK.out _ _ ?_ (fun hHeld=>?_)
  ·have hne:h+1≠r5:=by omega
   have hne':h+1≠r6:=by omega
   exact ⟨(((((((((((((hHeld.1.set hne _ _).set hne _ _).set hne _ _).set hne _ _).set hne _ _).set hne _ _).set hne _ _).set hne _ _).set hne _ _).set hne _ _).set hne _ _).set hne _ _).set hne _ _).set hne _ _,(((((((((((((hHeld.2.set hne' _ _).set hne' _ _).set hne' _ _).set hne' _ _).set hne' _ _).set hne' _ _).set hne' _ _).set hne' _ _).set hne' _ _).set hne' _ _).set hne' _ _).set hne' _ _).set hne' _ _).set hne' _ _⟩
  clear hK hHeld
  (try simp only[Act.put,List.setIfInBounds_toArray,List.set_cons_zero,List.set_cons_succ])
  refine wpAnyH_done (by kernel_rfl) ?_ _
  obtain ⟨⟨s0,s1,s2,s3,s4,s5,s6⟩,sf,sz⟩:=X1.out.1
  go_wp2
  refine bodyPost_ret (v:=.tuple #[.agg #[.int .i64 k.day,(.slice a1 m1 c1),(.slice b1 m2 d1),.int .i64 k.inn,.int .i64 k.out,.int .i64 k.posted,.int .i64 k.missed],.agg #[.int .i64 K,.int .i64 x.k,.int .i64 x.i,.int .i64 x.t,.int .i64 x.m,.int .i64 x.r,.int .i64 o.id,.int .i64 o.src,.int .i64 o.dst,.int .i64 o.amount,.int .i64 o.first,.int .i64 o.every,.int .i64 o.times,.int .i64 n]]) (by simp[results,Tryz.results28,go_sem,s0,s1,s2,s3,s4,s5,s6,r0',r1',r2',r3',r4',r5',r6',r7',r8',r9',r10',r11',r12',r13']) rfl ⟨k,L,O,_,_,K,n,x,o,rfl,HL.out.1,HL.out.2,?_,?_,?_⟩
  ·rw[HH.out]
   refine AL.mono (B:=h+1+1) ?_ (by omega)
   repeat (refine AL.far ?_ (by omega) _ _)
   exact X1.out.2.2.1.1
  ·rw[HH.out]
   refine OrdL.mono (B:=h+1+1) ?_ (by omega)
   repeat (refine OrdL.far ?_ (by omega) _ _)
   exact X1.out.2.2.1.2
  ·rw[HH.out]
   repeat (refine below_far ?_ (by omega) _ _)
   exact X1.out.2.2.2
 | true=>
  go_wp2_with fail
  refine (rd_off (h+2) a len cap 19 22 _ X4.out.1.2.2.2.2.1 (by omega) (by omega) (by omega)).mono ?_
  rintro e w5 ⟨z,rfl,R5,S5⟩
  have X5:Hid ((Box7 w5 h (.int .i64 0) (.slice none 0 0) (.slice none 0 0) (.int .i64 0) (.int .i64 0) (.int .i64 0) (.int .i64 0)/\Vals w5 (h+1) [.int .i64 0,.int .i64 0,.int .i64 0,.int .i64 0,.int .i64 0,.int .i64 0,.int .i64 0,.int .i64 0,.int .i64 0,.int .i64 0,.int .i64 0,.int .i64 0,.int .i64 0,.int .i64 0]/\(AL w5 (h+3) (.slice a1 m1 c1) L/\OrdL w5 (h+3) (.slice b1 m2 d1) O)/\Below h w w5/\Rd w5 (h+2) a len cap/\Box7 w5 r5 (.int .i64 k.day) (.slice a1 m1 c1) (.slice b1 m2 d1) (.int .i64 k.inn) (.int .i64 k.out) (.int .i64 k.posted) (.int .i64 k.missed))/\Vals w5 r6 [.int .i64 K,.int .i64 x.k,.int .i64 x.i,.int .i64 x.t,.int .i64 x.m,.int .i64 x.r,.int .i64 o.id,.int .i64 o.src,.int .i64 o.dst,.int .i64 o.amount,.int .i64 o.first,.int .i64 o.every,.int .i64 o.times,.int .i64 n]):=⟨⟨X4.out.1.1.stp S5 (by omega),X4.out.1.2.1.stp S5 (by omega),⟨X4.out.1.2.2.1.1.stp S5 (by omega),X4.out.1.2.2.1.2.stp S5 (by omega)⟩,X4.out.1.2.2.2.1.trans ((S5.below (by have:=X4.out.1.2.2.2.2.2.2.2;omega)).mono (by omega)),R5,X4.out.1.2.2.2.2.2.stp S5 (by omega)⟩,X4.out.2.stp S5 (by omega)⟩
  clear R5 S5 X4
  obtain ⟨WE,hWE⟩:∃W,W=w5.setCell ⟨r6,0,none⟩ (.int .i64 z):=⟨_,rfl⟩
  have XE:Hid (Box7 WE h (.int .i64 0) (.slice none 0 0) (.slice none 0 0) (.int .i64 0) (.int .i64 0) (.int .i64 0) (.int .i64 0)/\Vals WE (h+1) [.int .i64 0,.int .i64 0,.int .i64 0,.int .i64 0,.int .i64 0,.int .i64 0,.int .i64 0,.int .i64 0,.int .i64 0,.int .i64 0,.int .i64 0,.int .i64 0,.int .i64 0,.int .i64 0]/\(AL WE (h+1+1) (.slice a1 m1 c1) L/\OrdL WE (h+1+1) (.slice b1 m2 d1) O)/\Below h w WE/\Nms r5 0 [.int .i64 k.day,(.slice a1 m1 c1),(.slice b1 m2 d1),.int .i64 k.inn,.int .i64 k.out,.int .i64 k.posted,.int .i64 k.missed] WE/\Nms r6 0 [.int .i64 z,.int .i64 x.k,.int .i64 x.i,.int .i64 x.t,.int .i64 x.m,.int .i64 x.r,.int .i64 o.id,.int .i64 o.src,.int .i64 o.dst,.int .i64 o.amount,.int .i64 o.first,.int .i64 o.every,.int .i64 o.times,.int .i64 n] WE):=by
   show Box7 WE h (.int .i64 0) (.slice none 0 0) (.slice none 0 0) (.int .i64 0) (.int .i64 0) (.int .i64 0) (.int .i64 0)/\Vals WE (h+1) [.int .i64 0,.int .i64 0,.int .i64 0,.int .i64 0,.int .i64 0,.int .i64 0,.int .i64 0,.int .i64 0,.int .i64 0,.int .i64 0,.int .i64 0,.int .i64 0,.int .i64 0,.int .i64 0]/\(AL WE (h+1+1) (.slice a1 m1 c1) L/\OrdL WE (h+1+1) (.slice b1 m2 d1) O)/\Below h w WE/\Nms r5 0 [.int .i64 k.day,(.slice a1 m1 c1),(.slice b1 m2 d1),.int .i64 k.inn,.int .i64 k.out,.int .i64 k.posted,.int .i64 k.missed] WE/\Nms r6 0 [.int .i64 z,.int .i64 x.k,.int .i64 x.i,.int .i64 x.t,.int .i64 x.m,.int .i64 x.r,.int .i64 o.id,.int .i64 o.src,.int .i64 o.dst,.int .i64 o.amount,.int .i64 o.first,.int .i64 o.every,.int .i64 o.times,.int .i64 n] WE
   rw[hWE]
   exact ⟨X5.out.1.1.far (by omega) _ _,X5.out.1.2.1.far (by omega) _ _,⟨AL.mono (B:=h+3) (World.ownsRow.kept X5.out.1.2.2.1.1 (grown_set1Acc _ _ _ _) (Or.inr (fun e=>HB6.out.1 _ e rfl))) (by omega),OrdL.mono (B:=h+3) (World.ownsRow.kept X5.out.1.2.2.1.2 (grown_set1Acc _ _ _ _) (Or.inr (fun e=>HB6.out.2 _ e rfl))) (by omega)⟩,below_far X5.out.1.2.2.2.1 (by omega) _ _,Box7.nms (X5.out.1.2.2.2.2.2.far (by omega) _ _),Vals.nms (X5.out.2.set 0 (.int .i64 z))⟩
  have q0:=X5.out.2.1 0 _ rfl
  have qf:=X5.out.2.2.1
  have HWE:=hidOf hWE
  clear hWE X5
  go_upto_region 6 with fail
  rw[←HWE.out]
  clear HWE q0 qf
  have HS:Hid (Nms r5 0 [.int .i64 k.day,(.slice a1 m1 c1),(.slice b1 m2 d1),.int .i64 k.inn,.int .i64 k.out,.int .i64 k.posted,.int .i64 k.missed] WE.drew/\Nms r6 0 [.int .i64 z,.int .i64 x.k,.int .i64 x.i,.int .i64 x.t,.int .i64 x.m,.int .i64 x.r,.int .i64 o.id,.int .i64 o.src,.int .i64 o.dst,.int .i64 o.amount,.int .i64 o.first,.int .i64 o.every,.int .i64 o.times,.int .i64 n] WE.drew):=XE.out.2.2.2.2
  refine wp_region_held_drew (S:=fun V=>Nms r5 0 [.int .i64 k.day,(.slice a1 m1 c1),(.slice b1 m2 d1),.int .i64 k.inn,.int .i64 k.out,.int .i64 k.posted,.int .i64 k.missed] V/\Nms r6 0 [.int .i64 z,.int .i64 x.k,.int .i64 x.i,.int .i64 x.t,.int .i64 x.m,.int .i64 x.r,.int .i64 o.id,.int .i64 o.src,.int .i64 o.dst,.int .i64 o.amount,.int .i64 o.first,.int .i64 o.every,.int .i64 o.times,.int .i64 n] V) (by kernel_rfl) HS.out (fun hHeld=>?_)
  clear HS
  have XD:Hid (Box7 WE.drew h (.int .i64 0) (.slice none 0 0) (.slice none 0 0) (.int .i64 0) (.int .i64 0) (.int .i64 0) (.int .i64 0)/\Vals WE.drew (h+1) [.int .i64 0,.int .i64 0,.int .i64 0,.int .i64 0,.int .i64 0,.int .i64 0,.int .i64 0,.int .i64 0,.int .i64 0,.int .i64 0,.int .i64 0,.int .i64 0,.int .i64 0,.int .i64 0]/\(AL WE.drew (h+1+1) (.slice a1 m1 c1) L/\OrdL WE.drew (h+1+1) (.slice b1 m2 d1) O)/\Below h w WE.drew):=⟨XE.out.1,XE.out.2.1,XE.out.2.2.1,XE.out.2.2.2.1.drew⟩
  clear XE
  generalize WE.drew=wd at XD hHeld ⊢
  refine wpAnyH_take (i := 0) (oi := { dst := some 18, op := Op.load 38 (Operand.tmp 5), type := 38, pos := "l05_banks.go:265", after := #[], guard := none }) (v := ?_) rfl (by kernel_rfl) (by kernel_rfl) (by kernel_rfl) (fun _ _ _ h => h) (Or.inl ⟨by rfl, ?_⟩) hHeld ?_
  rotate_left
  ·intro wq hSw
   have y0:=hSw.1.2 0 _ rfl
   have y1:=hSw.1.2 1 _ rfl
   have y2:=hSw.1.2 2 _ rfl
   have y3:=hSw.1.2 3 _ rfl
   have y4:=hSw.1.2 4 _ rfl
   have y5:=hSw.1.2 5 _ rfl
   have y6:=hSw.1.2 6 _ rfl
   simp only[Nat.zero_add] at y0 y1 y2 y3 y4 y5 y6
   go_simp
   all_goals (with_reducible rfl)
  (try simp only[Act.put,List.setIfInBounds_toArray,List.set_cons_zero,List.set_cons_succ])
  refine wpAnyH_take (i := 1) (oi := { dst := some 19, op := Op.load 51 (Operand.tmp 6), type := 51, pos := "l05_banks.go:265", after := #[{ on := 2, ground := Ground.gcOnly Departure.lateStores }], guard := none }) (v := ?_) rfl (by kernel_rfl) (by kernel_rfl) (by kernel_rfl) (fun _ _ _ h => h) (Or.inl ⟨by rfl, ?_⟩) hHeld ?_
  rotate_left
  ·intro wq hSw
   have y0:=hSw.2.2 0 _ rfl
   have y1:=hSw.2.2 1 _ rfl
   have y2:=hSw.2.2 2 _ rfl
   have y3:=hSw.2.2 3 _ rfl
   have y4:=hSw.2.2 4 _ rfl
   have y5:=hSw.2.2 5 _ rfl
   have y6:=hSw.2.2 6 _ rfl
   have y7:=hSw.2.2 7 _ rfl
   have y8:=hSw.2.2 8 _ rfl
   have y9:=hSw.2.2 9 _ rfl
   have y10:=hSw.2.2 10 _ rfl
   have y11:=hSw.2.2 11 _ rfl
   have y12:=hSw.2.2 12 _ rfl
   have y13:=hSw.2.2 13 _ rfl
   simp only[Nat.zero_add] at y0 y1 y2 y3 y4 y5 y6 y7 y8 y9 y10 y11 y12 y13
   go_simp
   all_goals (with_reducible rfl)
  (try simp only[Act.put,List.setIfInBounds_toArray,List.set_cons_zero,List.set_cons_succ])
  refine wpAnyH_ready (rs:=[2]) (by kernel_rfl) (by simp) ?_
  refine AllReadyH.cons (o := { dst := none, op := Op.store 38 (Operand.tmp 2) (Operand.tmp 18), type := 0, pos := "l05_banks.go:265", after := #[{ on := 0, ground := Ground.data }, { on := 0, ground := Ground.phase }, { on := 1, ground := Ground.textOnly Departure.lateStores }], guard := none }) rfl (fun K' hK => ?_) AllReadyH.nil
  obtain ⟨⟨s0,s1,s2,s3,s4,s5,s6⟩,sf,sz⟩:=XD.out.1
  go_simp
  refine hK.out _ _ ?_ (fun hHeld=>?_)
  ·have hne:h≠r5:=by omega
   have hne':h≠r6:=by omega
   exact ⟨((((((hHeld.1.set hne _ _).set hne _ _).set hne _ _).set hne _ _).set hne _ _).set hne _ _).set hne _ _,((((((hHeld.2.set hne' _ _).set hne' _ _).set hne' _ _).set hne' _ _).set hne' _ _).set hne' _ _).set hne' _ _⟩
  clear hK
  clear s0 s1 s2 s3 s4 s5 s6 sf sz
  (try simp only[Act.put,List.setIfInBounds_toArray,List.set_cons_zero,List.set_cons_succ])
  obtain ⟨v1,hv1,X1⟩:∃V,V=set7 wd h k (.slice a1 m1 c1) (.slice b1 m2 d1)/\Hid (Box7 V h (.int .i64 k.day) (.slice a1 m1 c1) (.slice b1 m2 d1) (.int .i64 k.inn) (.int .i64 k.out) (.int .i64 k.posted) (.int .i64 k.missed)/\Vals V (h+1) [.int .i64 0,.int .i64 0,.int .i64 0,.int .i64 0,.int .i64 0,.int .i64 0,.int .i64 0,.int .i64 0,.int .i64 0,.int .i64 0,.int .i64 0,.int .i64 0,.int .i64 0,.int .i64 0]/\(AL V (h+1+1) (.slice a1 m1 c1) L/\OrdL V (h+1+1) (.slice b1 m2 d1) O)/\Below h w V):=by
   have g:=grown7 wd h k (.slice a1 m1 c1) (.slice b1 m2 d1)
   refine ⟨_,rfl,(((((((XD.out.1.set0 _).set1 _).set2 _).set3 _).set4 _).set5 _).set6 _),?_,⟨row_away XD.out.2.2.1.1 g (fun q hq=>by have:=(World.ownsRow.lt XD.out.2.2.1.1 q hq).1;omega),row_away XD.out.2.2.1.2 g (fun q hq=>by have:=(World.ownsRow.lt XD.out.2.2.1.2 q hq).1;omega)⟩,XD.out.2.2.2.grown g (by have:=XD.out.1.2.2;omega) (fun q hq=>by simp at hq;omega)⟩
   unfold set7
   exact (((((((XD.out.2.1.far (by omega) _ _).far (by omega) _ _).far (by omega) _ _).far (by omega) _ _).far (by omega) _ _).far (by omega) _ _).far (by omega) _ _)
  have HV1:Hid (v1=((((((wd.setCell ⟨h,0,none⟩ (.int .i64 k.day)).setCell ⟨h,1,none⟩ ((.slice a1 m1 c1))).setCell ⟨h,2,none⟩ ((.slice b1 m2 d1))).setCell ⟨h,3,none⟩ (.int .i64 k.inn)).setCell ⟨h,4,none⟩ (.int .i64 k.out)).setCell ⟨h,5,none⟩ (.int .i64 k.posted)).setCell ⟨h,6,none⟩ (.int .i64 k.missed)):=hv1
  rw[←HV1.out] at hHeld
  rw[←HV1.out]
  clear hv1 HV1 XD
  refine wpAnyH_ready (rs:=[3]) (by kernel_rfl) (by simp) ?_
  refine AllReadyH.cons (o := { dst := none, op := Op.store 51 (Operand.tmp 3) (Operand.tmp 19), type := 0, pos := "l05_banks.go:265", after := #[{ on := 1, ground := Ground.data }, { on := 2, ground := Ground.chain }, { on := 0, ground := Ground.phase }, { on := 1, ground := Ground.phase }, { on := 2, ground := Ground.phase }], guard := none }) rfl (fun K' hK => ?_) AllReadyH.nil
  have r0':=X1.out.2.1.1 0 _ rfl
  have r1':=X1.out.2.1.1 1 _ rfl
  have r2':=X1.out.2.1.1 2 _ rfl
  have r3':=X1.out.2.1.1 3 _ rfl
  have r4':=X1.out.2.1.1 4 _ rfl
  have r5':=X1.out.2.1.1 5 _ rfl
  have r6':=X1.out.2.1.1 6 _ rfl
  have r7':=X1.out.2.1.1 7 _ rfl
  have r8':=X1.out.2.1.1 8 _ rfl
  have r9':=X1.out.2.1.1 9 _ rfl
  have r10':=X1.out.2.1.1 10 _ rfl
  have r11':=X1.out.2.1.1 11 _ rfl
  have r12':=X1.out.2.1.1 12 _ rfl
  have r13':=X1.out.2.1.1 13 _ rfl
  have fz:=X1.out.2.1.2.1
  go_simp
  refine hK.out _ _ ?_ (fun hHeld=>?_)
  ·have hne:h+1≠r5:=by omega
   have hne':h+1≠r6:=by omega
   exact ⟨(((((((((((((hHeld.1.set hne _ _).set hne _ _).set hne _ _).set hne _ _).set hne _ _).set hne _ _).set hne _ _).set hne _ _).set hne _ _).set hne _ _).set hne _ _).set hne _ _).set hne _ _).set hne _ _,(((((((((((((hHeld.2.set hne' _ _).set hne' _ _).set hne' _ _).set hne' _ _).set hne' _ _).set hne' _ _).set hne' _ _).set hne' _ _).set hne' _ _).set hne' _ _).set hne' _ _).set hne' _ _).set hne' _ _).set hne' _ _⟩
  clear hK hHeld
  (try simp only[Act.put,List.setIfInBounds_toArray,List.set_cons_zero,List.set_cons_succ])
  refine wpAnyH_done (by kernel_rfl) ?_ _
  obtain ⟨⟨s0,s1,s2,s3,s4,s5,s6⟩,sf,sz⟩:=X1.out.1
  go_wp2
  refine bodyPost_ret (v:=.tuple #[.agg #[.int .i64 k.day,(.slice a1 m1 c1),(.slice b1 m2 d1),.int .i64 k.inn,.int .i64 k.out,.int .i64 k.posted,.int .i64 k.missed],.agg #[.int .i64 z,.int .i64 x.k,.int .i64 x.i,.int .i64 x.t,.int .i64 x.m,.int .i64 x.r,.int .i64 o.id,.int .i64 o.src,.int .i64 o.dst,.int .i64 o.amount,.int .i64 o.first,.int .i64 o.every,.int .i64 o.times,.int .i64 n]]) (by simp[results,Tryz.results28,go_sem,s0,s1,s2,s3,s4,s5,s6,r0',r1',r2',r3',r4',r5',r6',r7',r8',r9',r10',r11',r12',r13']) rfl ⟨k,L,O,_,_,z,n,x,o,rfl,HL.out.1,HL.out.2,?_,?_,?_⟩
  ·rw[HH.out]
   refine AL.mono (B:=h+1+1) ?_ (by omega)
   repeat (refine AL.far ?_ (by omega) _ _)
   exact X1.out.2.2.1.1
  ·rw[HH.out]
   refine OrdL.mono (B:=h+1+1) ?_ (by omega)
   repeat (refine OrdL.far ?_ (by omega) _ _)
   exact X1.out.2.2.1.2
  ·rw[HH.out]
   repeat (refine below_far ?_ (by omega) _ _)
   exact X1.out.2.2.2
theorem ran_zero {L:List Acc} {O:List Ord} {k:Bk} {K n:Int} {x:OpF} {o:Ord} (h:(ranAny L O k K x o n).code=0):bankOk (FL L) L.length (OrdF O) O.length k/\(ranAny L O k K x o n).ok/\k.inn<=(ranAny L O k K x o n).k.inn/\k.out<=(ranAny L O k K x o n).k.out/\((ranAny L O k K x o n).k.day=k.day+1↔K=22):=by
 by_cases hb:bankOk (FL L) L.length (OrdF O) O.length k
 ·have e:ranAny L O k K x o n=ranS L O k K x o n:=if_pos hb
  rw[e] at h ⊢
  refine ⟨hb,ranS_ok h,?_⟩
  have hp:(preS L O k K x o n).code=0/\ranS L O k K x o n=preS L O k K x o n:=by
   by_cases c0:(preS L O k K x o n).code=0
   ·by_cases c1:(preS L O k K x o n).ok
    ·exact ⟨c0,fin_yes c0 c1⟩
    ·have:=fin_full (L:=L) (O:=O) (k:=k) c0 c1
     unfold ranS at h
     rw[this] at h
     simp at h
   ·have:=fin_no (L:=L) (O:=O) (k:=k) c0
    unfold ranS at h
    rw[this] at h
    exact absurd h c0
  rw[hp.2]
  have h0:=hp.1
  by_cases hok:bopOk K x o n
  ·rcases bop_kind hok with rfl|rfl|rfl|rfl
   ·rw[pre_op hok]
    have hx:=((b19 n x o).1 hok).1
    refine ⟨?_,?_,?_⟩
    ·show k.inn<=(opK k x).inn
     unfold opK
     simp only
     split
     ·rename_i e5
      rcases hx.2 with h|h|h|h|h|h|h <;>omega
     ·exact Int.le_refl _
    ·show k.out<=(opK k x).out
     unfold opK
     simp only
     split
     ·rename_i e5
      rcases hx.2 with h|h|h|h|h|h|h <;>omega
     ·exact Int.le_refl _
    ·show (opK k x).day=k.day+1↔_
     constructor
     ·intro e
      have:k.day=k.day+1:=e
      omega
     ·intro e;cases e
   ·by_cases ht:thereO O o.id
    ·rw[pre_there hok ht] at h0;simp at h0
    ·rw[pre_new hok ht]
     exact ⟨Int.le_refl _,Int.le_refl _,⟨fun e=>by have:k.day=k.day+1:=e;omega,fun e=>by cases e⟩⟩
   ·by_cases ht:thereO O n
    ·rw[pre_cut hok ht]
     exact ⟨Int.le_refl _,Int.le_refl _,⟨fun e=>by have:k.day=k.day+1:=e;omega,fun e=>by cases e⟩⟩
    ·rw[pre_none hok ht] at h0;simp at h0
   ·by_cases ht:endOk L O k
    ·rw[pre_day hok ht]
     exact ⟨Int.le_refl _,Int.le_refl _,⟨fun _=>rfl,fun _=>rfl⟩⟩
    ·rw[pre_full hok ht] at h0;simp at h0
  ·rw[pre_form hok] at h0
   simp at h0
 ·have e:ranAny L O k K x o n=⟨1,[],[],⟨0,0,0,0,0⟩⟩:=if_neg hb
  rw[e] at h
  simp at h
theorem ran_other {L:List Acc} {O:List Ord} {k:Bk} {K n:Int} {x:OpF} {o:Ord} (h0:(ranAny L O k K x o n).code≠0) (h1:(ranAny L O k K x o n).code≠1):(ranAny L O k K x o n).L=L/\(ranAny L O k K x o n).O=O/\(ranAny L O k K x o n).k=k:=by
 by_cases hb:bankOk (FL L) L.length (OrdF O) O.length k
 ·have e:ranAny L O k K x o n=ranS L O k K x o n:=if_pos hb
  rw[e] at h0 ⊢
  rw[ranS_no h0]
  exact ⟨rfl,rfl,rfl⟩
 ·have e:ranAny L O k K x o n=⟨1,[],[],⟨0,0,0,0,0⟩⟩:=if_neg hb
  rw[e] at h1
  exact absurd rfl h1
def Bkw (V:World) (r B:Nat) (v u:Value) (k:Bk) (L:List Acc) (O:List Ord):Prop:=Box7 V r (.int .i64 k.day) v u (.int .i64 k.inn) (.int .i64 k.out) (.int .i64 k.posted) (.int .i64 k.missed)/\AL V B v L/\OrdL V B u O
theorem Bkw.below {V W:World} {r B:Nat} {v u:Value} {k:Bk} {L:List Acc} {O:List Ord} (h:Bkw V r B v u k L O) (hb:Below V.heap.size V W):Bkw W r B v u k L O:=⟨h.1.kept hb h.1.2.2,h.2.1.kept hb,h.2.2.kept hb⟩
theorem Bkw.new {V:World} {B B':Nat} {v u:Value} {k:Bk} {L:List Acc} {O:List Ord} (h1:AL V B v L) (h2:OrdL V B u O) (hB:B'<=B):Bkw (V.alloc (.cells #[.int .i64 k.day,v,u,.int .i64 k.inn,.int .i64 k.out,.int .i64 k.posted,.int .i64 k.missed] 38)) V.heap.size B' v u k L O:=
 have hb:Below V.heap.size V (V.alloc (.cells #[.int .i64 k.day,v,u,.int .i64 k.inn,.int .i64 k.out,.int .i64 k.posted,.int .i64 k.missed] 38)):=(Below.refl _ _).alloc (Nat.le_refl _) _
 ⟨Box7.new _ _ _ _ _ _ _ _ _,(h1.kept hb).mono hB,(h2.kept hb).mono hB⟩
theorem Bkw.nms {V:World} {r B:Nat} {v u:Value} {k:Bk} {L:List Acc} {O:List Ord} (h:Bkw V r B v u k L O):Nms r 0 [.int .i64 k.day,v,u,.int .i64 k.inn,.int .i64 k.out,.int .i64 k.posted,.int .i64 k.missed] V:=⟨h.1.2.2,fun i y hi=>by
 match i,hi with
 | 0,hi=>simp at hi;subst hi;simpa using h.1.1.1
 | 1,hi=>simp at hi;subst hi;simpa using h.1.1.2.1
 | 2,hi=>simp at hi;subst hi;simpa using h.1.1.2.2.1
 | 3,hi=>simp at hi;subst hi;simpa using h.1.1.2.2.2.1
 | 4,hi=>simp at hi;subst hi;simpa using h.1.1.2.2.2.2.1
 | 5,hi=>simp at hi;subst hi;simpa using h.1.1.2.2.2.2.2.1
 | 6,hi=>simp at hi;subst hi;simpa using h.1.1.2.2.2.2.2.2
⟩
theorem sameBankL {a1 a2 b1 b2:Option Addr} {n p1 p2 m q1 q2 B C:Nat} {L:List Acc} {O:List Ord} (k:Bk) (w:World) (hL:L.length<=12) (hO:O.length<=8) (h1:AL w B (.slice a1 n p1) L) (h2:OrdL w B (.slice b1 m q1) O) (h3:AL w C (.slice a2 n p2) L) (h4:OrdL w C (.slice b2 m q2) O):
  Calls Tryz.prog 24 #[.agg #[.int .i64 k.day,.slice a1 n p1,.slice b1 m q1,.int .i64 k.inn,.int .i64 k.out,.int .i64 k.posted,.int .i64 k.missed],.agg #[.int .i64 k.day,.slice a2 n p2,.slice b2 m q2,.int .i64 k.inn,.int .i64 k.out,.int .i64 k.posted,.int .i64 k.missed]] w fun e w'=>e=.returned (.bool true)/\Below w.heap.size w w':=
 sameBank_same a1 a2 b1 b2 n p1 p2 m q1 q2 (FL L) (OrdF O) k w (h1.fo (by omega)).2 (h3.fo (by omega)).2 (h2.list (by omega)).2 (h4.list (by omega)).2
end Go.Proofs.YtghkbhggopiajaaGreatDoor
