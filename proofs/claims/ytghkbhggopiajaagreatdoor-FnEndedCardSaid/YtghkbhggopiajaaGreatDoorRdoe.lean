/- The draws of an order. -/
import Derived.Test.YtghkbhggopiajaaGreatDoorRalle
import Derived.Test.YtghkbhggopiajaaGreatDoorRanNe
import Derived.Test.YtghkbhggopiajaaGreatDoorForestr
set_option maxHeartbeats 8000000
namespace Go.Proofs.YtghkbhggopiajaaGreatDoor
open Go.RowKit
set_option maxRecDepth 8000
theorem Box7.stp {B:Nat} {w w':World} {R:Nat} {v0 v1 v2 v3 v4 v5 v6:Value} (h:Box7 w R v0 v1 v2 v3 v4 v5 v6) (hs:Stp B w w') (hR:R≠B):Box7 w' R v0 v1 v2 v3 v4 v5 v6:=by
 obtain ⟨⟨h0,h1,h2,h3,h4,h5,h6⟩,hf,hz⟩:=h
 exact ⟨⟨by rw[hs.cell (p:=⟨R,0,none⟩) hz hR];exact h0,by rw[hs.cell (p:=⟨R,1,none⟩) hz hR];exact h1,by rw[hs.cell (p:=⟨R,2,none⟩) hz hR];exact h2,by rw[hs.cell (p:=⟨R,3,none⟩) hz hR];exact h3,by rw[hs.cell (p:=⟨R,4,none⟩) hz hR];exact h4,by rw[hs.cell (p:=⟨R,5,none⟩) hz hR];exact h5,by rw[hs.cell (p:=⟨R,6,none⟩) hz hR];exact h6⟩,fun o=>by rw[hs.frozen (p:=⟨R,o,none⟩) hz hR];exact hf o,Nat.lt_of_lt_of_le hz hs.size⟩
theorem Box7.alloc {w:World} {R:Nat} {v0 v1 v2 v3 v4 v5 v6:Value} (h:Box7 w R v0 v1 v2 v3 v4 v5 v6) (x:Obj):Box7 (w.alloc x) R v0 v1 v2 v3 v4 v5 v6:=h.kept ((Below.refl _ _).alloc (Nat.le_refl _) x) h.2.2
set_option maxRecDepth 4000 in
theorem rd_order (B:Nat) (a:Option Addr) (len cap:Nat) (w:World) (h:Rd w B a len cap):
  Calls Tryz.prog 126 #[.pointer (some ⟨B,0,none⟩)] w fun e w'=>∃o:Ord,e=.returned (.agg #[.int .i64 o.id,.int .i64 o.src,.int .i64 o.dst,.int .i64 o.amount,.int .i64 o.first,.int .i64 o.every,.int .i64 o.times])/\Rd w' B a len cap/\Stp B w w':=by
 have hBw:B<w.heap.size:=h.2.2.2.1
 have hQB:w.heap.size≠B:=by omega
 have RXW:Hid (Rd (w.alloc (.cells #[.int .i64 0,.int .i64 0,.int .i64 0,.int .i64 0,.int .i64 0,.int .i64 0,.int .i64 0] 45)) B a len cap):=h.alloc _
 have QXW:Hid (Box7 (w.alloc (.cells #[.int .i64 0,.int .i64 0,.int .i64 0,.int .i64 0,.int .i64 0,.int .i64 0,.int .i64 0] 45)) w.heap.size (.int .i64 0) (.int .i64 0) (.int .i64 0) (.int .i64 0) (.int .i64 0) (.int .i64 0) (.int .i64 0)):=Box7.new w (.int .i64 0) (.int .i64 0) (.int .i64 0) (.int .i64 0) (.int .i64 0) (.int .i64 0) (.int .i64 0) 45
 have SXW:Hid (Stp B w (w.alloc (.cells #[.int .i64 0,.int .i64 0,.int .i64 0,.int .i64 0,.int .i64 0,.int .i64 0,.int .i64 0] 45))):=(Stp.refl B w).alloc _
 clear h
 go_enter Tryz.func126,Tryz.ntmps126
 go_wp2_with fail
 refine (rd_below B a len cap 4 _ (RXW.out) (by omega) (by omega)).mono ?_
 rintro e w1 ⟨x1,rfl,x11,x12,RN,SN⟩
 have RXw1:=hidOf RN
 have QXw1:Hid (Box7 w1 w.heap.size (.int .i64 0) (.int .i64 0) (.int .i64 0) (.int .i64 0) (.int .i64 0) (.int .i64 0) (.int .i64 0)):=(QXW.out).stp SN hQB
 have SXw1:=hidOf ((SXW.out).trans SN)
 clear RN SN RXW QXW SXW
 go_wp2_with fail
 refine (rd_id B a len cap _ (RXw1.out)).mono ?_
 rintro e w2 ⟨x2,rfl,x21,x22,RN,SN⟩
 have RXw2:=hidOf RN
 have QXw2:Hid (Box7 w2 w.heap.size (.int .i64 0) (.int .i64 0) (.int .i64 0) (.int .i64 0) (.int .i64 0) (.int .i64 0) (.int .i64 0)):=(QXw1.out).stp SN hQB
 have SXw2:=hidOf ((SXw1.out).trans SN)
 clear RN SN RXw1 QXw1 SXw1
 go_wp2_with fail
 refine (rd_id B a len cap _ (RXw2.out)).mono ?_
 rintro e w3 ⟨x3,rfl,x31,x32,RN,SN⟩
 have RXw3:=hidOf RN
 have QXw3:Hid (Box7 w3 w.heap.size (.int .i64 0) (.int .i64 0) (.int .i64 0) (.int .i64 0) (.int .i64 0) (.int .i64 0) (.int .i64 0)):=(QXw2.out).stp SN hQB
 have SXw3:=hidOf ((SXw2.out).trans SN)
 clear RN SN RXw2 QXw2 SXw2
 go_wp2_with fail
 refine (rd_below B a len cap 50 _ (RXw3.out) (by omega) (by omega)).mono ?_
 rintro e w4 ⟨x4,rfl,x41,x42,RN,SN⟩
 have RXw4:=hidOf RN
 have QXw4:Hid (Box7 w4 w.heap.size (.int .i64 0) (.int .i64 0) (.int .i64 0) (.int .i64 0) (.int .i64 0) (.int .i64 0) (.int .i64 0)):=(QXw3.out).stp SN hQB
 have SXw4:=hidOf ((SXw3.out).trans SN)
 clear RN SN RXw3 QXw3 SXw3
 go_wp2_with fail
 refine (rd_below B a len cap 12 _ (RXw4.out) (by omega) (by omega)).mono ?_
 rintro e w5 ⟨x5,rfl,x51,x52,RN,SN⟩
 have RXw5:=hidOf RN
 have QXw5:Hid (Box7 w5 w.heap.size (.int .i64 0) (.int .i64 0) (.int .i64 0) (.int .i64 0) (.int .i64 0) (.int .i64 0) (.int .i64 0)):=(QXw4.out).stp SN hQB
 have SXw5:=hidOf ((SXw4.out).trans SN)
 clear RN SN RXw4 QXw4 SXw4
 go_wp2_with fail
 refine (rd_below B a len cap 4 _ (RXw5.out) (by omega) (by omega)).mono ?_
 rintro e w6 ⟨x6,rfl,x61,x62,RN,SN⟩
 have RXw6:=hidOf RN
 have QXw6:Hid (Box7 w6 w.heap.size (.int .i64 0) (.int .i64 0) (.int .i64 0) (.int .i64 0) (.int .i64 0) (.int .i64 0) (.int .i64 0)):=(QXw5.out).stp SN hQB
 have SXw6:=hidOf ((SXw5.out).trans SN)
 clear RN SN RXw5 QXw5 SXw5
 go_wp2_with fail
 refine (rd_below B a len cap 4 _ (RXw6.out) (by omega) (by omega)).mono ?_
 rintro e w7 ⟨x7,rfl,x71,x72,RN,SN⟩
 have RXw7:=hidOf RN
 have QXw7:Hid (Box7 w7 w.heap.size (.int .i64 0) (.int .i64 0) (.int .i64 0) (.int .i64 0) (.int .i64 0) (.int .i64 0) (.int .i64 0)):=(QXw6.out).stp SN hQB
 have SXw7:=hidOf ((SXw6.out).trans SN)
 clear RN SN RXw6 QXw6 SXw6
 have hwR:w.heap.size<=w7.heap.size:=SXw7.out.size
 have hwQ:w.heap.size<w7.heap.size:=QXw7.out.2.2
 have hRB:w7.heap.size≠B:=by omega
 by_cases hx:x2=x3
 ·have hxb:(x2 == x3)=true:=by simp[hx]
  clear hx
  go_wp2_with fail
  refine (rd_below B a len cap 30 _ (RXw7.out.alloc _) (by omega) (by omega)).mono ?_
  rintro e w8 ⟨y,rfl,y1,y2,RN,SN⟩
  have RXw8:=hidOf RN
  have QXw8:Hid (Box7 w8 w.heap.size (.int .i64 0) (.int .i64 0) (.int .i64 0) (.int .i64 0) (.int .i64 0) (.int .i64 0) (.int .i64 0)):=(QXw7.out.alloc _).stp SN hQB
  have SXw8:Hid (Stp B w w8):=(SXw7.out.alloc _).trans SN
  have OXw8:Hid (Box7 w8 w7.heap.size (.int .i64 (1+x1)) (.int .i64 (x2)) (.int .i64 (x2 % 6+1)) (.int .i64 (1+x4)) (.int .i64 (x5)) (.int .i64 (1+x6)) (.int .i64 (1+x7))):=(Box7.new w7 (.int .i64 (1+x1)) (.int .i64 (x2)) (.int .i64 (x2 % 6+1)) (.int .i64 (1+x4)) (.int .i64 (x5)) (.int .i64 (1+x6)) (.int .i64 (1+x7)) 45).stp SN hRB
  clear RN SN RXw7 QXw7 SXw7
  by_cases y27:y=27
  ·subst y27
   go_wp2_with fail
   refine (rd_off B a len cap 1 366 _ (RXw8.out) (by omega) (by omega) (by omega)).mono ?_
   rintro e w9 ⟨z,rfl,RN,SN⟩
   have RXw9:=hidOf RN
   have QXw9:Hid (Box7 w9 w.heap.size (.int .i64 0) (.int .i64 0) (.int .i64 0) (.int .i64 0) (.int .i64 0) (.int .i64 0) (.int .i64 0)):=(QXw8.out).stp SN hQB
   have SXw9:=hidOf ((SXw8.out).trans SN)
   have OXw9:Hid (Box7 w9 w7.heap.size (.int .i64 (1+x1)) (.int .i64 (x2)) (.int .i64 (x2 % 6+1)) (.int .i64 (1+x4)) (.int .i64 (x5)) (.int .i64 (1+x6)) (.int .i64 (1+x7))):=OXw8.out.stp SN hRB
   clear RN SN RXw8 QXw8 SXw8 OXw8
   obtain ⟨⟨r0,r1,r2,r3,r4,r5,r6⟩,rf,_⟩:=OXw9.out
   obtain ⟨⟨q0,q1,q2,q3,q4,q5,q6⟩,qf,_⟩:=QXw9.out
   go_wp2
   refine bodyPost_ret (v:=.agg #[.int .i64 (1+x1),.int .i64 (x2),.int .i64 (x2 % 6+1),.int .i64 (1+x4),.int .i64 (x5),.int .i64 (z),.int .i64 (1+x7)]) (by simp[results,Tryz.results126,go_sem,q0,q1,q2,q3,q4,q5,q6]) rfl ⟨⟨1+x1,x2,x2 % 6+1,1+x4,x5,z,1+x7⟩,rfl,?_,?_⟩
   ·repeat (refine Rd.setFar ?_ (by omega) _)
    exact RXw9.out
   ·repeat (refine Stp.far ?_ (by omega) _ _)
    exact SXw9.out
  have y27b:(y == 27)=false:=by simp[y27]
  by_cases y28:y=28
  ·subst y28
   go_wp2_with fail
   refine (rd_off B a len cap 1 1000 _ (RXw8.out) (by omega) (by omega) (by omega)).mono ?_
   rintro e w9 ⟨z,rfl,RN,SN⟩
   have RXw9:=hidOf RN
   have QXw9:Hid (Box7 w9 w.heap.size (.int .i64 0) (.int .i64 0) (.int .i64 0) (.int .i64 0) (.int .i64 0) (.int .i64 0) (.int .i64 0)):=(QXw8.out).stp SN hQB
   have SXw9:=hidOf ((SXw8.out).trans SN)
   have OXw9:Hid (Box7 w9 w7.heap.size (.int .i64 (1+x1)) (.int .i64 (x2)) (.int .i64 (x2 % 6+1)) (.int .i64 (1+x4)) (.int .i64 (x5)) (.int .i64 (1+x6)) (.int .i64 (1+x7))):=OXw8.out.stp SN hRB
   clear RN SN RXw8 QXw8 SXw8 OXw8
   obtain ⟨⟨r0,r1,r2,r3,r4,r5,r6⟩,rf,_⟩:=OXw9.out
   obtain ⟨⟨q0,q1,q2,q3,q4,q5,q6⟩,qf,_⟩:=QXw9.out
   go_wp2
   refine bodyPost_ret (v:=.agg #[.int .i64 (1+x1),.int .i64 (x2),.int .i64 (x2 % 6+1),.int .i64 (1+x4),.int .i64 (x5),.int .i64 (1+x6),.int .i64 (z)]) (by simp[results,Tryz.results126,go_sem,q0,q1,q2,q3,q4,q5,q6]) rfl ⟨⟨1+x1,x2,x2 % 6+1,1+x4,x5,1+x6,z⟩,rfl,?_,?_⟩
   ·repeat (refine Rd.setFar ?_ (by omega) _)
    exact RXw9.out
   ·repeat (refine Stp.far ?_ (by omega) _ _)
    exact SXw9.out
  have y28b:(y == 28)=false:=by simp[y28]
  by_cases y29:y=29
  ·subst y29
   go_wp2_with fail
   refine (rd_off B a len cap 0 3000000 _ (RXw8.out) (by omega) (by omega) (by omega)).mono ?_
   rintro e w9 ⟨z,rfl,RN,SN⟩
   have RXw9:=hidOf RN
   have QXw9:Hid (Box7 w9 w.heap.size (.int .i64 0) (.int .i64 0) (.int .i64 0) (.int .i64 0) (.int .i64 0) (.int .i64 0) (.int .i64 0)):=(QXw8.out).stp SN hQB
   have SXw9:=hidOf ((SXw8.out).trans SN)
   have OXw9:Hid (Box7 w9 w7.heap.size (.int .i64 (1+x1)) (.int .i64 (x2)) (.int .i64 (x2 % 6+1)) (.int .i64 (1+x4)) (.int .i64 (x5)) (.int .i64 (1+x6)) (.int .i64 (1+x7))):=OXw8.out.stp SN hRB
   clear RN SN RXw8 QXw8 SXw8 OXw8
   obtain ⟨⟨r0,r1,r2,r3,r4,r5,r6⟩,rf,_⟩:=OXw9.out
   obtain ⟨⟨q0,q1,q2,q3,q4,q5,q6⟩,qf,_⟩:=QXw9.out
   go_wp2
   refine bodyPost_ret (v:=.agg #[.int .i64 (1+x1),.int .i64 (x2),.int .i64 (x2 % 6+1),.int .i64 (1+x4),.int .i64 (z),.int .i64 (1+x6),.int .i64 (1+x7)]) (by simp[results,Tryz.results126,go_sem,q0,q1,q2,q3,q4,q5,q6]) rfl ⟨⟨1+x1,x2,x2 % 6+1,1+x4,z,1+x6,1+x7⟩,rfl,?_,?_⟩
   ·repeat (refine Rd.setFar ?_ (by omega) _)
    exact RXw9.out
   ·repeat (refine Stp.far ?_ (by omega) _ _)
    exact SXw9.out
  have y29b:(y == 29)=false:=by simp[y29]
  obtain ⟨⟨r0,r1,r2,r3,r4,r5,r6⟩,rf,_⟩:=OXw8.out
  obtain ⟨⟨q0,q1,q2,q3,q4,q5,q6⟩,qf,_⟩:=QXw8.out
  go_wp2
  refine bodyPost_ret (v:=.agg #[.int .i64 (1+x1),.int .i64 (x2),.int .i64 (x2 % 6+1),.int .i64 (1+x4),.int .i64 (x5),.int .i64 (1+x6),.int .i64 (1+x7)]) (by simp[results,Tryz.results126,go_sem,q0,q1,q2,q3,q4,q5,q6]) rfl ⟨⟨1+x1,x2,x2 % 6+1,1+x4,x5,1+x6,1+x7⟩,rfl,?_,?_⟩
  ·repeat (refine Rd.setFar ?_ (by omega) _)
   exact RXw8.out
  ·repeat (refine Stp.far ?_ (by omega) _ _)
   exact SXw8.out
 ·have hxb:(x2 == x3)=false:=by simp[hx]
  clear hx
  go_wp2_with fail
  refine (rd_below B a len cap 30 _ (RXw7.out.alloc _) (by omega) (by omega)).mono ?_
  rintro e w8 ⟨y,rfl,y1,y2,RN,SN⟩
  have RXw8:=hidOf RN
  have QXw8:Hid (Box7 w8 w.heap.size (.int .i64 0) (.int .i64 0) (.int .i64 0) (.int .i64 0) (.int .i64 0) (.int .i64 0) (.int .i64 0)):=(QXw7.out.alloc _).stp SN hQB
  have SXw8:Hid (Stp B w w8):=(SXw7.out.alloc _).trans SN
  have OXw8:Hid (Box7 w8 w7.heap.size (.int .i64 (1+x1)) (.int .i64 (x2)) (.int .i64 (x3)) (.int .i64 (1+x4)) (.int .i64 (x5)) (.int .i64 (1+x6)) (.int .i64 (1+x7))):=(Box7.new w7 (.int .i64 (1+x1)) (.int .i64 (x2)) (.int .i64 (x3)) (.int .i64 (1+x4)) (.int .i64 (x5)) (.int .i64 (1+x6)) (.int .i64 (1+x7)) 45).stp SN hRB
  clear RN SN RXw7 QXw7 SXw7
  by_cases y27:y=27
  ·subst y27
   go_wp2_with fail
   refine (rd_off B a len cap 1 366 _ (RXw8.out) (by omega) (by omega) (by omega)).mono ?_
   rintro e w9 ⟨z,rfl,RN,SN⟩
   have RXw9:=hidOf RN
   have QXw9:Hid (Box7 w9 w.heap.size (.int .i64 0) (.int .i64 0) (.int .i64 0) (.int .i64 0) (.int .i64 0) (.int .i64 0) (.int .i64 0)):=(QXw8.out).stp SN hQB
   have SXw9:=hidOf ((SXw8.out).trans SN)
   have OXw9:Hid (Box7 w9 w7.heap.size (.int .i64 (1+x1)) (.int .i64 (x2)) (.int .i64 (x3)) (.int .i64 (1+x4)) (.int .i64 (x5)) (.int .i64 (1+x6)) (.int .i64 (1+x7))):=OXw8.out.stp SN hRB
   clear RN SN RXw8 QXw8 SXw8 OXw8
   obtain ⟨⟨r0,r1,r2,r3,r4,r5,r6⟩,rf,_⟩:=OXw9.out
   obtain ⟨⟨q0,q1,q2,q3,q4,q5,q6⟩,qf,_⟩:=QXw9.out
   go_wp2
   refine bodyPost_ret (v:=.agg #[.int .i64 (1+x1),.int .i64 (x2),.int .i64 (x3),.int .i64 (1+x4),.int .i64 (x5),.int .i64 (z),.int .i64 (1+x7)]) (by simp[results,Tryz.results126,go_sem,q0,q1,q2,q3,q4,q5,q6]) rfl ⟨⟨1+x1,x2,x3,1+x4,x5,z,1+x7⟩,rfl,?_,?_⟩
   ·repeat (refine Rd.setFar ?_ (by omega) _)
    exact RXw9.out
   ·repeat (refine Stp.far ?_ (by omega) _ _)
    exact SXw9.out
  have y27b:(y == 27)=false:=by simp[y27]
  by_cases y28:y=28
  ·subst y28
   go_wp2_with fail
   refine (rd_off B a len cap 1 1000 _ (RXw8.out) (by omega) (by omega) (by omega)).mono ?_
   rintro e w9 ⟨z,rfl,RN,SN⟩
   have RXw9:=hidOf RN
   have QXw9:Hid (Box7 w9 w.heap.size (.int .i64 0) (.int .i64 0) (.int .i64 0) (.int .i64 0) (.int .i64 0) (.int .i64 0) (.int .i64 0)):=(QXw8.out).stp SN hQB
   have SXw9:=hidOf ((SXw8.out).trans SN)
   have OXw9:Hid (Box7 w9 w7.heap.size (.int .i64 (1+x1)) (.int .i64 (x2)) (.int .i64 (x3)) (.int .i64 (1+x4)) (.int .i64 (x5)) (.int .i64 (1+x6)) (.int .i64 (1+x7))):=OXw8.out.stp SN hRB
   clear RN SN RXw8 QXw8 SXw8 OXw8
   obtain ⟨⟨r0,r1,r2,r3,r4,r5,r6⟩,rf,_⟩:=OXw9.out
   obtain ⟨⟨q0,q1,q2,q3,q4,q5,q6⟩,qf,_⟩:=QXw9.out
   go_wp2
   refine bodyPost_ret (v:=.agg #[.int .i64 (1+x1),.int .i64 (x2),.int .i64 (x3),.int .i64 (1+x4),.int .i64 (x5),.int .i64 (1+x6),.int .i64 (z)]) (by simp[results,Tryz.results126,go_sem,q0,q1,q2,q3,q4,q5,q6]) rfl ⟨⟨1+x1,x2,x3,1+x4,x5,1+x6,z⟩,rfl,?_,?_⟩
   ·repeat (refine Rd.setFar ?_ (by omega) _)
    exact RXw9.out
   ·repeat (refine Stp.far ?_ (by omega) _ _)
    exact SXw9.out
  have y28b:(y == 28)=false:=by simp[y28]
  by_cases y29:y=29
  ·subst y29
   go_wp2_with fail
   refine (rd_off B a len cap 0 3000000 _ (RXw8.out) (by omega) (by omega) (by omega)).mono ?_
   rintro e w9 ⟨z,rfl,RN,SN⟩
   have RXw9:=hidOf RN
   have QXw9:Hid (Box7 w9 w.heap.size (.int .i64 0) (.int .i64 0) (.int .i64 0) (.int .i64 0) (.int .i64 0) (.int .i64 0) (.int .i64 0)):=(QXw8.out).stp SN hQB
   have SXw9:=hidOf ((SXw8.out).trans SN)
   have OXw9:Hid (Box7 w9 w7.heap.size (.int .i64 (1+x1)) (.int .i64 (x2)) (.int .i64 (x3)) (.int .i64 (1+x4)) (.int .i64 (x5)) (.int .i64 (1+x6)) (.int .i64 (1+x7))):=OXw8.out.stp SN hRB
   clear RN SN RXw8 QXw8 SXw8 OXw8
   obtain ⟨⟨r0,r1,r2,r3,r4,r5,r6⟩,rf,_⟩:=OXw9.out
   obtain ⟨⟨q0,q1,q2,q3,q4,q5,q6⟩,qf,_⟩:=QXw9.out
   go_wp2
   refine bodyPost_ret (v:=.agg #[.int .i64 (1+x1),.int .i64 (x2),.int .i64 (x3),.int .i64 (1+x4),.int .i64 (z),.int .i64 (1+x6),.int .i64 (1+x7)]) (by simp[results,Tryz.results126,go_sem,q0,q1,q2,q3,q4,q5,q6]) rfl ⟨⟨1+x1,x2,x3,1+x4,z,1+x6,1+x7⟩,rfl,?_,?_⟩
   ·repeat (refine Rd.setFar ?_ (by omega) _)
    exact RXw9.out
   ·repeat (refine Stp.far ?_ (by omega) _ _)
    exact SXw9.out
  have y29b:(y == 29)=false:=by simp[y29]
  obtain ⟨⟨r0,r1,r2,r3,r4,r5,r6⟩,rf,_⟩:=OXw8.out
  obtain ⟨⟨q0,q1,q2,q3,q4,q5,q6⟩,qf,_⟩:=QXw8.out
  go_wp2
  refine bodyPost_ret (v:=.agg #[.int .i64 (1+x1),.int .i64 (x2),.int .i64 (x3),.int .i64 (1+x4),.int .i64 (x5),.int .i64 (1+x6),.int .i64 (1+x7)]) (by simp[results,Tryz.results126,go_sem,q0,q1,q2,q3,q4,q5,q6]) rfl ⟨⟨1+x1,x2,x3,1+x4,x5,1+x6,1+x7⟩,rfl,?_,?_⟩
  ·repeat (refine Rd.setFar ?_ (by omega) _)
   exact RXw8.out
  ·repeat (refine Stp.far ?_ (by omega) _ _)
   exact SXw8.out
theorem Vals.stp {B:Nat} {w w':World} {R:Nat} {vs:List Value} (h:Vals w R vs) (hs:Stp B w w') (hR:R≠B):Vals w' R vs:=⟨fun j v hj=>(hs.cell (p:=⟨R,j,none⟩) h.2.2 hR).trans (h.1 j v hj),fun o=>(hs.frozen (p:=⟨R,o,none⟩) h.2.2 hR).trans (h.2.1 o),Nat.lt_of_lt_of_le h.2.2 hs.size⟩
theorem rd_bop (B:Nat) (a:Option Addr) (len cap:Nat) (w:World) (hp:Rd w B a len cap):
  Calls Tryz.prog 80 #[.pointer (some ⟨B,0,none⟩)] w fun e w'=>∃(K n:Int) (x:OpF) (o:Ord),e=.returned (.agg #[.int .i64 K,.int .i64 x.k,.int .i64 x.i,.int .i64 x.t,.int .i64 x.m,.int .i64 x.r,.int .i64 o.id,.int .i64 o.src,.int .i64 o.dst,.int .i64 o.amount,.int .i64 o.first,.int .i64 o.every,.int .i64 o.times,.int .i64 n])/\Rd w' B a len cap/\Stp B w w':=by
 have hBw:B<w.heap.size:=hp.2.2.2.1
 obtain ⟨q,hq⟩:∃q,w.heap.size=q:=⟨_,rfl⟩
 obtain ⟨W0,hW0,X0⟩:∃W0,W0=w.alloc (.cells ([.int .i64 0,.int .i64 0,.int .i64 0,.int .i64 0,.int .i64 0,.int .i64 0,.int .i64 0,.int .i64 0,.int .i64 0,.int .i64 0,.int .i64 0,.int .i64 0,.int .i64 0,.int .i64 0]:List Value).toArray 51)/\Hid (Vals W0 q [.int .i64 0,.int .i64 0,.int .i64 0,.int .i64 0,.int .i64 0,.int .i64 0,.int .i64 0,.int .i64 0,.int .i64 0,.int .i64 0,.int .i64 0,.int .i64 0,.int .i64 0,.int .i64 0]/\Rd W0 B a len cap/\Stp B w W0):=⟨_,rfl,by rw[←hq];exact Vals.new _ _ _,hp.alloc _,(Stp.refl B w).alloc _⟩
 have HW0:Hid (W0=w.alloc (.cells #[.int .i64 0,.int .i64 0,.int .i64 0,.int .i64 0,.int .i64 0,.int .i64 0,.int .i64 0,.int .i64 0,.int .i64 0,.int .i64 0,.int .i64 0,.int .i64 0,.int .i64 0,.int .i64 0] 51)):=hW0
 clear hW0 hp
 have hqB:B<q:=by omega
 have hwq:w.heap.size<=q:=by omega
 go_enter Tryz.func80,Tryz.ntmps80
 go_upto_region 1 with fail
 rw[←HW0.out]
 try rw[hq]
 clear HW0 hq hBw
 go_wp2_with fail
 refine (rd_below B a len cap 8 _ X0.out.2.1 (by omega) (by omega)).mono ?_
 rintro e w1 ⟨y,rfl,y1,y2,RN,SN⟩
 have X1:Hid (Vals w1 q [.int .i64 0,.int .i64 0,.int .i64 0,.int .i64 0,.int .i64 0,.int .i64 0,.int .i64 0,.int .i64 0,.int .i64 0,.int .i64 0,.int .i64 0,.int .i64 0,.int .i64 0,.int .i64 0]/\Rd w1 B a len cap/\Stp B w w1):=⟨X0.out.1.stp SN (by omega),RN,X0.out.2.2.trans SN⟩
 clear RN SN X0
 by_cases c0:y=0
 ·subst c0
  have r0:=X1.out.1.1 0 _ rfl
  have r1:=X1.out.1.1 1 _ rfl
  have r2:=X1.out.1.1 2 _ rfl
  have r3:=X1.out.1.1 3 _ rfl
  have r4:=X1.out.1.1 4 _ rfl
  have r5:=X1.out.1.1 5 _ rfl
  have r6:=X1.out.1.1 6 _ rfl
  have r7:=X1.out.1.1 7 _ rfl
  have r8:=X1.out.1.1 8 _ rfl
  have r9:=X1.out.1.1 9 _ rfl
  have r10:=X1.out.1.1 10 _ rfl
  have r11:=X1.out.1.1 11 _ rfl
  have r12:=X1.out.1.1 12 _ rfl
  have r13:=X1.out.1.1 13 _ rfl
  have fz:=X1.out.1.2.1
  go_wp2
  refine bodyPost_ret (v:=.agg #[.int .i64 22,.int .i64 0,.int .i64 0,.int .i64 0,.int .i64 0,.int .i64 0,.int .i64 0,.int .i64 0,.int .i64 0,.int .i64 0,.int .i64 0,.int .i64 0,.int .i64 0,.int .i64 0]) (by simp[results,Tryz.results80,go_sem,r0,r1,r2,r3,r4,r5,r6,r7,r8,r9,r10,r11,r12,r13]) rfl ⟨22,0,⟨0,0,0,0,0⟩,⟨0,0,0,0,0,0,0⟩,rfl,?_,?_⟩
  ·repeat (refine Rd.setFar ?_ (by omega) _)
   exact X1.out.2.1
  ·repeat (refine Stp.far ?_ (by omega) _ _)
   exact X1.out.2.2
 by_cases c1:y=1
 ·subst c1
  have r0:=X1.out.1.1 0 _ rfl
  have r1:=X1.out.1.1 1 _ rfl
  have r2:=X1.out.1.1 2 _ rfl
  have r3:=X1.out.1.1 3 _ rfl
  have r4:=X1.out.1.1 4 _ rfl
  have r5:=X1.out.1.1 5 _ rfl
  have r6:=X1.out.1.1 6 _ rfl
  have r7:=X1.out.1.1 7 _ rfl
  have r8:=X1.out.1.1 8 _ rfl
  have r9:=X1.out.1.1 9 _ rfl
  have r10:=X1.out.1.1 10 _ rfl
  have r11:=X1.out.1.1 11 _ rfl
  have r12:=X1.out.1.1 12 _ rfl
  have r13:=X1.out.1.1 13 _ rfl
  have fz:=X1.out.1.2.1
  go_wp2
  refine bodyPost_ret (v:=.agg #[.int .i64 22,.int .i64 0,.int .i64 0,.int .i64 0,.int .i64 0,.int .i64 0,.int .i64 0,.int .i64 0,.int .i64 0,.int .i64 0,.int .i64 0,.int .i64 0,.int .i64 0,.int .i64 0]) (by simp[results,Tryz.results80,go_sem,r0,r1,r2,r3,r4,r5,r6,r7,r8,r9,r10,r11,r12,r13]) rfl ⟨22,0,⟨0,0,0,0,0⟩,⟨0,0,0,0,0,0,0⟩,rfl,?_,?_⟩
  ·repeat (refine Rd.setFar ?_ (by omega) _)
   exact X1.out.2.1
  ·repeat (refine Stp.far ?_ (by omega) _ _)
   exact X1.out.2.2
 have b0:(y == 0)=false:=by simp[c0]
 have b1:(y == 1)=false:=by simp[c1]
 by_cases c2:y=2
 ·subst c2
  go_wp2_with fail
  refine (rd_order B a len cap _ X1.out.2.1).mono ?_
  rintro e w5 ⟨o5,rfl,RN,SN⟩
  have X5:Hid (Vals w5 q [.int .i64 0,.int .i64 0,.int .i64 0,.int .i64 0,.int .i64 0,.int .i64 0,.int .i64 0,.int .i64 0,.int .i64 0,.int .i64 0,.int .i64 0,.int .i64 0,.int .i64 0,.int .i64 0]/\Rd w5 B a len cap/\Stp B w w5):=⟨X1.out.1.stp SN (by omega),RN,X1.out.2.2.trans SN⟩
  clear RN SN X1
  have r0:=X5.out.1.1 0 _ rfl
  have r1:=X5.out.1.1 1 _ rfl
  have r2:=X5.out.1.1 2 _ rfl
  have r3:=X5.out.1.1 3 _ rfl
  have r4:=X5.out.1.1 4 _ rfl
  have r5:=X5.out.1.1 5 _ rfl
  have r6:=X5.out.1.1 6 _ rfl
  have r7:=X5.out.1.1 7 _ rfl
  have r8:=X5.out.1.1 8 _ rfl
  have r9:=X5.out.1.1 9 _ rfl
  have r10:=X5.out.1.1 10 _ rfl
  have r11:=X5.out.1.1 11 _ rfl
  have r12:=X5.out.1.1 12 _ rfl
  have r13:=X5.out.1.1 13 _ rfl
  have fz:=X5.out.1.2.1
  go_wp2
  refine bodyPost_ret (v:=.agg #[.int .i64 20,.int .i64 0,.int .i64 0,.int .i64 0,.int .i64 0,.int .i64 0,.int .i64 o5.id,.int .i64 o5.src,.int .i64 o5.dst,.int .i64 o5.amount,.int .i64 o5.first,.int .i64 o5.every,.int .i64 o5.times,.int .i64 0]) (by simp[results,Tryz.results80,go_sem,r0,r1,r2,r3,r4,r5,r6,r7,r8,r9,r10,r11,r12,r13]) rfl ⟨20,0,⟨0,0,0,0,0⟩,⟨o5.id,o5.src,o5.dst,o5.amount,o5.first,o5.every,o5.times⟩,rfl,?_,?_⟩
  ·repeat (refine Rd.setFar ?_ (by omega) _)
   exact X5.out.2.1
  ·repeat (refine Stp.far ?_ (by omega) _ _)
   exact X5.out.2.2
 have b2:(y == 2)=false:=by simp[c2]
 by_cases c3:y=3
 ·subst c3
  go_wp2_with fail
  refine (rd_once B a len cap 2 _ X1.out.2.1 (by omega) (by omega)).mono ?_
  rintro e w4 ⟨bo,rfl,RN,SN⟩
  have X4:Hid (Vals w4 q [.int .i64 0,.int .i64 0,.int .i64 0,.int .i64 0,.int .i64 0,.int .i64 0,.int .i64 0,.int .i64 0,.int .i64 0,.int .i64 0,.int .i64 0,.int .i64 0,.int .i64 0,.int .i64 0]/\Rd w4 B a len cap/\Stp B w w4):=⟨X1.out.1.stp SN (by omega),RN,X1.out.2.2.trans SN⟩
  clear RN SN X1
  cases bo with
  | true=>
   go_wp2_with fail
   refine (rd_below B a len cap 4 _ X4.out.2.1 (by omega) (by omega)).mono ?_
   rintro e w5 ⟨z,rfl,z1,z2,RN,SN⟩
   have X5:Hid (Vals w5 q [.int .i64 0,.int .i64 0,.int .i64 0,.int .i64 0,.int .i64 0,.int .i64 0,.int .i64 0,.int .i64 0,.int .i64 0,.int .i64 0,.int .i64 0,.int .i64 0,.int .i64 0,.int .i64 0]/\Rd w5 B a len cap/\Stp B w w5):=⟨X4.out.1.stp SN (by omega),RN,X4.out.2.2.trans SN⟩
   clear RN SN X4
   have r0:=X5.out.1.1 0 _ rfl
   have r1:=X5.out.1.1 1 _ rfl
   have r2:=X5.out.1.1 2 _ rfl
   have r3:=X5.out.1.1 3 _ rfl
   have r4:=X5.out.1.1 4 _ rfl
   have r5:=X5.out.1.1 5 _ rfl
   have r6:=X5.out.1.1 6 _ rfl
   have r7:=X5.out.1.1 7 _ rfl
   have r8:=X5.out.1.1 8 _ rfl
   have r9:=X5.out.1.1 9 _ rfl
   have r10:=X5.out.1.1 10 _ rfl
   have r11:=X5.out.1.1 11 _ rfl
   have r12:=X5.out.1.1 12 _ rfl
   have r13:=X5.out.1.1 13 _ rfl
   have fz:=X5.out.1.2.1
   go_wp2
   refine bodyPost_ret (v:=.agg #[.int .i64 21,.int .i64 0,.int .i64 0,.int .i64 0,.int .i64 0,.int .i64 0,.int .i64 0,.int .i64 0,.int .i64 0,.int .i64 0,.int .i64 0,.int .i64 0,.int .i64 0,.int .i64 (1+z)]) (by simp[results,Tryz.results80,go_sem,r0,r1,r2,r3,r4,r5,r6,r7,r8,r9,r10,r11,r12,r13]) rfl ⟨21,(1+z),⟨0,0,0,0,0⟩,⟨0,0,0,0,0,0,0⟩,rfl,?_,?_⟩
   ·repeat (refine Rd.setFar ?_ (by omega) _)
    exact X5.out.2.1
   ·repeat (refine Stp.far ?_ (by omega) _ _)
    exact X5.out.2.2
  | false=>
   go_wp2_with fail
   refine (rd_op B a len cap _ X4.out.2.1).mono ?_
   rintro e w5 ⟨k5,i5,t5,m5,r5',rfl,RN,SN⟩
   have X5:Hid (Vals w5 q [.int .i64 0,.int .i64 0,.int .i64 0,.int .i64 0,.int .i64 0,.int .i64 0,.int .i64 0,.int .i64 0,.int .i64 0,.int .i64 0,.int .i64 0,.int .i64 0,.int .i64 0,.int .i64 0]/\Rd w5 B a len cap/\Stp B w w5):=⟨X4.out.1.stp SN (by omega),RN,X4.out.2.2.trans SN⟩
   clear RN SN X4
   have r0:=X5.out.1.1 0 _ rfl
   have r1:=X5.out.1.1 1 _ rfl
   have r2:=X5.out.1.1 2 _ rfl
   have r3:=X5.out.1.1 3 _ rfl
   have r4:=X5.out.1.1 4 _ rfl
   have r5:=X5.out.1.1 5 _ rfl
   have r6:=X5.out.1.1 6 _ rfl
   have r7:=X5.out.1.1 7 _ rfl
   have r8:=X5.out.1.1 8 _ rfl
   have r9:=X5.out.1.1 9 _ rfl
   have r10:=X5.out.1.1 10 _ rfl
   have r11:=X5.out.1.1 11 _ rfl
   have r12:=X5.out.1.1 12 _ rfl
   have r13:=X5.out.1.1 13 _ rfl
   have fz:=X5.out.1.2.1
   go_wp2
   refine bodyPost_ret (v:=.agg #[.int .i64 19,.int .i64 k5,.int .i64 i5,.int .i64 t5,.int .i64 m5,.int .i64 r5',.int .i64 0,.int .i64 0,.int .i64 0,.int .i64 0,.int .i64 0,.int .i64 0,.int .i64 0,.int .i64 0]) (by simp[results,Tryz.results80,go_sem,r0,r1,r2,r3,r4,r5,r6,r7,r8,r9,r10,r11,r12,r13]) rfl ⟨19,0,⟨k5,i5,t5,m5,r5'⟩,⟨0,0,0,0,0,0,0⟩,rfl,?_,?_⟩
   ·repeat (refine Rd.setFar ?_ (by omega) _)
    exact X5.out.2.1
   ·repeat (refine Stp.far ?_ (by omega) _ _)
    exact X5.out.2.2
 have b3:(y == 3)=false:=by simp[c3]
 go_wp2_with fail
 refine (rd_op B a len cap _ X1.out.2.1).mono ?_
 rintro e w5 ⟨k5,i5,t5,m5,r5',rfl,RN,SN⟩
 have X5:Hid (Vals w5 q [.int .i64 0,.int .i64 0,.int .i64 0,.int .i64 0,.int .i64 0,.int .i64 0,.int .i64 0,.int .i64 0,.int .i64 0,.int .i64 0,.int .i64 0,.int .i64 0,.int .i64 0,.int .i64 0]/\Rd w5 B a len cap/\Stp B w w5):=⟨X1.out.1.stp SN (by omega),RN,X1.out.2.2.trans SN⟩
 clear RN SN X1
 have r0:=X5.out.1.1 0 _ rfl
 have r1:=X5.out.1.1 1 _ rfl
 have r2:=X5.out.1.1 2 _ rfl
 have r3:=X5.out.1.1 3 _ rfl
 have r4:=X5.out.1.1 4 _ rfl
 have r5:=X5.out.1.1 5 _ rfl
 have r6:=X5.out.1.1 6 _ rfl
 have r7:=X5.out.1.1 7 _ rfl
 have r8:=X5.out.1.1 8 _ rfl
 have r9:=X5.out.1.1 9 _ rfl
 have r10:=X5.out.1.1 10 _ rfl
 have r11:=X5.out.1.1 11 _ rfl
 have r12:=X5.out.1.1 12 _ rfl
 have r13:=X5.out.1.1 13 _ rfl
 have fz:=X5.out.1.2.1
 go_wp2
 refine bodyPost_ret (v:=.agg #[.int .i64 19,.int .i64 k5,.int .i64 i5,.int .i64 t5,.int .i64 m5,.int .i64 r5',.int .i64 0,.int .i64 0,.int .i64 0,.int .i64 0,.int .i64 0,.int .i64 0,.int .i64 0,.int .i64 0]) (by simp[results,Tryz.results80,go_sem,r0,r1,r2,r3,r4,r5,r6,r7,r8,r9,r10,r11,r12,r13]) rfl ⟨19,0,⟨k5,i5,t5,m5,r5'⟩,⟨0,0,0,0,0,0,0⟩,rfl,?_,?_⟩
 ·repeat (refine Rd.setFar ?_ (by omega) _)
  exact X5.out.2.1
 ·repeat (refine Stp.far ?_ (by omega) _ _)
  exact X5.out.2.2
theorem specNew (day:Int) (h0:0<=day) (h1:day<=3000000) (w:World):Calls Tryz.prog 112 #[.int .i64 day] w fun e w'=>e=.returned (.tuple #[.agg #[.int .i64 day,.slice none 0 0,.slice none 0 0,.int .i64 0,.int .i64 0,.int .i64 0,.int .i64 0],.bool true])/\Below w.heap.size w w':=by
 obtain ⟨q,hq⟩:∃q,w.heap.size=q:=⟨_,rfl⟩
 obtain ⟨W0,hW0,X0⟩:∃W0,W0=w.alloc (.cells #[.int .i64 0,.slice none 0 0,.slice none 0 0,.int .i64 0,.int .i64 0,.int .i64 0,.int .i64 0] 38)/\Hid (Box7 W0 q (.int .i64 0) (.slice none 0 0) (.slice none 0 0) (.int .i64 0) (.int .i64 0) (.int .i64 0) (.int .i64 0)/\Below q w W0):=⟨_,rfl,by rw[←hq];exact Box7.new w _ _ _ _ _ _ _ 38,by rw[←hq];exact (Below.refl _ _).alloc (Nat.le_refl _) _⟩
 have HW0:=hidOf hW0
 have HQ:=hidOf hq
 clear hW0
 go_enter Tryz.func112,Tryz.ntmps112
 go_upto_region 1 with fail
 rw[←HW0.out]
 try rw[hq]
 clear HW0 hq
 obtain ⟨⟨r0,r1,r2,r3,r4,r5,r6⟩,rf,rz⟩:=X0.out.1
 go_wp2_with (go_at_call 85;refine (l1In_yes day 0 3000000 _ ⟨h0,h1⟩).mono ?_;rintro e w9 ⟨rfl,hw9⟩;subst w9)
 refine bodyPost_ret (v:=.tuple #[.agg #[.int .i64 day,.slice none 0 0,.slice none 0 0,.int .i64 0,.int .i64 0,.int .i64 0,.int .i64 0],.bool true]) (by simp[results,Tryz.results112,go_sem,r0,r1,r2,r3,r4,r5,r6]) rfl ⟨rfl,?_⟩
 rw[HQ.out]
 repeat (refine below_far ?_ (by omega) _ _)
 exact X0.out.2
end Go.Proofs.YtghkbhggopiajaaGreatDoor
