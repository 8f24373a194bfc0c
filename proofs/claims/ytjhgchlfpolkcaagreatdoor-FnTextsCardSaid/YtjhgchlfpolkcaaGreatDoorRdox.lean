/- The draws of an order, of an op of a bank and of a bank. -/
import Derived.Test.YtjhgchlfpolkcaaGreatDoorRanPx
import Derived.Test.YtjhgchlfpolkcaaGreatDoorHrtx
import Derived.Deep.DeepCutAuto
namespace Go.Proofs.YtjhgchlfpolkcaaGreatDoor
open Value renaming int → Ii,slice → Sl
open IntKind renaming i64 → Jj
set_option maxRecDepth 8000
set_option maxHeartbeats 8000000
open Go.RowKit
theorem af.stp {B:Nat} {w w':World} {R:Nat} {v0 v1 v2 v3 v4 v5 v6:Value} (h:af w R v0 v1 v2 v3 v4 v5 v6) (hs:an B w w') (hR:R≠B):af w' R v0 v1 v2 v3 v4 v5 v6:=by
 obtain ⟨⟨h0,h1,h2,h3,h4,h5,h6⟩,hf,hz⟩:=h
 exact ⟨⟨by rw[hs.cell (p:=⟨R,0,none⟩) hz hR];exact h0,by rw[hs.cell (p:=⟨R,1,none⟩) hz hR];exact h1,by rw[hs.cell (p:=⟨R,2,none⟩) hz hR];exact h2,by rw[hs.cell (p:=⟨R,3,none⟩) hz hR];exact h3,by rw[hs.cell (p:=⟨R,4,none⟩) hz hR];exact h4,by rw[hs.cell (p:=⟨R,5,none⟩) hz hR];exact h5,by rw[hs.cell (p:=⟨R,6,none⟩) hz hR];exact h6⟩,fun o=>by rw[hs.frozen (p:=⟨R,o,none⟩) hz hR];exact hf o,Nat.lt_of_lt_of_le hz hs.size⟩
theorem af.alloc {w:World} {R:Nat} {v0 v1 v2 v3 v4 v5 v6:Value} (h:af w R v0 v1 v2 v3 v4 v5 v6) (x:Obj):af (w.alloc x) R v0 v1 v2 v3 v4 v5 v6:=h.kept ((Below.refl _ _).alloc (Nat.le_refl _) x) h.2.2
theorem re (B:Nat) (a:Option Addr) (len cap:Nat) (w:World) (h:Rd w B a len cap):
  Calls Tryz.prog 63 #[.pointer (some ⟨B,0,none⟩)] w fun e w'=>∃o:am,e=.returned (.agg #[Ii Jj o.id,Ii Jj o.src,Ii Jj o.dst,Ii Jj o.amount,Ii Jj o.first,Ii Jj o.every,Ii Jj o.times])/\Rd w' B a len cap/\an B w w':=by
 have hBw:B<w.heap.size:=h.2.2.2.1
 have hQB:w.heap.size≠B:=by omega
 have RXW:Hid (Rd (w.alloc (.cells #[Ii Jj 0,Ii Jj 0,Ii Jj 0,Ii Jj 0,Ii Jj 0,Ii Jj 0,Ii Jj 0] 35)) B a len cap):=h.alloc _
 have QXW:Hid (af (w.alloc (.cells #[Ii Jj 0,Ii Jj 0,Ii Jj 0,Ii Jj 0,Ii Jj 0,Ii Jj 0,Ii Jj 0] 35)) w.heap.size (Ii Jj 0) (Ii Jj 0) (Ii Jj 0) (Ii Jj 0) (Ii Jj 0) (Ii Jj 0) (Ii Jj 0)):=af.new w (Ii Jj 0) (Ii Jj 0) (Ii Jj 0) (Ii Jj 0) (Ii Jj 0) (Ii Jj 0) (Ii Jj 0) 35
 have SXW:Hid (an B w (w.alloc (.cells #[Ii Jj 0,Ii Jj 0,Ii Jj 0,Ii Jj 0,Ii Jj 0,Ii Jj 0,Ii Jj 0] 35))):=(an.refl B w).alloc _
 clear h
 go_enter Tryz.func63,Tryz.ntmps63
 go_wp2_with fail
 refine (aq B a len cap 4 _ (RXW.out) (by omega) (by omega)).mono ?_
 rintro e w1 ⟨x1,rfl,x11,x12,RN,SN⟩
 have RXw1:Hid (Rd w1 B a len cap):=RN
 have QXw1:Hid (af w1 w.heap.size (Ii Jj 0) (Ii Jj 0) (Ii Jj 0) (Ii Jj 0) (Ii Jj 0) (Ii Jj 0) (Ii Jj 0)):=(QXW.out).stp SN hQB
 have SXw1:Hid (an B w w1):=(SXW.out).trans SN
 clear RN SN RXW QXW SXW
 go_wp2_with fail
 refine (iq B a len cap _ (RXw1.out)).mono ?_
 rintro e w2 ⟨x2,rfl,x21,x22,RN,SN⟩
 have RXw2:Hid (Rd w2 B a len cap):=RN
 have QXw2:Hid (af w2 w.heap.size (Ii Jj 0) (Ii Jj 0) (Ii Jj 0) (Ii Jj 0) (Ii Jj 0) (Ii Jj 0) (Ii Jj 0)):=(QXw1.out).stp SN hQB
 have SXw2:Hid (an B w w2):=(SXw1.out).trans SN
 clear RN SN RXw1 QXw1 SXw1
 go_wp2_with fail
 refine (iq B a len cap _ (RXw2.out)).mono ?_
 rintro e w3 ⟨x3,rfl,x31,x32,RN,SN⟩
 have RXw3:Hid (Rd w3 B a len cap):=RN
 have QXw3:Hid (af w3 w.heap.size (Ii Jj 0) (Ii Jj 0) (Ii Jj 0) (Ii Jj 0) (Ii Jj 0) (Ii Jj 0) (Ii Jj 0)):=(QXw2.out).stp SN hQB
 have SXw3:Hid (an B w w3):=(SXw2.out).trans SN
 clear RN SN RXw2 QXw2 SXw2
 go_wp2_with fail
 refine (aq B a len cap 50 _ (RXw3.out) (by omega) (by omega)).mono ?_
 rintro e w4 ⟨x4,rfl,x41,x42,RN,SN⟩
 have RXw4:Hid (Rd w4 B a len cap):=RN
 have QXw4:Hid (af w4 w.heap.size (Ii Jj 0) (Ii Jj 0) (Ii Jj 0) (Ii Jj 0) (Ii Jj 0) (Ii Jj 0) (Ii Jj 0)):=(QXw3.out).stp SN hQB
 have SXw4:Hid (an B w w4):=(SXw3.out).trans SN
 clear RN SN RXw3 QXw3 SXw3
 go_wp2_with fail
 refine (aq B a len cap 12 _ (RXw4.out) (by omega) (by omega)).mono ?_
 rintro e w5 ⟨x5,rfl,x51,x52,RN,SN⟩
 have RXw5:Hid (Rd w5 B a len cap):=RN
 have QXw5:Hid (af w5 w.heap.size (Ii Jj 0) (Ii Jj 0) (Ii Jj 0) (Ii Jj 0) (Ii Jj 0) (Ii Jj 0) (Ii Jj 0)):=(QXw4.out).stp SN hQB
 have SXw5:Hid (an B w w5):=(SXw4.out).trans SN
 clear RN SN RXw4 QXw4 SXw4
 go_wp2_with fail
 refine (aq B a len cap 4 _ (RXw5.out) (by omega) (by omega)).mono ?_
 rintro e w6 ⟨x6,rfl,x61,x62,RN,SN⟩
 have RXw6:Hid (Rd w6 B a len cap):=RN
 have QXw6:Hid (af w6 w.heap.size (Ii Jj 0) (Ii Jj 0) (Ii Jj 0) (Ii Jj 0) (Ii Jj 0) (Ii Jj 0) (Ii Jj 0)):=(QXw5.out).stp SN hQB
 have SXw6:Hid (an B w w6):=(SXw5.out).trans SN
 clear RN SN RXw5 QXw5 SXw5
 go_wp2_with fail
 refine (aq B a len cap 4 _ (RXw6.out) (by omega) (by omega)).mono ?_
 rintro e w7 ⟨x7,rfl,x71,x72,RN,SN⟩
 have RXw7:Hid (Rd w7 B a len cap):=RN
 have QXw7:Hid (af w7 w.heap.size (Ii Jj 0) (Ii Jj 0) (Ii Jj 0) (Ii Jj 0) (Ii Jj 0) (Ii Jj 0) (Ii Jj 0)):=(QXw6.out).stp SN hQB
 have SXw7:Hid (an B w w7):=(SXw6.out).trans SN
 clear RN SN RXw6 QXw6 SXw6
 have hwR:w.heap.size<=w7.heap.size:=SXw7.out.size
 have hwQ:w.heap.size<w7.heap.size:=QXw7.out.2.2
 have hRB:w7.heap.size≠B:=by omega
 by_cases hx:x2=x3
 ·have hxb:(x2 == x3)=true:=by simp[hx]
  clear hx
  go_wp2_with fail
  refine (aq B a len cap 30 _ (RXw7.out.alloc _) (by omega) (by omega)).mono ?_
  rintro e w8 ⟨y,rfl,y1,y2,RN,SN⟩
  have RXw8:Hid (Rd w8 B a len cap):=RN
  have QXw8:Hid (af w8 w.heap.size (Ii Jj 0) (Ii Jj 0) (Ii Jj 0) (Ii Jj 0) (Ii Jj 0) (Ii Jj 0) (Ii Jj 0)):=(QXw7.out.alloc _).stp SN hQB
  have SXw8:Hid (an B w w8):=(SXw7.out.alloc _).trans SN
  have OXw8:Hid (af w8 w7.heap.size (Ii Jj (1+x1)) (Ii Jj (x2)) (Ii Jj (x2 % 6+1)) (Ii Jj (1+x4)) (Ii Jj (x5)) (Ii Jj (1+x6)) (Ii Jj (1+x7))):=(af.new w7 (Ii Jj (1+x1)) (Ii Jj (x2)) (Ii Jj (x2 % 6+1)) (Ii Jj (1+x4)) (Ii Jj (x5)) (Ii Jj (1+x6)) (Ii Jj (1+x7)) 35).stp SN hRB
  clear RN SN RXw7 QXw7 SXw7
  by_cases y27:y=27
  ·subst y27
   go_wp2_with fail
   refine (aV B a len cap 1 366 _ (RXw8.out) (by omega) (by omega) (by omega)).mono ?_
   rintro e w9 ⟨z,rfl,RN,SN⟩
   have RXw9:Hid (Rd w9 B a len cap):=RN
   have QXw9:Hid (af w9 w.heap.size (Ii Jj 0) (Ii Jj 0) (Ii Jj 0) (Ii Jj 0) (Ii Jj 0) (Ii Jj 0) (Ii Jj 0)):=(QXw8.out).stp SN hQB
   have SXw9:Hid (an B w w9):=(SXw8.out).trans SN
   have OXw9:Hid (af w9 w7.heap.size (Ii Jj (1+x1)) (Ii Jj (x2)) (Ii Jj (x2 % 6+1)) (Ii Jj (1+x4)) (Ii Jj (x5)) (Ii Jj (1+x6)) (Ii Jj (1+x7))):=OXw8.out.stp SN hRB
   clear RN SN RXw8 QXw8 SXw8 OXw8
   obtain ⟨⟨r0,r1,r2,r3,r4,r5,r6⟩,rf,_⟩:=OXw9.out
   obtain ⟨⟨q0,q1,q2,q3,q4,q5,q6⟩,qf,_⟩:=QXw9.out
   go_wp2
   refine bodyPost_ret (v:=.agg #[Ii Jj (1+x1),Ii Jj (x2),Ii Jj (x2 % 6+1),Ii Jj (1+x4),Ii Jj (x5),Ii Jj (z),Ii Jj (1+x7)]) (by simp[results,Tryz.results63,go_sem,q0,q1,q2,q3,q4,q5,q6]) rfl ⟨⟨1+x1,x2,x2 % 6+1,1+x4,x5,z,1+x7⟩,rfl,?_,?_⟩
   ·repeat (refine Rd.setFar ?_ (by omega) _)
    exact RXw9.out
   ·repeat (refine an.far ?_ (by omega) _ _)
    exact SXw9.out
  have y27b:(y == 27)=false:=by simp[y27]
  by_cases y28:y=28
  ·subst y28
   go_wp2_with fail
   refine (aV B a len cap 1 1000 _ (RXw8.out) (by omega) (by omega) (by omega)).mono ?_
   rintro e w9 ⟨z,rfl,RN,SN⟩
   have RXw9:Hid (Rd w9 B a len cap):=RN
   have QXw9:Hid (af w9 w.heap.size (Ii Jj 0) (Ii Jj 0) (Ii Jj 0) (Ii Jj 0) (Ii Jj 0) (Ii Jj 0) (Ii Jj 0)):=(QXw8.out).stp SN hQB
   have SXw9:Hid (an B w w9):=(SXw8.out).trans SN
   have OXw9:Hid (af w9 w7.heap.size (Ii Jj (1+x1)) (Ii Jj (x2)) (Ii Jj (x2 % 6+1)) (Ii Jj (1+x4)) (Ii Jj (x5)) (Ii Jj (1+x6)) (Ii Jj (1+x7))):=OXw8.out.stp SN hRB
   clear RN SN RXw8 QXw8 SXw8 OXw8
   obtain ⟨⟨r0,r1,r2,r3,r4,r5,r6⟩,rf,_⟩:=OXw9.out
   obtain ⟨⟨q0,q1,q2,q3,q4,q5,q6⟩,qf,_⟩:=QXw9.out
   go_wp2
   refine bodyPost_ret (v:=.agg #[Ii Jj (1+x1),Ii Jj (x2),Ii Jj (x2 % 6+1),Ii Jj (1+x4),Ii Jj (x5),Ii Jj (1+x6),Ii Jj (z)]) (by simp[results,Tryz.results63,go_sem,q0,q1,q2,q3,q4,q5,q6]) rfl ⟨⟨1+x1,x2,x2 % 6+1,1+x4,x5,1+x6,z⟩,rfl,?_,?_⟩
   ·repeat (refine Rd.setFar ?_ (by omega) _)
    exact RXw9.out
   ·repeat (refine an.far ?_ (by omega) _ _)
    exact SXw9.out
  have y28b:(y == 28)=false:=by simp[y28]
  by_cases y29:y=29
  ·subst y29
   go_wp2_with fail
   refine (aV B a len cap 0 3000000 _ (RXw8.out) (by omega) (by omega) (by omega)).mono ?_
   rintro e w9 ⟨z,rfl,RN,SN⟩
   have RXw9:Hid (Rd w9 B a len cap):=RN
   have QXw9:Hid (af w9 w.heap.size (Ii Jj 0) (Ii Jj 0) (Ii Jj 0) (Ii Jj 0) (Ii Jj 0) (Ii Jj 0) (Ii Jj 0)):=(QXw8.out).stp SN hQB
   have SXw9:Hid (an B w w9):=(SXw8.out).trans SN
   have OXw9:Hid (af w9 w7.heap.size (Ii Jj (1+x1)) (Ii Jj (x2)) (Ii Jj (x2 % 6+1)) (Ii Jj (1+x4)) (Ii Jj (x5)) (Ii Jj (1+x6)) (Ii Jj (1+x7))):=OXw8.out.stp SN hRB
   clear RN SN RXw8 QXw8 SXw8 OXw8
   obtain ⟨⟨r0,r1,r2,r3,r4,r5,r6⟩,rf,_⟩:=OXw9.out
   obtain ⟨⟨q0,q1,q2,q3,q4,q5,q6⟩,qf,_⟩:=QXw9.out
   go_wp2
   refine bodyPost_ret (v:=.agg #[Ii Jj (1+x1),Ii Jj (x2),Ii Jj (x2 % 6+1),Ii Jj (1+x4),Ii Jj (z),Ii Jj (1+x6),Ii Jj (1+x7)]) (by simp[results,Tryz.results63,go_sem,q0,q1,q2,q3,q4,q5,q6]) rfl ⟨⟨1+x1,x2,x2 % 6+1,1+x4,z,1+x6,1+x7⟩,rfl,?_,?_⟩
   ·repeat (refine Rd.setFar ?_ (by omega) _)
    exact RXw9.out
   ·repeat (refine an.far ?_ (by omega) _ _)
    exact SXw9.out
  have y29b:(y == 29)=false:=by simp[y29]
  obtain ⟨⟨r0,r1,r2,r3,r4,r5,r6⟩,rf,_⟩:=OXw8.out
  obtain ⟨⟨q0,q1,q2,q3,q4,q5,q6⟩,qf,_⟩:=QXw8.out
  go_wp2
  refine bodyPost_ret (v:=.agg #[Ii Jj (1+x1),Ii Jj (x2),Ii Jj (x2 % 6+1),Ii Jj (1+x4),Ii Jj (x5),Ii Jj (1+x6),Ii Jj (1+x7)]) (by simp[results,Tryz.results63,go_sem,q0,q1,q2,q3,q4,q5,q6]) rfl ⟨⟨1+x1,x2,x2 % 6+1,1+x4,x5,1+x6,1+x7⟩,rfl,?_,?_⟩
  ·repeat (refine Rd.setFar ?_ (by omega) _)
   exact RXw8.out
  ·repeat (refine an.far ?_ (by omega) _ _)
   exact SXw8.out
 ·have hxb:(x2 == x3)=false:=by simp[hx]
  clear hx
  go_wp2_with fail
  refine (aq B a len cap 30 _ (RXw7.out.alloc _) (by omega) (by omega)).mono ?_
  rintro e w8 ⟨y,rfl,y1,y2,RN,SN⟩
  have RXw8:Hid (Rd w8 B a len cap):=RN
  have QXw8:Hid (af w8 w.heap.size (Ii Jj 0) (Ii Jj 0) (Ii Jj 0) (Ii Jj 0) (Ii Jj 0) (Ii Jj 0) (Ii Jj 0)):=(QXw7.out.alloc _).stp SN hQB
  have SXw8:Hid (an B w w8):=(SXw7.out.alloc _).trans SN
  have OXw8:Hid (af w8 w7.heap.size (Ii Jj (1+x1)) (Ii Jj (x2)) (Ii Jj (x3)) (Ii Jj (1+x4)) (Ii Jj (x5)) (Ii Jj (1+x6)) (Ii Jj (1+x7))):=(af.new w7 (Ii Jj (1+x1)) (Ii Jj (x2)) (Ii Jj (x3)) (Ii Jj (1+x4)) (Ii Jj (x5)) (Ii Jj (1+x6)) (Ii Jj (1+x7)) 35).stp SN hRB
  clear RN SN RXw7 QXw7 SXw7
  by_cases y27:y=27
  ·subst y27
   go_wp2_with fail
   refine (aV B a len cap 1 366 _ (RXw8.out) (by omega) (by omega) (by omega)).mono ?_
   rintro e w9 ⟨z,rfl,RN,SN⟩
   have RXw9:Hid (Rd w9 B a len cap):=RN
   have QXw9:Hid (af w9 w.heap.size (Ii Jj 0) (Ii Jj 0) (Ii Jj 0) (Ii Jj 0) (Ii Jj 0) (Ii Jj 0) (Ii Jj 0)):=(QXw8.out).stp SN hQB
   have SXw9:Hid (an B w w9):=(SXw8.out).trans SN
   have OXw9:Hid (af w9 w7.heap.size (Ii Jj (1+x1)) (Ii Jj (x2)) (Ii Jj (x3)) (Ii Jj (1+x4)) (Ii Jj (x5)) (Ii Jj (1+x6)) (Ii Jj (1+x7))):=OXw8.out.stp SN hRB
   clear RN SN RXw8 QXw8 SXw8 OXw8
   obtain ⟨⟨r0,r1,r2,r3,r4,r5,r6⟩,rf,_⟩:=OXw9.out
   obtain ⟨⟨q0,q1,q2,q3,q4,q5,q6⟩,qf,_⟩:=QXw9.out
   go_wp2
   refine bodyPost_ret (v:=.agg #[Ii Jj (1+x1),Ii Jj (x2),Ii Jj (x3),Ii Jj (1+x4),Ii Jj (x5),Ii Jj (z),Ii Jj (1+x7)]) (by simp[results,Tryz.results63,go_sem,q0,q1,q2,q3,q4,q5,q6]) rfl ⟨⟨1+x1,x2,x3,1+x4,x5,z,1+x7⟩,rfl,?_,?_⟩
   ·repeat (refine Rd.setFar ?_ (by omega) _)
    exact RXw9.out
   ·repeat (refine an.far ?_ (by omega) _ _)
    exact SXw9.out
  have y27b:(y == 27)=false:=by simp[y27]
  by_cases y28:y=28
  ·subst y28
   go_wp2_with fail
   refine (aV B a len cap 1 1000 _ (RXw8.out) (by omega) (by omega) (by omega)).mono ?_
   rintro e w9 ⟨z,rfl,RN,SN⟩
   have RXw9:Hid (Rd w9 B a len cap):=RN
   have QXw9:Hid (af w9 w.heap.size (Ii Jj 0) (Ii Jj 0) (Ii Jj 0) (Ii Jj 0) (Ii Jj 0) (Ii Jj 0) (Ii Jj 0)):=(QXw8.out).stp SN hQB
   have SXw9:Hid (an B w w9):=(SXw8.out).trans SN
   have OXw9:Hid (af w9 w7.heap.size (Ii Jj (1+x1)) (Ii Jj (x2)) (Ii Jj (x3)) (Ii Jj (1+x4)) (Ii Jj (x5)) (Ii Jj (1+x6)) (Ii Jj (1+x7))):=OXw8.out.stp SN hRB
   clear RN SN RXw8 QXw8 SXw8 OXw8
   obtain ⟨⟨r0,r1,r2,r3,r4,r5,r6⟩,rf,_⟩:=OXw9.out
   obtain ⟨⟨q0,q1,q2,q3,q4,q5,q6⟩,qf,_⟩:=QXw9.out
   go_wp2
   refine bodyPost_ret (v:=.agg #[Ii Jj (1+x1),Ii Jj (x2),Ii Jj (x3),Ii Jj (1+x4),Ii Jj (x5),Ii Jj (1+x6),Ii Jj (z)]) (by simp[results,Tryz.results63,go_sem,q0,q1,q2,q3,q4,q5,q6]) rfl ⟨⟨1+x1,x2,x3,1+x4,x5,1+x6,z⟩,rfl,?_,?_⟩
   ·repeat (refine Rd.setFar ?_ (by omega) _)
    exact RXw9.out
   ·repeat (refine an.far ?_ (by omega) _ _)
    exact SXw9.out
  have y28b:(y == 28)=false:=by simp[y28]
  by_cases y29:y=29
  ·subst y29
   go_wp2_with fail
   refine (aV B a len cap 0 3000000 _ (RXw8.out) (by omega) (by omega) (by omega)).mono ?_
   rintro e w9 ⟨z,rfl,RN,SN⟩
   have RXw9:Hid (Rd w9 B a len cap):=RN
   have QXw9:Hid (af w9 w.heap.size (Ii Jj 0) (Ii Jj 0) (Ii Jj 0) (Ii Jj 0) (Ii Jj 0) (Ii Jj 0) (Ii Jj 0)):=(QXw8.out).stp SN hQB
   have SXw9:Hid (an B w w9):=(SXw8.out).trans SN
   have OXw9:Hid (af w9 w7.heap.size (Ii Jj (1+x1)) (Ii Jj (x2)) (Ii Jj (x3)) (Ii Jj (1+x4)) (Ii Jj (x5)) (Ii Jj (1+x6)) (Ii Jj (1+x7))):=OXw8.out.stp SN hRB
   clear RN SN RXw8 QXw8 SXw8 OXw8
   obtain ⟨⟨r0,r1,r2,r3,r4,r5,r6⟩,rf,_⟩:=OXw9.out
   obtain ⟨⟨q0,q1,q2,q3,q4,q5,q6⟩,qf,_⟩:=QXw9.out
   go_wp2
   refine bodyPost_ret (v:=.agg #[Ii Jj (1+x1),Ii Jj (x2),Ii Jj (x3),Ii Jj (1+x4),Ii Jj (z),Ii Jj (1+x6),Ii Jj (1+x7)]) (by simp[results,Tryz.results63,go_sem,q0,q1,q2,q3,q4,q5,q6]) rfl ⟨⟨1+x1,x2,x3,1+x4,z,1+x6,1+x7⟩,rfl,?_,?_⟩
   ·repeat (refine Rd.setFar ?_ (by omega) _)
    exact RXw9.out
   ·repeat (refine an.far ?_ (by omega) _ _)
    exact SXw9.out
  have y29b:(y == 29)=false:=by simp[y29]
  obtain ⟨⟨r0,r1,r2,r3,r4,r5,r6⟩,rf,_⟩:=OXw8.out
  obtain ⟨⟨q0,q1,q2,q3,q4,q5,q6⟩,qf,_⟩:=QXw8.out
  go_wp2
  refine bodyPost_ret (v:=.agg #[Ii Jj (1+x1),Ii Jj (x2),Ii Jj (x3),Ii Jj (1+x4),Ii Jj (x5),Ii Jj (1+x6),Ii Jj (1+x7)]) (by simp[results,Tryz.results63,go_sem,q0,q1,q2,q3,q4,q5,q6]) rfl ⟨⟨1+x1,x2,x3,1+x4,x5,1+x6,1+x7⟩,rfl,?_,?_⟩
  ·repeat (refine Rd.setFar ?_ (by omega) _)
   exact RXw8.out
  ·repeat (refine an.far ?_ (by omega) _ _)
   exact SXw8.out
theorem lf (B:Nat) (a:Option Addr) (len cap:Nat) (w:World) (hp:Rd w B a len cap):
  Calls Tryz.prog 28 #[.pointer (some ⟨B,0,none⟩)] w fun e w'=>∃(K n:Int) (x:bB) (o:am),e=.returned (.agg #[Ii Jj K,Ii Jj x.k,Ii Jj x.i,Ii Jj x.t,Ii Jj x.m,Ii Jj x.r,Ii Jj o.id,Ii Jj o.src,Ii Jj o.dst,Ii Jj o.amount,Ii Jj o.first,Ii Jj o.every,Ii Jj o.times,Ii Jj n])/\Rd w' B a len cap/\an B w w':=by
 have hBw:B<w.heap.size:=hp.2.2.2.1
 obtain ⟨q,hq⟩:∃q,w.heap.size=q:=⟨_,rfl⟩
 obtain ⟨W0,hW0,X0⟩:∃W0,W0=w.alloc (.cells ([Ii Jj 0,Ii Jj 0,Ii Jj 0,Ii Jj 0,Ii Jj 0,Ii Jj 0,Ii Jj 0,Ii Jj 0,Ii Jj 0,Ii Jj 0,Ii Jj 0,Ii Jj 0,Ii Jj 0,Ii Jj 0]:List Value).toArray 37)/\Hid (ah W0 q [Ii Jj 0,Ii Jj 0,Ii Jj 0,Ii Jj 0,Ii Jj 0,Ii Jj 0,Ii Jj 0,Ii Jj 0,Ii Jj 0,Ii Jj 0,Ii Jj 0,Ii Jj 0,Ii Jj 0,Ii Jj 0]/\Rd W0 B a len cap/\an B w W0):=⟨_,rfl,by rw[←hq];exact ah.new _ _ _,hp.alloc _,(an.refl B w).alloc _⟩
 have HW0:Hid (W0=w.alloc (.cells #[Ii Jj 0,Ii Jj 0,Ii Jj 0,Ii Jj 0,Ii Jj 0,Ii Jj 0,Ii Jj 0,Ii Jj 0,Ii Jj 0,Ii Jj 0,Ii Jj 0,Ii Jj 0,Ii Jj 0,Ii Jj 0] 37)):=hW0
 clear hW0 hp
 have hqB:B<q:=by omega
 have hwq:w.heap.size<=q:=by omega
 go_enter Tryz.func28,Tryz.ntmps28
 go_upto_region 1 with fail
 rw[←HW0.out]
 try rw[hq]
 clear HW0 hq hBw
 go_wp2_with fail
 refine (aq B a len cap 8 _ X0.out.2.1 (by omega) (by omega)).mono ?_
 rintro e w1 ⟨y,rfl,y1,y2,RN,SN⟩
 have X1:Hid (ah w1 q [Ii Jj 0,Ii Jj 0,Ii Jj 0,Ii Jj 0,Ii Jj 0,Ii Jj 0,Ii Jj 0,Ii Jj 0,Ii Jj 0,Ii Jj 0,Ii Jj 0,Ii Jj 0,Ii Jj 0,Ii Jj 0]/\Rd w1 B a len cap/\an B w w1):=⟨X0.out.1.stp SN (by omega),RN,X0.out.2.2.trans SN⟩
 clear RN SN X0
 by_cases c0:y=0
 ·subst c0
  have r0:=X1.out.1.1 0 _ rfl
  have r1:=X1.out.1.1 1 _ rfl
  have r2:=X1.out.1.1 2 _ rfl
  have r3:=X1.out.1.1 3 _ rfl
  have r4:=X1.out.1.1 4 _ rfl
  have r5:=X1.out.1.1 5 _ rfl
  have r6:=X1.out.1.1 6 _ rfl
  have r7:=X1.out.1.1 7 _ rfl
  have r8:=X1.out.1.1 8 _ rfl
  have r9:=X1.out.1.1 9 _ rfl
  have r10:=X1.out.1.1 10 _ rfl
  have r11:=X1.out.1.1 11 _ rfl
  have r12:=X1.out.1.1 12 _ rfl
  have r13:=X1.out.1.1 13 _ rfl
  have fz:=X1.out.1.2.1
  go_wp2
  refine bodyPost_ret (v:=.agg #[Ii Jj 22,Ii Jj 0,Ii Jj 0,Ii Jj 0,Ii Jj 0,Ii Jj 0,Ii Jj 0,Ii Jj 0,Ii Jj 0,Ii Jj 0,Ii Jj 0,Ii Jj 0,Ii Jj 0,Ii Jj 0]) (by simp[results,Tryz.results28,go_sem,r0,r1,r2,r3,r4,r5,r6,r7,r8,r9,r10,r11,r12,r13]) rfl ⟨22,0,⟨0,0,0,0,0⟩,⟨0,0,0,0,0,0,0⟩,rfl,?_,?_⟩
  ·repeat (refine Rd.setFar ?_ (by omega) _)
   exact X1.out.2.1
  ·repeat (refine an.far ?_ (by omega) _ _)
   exact X1.out.2.2
 by_cases c1:y=1
 ·subst c1
  have r0:=X1.out.1.1 0 _ rfl
  have r1:=X1.out.1.1 1 _ rfl
  have r2:=X1.out.1.1 2 _ rfl
  have r3:=X1.out.1.1 3 _ rfl
  have r4:=X1.out.1.1 4 _ rfl
  have r5:=X1.out.1.1 5 _ rfl
  have r6:=X1.out.1.1 6 _ rfl
  have r7:=X1.out.1.1 7 _ rfl
  have r8:=X1.out.1.1 8 _ rfl
  have r9:=X1.out.1.1 9 _ rfl
  have r10:=X1.out.1.1 10 _ rfl
  have r11:=X1.out.1.1 11 _ rfl
  have r12:=X1.out.1.1 12 _ rfl
  have r13:=X1.out.1.1 13 _ rfl
  have fz:=X1.out.1.2.1
  go_wp2
  refine bodyPost_ret (v:=.agg #[Ii Jj 22,Ii Jj 0,Ii Jj 0,Ii Jj 0,Ii Jj 0,Ii Jj 0,Ii Jj 0,Ii Jj 0,Ii Jj 0,Ii Jj 0,Ii Jj 0,Ii Jj 0,Ii Jj 0,Ii Jj 0]) (by simp[results,Tryz.results28,go_sem,r0,r1,r2,r3,r4,r5,r6,r7,r8,r9,r10,r11,r12,r13]) rfl ⟨22,0,⟨0,0,0,0,0⟩,⟨0,0,0,0,0,0,0⟩,rfl,?_,?_⟩
  ·repeat (refine Rd.setFar ?_ (by omega) _)
   exact X1.out.2.1
  ·repeat (refine an.far ?_ (by omega) _ _)
   exact X1.out.2.2
 have b0:(y == 0)=false:=by simp[c0]
 have b1:(y == 1)=false:=by simp[c1]
 by_cases c2:y=2
 ·subst c2
  go_wp2_with fail
  refine (re B a len cap _ X1.out.2.1).mono ?_
  rintro e w5 ⟨o5,rfl,RN,SN⟩
  have X5:Hid (ah w5 q [Ii Jj 0,Ii Jj 0,Ii Jj 0,Ii Jj 0,Ii Jj 0,Ii Jj 0,Ii Jj 0,Ii Jj 0,Ii Jj 0,Ii Jj 0,Ii Jj 0,Ii Jj 0,Ii Jj 0,Ii Jj 0]/\Rd w5 B a len cap/\an B w w5):=⟨X1.out.1.stp SN (by omega),RN,X1.out.2.2.trans SN⟩
  clear RN SN X1
  have r0:=X5.out.1.1 0 _ rfl
  have r1:=X5.out.1.1 1 _ rfl
  have r2:=X5.out.1.1 2 _ rfl
  have r3:=X5.out.1.1 3 _ rfl
  have r4:=X5.out.1.1 4 _ rfl
  have r5:=X5.out.1.1 5 _ rfl
  have r6:=X5.out.1.1 6 _ rfl
  have r7:=X5.out.1.1 7 _ rfl
  have r8:=X5.out.1.1 8 _ rfl
  have r9:=X5.out.1.1 9 _ rfl
  have r10:=X5.out.1.1 10 _ rfl
  have r11:=X5.out.1.1 11 _ rfl
  have r12:=X5.out.1.1 12 _ rfl
  have r13:=X5.out.1.1 13 _ rfl
  have fz:=X5.out.1.2.1
  go_wp2
  refine bodyPost_ret (v:=.agg #[Ii Jj 20,Ii Jj 0,Ii Jj 0,Ii Jj 0,Ii Jj 0,Ii Jj 0,Ii Jj o5.id,Ii Jj o5.src,Ii Jj o5.dst,Ii Jj o5.amount,Ii Jj o5.first,Ii Jj o5.every,Ii Jj o5.times,Ii Jj 0]) (by simp[results,Tryz.results28,go_sem,r0,r1,r2,r3,r4,r5,r6,r7,r8,r9,r10,r11,r12,r13]) rfl ⟨20,0,⟨0,0,0,0,0⟩,⟨o5.id,o5.src,o5.dst,o5.amount,o5.first,o5.every,o5.times⟩,rfl,?_,?_⟩
  ·repeat (refine Rd.setFar ?_ (by omega) _)
   exact X5.out.2.1
  ·repeat (refine an.far ?_ (by omega) _ _)
   exact X5.out.2.2
 have b2:(y == 2)=false:=by simp[c2]
 by_cases c3:y=3
 ·subst c3
  go_wp2_with fail
  refine (aU B a len cap 2 _ X1.out.2.1 (by omega) (by omega)).mono ?_
  rintro e w4 ⟨bo,rfl,RN,SN⟩
  have X4:Hid (ah w4 q [Ii Jj 0,Ii Jj 0,Ii Jj 0,Ii Jj 0,Ii Jj 0,Ii Jj 0,Ii Jj 0,Ii Jj 0,Ii Jj 0,Ii Jj 0,Ii Jj 0,Ii Jj 0,Ii Jj 0,Ii Jj 0]/\Rd w4 B a len cap/\an B w w4):=⟨X1.out.1.stp SN (by omega),RN,X1.out.2.2.trans SN⟩
  clear RN SN X1
  cases bo with
  | true=>
   go_wp2_with fail
   refine (aq B a len cap 4 _ X4.out.2.1 (by omega) (by omega)).mono ?_
   rintro e w5 ⟨z,rfl,z1,z2,RN,SN⟩
   have X5:Hid (ah w5 q [Ii Jj 0,Ii Jj 0,Ii Jj 0,Ii Jj 0,Ii Jj 0,Ii Jj 0,Ii Jj 0,Ii Jj 0,Ii Jj 0,Ii Jj 0,Ii Jj 0,Ii Jj 0,Ii Jj 0,Ii Jj 0]/\Rd w5 B a len cap/\an B w w5):=⟨X4.out.1.stp SN (by omega),RN,X4.out.2.2.trans SN⟩
   clear RN SN X4
   have r0:=X5.out.1.1 0 _ rfl
   have r1:=X5.out.1.1 1 _ rfl
   have r2:=X5.out.1.1 2 _ rfl
   have r3:=X5.out.1.1 3 _ rfl
   have r4:=X5.out.1.1 4 _ rfl
   have r5:=X5.out.1.1 5 _ rfl
   have r6:=X5.out.1.1 6 _ rfl
   have r7:=X5.out.1.1 7 _ rfl
   have r8:=X5.out.1.1 8 _ rfl
   have r9:=X5.out.1.1 9 _ rfl
   have r10:=X5.out.1.1 10 _ rfl
   have r11:=X5.out.1.1 11 _ rfl
   have r12:=X5.out.1.1 12 _ rfl
   have r13:=X5.out.1.1 13 _ rfl
   have fz:=X5.out.1.2.1
   go_wp2
   refine bodyPost_ret (v:=.agg #[Ii Jj 21,Ii Jj 0,Ii Jj 0,Ii Jj 0,Ii Jj 0,Ii Jj 0,Ii Jj 0,Ii Jj 0,Ii Jj 0,Ii Jj 0,Ii Jj 0,Ii Jj 0,Ii Jj 0,Ii Jj (1+z)]) (by simp[results,Tryz.results28,go_sem,r0,r1,r2,r3,r4,r5,r6,r7,r8,r9,r10,r11,r12,r13]) rfl ⟨21,(1+z),⟨0,0,0,0,0⟩,⟨0,0,0,0,0,0,0⟩,rfl,?_,?_⟩
   ·repeat (refine Rd.setFar ?_ (by omega) _)
    exact X5.out.2.1
   ·repeat (refine an.far ?_ (by omega) _ _)
    exact X5.out.2.2
  | false=>
   go_wp2_with fail
   refine (sW B a len cap _ X4.out.2.1).mono ?_
   rintro e w5 ⟨k5,i5,t5,m5,r5',rfl,RN,SN⟩
   have X5:Hid (ah w5 q [Ii Jj 0,Ii Jj 0,Ii Jj 0,Ii Jj 0,Ii Jj 0,Ii Jj 0,Ii Jj 0,Ii Jj 0,Ii Jj 0,Ii Jj 0,Ii Jj 0,Ii Jj 0,Ii Jj 0,Ii Jj 0]/\Rd w5 B a len cap/\an B w w5):=⟨X4.out.1.stp SN (by omega),RN,X4.out.2.2.trans SN⟩
   clear RN SN X4
   have r0:=X5.out.1.1 0 _ rfl
   have r1:=X5.out.1.1 1 _ rfl
   have r2:=X5.out.1.1 2 _ rfl
   have r3:=X5.out.1.1 3 _ rfl
   have r4:=X5.out.1.1 4 _ rfl
   have r5:=X5.out.1.1 5 _ rfl
   have r6:=X5.out.1.1 6 _ rfl
   have r7:=X5.out.1.1 7 _ rfl
   have r8:=X5.out.1.1 8 _ rfl
   have r9:=X5.out.1.1 9 _ rfl
   have r10:=X5.out.1.1 10 _ rfl
   have r11:=X5.out.1.1 11 _ rfl
   have r12:=X5.out.1.1 12 _ rfl
   have r13:=X5.out.1.1 13 _ rfl
   have fz:=X5.out.1.2.1
   go_wp2
   refine bodyPost_ret (v:=.agg #[Ii Jj 19,Ii Jj k5,Ii Jj i5,Ii Jj t5,Ii Jj m5,Ii Jj r5',Ii Jj 0,Ii Jj 0,Ii Jj 0,Ii Jj 0,Ii Jj 0,Ii Jj 0,Ii Jj 0,Ii Jj 0]) (by simp[results,Tryz.results28,go_sem,r0,r1,r2,r3,r4,r5,r6,r7,r8,r9,r10,r11,r12,r13]) rfl ⟨19,0,⟨k5,i5,t5,m5,r5'⟩,⟨0,0,0,0,0,0,0⟩,rfl,?_,?_⟩
   ·repeat (refine Rd.setFar ?_ (by omega) _)
    exact X5.out.2.1
   ·repeat (refine an.far ?_ (by omega) _ _)
    exact X5.out.2.2
 have b3:(y == 3)=false:=by simp[c3]
 go_wp2_with fail
 refine (sW B a len cap _ X1.out.2.1).mono ?_
 rintro e w5 ⟨k5,i5,t5,m5,r5',rfl,RN,SN⟩
 have X5:Hid (ah w5 q [Ii Jj 0,Ii Jj 0,Ii Jj 0,Ii Jj 0,Ii Jj 0,Ii Jj 0,Ii Jj 0,Ii Jj 0,Ii Jj 0,Ii Jj 0,Ii Jj 0,Ii Jj 0,Ii Jj 0,Ii Jj 0]/\Rd w5 B a len cap/\an B w w5):=⟨X1.out.1.stp SN (by omega),RN,X1.out.2.2.trans SN⟩
 clear RN SN X1
 have r0:=X5.out.1.1 0 _ rfl
 have r1:=X5.out.1.1 1 _ rfl
 have r2:=X5.out.1.1 2 _ rfl
 have r3:=X5.out.1.1 3 _ rfl
 have r4:=X5.out.1.1 4 _ rfl
 have r5:=X5.out.1.1 5 _ rfl
 have r6:=X5.out.1.1 6 _ rfl
 have r7:=X5.out.1.1 7 _ rfl
 have r8:=X5.out.1.1 8 _ rfl
 have r9:=X5.out.1.1 9 _ rfl
 have r10:=X5.out.1.1 10 _ rfl
 have r11:=X5.out.1.1 11 _ rfl
 have r12:=X5.out.1.1 12 _ rfl
 have r13:=X5.out.1.1 13 _ rfl
 have fz:=X5.out.1.2.1
 go_wp2
 refine bodyPost_ret (v:=.agg #[Ii Jj 19,Ii Jj k5,Ii Jj i5,Ii Jj t5,Ii Jj m5,Ii Jj r5',Ii Jj 0,Ii Jj 0,Ii Jj 0,Ii Jj 0,Ii Jj 0,Ii Jj 0,Ii Jj 0,Ii Jj 0]) (by simp[results,Tryz.results28,go_sem,r0,r1,r2,r3,r4,r5,r6,r7,r8,r9,r10,r11,r12,r13]) rfl ⟨19,0,⟨k5,i5,t5,m5,r5'⟩,⟨0,0,0,0,0,0,0⟩,rfl,?_,?_⟩
 ·repeat (refine Rd.setFar ?_ (by omega) _)
  exact X5.out.2.1
 ·repeat (refine an.far ?_ (by omega) _ _)
  exact X5.out.2.2
theorem sD (day:Int) (h0:0<=day) (h1:day<=3000000) (w:World):Calls Tryz.prog 53 #[Ii Jj day] w fun e w'=>e=.returned (.tuple #[.agg #[Ii Jj day,Sl none 0 0,Sl none 0 0,Ii Jj 0,Ii Jj 0,Ii Jj 0,Ii Jj 0],.bool true])/\Below w.heap.size w w':=by
 obtain ⟨q,hq⟩:∃q,w.heap.size=q:=⟨_,rfl⟩
 obtain ⟨W0,hW0,X0⟩:∃W0,W0=w.alloc (.cells #[Ii Jj 0,Sl none 0 0,Sl none 0 0,Ii Jj 0,Ii Jj 0,Ii Jj 0,Ii Jj 0] 27)/\Hid (af W0 q (Ii Jj 0) (Sl none 0 0) (Sl none 0 0) (Ii Jj 0) (Ii Jj 0) (Ii Jj 0) (Ii Jj 0)/\Below q w W0):=⟨_,rfl,by rw[←hq];exact af.new w _ _ _ _ _ _ _ 27,by rw[←hq];exact (Below.refl _ _).alloc (Nat.le_refl _) _⟩
 have HW0:Hid (W0=_):=hW0
 have HQ:Hid (w.heap.size=q):=hq
 clear hW0
 go_enter Tryz.func53,Tryz.ntmps53
 go_upto_region 1 with fail
 rw[←HW0.out]
 try rw[hq]
 clear HW0 hq
 obtain ⟨⟨r0,r1,r2,r3,r4,r5,r6⟩,rf,rz⟩:=X0.out.1
 go_wp2_with (go_at_call 75;refine (bw day 0 3000000 _ ⟨h0,h1⟩).mono ?_;rintro e w9 ⟨rfl,hw9⟩;subst w9)
 refine bodyPost_ret (v:=.tuple #[.agg #[Ii Jj day,Sl none 0 0,Sl none 0 0,Ii Jj 0,Ii Jj 0,Ii Jj 0,Ii Jj 0],.bool true]) (by simp[results,Tryz.results53,go_sem,r0,r1,r2,r3,r4,r5,r6]) rfl ⟨rfl,?_⟩
 rw[HQ.out]
 repeat (refine ak ?_ (by omega) _ _)
 exact X0.out.2
end Go.Proofs.YtjhgchlfpolkcaaGreatDoor
