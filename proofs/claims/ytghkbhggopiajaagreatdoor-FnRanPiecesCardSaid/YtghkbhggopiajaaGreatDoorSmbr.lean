/- The laws' own comparison of two banks. -/
import Derived.Test.YtghkbhggopiajaaGreatDoorSamer
import Derived.Test.YtghkbhggopiajaaGreatDoorBnksr
import Derived.Deep.DeepCutAuto
namespace Go.Proofs.YtghkbhggopiajaaGreatDoor
open Value renaming int → Ii,slice → Sl
open IntKind renaming i64 → Jj
set_option maxHeartbeats 4000000
open Go.RowKit
set_option maxRecDepth 8000
theorem iT (a b:Option Addr) (n c d:Nat) (F:Nat->au) (w:World) (ha:aG w a n F) (hb:aG w b n F):
  Calls Tryz.prog 73 #[Sl a n c,Sl b n d] w fun e w'=>e=.returned (.bool true)/\Below w.heap.size w w':=by
 have HA:=aa ha
 have HB:=aa hb
 have hn:=ha.1
 clear ha hb
 go_enter Tryz.func73,Tryz.ntmps73
 go_wp2
 go_loopw[5] (fun i wr=>∃(k q:Nat),k<=n/\i=Ii Jj k/\wr=w.drewN q) (fun i _=>n-(intOf i).toNat)
 case atStart=>exact ⟨0,0,Nat.zero_le _,rfl,rfl⟩
 case round=>
  obtain ⟨k,q,hk,rfl,rfl⟩:=hrel
  by_cases hlt:k<n
  ·obtain ⟨b1,o1,rfl,hz1,c0,c1,c2,c3,c4,c5,c6⟩:=HA.out.acc hlt
   obtain ⟨b2,o2,rfl,hz2,d0,d1,d2,d3,d4,d5,d6⟩:=HB.out.acc hlt
   generalize F k=x at c0 c1 c2 c3 c4 c5 c6 d0 d1 d2 d3 d4 d5 d6
   go_wp2
   go_quiet (fail)
   go_wp2
   go_roundw
   case rel=>exact ⟨k+1,_,by omega,by go_num,rfl⟩
   case measure=>simp[intOf];omega
  ·go_wp2
   go_ret
   exact ⟨rfl,fN (Below.refl _ _) _⟩
theorem ku (a1 a2 b1 b2:Option Addr) (n p1 p2 m q1 q2:Nat) (F:Nat->aj) (O:Nat->au) (k:Bk) (w:World) (hF1:Fo w a1 n F) (hF2:Fo w a2 n F) (hO1:aG w b1 m O) (hO2:aG w b2 m O):
  Calls Tryz.prog 24 #[.agg #[Ii Jj k.day,Sl a1 n p1,Sl b1 m q1,Ii Jj k.inn,Ii Jj k.out,Ii Jj k.posted,Ii Jj k.missed],.agg #[Ii Jj k.day,Sl a2 n p2,Sl b2 m q2,Ii Jj k.inn,Ii Jj k.out,Ii Jj k.posted,Ii Jj k.missed]] w fun e w'=>e=.returned (.bool true)/\Below w.heap.size w w':=by
 obtain ⟨h,hh⟩:∃h,w.heap.size=h:=⟨_,rfl⟩
 have HH:=aa hh
 obtain ⟨W0,hW0,X0⟩:∃W0,W0=(w.alloc (.cells #[Ii Jj k.day,Sl a1 n p1,Sl b1 m q1,Ii Jj k.inn,Ii Jj k.out,Ii Jj k.posted,Ii Jj k.missed] 38)).alloc (.cells #[Ii Jj k.day,Sl a2 n p2,Sl b2 m q2,Ii Jj k.inn,Ii Jj k.out,Ii Jj k.posted,Ii Jj k.missed] 38)/\Hid (ak W0 h (Ii Jj k.day) (Sl a1 n p1) (Sl b1 m q1) (Ii Jj k.inn) (Ii Jj k.out) (Ii Jj k.posted) (Ii Jj k.missed)/\ak W0 (h+1) (Ii Jj k.day) (Sl a2 n p2) (Sl b2 m q2) (Ii Jj k.inn) (Ii Jj k.out) (Ii Jj k.posted) (Ii Jj k.missed)/\Below h w W0/\Fo W0 a1 n F/\Fo W0 a2 n F/\aG W0 b1 m O/\aG W0 b2 m O):=by
  have bA:∀(V:World) (o:Obj),Below V.heap.size V (V.alloc o):=fun V o=>(Below.refl _ _).alloc (Nat.le_refl _) _
  have v0:=(ak.new w (Ii Jj k.day) (Sl a1 n p1) (Sl b1 m q1) (Ii Jj k.inn) (Ii Jj k.out) (Ii Jj k.posted) (Ii Jj k.missed) 38).kept (bA _ (.cells #[Ii Jj k.day,Sl a2 n p2,Sl b2 m q2,Ii Jj k.inn,Ii Jj k.out,Ii Jj k.posted,Ii Jj k.missed] 38)) (by simp)
  have v1:=ak.new (w.alloc (.cells #[Ii Jj k.day,Sl a1 n p1,Sl b1 m q1,Ii Jj k.inn,Ii Jj k.out,Ii Jj k.posted,Ii Jj k.missed] 38)) (Ii Jj k.day) (Sl a2 n p2) (Sl b2 m q2) (Ii Jj k.inn) (Ii Jj k.out) (Ii Jj k.posted) (Ii Jj k.missed) 38
  simp only[World.size_alloc] at v1
  rw[hh] at v0 v1
  have bb:Below w.heap.size w ((w.alloc (.cells #[Ii Jj k.day,Sl a1 n p1,Sl b1 m q1,Ii Jj k.inn,Ii Jj k.out,Ii Jj k.posted,Ii Jj k.missed] 38)).alloc (.cells #[Ii Jj k.day,Sl a2 n p2,Sl b2 m q2,Ii Jj k.inn,Ii Jj k.out,Ii Jj k.posted,Ii Jj k.missed] 38)):=((Below.refl _ _).alloc (Nat.le_refl _) _).alloc (by simp) _
  exact ⟨_,rfl,v0,v1,by rw[←hh];exact bb,hF1.below bb,hF2.below bb,hO1.below bb,hO2.below bb⟩
 have HW0:=aa hW0
 clear hW0 hF1 hF2 hO1 hO2
 go_enter Tryz.func24,Tryz.ntmps24
 go_upto_region 1 with fail
 rw[←HW0.out]
 try rw[hh]
 clear HW0 hh
 obtain ⟨⟨x0,x1,x2,x3,x4,x5,x6⟩,xf,xz⟩:=X0.out.1
 obtain ⟨⟨y0,y1,y2,y3,y4,y5,y6⟩,yf,yz⟩:=X0.out.2.1
 go_wp2_with fail
 refine (iQ a1 a2 n p1 p2 F _ X0.out.2.2.2.1 X0.out.2.2.2.2.1).mono ?_
 rintro e w1 ⟨rfl,B1⟩
 have X1:Hid (ak w1 h (Ii Jj k.day) (Sl a1 n p1) (Sl b1 m q1) (Ii Jj k.inn) (Ii Jj k.out) (Ii Jj k.posted) (Ii Jj k.missed)/\ak w1 (h+1) (Ii Jj k.day) (Sl a2 n p2) (Sl b2 m q2) (Ii Jj k.inn) (Ii Jj k.out) (Ii Jj k.posted) (Ii Jj k.missed)/\Below h w w1/\aG w1 b1 m O/\aG w1 b2 m O):=⟨X0.out.1.kept B1 X0.out.1.2.2,X0.out.2.1.kept B1 X0.out.2.1.2.2,X0.out.2.2.1.trans (B1.mono (by have:=X0.out.1.2.2;omega)),X0.out.2.2.2.2.2.1.below B1,X0.out.2.2.2.2.2.2.below B1⟩
 clear B1 X0 x0 y0 x1 y1 x2 y2 x3 y3 x4 y4 x5 y5 x6 y6 xf yf xz yz
 obtain ⟨⟨x0,x1,x2,x3,x4,x5,x6⟩,xf,xz⟩:=X1.out.1
 obtain ⟨⟨y0,y1,y2,y3,y4,y5,y6⟩,yf,yz⟩:=X1.out.2.1
 go_wp2_with fail
 refine (iT b1 b2 m q1 q2 O _ X1.out.2.2.2.1 X1.out.2.2.2.2).mono ?_
 rintro e w2 ⟨rfl,B2⟩
 have FI:=aa (X1.out.2.2.1.trans (B2.mono (by have:=X1.out.1.2.2;omega)))
 clear B2 X1 x0 y0 x1 y1 x2 y2 x3 y3 x4 y4 x5 y5 x6 y6 xf yf xz yz
 go_wp2
 go_ret
 exact ⟨rfl,by rw[HH.out];exact FI.out⟩
end Go.Proofs.YtghkbhggopiajaaGreatDoor
