/- The law FnRan returns true. -/
import Derived.Test.YtghkbhggopiajaaGreatDoorDrrr
namespace Go.Proofs.YtghkbhggopiajaaGreatDoor
open Go.RowKit
set_option maxRecDepth 8000
set_option maxHeartbeats 16000000 in
theorem lawFRan (a:Option Addr) (len cap:Nat) (p:Nat->Addr) (w:World) (hc:Code w a len) (hG:GE w p):
  Calls Tryz.prog 5 #[.slice a len cap] w fun e w'=>e=.returned (.bool true)/\Below w.heap.size w w':=by
 have HC:=hidOf hc
 have HG:=hidOf hG
 obtain ⟨h,hh⟩:∃h,w.heap.size=h:=⟨_,rfl⟩
 have HH:=hidOf hh
 have LEB:Hid (∀{V W:World},Below h w V->Below V.heap.size V W->Below h w W):=fun {V W} p q=>p.trans (q.mono (by have:=p.size;rw[HH.out] at this;exact this))
 clear hc hG hh
 by_cases hbig:1048576<len
 ·go_enter Tryz.func5,Tryz.ntmps5
  go_wp2_with (go_at_call 11;refine (big_yes _ _ _ _ hbig).mono ?_;rintro e w' ⟨rfl,rfl⟩)
  go_ret
  exact ⟨rfl,Below.refl _ _⟩
 go_enter Tryz.func5,Tryz.ntmps5
 go_wp2_with fail
 refine (big_no _ _ _ _ (by omega)).mono ?_
 rintro e wz ⟨rfl,hwz⟩
 subst wz
 go_wp2_with fail
 refine (drawRan a len cap _ HC.out).mono ?_
 rintro e w1 ⟨k,L,O,v,u,K,n,x,o,rfl,l1,o1,A1,Q1,B1⟩
 clear HC hbig
 obtain ⟨a1,c1,hv⟩:=A1.len
 subst hv
 obtain ⟨b1,d1,hv⟩:=Q1.len
 subst hv
 obtain ⟨q,hq⟩:∃q,q=ranAny L O k K x o n:=⟨_,rfl⟩
 have hql:=ranAny_len' L O k K n x o
 rw[←hq] at hql
 have Z0:Hid (q.code=0->bankOk (FL L) L.length (OrdF O) O.length k/\q.ok/\k.inn<=q.k.inn/\k.out<=q.k.out/\(q.k.day=k.day+1↔K=22)):=fun e=>by rw[hq] at e ⊢;exact ran_zero e
 have Z1:Hid (q.code≠0->q.code≠1->q.L=L/\q.O=O/\q.k=k):=fun e1 e2=>by rw[hq] at e1 e2 ⊢;exact ran_other e1 e2
 obtain ⟨m1,hm1⟩:∃m,L.length=m:=⟨_,rfl⟩
 obtain ⟨m2,hm2⟩:∃m,O.length=m:=⟨_,rfl⟩
 have IM:Hid (∀V,AL V h (.slice a1 m1 c1) L->OrdL V h (.slice b1 m2 d1) O->GE V p->Calls Tryz.prog 29 #[.agg #[.int .i64 k.day,(.slice a1 m1 c1),(.slice b1 m2 d1),.int .i64 k.inn,.int .i64 k.out,.int .i64 k.posted,.int .i64 k.missed],.agg #[.int .i64 K,.int .i64 x.k,.int .i64 x.i,.int .i64 x.t,.int .i64 x.m,.int .i64 x.r,.int .i64 o.id,.int .i64 o.src,.int .i64 o.dst,.int .i64 o.amount,.int .i64 o.first,.int .i64 o.every,.int .i64 o.times,.int .i64 n]] V fun e w'=>RanOut q V e w'):=fun V h1 h2 h3=>by
  rw[hq]
  have f1:=(h1.fo (by omega)).2
  have f2:=(h2.list (by omega)).2
  rw[←hm1] at f1 ⊢
  rw[←hm2] at f2 ⊢
  exact implRan a1 b1 c1 d1 L O k K n x o p V f1 f2 h3
 have SP:Hid (∀V,AL V h (.slice a1 m1 c1) L->OrdL V h (.slice b1 m2 d1) O->Calls Tryz.prog 30 #[.agg #[.int .i64 k.day,(.slice a1 m1 c1),(.slice b1 m2 d1),.int .i64 k.inn,.int .i64 k.out,.int .i64 k.posted,.int .i64 k.missed],.agg #[.int .i64 K,.int .i64 x.k,.int .i64 x.i,.int .i64 x.t,.int .i64 x.m,.int .i64 x.r,.int .i64 o.id,.int .i64 o.src,.int .i64 o.dst,.int .i64 o.amount,.int .i64 o.first,.int .i64 o.every,.int .i64 o.times,.int .i64 n]] V fun e w'=>RanOut q V e w'):=fun V h1 h2=>by
  rw[hq]
  obtain ⟨r1,r2⟩:=h2.room
  have f1:=(h1.fo (by omega)).2
  have f2:=(h2.list (by omega)).2
  rw[←hm1] at f1 ⊢
  rw[←hm2] at f2 ⊢
  exact specRanW a1 b1 c1 d1 L O k K n x o V f1 f2 r1 r2
 obtain ⟨bk,C27,C31⟩:∃bk:Bool,Hid (∀V,AL V h (.slice a1 m1 c1) L->OrdL V h (.slice b1 m2 d1) O->Calls Tryz.prog 27 #[.agg #[.int .i64 k.day,(.slice a1 m1 c1),(.slice b1 m2 d1),.int .i64 k.inn,.int .i64 k.out,.int .i64 k.posted,.int .i64 k.missed]] V fun e w'=>e=.returned (.bool bk)/\Below V.heap.size V w')/\Hid (∀V,AL V h (.slice a1 m1 c1) L->OrdL V h (.slice b1 m2 d1) O->Calls Tryz.prog 31 #[.agg #[.int .i64 k.day,(.slice a1 m1 c1),(.slice b1 m2 d1),.int .i64 k.inn,.int .i64 k.out,.int .i64 k.posted,.int .i64 k.missed]] V fun e w'=>e=.returned (.bool bk)/\Below V.heap.size V w'):=by
  classical
  refine ⟨decide (bankOk (FL L) m1 (OrdF O) m2 k),fun V h1 h2=>?_,fun V h1 h2=>?_⟩
  ·refine (implBank a1 b1 m1 c1 m2 d1 (FL L) (OrdF O) k V (h1.fo (by omega)).2 (h2.list (by omega)).2).mono ?_
   rintro e w' ⟨⟨bb,rfl,t1,t2⟩,hb⟩
   refine ⟨?_,hb⟩
   cases bb with
   | true=>rw[decide_eq_true (t1 rfl)]
   | false=>rw[decide_eq_false (t2 rfl)]
  ·refine (specBank a1 b1 m1 c1 m2 d1 (FL L) (OrdF O) k V (h1.fo (by omega)).2 (h2.list (by omega)).2).mono ?_
   rintro e w' ⟨⟨bb,rfl,t1,t2⟩,hb⟩
   refine ⟨?_,hb⟩
   cases bb with
   | true=>rw[decide_eq_true (t1 rfl)]
   | false=>rw[decide_eq_false (t2 rfl)]
 have HLO:Hid (L.length<=12/\O.length<=8/\L.length=m1/\O.length=m2):=⟨l1,o1,hm1,hm2⟩
 rw[hm1] at A1
 rw[hm2] at Q1
 simp only[hm1,hm2]
 obtain ⟨cd,G,Q,kd⟩:=q
 dsimp only at hql Z0 Z1
 obtain ⟨g1,hg1⟩:∃m,G.length=m:=⟨_,rfl⟩
 obtain ⟨g2,hg2⟩:∃m,Q.length=m:=⟨_,rfl⟩
 have HLQ:=hidOf hql
 have HLG:Hid (G.length=g1/\Q.length=g2):=⟨hg1,hg2⟩
 have RO:Hid (∀V e W,RanOut ⟨cd,G,Q,kd⟩ V e W->h<=V.heap.size->∃a2 c2 b2 d2,e=.returned (.tuple #[.agg #[.int .i64 kd.day,(.slice a2 g1 c2),(.slice b2 g2 d2),.int .i64 kd.inn,.int .i64 kd.out,.int .i64 kd.posted,.int .i64 kd.missed],.int .i64 cd])/\AL W h (.slice a2 g1 c2) G/\OrdL W h (.slice b2 g2 d2) Q/\Below V.heap.size V W):=fun V e W hr hV=>by
  obtain ⟨v,u,rfl,r1,r2,r3⟩:=hr
  obtain ⟨a2,c2,rfl⟩:=AL.len r1
  obtain ⟨b2,d2,rfl⟩:=OrdL.len r2
  dsimp only at r1 r2 ⊢
  rw[hg1] at r1 ⊢
  rw[hg2] at r2 ⊢
  exact ⟨a2,c2,b2,d2,rfl,r1.mono hV,r2.mono hV,r3⟩
 obtain ⟨V1,hV1,X1⟩:∃V,V=(w1.alloc (.cells #[.int .i64 k.day,(.slice a1 m1 c1),(.slice b1 m2 d1),.int .i64 k.inn,.int .i64 k.out,.int .i64 k.posted,.int .i64 k.missed] 38)).alloc (.cells ([.int .i64 K,.int .i64 x.k,.int .i64 x.i,.int .i64 x.t,.int .i64 x.m,.int .i64 x.r,.int .i64 o.id,.int .i64 o.src,.int .i64 o.dst,.int .i64 o.amount,.int .i64 o.first,.int .i64 o.every,.int .i64 o.times,.int .i64 n]:List Value).toArray 51)/\Hid (Bkw V w1.heap.size h (.slice a1 m1 c1) (.slice b1 m2 d1) k L O/\Vals V (w1.heap.size+1) [.int .i64 K,.int .i64 x.k,.int .i64 x.i,.int .i64 x.t,.int .i64 x.m,.int .i64 x.r,.int .i64 o.id,.int .i64 o.src,.int .i64 o.dst,.int .i64 o.amount,.int .i64 o.first,.int .i64 o.every,.int .i64 o.times,.int .i64 n]/\Below h w V):=by
  have b2:Below (w1.alloc (.cells #[.int .i64 k.day,(.slice a1 m1 c1),(.slice b1 m2 d1),.int .i64 k.inn,.int .i64 k.out,.int .i64 k.posted,.int .i64 k.missed] 38)).heap.size (w1.alloc (.cells #[.int .i64 k.day,(.slice a1 m1 c1),(.slice b1 m2 d1),.int .i64 k.inn,.int .i64 k.out,.int .i64 k.posted,.int .i64 k.missed] 38)) ((w1.alloc (.cells #[.int .i64 k.day,(.slice a1 m1 c1),(.slice b1 m2 d1),.int .i64 k.inn,.int .i64 k.out,.int .i64 k.posted,.int .i64 k.missed] 38)).alloc (.cells ([.int .i64 K,.int .i64 x.k,.int .i64 x.i,.int .i64 x.t,.int .i64 x.m,.int .i64 x.r,.int .i64 o.id,.int .i64 o.src,.int .i64 o.dst,.int .i64 o.amount,.int .i64 o.first,.int .i64 o.every,.int .i64 o.times,.int .i64 n]:List Value).toArray 51)):=(Below.refl _ _).alloc (Nat.le_refl _) _
  have b3:Below w1.heap.size w1 (w1.alloc (.cells #[.int .i64 k.day,(.slice a1 m1 c1),(.slice b1 m2 d1),.int .i64 k.inn,.int .i64 k.out,.int .i64 k.posted,.int .i64 k.missed] 38)):=(Below.refl _ _).alloc (Nat.le_refl _) _
  have v1:=Vals.new (w1.alloc (.cells #[.int .i64 k.day,(.slice a1 m1 c1),(.slice b1 m2 d1),.int .i64 k.inn,.int .i64 k.out,.int .i64 k.posted,.int .i64 k.missed] 38)) [.int .i64 K,.int .i64 x.k,.int .i64 x.i,.int .i64 x.t,.int .i64 x.m,.int .i64 x.r,.int .i64 o.id,.int .i64 o.src,.int .i64 o.dst,.int .i64 o.amount,.int .i64 o.first,.int .i64 o.every,.int .i64 o.times,.int .i64 n] 51
  simp only[World.size_alloc] at v1
  rw[HH.out] at A1 Q1 B1
  exact ⟨_,rfl,(Bkw.new A1 Q1 (Nat.le_refl _)).below b2,v1,LEB.out (LEB.out B1 b3) b2⟩
 have HV1:Hid (V1=(w1.alloc (.cells #[.int .i64 k.day,(.slice a1 m1 c1),(.slice b1 m2 d1),.int .i64 k.inn,.int .i64 k.out,.int .i64 k.posted,.int .i64 k.missed] 38)).alloc (.cells #[.int .i64 K,.int .i64 x.k,.int .i64 x.i,.int .i64 x.t,.int .i64 x.m,.int .i64 x.r,.int .i64 o.id,.int .i64 o.src,.int .i64 o.dst,.int .i64 o.amount,.int .i64 o.first,.int .i64 o.every,.int .i64 o.times,.int .i64 n] 51)):=hV1
 clear hV1 l1 o1 A1 Q1 B1 hq hm1 hm2 hg1 hg2 hql
 go_upto_region 4 with fail
 rw[←HV1.out]
 obtain ⟨r3,hr3⟩:∃r,w1.heap.size=r:=⟨_,rfl⟩
 rw[hr3] at X1
 try rw[hr3]
 obtain ⟨r4,hr4⟩:∃r,r3+1=r:=⟨_,rfl⟩
 rw[hr4] at X1
 try rw[hr4]
 clear HV1 hr3 hr4
 obtain ⟨⟨s0,s1,s2,s3,s4,s5,s6⟩,sf,sz⟩:=X1.out.1.1
 have t0:=X1.out.2.1.1 0 _ rfl
 have t1:=X1.out.2.1.1 1 _ rfl
 have t2:=X1.out.2.1.1 2 _ rfl
 have t3:=X1.out.2.1.1 3 _ rfl
 have t4:=X1.out.2.1.1 4 _ rfl
 have t5:=X1.out.2.1.1 5 _ rfl
 have t6:=X1.out.2.1.1 6 _ rfl
 have t7:=X1.out.2.1.1 7 _ rfl
 have t8:=X1.out.2.1.1 8 _ rfl
 have t9:=X1.out.2.1.1 9 _ rfl
 have t10:=X1.out.2.1.1 10 _ rfl
 have t11:=X1.out.2.1.1 11 _ rfl
 have t12:=X1.out.2.1.1 12 _ rfl
 have t13:=X1.out.2.1.1 13 _ rfl
 go_wp2_with fail
 refine (IM.out _ X1.out.1.2.1 X1.out.1.2.2 (HG.out.below (by rw[HH.out];exact X1.out.2.2))).mono ?_
 rintro e w2 hr2
 obtain ⟨a2,c2,b2,d2,rfl,A2,Q2,B2⟩:=RO.out _ _ _ hr2 (by have:=X1.out.2.2.size;rw[HH.out] at this;exact this)
 obtain ⟨V2,hV2,X2⟩:∃V,V=w2.alloc (.cells #[.int .i64 kd.day,(.slice a2 g1 c2),(.slice b2 g2 d2),.int .i64 kd.inn,.int .i64 kd.out,.int .i64 kd.posted,.int .i64 kd.missed] 38)/\Hid (Bkw V w2.heap.size h (.slice a2 g1 c2) (.slice b2 g2 d2) kd G Q/\Bkw V r3 h (.slice a1 m1 c1) (.slice b1 m2 d1) k L O/\Vals V r4 [.int .i64 K,.int .i64 x.k,.int .i64 x.i,.int .i64 x.t,.int .i64 x.m,.int .i64 x.r,.int .i64 o.id,.int .i64 o.src,.int .i64 o.dst,.int .i64 o.amount,.int .i64 o.first,.int .i64 o.every,.int .i64 o.times,.int .i64 n]/\Below h w V):=by
  have hb:Below w2.heap.size w2 (w2.alloc (.cells #[.int .i64 kd.day,(.slice a2 g1 c2),(.slice b2 g2 d2),.int .i64 kd.inn,.int .i64 kd.out,.int .i64 kd.posted,.int .i64 kd.missed] 38)):=(Below.refl _ _).alloc (Nat.le_refl _) _
  exact ⟨_,rfl,Bkw.new A2 Q2 (Nat.le_refl _),(X1.out.1.below B2).below hb,(X1.out.2.1.kept B2 X1.out.2.1.2.2).kept hb (Nat.lt_of_lt_of_le X1.out.2.1.2.2 B2.size),LEB.out (LEB.out X1.out.2.2 B2) hb⟩
 have HV2:=hidOf hV2
 clear hV2 hr2 A2 Q2 B2 X1 t0 t1 t2 t3 t4 t5 t6 t7 t8 t9 t10 t11 t12 t13 IM HG
 clear s0 s1 s2 s3 s4 s5 s6 sf sz
 go_upto_region 5 with fail
 rw[←HV2.out]
 obtain ⟨r5,hr5⟩:∃r,w2.heap.size=r:=⟨_,rfl⟩
 rw[hr5] at X2
 try rw[hr5]
 clear HV2 hr5
 obtain ⟨⟨s0,s1,s2,s3,s4,s5,s6⟩,sf,sz⟩:=X2.out.2.1.1
 have t0:=X2.out.2.2.1.1 0 _ rfl
 have t1:=X2.out.2.2.1.1 1 _ rfl
 have t2:=X2.out.2.2.1.1 2 _ rfl
 have t3:=X2.out.2.2.1.1 3 _ rfl
 have t4:=X2.out.2.2.1.1 4 _ rfl
 have t5:=X2.out.2.2.1.1 5 _ rfl
 have t6:=X2.out.2.2.1.1 6 _ rfl
 have t7:=X2.out.2.2.1.1 7 _ rfl
 have t8:=X2.out.2.2.1.1 8 _ rfl
 have t9:=X2.out.2.2.1.1 9 _ rfl
 have t10:=X2.out.2.2.1.1 10 _ rfl
 have t11:=X2.out.2.2.1.1 11 _ rfl
 have t12:=X2.out.2.2.1.1 12 _ rfl
 have t13:=X2.out.2.2.1.1 13 _ rfl
 go_wp2_with fail
 refine (SP.out _ X2.out.2.1.2.1 X2.out.2.1.2.2).mono ?_
 rintro e w3 hr3
 obtain ⟨a3,c3,b3,d3,rfl,A3,Q3,B3⟩:=RO.out _ _ _ hr3 (by have:=X2.out.2.2.2.size;rw[HH.out] at this;exact this)
 obtain ⟨V3,hV3,X3⟩:∃V,V=w3.alloc (.cells #[.int .i64 kd.day,(.slice a3 g1 c3),(.slice b3 g2 d3),.int .i64 kd.inn,.int .i64 kd.out,.int .i64 kd.posted,.int .i64 kd.missed] 38)/\Hid (Bkw V r5 h (.slice a2 g1 c2) (.slice b2 g2 d2) kd G Q/\Bkw V w3.heap.size h (.slice a3 g1 c3) (.slice b3 g2 d3) kd G Q/\Bkw V r3 h (.slice a1 m1 c1) (.slice b1 m2 d1) k L O/\Vals V r4 [.int .i64 K,.int .i64 x.k,.int .i64 x.i,.int .i64 x.t,.int .i64 x.m,.int .i64 x.r,.int .i64 o.id,.int .i64 o.src,.int .i64 o.dst,.int .i64 o.amount,.int .i64 o.first,.int .i64 o.every,.int .i64 o.times,.int .i64 n]/\Below h w V):=by
  have hb:Below w3.heap.size w3 (w3.alloc (.cells #[.int .i64 kd.day,(.slice a3 g1 c3),(.slice b3 g2 d3),.int .i64 kd.inn,.int .i64 kd.out,.int .i64 kd.posted,.int .i64 kd.missed] 38)):=(Below.refl _ _).alloc (Nat.le_refl _) _
  exact ⟨_,rfl,(X2.out.1.below B3).below hb,Bkw.new A3 Q3 (Nat.le_refl _),(X2.out.2.1.below B3).below hb,(X2.out.2.2.1.kept B3 X2.out.2.2.1.2.2).kept hb (Nat.lt_of_lt_of_le X2.out.2.2.1.2.2 B3.size),LEB.out (LEB.out X2.out.2.2.2 B3) hb⟩
 have HV3:=hidOf hV3
 clear hV3 hr3 A3 Q3 B3 X2 t0 t1 t2 t3 t4 t5 t6 t7 t8 t9 t10 t11 t12 t13 SP RO
 clear s0 s1 s2 s3 s4 s5 s6 sf sz
 have hcc:(cd != cd)=false:=by simp
 go_upto_region 6 with fail
 rw[←HV3.out]
 obtain ⟨r7,hr7⟩:∃r,w3.heap.size=r:=⟨_,rfl⟩
 rw[hr7] at X3
 try rw[hr7]
 clear HV3 hr7
 obtain ⟨⟨s0,s1,s2,s3,s4,s5,s6⟩,sf,sz⟩:=X3.out.1.1
 obtain ⟨⟨t0,t1,t2,t3,t4,t5,t6⟩,tf,tz⟩:=X3.out.2.1.1
 go_wp2_with fail
 refine (sameBankL kd _ HLQ.out.1 HLQ.out.2 X3.out.1.2.1 X3.out.1.2.2 X3.out.2.1.2.1 X3.out.2.1.2.2).mono ?_
 rintro e w4 ⟨rfl,B4⟩
 have X4:Hid (Bkw w4 r5 h (.slice a2 g1 c2) (.slice b2 g2 d2) kd G Q/\Bkw w4 r7 h (.slice a3 g1 c3) (.slice b3 g2 d3) kd G Q/\Bkw w4 r3 h (.slice a1 m1 c1) (.slice b1 m2 d1) k L O/\Vals w4 r4 [.int .i64 K,.int .i64 x.k,.int .i64 x.i,.int .i64 x.t,.int .i64 x.m,.int .i64 x.r,.int .i64 o.id,.int .i64 o.src,.int .i64 o.dst,.int .i64 o.amount,.int .i64 o.first,.int .i64 o.every,.int .i64 o.times,.int .i64 n]/\Below h w w4):=⟨X3.out.1.below B4,X3.out.2.1.below B4,X3.out.2.2.1.below B4,X3.out.2.2.2.1.kept B4 X3.out.2.2.2.1.2.2,LEB.out X3.out.2.2.2.2 B4⟩
 clear s0 s1 s2 s3 s4 s5 s6 sf sz
 clear t0 t1 t2 t3 t4 t5 t6 tf tz
 clear B4 X3
 by_cases hc1:cd=1
 ·subst hc1
  clear Z0 Z1
  have Yd:Hid (Bkw w4.drew r5 h (.slice a2 g1 c2) (.slice b2 g2 d2) kd G Q/\Bkw w4.drew r7 h (.slice a3 g1 c3) (.slice b3 g2 d3) kd G Q/\Bkw w4.drew r3 h (.slice a1 m1 c1) (.slice b1 m2 d1) k L O/\Vals w4.drew r4 [.int .i64 K,.int .i64 x.k,.int .i64 x.i,.int .i64 x.t,.int .i64 x.m,.int .i64 x.r,.int .i64 o.id,.int .i64 o.src,.int .i64 o.dst,.int .i64 o.amount,.int .i64 o.first,.int .i64 o.every,.int .i64 o.times,.int .i64 n]/\Below h w w4.drew):=⟨X4.out.1,X4.out.2.1,X4.out.2.2.1,X4.out.2.2.2.1,X4.out.2.2.2.2.drew⟩
  go_upto_region 7 with fail
  refine wp_region_held_drew (S:=fun V=>Nms r5 0 [.int .i64 kd.day,(.slice a2 g1 c2),(.slice b2 g2 d2),.int .i64 kd.inn,.int .i64 kd.out,.int .i64 kd.posted,.int .i64 kd.missed] V/\Nms r7 0 [.int .i64 kd.day,(.slice a3 g1 c3),(.slice b3 g2 d3),.int .i64 kd.inn,.int .i64 kd.out,.int .i64 kd.posted,.int .i64 kd.missed] V/\Nms r3 0 [.int .i64 k.day,(.slice a1 m1 c1),(.slice b1 m2 d1),.int .i64 k.inn,.int .i64 k.out,.int .i64 k.posted,.int .i64 k.missed] V) (by kernel_rfl) ⟨Yd.out.1.nms,Yd.out.2.1.nms,Yd.out.2.2.1.nms⟩ (fun hHeld=>?_)
  clear X4
  generalize w4.drew=wd at Yd hHeld ⊢
  have Ywd:=Yd
  clear Yd
  refine wpAnyH_take (i := 0) (oi := { dst := some 41, op := Op.move (Operand.tmp 6), type := 2, pos := "laws.go:473", after := #[], guard := none }) (v := ?_) rfl (by kernel_rfl) (by kernel_rfl) (by kernel_rfl) (fun _ _ _ h => h) (Or.inl ⟨by rfl, ?_⟩) hHeld ?_
  rotate_left
  ·intro wq hSw
   go_simp
   all_goals (with_reducible rfl)
  (try simp only[Act.put,List.setIfInBounds_toArray,List.set_cons_zero,List.set_cons_succ])
  refine wpAnyH_take (i := 1) (oi := { dst := some 42, op := Op.move (Operand.tmp 8), type := 2, pos := "laws.go:473", after := #[], guard := none }) (v := ?_) rfl (by kernel_rfl) (by kernel_rfl) (by kernel_rfl) (fun _ _ _ h => h) (Or.inl ⟨by rfl, ?_⟩) hHeld ?_
  rotate_left
  ·intro wq hSw
   go_simp
   all_goals (with_reducible rfl)
  (try simp only[Act.put,List.setIfInBounds_toArray,List.set_cons_zero,List.set_cons_succ])
  refine wpAnyH_take (i := 2) (oi := { dst := some 43, op := Op.binOp BinOp.eql 2 (Operand.tmp 41) (Operand.tmp 42) 2, type := 4, pos := "laws.go:473", after := #[{ on := 0, ground := Ground.data }, { on := 1, ground := Ground.data }], guard := none }) (v := ?_) rfl (by kernel_rfl) (by kernel_rfl) (by kernel_rfl) (fun _ _ _ h => h) (Or.inl ⟨by rfl, ?_⟩) hHeld ?_
  rotate_left
  ·intro wq hSw
   go_simp
   all_goals (with_reducible rfl)
  (try simp only[Act.put,List.setIfInBounds_toArray,List.set_cons_zero,List.set_cons_succ])
  refine wpAnyH_take (i := 3) (oi := { dst := some 44, op := Op.move (Operand.tmp 43), type := 4, pos := "laws.go:473", after := #[{ on := 2, ground := Ground.data }], guard := none }) (v := ?_) rfl (by kernel_rfl) (by kernel_rfl) (by kernel_rfl) (fun _ _ _ h => h) (Or.inl ⟨by rfl, ?_⟩) hHeld ?_
  rotate_left
  ·intro wq hSw
   go_simp
   all_goals (with_reducible rfl)
  (try simp only[Act.put,List.setIfInBounds_toArray,List.set_cons_zero,List.set_cons_succ])
  refine wpAnyH_take (i := 4) (oi := { dst := some 45, op := Op.load 38 (Operand.tmp 5), type := 38, pos := "laws.go:473", after := #[{ on := 3, ground := Ground.guard }], guard := some (3, true) }) (v := ?_) rfl (by kernel_rfl) (by kernel_rfl) (by kernel_rfl) (fun _ _ _ h => h) (Or.inl ⟨by rfl, ?_⟩) hHeld ?_
  rotate_left
  ·intro wq hSw
   have y0:=hSw.1.2 0 _ rfl
   have y1:=hSw.1.2 1 _ rfl
   have y2:=hSw.1.2 2 _ rfl
   have y3:=hSw.1.2 3 _ rfl
   have y4:=hSw.1.2 4 _ rfl
   have y5:=hSw.1.2 5 _ rfl
   have y6:=hSw.1.2 6 _ rfl
   simp only[Nat.zero_add] at y0 y1 y2 y3 y4 y5 y6
   go_simp
   all_goals (with_reducible rfl)
  (try simp only[Act.put,List.setIfInBounds_toArray,List.set_cons_zero,List.set_cons_succ])
  refine wpAnyH_take (i := 5) (oi := { dst := some 46, op := Op.load 38 (Operand.tmp 7), type := 38, pos := "laws.go:473", after := #[{ on := 3, ground := Ground.guard }], guard := some (3, true) }) (v := ?_) rfl (by kernel_rfl) (by kernel_rfl) (by kernel_rfl) (fun _ _ _ h => h) (Or.inl ⟨by rfl, ?_⟩) hHeld ?_
  rotate_left
  ·intro wq hSw
   have y0:=hSw.2.1.2 0 _ rfl
   have y1:=hSw.2.1.2 1 _ rfl
   have y2:=hSw.2.1.2 2 _ rfl
   have y3:=hSw.2.1.2 3 _ rfl
   have y4:=hSw.2.1.2 4 _ rfl
   have y5:=hSw.2.1.2 5 _ rfl
   have y6:=hSw.2.1.2 6 _ rfl
   simp only[Nat.zero_add] at y0 y1 y2 y3 y4 y5 y6
   go_simp
   all_goals (with_reducible rfl)
  (try simp only[Act.put,List.setIfInBounds_toArray,List.set_cons_zero,List.set_cons_succ])
  refine wpAnyH_ready (rs:=[6]) (by kernel_rfl) (by simp) ?_
  refine AllReadyH.cons (o := { dst := some 47, op := Op.call { callee := Callee.value (Operand.func 24), args := #[Operand.tmp 45, Operand.tmp 46], argTypes := #[38, 38] }, type := 4, pos := "laws.go:473", after := #[{ on := 4, ground := Ground.data }, { on := 5, ground := Ground.data }, { on := 3, ground := Ground.chain }, { on := 3, ground := Ground.guard }], guard := some (3, true) }) rfl (fun K' hK => ?_) AllReadyH.nil
  go_simp
  refine (sameBankL kd _ HLQ.out.1 HLQ.out.2 Ywd.out.1.2.1 Ywd.out.1.2.2 Ywd.out.2.1.2.1 Ywd.out.2.1.2.2).mono ?_
  rintro e we ⟨rfl,BN⟩
  have Ywe:Hid (Bkw we r5 h (.slice a2 g1 c2) (.slice b2 g2 d2) kd G Q/\Bkw we r7 h (.slice a3 g1 c3) (.slice b3 g2 d3) kd G Q/\Bkw we r3 h (.slice a1 m1 c1) (.slice b1 m2 d1) k L O/\Vals we r4 [.int .i64 K,.int .i64 x.k,.int .i64 x.i,.int .i64 x.t,.int .i64 x.m,.int .i64 x.r,.int .i64 o.id,.int .i64 o.src,.int .i64 o.dst,.int .i64 o.amount,.int .i64 o.first,.int .i64 o.every,.int .i64 o.times,.int .i64 n]/\Below h w we):=⟨Ywd.out.1.below BN,Ywd.out.2.1.below BN,Ywd.out.2.2.1.below BN,Ywd.out.2.2.2.1.kept BN Ywd.out.2.2.2.1.2.2,LEB.out Ywd.out.2.2.2.2 BN⟩
  have hN:Nms r5 0 [.int .i64 kd.day,(.slice a2 g1 c2),(.slice b2 g2 d2),.int .i64 kd.inn,.int .i64 kd.out,.int .i64 kd.posted,.int .i64 kd.missed] we/\Nms r7 0 [.int .i64 kd.day,(.slice a3 g1 c3),(.slice b3 g2 d3),.int .i64 kd.inn,.int .i64 kd.out,.int .i64 kd.posted,.int .i64 kd.missed] we/\Nms r3 0 [.int .i64 k.day,(.slice a1 m1 c1),(.slice b1 m2 d1),.int .i64 k.inn,.int .i64 k.out,.int .i64 k.posted,.int .i64 k.missed] we:=⟨hHeld.1.below BN,hHeld.2.1.below BN,hHeld.2.2.below BN⟩
  clear BN Ywd hHeld
  refine hK.out _ _ hN (fun hHeld=>?_)
  clear hK hN
  (try simp only[Act.put,List.setIfInBounds_toArray,List.set_cons_zero,List.set_cons_succ])
  refine wpAnyH_take (i := 7) (oi := { dst := some 48, op := Op.pick (Operand.tmp 44) (Operand.tmp 47) (Operand.const (Value.bool false)), type := 4, pos := "laws.go:473", after := #[{ on := 3, ground := Ground.data }, { on := 6, ground := Ground.data }], guard := none }) (v := ?_) rfl (by kernel_rfl) (by kernel_rfl) (by kernel_rfl) (fun _ _ _ h => h) (Or.inl ⟨by rfl, ?_⟩) hHeld ?_
  rotate_left
  ·intro wq hSw
   go_simp
   all_goals (with_reducible rfl)
  (try simp only[Act.put,List.setIfInBounds_toArray,List.set_cons_zero,List.set_cons_succ])
  refine wpAnyH_take (i := 8) (oi := { dst := some 49, op := Op.move (Operand.tmp 48), type := 4, pos := "laws.go:473", after := #[{ on := 7, ground := Ground.data }, { on := 6, ground := Ground.chain }], guard := none }) (v := ?_) rfl (by kernel_rfl) (by kernel_rfl) (by kernel_rfl) (fun _ _ _ h => h) (Or.inl ⟨by rfl, ?_⟩) hHeld ?_
  rotate_left
  ·intro wq hSw
   go_simp
   all_goals (with_reducible rfl)
  (try simp only[Act.put,List.setIfInBounds_toArray,List.set_cons_zero,List.set_cons_succ])
  refine wpAnyH_take (i := 9) (oi := { dst := some 50, op := Op.load 38 (Operand.tmp 3), type := 38, pos := "laws.go:473", after := #[{ on := 8, ground := Ground.guard }], guard := some (8, true) }) (v := ?_) rfl (by kernel_rfl) (by kernel_rfl) (by kernel_rfl) (fun _ _ _ h => h) (Or.inl ⟨by rfl, ?_⟩) hHeld ?_
  rotate_left
  ·intro wq hSw
   have y0:=hSw.2.2.2 0 _ rfl
   have y1:=hSw.2.2.2 1 _ rfl
   have y2:=hSw.2.2.2 2 _ rfl
   have y3:=hSw.2.2.2 3 _ rfl
   have y4:=hSw.2.2.2 4 _ rfl
   have y5:=hSw.2.2.2 5 _ rfl
   have y6:=hSw.2.2.2 6 _ rfl
   simp only[Nat.zero_add] at y0 y1 y2 y3 y4 y5 y6
   go_simp
   all_goals (with_reducible rfl)
  (try simp only[Act.put,List.setIfInBounds_toArray,List.set_cons_zero,List.set_cons_succ])
  refine wpAnyH_take (i := 11) (oi := { dst := some 52, op := Op.load 38 (Operand.tmp 3), type := 38, pos := "laws.go:473", after := #[{ on := 8, ground := Ground.guard }], guard := some (8, true) }) (v := ?_) rfl (by kernel_rfl) (by kernel_rfl) (by kernel_rfl) (fun _ _ _ h => h) (Or.inl ⟨by rfl, ?_⟩) hHeld ?_
  rotate_left
  ·intro wq hSw
   have y0:=hSw.2.2.2 0 _ rfl
   have y1:=hSw.2.2.2 1 _ rfl
   have y2:=hSw.2.2.2 2 _ rfl
   have y3:=hSw.2.2.2 3 _ rfl
   have y4:=hSw.2.2.2 4 _ rfl
   have y5:=hSw.2.2.2 5 _ rfl
   have y6:=hSw.2.2.2 6 _ rfl
   simp only[Nat.zero_add] at y0 y1 y2 y3 y4 y5 y6
   go_simp
   all_goals (with_reducible rfl)
  (try simp only[Act.put,List.setIfInBounds_toArray,List.set_cons_zero,List.set_cons_succ])
  refine wpAnyH_ready (rs:=[10]) (by kernel_rfl) (by simp) ?_
  refine AllReadyH.cons (o := { dst := some 51, op := Op.call { callee := Callee.value (Operand.func 27), args := #[Operand.tmp 50], argTypes := #[38] }, type := 4, pos := "laws.go:473", after := #[{ on := 9, ground := Ground.data }, { on := 8, ground := Ground.chain }, { on := 8, ground := Ground.guard }], guard := some (8, true) }) rfl (fun K' hK => ?_) AllReadyH.nil
  go_simp
  refine (C27.out _ Ywe.out.2.2.1.2.1 Ywe.out.2.2.1.2.2).mono ?_
  rintro e wf ⟨rfl,BN⟩
  have Ywf:Hid (Bkw wf r5 h (.slice a2 g1 c2) (.slice b2 g2 d2) kd G Q/\Bkw wf r7 h (.slice a3 g1 c3) (.slice b3 g2 d3) kd G Q/\Bkw wf r3 h (.slice a1 m1 c1) (.slice b1 m2 d1) k L O/\Vals wf r4 [.int .i64 K,.int .i64 x.k,.int .i64 x.i,.int .i64 x.t,.int .i64 x.m,.int .i64 x.r,.int .i64 o.id,.int .i64 o.src,.int .i64 o.dst,.int .i64 o.amount,.int .i64 o.first,.int .i64 o.every,.int .i64 o.times,.int .i64 n]/\Below h w wf):=⟨Ywe.out.1.below BN,Ywe.out.2.1.below BN,Ywe.out.2.2.1.below BN,Ywe.out.2.2.2.1.kept BN Ywe.out.2.2.2.1.2.2,LEB.out Ywe.out.2.2.2.2 BN⟩
  have hN:Nms r5 0 [.int .i64 kd.day,(.slice a2 g1 c2),(.slice b2 g2 d2),.int .i64 kd.inn,.int .i64 kd.out,.int .i64 kd.posted,.int .i64 kd.missed] wf/\Nms r7 0 [.int .i64 kd.day,(.slice a3 g1 c3),(.slice b3 g2 d3),.int .i64 kd.inn,.int .i64 kd.out,.int .i64 kd.posted,.int .i64 kd.missed] wf/\Nms r3 0 [.int .i64 k.day,(.slice a1 m1 c1),(.slice b1 m2 d1),.int .i64 k.inn,.int .i64 k.out,.int .i64 k.posted,.int .i64 k.missed] wf:=⟨hHeld.1.below BN,hHeld.2.1.below BN,hHeld.2.2.below BN⟩
  clear BN Ywe hHeld
  refine hK.out _ _ hN (fun hHeld=>?_)
  clear hK hN
  (try simp only[Act.put,List.setIfInBounds_toArray,List.set_cons_zero,List.set_cons_succ])
  refine wpAnyH_ready (rs:=[12]) (by kernel_rfl) (by simp) ?_
  refine AllReadyH.cons (o := { dst := some 53, op := Op.call { callee := Callee.value (Operand.func 31), args := #[Operand.tmp 52], argTypes := #[38] }, type := 4, pos := "laws.go:473", after := #[{ on := 11, ground := Ground.data }, { on := 10, ground := Ground.chain }, { on := 8, ground := Ground.guard }], guard := some (8, true) }) rfl (fun K' hK => ?_) AllReadyH.nil
  go_simp
  refine (C31.out _ Ywf.out.2.2.1.2.1 Ywf.out.2.2.1.2.2).mono ?_
  rintro e wg ⟨rfl,BN⟩
  have Ywg:Hid (Bkw wg r5 h (.slice a2 g1 c2) (.slice b2 g2 d2) kd G Q/\Bkw wg r7 h (.slice a3 g1 c3) (.slice b3 g2 d3) kd G Q/\Bkw wg r3 h (.slice a1 m1 c1) (.slice b1 m2 d1) k L O/\Vals wg r4 [.int .i64 K,.int .i64 x.k,.int .i64 x.i,.int .i64 x.t,.int .i64 x.m,.int .i64 x.r,.int .i64 o.id,.int .i64 o.src,.int .i64 o.dst,.int .i64 o.amount,.int .i64 o.first,.int .i64 o.every,.int .i64 o.times,.int .i64 n]/\Below h w wg):=⟨Ywf.out.1.below BN,Ywf.out.2.1.below BN,Ywf.out.2.2.1.below BN,Ywf.out.2.2.2.1.kept BN Ywf.out.2.2.2.1.2.2,LEB.out Ywf.out.2.2.2.2 BN⟩
  have hN:Nms r5 0 [.int .i64 kd.day,(.slice a2 g1 c2),(.slice b2 g2 d2),.int .i64 kd.inn,.int .i64 kd.out,.int .i64 kd.posted,.int .i64 kd.missed] wg/\Nms r7 0 [.int .i64 kd.day,(.slice a3 g1 c3),(.slice b3 g2 d3),.int .i64 kd.inn,.int .i64 kd.out,.int .i64 kd.posted,.int .i64 kd.missed] wg/\Nms r3 0 [.int .i64 k.day,(.slice a1 m1 c1),(.slice b1 m2 d1),.int .i64 k.inn,.int .i64 k.out,.int .i64 k.posted,.int .i64 k.missed] wg:=⟨hHeld.1.below BN,hHeld.2.1.below BN,hHeld.2.2.below BN⟩
  clear BN Ywf hHeld
  refine hK.out _ _ hN (fun hHeld=>?_)
  clear hK hN
  (try simp only[Act.put,List.setIfInBounds_toArray,List.set_cons_zero,List.set_cons_succ])
  refine wpAnyH_take (i := 13) (oi := { dst := some 54, op := Op.binOp BinOp.eql 4 (Operand.tmp 51) (Operand.tmp 53) 4, type := 4, pos := "laws.go:473", after := #[{ on := 10, ground := Ground.data }, { on := 12, ground := Ground.data }, { on := 8, ground := Ground.guard }], guard := some (8, true) }) (v := ?_) rfl (by kernel_rfl) (by kernel_rfl) (by kernel_rfl) (fun _ _ _ h => h) (Or.inl ⟨by rfl, ?_⟩) hHeld ?_
  rotate_left
  ·intro wq hSw
   go_simp
   all_goals (with_reducible rfl)
  (try simp only[Act.put,List.setIfInBounds_toArray,List.set_cons_zero,List.set_cons_succ])
  refine wpAnyH_take (i := 14) (oi := { dst := some 55, op := Op.pick (Operand.tmp 49) (Operand.tmp 54) (Operand.const (Value.bool false)), type := 4, pos := "laws.go:473", after := #[{ on := 8, ground := Ground.data }, { on := 13, ground := Ground.data }], guard := none }) (v := ?_) rfl (by kernel_rfl) (by kernel_rfl) (by kernel_rfl) (fun _ _ _ h => h) (Or.inl ⟨by rfl, ?_⟩) hHeld ?_
  rotate_left
  ·intro wq hSw
   go_simp
   all_goals (with_reducible rfl)
  (try simp only[Act.put,List.setIfInBounds_toArray,List.set_cons_zero,List.set_cons_succ])
  refine wpAnyH_ready (rs:=[15]) (by kernel_rfl) (by simp) ?_
  refine AllReadyH.cons (o := { dst := some 2, op := Op.assign (Operand.tmp 55), type := 4, pos := "laws.go:473", after := #[{ on := 14, ground := Ground.data }, { on := 12, ground := Ground.chain }, { on := 0, ground := Ground.phase }, { on := 1, ground := Ground.phase }, { on := 2, ground := Ground.phase }, { on := 3, ground := Ground.phase }, { on := 4, ground := Ground.phase }, { on := 5, ground := Ground.phase }, { on := 6, ground := Ground.phase }, { on := 7, ground := Ground.phase }, { on := 8, ground := Ground.phase }, { on := 9, ground := Ground.phase }, { on := 10, ground := Ground.phase }, { on := 11, ground := Ground.phase }, { on := 12, ground := Ground.phase }, { on := 13, ground := Ground.phase }, { on := 14, ground := Ground.phase }], guard := none }) rfl (fun K' hK => ?_) AllReadyH.nil
  go_simp
  refine hK.out _ _ hHeld (fun hHeld=>?_)
  clear hK hHeld
  (try simp only[Act.put,List.setIfInBounds_toArray,List.set_cons_zero,List.set_cons_succ])
  refine wpAnyH_done (by kernel_rfl) ?_ _
  go_wp2
  go_ret
  exact ⟨rfl,by rw[HH.out];exact Ywg.out.2.2.2.2⟩
 have hc1b:(cd == 1)=false:=by simp[hc1]
 by_cases hc0:cd=0
 ·subst hc0
  obtain ⟨zb,zq,zi,zo,zd⟩:=Z0.out rfl
  have hday:0<=k.day/\k.day<=3000000:=zb.1
  have hwr:IntKind.i64.wrap (k.day+1)=k.day+1:=by rw[IntKind.wrap_i64];omega
  have HOK:Hid (bankOk (FL G) g1 (OrdF Q) g2 kd):=by rw[←HLG.out.1,←HLG.out.2];exact zq
  have hd1:decide (kd.inn≥k.inn)=true:=by simp;omega
  have hd2:decide (kd.out≥k.out)=true:=by simp;omega
  have hd3:decide (k.inn<=kd.inn)=true:=by simp;omega
  have hd4:decide (k.out<=kd.out)=true:=by simp;omega
  obtain ⟨bd,hbd1,hbd2⟩:∃bd:Bool,(kd.day == k.day+1)=bd/\(K == 22)=bd:=by
   by_cases hK:K=22
   ·exact ⟨true,by simp[zd.2 hK],by simp[hK]⟩
   ·exact ⟨false,by simp;exact fun e=>hK (zd.1 e),by simp[hK]⟩
  clear zb zq zd Z0 Z1
  obtain ⟨⟨s0,s1,s2,s3,s4,s5,s6⟩,sf,sz⟩:=X4.out.1.1
  go_wp2_with fail
  refine (implBank a2 b2 g1 c2 g2 d2 (FL G) (OrdF Q) kd _ (X4.out.1.2.1.fo (by have:=HLQ.out;omega)).2 (X4.out.1.2.2.list (by have:=HLQ.out;omega)).2).mono ?_
  rintro e w5 ⟨⟨bb,rfl,t1,t2⟩,B5⟩
  obtain rfl:bb=true:=by cases bb with|false=>exact absurd HOK.out (t2 rfl)|true=>rfl
  have X5:Hid (Bkw w5 r5 h (.slice a2 g1 c2) (.slice b2 g2 d2) kd G Q/\Bkw w5 r7 h (.slice a3 g1 c3) (.slice b3 g2 d3) kd G Q/\Bkw w5 r3 h (.slice a1 m1 c1) (.slice b1 m2 d1) k L O/\Vals w5 r4 [.int .i64 K,.int .i64 x.k,.int .i64 x.i,.int .i64 x.t,.int .i64 x.m,.int .i64 x.r,.int .i64 o.id,.int .i64 o.src,.int .i64 o.dst,.int .i64 o.amount,.int .i64 o.first,.int .i64 o.every,.int .i64 o.times,.int .i64 n]/\Below h w w5):=⟨X4.out.1.below B5,X4.out.2.1.below B5,X4.out.2.2.1.below B5,X4.out.2.2.2.1.kept B5 X4.out.2.2.2.1.2.2,LEB.out X4.out.2.2.2.2 B5⟩
  clear t1 t2 B5 X4 HOK
  clear s0 s1 s2 s3 s4 s5 s6 sf sz
  obtain ⟨⟨s0,s1,s2,s3,s4,s5,s6⟩,sf,sz⟩:=X5.out.1.1
  obtain ⟨⟨t0,t1,t2,t3,t4,t5,t6⟩,tf,tz⟩:=X5.out.2.2.1.1
  have p0:=X5.out.2.2.2.1.1 0 _ rfl
  go_wp2
  go_ret
  exact ⟨by simp,by rw[HH.out];exact X5.out.2.2.2.2⟩
 ·obtain ⟨e1,e2,e3⟩:=Z1.out hc0 hc1
  have hc0b:(cd != 0)=true:=by simp[hc0]
  obtain rfl:g1=m1:=by rw[←HLG.out.1,←HLO.out.2.2.1,e1]
  obtain rfl:g2=m2:=by rw[←HLG.out.2,←HLO.out.2.2.2,e2]
  subst e1 e2 e3
  clear Z0 Z1 C27 C31
  obtain ⟨⟨s0,s1,s2,s3,s4,s5,s6⟩,sf,sz⟩:=X4.out.1.1
  obtain ⟨⟨t0,t1,t2,t3,t4,t5,t6⟩,tf,tz⟩:=X4.out.2.2.1.1
  go_wp2_with fail
  refine (sameBankL _ _ HLQ.out.1 HLQ.out.2 X4.out.1.2.1 X4.out.1.2.2 X4.out.2.2.1.2.1 X4.out.2.2.1.2.2).mono ?_
  rintro e w5 ⟨rfl,B5⟩
  have FI:Hid (Below h w w5):=LEB.out X4.out.2.2.2.2 B5
  clear B5 X4
  clear s0 s1 s2 s3 s4 s5 s6 sf sz
  clear t0 t1 t2 t3 t4 t5 t6 tf tz
  go_wp2
  go_ret
  exact ⟨rfl,by rw[HH.out];exact FI.out⟩
end Go.Proofs.YtghkbhggopiajaaGreatDoor
