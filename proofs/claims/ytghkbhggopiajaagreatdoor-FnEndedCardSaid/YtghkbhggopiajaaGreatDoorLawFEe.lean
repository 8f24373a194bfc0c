/- The law FnEnded returns true. -/
import Derived.Test.YtghkbhggopiajaaGreatDoorDree
namespace Go.Proofs.YtghkbhggopiajaaGreatDoor
open Go.RowKit
set_option maxRecDepth 8000
set_option maxHeartbeats 16000000 in
theorem lawFEnd (a:Option Addr) (len cap:Nat) (p:Nat->Addr) (w:World) (hc:Code w a len) (hG:GE w p):
  Calls Tryz.prog 4 #[.slice a len cap] w fun e w'=>e=.returned (.bool true)/\Below w.heap.size w w':=by
 have HC:=hidOf hc
 have HG:=hidOf hG
 obtain ⟨h,hh⟩:∃h,w.heap.size=h:=⟨_,rfl⟩
 have HH:=hidOf hh
 have LEB:Hid (∀{V W:World},Below h w V->Below V.heap.size V W->Below h w W):=fun {V W} p q=>p.trans (q.mono (by have:=p.size;rw[HH.out] at this;exact this))
 clear hc hG hh
 by_cases hbig:1048576<len
 ·go_enter Tryz.func4,Tryz.ntmps4
  go_wp2_with (go_at_call 11;refine (big_yes _ _ _ _ hbig).mono ?_;rintro e w' ⟨rfl,rfl⟩)
  go_ret
  exact ⟨rfl,Below.refl _ _⟩
 go_enter Tryz.func4,Tryz.ntmps4
 go_wp2_with fail
 refine (big_no _ _ _ _ (by omega)).mono ?_
 rintro e wz ⟨rfl,hwz⟩
 subst wz
 go_wp2_with fail
 refine (drawEnded a len cap _ HC.out).mono ?_
 rintro e w1 ⟨k,L,O,v,u,rfl,l1,o1,A1,Q1,B1⟩
 clear HC hbig
 obtain ⟨a1,c1,hv⟩:=A1.len
 subst hv
 obtain ⟨b1,d1,hv⟩:=Q1.len
 subst hv
 obtain ⟨m1,hm1⟩:∃m,L.length=m:=⟨_,rfl⟩
 obtain ⟨m2,hm2⟩:∃m,O.length=m:=⟨_,rfl⟩
 have IM0:∀V,AL V h (.slice a1 m1 c1) L->OrdL V h (.slice b1 m2 d1) O->GE V p->Calls Tryz.prog 22 #[.agg #[.int .i64 k.day,(.slice a1 m1 c1),(.slice b1 m2 d1),.int .i64 k.inn,.int .i64 k.out,.int .i64 k.posted,.int .i64 k.missed]] V fun e w'=>EndAns L O k V e w':=fun V h1 h2 h3=>by
  have f1:=(h1.fo (by omega)).2
  have f2:=(h2.list (by omega)).2
  rw[←hm1] at f1 ⊢
  rw[←hm2] at f2 ⊢
  exact (implEnded a1 b1 c1 d1 L O k p V f1 f2 h3).mono fun _ _ h=>h.ans
 have SP0:∀V,AL V h (.slice a1 m1 c1) L->OrdL V h (.slice b1 m2 d1) O->Calls Tryz.prog 23 #[.agg #[.int .i64 k.day,(.slice a1 m1 c1),(.slice b1 m2 d1),.int .i64 k.inn,.int .i64 k.out,.int .i64 k.posted,.int .i64 k.missed]] V fun e w'=>EndAns L O k V e w':=fun V h1 h2=>by
  have f1:=(h1.fo (by omega)).2
  have f2:=(h2.list (by omega)).2
  rw[←hm1] at f1 ⊢
  rw[←hm2] at f2 ⊢
  exact (specEnded a1 b1 c1 d1 L O k V f1 f2).mono fun _ _ h=>h.ans
 have hgl:=gA_len L O k
 have hql:=gO_len L O k
 have hEF:=end_facts (L:=L) (O:=O) (k:=k)
 unfold EndAns at IM0 SP0
 generalize gA L O k=G at IM0 SP0 hgl hEF
 generalize gO L O k=Q at IM0 SP0 hql hEF
 generalize gK L O k=kd at IM0 SP0 hEF
 generalize gOk L O k=ok at IM0 SP0 hEF
 obtain ⟨dd,di,du,pd,md⟩:=kd
 dsimp only at IM0 SP0 hEF
 obtain ⟨g1,hg1⟩:∃m,G.length=m:=⟨_,rfl⟩
 obtain ⟨g2,hg2⟩:∃m,Q.length=m:=⟨_,rfl⟩
 have HLQ:Hid (G.length<=12/\Q.length<=8):=⟨by omega,by omega⟩
 have HLO:Hid (L.length<=12/\O.length<=8):=⟨l1,o1⟩
 have HLG:Hid (G.length=g1/\Q.length=g2/\L.length=m1/\O.length=m2):=⟨hg1,hg2,hm1,hm2⟩
 have RO:Hid (∀(V:World) (e:Ending) (W:World),(∃(v u:Value),e=.returned (.tuple #[.agg #[.int .i64 dd,v,u,.int .i64 di,.int .i64 du,.int .i64 pd,.int .i64 md],.bool ok])/\AL W V.heap.size v G/\OrdL W V.heap.size u Q/\Below V.heap.size V W)->h<=V.heap.size->∃(a2:Option Addr) (c2:Nat) (b2:Option Addr) (d2:Nat),e=.returned (.tuple #[.agg #[.int .i64 dd,(.slice a2 g1 c2),(.slice b2 g2 d2),.int .i64 di,.int .i64 du,.int .i64 pd,.int .i64 md],.bool ok])/\AL W h (.slice a2 g1 c2) G/\OrdL W h (.slice b2 g2 d2) Q/\Below V.heap.size V W):=fun V e W hr hV=>by
  obtain ⟨v,u,rfl,r1,r2,r3⟩:=hr
  obtain ⟨a2,c2,rfl⟩:=AL.len r1
  obtain ⟨b2,d2,rfl⟩:=OrdL.len r2
  rw[hg1] at r1 ⊢
  rw[hg2] at r2 ⊢
  exact ⟨a2,c2,b2,d2,rfl,r1.mono hV,r2.mono hV,r3⟩
 have IM:Hid _:=IM0
 have SP:Hid _:=SP0
 have HEF:Hid _:=hEF
 rw[hm1] at A1
 rw[hm2] at Q1
 simp only[hm1,hm2]
 obtain ⟨V1,hV1,X1⟩:∃V,V=w1.alloc (.cells #[.int .i64 k.day,(.slice a1 m1 c1),(.slice b1 m2 d1),.int .i64 k.inn,.int .i64 k.out,.int .i64 k.posted,.int .i64 k.missed] 38)/\Hid (Bkw V w1.heap.size h (.slice a1 m1 c1) (.slice b1 m2 d1) k L O/\Below h w V):=by
  have b3:Below w1.heap.size w1 (w1.alloc (.cells #[.int .i64 k.day,(.slice a1 m1 c1),(.slice b1 m2 d1),.int .i64 k.inn,.int .i64 k.out,.int .i64 k.posted,.int .i64 k.missed] 38)):=(Below.refl _ _).alloc (Nat.le_refl _) _
  rw[HH.out] at A1 Q1 B1
  exact ⟨_,rfl,Bkw.new A1 Q1 (Nat.le_refl _),LEB.out B1 b3⟩
 have HV1:=hidOf hV1
 clear hV1 l1 o1 A1 Q1 B1 hm1 hm2 hg1 hg2 hql hgl IM0 SP0 hEF
 go_upto_region 4 with fail
 rw[←HV1.out]
 obtain ⟨r3,hr3⟩:∃r,w1.heap.size=r:=⟨_,rfl⟩
 rw[hr3] at X1
 try rw[hr3]
 clear HV1 hr3
 obtain ⟨⟨s0,s1,s2,s3,s4,s5,s6⟩,sf,sz⟩:=X1.out.1.1
 go_wp2_with fail
 refine (IM.out _ X1.out.1.2.1 X1.out.1.2.2 (HG.out.below (by rw[HH.out];exact X1.out.2))).mono ?_
 rintro e w2 hr2
 obtain ⟨a2,c2,b2,d2,rfl,A2,Q2,B2⟩:=RO.out _ _ _ hr2 (by have:=X1.out.2.size;rw[HH.out] at this;exact this)
 obtain ⟨V2,hV2,X2⟩:∃V,V=w2.alloc (.cells #[.int .i64 dd,(.slice a2 g1 c2),(.slice b2 g2 d2),.int .i64 di,.int .i64 du,.int .i64 pd,.int .i64 md] 38)/\Hid (Bkw V w2.heap.size h (.slice a2 g1 c2) (.slice b2 g2 d2) ⟨dd,di,du,pd,md⟩ G Q/\Bkw V r3 h (.slice a1 m1 c1) (.slice b1 m2 d1) k L O/\Below h w V):=by
  have hb:Below w2.heap.size w2 (w2.alloc (.cells #[.int .i64 dd,(.slice a2 g1 c2),(.slice b2 g2 d2),.int .i64 di,.int .i64 du,.int .i64 pd,.int .i64 md] 38)):=(Below.refl _ _).alloc (Nat.le_refl _) _
  exact ⟨_,rfl,Bkw.new (k:=⟨dd,di,du,pd,md⟩) A2 Q2 (Nat.le_refl _),(X1.out.1.below B2).below hb,LEB.out (LEB.out X1.out.2 B2) hb⟩
 have HV2:=hidOf hV2
 clear hV2 hr2 A2 Q2 B2 X1 IM HG
 clear s0 s1 s2 s3 s4 s5 s6 sf sz
 go_upto_region 5 with fail
 rw[←HV2.out]
 obtain ⟨r4,hr4⟩:∃r,w2.heap.size=r:=⟨_,rfl⟩
 rw[hr4] at X2
 try rw[hr4]
 clear HV2 hr4
 obtain ⟨⟨s0,s1,s2,s3,s4,s5,s6⟩,sf,sz⟩:=X2.out.2.1.1
 go_wp2_with fail
 refine (SP.out _ X2.out.2.1.2.1 X2.out.2.1.2.2).mono ?_
 rintro e w3 hr3
 obtain ⟨a3,c3,b3,d3,rfl,A3,Q3,B3⟩:=RO.out _ _ _ hr3 (by have:=X2.out.2.2.size;rw[HH.out] at this;exact this)
 obtain ⟨V3,hV3,X3⟩:∃V,V=w3.alloc (.cells #[.int .i64 dd,(.slice a3 g1 c3),(.slice b3 g2 d3),.int .i64 di,.int .i64 du,.int .i64 pd,.int .i64 md] 38)/\Hid (Bkw V r4 h (.slice a2 g1 c2) (.slice b2 g2 d2) ⟨dd,di,du,pd,md⟩ G Q/\Bkw V w3.heap.size h (.slice a3 g1 c3) (.slice b3 g2 d3) ⟨dd,di,du,pd,md⟩ G Q/\Bkw V r3 h (.slice a1 m1 c1) (.slice b1 m2 d1) k L O/\Below h w V):=by
  have hb:Below w3.heap.size w3 (w3.alloc (.cells #[.int .i64 dd,(.slice a3 g1 c3),(.slice b3 g2 d3),.int .i64 di,.int .i64 du,.int .i64 pd,.int .i64 md] 38)):=(Below.refl _ _).alloc (Nat.le_refl _) _
  exact ⟨_,rfl,(X2.out.1.below B3).below hb,Bkw.new (k:=⟨dd,di,du,pd,md⟩) A3 Q3 (Nat.le_refl _),(X2.out.2.1.below B3).below hb,LEB.out (LEB.out X2.out.2.2 B3) hb⟩
 have HV3:=hidOf hV3
 clear hV3 hr3 A3 Q3 B3 X2 SP RO
 clear s0 s1 s2 s3 s4 s5 s6 sf sz
 have hoo:(ok != ok)=false:=by simp
 have hoo':(ok == ok)=true:=by simp
 go_upto_region 6 with fail
 rw[←HV3.out]
 obtain ⟨r6,hr6⟩:∃r,w3.heap.size=r:=⟨_,rfl⟩
 rw[hr6] at X3
 try rw[hr6]
 clear HV3 hr6
 obtain ⟨⟨s0,s1,s2,s3,s4,s5,s6⟩,sf,sz⟩:=X3.out.1.1
 obtain ⟨⟨t0,t1,t2,t3,t4,t5,t6⟩,tf,tz⟩:=X3.out.2.1.1
 go_wp2_with fail
 refine (sameBankL ⟨dd,di,du,pd,md⟩ _ HLQ.out.1 HLQ.out.2 X3.out.1.2.1 X3.out.1.2.2 X3.out.2.1.2.1 X3.out.2.1.2.2).mono ?_
 rintro e w4 ⟨rfl,B4⟩
 have X4:Hid (Bkw w4 r4 h (.slice a2 g1 c2) (.slice b2 g2 d2) ⟨dd,di,du,pd,md⟩ G Q/\Bkw w4 r6 h (.slice a3 g1 c3) (.slice b3 g2 d3) ⟨dd,di,du,pd,md⟩ G Q/\Bkw w4 r3 h (.slice a1 m1 c1) (.slice b1 m2 d1) k L O/\Below h w w4):=⟨X3.out.1.below B4,X3.out.2.1.below B4,X3.out.2.2.1.below B4,LEB.out X3.out.2.2.2 B4⟩
 clear s0 s1 s2 s3 s4 s5 s6 sf sz
 clear t0 t1 t2 t3 t4 t5 t6 tf tz
 clear B4 X3
 cases ok with
 | false=>
  clear HEF
  obtain ⟨⟨s0,s1,s2,s3,s4,s5,s6⟩,sf,sz⟩:=X4.out.1.1
  obtain ⟨⟨t0,t1,t2,t3,t4,t5,t6⟩,tf,tz⟩:=X4.out.2.1.1
  go_wp2_with fail
  refine (sameBankL ⟨dd,di,du,pd,md⟩ _ HLQ.out.1 HLQ.out.2 X4.out.1.2.1 X4.out.1.2.2 X4.out.2.1.2.1 X4.out.2.1.2.2).mono ?_
  rintro e w5 ⟨rfl,B5⟩
  have FI:Hid (Below h w w5):=LEB.out X4.out.2.2.2 B5
  clear B5 X4
  clear s0 s1 s2 s3 s4 s5 s6 sf sz
  clear t0 t1 t2 t3 t4 t5 t6 tf tz
  go_wp2
  go_ret
  exact ⟨rfl,by rw[HH.out];exact FI.out⟩
 | true=>
  obtain ⟨zb,zq,zn,zd,zi,zo,zm1,zm2⟩:=HEF.out rfl
  obtain ⟨dl,hdl⟩:∃dl,(dueL (OrdF O) O.length k.day).length=dl:=⟨_,rfl⟩
  have hdl8:dl<=8:=by have:=dueL_len (OrdF O) O.length k.day;have:=HLO.out;omega
  obtain ⟨tG,htG⟩:∃t,total (FL G) G.length=t:=⟨_,rfl⟩
  obtain ⟨tL,htL⟩:∃t,total (FL L) L.length=t:=⟨_,rfl⟩
  have hzb:(0<=k.day/\k.day<=3000000)/\(0<=k.inn/\k.inn<=1000000000000000)/\(0<=k.out/\k.out<=1000000000000000)/\(-1000000000000000<=k.posted/\k.posted<=1000000000000000)/\(0<=k.missed/\k.missed<=1000000000000000)/\tL=k.inn-k.out+k.posted:=⟨zb.1,zb.2.2.2.1,zb.2.2.2.2.1,zb.2.2.2.2.2.1,zb.2.2.2.2.2.2.1,by rw[←htL];exact zb.2.2.2.2.2.2.2⟩
  have hzq:(-1000000000000000<=pd/\pd<=1000000000000000)/\(0<=md/\md<=1000000000000000)/\tG=di-du+pd:=⟨zq.2.2.2.2.2.1,zq.2.2.2.2.2.2.1,by rw[←htG];exact zq.2.2.2.2.2.2.2⟩
  obtain ⟨⟨k1,k2⟩,⟨k3,k4⟩,⟨k5,k6⟩,⟨k7,k8⟩,⟨k9,k10⟩,ktL⟩:=hzb
  obtain ⟨⟨q1,q2⟩,⟨q3,q4⟩,qtG⟩:=hzq
  have zd':dd=k.day+1:=zd
  have zi':di=k.inn:=zi
  have zo':du=k.out:=zo
  have zm1':0<=md-k.missed:=zm1
  have zm2':md-k.missed<=(dl:Int):=by rw[←hdl];exact zm2
  subst zi' zo'
  have HND:Hid (∀i,i<g2->0<=nextDue (OrdF Q i) dd):=by rw[←HLG.out.2.1,zd'];exact zn
  have C27:Hid (∀V,AL V h (.slice a2 g1 c2) G->OrdL V h (.slice b2 g2 d2) Q->Calls Tryz.prog 27 #[.agg #[.int .i64 dd,(.slice a2 g1 c2),(.slice b2 g2 d2),.int .i64 k.inn,.int .i64 k.out,.int .i64 pd,.int .i64 md]] V fun e w'=>e=.returned (.bool true)/\Below V.heap.size V w'):=fun V h1 h2=>by
   refine (implBank a2 b2 g1 c2 g2 d2 (FL G) (OrdF Q) (⟨dd,k.inn,k.out,pd,md⟩:Bk) V (h1.fo (by have:=HLQ.out;omega)).2 (h2.list (by have:=HLQ.out;omega)).2).mono ?_
   rintro e w' ⟨⟨bb,rfl,t1,t2⟩,hb⟩
   refine ⟨?_,hb⟩
   cases bb with
   | true=>rfl
   | false=>exact absurd (by rw[←HLG.out.1,←HLG.out.2.1];exact zq) (t2 rfl)
  have C20G:Hid (∀V,AL V h (.slice a2 g1 c2) G->Calls Tryz.prog 20 #[(.slice a2 g1 c2)] V fun e w'=>e=.returned (.int .i64 tG)/\Below V.heap.size V w'):=fun V h1=>by
   have:=implTotal_yes a2 g1 c2 (FL G) V (h1.fo (by have:=HLQ.out;omega)).2 (by rw[←HLG.out.1];exact zq.2.1)
   rw[←HLG.out.1,htG] at this
   rw[←HLG.out.1]
   exact this
  have C20L:Hid (∀V,AL V h (.slice a1 m1 c1) L->Calls Tryz.prog 20 #[(.slice a1 m1 c1)] V fun e w'=>e=.returned (.int .i64 tL)/\Below V.heap.size V w'):=fun V h1=>by
   have:=implTotal_yes a1 m1 c1 (FL L) V (h1.fo (by have:=HLO.out;omega)).2 (by rw[←HLG.out.2.2.1];exact zb.2.1)
   rw[←HLG.out.2.2.1,htL] at this
   rw[←HLG.out.2.2.1]
   exact this
  have CD:Hid (∀V,OrdL V h (.slice b1 m2 d1) O->Calls Tryz.prog 26 #[(.slice b1 m2 d1),.int .i64 k.day] V fun e w'=>∃a9 c9,e=.returned (.slice a9 dl c9)/\Below V.heap.size V w'):=fun V h2=>by
   refine (implDueOn b1 m2 d1 (OrdF O) k.day V (h2.list (by have:=HLO.out;omega)).2).mono ?_
   rintro e w' ⟨v,rfl,hv,hb⟩
   rw[←HLG.out.2.2.2] at hv
   obtain ⟨a9,c9,rfl⟩:=OrdL.len hv
   rw[hdl]
   exact ⟨a9,c9,rfl,hb⟩
  have HZ:Hid (dd=k.day+1/\(0<=k.day/\k.day<=3000000)/\(-1000000000000000<=k.posted/\k.posted<=1000000000000000)/\(0<=k.missed/\k.missed<=1000000000000000)/\(-1000000000000000<=pd/\pd<=1000000000000000)/\(0<=md/\md<=1000000000000000)/\tG-tL=pd-k.posted/\0<=md-k.missed/\md-k.missed<=(dl:Int)):=⟨zd',⟨k1,k2⟩,⟨k7,k8⟩,⟨k9,k10⟩,⟨q1,q2⟩,⟨q3,q4⟩,by omega,zm1',zm2'⟩
  clear zb zq zn zd zi zo zm1 zm2 HEF htG htL hdl zd' ktL qtG k1 k2 k3 k4 k5 k6 k7 k8 k9 k10 q1 q2 q3 q4 zm1' zm2'
  have X5:Hid (Bkw w4 r4 h (.slice a2 g1 c2) (.slice b2 g2 d2) (⟨dd,k.inn,k.out,pd,md⟩:Bk) G Q/\Bkw w4 r3 h (.slice a1 m1 c1) (.slice b1 m2 d1) k L O/\Below h w w4):=⟨X4.out.1,X4.out.2.2.1,X4.out.2.2.2⟩
  clear X4
  go_upto_region 8 with fail
  go_wp2
  go_loopw[8] (fun q wr=>∃j:Nat,j<=g2/\q=.int .i64 j/\Hid (Bkw wr r4 h (.slice a2 g1 c2) (.slice b2 g2 d2) (⟨dd,k.inn,k.out,pd,md⟩:Bk) G Q/\Bkw wr r3 h (.slice a1 m1 c1) (.slice b1 m2 d1) k L O/\Below h w wr)) (fun q _=>g2-(intOf q).toNat)
  case atStart=>exact ⟨0,Nat.zero_le _,rfl,X5⟩
  case round=>
   obtain ⟨j,hj,rfl,X1⟩:=hrel
   clear X5
   have hg8:g2<=8:=by have:=HLQ.out;have:=HLG.out;omega
   by_cases hlt:j<g2
   ·skip
    obtain ⟨ob,oo,hob,hlt0,hat⟩:=(X1.out.1.2.2.list (by have:=HLQ.out;omega)).2.acc hlt
    subst hob
    cases hod:OrdF Q j with
    | mk oid osr ods oam ofi oev oti=>
    rw[hod] at hat
    obtain ⟨od,hodd⟩:∃od:Ord,od=⟨oid,osr,ods,oam,ofi,oev,oti⟩:=⟨_,rfl⟩
    rw[←hodd] at hat hod
    have HNX:Hid (0<=nextDue od dd):=by rw[←hod];exact HND.out j hlt
    clear hodd hod
    have HS:Hid (Nms r4 0 [.int .i64 dd,(.slice a2 g1 c2),(.slice (some ⟨ob,oo,none⟩) g2 d2),.int .i64 k.inn,.int .i64 k.out,.int .i64 pd,.int .i64 md] wr.drew/\Nms ob (oo+j*7) [.int .i64 od.id,.int .i64 od.src,.int .i64 od.dst,.int .i64 od.amount,.int .i64 od.first,.int .i64 od.every,.int .i64 od.times] wr.drew):=by
     refine ⟨X1.out.1.nms,hlt0,fun i y hi=>?_⟩
     obtain ⟨t0,t1,t2,t3,t4,t5,t6⟩:=hat
     match i,hi with
     | 0,hi=>simp at hi;subst hi;simpa using t0
     | 1,hi=>simp at hi;subst hi;simpa using t1
     | 2,hi=>simp at hi;subst hi;simpa using t2
     | 3,hi=>simp at hi;subst hi;simpa using t3
     | 4,hi=>simp at hi;subst hi;simpa using t4
     | 5,hi=>simp at hi;subst hi;simpa using t5
     | 6,hi=>simp at hi;subst hi;simpa using t6
    clear hat
    have Yd:Hid (Bkw wr.drew r4 h (.slice a2 g1 c2) (.slice (some ⟨ob,oo,none⟩) g2 d2) (⟨dd,k.inn,k.out,pd,md⟩:Bk) G Q/\Bkw wr.drew r3 h (.slice a1 m1 c1) (.slice b1 m2 d1) k L O/\Below h w wr.drew):=⟨X1.out.1,X1.out.2.1,X1.out.2.2.drew⟩
    obtain ⟨⟨s0,s1,s2,s3,s4,s5,s6⟩,sf,sz⟩:=X1.out.1.1
    go_upto_region 11 with fail
    clear s0 s1 s2 s3 s4 s5 s6 sf sz
    refine wp_region_held_drew (S:=fun V=>Nms r4 0 [.int .i64 dd,(.slice a2 g1 c2),(.slice (some ⟨ob,oo,none⟩) g2 d2),.int .i64 k.inn,.int .i64 k.out,.int .i64 pd,.int .i64 md] V/\Nms ob (oo+j*7) [.int .i64 od.id,.int .i64 od.src,.int .i64 od.dst,.int .i64 od.amount,.int .i64 od.first,.int .i64 od.every,.int .i64 od.times] V) (by kernel_rfl) HS.out (fun hHeld=>?_)
    clear HS X1
    generalize wr.drew=wd at Yd hHeld ⊢
    obtain ⟨nx,hnx⟩:∃nx,nextDue od dd=nx:=⟨_,rfl⟩
    have CN:Hid (∀V,Calls Tryz.prog 25 #[.agg #[.int .i64 od.id,.int .i64 od.src,.int .i64 od.dst,.int .i64 od.amount,.int .i64 od.first,.int .i64 od.every,.int .i64 od.times],.int .i64 dd] V fun e w'=>e=.returned (.int .i64 nx)/\Below V.heap.size V w'):=fun V=>by rw[←hnx];exact implNext od dd V
    have hnx0:decide (nx<0)=false:=by have:=HNX.out;rw[hnx] at this;simp;omega
    have hnx1:¬nx<0:=by have:=HNX.out;rw[hnx] at this;omega
    clear hnx HNX
    refine wpAnyH_take (i := 0) (oi := { dst := some 52, op := Op.fieldAddr 38 (Operand.tmp 4) 2, type := 0, pos := "laws.go:456", after := #[], guard := none }) (v := ?_) rfl (by kernel_rfl) (by kernel_rfl) (by kernel_rfl) (fun _ _ _ h => h) (Or.inl ⟨by rfl, ?_⟩) hHeld ?_
    rotate_left
    ·intro wq hSw
     have y0:=hSw.1.2 0 _ rfl
     have y1:=hSw.1.2 1 _ rfl
     have y2:=hSw.1.2 2 _ rfl
     have y3:=hSw.1.2 3 _ rfl
     have y4:=hSw.1.2 4 _ rfl
     have y5:=hSw.1.2 5 _ rfl
     have y6:=hSw.1.2 6 _ rfl
     simp only[Nat.zero_add] at y0 y1 y2 y3 y4 y5 y6
     have o0:=hSw.2.2 0 _ rfl
     have o1:=hSw.2.2 1 _ rfl
     have o2:=hSw.2.2 2 _ rfl
     have o3:=hSw.2.2 3 _ rfl
     have o4:=hSw.2.2 4 _ rfl
     have o5:=hSw.2.2 5 _ rfl
     have o6:=hSw.2.2 6 _ rfl
     simp only[Nat.add_zero] at o0
     go_simp
     all_goals (with_reducible rfl)
    (try simp only[Act.put,List.setIfInBounds_toArray,List.set_cons_zero,List.set_cons_succ])
    refine wpAnyH_take (i := 1) (oi := { dst := some 53, op := Op.load 36 (Operand.tmp 52), type := 36, pos := "laws.go:456", after := #[{ on := 0, ground := Ground.data }], guard := none }) (v := ?_) rfl (by kernel_rfl) (by kernel_rfl) (by kernel_rfl) (fun _ _ _ h => h) (Or.inl ⟨by rfl, ?_⟩) hHeld ?_
    rotate_left
    ·intro wq hSw
     have y0:=hSw.1.2 0 _ rfl
     have y1:=hSw.1.2 1 _ rfl
     have y2:=hSw.1.2 2 _ rfl
     have y3:=hSw.1.2 3 _ rfl
     have y4:=hSw.1.2 4 _ rfl
     have y5:=hSw.1.2 5 _ rfl
     have y6:=hSw.1.2 6 _ rfl
     simp only[Nat.zero_add] at y0 y1 y2 y3 y4 y5 y6
     have o0:=hSw.2.2 0 _ rfl
     have o1:=hSw.2.2 1 _ rfl
     have o2:=hSw.2.2 2 _ rfl
     have o3:=hSw.2.2 3 _ rfl
     have o4:=hSw.2.2 4 _ rfl
     have o5:=hSw.2.2 5 _ rfl
     have o6:=hSw.2.2 6 _ rfl
     simp only[Nat.add_zero] at o0
     go_simp
     all_goals (with_reducible rfl)
    (try simp only[Act.put,List.setIfInBounds_toArray,List.set_cons_zero,List.set_cons_succ])
    refine wpAnyH_take (i := 2) (oi := { dst := some 54, op := Op.move (Operand.tmp 8), type := 3, pos := "laws.go:456", after := #[], guard := none }) (v := ?_) rfl (by kernel_rfl) (by kernel_rfl) (by kernel_rfl) (fun _ _ _ h => h) (Or.inl ⟨by rfl, ?_⟩) hHeld ?_
    rotate_left
    ·intro wq hSw
     have y0:=hSw.1.2 0 _ rfl
     have y1:=hSw.1.2 1 _ rfl
     have y2:=hSw.1.2 2 _ rfl
     have y3:=hSw.1.2 3 _ rfl
     have y4:=hSw.1.2 4 _ rfl
     have y5:=hSw.1.2 5 _ rfl
     have y6:=hSw.1.2 6 _ rfl
     simp only[Nat.zero_add] at y0 y1 y2 y3 y4 y5 y6
     have o0:=hSw.2.2 0 _ rfl
     have o1:=hSw.2.2 1 _ rfl
     have o2:=hSw.2.2 2 _ rfl
     have o3:=hSw.2.2 3 _ rfl
     have o4:=hSw.2.2 4 _ rfl
     have o5:=hSw.2.2 5 _ rfl
     have o6:=hSw.2.2 6 _ rfl
     simp only[Nat.add_zero] at o0
     go_simp
     all_goals (with_reducible rfl)
    (try simp only[Act.put,List.setIfInBounds_toArray,List.set_cons_zero,List.set_cons_succ])
    refine wpAnyH_take (i := 3) (oi := { dst := some 55, op := Op.indexAddr 36 (Operand.tmp 53) (Operand.tmp 54), type := 0, pos := "laws.go:456", after := #[{ on := 1, ground := Ground.data }, { on := 2, ground := Ground.data }], guard := none }) (v := ?_) rfl (by kernel_rfl) (by kernel_rfl) (by kernel_rfl) (fun _ _ _ h => h) (Or.inl ⟨by rfl, ?_⟩) hHeld ?_
    rotate_left
    ·intro wq hSw
     have y0:=hSw.1.2 0 _ rfl
     have y1:=hSw.1.2 1 _ rfl
     have y2:=hSw.1.2 2 _ rfl
     have y3:=hSw.1.2 3 _ rfl
     have y4:=hSw.1.2 4 _ rfl
     have y5:=hSw.1.2 5 _ rfl
     have y6:=hSw.1.2 6 _ rfl
     simp only[Nat.zero_add] at y0 y1 y2 y3 y4 y5 y6
     have o0:=hSw.2.2 0 _ rfl
     have o1:=hSw.2.2 1 _ rfl
     have o2:=hSw.2.2 2 _ rfl
     have o3:=hSw.2.2 3 _ rfl
     have o4:=hSw.2.2 4 _ rfl
     have o5:=hSw.2.2 5 _ rfl
     have o6:=hSw.2.2 6 _ rfl
     simp only[Nat.add_zero] at o0
     go_simp
     all_goals (with_reducible rfl)
    (try simp only[Act.put,List.setIfInBounds_toArray,List.set_cons_zero,List.set_cons_succ])
    refine wpAnyH_take (i := 4) (oi := { dst := some 56, op := Op.load 45 (Operand.tmp 55), type := 45, pos := "laws.go:456", after := #[{ on := 3, ground := Ground.data }], guard := none }) (v := ?_) rfl (by kernel_rfl) (by kernel_rfl) (by kernel_rfl) (fun _ _ _ h => h) (Or.inl ⟨by rfl, ?_⟩) hHeld ?_
    rotate_left
    ·intro wq hSw
     have y0:=hSw.1.2 0 _ rfl
     have y1:=hSw.1.2 1 _ rfl
     have y2:=hSw.1.2 2 _ rfl
     have y3:=hSw.1.2 3 _ rfl
     have y4:=hSw.1.2 4 _ rfl
     have y5:=hSw.1.2 5 _ rfl
     have y6:=hSw.1.2 6 _ rfl
     simp only[Nat.zero_add] at y0 y1 y2 y3 y4 y5 y6
     have o0:=hSw.2.2 0 _ rfl
     have o1:=hSw.2.2 1 _ rfl
     have o2:=hSw.2.2 2 _ rfl
     have o3:=hSw.2.2 3 _ rfl
     have o4:=hSw.2.2 4 _ rfl
     have o5:=hSw.2.2 5 _ rfl
     have o6:=hSw.2.2 6 _ rfl
     simp only[Nat.add_zero] at o0
     go_simp
     all_goals (with_reducible rfl)
    (try simp only[Act.put,List.setIfInBounds_toArray,List.set_cons_zero,List.set_cons_succ])
    refine wpAnyH_take (i := 5) (oi := { dst := some 57, op := Op.fieldAddr 38 (Operand.tmp 4) 0, type := 0, pos := "laws.go:456", after := #[], guard := none }) (v := ?_) rfl (by kernel_rfl) (by kernel_rfl) (by kernel_rfl) (fun _ _ _ h => h) (Or.inl ⟨by rfl, ?_⟩) hHeld ?_
    rotate_left
    ·intro wq hSw
     have y0:=hSw.1.2 0 _ rfl
     have y1:=hSw.1.2 1 _ rfl
     have y2:=hSw.1.2 2 _ rfl
     have y3:=hSw.1.2 3 _ rfl
     have y4:=hSw.1.2 4 _ rfl
     have y5:=hSw.1.2 5 _ rfl
     have y6:=hSw.1.2 6 _ rfl
     simp only[Nat.zero_add] at y0 y1 y2 y3 y4 y5 y6
     have o0:=hSw.2.2 0 _ rfl
     have o1:=hSw.2.2 1 _ rfl
     have o2:=hSw.2.2 2 _ rfl
     have o3:=hSw.2.2 3 _ rfl
     have o4:=hSw.2.2 4 _ rfl
     have o5:=hSw.2.2 5 _ rfl
     have o6:=hSw.2.2 6 _ rfl
     simp only[Nat.add_zero] at o0
     go_simp
     all_goals (with_reducible rfl)
    (try simp only[Act.put,List.setIfInBounds_toArray,List.set_cons_zero,List.set_cons_succ])
    refine wpAnyH_take (i := 6) (oi := { dst := some 58, op := Op.load 2 (Operand.tmp 57), type := 2, pos := "laws.go:456", after := #[{ on := 5, ground := Ground.data }], guard := none }) (v := ?_) rfl (by kernel_rfl) (by kernel_rfl) (by kernel_rfl) (fun _ _ _ h => h) (Or.inl ⟨by rfl, ?_⟩) hHeld ?_
    rotate_left
    ·intro wq hSw
     have y0:=hSw.1.2 0 _ rfl
     have y1:=hSw.1.2 1 _ rfl
     have y2:=hSw.1.2 2 _ rfl
     have y3:=hSw.1.2 3 _ rfl
     have y4:=hSw.1.2 4 _ rfl
     have y5:=hSw.1.2 5 _ rfl
     have y6:=hSw.1.2 6 _ rfl
     simp only[Nat.zero_add] at y0 y1 y2 y3 y4 y5 y6
     have o0:=hSw.2.2 0 _ rfl
     have o1:=hSw.2.2 1 _ rfl
     have o2:=hSw.2.2 2 _ rfl
     have o3:=hSw.2.2 3 _ rfl
     have o4:=hSw.2.2 4 _ rfl
     have o5:=hSw.2.2 5 _ rfl
     have o6:=hSw.2.2 6 _ rfl
     simp only[Nat.add_zero] at o0
     go_simp
     all_goals (with_reducible rfl)
    (try simp only[Act.put,List.setIfInBounds_toArray,List.set_cons_zero,List.set_cons_succ])
    refine wpAnyH_ready (rs:=[7]) (by kernel_rfl) (by simp) ?_
    refine AllReadyH.cons (o := { dst := some 59, op := Op.call { callee := Callee.value (Operand.func 25), args := #[Operand.tmp 56, Operand.tmp 58], argTypes := #[45, 2] }, type := 2, pos := "laws.go:456", after := #[{ on := 4, ground := Ground.data }, { on := 6, ground := Ground.data }], guard := none }) rfl (fun K' hK => ?_) AllReadyH.nil
    go_simp
    refine (CN.out _).mono ?_
    rintro e we ⟨rfl,BN⟩
    have Ye:Hid (Bkw we r4 h (.slice a2 g1 c2) (.slice (some ⟨ob,oo,none⟩) g2 d2) (⟨dd,k.inn,k.out,pd,md⟩:Bk) G Q/\Bkw we r3 h (.slice a1 m1 c1) (.slice b1 m2 d1) k L O/\Below h w we):=⟨Yd.out.1.below BN,Yd.out.2.1.below BN,LEB.out Yd.out.2.2 BN⟩
    have hN:Nms r4 0 [.int .i64 dd,(.slice a2 g1 c2),(.slice (some ⟨ob,oo,none⟩) g2 d2),.int .i64 k.inn,.int .i64 k.out,.int .i64 pd,.int .i64 md] we/\Nms ob (oo+j*7) [.int .i64 od.id,.int .i64 od.src,.int .i64 od.dst,.int .i64 od.amount,.int .i64 od.first,.int .i64 od.every,.int .i64 od.times] we:=⟨hHeld.1.below BN,hHeld.2.below BN⟩
    clear BN Yd hHeld
    refine hK.out _ _ hN (fun hHeld=>?_)
    clear hK hN
    (try simp only[Act.put,List.setIfInBounds_toArray,List.set_cons_zero,List.set_cons_succ])
    refine wpAnyH_take (i := 8) (oi := { dst := some 60, op := Op.binOp BinOp.lss 2 (Operand.tmp 59) (Operand.const (Value.int IntKind.i64 0)) 2, type := 4, pos := "laws.go:456", after := #[{ on := 7, ground := Ground.data }], guard := none }) (v := ?_) rfl (by kernel_rfl) (by kernel_rfl) (by kernel_rfl) (fun _ _ _ h => h) (Or.inl ⟨by rfl, ?_⟩) hHeld ?_
    rotate_left
    ·intro wq hSw
     go_simp
     all_goals (with_reducible rfl)
    (try simp only[Act.put,List.setIfInBounds_toArray,List.set_cons_zero,List.set_cons_succ])
    refine wpAnyH_done (by kernel_rfl) ?_ _
    clear hHeld
    go_wp2
    go_roundw
    case rel=>exact ⟨j+1,by omega,by go_num,Ye⟩
    case measure=>simp[intOf];omega
   ·have hjn:g2=j:=by omega
    subst hjn
    obtain ⟨⟨s0,s1,s2,s3,s4,s5,s6⟩,sf,sz⟩:=X1.out.1.1
    obtain ⟨⟨t0,t1,t2,t3,t4,t5,t6⟩,tf,tz⟩:=X1.out.2.1.1
    go_wp2_with fail
    refine (CD.out _ X1.out.2.1.2.2).mono ?_
    rintro e w6 ⟨a9,c9,rfl,B6⟩
    have X6:Hid (Bkw w6 r4 h (.slice a2 g1 c2) (.slice b2 g2 d2) (⟨dd,k.inn,k.out,pd,md⟩:Bk) G Q/\Bkw w6 r3 h (.slice a1 m1 c1) (.slice b1 m2 d1) k L O/\Below h w w6):=⟨X1.out.1.below B6,X1.out.2.1.below B6,LEB.out X1.out.2.2 B6⟩
    clear B6 X1
    clear s0 s1 s2 s3 s4 s5 s6 sf sz
    clear t0 t1 t2 t3 t4 t5 t6 tf tz
    have hw1:IntKind.i64.wrap (k.day+1)=k.day+1:=by have:=HZ.out;rw[IntKind.wrap_i64];omega
    have hw2:IntKind.i64.wrap (md-k.missed)=md-k.missed:=by have:=HZ.out;rw[IntKind.wrap_i64];omega
    have hw3:IntKind.i64.wrap (tG-tL)=tG-tL:=by have:=HZ.out;rw[IntKind.wrap_i64];omega
    have hw4:IntKind.i64.wrap (pd-k.posted)=pd-k.posted:=by have:=HZ.out;rw[IntKind.wrap_i64];omega
    have he1:(dd == k.day+1)=true:=by have:=HZ.out;simp;omega
    have he2:(tG-tL == pd-k.posted)=true:=by have:=HZ.out;simp;omega
    have he3:decide (md-k.missed≥0)=true:=by have:=HZ.out;simp;omega
    have he4:decide (0<=md-k.missed)=true:=by have:=HZ.out;simp;omega
    have he5:decide (md-k.missed<=(dl:Int))=true:=by have:=HZ.out;simp;omega
    have hp1:k.missed<=md:=by have:=HZ.out;omega
    have hp2:md-k.missed<=(dl:Int):=by have:=HZ.out;omega
    have he6:decide (k.missed<=md)=true:=by simp;omega
    have he7:decide (md<=(dl:Int)+k.missed)=true:=by simp;omega
    clear HZ
    have Ywd:Hid (Bkw w6.drew r4 h (.slice a2 g1 c2) (.slice b2 g2 d2) (⟨dd,k.inn,k.out,pd,md⟩:Bk) G Q/\Bkw w6.drew r3 h (.slice a1 m1 c1) (.slice b1 m2 d1) k L O/\Below h w w6.drew):=⟨X6.out.1,X6.out.2.1,X6.out.2.2.drew⟩
    go_upto_region 14 with fail
    refine wp_region_held_drew (S:=fun V=>Nms r4 0 [.int .i64 dd,(.slice a2 g1 c2),(.slice b2 g2 d2),.int .i64 k.inn,.int .i64 k.out,.int .i64 pd,.int .i64 md] V/\Nms r3 0 [.int .i64 k.day,(.slice a1 m1 c1),(.slice b1 m2 d1),.int .i64 k.inn,.int .i64 k.out,.int .i64 k.posted,.int .i64 k.missed] V) (by kernel_rfl) ⟨Ywd.out.1.nms,Ywd.out.2.1.nms⟩ (fun hHeld=>?_)
    clear X6
    generalize w6.drew=wd at Ywd hHeld ⊢
    refine wpAnyH_take (i := 0) (oi := { dst := some 67, op := Op.load 38 (Operand.tmp 4), type := 38, pos := "laws.go:461", after := #[], guard := none }) (v := ?_) rfl (by kernel_rfl) (by kernel_rfl) (by kernel_rfl) (fun _ _ _ h => h) (Or.inl ⟨by rfl, ?_⟩) hHeld ?_
    rotate_left
    ·intro wq hSw
     have y0:=hSw.1.2 0 _ rfl
     have y1:=hSw.1.2 1 _ rfl
     have y2:=hSw.1.2 2 _ rfl
     have y3:=hSw.1.2 3 _ rfl
     have y4:=hSw.1.2 4 _ rfl
     have y5:=hSw.1.2 5 _ rfl
     have y6:=hSw.1.2 6 _ rfl
     simp only[Nat.zero_add] at y0 y1 y2 y3 y4 y5 y6
     have x0:=hSw.2.2 0 _ rfl
     have x1:=hSw.2.2 1 _ rfl
     have x2:=hSw.2.2 2 _ rfl
     have x3:=hSw.2.2 3 _ rfl
     have x4:=hSw.2.2 4 _ rfl
     have x5:=hSw.2.2 5 _ rfl
     have x6:=hSw.2.2 6 _ rfl
     simp only[Nat.zero_add] at x0 x1 x2 x3 x4 x5 x6
     go_simp
     all_goals (with_reducible rfl)
    (try simp only[Act.put,List.setIfInBounds_toArray,List.set_cons_zero,List.set_cons_succ])
    refine wpAnyH_ready (rs:=[1]) (by kernel_rfl) (by simp) ?_
    refine AllReadyH.cons (o := { dst := some 68, op := Op.call { callee := Callee.value (Operand.func 27), args := #[Operand.tmp 67], argTypes := #[38] }, type := 4, pos := "laws.go:461", after := #[{ on := 0, ground := Ground.data }], guard := none }) rfl (fun K' hK => ?_) AllReadyH.nil
    go_simp
    refine (C27.out _ Ywd.out.1.2.1 Ywd.out.1.2.2).mono ?_
    rintro e we0 ⟨rfl,BN⟩
    have Ywe0:Hid (Bkw we0 r4 h (.slice a2 g1 c2) (.slice b2 g2 d2) (⟨dd,k.inn,k.out,pd,md⟩:Bk) G Q/\Bkw we0 r3 h (.slice a1 m1 c1) (.slice b1 m2 d1) k L O/\Below h w we0):=⟨Ywd.out.1.below BN,Ywd.out.2.1.below BN,LEB.out Ywd.out.2.2 BN⟩
    have hN:Nms r4 0 [.int .i64 dd,(.slice a2 g1 c2),(.slice b2 g2 d2),.int .i64 k.inn,.int .i64 k.out,.int .i64 pd,.int .i64 md] we0/\Nms r3 0 [.int .i64 k.day,(.slice a1 m1 c1),(.slice b1 m2 d1),.int .i64 k.inn,.int .i64 k.out,.int .i64 k.posted,.int .i64 k.missed] we0:=⟨hHeld.1.below BN,hHeld.2.below BN⟩
    clear BN Ywd hHeld
    refine hK.out _ _ hN (fun hHeld=>?_)
    clear hK hN
    (try simp only[Act.put,List.setIfInBounds_toArray,List.set_cons_zero,List.set_cons_succ])
    refine wpAnyH_take (i := 2) (oi := { dst := some 69, op := Op.move (Operand.tmp 68), type := 4, pos := "laws.go:461", after := #[{ on := 1, ground := Ground.data }, { on := 1, ground := Ground.chain }], guard := none }) (v := ?_) rfl (by kernel_rfl) (by kernel_rfl) (by kernel_rfl) (fun _ _ _ h => h) (Or.inl ⟨by rfl, ?_⟩) hHeld ?_
    rotate_left
    ·intro wq hSw
     go_simp
     all_goals (with_reducible rfl)
    (try simp only[Act.put,List.setIfInBounds_toArray,List.set_cons_zero,List.set_cons_succ])
    refine wpAnyH_take (i := 3) (oi := { dst := some 70, op := Op.fieldAddr 38 (Operand.tmp 4) 0, type := 0, pos := "laws.go:461", after := #[{ on := 2, ground := Ground.guard }], guard := some (2, true) }) (v := ?_) rfl (by kernel_rfl) (by kernel_rfl) (by kernel_rfl) (fun _ _ _ h => h) (Or.inl ⟨by rfl, ?_⟩) hHeld ?_
    rotate_left
    ·intro wq hSw
     go_simp
     all_goals (with_reducible rfl)
    (try simp only[Act.put,List.setIfInBounds_toArray,List.set_cons_zero,List.set_cons_succ])
    refine wpAnyH_take (i := 4) (oi := { dst := some 71, op := Op.load 2 (Operand.tmp 70), type := 2, pos := "laws.go:461", after := #[{ on := 3, ground := Ground.data }, { on := 2, ground := Ground.guard }], guard := some (2, true) }) (v := ?_) rfl (by kernel_rfl) (by kernel_rfl) (by kernel_rfl) (fun _ _ _ h => h) (Or.inl ⟨by rfl, ?_⟩) hHeld ?_
    rotate_left
    ·intro wq hSw
     have y0:=hSw.1.2 0 _ rfl
     have y1:=hSw.1.2 1 _ rfl
     have y2:=hSw.1.2 2 _ rfl
     have y3:=hSw.1.2 3 _ rfl
     have y4:=hSw.1.2 4 _ rfl
     have y5:=hSw.1.2 5 _ rfl
     have y6:=hSw.1.2 6 _ rfl
     simp only[Nat.zero_add] at y0 y1 y2 y3 y4 y5 y6
     have x0:=hSw.2.2 0 _ rfl
     have x1:=hSw.2.2 1 _ rfl
     have x2:=hSw.2.2 2 _ rfl
     have x3:=hSw.2.2 3 _ rfl
     have x4:=hSw.2.2 4 _ rfl
     have x5:=hSw.2.2 5 _ rfl
     have x6:=hSw.2.2 6 _ rfl
     simp only[Nat.zero_add] at x0 x1 x2 x3 x4 x5 x6
     go_simp
     all_goals (with_reducible rfl)
    (try simp only[Act.put,List.setIfInBounds_toArray,List.set_cons_zero,List.set_cons_succ])
    refine wpAnyH_take (i := 5) (oi := { dst := some 72, op := Op.fieldAddr 38 (Operand.tmp 3) 0, type := 0, pos := "laws.go:461", after := #[{ on := 2, ground := Ground.guard }], guard := some (2, true) }) (v := ?_) rfl (by kernel_rfl) (by kernel_rfl) (by kernel_rfl) (fun _ _ _ h => h) (Or.inl ⟨by rfl, ?_⟩) hHeld ?_
    rotate_left
    ·intro wq hSw
     go_simp
     all_goals (with_reducible rfl)
    (try simp only[Act.put,List.setIfInBounds_toArray,List.set_cons_zero,List.set_cons_succ])
    refine wpAnyH_take (i := 6) (oi := { dst := some 73, op := Op.load 2 (Operand.tmp 72), type := 2, pos := "laws.go:461", after := #[{ on := 5, ground := Ground.data }, { on := 2, ground := Ground.guard }], guard := some (2, true) }) (v := ?_) rfl (by kernel_rfl) (by kernel_rfl) (by kernel_rfl) (fun _ _ _ h => h) (Or.inl ⟨by rfl, ?_⟩) hHeld ?_
    rotate_left
    ·intro wq hSw
     have y0:=hSw.1.2 0 _ rfl
     have y1:=hSw.1.2 1 _ rfl
     have y2:=hSw.1.2 2 _ rfl
     have y3:=hSw.1.2 3 _ rfl
     have y4:=hSw.1.2 4 _ rfl
     have y5:=hSw.1.2 5 _ rfl
     have y6:=hSw.1.2 6 _ rfl
     simp only[Nat.zero_add] at y0 y1 y2 y3 y4 y5 y6
     have x0:=hSw.2.2 0 _ rfl
     have x1:=hSw.2.2 1 _ rfl
     have x2:=hSw.2.2 2 _ rfl
     have x3:=hSw.2.2 3 _ rfl
     have x4:=hSw.2.2 4 _ rfl
     have x5:=hSw.2.2 5 _ rfl
     have x6:=hSw.2.2 6 _ rfl
     simp only[Nat.zero_add] at x0 x1 x2 x3 x4 x5 x6
     go_simp
     all_goals (with_reducible rfl)
    (try simp only[Act.put,List.setIfInBounds_toArray,List.set_cons_zero,List.set_cons_succ])
    refine wpAnyH_take (i := 7) (oi := { dst := some 74, op := Op.binOp BinOp.add 2 (Operand.tmp 73) (Operand.const (Value.int IntKind.i64 1)) 2, type := 2, pos := "laws.go:461", after := #[{ on := 6, ground := Ground.data }, { on := 2, ground := Ground.guard }], guard := some (2, true) }) (v := ?_) rfl (by kernel_rfl) (by kernel_rfl) (by kernel_rfl) (fun _ _ _ h => h) (Or.inl ⟨by rfl, ?_⟩) hHeld ?_
    rotate_left
    ·intro wq hSw
     go_simp
     all_goals (with_reducible rfl)
    (try simp only[Act.put,List.setIfInBounds_toArray,List.set_cons_zero,List.set_cons_succ])
    refine wpAnyH_take (i := 8) (oi := { dst := some 75, op := Op.binOp BinOp.eql 2 (Operand.tmp 71) (Operand.tmp 74) 2, type := 4, pos := "laws.go:461", after := #[{ on := 4, ground := Ground.data }, { on := 7, ground := Ground.data }, { on := 2, ground := Ground.guard }], guard := some (2, true) }) (v := ?_) rfl (by kernel_rfl) (by kernel_rfl) (by kernel_rfl) (fun _ _ _ h => h) (Or.inl ⟨by rfl, ?_⟩) hHeld ?_
    rotate_left
    ·intro wq hSw
     go_simp
     all_goals (with_reducible rfl)
    (try simp only[Act.put,List.setIfInBounds_toArray,List.set_cons_zero,List.set_cons_succ])
    refine wpAnyH_take (i := 9) (oi := { dst := some 76, op := Op.pick (Operand.tmp 69) (Operand.tmp 75) (Operand.const (Value.bool false)), type := 4, pos := "laws.go:461", after := #[{ on := 2, ground := Ground.data }, { on := 8, ground := Ground.data }], guard := none }) (v := ?_) rfl (by kernel_rfl) (by kernel_rfl) (by kernel_rfl) (fun _ _ _ h => h) (Or.inl ⟨by rfl, ?_⟩) hHeld ?_
    rotate_left
    ·intro wq hSw
     go_simp
     all_goals (with_reducible rfl)
    (try simp only[Act.put,List.setIfInBounds_toArray,List.set_cons_zero,List.set_cons_succ])
    refine wpAnyH_take (i := 10) (oi := { dst := some 77, op := Op.move (Operand.tmp 76), type := 4, pos := "laws.go:461", after := #[{ on := 9, ground := Ground.data }, { on := 2, ground := Ground.chain }], guard := none }) (v := ?_) rfl (by kernel_rfl) (by kernel_rfl) (by kernel_rfl) (fun _ _ _ h => h) (Or.inl ⟨by rfl, ?_⟩) hHeld ?_
    rotate_left
    ·intro wq hSw
     go_simp
     all_goals (with_reducible rfl)
    (try simp only[Act.put,List.setIfInBounds_toArray,List.set_cons_zero,List.set_cons_succ])
    refine wpAnyH_take (i := 11) (oi := { dst := some 78, op := Op.fieldAddr 38 (Operand.tmp 4) 3, type := 0, pos := "laws.go:461", after := #[{ on := 10, ground := Ground.guard }], guard := some (10, true) }) (v := ?_) rfl (by kernel_rfl) (by kernel_rfl) (by kernel_rfl) (fun _ _ _ h => h) (Or.inl ⟨by rfl, ?_⟩) hHeld ?_
    rotate_left
    ·intro wq hSw
     go_simp
     all_goals (with_reducible rfl)
    (try simp only[Act.put,List.setIfInBounds_toArray,List.set_cons_zero,List.set_cons_succ])
    refine wpAnyH_take (i := 12) (oi := { dst := some 79, op := Op.load 2 (Operand.tmp 78), type := 2, pos := "laws.go:461", after := #[{ on := 11, ground := Ground.data }, { on := 10, ground := Ground.guard }], guard := some (10, true) }) (v := ?_) rfl (by kernel_rfl) (by kernel_rfl) (by kernel_rfl) (fun _ _ _ h => h) (Or.inl ⟨by rfl, ?_⟩) hHeld ?_
    rotate_left
    ·intro wq hSw
     have y0:=hSw.1.2 0 _ rfl
     have y1:=hSw.1.2 1 _ rfl
     have y2:=hSw.1.2 2 _ rfl
     have y3:=hSw.1.2 3 _ rfl
     have y4:=hSw.1.2 4 _ rfl
     have y5:=hSw.1.2 5 _ rfl
     have y6:=hSw.1.2 6 _ rfl
     simp only[Nat.zero_add] at y0 y1 y2 y3 y4 y5 y6
     have x0:=hSw.2.2 0 _ rfl
     have x1:=hSw.2.2 1 _ rfl
     have x2:=hSw.2.2 2 _ rfl
     have x3:=hSw.2.2 3 _ rfl
     have x4:=hSw.2.2 4 _ rfl
     have x5:=hSw.2.2 5 _ rfl
     have x6:=hSw.2.2 6 _ rfl
     simp only[Nat.zero_add] at x0 x1 x2 x3 x4 x5 x6
     go_simp
     all_goals (with_reducible rfl)
    (try simp only[Act.put,List.setIfInBounds_toArray,List.set_cons_zero,List.set_cons_succ])
    refine wpAnyH_take (i := 13) (oi := { dst := some 80, op := Op.fieldAddr 38 (Operand.tmp 3) 3, type := 0, pos := "laws.go:461", after := #[{ on := 10, ground := Ground.guard }], guard := some (10, true) }) (v := ?_) rfl (by kernel_rfl) (by kernel_rfl) (by kernel_rfl) (fun _ _ _ h => h) (Or.inl ⟨by rfl, ?_⟩) hHeld ?_
    rotate_left
    ·intro wq hSw
     go_simp
     all_goals (with_reducible rfl)
    (try simp only[Act.put,List.setIfInBounds_toArray,List.set_cons_zero,List.set_cons_succ])
    refine wpAnyH_take (i := 14) (oi := { dst := some 81, op := Op.load 2 (Operand.tmp 80), type := 2, pos := "laws.go:461", after := #[{ on := 13, ground := Ground.data }, { on := 10, ground := Ground.guard }], guard := some (10, true) }) (v := ?_) rfl (by kernel_rfl) (by kernel_rfl) (by kernel_rfl) (fun _ _ _ h => h) (Or.inl ⟨by rfl, ?_⟩) hHeld ?_
    rotate_left
    ·intro wq hSw
     have y0:=hSw.1.2 0 _ rfl
     have y1:=hSw.1.2 1 _ rfl
     have y2:=hSw.1.2 2 _ rfl
     have y3:=hSw.1.2 3 _ rfl
     have y4:=hSw.1.2 4 _ rfl
     have y5:=hSw.1.2 5 _ rfl
     have y6:=hSw.1.2 6 _ rfl
     simp only[Nat.zero_add] at y0 y1 y2 y3 y4 y5 y6
     have x0:=hSw.2.2 0 _ rfl
     have x1:=hSw.2.2 1 _ rfl
     have x2:=hSw.2.2 2 _ rfl
     have x3:=hSw.2.2 3 _ rfl
     have x4:=hSw.2.2 4 _ rfl
     have x5:=hSw.2.2 5 _ rfl
     have x6:=hSw.2.2 6 _ rfl
     simp only[Nat.zero_add] at x0 x1 x2 x3 x4 x5 x6
     go_simp
     all_goals (with_reducible rfl)
    (try simp only[Act.put,List.setIfInBounds_toArray,List.set_cons_zero,List.set_cons_succ])
    refine wpAnyH_take (i := 15) (oi := { dst := some 82, op := Op.binOp BinOp.eql 2 (Operand.tmp 79) (Operand.tmp 81) 2, type := 4, pos := "laws.go:461", after := #[{ on := 12, ground := Ground.data }, { on := 14, ground := Ground.data }, { on := 10, ground := Ground.guard }], guard := some (10, true) }) (v := ?_) rfl (by kernel_rfl) (by kernel_rfl) (by kernel_rfl) (fun _ _ _ h => h) (Or.inl ⟨by rfl, ?_⟩) hHeld ?_
    rotate_left
    ·intro wq hSw
     go_simp
     all_goals (with_reducible rfl)
    (try simp only[Act.put,List.setIfInBounds_toArray,List.set_cons_zero,List.set_cons_succ])
    refine wpAnyH_take (i := 16) (oi := { dst := some 83, op := Op.pick (Operand.tmp 77) (Operand.tmp 82) (Operand.const (Value.bool false)), type := 4, pos := "laws.go:461", after := #[{ on := 10, ground := Ground.data }, { on := 15, ground := Ground.data }], guard := none }) (v := ?_) rfl (by kernel_rfl) (by kernel_rfl) (by kernel_rfl) (fun _ _ _ h => h) (Or.inl ⟨by rfl, ?_⟩) hHeld ?_
    rotate_left
    ·intro wq hSw
     go_simp
     all_goals (with_reducible rfl)
    (try simp only[Act.put,List.setIfInBounds_toArray,List.set_cons_zero,List.set_cons_succ])
    refine wpAnyH_take (i := 17) (oi := { dst := some 84, op := Op.move (Operand.tmp 83), type := 4, pos := "laws.go:461", after := #[{ on := 16, ground := Ground.data }, { on := 10, ground := Ground.chain }], guard := none }) (v := ?_) rfl (by kernel_rfl) (by kernel_rfl) (by kernel_rfl) (fun _ _ _ h => h) (Or.inl ⟨by rfl, ?_⟩) hHeld ?_
    rotate_left
    ·intro wq hSw
     go_simp
     all_goals (with_reducible rfl)
    (try simp only[Act.put,List.setIfInBounds_toArray,List.set_cons_zero,List.set_cons_succ])
    refine wpAnyH_take (i := 18) (oi := { dst := some 85, op := Op.fieldAddr 38 (Operand.tmp 4) 4, type := 0, pos := "laws.go:461", after := #[{ on := 17, ground := Ground.guard }], guard := some (17, true) }) (v := ?_) rfl (by kernel_rfl) (by kernel_rfl) (by kernel_rfl) (fun _ _ _ h => h) (Or.inl ⟨by rfl, ?_⟩) hHeld ?_
    rotate_left
    ·intro wq hSw
     go_simp
     all_goals (with_reducible rfl)
    (try simp only[Act.put,List.setIfInBounds_toArray,List.set_cons_zero,List.set_cons_succ])
    refine wpAnyH_take (i := 19) (oi := { dst := some 86, op := Op.load 2 (Operand.tmp 85), type := 2, pos := "laws.go:461", after := #[{ on := 18, ground := Ground.data }, { on := 17, ground := Ground.guard }], guard := some (17, true) }) (v := ?_) rfl (by kernel_rfl) (by kernel_rfl) (by kernel_rfl) (fun _ _ _ h => h) (Or.inl ⟨by rfl, ?_⟩) hHeld ?_
    rotate_left
    ·intro wq hSw
     have y0:=hSw.1.2 0 _ rfl
     have y1:=hSw.1.2 1 _ rfl
     have y2:=hSw.1.2 2 _ rfl
     have y3:=hSw.1.2 3 _ rfl
     have y4:=hSw.1.2 4 _ rfl
     have y5:=hSw.1.2 5 _ rfl
     have y6:=hSw.1.2 6 _ rfl
     simp only[Nat.zero_add] at y0 y1 y2 y3 y4 y5 y6
     have x0:=hSw.2.2 0 _ rfl
     have x1:=hSw.2.2 1 _ rfl
     have x2:=hSw.2.2 2 _ rfl
     have x3:=hSw.2.2 3 _ rfl
     have x4:=hSw.2.2 4 _ rfl
     have x5:=hSw.2.2 5 _ rfl
     have x6:=hSw.2.2 6 _ rfl
     simp only[Nat.zero_add] at x0 x1 x2 x3 x4 x5 x6
     go_simp
     all_goals (with_reducible rfl)
    (try simp only[Act.put,List.setIfInBounds_toArray,List.set_cons_zero,List.set_cons_succ])
    refine wpAnyH_take (i := 20) (oi := { dst := some 87, op := Op.fieldAddr 38 (Operand.tmp 3) 4, type := 0, pos := "laws.go:461", after := #[{ on := 17, ground := Ground.guard }], guard := some (17, true) }) (v := ?_) rfl (by kernel_rfl) (by kernel_rfl) (by kernel_rfl) (fun _ _ _ h => h) (Or.inl ⟨by rfl, ?_⟩) hHeld ?_
    rotate_left
    ·intro wq hSw
     go_simp
     all_goals (with_reducible rfl)
    (try simp only[Act.put,List.setIfInBounds_toArray,List.set_cons_zero,List.set_cons_succ])
    refine wpAnyH_take (i := 21) (oi := { dst := some 88, op := Op.load 2 (Operand.tmp 87), type := 2, pos := "laws.go:461", after := #[{ on := 20, ground := Ground.data }, { on := 17, ground := Ground.guard }], guard := some (17, true) }) (v := ?_) rfl (by kernel_rfl) (by kernel_rfl) (by kernel_rfl) (fun _ _ _ h => h) (Or.inl ⟨by rfl, ?_⟩) hHeld ?_
    rotate_left
    ·intro wq hSw
     have y0:=hSw.1.2 0 _ rfl
     have y1:=hSw.1.2 1 _ rfl
     have y2:=hSw.1.2 2 _ rfl
     have y3:=hSw.1.2 3 _ rfl
     have y4:=hSw.1.2 4 _ rfl
     have y5:=hSw.1.2 5 _ rfl
     have y6:=hSw.1.2 6 _ rfl
     simp only[Nat.zero_add] at y0 y1 y2 y3 y4 y5 y6
     have x0:=hSw.2.2 0 _ rfl
     have x1:=hSw.2.2 1 _ rfl
     have x2:=hSw.2.2 2 _ rfl
     have x3:=hSw.2.2 3 _ rfl
     have x4:=hSw.2.2 4 _ rfl
     have x5:=hSw.2.2 5 _ rfl
     have x6:=hSw.2.2 6 _ rfl
     simp only[Nat.zero_add] at x0 x1 x2 x3 x4 x5 x6
     go_simp
     all_goals (with_reducible rfl)
    (try simp only[Act.put,List.setIfInBounds_toArray,List.set_cons_zero,List.set_cons_succ])
    refine wpAnyH_take (i := 22) (oi := { dst := some 89, op := Op.binOp BinOp.eql 2 (Operand.tmp 86) (Operand.tmp 88) 2, type := 4, pos := "laws.go:461", after := #[{ on := 19, ground := Ground.data }, { on := 21, ground := Ground.data }, { on := 17, ground := Ground.guard }], guard := some (17, true) }) (v := ?_) rfl (by kernel_rfl) (by kernel_rfl) (by kernel_rfl) (fun _ _ _ h => h) (Or.inl ⟨by rfl, ?_⟩) hHeld ?_
    rotate_left
    ·intro wq hSw
     go_simp
     all_goals (with_reducible rfl)
    (try simp only[Act.put,List.setIfInBounds_toArray,List.set_cons_zero,List.set_cons_succ])
    refine wpAnyH_take (i := 23) (oi := { dst := some 90, op := Op.pick (Operand.tmp 84) (Operand.tmp 89) (Operand.const (Value.bool false)), type := 4, pos := "laws.go:461", after := #[{ on := 17, ground := Ground.data }, { on := 22, ground := Ground.data }], guard := none }) (v := ?_) rfl (by kernel_rfl) (by kernel_rfl) (by kernel_rfl) (fun _ _ _ h => h) (Or.inl ⟨by rfl, ?_⟩) hHeld ?_
    rotate_left
    ·intro wq hSw
     go_simp
     all_goals (with_reducible rfl)
    (try simp only[Act.put,List.setIfInBounds_toArray,List.set_cons_zero,List.set_cons_succ])
    refine wpAnyH_take (i := 24) (oi := { dst := some 91, op := Op.move (Operand.tmp 90), type := 4, pos := "laws.go:461", after := #[{ on := 23, ground := Ground.data }, { on := 17, ground := Ground.chain }], guard := none }) (v := ?_) rfl (by kernel_rfl) (by kernel_rfl) (by kernel_rfl) (fun _ _ _ h => h) (Or.inl ⟨by rfl, ?_⟩) hHeld ?_
    rotate_left
    ·intro wq hSw
     go_simp
     all_goals (with_reducible rfl)
    (try simp only[Act.put,List.setIfInBounds_toArray,List.set_cons_zero,List.set_cons_succ])
    refine wpAnyH_take (i := 25) (oi := { dst := some 92, op := Op.fieldAddr 38 (Operand.tmp 4) 6, type := 0, pos := "laws.go:461", after := #[{ on := 24, ground := Ground.guard }], guard := some (24, true) }) (v := ?_) rfl (by kernel_rfl) (by kernel_rfl) (by kernel_rfl) (fun _ _ _ h => h) (Or.inl ⟨by rfl, ?_⟩) hHeld ?_
    rotate_left
    ·intro wq hSw
     go_simp
     all_goals (with_reducible rfl)
    (try simp only[Act.put,List.setIfInBounds_toArray,List.set_cons_zero,List.set_cons_succ])
    refine wpAnyH_take (i := 26) (oi := { dst := some 93, op := Op.load 2 (Operand.tmp 92), type := 2, pos := "laws.go:461", after := #[{ on := 25, ground := Ground.data }, { on := 24, ground := Ground.guard }], guard := some (24, true) }) (v := ?_) rfl (by kernel_rfl) (by kernel_rfl) (by kernel_rfl) (fun _ _ _ h => h) (Or.inl ⟨by rfl, ?_⟩) hHeld ?_
    rotate_left
    ·intro wq hSw
     have y0:=hSw.1.2 0 _ rfl
     have y1:=hSw.1.2 1 _ rfl
     have y2:=hSw.1.2 2 _ rfl
     have y3:=hSw.1.2 3 _ rfl
     have y4:=hSw.1.2 4 _ rfl
     have y5:=hSw.1.2 5 _ rfl
     have y6:=hSw.1.2 6 _ rfl
     simp only[Nat.zero_add] at y0 y1 y2 y3 y4 y5 y6
     have x0:=hSw.2.2 0 _ rfl
     have x1:=hSw.2.2 1 _ rfl
     have x2:=hSw.2.2 2 _ rfl
     have x3:=hSw.2.2 3 _ rfl
     have x4:=hSw.2.2 4 _ rfl
     have x5:=hSw.2.2 5 _ rfl
     have x6:=hSw.2.2 6 _ rfl
     simp only[Nat.zero_add] at x0 x1 x2 x3 x4 x5 x6
     go_simp
     all_goals (with_reducible rfl)
    (try simp only[Act.put,List.setIfInBounds_toArray,List.set_cons_zero,List.set_cons_succ])
    refine wpAnyH_take (i := 27) (oi := { dst := some 94, op := Op.fieldAddr 38 (Operand.tmp 3) 6, type := 0, pos := "laws.go:461", after := #[{ on := 24, ground := Ground.guard }], guard := some (24, true) }) (v := ?_) rfl (by kernel_rfl) (by kernel_rfl) (by kernel_rfl) (fun _ _ _ h => h) (Or.inl ⟨by rfl, ?_⟩) hHeld ?_
    rotate_left
    ·intro wq hSw
     go_simp
     all_goals (with_reducible rfl)
    (try simp only[Act.put,List.setIfInBounds_toArray,List.set_cons_zero,List.set_cons_succ])
    refine wpAnyH_take (i := 28) (oi := { dst := some 95, op := Op.load 2 (Operand.tmp 94), type := 2, pos := "laws.go:461", after := #[{ on := 27, ground := Ground.data }, { on := 24, ground := Ground.guard }], guard := some (24, true) }) (v := ?_) rfl (by kernel_rfl) (by kernel_rfl) (by kernel_rfl) (fun _ _ _ h => h) (Or.inl ⟨by rfl, ?_⟩) hHeld ?_
    rotate_left
    ·intro wq hSw
     have y0:=hSw.1.2 0 _ rfl
     have y1:=hSw.1.2 1 _ rfl
     have y2:=hSw.1.2 2 _ rfl
     have y3:=hSw.1.2 3 _ rfl
     have y4:=hSw.1.2 4 _ rfl
     have y5:=hSw.1.2 5 _ rfl
     have y6:=hSw.1.2 6 _ rfl
     simp only[Nat.zero_add] at y0 y1 y2 y3 y4 y5 y6
     have x0:=hSw.2.2 0 _ rfl
     have x1:=hSw.2.2 1 _ rfl
     have x2:=hSw.2.2 2 _ rfl
     have x3:=hSw.2.2 3 _ rfl
     have x4:=hSw.2.2 4 _ rfl
     have x5:=hSw.2.2 5 _ rfl
     have x6:=hSw.2.2 6 _ rfl
     simp only[Nat.zero_add] at x0 x1 x2 x3 x4 x5 x6
     go_simp
     all_goals (with_reducible rfl)
    (try simp only[Act.put,List.setIfInBounds_toArray,List.set_cons_zero,List.set_cons_succ])
    refine wpAnyH_take (i := 29) (oi := { dst := some 96, op := Op.binOp BinOp.sub 2 (Operand.tmp 93) (Operand.tmp 95) 2, type := 2, pos := "laws.go:461", after := #[{ on := 26, ground := Ground.data }, { on := 28, ground := Ground.data }, { on := 24, ground := Ground.guard }], guard := some (24, true) }) (v := ?_) rfl (by kernel_rfl) (by kernel_rfl) (by kernel_rfl) (fun _ _ _ h => h) (Or.inl ⟨by rfl, ?_⟩) hHeld ?_
    rotate_left
    ·intro wq hSw
     go_simp
     all_goals (with_reducible rfl)
    (try simp only[Act.put,List.setIfInBounds_toArray,List.set_cons_zero,List.set_cons_succ])
    refine wpAnyH_take (i := 30) (oi := { dst := some 97, op := Op.binOp BinOp.geq 2 (Operand.tmp 96) (Operand.const (Value.int IntKind.i64 0)) 2, type := 4, pos := "laws.go:461", after := #[{ on := 29, ground := Ground.data }, { on := 24, ground := Ground.guard }], guard := some (24, true) }) (v := ?_) rfl (by kernel_rfl) (by kernel_rfl) (by kernel_rfl) (fun _ _ _ h => h) (Or.inl ⟨by rfl, ?_⟩) hHeld ?_
    rotate_left
    ·intro wq hSw
     go_simp
     all_goals (with_reducible rfl)
    (try simp only[Act.put,List.setIfInBounds_toArray,List.set_cons_zero,List.set_cons_succ])
    refine wpAnyH_take (i := 31) (oi := { dst := some 98, op := Op.pick (Operand.tmp 91) (Operand.tmp 97) (Operand.const (Value.bool false)), type := 4, pos := "laws.go:461", after := #[{ on := 24, ground := Ground.data }, { on := 30, ground := Ground.data }], guard := none }) (v := ?_) rfl (by kernel_rfl) (by kernel_rfl) (by kernel_rfl) (fun _ _ _ h => h) (Or.inl ⟨by rfl, ?_⟩) hHeld ?_
    rotate_left
    ·intro wq hSw
     go_simp
     all_goals (with_reducible rfl)
    (try simp only[Act.put,List.setIfInBounds_toArray,List.set_cons_zero,List.set_cons_succ])
    refine wpAnyH_take (i := 32) (oi := { dst := some 99, op := Op.move (Operand.tmp 98), type := 4, pos := "laws.go:461", after := #[{ on := 31, ground := Ground.data }, { on := 24, ground := Ground.chain }], guard := none }) (v := ?_) rfl (by kernel_rfl) (by kernel_rfl) (by kernel_rfl) (fun _ _ _ h => h) (Or.inl ⟨by rfl, ?_⟩) hHeld ?_
    rotate_left
    ·intro wq hSw
     go_simp
     all_goals (with_reducible rfl)
    (try simp only[Act.put,List.setIfInBounds_toArray,List.set_cons_zero,List.set_cons_succ])
    refine wpAnyH_take (i := 33) (oi := { dst := some 100, op := Op.fieldAddr 38 (Operand.tmp 4) 6, type := 0, pos := "laws.go:461", after := #[{ on := 32, ground := Ground.guard }], guard := some (32, true) }) (v := ?_) rfl (by kernel_rfl) (by kernel_rfl) (by kernel_rfl) (fun _ _ _ h => h) (Or.inl ⟨by rfl, ?_⟩) hHeld ?_
    rotate_left
    ·intro wq hSw
     go_simp
     all_goals (with_reducible rfl)
    (try simp only[Act.put,List.setIfInBounds_toArray,List.set_cons_zero,List.set_cons_succ])
    refine wpAnyH_take (i := 34) (oi := { dst := some 101, op := Op.load 2 (Operand.tmp 100), type := 2, pos := "laws.go:461", after := #[{ on := 33, ground := Ground.data }, { on := 32, ground := Ground.guard }], guard := some (32, true) }) (v := ?_) rfl (by kernel_rfl) (by kernel_rfl) (by kernel_rfl) (fun _ _ _ h => h) (Or.inl ⟨by rfl, ?_⟩) hHeld ?_
    rotate_left
    ·intro wq hSw
     have y0:=hSw.1.2 0 _ rfl
     have y1:=hSw.1.2 1 _ rfl
     have y2:=hSw.1.2 2 _ rfl
     have y3:=hSw.1.2 3 _ rfl
     have y4:=hSw.1.2 4 _ rfl
     have y5:=hSw.1.2 5 _ rfl
     have y6:=hSw.1.2 6 _ rfl
     simp only[Nat.zero_add] at y0 y1 y2 y3 y4 y5 y6
     have x0:=hSw.2.2 0 _ rfl
     have x1:=hSw.2.2 1 _ rfl
     have x2:=hSw.2.2 2 _ rfl
     have x3:=hSw.2.2 3 _ rfl
     have x4:=hSw.2.2 4 _ rfl
     have x5:=hSw.2.2 5 _ rfl
     have x6:=hSw.2.2 6 _ rfl
     simp only[Nat.zero_add] at x0 x1 x2 x3 x4 x5 x6
     go_simp
     all_goals (with_reducible rfl)
    (try simp only[Act.put,List.setIfInBounds_toArray,List.set_cons_zero,List.set_cons_succ])
    refine wpAnyH_take (i := 35) (oi := { dst := some 102, op := Op.fieldAddr 38 (Operand.tmp 3) 6, type := 0, pos := "laws.go:461", after := #[{ on := 32, ground := Ground.guard }], guard := some (32, true) }) (v := ?_) rfl (by kernel_rfl) (by kernel_rfl) (by kernel_rfl) (fun _ _ _ h => h) (Or.inl ⟨by rfl, ?_⟩) hHeld ?_
    rotate_left
    ·intro wq hSw
     go_simp
     all_goals (with_reducible rfl)
    (try simp only[Act.put,List.setIfInBounds_toArray,List.set_cons_zero,List.set_cons_succ])
    refine wpAnyH_take (i := 36) (oi := { dst := some 103, op := Op.load 2 (Operand.tmp 102), type := 2, pos := "laws.go:461", after := #[{ on := 35, ground := Ground.data }, { on := 32, ground := Ground.guard }], guard := some (32, true) }) (v := ?_) rfl (by kernel_rfl) (by kernel_rfl) (by kernel_rfl) (fun _ _ _ h => h) (Or.inl ⟨by rfl, ?_⟩) hHeld ?_
    rotate_left
    ·intro wq hSw
     have y0:=hSw.1.2 0 _ rfl
     have y1:=hSw.1.2 1 _ rfl
     have y2:=hSw.1.2 2 _ rfl
     have y3:=hSw.1.2 3 _ rfl
     have y4:=hSw.1.2 4 _ rfl
     have y5:=hSw.1.2 5 _ rfl
     have y6:=hSw.1.2 6 _ rfl
     simp only[Nat.zero_add] at y0 y1 y2 y3 y4 y5 y6
     have x0:=hSw.2.2 0 _ rfl
     have x1:=hSw.2.2 1 _ rfl
     have x2:=hSw.2.2 2 _ rfl
     have x3:=hSw.2.2 3 _ rfl
     have x4:=hSw.2.2 4 _ rfl
     have x5:=hSw.2.2 5 _ rfl
     have x6:=hSw.2.2 6 _ rfl
     simp only[Nat.zero_add] at x0 x1 x2 x3 x4 x5 x6
     go_simp
     all_goals (with_reducible rfl)
    (try simp only[Act.put,List.setIfInBounds_toArray,List.set_cons_zero,List.set_cons_succ])
    refine wpAnyH_take (i := 37) (oi := { dst := some 104, op := Op.binOp BinOp.sub 2 (Operand.tmp 101) (Operand.tmp 103) 2, type := 2, pos := "laws.go:461", after := #[{ on := 34, ground := Ground.data }, { on := 36, ground := Ground.data }, { on := 32, ground := Ground.guard }], guard := some (32, true) }) (v := ?_) rfl (by kernel_rfl) (by kernel_rfl) (by kernel_rfl) (fun _ _ _ h => h) (Or.inl ⟨by rfl, ?_⟩) hHeld ?_
    rotate_left
    ·intro wq hSw
     go_simp
     all_goals (with_reducible rfl)
    (try simp only[Act.put,List.setIfInBounds_toArray,List.set_cons_zero,List.set_cons_succ])
    refine wpAnyH_take (i := 38) (oi := { dst := some 105, op := Op.move (Operand.tmp 9), type := 2, pos := "laws.go:461", after := #[{ on := 32, ground := Ground.guard }], guard := some (32, true) }) (v := ?_) rfl (by kernel_rfl) (by kernel_rfl) (by kernel_rfl) (fun _ _ _ h => h) (Or.inl ⟨by rfl, ?_⟩) hHeld ?_
    rotate_left
    ·intro wq hSw
     go_simp
     all_goals (with_reducible rfl)
    (try simp only[Act.put,List.setIfInBounds_toArray,List.set_cons_zero,List.set_cons_succ])
    refine wpAnyH_take (i := 39) (oi := { dst := some 106, op := Op.binOp BinOp.leq 2 (Operand.tmp 104) (Operand.tmp 105) 2, type := 4, pos := "laws.go:461", after := #[{ on := 37, ground := Ground.data }, { on := 38, ground := Ground.data }, { on := 32, ground := Ground.guard }], guard := some (32, true) }) (v := ?_) rfl (by kernel_rfl) (by kernel_rfl) (by kernel_rfl) (fun _ _ _ h => h) (Or.inl ⟨by rfl, ?_⟩) hHeld ?_
    rotate_left
    ·intro wq hSw
     go_simp
     all_goals (with_reducible rfl)
    (try simp only[Act.put,List.setIfInBounds_toArray,List.set_cons_zero,List.set_cons_succ])
    refine wpAnyH_take (i := 40) (oi := { dst := some 107, op := Op.pick (Operand.tmp 99) (Operand.tmp 106) (Operand.const (Value.bool false)), type := 4, pos := "laws.go:461", after := #[{ on := 32, ground := Ground.data }, { on := 39, ground := Ground.data }], guard := none }) (v := ?_) rfl (by kernel_rfl) (by kernel_rfl) (by kernel_rfl) (fun _ _ _ h => h) (Or.inl ⟨by rfl, ?_⟩) hHeld ?_
    rotate_left
    ·intro wq hSw
     go_simp
     all_goals (with_reducible rfl)
    (try simp only[Act.put,List.setIfInBounds_toArray,List.set_cons_zero,List.set_cons_succ])
    refine wpAnyH_take (i := 41) (oi := { dst := some 108, op := Op.move (Operand.tmp 107), type := 4, pos := "laws.go:461", after := #[{ on := 40, ground := Ground.data }, { on := 32, ground := Ground.chain }], guard := none }) (v := ?_) rfl (by kernel_rfl) (by kernel_rfl) (by kernel_rfl) (fun _ _ _ h => h) (Or.inl ⟨by rfl, ?_⟩) hHeld ?_
    rotate_left
    ·intro wq hSw
     go_simp
     all_goals (with_reducible rfl)
    (try simp only[Act.put,List.setIfInBounds_toArray,List.set_cons_zero,List.set_cons_succ])
    refine wpAnyH_take (i := 42) (oi := { dst := some 109, op := Op.fieldAddr 38 (Operand.tmp 4) 1, type := 0, pos := "laws.go:461", after := #[{ on := 41, ground := Ground.guard }], guard := some (41, true) }) (v := ?_) rfl (by kernel_rfl) (by kernel_rfl) (by kernel_rfl) (fun _ _ _ h => h) (Or.inl ⟨by rfl, ?_⟩) hHeld ?_
    rotate_left
    ·intro wq hSw
     go_simp
     all_goals (with_reducible rfl)
    (try simp only[Act.put,List.setIfInBounds_toArray,List.set_cons_zero,List.set_cons_succ])
    refine wpAnyH_take (i := 43) (oi := { dst := some 110, op := Op.load 24 (Operand.tmp 109), type := 24, pos := "laws.go:461", after := #[{ on := 42, ground := Ground.data }, { on := 41, ground := Ground.guard }], guard := some (41, true) }) (v := ?_) rfl (by kernel_rfl) (by kernel_rfl) (by kernel_rfl) (fun _ _ _ h => h) (Or.inl ⟨by rfl, ?_⟩) hHeld ?_
    rotate_left
    ·intro wq hSw
     have y0:=hSw.1.2 0 _ rfl
     have y1:=hSw.1.2 1 _ rfl
     have y2:=hSw.1.2 2 _ rfl
     have y3:=hSw.1.2 3 _ rfl
     have y4:=hSw.1.2 4 _ rfl
     have y5:=hSw.1.2 5 _ rfl
     have y6:=hSw.1.2 6 _ rfl
     simp only[Nat.zero_add] at y0 y1 y2 y3 y4 y5 y6
     have x0:=hSw.2.2 0 _ rfl
     have x1:=hSw.2.2 1 _ rfl
     have x2:=hSw.2.2 2 _ rfl
     have x3:=hSw.2.2 3 _ rfl
     have x4:=hSw.2.2 4 _ rfl
     have x5:=hSw.2.2 5 _ rfl
     have x6:=hSw.2.2 6 _ rfl
     simp only[Nat.zero_add] at x0 x1 x2 x3 x4 x5 x6
     go_simp
     all_goals (with_reducible rfl)
    (try simp only[Act.put,List.setIfInBounds_toArray,List.set_cons_zero,List.set_cons_succ])
    refine wpAnyH_take (i := 45) (oi := { dst := some 112, op := Op.fieldAddr 38 (Operand.tmp 3) 1, type := 0, pos := "laws.go:461", after := #[{ on := 41, ground := Ground.guard }], guard := some (41, true) }) (v := ?_) rfl (by kernel_rfl) (by kernel_rfl) (by kernel_rfl) (fun _ _ _ h => h) (Or.inl ⟨by rfl, ?_⟩) hHeld ?_
    rotate_left
    ·intro wq hSw
     go_simp
     all_goals (with_reducible rfl)
    (try simp only[Act.put,List.setIfInBounds_toArray,List.set_cons_zero,List.set_cons_succ])
    refine wpAnyH_take (i := 46) (oi := { dst := some 113, op := Op.load 24 (Operand.tmp 112), type := 24, pos := "laws.go:461", after := #[{ on := 45, ground := Ground.data }, { on := 41, ground := Ground.guard }], guard := some (41, true) }) (v := ?_) rfl (by kernel_rfl) (by kernel_rfl) (by kernel_rfl) (fun _ _ _ h => h) (Or.inl ⟨by rfl, ?_⟩) hHeld ?_
    rotate_left
    ·intro wq hSw
     have y0:=hSw.1.2 0 _ rfl
     have y1:=hSw.1.2 1 _ rfl
     have y2:=hSw.1.2 2 _ rfl
     have y3:=hSw.1.2 3 _ rfl
     have y4:=hSw.1.2 4 _ rfl
     have y5:=hSw.1.2 5 _ rfl
     have y6:=hSw.1.2 6 _ rfl
     simp only[Nat.zero_add] at y0 y1 y2 y3 y4 y5 y6
     have x0:=hSw.2.2 0 _ rfl
     have x1:=hSw.2.2 1 _ rfl
     have x2:=hSw.2.2 2 _ rfl
     have x3:=hSw.2.2 3 _ rfl
     have x4:=hSw.2.2 4 _ rfl
     have x5:=hSw.2.2 5 _ rfl
     have x6:=hSw.2.2 6 _ rfl
     simp only[Nat.zero_add] at x0 x1 x2 x3 x4 x5 x6
     go_simp
     all_goals (with_reducible rfl)
    (try simp only[Act.put,List.setIfInBounds_toArray,List.set_cons_zero,List.set_cons_succ])
    refine wpAnyH_take (i := 49) (oi := { dst := some 116, op := Op.fieldAddr 38 (Operand.tmp 4) 5, type := 0, pos := "laws.go:461", after := #[{ on := 41, ground := Ground.guard }], guard := some (41, true) }) (v := ?_) rfl (by kernel_rfl) (by kernel_rfl) (by kernel_rfl) (fun _ _ _ h => h) (Or.inl ⟨by rfl, ?_⟩) hHeld ?_
    rotate_left
    ·intro wq hSw
     go_simp
     all_goals (with_reducible rfl)
    (try simp only[Act.put,List.setIfInBounds_toArray,List.set_cons_zero,List.set_cons_succ])
    refine wpAnyH_take (i := 50) (oi := { dst := some 117, op := Op.load 2 (Operand.tmp 116), type := 2, pos := "laws.go:461", after := #[{ on := 49, ground := Ground.data }, { on := 41, ground := Ground.guard }], guard := some (41, true) }) (v := ?_) rfl (by kernel_rfl) (by kernel_rfl) (by kernel_rfl) (fun _ _ _ h => h) (Or.inl ⟨by rfl, ?_⟩) hHeld ?_
    rotate_left
    ·intro wq hSw
     have y0:=hSw.1.2 0 _ rfl
     have y1:=hSw.1.2 1 _ rfl
     have y2:=hSw.1.2 2 _ rfl
     have y3:=hSw.1.2 3 _ rfl
     have y4:=hSw.1.2 4 _ rfl
     have y5:=hSw.1.2 5 _ rfl
     have y6:=hSw.1.2 6 _ rfl
     simp only[Nat.zero_add] at y0 y1 y2 y3 y4 y5 y6
     have x0:=hSw.2.2 0 _ rfl
     have x1:=hSw.2.2 1 _ rfl
     have x2:=hSw.2.2 2 _ rfl
     have x3:=hSw.2.2 3 _ rfl
     have x4:=hSw.2.2 4 _ rfl
     have x5:=hSw.2.2 5 _ rfl
     have x6:=hSw.2.2 6 _ rfl
     simp only[Nat.zero_add] at x0 x1 x2 x3 x4 x5 x6
     go_simp
     all_goals (with_reducible rfl)
    (try simp only[Act.put,List.setIfInBounds_toArray,List.set_cons_zero,List.set_cons_succ])
    refine wpAnyH_take (i := 51) (oi := { dst := some 118, op := Op.fieldAddr 38 (Operand.tmp 3) 5, type := 0, pos := "laws.go:461", after := #[{ on := 41, ground := Ground.guard }], guard := some (41, true) }) (v := ?_) rfl (by kernel_rfl) (by kernel_rfl) (by kernel_rfl) (fun _ _ _ h => h) (Or.inl ⟨by rfl, ?_⟩) hHeld ?_
    rotate_left
    ·intro wq hSw
     go_simp
     all_goals (with_reducible rfl)
    (try simp only[Act.put,List.setIfInBounds_toArray,List.set_cons_zero,List.set_cons_succ])
    refine wpAnyH_take (i := 52) (oi := { dst := some 119, op := Op.load 2 (Operand.tmp 118), type := 2, pos := "laws.go:461", after := #[{ on := 51, ground := Ground.data }, { on := 41, ground := Ground.guard }], guard := some (41, true) }) (v := ?_) rfl (by kernel_rfl) (by kernel_rfl) (by kernel_rfl) (fun _ _ _ h => h) (Or.inl ⟨by rfl, ?_⟩) hHeld ?_
    rotate_left
    ·intro wq hSw
     have y0:=hSw.1.2 0 _ rfl
     have y1:=hSw.1.2 1 _ rfl
     have y2:=hSw.1.2 2 _ rfl
     have y3:=hSw.1.2 3 _ rfl
     have y4:=hSw.1.2 4 _ rfl
     have y5:=hSw.1.2 5 _ rfl
     have y6:=hSw.1.2 6 _ rfl
     simp only[Nat.zero_add] at y0 y1 y2 y3 y4 y5 y6
     have x0:=hSw.2.2 0 _ rfl
     have x1:=hSw.2.2 1 _ rfl
     have x2:=hSw.2.2 2 _ rfl
     have x3:=hSw.2.2 3 _ rfl
     have x4:=hSw.2.2 4 _ rfl
     have x5:=hSw.2.2 5 _ rfl
     have x6:=hSw.2.2 6 _ rfl
     simp only[Nat.zero_add] at x0 x1 x2 x3 x4 x5 x6
     go_simp
     all_goals (with_reducible rfl)
    (try simp only[Act.put,List.setIfInBounds_toArray,List.set_cons_zero,List.set_cons_succ])
    refine wpAnyH_take (i := 53) (oi := { dst := some 120, op := Op.binOp BinOp.sub 2 (Operand.tmp 117) (Operand.tmp 119) 2, type := 2, pos := "laws.go:461", after := #[{ on := 50, ground := Ground.data }, { on := 52, ground := Ground.data }, { on := 41, ground := Ground.guard }], guard := some (41, true) }) (v := ?_) rfl (by kernel_rfl) (by kernel_rfl) (by kernel_rfl) (fun _ _ _ h => h) (Or.inl ⟨by rfl, ?_⟩) hHeld ?_
    rotate_left
    ·intro wq hSw
     go_simp
     all_goals (with_reducible rfl)
    (try simp only[Act.put,List.setIfInBounds_toArray,List.set_cons_zero,List.set_cons_succ])
    refine wpAnyH_ready (rs:=[44]) (by kernel_rfl) (by simp) ?_
    refine AllReadyH.cons (o := { dst := some 111, op := Op.call { callee := Callee.value (Operand.func 20), args := #[Operand.tmp 110], argTypes := #[24] }, type := 2, pos := "laws.go:461", after := #[{ on := 43, ground := Ground.data }, { on := 41, ground := Ground.chain }, { on := 41, ground := Ground.guard }], guard := some (41, true) }) rfl (fun K' hK => ?_) AllReadyH.nil
    go_simp
    refine (C20G.out _ Ywe0.out.1.2.1).mono ?_
    rintro e we1 ⟨rfl,BN⟩
    have Ywe1:Hid (Bkw we1 r4 h (.slice a2 g1 c2) (.slice b2 g2 d2) (⟨dd,k.inn,k.out,pd,md⟩:Bk) G Q/\Bkw we1 r3 h (.slice a1 m1 c1) (.slice b1 m2 d1) k L O/\Below h w we1):=⟨Ywe0.out.1.below BN,Ywe0.out.2.1.below BN,LEB.out Ywe0.out.2.2 BN⟩
    have hN:Nms r4 0 [.int .i64 dd,(.slice a2 g1 c2),(.slice b2 g2 d2),.int .i64 k.inn,.int .i64 k.out,.int .i64 pd,.int .i64 md] we1/\Nms r3 0 [.int .i64 k.day,(.slice a1 m1 c1),(.slice b1 m2 d1),.int .i64 k.inn,.int .i64 k.out,.int .i64 k.posted,.int .i64 k.missed] we1:=⟨hHeld.1.below BN,hHeld.2.below BN⟩
    clear BN Ywe0 hHeld
    refine hK.out _ _ hN (fun hHeld=>?_)
    clear hK hN
    (try simp only[Act.put,List.setIfInBounds_toArray,List.set_cons_zero,List.set_cons_succ])
    refine wpAnyH_ready (rs:=[47]) (by kernel_rfl) (by simp) ?_
    refine AllReadyH.cons (o := { dst := some 114, op := Op.call { callee := Callee.value (Operand.func 20), args := #[Operand.tmp 113], argTypes := #[24] }, type := 2, pos := "laws.go:461", after := #[{ on := 46, ground := Ground.data }, { on := 44, ground := Ground.chain }, { on := 41, ground := Ground.guard }], guard := some (41, true) }) rfl (fun K' hK => ?_) AllReadyH.nil
    go_simp
    refine (C20L.out _ Ywe1.out.2.1.2.1).mono ?_
    rintro e we2 ⟨rfl,BN⟩
    have Ywe2:Hid (Bkw we2 r4 h (.slice a2 g1 c2) (.slice b2 g2 d2) (⟨dd,k.inn,k.out,pd,md⟩:Bk) G Q/\Bkw we2 r3 h (.slice a1 m1 c1) (.slice b1 m2 d1) k L O/\Below h w we2):=⟨Ywe1.out.1.below BN,Ywe1.out.2.1.below BN,LEB.out Ywe1.out.2.2 BN⟩
    have hN:Nms r4 0 [.int .i64 dd,(.slice a2 g1 c2),(.slice b2 g2 d2),.int .i64 k.inn,.int .i64 k.out,.int .i64 pd,.int .i64 md] we2/\Nms r3 0 [.int .i64 k.day,(.slice a1 m1 c1),(.slice b1 m2 d1),.int .i64 k.inn,.int .i64 k.out,.int .i64 k.posted,.int .i64 k.missed] we2:=⟨hHeld.1.below BN,hHeld.2.below BN⟩
    clear BN Ywe1 hHeld
    refine hK.out _ _ hN (fun hHeld=>?_)
    clear hK hN
    (try simp only[Act.put,List.setIfInBounds_toArray,List.set_cons_zero,List.set_cons_succ])
    refine wpAnyH_take (i := 48) (oi := { dst := some 115, op := Op.binOp BinOp.sub 2 (Operand.tmp 111) (Operand.tmp 114) 2, type := 2, pos := "laws.go:461", after := #[{ on := 44, ground := Ground.data }, { on := 47, ground := Ground.data }, { on := 41, ground := Ground.guard }], guard := some (41, true) }) (v := ?_) rfl (by kernel_rfl) (by kernel_rfl) (by kernel_rfl) (fun _ _ _ h => h) (Or.inl ⟨by rfl, ?_⟩) hHeld ?_
    rotate_left
    ·intro wq hSw
     go_simp
     all_goals (with_reducible rfl)
    (try simp only[Act.put,List.setIfInBounds_toArray,List.set_cons_zero,List.set_cons_succ])
    refine wpAnyH_take (i := 54) (oi := { dst := some 121, op := Op.binOp BinOp.eql 2 (Operand.tmp 115) (Operand.tmp 120) 2, type := 4, pos := "laws.go:461", after := #[{ on := 48, ground := Ground.data }, { on := 53, ground := Ground.data }, { on := 41, ground := Ground.guard }], guard := some (41, true) }) (v := ?_) rfl (by kernel_rfl) (by kernel_rfl) (by kernel_rfl) (fun _ _ _ h => h) (Or.inl ⟨by rfl, ?_⟩) hHeld ?_
    rotate_left
    ·intro wq hSw
     go_simp
     all_goals (with_reducible rfl)
    (try simp only[Act.put,List.setIfInBounds_toArray,List.set_cons_zero,List.set_cons_succ])
    refine wpAnyH_take (i := 55) (oi := { dst := some 122, op := Op.pick (Operand.tmp 108) (Operand.tmp 121) (Operand.const (Value.bool false)), type := 4, pos := "laws.go:461", after := #[{ on := 41, ground := Ground.data }, { on := 54, ground := Ground.data }], guard := none }) (v := ?_) rfl (by kernel_rfl) (by kernel_rfl) (by kernel_rfl) (fun _ _ _ h => h) (Or.inl ⟨by rfl, ?_⟩) hHeld ?_
    rotate_left
    ·intro wq hSw
     go_simp
     all_goals (with_reducible rfl)
    (try simp only[Act.put,List.setIfInBounds_toArray,List.set_cons_zero,List.set_cons_succ])
    refine wpAnyH_ready (rs:=[56]) (by kernel_rfl) (by simp) ?_
    refine AllReadyH.cons (o := { dst := some 2, op := Op.assign (Operand.tmp 122), type := 4, pos := "laws.go:461", after := #[{ on := 55, ground := Ground.data }, { on := 47, ground := Ground.chain }, { on := 0, ground := Ground.phase }, { on := 1, ground := Ground.phase }, { on := 2, ground := Ground.phase }, { on := 3, ground := Ground.phase }, { on := 4, ground := Ground.phase }, { on := 5, ground := Ground.phase }, { on := 6, ground := Ground.phase }, { on := 7, ground := Ground.phase }, { on := 8, ground := Ground.phase }, { on := 9, ground := Ground.phase }, { on := 10, ground := Ground.phase }, { on := 11, ground := Ground.phase }, { on := 12, ground := Ground.phase }, { on := 13, ground := Ground.phase }, { on := 14, ground := Ground.phase }, { on := 15, ground := Ground.phase }, { on := 16, ground := Ground.phase }, { on := 17, ground := Ground.phase }, { on := 18, ground := Ground.phase }, { on := 19, ground := Ground.phase }, { on := 20, ground := Ground.phase }, { on := 21, ground := Ground.phase }, { on := 22, ground := Ground.phase }, { on := 23, ground := Ground.phase }, { on := 24, ground := Ground.phase }, { on := 25, ground := Ground.phase }, { on := 26, ground := Ground.phase }, { on := 27, ground := Ground.phase }, { on := 28, ground := Ground.phase }, { on := 29, ground := Ground.phase }, { on := 30, ground := Ground.phase }, { on := 31, ground := Ground.phase }, { on := 32, ground := Ground.phase }, { on := 33, ground := Ground.phase }, { on := 34, ground := Ground.phase }, { on := 35, ground := Ground.phase }, { on := 36, ground := Ground.phase }, { on := 37, ground := Ground.phase }, { on := 38, ground := Ground.phase }, { on := 39, ground := Ground.phase }, { on := 40, ground := Ground.phase }, { on := 41, ground := Ground.phase }, { on := 42, ground := Ground.phase }, { on := 43, ground := Ground.phase }, { on := 44, ground := Ground.phase }, { on := 45, ground := Ground.phase }, { on := 46, ground := Ground.phase }, { on := 47, ground := Ground.phase }, { on := 48, ground := Ground.phase }, { on := 49, ground := Ground.phase }, { on := 50, ground := Ground.phase }, { on := 51, ground := Ground.phase }, { on := 52, ground := Ground.phase }, { on := 53, ground := Ground.phase }, { on := 54, ground := Ground.phase }, { on := 55, ground := Ground.phase }], guard := none }) rfl (fun K' hK => ?_) AllReadyH.nil
    go_simp
    refine hK.out _ _ hHeld (fun hHeld=>?_)
    clear hK hHeld
    (try simp only[Act.put,List.setIfInBounds_toArray,List.set_cons_zero,List.set_cons_succ])
    refine wpAnyH_done (by kernel_rfl) ?_ _
    go_wp2
    go_ret
    exact ⟨rfl,by rw[HH.out];exact Ywe2.out.2.2⟩
end Go.Proofs.YtghkbhggopiajaaGreatDoor
