/- RanAll of the specification. -/
import Derived.Test.YtghkbhggopiajaaGreatDoorRalip
import Derived.Test.YtghkbhggopiajaaGreatDoorRanNr
namespace Go.Proofs.YtghkbhggopiajaaGreatDoor
open Value renaming int → Ii,slice → Sl
open IntKind renaming i64 → Jj
open Nat renaming le_refl → Nf
open Go.RowKit.Below renaming refl → Bf
open List renaming setIfInBounds_toArray → La,set_cons_zero → Lz,set_cons_succ → Lc
set_option maxHeartbeats 8000000
open Go.RowKit
set_option maxRecDepth 8000
set_option linter.unusedSimpArgs false
theorem nV (a b:Option Addr) (c d:Nat) (L:List aj) (O:List au) (k:Bk) (oa:Option Addr) (oc:Nat) (l:List Bp) (w:World) (hF:Fo w a L.length (FL L)) (hO:aG w b O.length (ae O)) (ho:dO w oa l.length (eu l)) (hno:¬(aq (FL L) L.length (ae O) O.length k/\l.length<=100)):Calls Tryz.prog 34 #[.agg #[Ii Jj k.day,Sl a L.length c,Sl b O.length d,Ii Jj k.inn,Ii Jj k.out,Ii Jj k.posted,Ii Jj k.missed],Sl oa l.length oc] w fun e w'=>eF ⟨[],[],[],⟨0,0,0,0,0⟩⟩ w e w':=by
 have hon:=ho.1
 obtain ⟨h,hh⟩:∃h,w.heap.size=h:=⟨_,rfl⟩
 have HH:=aa hh
 have HF:=aa hF
 have HQ:=aa hO
 have HO:=aa ho
 obtain ⟨W0,hW0,X0⟩:∃W0,W0=(w.alloc (.cells #[Ii Jj k.day,Sl a L.length c,Sl b O.length d,Ii Jj k.inn,Ii Jj k.out,Ii Jj k.posted,Ii Jj k.missed] 38)).alloc (.cells #[Ii Jj 0,Sl none 0 0,Sl none 0 0,Ii Jj 0,Ii Jj 0,Ii Jj 0,Ii Jj 0] 38)/\Hid (ak W0 h (Ii Jj k.day) (Sl a L.length c) (Sl b O.length d) (Ii Jj k.inn) (Ii Jj k.out) (Ii Jj k.posted) (Ii Jj k.missed)/\ak W0 (h+1) (Ii Jj 0) (Sl none 0 0) (Sl none 0 0) (Ii Jj 0) (Ii Jj 0) (Ii Jj 0) (Ii Jj 0)/\Below h w W0/\h+1+1<=W0.heap.size):=by
  have b1:∀(V:World) (o:Obj),Below V.heap.size V (V.alloc o):=fun V o=>(Bf _ _).alloc (Nf _) _
  have v0:=(ak.new w (Ii Jj k.day) (Sl a L.length c) (Sl b O.length d) (Ii Jj k.inn) (Ii Jj k.out) (Ii Jj k.posted) (Ii Jj k.missed) 38).kept (b1 _ (.cells #[Ii Jj 0,Sl none 0 0,Sl none 0 0,Ii Jj 0,Ii Jj 0,Ii Jj 0,Ii Jj 0] 38)) (by simp)
  have v1:=ak.new (w.alloc (.cells #[Ii Jj k.day,Sl a L.length c,Sl b O.length d,Ii Jj k.inn,Ii Jj k.out,Ii Jj k.posted,Ii Jj k.missed] 38)) (Ii Jj 0) (Sl none 0 0) (Sl none 0 0) (Ii Jj 0) (Ii Jj 0) (Ii Jj 0) (Ii Jj 0) 38
  simp only[World.size_alloc] at v1
  rw[hh] at v0 v1
  exact ⟨_,rfl,v0,v1,by rw[←hh];exact ((Bf _ _).alloc (Nf _) _).alloc (by simp) _,by simp;omega⟩
 have HW0:=aa hW0
 clear hF hO ho hW0
 have LEB:Hid (∀{V W:World},Below h w V->Below V.heap.size V W->Below h w W):=fun {V W} p q=>p.trans (q.mono (by have:=p.size;rw[HH.out] at this;exact this))
 have LF:Hid (∀{V:World},Below h w V->Fo V a L.length (FL L)/\aG V b O.length (ae O)/\dO V oa l.length (eu l)):=fun {V} p=>by
  rw[←HH.out] at p
  exact ⟨HF.out.below p,HQ.out.below p,HO.out.below p⟩
 obtain ⟨ll,hll⟩:∃n,l.length=n:=⟨_,rfl⟩
 have HNO:Hid (¬(aq (FL L) L.length (ae O) O.length k/\ll<=100)):=by rw[←hll];exact hno
 rw[hll] at HO LF hon
 rw[hll]
 clear hno hll
 go_enter Tryz.func34,Tryz.ntmps34
 go_upto_region 1 with fail
 rw[←HW0.out]
 clear HW0 hh
 obtain ⟨⟨s0,s1,s2,s3,s4,s5,s6⟩,sf,sz⟩:=X0.out.1
 go_wp2_with fail
 refine (ck a b L.length c O.length d (FL L) (ae O) k _ (LF.out X0.out.2.2.1).1 (LF.out X0.out.2.2.1).2.1).mono ?_
 rintro e w1 ⟨⟨bb,rfl,hb1,hb2⟩,B1⟩
 have R1:=aa (X0.out.2.1.kept B1 X0.out.2.1.2.2)
 have BB1:Hid (Below h w w1):=LEB.out X0.out.2.2.1 B1
 clear s0 s1 s2 s3 s4 s5 s6 sf sz
 cases bb with
 | true=>
  have h100:¬ll<=100:=fun e=>HNO.out ⟨hb1 rfl,e⟩
  have g1:decide ((ll:Int)>100)=true:=by simp;omega
  have g2:decide (100<(ll:Int))=true:=by simp;omega
  clear hb1 hb2 B1 X0 HNO HF HQ HO LF LEB
  obtain ⟨⟨r0,r1,r2,r3,r4,r5,r6⟩,rf,rz⟩:=R1.out
  go_wp2
  refine bodyPost_ret (v:=.tuple #[.agg #[Ii Jj 0,Sl none 0 0,Sl none 0 0,Ii Jj 0,Ii Jj 0,Ii Jj 0,Ii Jj 0],Sl none 0 0]) (by simp[results,Tryz.results34,go_sem,r0,r1,r2,r3,r4,r5,r6]) rfl ⟨Sl none 0 0,Sl none 0 0,Sl none 0 0,rfl,AL.nil' _ _,ah.nil _ _,IL.nil _ _,?_⟩
  rw[HH.out]
  repeat (refine ai ?_ (by omega) _ _)
  exact BB1.out
 | false=>
  clear hb1 hb2 B1 X0 HNO HF HQ HO LF LEB
  obtain ⟨⟨r0,r1,r2,r3,r4,r5,r6⟩,rf,rz⟩:=R1.out
  go_wp2
  refine bodyPost_ret (v:=.tuple #[.agg #[Ii Jj 0,Sl none 0 0,Sl none 0 0,Ii Jj 0,Ii Jj 0,Ii Jj 0,Ii Jj 0],Sl none 0 0]) (by simp[results,Tryz.results34,go_sem,r0,r1,r2,r3,r4,r5,r6]) rfl ⟨Sl none 0 0,Sl none 0 0,Sl none 0 0,rfl,AL.nil' _ _,ah.nil _ _,IL.nil _ _,?_⟩
  rw[HH.out]
  repeat (refine ai ?_ (by omega) _ _)
  exact BB1.out
theorem lY (a b:Option Addr) (c d:Nat) (L:List aj) (O:List au) (k:Bk) (oa:Option Addr) (oc:Nat) (l:List Bp) (w:World) (hF:Fo w a L.length (FL L)) (hO:aG w b O.length (ae O)) (ho:dO w oa l.length (eu l)) (hb:aq (FL L) L.length (ae O) O.length k) (h100:l.length<=100):Calls Tryz.prog 34 #[.agg #[Ii Jj k.day,Sl a L.length c,Sl b O.length d,Ii Jj k.inn,Ii Jj k.out,Ii Jj k.posted,Ii Jj k.missed],Sl oa l.length oc] w fun e w'=>eF (bx ⟨[],L,O,k⟩ l) w e w':=by
 have HB0:=aa hb
 have hon:=ho.1
 have HB:Hid (∀j,(bx ⟨[],L,O,k⟩ (l.take j)).ok):=fun j=>hJ _ _ hb
 have HT:Hid (∀j,j<l.length->bx ⟨[],L,O,k⟩ (l.take (j+1))=el (bx ⟨[],L,O,k⟩ (l.take j)) (eu l j)):=fun j hj=>kV _ l j hj
 have HLN:Hid (∀j,j<=l.length->(bx ⟨[],L,O,k⟩ (l.take j)).c.length=j):=fun j hj=>by rw[fa];simp;omega
 have HE:Hid (l.take l.length=l):=List.take_length
 have HZ:Hid (bx ⟨[],L,O,k⟩ (l.take 0)=⟨[],L,O,k⟩):=rfl
 have hn:=ho.1
 obtain ⟨i0,hi,hz0,hz1,hz2⟩:=info_parts kx
 obtain ⟨h,hh⟩:∃h,w.heap.size=h:=⟨_,rfl⟩
 have HH:=aa hh
 have HF:=aa hF
 have HQ:=aa hO
 have HO:=aa ho
 obtain ⟨W0,hW0,X0⟩:∃W0,W0=(w.alloc (.cells #[Ii Jj k.day,Sl a L.length c,Sl b O.length d,Ii Jj k.inn,Ii Jj k.out,Ii Jj k.posted,Ii Jj k.missed] 38)).alloc (.cells #[Ii Jj 0,Sl none 0 0,Sl none 0 0,Ii Jj 0,Ii Jj 0,Ii Jj 0,Ii Jj 0] 38)/\Hid (ak W0 h (Ii Jj k.day) (Sl a L.length c) (Sl b O.length d) (Ii Jj k.inn) (Ii Jj k.out) (Ii Jj k.posted) (Ii Jj k.missed)/\ak W0 (h+1) (Ii Jj 0) (Sl none 0 0) (Sl none 0 0) (Ii Jj 0) (Ii Jj 0) (Ii Jj 0) (Ii Jj 0)/\Below h w W0/\h+1+1<=W0.heap.size):=by
  have b1:∀(V:World) (o:Obj),Below V.heap.size V (V.alloc o):=fun V o=>(Bf _ _).alloc (Nf _) _
  have v0:=(ak.new w (Ii Jj k.day) (Sl a L.length c) (Sl b O.length d) (Ii Jj k.inn) (Ii Jj k.out) (Ii Jj k.posted) (Ii Jj k.missed) 38).kept (b1 _ (.cells #[Ii Jj 0,Sl none 0 0,Sl none 0 0,Ii Jj 0,Ii Jj 0,Ii Jj 0,Ii Jj 0] 38)) (by simp)
  have v1:=ak.new (w.alloc (.cells #[Ii Jj k.day,Sl a L.length c,Sl b O.length d,Ii Jj k.inn,Ii Jj k.out,Ii Jj k.posted,Ii Jj k.missed] 38)) (Ii Jj 0) (Sl none 0 0) (Sl none 0 0) (Ii Jj 0) (Ii Jj 0) (Ii Jj 0) (Ii Jj 0) 38
  simp only[World.size_alloc] at v1
  rw[hh] at v0 v1
  exact ⟨_,rfl,v0,v1,by rw[←hh];exact ((Bf _ _).alloc (Nf _) _).alloc (by simp) _,by simp;omega⟩
 have HW0:=aa hW0
 clear hF hO ho hW0
 have LEB:Hid (∀{V W:World},Below h w V->Below V.heap.size V W->Below h w W):=fun {V W} p q=>p.trans (q.mono (by have:=p.size;rw[HH.out] at this;exact this))
 have LF:Hid (∀{V:World},Below h w V->Fo V a L.length (FL L)/\aG V b O.length (ae O)/\dO V oa l.length (eu l)):=fun {V} p=>by
  rw[←HH.out] at p
  exact ⟨HF.out.below p,HQ.out.below p,HO.out.below p⟩
 obtain ⟨nl,hnl⟩:∃n,l.length=n:=⟨_,rfl⟩
 rw[hnl] at HO LF hon h100 HT HLN HE hn
 rw[hnl]
 clear hb hnl
 generalize bx ⟨[],L,O,k⟩=f at*
 have g1:decide ((nl:Int)>100)=false:=by simp;omega
 have g2:decide (100<(nl:Int))=false:=by simp;omega
 go_enter Tryz.func34,Tryz.ntmps34
 go_upto_region 1 with fail
 rw[←HW0.out]
 clear HW0 hh
 obtain ⟨⟨s0,s1,s2,s3,s4,s5,s6⟩,sf,sz⟩:=X0.out.1
 go_wp2_with fail
 refine (ck a b L.length c O.length d (FL L) (ae O) k _ (LF.out X0.out.2.2.1).1 (LF.out X0.out.2.2.1).2.1).mono ?_
 rintro e w1 ⟨⟨bb,rfl,hb1,hb2⟩,B1⟩
 obtain rfl:bb=true:=by cases bb with|false=>exact absurd HB0.out (hb2 rfl)|true=>rfl
 have X1:Hid (ak w1 h (Ii Jj k.day) (Sl a L.length c) (Sl b O.length d) (Ii Jj k.inn) (Ii Jj k.out) (Ii Jj k.posted) (Ii Jj k.missed)/\ak w1 (h+1) (Ii Jj 0) (Sl none 0 0) (Sl none 0 0) (Ii Jj 0) (Ii Jj 0) (Ii Jj 0) (Ii Jj 0)/\Below h w w1/\h+1+1<=w1.heap.size):=⟨X0.out.1.kept B1 X0.out.1.2.2,X0.out.2.1.kept B1 X0.out.2.1.2.2,LEB.out X0.out.2.2.1 B1,Nat.le_trans X0.out.2.2.2 B1.size⟩
 clear s0 s1 s2 s3 s4 s5 s6 sf sz
 clear hb1 hb2 B1 X0
 obtain ⟨⟨s0,s1,s2,s3,s4,s5,s6⟩,sf,sz⟩:=X1.out.1
 go_wp2_with fail
 refine (aC a b c d L O k _ (LF.out X1.out.2.2.1).1 (LF.out X1.out.2.2.1).2.1).mono ?_
 rintro e w2 ⟨v2,u2,rfl,A2,O2,B2⟩
 obtain ⟨a2,c2,hv⟩:=A2.len
 subst hv
 obtain ⟨b2,d2,hv⟩:=O2.len
 subst hv
 obtain ⟨V2,hV2,X2⟩:∃V,V=(w2.alloc (.cells #[Ii Jj k.day,Sl a2 L.length c2,Sl b2 O.length d2,Ii Jj k.inn,Ii Jj k.out,Ii Jj k.posted,Ii Jj k.missed] 38)).alloc (.cells #[] 2)/\Hid (gc h (w2.heap.size+1) w2.heap.size (h+1) (Sl a2 L.length c2) (Sl b2 O.length d2) k L O (Sl (some ⟨w2.heap.size+1,0,none⟩) 0 0) [] V/\Below h w V/\w2.heap.size+1<=V.heap.size/\h+1+1<=w2.heap.size):=by
  have b1:∀(V:World) (o:Obj),Below V.heap.size V (V.alloc o):=fun V o=>(Bf _ _).alloc (Nf _) _
  have hs2:h+1+1<=w2.heap.size:=Nat.le_trans X1.out.2.2.2 B2.size
  have v1:=(ak.new w2 (Ii Jj k.day) (Sl a2 L.length c2) (Sl b2 O.length d2) (Ii Jj k.inn) (Ii Jj k.out) (Ii Jj k.posted) (Ii Jj k.missed) 38).kept (b1 _ (.cells #[] 2)) (by simp)
  have bb:Below w2.heap.size w2 ((w2.alloc (.cells #[Ii Jj k.day,Sl a2 L.length c2,Sl b2 O.length d2,Ii Jj k.inn,Ii Jj k.out,Ii Jj k.posted,Ii Jj k.missed] 38)).alloc (.cells #[] 2)):=((Bf _ _).alloc (Nf _) _).alloc (by simp) _
  have il:=IL.empty (w2.alloc (.cells #[Ii Jj k.day,Sl a2 L.length c2,Sl b2 O.length d2,Ii Jj k.inn,Ii Jj k.out,Ii Jj k.posted,Ii Jj k.missed] 38)) (w2.heap.size+1) (by simp)
  simp only[World.size_alloc] at il
  exact ⟨_,rfl,⟨v1,(X1.out.2.1.kept B2 X1.out.2.1.2.2).kept bb (by omega),⟨(A2.kept bb).mono (by have:=X1.out.2.2.2;omega),(O2.kept bb).mono (by have:=X1.out.2.2.2;omega),fun q hq=>by have:=World.ownsRow.lt A2 q hq;have:=X1.out.2.2.2;omega,fun q hq=>by have:=World.ownsRow.lt O2 q hq;have:=X1.out.2.2.2;omega⟩,il⟩,LEB.out (LEB.out X1.out.2.2.1 B2) bb,by simp,hs2⟩
 have HV2:=aa hV2
 obtain ⟨r6,hr6⟩:∃r,w2.heap.size=r:=⟨_,rfl⟩
 obtain ⟨m1,hm1⟩:∃m,L.length=m:=⟨_,rfl⟩
 obtain ⟨m2,hm2⟩:∃m,O.length=m:=⟨_,rfl⟩
 rw[hr6,hm1,hm2] at X2
 rw[hm1,hm2] at HV2
 rw[hm1,hm2]
 clear s0 s1 s2 s3 s4 s5 s6 sf sz
 clear A2 O2 B2 X1 hV2 g1 g2 LF LEB HF HQ
 have HR6:Hid (h+1+1<=r6):=X2.out.2.2.2
 have h16:h+1<r6:=by have:=X2.out.2.2.2;omega
 go_upto_region 5 with fail
 rw[←HV2.out]
 try rw[hr6]
 clear HV2 hr6 hm1 hm2
 go_wp2
 go_loopw[7,8] (fun cv q wr=>∃(j:Nat) (v u:Value),j<=nl/\q=Ii Jj j/\Hid (gc h (r6+1) r6 (h+1) v u (f (l.take j)).k (f (l.take j)).L (f (l.take j)).O cv (f (l.take j)).c wr/\Below h w wr/\r6+1<=wr.heap.size)) (fun _ q _=>nl-(intOf q).toNat)
 case atStart=>exact ⟨0,_,_,Nat.zero_le _,rfl,by rw[HZ.out];exact ⟨X2.out.1,X2.out.2.1,X2.out.2.2.1⟩⟩
 case round=>
  obtain ⟨j,v,u,hj,rfl,X1⟩:=hrel
  clear X2
  have BL:Hid (Below h w wr):=X1.out.2.1
  by_cases hlt:j<nl
  ·skip
   obtain ⟨b0,o0,rfl,hb0,hA0⟩:=HO.out.acc hlt
   have hT:=HT.out j hlt
   have hBk:=HB.out j
   have hLk:=HLN.out j hj
   cases hx:eu l j with
   | mk K x o n=>
   rw[hx] at hA0 hT
   obtain ⟨dd0,dd1,dd2,dd3,dd4,dd5,dd6,dd7,dd8,dd9,dd10,dd11,dd12,dd13⟩:=hA0.of_cells (w':=wr) (fun q=>BL.out.cell (p:=⟨b0,q,none⟩) (by first|exact hb0|(rw[←HH.out];exact hb0)))
   clear hA0 hx
   obtain ⟨s,hs⟩:∃s,s=f (l.take j):=⟨_,rfl⟩
   rw[←hs] at X1 hT hBk hLk
   obtain ⟨C,M,P,kk⟩:=s
   have hml:M.length<=12:=hBk.2.1.1
   have hpl:P.length<=8:=hBk.2.2.1.1
   obtain ⟨D,hD⟩:∃D,D=aY M P kk K x o n:=⟨_,rfl⟩
   have HT1:Hid (f (l.take (j+1))=⟨C++[D.code],D.L,D.O,D.k⟩):=by
    show f (l.take (j+1))=_
    rw[hT,hD]
    rfl
   have DI0:Hid (∀X B a' b' c' d',AL X B (Sl a' M.length c') M->ah X B (Sl b' P.length d') P->Calls Tryz.prog 84 #[.agg #[Ii Jj kk.day,Sl a' M.length c',Sl b' P.length d',Ii Jj kk.inn,Ii Jj kk.out,Ii Jj kk.posted,Ii Jj kk.missed],.agg #[Ii Jj K,Ii Jj x.k,Ii Jj x.i,Ii Jj x.t,Ii Jj x.m,Ii Jj x.r,Ii Jj o.id,Ii Jj o.src,Ii Jj o.dst,Ii Jj o.amount,Ii Jj o.first,Ii Jj o.every,Ii Jj o.times,Ii Jj n]] X fun e w'=>ch D X e w'):=fun X B a' b' c' d' h1 h2=>by
    have e:aY M P kk K x o n=dk M P kk K x o n:=if_pos hBk
    rw[hD,e]
    obtain ⟨r1,r2⟩:=h2.room
    exact iF a' b' c' d' M P kk K n x o X (h1.fo (by omega)).2 (h2.list (by omega)).2 r1 r2 hBk
   obtain ⟨cd,G,Q,kd⟩:=D
   clear hT hD hs hBk
   dsimp only at X1 hLk HT1 DI0
   obtain ⟨a1,c1,hv⟩:=X1.out.1.2.2.1.1.len
   subst hv
   obtain ⟨b1,d1,hv⟩:=X1.out.1.2.2.1.2.1.len
   subst hv
   obtain ⟨ac,mc,hv,_⟩:=X1.out.1.2.2.2.shape
   subst hv
   rw[hLk] at X1 ⊢
   have HLK:=aa hLk
   have DI:Hid (∀X,AL X h (Sl a1 M.length c1) M->ah X h (Sl b1 P.length d1) P->Calls Tryz.prog 84 #[.agg #[Ii Jj kk.day,Sl a1 M.length c1,Sl b1 P.length d1,Ii Jj kk.inn,Ii Jj kk.out,Ii Jj kk.posted,Ii Jj kk.missed],.agg #[Ii Jj K,Ii Jj x.k,Ii Jj x.i,Ii Jj x.t,Ii Jj x.m,Ii Jj x.r,Ii Jj o.id,Ii Jj o.src,Ii Jj o.dst,Ii Jj o.amount,Ii Jj o.first,Ii Jj o.every,Ii Jj o.times,Ii Jj n]] X fun e w'=>ch ⟨cd,G,Q,kd⟩ X e w'):=fun X h1 h2=>DI0.out X h a1 b1 c1 d1 h1 h2
   clear hLk DI0
   obtain ⟨m1',hm1⟩:∃m,M.length=m:=⟨_,rfl⟩
   obtain ⟨m2',hm2⟩:∃m,P.length=m:=⟨_,rfl⟩
   rw[hm1,hm2] at X1 DI
   try rw[hm1,hm2]
   clear hm1 hm2 hml hpl
   have HSW:Hid (ec r6 0 [Ii Jj kk.day,Sl a1 m1' c1,Sl b1 m2' d1,Ii Jj kk.inn,Ii Jj kk.out,Ii Jj kk.posted,Ii Jj kk.missed] wr.drew/\ec b0 (o0+j*14) [Ii Jj K,Ii Jj x.k,Ii Jj x.i,Ii Jj x.t,Ii Jj x.m,Ii Jj x.r,Ii Jj o.id,Ii Jj o.src,Ii Jj o.dst,Ii Jj o.amount,Ii Jj o.first,Ii Jj o.every,Ii Jj o.times,Ii Jj n] wr.drew):=by
    have nb:=X1.out.1.1
    have hb0':b0<wr.heap.size:=by have:=BL.out.size;omega
    refine ⟨⟨nb.2.2,fun i y hi=>?_⟩,⟨hb0',fun i y hi=>?_⟩⟩
    ·match i,hi with
     | 0,hi=>simp at hi;subst hi;simpa using nb.1.1
     | 1,hi=>simp at hi;subst hi;simpa using nb.1.2.1
     | 2,hi=>simp at hi;subst hi;simpa using nb.1.2.2.1
     | 3,hi=>simp at hi;subst hi;simpa using nb.1.2.2.2.1
     | 4,hi=>simp at hi;subst hi;simpa using nb.1.2.2.2.2.1
     | 5,hi=>simp at hi;subst hi;simpa using nb.1.2.2.2.2.2.1
     | 6,hi=>simp at hi;subst hi;simpa using nb.1.2.2.2.2.2.2
    ·match i,hi with
     | 0,hi=>simp at hi;subst hi;simpa using dd0
     | 1,hi=>simp at hi;subst hi;simpa using dd1
     | 2,hi=>simp at hi;subst hi;simpa using dd2
     | 3,hi=>simp at hi;subst hi;simpa using dd3
     | 4,hi=>simp at hi;subst hi;simpa using dd4
     | 5,hi=>simp at hi;subst hi;simpa using dd5
     | 6,hi=>simp at hi;subst hi;simpa using dd6
     | 7,hi=>simp at hi;subst hi;simpa using dd7
     | 8,hi=>simp at hi;subst hi;simpa using dd8
     | 9,hi=>simp at hi;subst hi;simpa using dd9
     | 10,hi=>simp at hi;subst hi;simpa using dd10
     | 11,hi=>simp at hi;subst hi;simpa using dd11
     | 12,hi=>simp at hi;subst hi;simpa using dd12
     | 13,hi=>simp at hi;subst hi;simpa using dd13
   have X3:Hid (gc h (r6+1) r6 (h+1) (Sl a1 m1' c1) (Sl b1 m2' d1) kk M P (Sl ac j mc) C wr.drew/\Below h w wr.drew/\r6+1<=wr.drew.heap.size):=⟨X1.out.1,X1.out.2.1.drew,X1.out.2.2⟩
   clear X1 BL dd0 dd1 dd2 dd3 dd4 dd5 dd6 dd7 dd8 dd9 dd10 dd11 dd12 dd13
   go_upto_region 8 with fail
   refine wp_region_held_drew (S:=fun V=>ec r6 0 [Ii Jj kk.day,Sl a1 m1' c1,Sl b1 m2' d1,Ii Jj kk.inn,Ii Jj kk.out,Ii Jj kk.posted,Ii Jj kk.missed] V/\ec b0 (o0+j*14) [Ii Jj K,Ii Jj x.k,Ii Jj x.i,Ii Jj x.t,Ii Jj x.m,Ii Jj x.r,Ii Jj o.id,Ii Jj o.src,Ii Jj o.dst,Ii Jj o.amount,Ii Jj o.first,Ii Jj o.every,Ii Jj o.times,Ii Jj n] V) (by kernel_rfl) HSW.out (fun hHeld=>?_)
   clear HSW
   generalize wr.drew=V3 at hHeld X3 ⊢
   refine wpAnyH_take (i:=0) (v:=?_) rfl (by kernel_rfl) (by kernel_rfl) (by kernel_rfl) (fun _ _ _ h=>h) (Or.inl ⟨by rfl,?_⟩) hHeld ?_
   rotate_left
   ·intro wq hSw
    have y0:=hSw.1.2 0 _ rfl
    have y1:=hSw.1.2 1 _ rfl
    have y2:=hSw.1.2 2 _ rfl
    have y3:=hSw.1.2 3 _ rfl
    have y4:=hSw.1.2 4 _ rfl
    have y5:=hSw.1.2 5 _ rfl
    have y6:=hSw.1.2 6 _ rfl
    simp only[Nat.zero_add] at y0 y1 y2 y3 y4 y5 y6
    go_simp
    all_goals (with_reducible rfl)
   (try simp only[Act.put,La,Lz,Lc])
   refine wpAnyH_take (i:=1) (v:=?_) rfl (by kernel_rfl) (by kernel_rfl) (by kernel_rfl) (fun _ _ _ h=>h) (Or.inl ⟨by rfl,?_⟩) hHeld ?_
   rotate_left
   ·intro wq hSw
    go_simp
    all_goals (with_reducible rfl)
   (try simp only[Act.put,La,Lz,Lc])
   refine wpAnyH_take (i:=2) (v:=?_) rfl (by kernel_rfl) (by kernel_rfl) (by kernel_rfl) (fun _ _ _ h=>h) (Or.inl ⟨by rfl,?_⟩) hHeld ?_
   rotate_left
   ·intro wq hSw
    go_simp
    all_goals (with_reducible rfl)
   (try simp only[Act.put,La,Lz,Lc])
   refine wpAnyH_take (i:=3) (v:=?_) rfl (by kernel_rfl) (by kernel_rfl) (by kernel_rfl) (fun _ _ _ h=>h) (Or.inl ⟨by rfl,?_⟩) hHeld ?_
   rotate_left
   ·intro wq hSw
    go_simp
    all_goals (with_reducible rfl)
   (try simp only[Act.put,La,Lz,Lc])
   refine wpAnyH_take (i:=4) (v:=?_) rfl (by kernel_rfl) (by kernel_rfl) (by kernel_rfl) (fun _ _ _ h=>h) (Or.inl ⟨by rfl,?_⟩) hHeld ?_
   rotate_left
   ·intro wq hSw
    have y0:=hSw.2.2 0 _ rfl
    have y1:=hSw.2.2 1 _ rfl
    have y2:=hSw.2.2 2 _ rfl
    have y3:=hSw.2.2 3 _ rfl
    have y4:=hSw.2.2 4 _ rfl
    have y5:=hSw.2.2 5 _ rfl
    have y6:=hSw.2.2 6 _ rfl
    have y7:=hSw.2.2 7 _ rfl
    have y8:=hSw.2.2 8 _ rfl
    have y9:=hSw.2.2 9 _ rfl
    have y10:=hSw.2.2 10 _ rfl
    have y11:=hSw.2.2 11 _ rfl
    have y12:=hSw.2.2 12 _ rfl
    have y13:=hSw.2.2 13 _ rfl
    simp only[Nat.add_zero] at y0
    go_simp
    all_goals (with_reducible rfl)
   (try simp only[Act.put,La,Lz,Lc])
   refine wpAnyH_ready (rs:=[5,9]) (by kernel_rfl) (by simp) ?_
   refine AllReadyH.cons rfl (fun K' hK=>?_) ?_
   ·skip
    go_simp
    refine (DI.out V3 (by exact X3.out.1.2.2.1.1) (by exact X3.out.1.2.2.1.2.1)).mono ?_
    rintro e w5 ⟨v5,u5,rfl,A5,Q5,B5⟩
    obtain ⟨a5,c5,hv⟩:=A5.len
    subst hv
    obtain ⟨b5,d5,hv⟩:=Q5.len
    subst hv
    obtain ⟨g1,hg1⟩:∃m,G.length=m:=⟨_,rfl⟩
    obtain ⟨g2,hg2⟩:∃m,Q.length=m:=⟨_,rfl⟩
    rw[hg1] at A5
    rw[hg2] at Q5
    simp only[hg1,hg2]
    clear hg1 hg2
    have X5:Hid (gc h (r6+1) r6 (h+1) (Sl a1 m1' c1) (Sl b1 m2' d1) kk M P (Sl ac j mc) C w5/\Below h w w5/\r6+1<=w5.heap.size/\m9 h r6 (h+1) (Sl a5 g1 c5) (Sl b5 g2 d5) G Q w5):=by
     have hr:=X3.out.2.2
     have hh6:=HR6.out
     exact ⟨X3.out.1.below B5,X3.out.2.1.trans (B5.mono (by omega)),Nat.le_trans hr B5.size,A5.mono (by omega),Q5.mono (by omega),fun q hq=>by have:=(World.ownsRow.lt A5 q hq).1;omega,fun q hq=>by have:=(World.ownsRow.lt Q5 q hq).1;omega⟩
    have hH5:ec r6 0 [Ii Jj kk.day,Sl a1 m1' c1,Sl b1 m2' d1,Ii Jj kk.inn,Ii Jj kk.out,Ii Jj kk.posted,Ii Jj kk.missed] w5/\ec b0 (o0+j*14) [Ii Jj K,Ii Jj x.k,Ii Jj x.i,Ii Jj x.t,Ii Jj x.m,Ii Jj x.r,Ii Jj o.id,Ii Jj o.src,Ii Jj o.dst,Ii Jj o.amount,Ii Jj o.first,Ii Jj o.every,Ii Jj o.times,Ii Jj n] w5:=⟨hHeld.1.below B5,hHeld.2.below B5⟩
    clear A5 Q5 B5 X3 hHeld
    have HH5:=aa hH5
    refine hK.out _ _ hH5 (fun hHeld=>?_)
    clear hK hH5
    (try simp only[Act.put,La,Lz,Lc])
    refine wpAnyH_take (i:=6) (v:=?_) rfl (by kernel_rfl) (by kernel_rfl) (by kernel_rfl) (fun _ _ _ h=>h) (Or.inl ⟨by rfl,?_⟩) hHeld ?_
    rotate_left
    ·intro wq hSw
     go_simp
     all_goals (with_reducible rfl)
    (try simp only[Act.put,La,Lz,Lc])
    refine wpAnyH_take (i:=7) (v:=?_) rfl (by kernel_rfl) (by kernel_rfl) (by kernel_rfl) (fun _ _ _ h=>h) (Or.inl ⟨by rfl,?_⟩) hHeld ?_
    rotate_left
    ·intro wq hSw
     go_simp
     all_goals (with_reducible rfl)
    (try simp only[Act.put,La,Lz,Lc])
    refine wpAnyH_take (i:=8) (v:=?_) rfl (by kernel_rfl) (by kernel_rfl) (by kernel_rfl) (fun _ _ _ h=>h) (Or.inl ⟨by rfl,?_⟩) hHeld ?_
    rotate_left
    ·intro wq hSw
     go_simp
     all_goals (with_reducible rfl)
    (try simp only[Act.put,La,Lz,Lc])
    refine wpAnyH_ready (rs:=[9]) (by kernel_rfl) (by simp) ?_
    refine AllReadyH.cons rfl (fun K' hK=>?_) AllReadyH.nil
    go_simp
    refine hK.out _ _ ⟨hHeld.1.alloc _,hHeld.2.alloc _⟩ (fun hHeld=>?_)
    clear hK
    (try simp only[Act.put,La,Lz,Lc])
    refine wpAnyH_ready (rs:=[10]) (by kernel_rfl) (by simp) ?_
    refine AllReadyH.cons rfl (fun K' hK=>?_) AllReadyH.nil
    go_simp
    obtain ⟨Y,hY,HXY⟩:∃Y,Y=w5.alloc (.cells #[Ii Jj kd.day,Sl a5 g1 c5,Sl b5 g2 d5,Ii Jj kd.inn,Ii Jj kd.out,Ii Jj kd.posted,Ii Jj kd.missed] 38)/\Hid (gc h (r6+1) r6 (h+1) (Sl a1 m1' c1) (Sl b1 m2' d1) kk M P (Sl ac j mc) C Y/\Below h w Y/\r6+1<=Y.heap.size/\m9 h r6 (h+1) (Sl a5 g1 c5) (Sl b5 g2 d5) G Q Y/\ak Y w5.heap.size (Ii Jj kd.day) (Sl a5 g1 c5) (Sl b5 g2 d5) (Ii Jj kd.inn) (Ii Jj kd.out) (Ii Jj kd.posted) (Ii Jj kd.missed)/\w5.heap.size≠r6):=by
     have hb:Below w5.heap.size w5 (w5.alloc (.cells #[Ii Jj kd.day,Sl a5 g1 c5,Sl b5 g2 d5,Ii Jj kd.inn,Ii Jj kd.out,Ii Jj kd.posted,Ii Jj kd.missed] 38)):=(Bf _ _).alloc (Nf _) _
     have hr:=X5.out.2.2.1
     have hh6:=HR6.out
     exact ⟨_,rfl,X5.out.1.below hb,X5.out.2.1.trans (hb.mono (by omega)),Nat.le_trans hr hb.size,X5.out.2.2.2.below hb,ak.new w5 _ _ _ _ _ _ _ 38,by omega⟩
    have HY:=aa hY
    have hHY:ec r6 0 [Ii Jj kk.day,Sl a1 m1' c1,Sl b1 m2' d1,Ii Jj kk.inn,Ii Jj kk.out,Ii Jj kk.posted,Ii Jj kk.missed] Y/\ec b0 (o0+j*14) [Ii Jj K,Ii Jj x.k,Ii Jj x.i,Ii Jj x.t,Ii Jj x.m,Ii Jj x.r,Ii Jj o.id,Ii Jj o.src,Ii Jj o.dst,Ii Jj o.amount,Ii Jj o.first,Ii Jj o.every,Ii Jj o.times,Ii Jj n] Y:=by
     rw[hY]
     have hw5:ec r6 0 _ w5/\ec b0 (o0+j*14) _ w5:=HH5.out
     exact ⟨hw5.1.alloc _,hw5.2.alloc _⟩
    have HSY:=aa hHY
    refine hK.out _ _ (by rw[←HY.out];exact hHY) (fun hHeld=>?_)
    clear hK hHeld hHY hY
    rw[←HY.out]
    clear X5 HH5
    (try simp only[Act.put,La,Lz,Lc])
    refine wpAnyH_ready (rs:=[11]) (by kernel_rfl) (by simp) ?_
    refine AllReadyH.cons rfl (fun K' hK=>?_) AllReadyH.nil
    go_simp
    refine hK.out _ _ HSY.out (fun hHeld=>?_)
    clear hK hHeld HSY
    (try simp only[Act.put,La,Lz,Lc])
    refine wpAnyH_done (by kernel_rfl) ?_ _
    obtain ⟨r9,hr9⟩:∃r,w5.heap.size=r:=⟨_,rfl⟩
    rw[hr9] at HXY
    try rw[hr9]
    clear hr9 HY
    have XY:Hid (gc h (r6+1) r6 (h+1) (Sl a1 m1' c1) (Sl b1 m2' d1) kk M P (Sl ac j mc) C Y/\Below h w Y/\r6+1<=Y.heap.size/\m9 h r6 (h+1) (Sl a5 g1 c5) (Sl b5 g2 d5) G Q Y/\ak Y r9 (Ii Jj kd.day) (Sl a5 g1 c5) (Sl b5 g2 d5) (Ii Jj kd.inn) (Ii Jj kd.out) (Ii Jj kd.posted) (Ii Jj kd.missed)/\r9≠r6):=HXY.out
    clear HXY
    obtain ⟨⟨s0,s1,s2,s3,s4,s5,s6⟩,sf,sz⟩:=XY.out.1.1
    obtain ⟨⟨t0,t1,t2,t3,t4,t5,t6⟩,tf,tz⟩:=XY.out.2.2.2.2.1
    have n96:¬r9=r6:=XY.out.2.2.2.2.2
    have n69:¬r6=r9:=fun e=>XY.out.2.2.2.2.2 e.symm
    go_upto_region 10 with fail
    clear s0 s1 s2 s3 s4 s5 s6 sf sz
    clear t0 t1 t2 t3 t4 t5 t6 tf tz
    obtain ⟨V4,hV4,X4⟩:∃V,V=dI Y r6 kd (Sl a5 g1 c5) (Sl b5 g2 d5)/\Hid (gc h (r6+1) r6 (h+1) (Sl a5 g1 c5) (Sl b5 g2 d5) kd G Q (Sl ac j mc) C V/\Below h w V/\r6+1<=V.heap.size):=by
     have g:=dP Y r6 kd (Sl a5 g1 c5) (Sl b5 g2 d5)
     exact ⟨_,rfl,XY.out.1.turn XY.out.2.2.2.1 (by omega) (by omega),XY.out.2.1.grown g (by have:=XY.out.2.2.1;omega) (fun q hq=>by simp at hq;omega),Nat.le_trans XY.out.2.2.1 g.size⟩
    have HV4:Hid (V4=((((((Y.setCell ⟨r6,0,none⟩ (Ii Jj kd.day)).setCell ⟨r6,1,none⟩ (Sl a5 g1 c5)).setCell ⟨r6,2,none⟩ (Sl b5 g2 d5)).setCell ⟨r6,3,none⟩ (Ii Jj kd.inn)).setCell ⟨r6,4,none⟩ (Ii Jj kd.out)).setCell ⟨r6,5,none⟩ (Ii Jj kd.posted)).setCell ⟨r6,6,none⟩ (Ii Jj kd.missed)):=hV4
    rw[←HV4.out]
    clear hV4 HV4 XY n96 n69
    have hll:j<=1048576:=by omega
    have hbc:Hid (∀q,(Value.slice ac j mc).ownBlock=some q->r6+1<=q):=fun q hq=>(World.ownsRow.lt X4.out.1.2.2.2 q hq).1
    go_wp2_with (at_builtin;refine wpList_append_own _ rfl _ _ 31 rfl (r6+1) 2 i0 (Ii Jj 0) 1 8 Tryz.underlying31 hi hz0 hz1 hz2 rfl (by decide) _ _ _ rfl (World.ownsRow.alloc (by have:=X4.out.1.2.2.2;unfold IL at this;exact this) _) ⟨_,0,none⟩ 1 1 [Ii Jj cd] rfl rfl ?_ ?_ ?_ ?_ ?_ ?_)
    ·intro i y hi
     match i,hi with
     | 0,hi=>simp at hi;subst hi;simp[Addr.add,go_sem]
    ·intro y hy;simp at hy;subst hy;rfl
    ·rw[HLK.out];unfold maxLen;omega
    ·rw[HLK.out];omega
    ·have:=X4.out.2.2;simp;omega
    ·intro c6 w6 hown hgrow _
     have X6:Hid (gc h (r6+1) r6 (h+1) (Sl a5 g1 c5) (Sl b5 g2 d5) kd G Q c6 (C++[cd]) w6/\Below h w w6/\r6+1<=w6.heap.size):=by
      have hb:Below V4.heap.size V4 (V4.alloc (.cells #[Ii Jj cd] 2)):=(Bf _ _).alloc (Nf _) _
      exact ⟨(X4.out.1.below hb).app (by omega) (by omega) hown hgrow,(X4.out.2.1.trans (hb.mono (by have:=X4.out.2.2;omega))).grown hgrow (by have:=X4.out.2.2;simp;omega) (fun q hq=>by have:=hbc.out q hq;omega),Nat.le_trans X4.out.2.2 (Nat.le_trans hb.size hgrow.size)⟩
     have X7:Hid (gc h (r6+1) r6 (h+1) (Sl a5 g1 c5) (Sl b5 g2 d5) (f (l.take (j+1))).k (f (l.take (j+1))).L (f (l.take (j+1))).O c6 (f (l.take (j+1))).c w6/\Below h w w6/\r6+1<=w6.heap.size):=by rw[HT1.out];exact X6.out
     obtain ⟨a6,e6,hv6,_⟩:=X6.out.1.2.2.2.shape
     subst hv6
     obtain ⟨m6,hm6⟩:∃m,(C++[cd]).length=m:=⟨_,rfl⟩
     rw[hm6] at X7
     simp only[hm6]
     clear hm6 X6 X4 hown hgrow hbc
     go_wp2
     go_roundw
     case rel=>exact ⟨j+1,_,_,by omega,by go_num,X7⟩
     case measure=>simp[intOf];omega
   refine AllReadyH.cons rfl (fun K' hK=>?_) AllReadyH.nil
   go_simp
   obtain ⟨V5,hV5,X3b⟩:∃V,V=V3.alloc (.cells #[Ii Jj 0,Sl none 0 0,Sl none 0 0,Ii Jj 0,Ii Jj 0,Ii Jj 0,Ii Jj 0] 38)/\Hid (gc h (r6+1) r6 (h+1) (Sl a1 m1' c1) (Sl b1 m2' d1) kk M P (Sl ac j mc) C V/\Below h w V/\r6+1<=V.heap.size/\ak V V3.heap.size (Ii Jj 0) (Sl none 0 0) (Sl none 0 0) (Ii Jj 0) (Ii Jj 0) (Ii Jj 0) (Ii Jj 0)/\r6+1<=V3.heap.size/\(∀q,(Value.slice a1 m1' c1).ownBlock=some q->q<V3.heap.size)/\(∀q,(Value.slice b1 m2' d1).ownBlock=some q->q<V3.heap.size)/\(∀q,(Value.slice ac j mc).ownBlock=some q->q<V3.heap.size)/\b0<V3.heap.size):=by
    have hb:Below V3.heap.size V3 (V3.alloc (.cells #[Ii Jj 0,Sl none 0 0,Sl none 0 0,Ii Jj 0,Ii Jj 0,Ii Jj 0,Ii Jj 0] 38)):=(Bf _ _).alloc (Nf _) _
    have hr:=X3.out.2.2
    have hh6:=HR6.out
    exact ⟨_,rfl,X3.out.1.below hb,X3.out.2.1.trans (hb.mono (by omega)),Nat.le_trans hr hb.size,ak.new V3 _ _ _ _ _ _ _ 38,hr,fun q hq=>(World.ownsRow.lt X3.out.1.2.2.1.1 q hq).2,fun q hq=>(World.ownsRow.lt X3.out.1.2.2.1.2.1 q hq).2,fun q hq=>(World.ownsRow.lt X3.out.1.2.2.2 q hq).2,hHeld.2.1⟩
   have HV5:=aa hV5
   have hH5:ec r6 0 [Ii Jj kk.day,Sl a1 m1' c1,Sl b1 m2' d1,Ii Jj kk.inn,Ii Jj kk.out,Ii Jj kk.posted,Ii Jj kk.missed] V5/\ec b0 (o0+j*14) [Ii Jj K,Ii Jj x.k,Ii Jj x.i,Ii Jj x.t,Ii Jj x.m,Ii Jj x.r,Ii Jj o.id,Ii Jj o.src,Ii Jj o.dst,Ii Jj o.amount,Ii Jj o.first,Ii Jj o.every,Ii Jj o.times,Ii Jj n] V5:=by rw[hV5];exact ⟨hHeld.1.alloc _,hHeld.2.alloc _⟩
   refine hK.out _ _ (by rw[←HV5.out];exact hH5) (fun hHeld=>?_)
   clear hK hHeld hV5
   rw[←HV5.out]
   have hHeld:=hH5
   clear hH5 HV5 X3
   obtain ⟨r9,hr9⟩:∃r,V3.heap.size=r:=⟨_,rfl⟩
   try rw[hr9]
   rw[hr9] at X3b
   clear hr9
   (try simp only[Act.put,La,Lz,Lc])
   refine wpAnyH_ready (rs:=[5]) (by kernel_rfl) (by simp) ?_
   refine AllReadyH.cons rfl (fun K' hK=>?_) AllReadyH.nil
   go_simp
   refine (DI.out V5 (by exact X3b.out.1.2.2.1.1) (by exact X3b.out.1.2.2.1.2.1)).mono ?_
   rintro e w5 ⟨v5,u5,rfl,A5,Q5,B5⟩
   obtain ⟨a5,c5,hv⟩:=A5.len
   subst hv
   obtain ⟨b5,d5,hv⟩:=Q5.len
   subst hv
   obtain ⟨g1,hg1⟩:∃m,G.length=m:=⟨_,rfl⟩
   obtain ⟨g2,hg2⟩:∃m,Q.length=m:=⟨_,rfl⟩
   rw[hg1] at A5
   rw[hg2] at Q5
   simp only[hg1,hg2]
   clear hg1 hg2
   have X5:Hid (gc h (r6+1) r6 (h+1) (Sl a1 m1' c1) (Sl b1 m2' d1) kk M P (Sl ac j mc) C w5/\Below h w w5/\r6+1<=w5.heap.size/\m9 h r6 (h+1) (Sl a5 g1 c5) (Sl b5 g2 d5) G Q w5/\ak w5 r9 (Ii Jj 0) (Sl none 0 0) (Sl none 0 0) (Ii Jj 0) (Ii Jj 0) (Ii Jj 0) (Ii Jj 0)/\r6+1<=r9/\(∀q,(Value.slice a5 g1 c5).ownBlock=some q->q≠r9)/\(∀q,(Value.slice b5 g2 d5).ownBlock=some q->q≠r9)/\(∀q,(Value.slice a1 m1' c1).ownBlock=some q->q≠r9)/\(∀q,(Value.slice b1 m2' d1).ownBlock=some q->q≠r9)/\(∀q,(Value.slice ac j mc).ownBlock=some q->q≠r9)):=by
    have hr:=X3b.out.2.2.1
    have hh6:=HR6.out
    have h9:=X3b.out.2.2.2.1.2.2
    refine ⟨X3b.out.1.below B5,X3b.out.2.1.trans (B5.mono (by omega)),Nat.le_trans hr B5.size,⟨A5.mono (by omega),Q5.mono (by omega),fun q hq=>by have:=(World.ownsRow.lt A5 q hq).1;omega,fun q hq=>by have:=(World.ownsRow.lt Q5 q hq).1;omega⟩,X3b.out.2.2.2.1.kept B5 h9,X3b.out.2.2.2.2.1,fun q hq=>by have:=(World.ownsRow.lt A5 q hq).1;omega,fun q hq=>by have:=(World.ownsRow.lt Q5 q hq).1;omega,fun q hq=>by have:=X3b.out.2.2.2.2.2.1 q hq;omega,fun q hq=>by have:=X3b.out.2.2.2.2.2.2.1 q hq;omega,fun q hq=>by have:=X3b.out.2.2.2.2.2.2.2.1 q hq;omega⟩
   have HB09:Hid (r9≠b0):=by show _≠_;have:=X3b.out.2.2.2.2.2.2.2.2;omega
   have hH5:ec r6 0 [Ii Jj kk.day,Sl a1 m1' c1,Sl b1 m2' d1,Ii Jj kk.inn,Ii Jj kk.out,Ii Jj kk.posted,Ii Jj kk.missed] w5/\ec b0 (o0+j*14) [Ii Jj K,Ii Jj x.k,Ii Jj x.i,Ii Jj x.t,Ii Jj x.m,Ii Jj x.r,Ii Jj o.id,Ii Jj o.src,Ii Jj o.dst,Ii Jj o.amount,Ii Jj o.first,Ii Jj o.every,Ii Jj o.times,Ii Jj n] w5:=⟨hHeld.1.below B5,hHeld.2.below B5⟩
   have HH5:=aa hH5
   clear A5 Q5 B5 X3b hHeld
   refine hK.out _ _ hH5 (fun hHeld=>?_)
   clear hK hH5
   (try simp only[Act.put,La,Lz,Lc])
   refine wpAnyH_take (i:=6) (v:=?_) rfl (by kernel_rfl) (by kernel_rfl) (by kernel_rfl) (fun _ _ _ h=>h) (Or.inl ⟨by rfl,?_⟩) hHeld ?_
   rotate_left
   ·intro wq hSw
    go_simp
    all_goals (with_reducible rfl)
   (try simp only[Act.put,La,Lz,Lc])
   refine wpAnyH_take (i:=7) (v:=?_) rfl (by kernel_rfl) (by kernel_rfl) (by kernel_rfl) (fun _ _ _ h=>h) (Or.inl ⟨by rfl,?_⟩) hHeld ?_
   rotate_left
   ·intro wq hSw
    go_simp
    all_goals (with_reducible rfl)
   (try simp only[Act.put,La,Lz,Lc])
   refine wpAnyH_take (i:=8) (v:=?_) rfl (by kernel_rfl) (by kernel_rfl) (by kernel_rfl) (fun _ _ _ h=>h) (Or.inl ⟨by rfl,?_⟩) hHeld ?_
   rotate_left
   ·intro wq hSw
    go_simp
    all_goals (with_reducible rfl)
   (try simp only[Act.put,La,Lz,Lc])
   refine wpAnyH_ready (rs:=[10]) (by kernel_rfl) (by simp) ?_
   refine AllReadyH.cons rfl (fun K' hK=>?_) AllReadyH.nil
   obtain ⟨⟨z0,z1,z2,z3,z4,z5,z6⟩,zf,zz⟩:=X5.out.2.2.2.2.1
   go_simp
   obtain ⟨Y,hY,HXY⟩:∃Y,Y=dI w5 r9 kd (Sl a5 g1 c5) (Sl b5 g2 d5)/\Hid (gc h (r6+1) r6 (h+1) (Sl a1 m1' c1) (Sl b1 m2' d1) kk M P (Sl ac j mc) C Y/\Below h w Y/\r6+1<=Y.heap.size/\m9 h r6 (h+1) (Sl a5 g1 c5) (Sl b5 g2 d5) G Q Y/\ak Y r9 (Ii Jj kd.day) (Sl a5 g1 c5) (Sl b5 g2 d5) (Ii Jj kd.inn) (Ii Jj kd.out) (Ii Jj kd.posted) (Ii Jj kd.missed)/\r9≠r6):=by
    have g:=dP w5 r9 kd (Sl a5 g1 c5) (Sl b5 g2 d5)
    obtain ⟨x1,x2,x3,x4,x5,x6,q1,q2,q3,q4,q5⟩:=X5.out
    have hh6:=HR6.out
    refine ⟨_,rfl,⟨x1.1.same (g.block r6 x1.1.2.2 (fun e=>by have:=Option.some.inj e;omega)),x1.2.1.same (g.block (h+1) x1.2.1.2.2 (fun e=>by have:=Option.some.inj e;omega)),⟨aO x1.2.2.1.1 g q3,aO x1.2.2.1.2.1 g q4,x1.2.2.1.2.2⟩,aO x1.2.2.2 g q5⟩,x2.grown g (by omega) (fun q hq=>by simp at hq;omega),Nat.le_trans x3 g.size,⟨aO x4.1 g q1,aO x4.2.1 g q2,x4.2.2⟩,?_,by omega⟩
    exact (((((((x5.set0 _).set1 _).set2 _).set3 _).set4 _).set5 _).set6 _)
   have HY:Hid (Y=((((((w5.setCell ⟨r9,0,none⟩ (Ii Jj kd.day)).setCell ⟨r9,1,none⟩ (Sl a5 g1 c5)).setCell ⟨r9,2,none⟩ (Sl b5 g2 d5)).setCell ⟨r9,3,none⟩ (Ii Jj kd.inn)).setCell ⟨r9,4,none⟩ (Ii Jj kd.out)).setCell ⟨r9,5,none⟩ (Ii Jj kd.posted)).setCell ⟨r9,6,none⟩ (Ii Jj kd.missed)):=hY
   have hHY:ec r6 0 [Ii Jj kk.day,Sl a1 m1' c1,Sl b1 m2' d1,Ii Jj kk.inn,Ii Jj kk.out,Ii Jj kk.posted,Ii Jj kk.missed] Y/\ec b0 (o0+j*14) [Ii Jj K,Ii Jj x.k,Ii Jj x.i,Ii Jj x.t,Ii Jj x.m,Ii Jj x.r,Ii Jj o.id,Ii Jj o.src,Ii Jj o.dst,Ii Jj o.amount,Ii Jj o.first,Ii Jj o.every,Ii Jj o.times,Ii Jj n] Y:=by
    rw[hY]
    have hw5:=HH5.out
    have n1:r9≠r6:=by have:=X5.out.2.2.2.2.2.1;omega
    have n2:r9≠b0:=HB09.out
    unfold dI
    exact ⟨((((((hw5.1.set n1 _ _).set n1 _ _).set n1 _ _).set n1 _ _).set n1 _ _).set n1 _ _).set n1 _ _,((((((hw5.2.set n2 _ _).set n2 _ _).set n2 _ _).set n2 _ _).set n2 _ _).set n2 _ _).set n2 _ _⟩
   have HSY:=aa hHY
   clear z0 z1 z2 z3 z4 z5 z6 zf zz
   refine hK.out _ _ (by rw[←HY.out];exact hHY) (fun hHeld=>?_)
   clear hK hHeld hHY hY
   rw[←HY.out]
   clear X5 HH5
   (try simp only[Act.put,La,Lz,Lc])
   refine wpAnyH_ready (rs:=[11]) (by kernel_rfl) (by simp) ?_
   refine AllReadyH.cons rfl (fun K' hK=>?_) AllReadyH.nil
   go_simp
   refine hK.out _ _ HSY.out (fun hHeld=>?_)
   clear hK hHeld HSY HY
   (try simp only[Act.put,La,Lz,Lc])
   refine wpAnyH_done (by kernel_rfl) ?_ _
   have XY:Hid (gc h (r6+1) r6 (h+1) (Sl a1 m1' c1) (Sl b1 m2' d1) kk M P (Sl ac j mc) C Y/\Below h w Y/\r6+1<=Y.heap.size/\m9 h r6 (h+1) (Sl a5 g1 c5) (Sl b5 g2 d5) G Q Y/\ak Y r9 (Ii Jj kd.day) (Sl a5 g1 c5) (Sl b5 g2 d5) (Ii Jj kd.inn) (Ii Jj kd.out) (Ii Jj kd.posted) (Ii Jj kd.missed)/\r9≠r6):=HXY.out
   clear HXY
   obtain ⟨⟨s0,s1,s2,s3,s4,s5,s6⟩,sf,sz⟩:=XY.out.1.1
   obtain ⟨⟨t0,t1,t2,t3,t4,t5,t6⟩,tf,tz⟩:=XY.out.2.2.2.2.1
   have n96:¬r9=r6:=XY.out.2.2.2.2.2
   have n69:¬r6=r9:=fun e=>XY.out.2.2.2.2.2 e.symm
   go_upto_region 10 with fail
   clear s0 s1 s2 s3 s4 s5 s6 sf sz
   clear t0 t1 t2 t3 t4 t5 t6 tf tz
   obtain ⟨V4,hV4,X4⟩:∃V,V=dI Y r6 kd (Sl a5 g1 c5) (Sl b5 g2 d5)/\Hid (gc h (r6+1) r6 (h+1) (Sl a5 g1 c5) (Sl b5 g2 d5) kd G Q (Sl ac j mc) C V/\Below h w V/\r6+1<=V.heap.size):=by
    have g:=dP Y r6 kd (Sl a5 g1 c5) (Sl b5 g2 d5)
    exact ⟨_,rfl,XY.out.1.turn XY.out.2.2.2.1 (by omega) (by omega),XY.out.2.1.grown g (by have:=XY.out.2.2.1;omega) (fun q hq=>by simp at hq;omega),Nat.le_trans XY.out.2.2.1 g.size⟩
   have HV4:Hid (V4=((((((Y.setCell ⟨r6,0,none⟩ (Ii Jj kd.day)).setCell ⟨r6,1,none⟩ (Sl a5 g1 c5)).setCell ⟨r6,2,none⟩ (Sl b5 g2 d5)).setCell ⟨r6,3,none⟩ (Ii Jj kd.inn)).setCell ⟨r6,4,none⟩ (Ii Jj kd.out)).setCell ⟨r6,5,none⟩ (Ii Jj kd.posted)).setCell ⟨r6,6,none⟩ (Ii Jj kd.missed)):=hV4
   rw[←HV4.out]
   clear hV4 HV4 XY n96 n69
   have hll:j<=1048576:=by omega
   have hbc:Hid (∀q,(Value.slice ac j mc).ownBlock=some q->r6+1<=q):=fun q hq=>(World.ownsRow.lt X4.out.1.2.2.2 q hq).1
   go_wp2_with (at_builtin;refine wpList_append_own _ rfl _ _ 31 rfl (r6+1) 2 i0 (Ii Jj 0) 1 8 Tryz.underlying31 hi hz0 hz1 hz2 rfl (by decide) _ _ _ rfl (World.ownsRow.alloc (by have:=X4.out.1.2.2.2;unfold IL at this;exact this) _) ⟨_,0,none⟩ 1 1 [Ii Jj cd] rfl rfl ?_ ?_ ?_ ?_ ?_ ?_)
   ·intro i y hi
    match i,hi with
    | 0,hi=>simp at hi;subst hi;simp[Addr.add,go_sem]
   ·intro y hy;simp at hy;subst hy;rfl
   ·rw[HLK.out];unfold maxLen;omega
   ·rw[HLK.out];omega
   ·have:=X4.out.2.2;simp;omega
   ·intro c6 w6 hown hgrow _
    have X6:Hid (gc h (r6+1) r6 (h+1) (Sl a5 g1 c5) (Sl b5 g2 d5) kd G Q c6 (C++[cd]) w6/\Below h w w6/\r6+1<=w6.heap.size):=by
     have hb:Below V4.heap.size V4 (V4.alloc (.cells #[Ii Jj cd] 2)):=(Bf _ _).alloc (Nf _) _
     exact ⟨(X4.out.1.below hb).app (by omega) (by omega) hown hgrow,(X4.out.2.1.trans (hb.mono (by have:=X4.out.2.2;omega))).grown hgrow (by have:=X4.out.2.2;simp;omega) (fun q hq=>by have:=hbc.out q hq;omega),Nat.le_trans X4.out.2.2 (Nat.le_trans hb.size hgrow.size)⟩
    have X7:Hid (gc h (r6+1) r6 (h+1) (Sl a5 g1 c5) (Sl b5 g2 d5) (f (l.take (j+1))).k (f (l.take (j+1))).L (f (l.take (j+1))).O c6 (f (l.take (j+1))).c w6/\Below h w w6/\r6+1<=w6.heap.size):=by rw[HT1.out];exact X6.out
    obtain ⟨a6,e6,hv6,_⟩:=X6.out.1.2.2.2.shape
    subst hv6
    obtain ⟨m6,hm6⟩:∃m,(C++[cd]).length=m:=⟨_,rfl⟩
    rw[hm6] at X7
    simp only[hm6]
    clear hm6 X6 X4 hown hgrow hbc
    go_wp2
    go_roundw
    case rel=>exact ⟨j+1,_,_,by omega,by go_num,X7⟩
    case measure=>simp[intOf];omega
  ·skip
   have hjn:j=nl:=by omega
   subst hjn
   rw[HE.out] at X1
   obtain ⟨s,hs⟩:∃s,s=f l:=⟨_,rfl⟩
   rw[←hs] at X1
   obtain ⟨C,M,P,kk⟩:=s
   have HSF:Hid (f l=⟨C,M,P,kk⟩):=hs.symm
   clear hs
   dsimp only at X1
   obtain ⟨a1,c1,hv⟩:=X1.out.1.2.2.1.1.len
   subst hv
   obtain ⟨b1,d1,hv⟩:=X1.out.1.2.2.1.2.1.len
   subst hv
   obtain ⟨ac,mc,hv,_⟩:=X1.out.1.2.2.2.shape
   subst hv
   obtain ⟨m1',hm1⟩:∃m,M.length=m:=⟨_,rfl⟩
   obtain ⟨m2',hm2⟩:∃m,P.length=m:=⟨_,rfl⟩
   obtain ⟨m3',hm3⟩:∃m,C.length=m:=⟨_,rfl⟩
   rw[hm1,hm2,hm3] at X1
   try rw[hm3]
   clear hm1 hm2 hm3 BL
   obtain ⟨⟨s0,s1,s2,s3,s4,s5,s6⟩,sf,sz⟩:=X1.out.1.1
   obtain ⟨⟨rr0,rr1,rr2,rr3,rr4,rr5,rr6⟩,rrf,rrz⟩:=X1.out.1.2.1
   have nh:¬r6=h+1:=by omega
   have nh':¬h+1=r6:=by omega
   go_wp2
   refine bodyPost_ret (v:=.tuple #[.agg #[Ii Jj kk.day,Sl a1 m1' c1,Sl b1 m2' d1,Ii Jj kk.inn,Ii Jj kk.out,Ii Jj kk.posted,Ii Jj kk.missed],Sl ac m3' mc]) (by simp[results,Tryz.results34,go_sem,rr0,rr1,rr2,rr3,rr4,rr5,rr6]) rfl ?_
   have g:=dP wr (h+1) kk (Sl a1 m1' c1) (Sl b1 m2' d1)
   have y:=X1.out.1
   rw[HSF.out]
   try unfold eF
   dsimp only
   rw[HH.out]
   refine ⟨_,_,_,rfl,aO y.2.2.1.1 g (fun q hq=>(y.2.2.1.2.2.1 q hq).2),aO y.2.2.1.2.1 g (fun q hq=>(y.2.2.1.2.2.2 q hq).2),(IL.mono (aO y.2.2.2 g (fun q hq=>by have:=(World.ownsRow.lt y.2.2.2 q hq).1;omega)) (by omega)),?_⟩
   exact X1.out.2.1.grown g (by have:=X1.out.2.2;omega) (fun q hq=>by simp at hq;omega)
theorem rX (a b:Option Addr) (c d:Nat) (L:List aj) (O:List au) (k:Bk) (oa:Option Addr) (oc:Nat) (l:List Bp) (w:World) (hF:Fo w a L.length (FL L)) (hO:aG w b O.length (ae O)) (ho:dO w oa l.length (eu l)):Calls Tryz.prog 34 #[.agg #[Ii Jj k.day,Sl a L.length c,Sl b O.length d,Ii Jj k.inn,Ii Jj k.out,Ii Jj k.posted,Ii Jj k.missed],Sl oa l.length oc] w fun e w'=>eF (gh L O k l) w e w':=by
 unfold gh
 by_cases hh:aq (FL L) L.length (ae O) O.length k/\l.length<=100
 ·rw[if_pos hh];exact lY a b c d L O k oa oc l w hF hO ho hh.1 hh.2
 ·rw[if_neg hh];exact nV a b c d L O k oa oc l w hF hO ho hh
end Go.Proofs.YtghkbhggopiajaaGreatDoor
