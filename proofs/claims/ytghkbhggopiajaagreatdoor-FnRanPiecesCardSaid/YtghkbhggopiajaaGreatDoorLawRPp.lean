/- The law. -/
import Derived.Test.YtghkbhggopiajaaGreatDoorBpwp
import Derived.Test.YtghkbhggopiajaaGreatDoorRalsp
import Derived.Deep.DeepCutAuto
import Derived.Laws.OwnMore
namespace Go.Proofs.YtghkbhggopiajaaGreatDoor
open Value renaming int → Ii,slice → Sl
open IntKind renaming i64 → Jj
open Nat renaming le_refl → Nf
open Go.RowKit.Below renaming refl → Bf
open Go.Proofs.Tryz renaming prog → Pg
open List renaming setIfInBounds_toArray → La,set_cons_zero → Lz,set_cons_succ → Lc
open Go.RowKit
set_option maxRecDepth 8000
set_option linter.unusedSimpArgs false
theorem qH (L:List aj) (O:List au) (k:Bk) (l:List Bp):(gh L O k l).L.length<=12/\(gh L O k l).O.length<=8/\(gh L O k l).c.length<=100:=by
 unfold gh
 split
 ·rename_i hb
  have:=hJ l ⟨[],L,O,k⟩ hb.1
  exact ⟨this.2.1.1,this.2.2.1.1,by rw[fa];simp;exact hb.2⟩
 ·simp
theorem IL.past {w w':World} {B:Nat} {v:Value} {l:List Int} {row:Option Nat} (h:IL w B v l) (g:w.grownBy w' row) (hne:∀q,v.ownBlock=some q->row=some q->False):IL w' B v l:=World.ownsRow.kept h g (by
 cases hb:v.ownBlock with
 | none=>exact Or.inl rfl
 | some q=>right;intro e;exact hne q hb e.symm)
theorem cE {w:World} {ops:Array Oper} {rest:List Oper} {o:Oper} {a:Act} {Q:Exit->Act->World->Prop} (hgd:Region.wanted o (yielded ops a.tmps)=true) (s x:Operand)
  (ho:o.op=.call {callee:=.builtin .append,args:=#[s,x],argTypes:=#[31,31]}) (B1 B2:Nat) (v y:Value) (l r:List Int) (hs:a.eval s=v) (hx:a.eval x=y)
  (h1:IL w B1 v l) (h2:IL w B2 y r) (hl:l.length+r.length<=1048576) (hb:B1<=w.heap.size)
  (h:∀v' w',IL w' B1 v' (l++r)->w.grownBy w' v.ownBlock->wpList Pg ops Q rest (a.put o.dst v') w'):wpList Pg ops Q (o::rest) a w:=by
 refine wpList_step fun K hK=>?_
 rw[if_pos hgd]
 obtain ⟨i0,hi,hz0,hz1,hz2⟩:=info_parts kx
 rcases h2.2 with ⟨hv,hn⟩|⟨g,cap,cur,hv,hg,hb1,hc1,hc2,hc3,hc4⟩
 ·have hrun:=run_append_owned_none (P:=Pg) (w:=w) B1 31 o.type 2 i0 1 Tryz.underlying31 hi v l.length (l.map (Value.int .i64)) h1
  unfold Oper.wp
  rw[hv] at hx
  simp[execOp,ho,resolve,invoke,builtin,hs,hx,hrun,Result.andThen]
  have:r=[]:=List.length_eq_zero_iff.1 hn
  subst this
  exact hK _ _ (h v w (by simpa using h1) ⟨rfl,rfl,rfl,Nf _,fun _ _ _=>rfl⟩)
 ·rw[hv] at hx
  have h2':w.ownsRow B2 2 1 (Sl (some ⟨g,0,none⟩) r.length cap) r.length (r.map (Value.int .i64)):=by rw[←hv];exact h2
  refine wp_append_own w s x 31 ho B1 2 i0 (Ii Jj 0) 1 8 Tryz.underlying31 hi hz0 hz1 hz2 rfl (by decide) v l.length (l.map (Value.int .i64)) hs h1 ⟨g,0,none⟩ r.length cap (r.map (Value.int .i64)) hx (by simp) ?_ ?_ ?_ ?_ hb ?_
  ·intro j u hj
   have hjl:j<r.length:=by
    by_cases e:j<r.length
    ·exact e
    ·rw[List.getElem?_eq_none (by simp;omega)] at hj;cases hj
   have ea:(⟨g,0,none⟩:Addr).add j=⟨g,j,none⟩:=by by_cases e:j=0 <;>simp[Addr.add,e]
   rw[ea,World.ownsRow.cellAt h2' j (by omega),hj]
  ·intro u hu
   obtain ⟨z,_,rfl⟩:=List.mem_map.1 hu
   rfl
  ·unfold maxLen;omega
  ·omega
  ·intro v' w' h3 h4 _
   refine hK _ _ (h v' w' ?_ h4)
   unfold IL
   simpa using h3
theorem gH:∀(l:List Bp) (c:List Int) (L:List aj) (O:List au) (k:Bk),bx ⟨c,L,O,k⟩ l=⟨c++(bx ⟨[],L,O,k⟩ l).c,(bx ⟨[],L,O,k⟩ l).L,(bx ⟨[],L,O,k⟩ l).O,(bx ⟨[],L,O,k⟩ l).k⟩
 | [],c,L,O,k=>by simp[bx]
 | a::l,c,L,O,k=>by
  show bx (el ⟨c,L,O,k⟩ a) l=⟨c++(bx (el ⟨[],L,O,k⟩ a) l).c,(bx (el ⟨[],L,O,k⟩ a) l).L,(bx (el ⟨[],L,O,k⟩ a) l).O,(bx (el ⟨[],L,O,k⟩ a) l).k⟩
  rw[show el ⟨c,L,O,k⟩ a=⟨c++[(aY L O k a.K a.x a.o a.n).code],(aY L O k a.K a.x a.o a.n).L,(aY L O k a.K a.x a.o a.n).O,(aY L O k a.K a.x a.o a.n).k⟩ from rfl,show el ⟨[],L,O,k⟩ a=⟨[(aY L O k a.K a.x a.o a.n).code],(aY L O k a.K a.x a.o a.n).L,(aY L O k a.K a.x a.o a.n).O,(aY L O k a.K a.x a.o a.n).k⟩ from rfl]
  rw[gH l (c++_),gH l [_]]
  simp
theorem nX (L:List aj) (O:List au) (k:Bk) (l:List Bp) (j:Nat) {X Y:RA} (hX:bx ⟨[],L,O,k⟩ (l.take j)=X) (hY:bx ⟨[],X.L,X.O,X.k⟩ (l.drop j)=Y):bx ⟨[],L,O,k⟩ l=⟨X.c++Y.c,Y.L,Y.O,Y.k⟩:=by
 have e:bx ⟨[],L,O,k⟩ l=bx X (l.drop j):=by
  conv=>lhs;rw[←List.take_append_drop j l]
  rw[←hX]
  unfold bx
  rw[List.foldl_append]
 rw[e,←hY]
 obtain ⟨c,L',O',k'⟩:=X
 exact gH _ c L' O' k'
def pu (q:RA) (n1 n2 n3:Nat) (V:World) (e:Ending) (W:World):Prop:=∃(a2:Option Addr) (c2:Nat) (b2:Option Addr) (d2:Nat) (ca:Option Addr) (cc:Nat),e=.returned (.tuple #[.agg #[Ii Jj q.k.day,Sl a2 n1 c2,Sl b2 n2 d2,Ii Jj q.k.inn,Ii Jj q.k.out,Ii Jj q.k.posted,Ii Jj q.k.missed],Sl ca n3 cc])/\AL W V.heap.size (Sl a2 n1 c2) q.L/\ah W V.heap.size (Sl b2 n2 d2) q.O/\IL W V.heap.size (Sl ca n3 cc) q.c/\Below V.heap.size V W
theorem eF.q {q:RA} {n1 n2 n3:Nat} {V W:World} {e:Ending} (h:eF q V e W) (e1:q.L.length=n1) (e2:q.O.length=n2) (e3:q.c.length=n3):pu q n1 n2 n3 V e W:=by
 obtain ⟨v,u,c,rfl,h1,h2,h3,h4⟩:=h
 obtain ⟨a2,c2,rfl⟩:=AL.len h1
 obtain ⟨b2,d2,rfl⟩:=ah.len h2
 obtain ⟨ca,cc,rfl,_⟩:=IL.shape h3
 subst e1 e2 e3
 exact ⟨a2,c2,b2,d2,ca,cc,rfl,h1,h2,h3,h4⟩
theorem jV (a b:Option Addr) (c d m1 m2 B:Nat) (L:List aj) (O:List au) (k:Bk) (oa:Option Addr) (oc n:Nat) (l:List Bp) (p:Nat->Addr) (V:World) (h1:AL V B (Sl a m1 c) L) (h2:ah V B (Sl b m2 d) O) (hl:L.length<=12) (ho:O.length<=8) (hn:l.length=n) (h3:dO V oa n (eu l)) (hG:GE V p):Calls Pg 33 #[.agg #[Ii Jj k.day,Sl a m1 c,Sl b m2 d,Ii Jj k.inn,Ii Jj k.out,Ii Jj k.posted,Ii Jj k.missed],Sl oa n oc] V fun e w'=>eF (gh L O k l) V e w':=by
 obtain ⟨e1,f1⟩:=h1.fo (by omega)
 obtain ⟨e2,f2⟩:=h2.list (by omega)
 subst e1 e2 hn
 exact se a b c d L O k oa oc l p V f1 f2 h3 hG
theorem rY (a b:Option Addr) (c d m1 m2 B:Nat) (L:List aj) (O:List au) (k:Bk) (oa:Option Addr) (oc n:Nat) (l:List Bp) (V:World) (h1:AL V B (Sl a m1 c) L) (h2:ah V B (Sl b m2 d) O) (hl:L.length<=12) (ho:O.length<=8) (hn:l.length=n) (h3:dO V oa n (eu l)):Calls Pg 34 #[.agg #[Ii Jj k.day,Sl a m1 c,Sl b m2 d,Ii Jj k.inn,Ii Jj k.out,Ii Jj k.posted,Ii Jj k.missed],Sl oa n oc] V fun e w'=>eF (gh L O k l) V e w':=by
 obtain ⟨e1,f1⟩:=h1.fo (by omega)
 obtain ⟨e2,f2⟩:=h2.list (by omega)
 subst e1 e2 hn
 exact rX a b c d L O k oa oc l V f1 f2 h3
theorem ec.realloc {g o:Nat} {l:List Value} {V:World} {c c':Array Value} {T:Nat} (h:ec g o l (V.alloc (.cells c T))) (hn:g<V.heap.size):ec g o l (V.alloc (.cells c' T)):=⟨by simp;omega,fun j x hj=>by
 have:=h.2 j x hj
 rw[World.cell?_alloc_lt _ _ _ hn] at this ⊢
 exact this⟩
set_option maxHeartbeats 16000000 in
theorem tX (a:Option Addr) (len cap:Nat) (p:Nat->Addr) (w:World) (hc:Code w a len) (hG:GE w p):
  Calls Pg 6 #[Sl a len cap] w fun e w'=>e=.returned (.bool true)/\Below w.heap.size w w':=by
 have HC:=aa hc
 have HG:=aa hG
 obtain ⟨h,hh⟩:∃h,w.heap.size=h:=⟨_,rfl⟩
 have HH:=aa hh
 have LEB:Hid (∀{V W:World},Below h w V->Below V.heap.size V W->Below h w W):=fun {V W} p q=>p.trans (q.mono (by have:=p.size;rw[HH.out] at this;exact this))
 have LEH:Hid (∀{V:World},Below h w V->h<=V.heap.size):=fun {V} p=>by have:=p.size;rw[HH.out] at this;exact this
 clear hc hG hh
 by_cases hbig:1048576<len
 ·go_enter Tryz.func6,Tryz.ntmps6
  go_wp2_with (go_at_call 11;refine (sO _ _ _ _ hbig).mono ?_;rintro e w' ⟨rfl,rfl⟩)
  go_ret
  exact ⟨rfl,Bf _ _⟩
 go_enter Tryz.func6,Tryz.ntmps6
 go_wp2_with fail
 refine (tu _ _ _ _ (by omega)).mono ?_
 rintro e wz ⟨rfl,hwz⟩
 subst wz
 go_wp2_with fail
 refine (pt a len cap _ HC.out).mono ?_
 rintro e w1 ⟨k,L,O,v,u,lv,l,rfl,⟨l1,o1,n1⟩,A1,Q1,P1,hlv,B1⟩
 clear HC
 obtain ⟨a1,c1,hv⟩:=A1.len
 subst hv
 obtain ⟨b1,d1,hv⟩:=Q1.len
 subst hv
 obtain ⟨lg,lc,hv,hlc1,hlc2⟩:=P1.own hlv
 subst hv
 clear hlv
 unfold maxLen at hlc2
 obtain ⟨m1,hm1⟩:∃m,L.length=m:=⟨_,rfl⟩
 obtain ⟨m2,hm2⟩:∃m,O.length=m:=⟨_,rfl⟩
 obtain ⟨ln,hln⟩:∃m,l.length=m:=⟨_,rfl⟩
 have hln12:ln<=12:=by omega
 have hbig':len<=1048576:=by omega
 have HLO:Hid (L.length<=12/\O.length<=8/\L.length=m1/\O.length=m2/\l.length=ln):=⟨l1,o1,hm1,hm2,hln⟩
 have PL:Hid (dO w1 (some ⟨lg,0,none⟩) ln (eu l)):=by rw[←hln];exact (P1.list (by omega)).2
 obtain ⟨q,hq⟩:∃q,q=gh L O k l:=⟨_,rfl⟩
 have hql:=qH L O k l
 rw[←hq] at hql
 have hqr:Hid (aq (FL L) L.length (ae O) O.length k->q=bx ⟨[],L,O,k⟩ l):=fun hb=>by
  rw[hq]
  unfold gh
  rw[if_pos ⟨hb,by have:=HLO.out;omega⟩]
 obtain ⟨C,G,Q,kd⟩:=q
 dsimp only at hql
 obtain ⟨g1,hg1⟩:∃m,G.length=m:=⟨_,rfl⟩
 obtain ⟨g2,hg2⟩:∃m,Q.length=m:=⟨_,rfl⟩
 obtain ⟨cn,hcn⟩:∃m,C.length=m:=⟨_,rfl⟩
 have HLQ:Hid (G.length<=12/\Q.length<=8/\C.length<=100/\G.length=g1/\Q.length=g2/\C.length=cn):=⟨hql.1,hql.2.1,hql.2.2,hg1,hg2,hcn⟩
 have IM:Hid (∀V,AL V h (Sl a1 m1 c1) L->ah V h (Sl b1 m2 d1) O->dO V (some ⟨lg,0,none⟩) ln (eu l)->GE V p->Calls Pg 33 #[.agg #[Ii Jj k.day,(Sl a1 m1 c1),(Sl b1 m2 d1),Ii Jj k.inn,Ii Jj k.out,Ii Jj k.posted,Ii Jj k.missed],Sl (some ⟨lg,0,none⟩) ln lc] V fun e w'=>pu ⟨C,G,Q,kd⟩ g1 g2 cn V e w'):=fun V h1 h2 h3 h4=>(jV a1 b1 c1 d1 m1 m2 h L O k _ lc ln l p V h1 h2 l1 o1 hln h3 h4).mono fun e W hr=>by rw[←hq] at hr;exact hr.q hg1 hg2 hcn
 have SP:Hid (∀V,AL V h (Sl a1 m1 c1) L->ah V h (Sl b1 m2 d1) O->dO V (some ⟨lg,0,none⟩) ln (eu l)->Calls Pg 34 #[.agg #[Ii Jj k.day,(Sl a1 m1 c1),(Sl b1 m2 d1),Ii Jj k.inn,Ii Jj k.out,Ii Jj k.posted,Ii Jj k.missed],Sl (some ⟨lg,0,none⟩) ln lc] V fun e w'=>pu ⟨C,G,Q,kd⟩ g1 g2 cn V e w'):=fun V h1 h2 h3=>(rY a1 b1 c1 d1 m1 m2 h L O k _ lc ln l V h1 h2 l1 o1 hln h3).mono fun e W hr=>by rw[←hq] at hr;exact hr.q hg1 hg2 hcn
 rw[hm1] at A1
 rw[hm2] at Q1
 simp only[hm1,hm2,hln]
 obtain ⟨V1,hV1,X1⟩:∃V,V=w1.alloc (.cells #[Ii Jj k.day,(Sl a1 m1 c1),(Sl b1 m2 d1),Ii Jj k.inn,Ii Jj k.out,Ii Jj k.posted,Ii Jj k.missed] 38)/\Hid (cW V w1.heap.size h (Sl a1 m1 c1) (Sl b1 m2 d1) k L O/\dO V (some ⟨lg,0,none⟩) ln (eu l)/\Below h w V):=by
  have b3:Below w1.heap.size w1 (w1.alloc (.cells #[Ii Jj k.day,(Sl a1 m1 c1),(Sl b1 m2 d1),Ii Jj k.inn,Ii Jj k.out,Ii Jj k.posted,Ii Jj k.missed] 38)):=(Bf _ _).alloc (Nf _) _
  rw[HH.out] at A1 Q1 B1
  exact ⟨_,rfl,cW.new A1 Q1 (Nf _),PL.out.below b3,LEB.out B1 b3⟩
 have HV1:=aa hV1
 rw[hln] at hlc1
 clear hV1 l1 o1 n1 A1 Q1 P1 B1 hm1 hm2 hln hg1 hg2 hcn hql hq PL
 go_upto_region 4 with fail
 rw[←HV1.out]
 obtain ⟨r3,hr3⟩:∃r,w1.heap.size=r:=⟨_,rfl⟩
 rw[hr3] at X1
 try rw[hr3]
 clear HV1 hr3
 obtain ⟨⟨s0,s1,s2,s3,s4,s5,s6⟩,sf,sz⟩:=X1.out.1.1
 go_wp2_with fail
 refine (IM.out _ X1.out.1.2.1 X1.out.1.2.2 X1.out.2.1 (HG.out.below (by rw[HH.out];exact X1.out.2.2))).mono ?_
 rintro e w2 ⟨a2,c2,b2,d2,ca2,cc2,rfl,A2,Q2,I2,B2⟩
 dsimp only at A2 Q2 I2
 obtain ⟨V2,hV2,X2⟩:∃V,V=w2.alloc (.cells #[Ii Jj kd.day,(Sl a2 g1 c2),(Sl b2 g2 d2),Ii Jj kd.inn,Ii Jj kd.out,Ii Jj kd.posted,Ii Jj kd.missed] 38)/\Hid ((cW V r3 h (Sl a1 m1 c1) (Sl b1 m2 d1) k L O/\dO V (some ⟨lg,0,none⟩) ln (eu l)/\Below h w V)/\cW V w2.heap.size h (Sl a2 g1 c2) (Sl b2 g2 d2) kd G Q/\IL V h (Sl ca2 cn cc2) C):=by
  have hb:Below w2.heap.size w2 (w2.alloc (.cells #[Ii Jj kd.day,(Sl a2 g1 c2),(Sl b2 g2 d2),Ii Jj kd.inn,Ii Jj kd.out,Ii Jj kd.posted,Ii Jj kd.missed] 38)):=(Bf _ _).alloc (Nf _) _
  have hV:=LEH.out X1.out.2.2
  exact ⟨_,rfl,⟨(X1.out.1.below B2).below hb,(X1.out.2.1.below B2).below hb,LEB.out (LEB.out X1.out.2.2 B2) hb⟩,cW.new A2 Q2 hV,(I2.kept hb).mono hV⟩
 have HV2:=aa hV2
 clear hV2 A2 Q2 I2 B2 X1 IM
 clear s0 s1 s2 s3 s4 s5 s6 sf sz
 go_upto_region 5 with fail
 rw[←HV2.out]
 obtain ⟨r5,hr5⟩:∃r,w2.heap.size=r:=⟨_,rfl⟩
 rw[hr5] at X2
 try rw[hr5]
 clear HV2 hr5
 obtain ⟨⟨s0,s1,s2,s3,s4,s5,s6⟩,sf,sz⟩:=X2.out.1.1.1
 go_wp2_with fail
 refine (SP.out _ X2.out.1.1.2.1 X2.out.1.1.2.2 X2.out.1.2.1).mono ?_
 rintro e w3 ⟨a3,c3,b3,d3,ca3,cc3,rfl,A3,Q3,I3,B3⟩
 dsimp only at A3 Q3 I3
 obtain ⟨V3,hV3,X3⟩:∃V,V=w3.alloc (.cells #[Ii Jj kd.day,(Sl a3 g1 c3),(Sl b3 g2 d3),Ii Jj kd.inn,Ii Jj kd.out,Ii Jj kd.posted,Ii Jj kd.missed] 38)/\Hid (((cW V r3 h (Sl a1 m1 c1) (Sl b1 m2 d1) k L O/\dO V (some ⟨lg,0,none⟩) ln (eu l)/\Below h w V)/\cW V r5 h (Sl a2 g1 c2) (Sl b2 g2 d2) kd G Q/\IL V h (Sl ca2 cn cc2) C)/\cW V w3.heap.size h (Sl a3 g1 c3) (Sl b3 g2 d3) kd G Q/\IL V h (Sl ca3 cn cc3) C):=by
  have hb:Below w3.heap.size w3 (w3.alloc (.cells #[Ii Jj kd.day,(Sl a3 g1 c3),(Sl b3 g2 d3),Ii Jj kd.inn,Ii Jj kd.out,Ii Jj kd.posted,Ii Jj kd.missed] 38)):=(Bf _ _).alloc (Nf _) _
  have hV:=LEH.out X2.out.1.2.2
  have y:(cW w3 r3 h (Sl a1 m1 c1) (Sl b1 m2 d1) k L O/\dO w3 (some ⟨lg,0,none⟩) ln (eu l)/\Below h w w3)/\cW w3 r5 h (Sl a2 g1 c2) (Sl b2 g2 d2) kd G Q/\IL w3 h (Sl ca2 cn cc2) C:=⟨⟨X2.out.1.1.below B3,X2.out.1.2.1.below B3,LEB.out X2.out.1.2.2 B3⟩,X2.out.2.1.below B3,X2.out.2.2.kept B3⟩
  exact ⟨_,rfl,⟨⟨y.1.1.below hb,y.1.2.1.below hb,LEB.out y.1.2.2 hb⟩,y.2.1.below hb,y.2.2.kept hb⟩,cW.new A3 Q3 hV,(I3.kept hb).mono hV⟩
 have HV3:=aa hV3
 clear hV3 A3 Q3 I3 B3 X2 SP
 clear s0 s1 s2 s3 s4 s5 s6 sf sz
 go_upto_region 6 with fail
 rw[←HV3.out]
 obtain ⟨r7,hr7⟩:∃r,w3.heap.size=r:=⟨_,rfl⟩
 rw[hr7] at X3
 try rw[hr7]
 clear HV3 hr7
 go_wp2_with fail
 refine (dR _ _ _ _ C _ (by have:=HLQ.out;omega) X3.out.1.2.2 X3.out.2.2).mono ?_
 rintro e w4 ⟨rfl,B4⟩
 have X4:Hid (((cW w4 r3 h (Sl a1 m1 c1) (Sl b1 m2 d1) k L O/\dO w4 (some ⟨lg,0,none⟩) ln (eu l)/\Below h w w4)/\cW w4 r5 h (Sl a2 g1 c2) (Sl b2 g2 d2) kd G Q/\IL w4 h (Sl ca2 cn cc2) C)/\cW w4 r7 h (Sl a3 g1 c3) (Sl b3 g2 d3) kd G Q/\IL w4 h (Sl ca3 cn cc3) C):=⟨⟨⟨X3.out.1.1.1.below B4,X3.out.1.1.2.1.below B4,LEB.out X3.out.1.1.2.2 B4⟩,X3.out.1.2.1.below B4,X3.out.1.2.2.kept B4⟩,X3.out.2.1.below B4,X3.out.2.2.kept B4⟩
 clear B4 X3
 obtain ⟨⟨s0,s1,s2,s3,s4,s5,s6⟩,sf,sz⟩:=X4.out.1.2.1.1
 obtain ⟨⟨t0,t1,t2,t3,t4,t5,t6⟩,tf,tz⟩:=X4.out.2.1.1
 go_wp2_with fail
 refine (ga kd _ HLQ.out.1 HLQ.out.2.1 X4.out.1.2.1.2.1 X4.out.1.2.1.2.2 X4.out.2.1.2.1 X4.out.2.1.2.2).mono ?_
 rintro e w5 ⟨rfl,B5⟩
 have X5:Hid (((cW w5 r3 h (Sl a1 m1 c1) (Sl b1 m2 d1) k L O/\dO w5 (some ⟨lg,0,none⟩) ln (eu l)/\Below h w w5)/\cW w5 r5 h (Sl a2 g1 c2) (Sl b2 g2 d2) kd G Q/\IL w5 h (Sl ca2 cn cc2) C)/\cW w5 r7 h (Sl a3 g1 c3) (Sl b3 g2 d3) kd G Q/\IL w5 h (Sl ca3 cn cc3) C):=⟨⟨⟨X4.out.1.1.1.below B5,X4.out.1.1.2.1.below B5,LEB.out X4.out.1.1.2.2 B5⟩,X4.out.1.2.1.below B5,X4.out.1.2.2.kept B5⟩,X4.out.2.1.below B5,X4.out.2.2.kept B5⟩
 clear B5 X4
 clear s0 s1 s2 s3 s4 s5 s6 sf sz
 clear t0 t1 t2 t3 t4 t5 t6 tf tz
 obtain ⟨⟨s0,s1,s2,s3,s4,s5,s6⟩,sf,sz⟩:=X5.out.1.1.1.1
 go_wp2_with fail
 refine (ck a1 b1 m1 c1 m2 d1 (FL L) (ae O) k _ (X5.out.1.1.1.2.1.fo (by have:=HLO.out;omega)).2 (X5.out.1.1.1.2.2.list (by have:=HLO.out;omega)).2).mono ?_
 rintro e w6 ⟨⟨bk,rfl,t1,t2⟩,B6⟩
 have X6:Hid (((cW w6 r3 h (Sl a1 m1 c1) (Sl b1 m2 d1) k L O/\dO w6 (some ⟨lg,0,none⟩) ln (eu l)/\Below h w w6)/\cW w6 r5 h (Sl a2 g1 c2) (Sl b2 g2 d2) kd G Q/\IL w6 h (Sl ca2 cn cc2) C)/\cW w6 r7 h (Sl a3 g1 c3) (Sl b3 g2 d3) kd G Q/\IL w6 h (Sl ca3 cn cc3) C):=⟨⟨⟨X5.out.1.1.1.below B6,X5.out.1.1.2.1.below B6,LEB.out X5.out.1.1.2.2 B6⟩,X5.out.1.2.1.below B6,X5.out.1.2.2.kept B6⟩,X5.out.2.1.below B6,X5.out.2.2.kept B6⟩
 clear B6 X5
 clear s0 s1 s2 s3 s4 s5 s6 sf sz
 cases bk with
 | false=>
  clear t1 t2
  go_wp2_with fail
  refine (dR _ _ _ _ C _ (by have:=HLQ.out;omega) X6.out.1.2.2 X6.out.2.2).mono ?_
  rintro e w7 ⟨rfl,B7⟩
  have X7:Hid (((cW w7 r3 h (Sl a1 m1 c1) (Sl b1 m2 d1) k L O/\dO w7 (some ⟨lg,0,none⟩) ln (eu l)/\Below h w w7)/\cW w7 r5 h (Sl a2 g1 c2) (Sl b2 g2 d2) kd G Q/\IL w7 h (Sl ca2 cn cc2) C)/\cW w7 r7 h (Sl a3 g1 c3) (Sl b3 g2 d3) kd G Q/\IL w7 h (Sl ca3 cn cc3) C):=⟨⟨⟨X6.out.1.1.1.below B7,X6.out.1.1.2.1.below B7,LEB.out X6.out.1.1.2.2 B7⟩,X6.out.1.2.1.below B7,X6.out.1.2.2.kept B7⟩,X6.out.2.1.below B7,X6.out.2.2.kept B7⟩
  clear B7 X6
  obtain ⟨⟨s0,s1,s2,s3,s4,s5,s6⟩,sf,sz⟩:=X7.out.1.2.1.1
  obtain ⟨⟨t0,t1,t2,t3,t4,t5,t6⟩,tf,tz⟩:=X7.out.2.1.1
  go_wp2_with fail
  refine (ga kd _ HLQ.out.1 HLQ.out.2.1 X7.out.1.2.1.2.1 X7.out.1.2.1.2.2 X7.out.2.1.2.1 X7.out.2.1.2.2).mono ?_
  rintro e w8 ⟨rfl,B8⟩
  have FI:Hid (Below h w w8):=LEB.out X7.out.1.1.2.2 B8
  clear B8 X7
  clear s0 s1 s2 s3 s4 s5 s6 sf sz
  clear t0 t1 t2 t3 t4 t5 t6 tf tz
  go_wp2
  go_ret
  exact ⟨rfl,by rw[HH.out];exact FI.out⟩
 | true=>
  have hbk:aq (FL L) L.length (ae O) O.length k:=by rw[HLO.out.2.2.1,HLO.out.2.2.2.1];exact t1 rfl
  have hqe:=hqr.out hbk
  clear t1 t2 hqr
  obtain ⟨j,hj⟩:∃j:Nat,j=len % (ln+1):=⟨_,rfl⟩
  have hjn:j<=ln:=by have:=Nat.mod_lt len (show 0<ln+1 by omega);omega
  have hje:(len:Int) % ((ln:Int)+1)=(j:Int):=by rw[hj];simp
  clear hj
  obtain ⟨X,hX⟩:∃X,bx ⟨[],L,O,k⟩ (l.take j)=X:=⟨_,rfl⟩
  obtain ⟨Y,hY⟩:∃Y,bx ⟨[],X.L,X.O,X.k⟩ (l.drop j)=Y:=⟨_,rfl⟩
  have hp:=nX L O k l j hX hY
  rw[hp] at hqe
  have hXo:X.ok:=by rw[←hX];exact hJ _ _ hbk
  have hXl:X.c.length=j:=by rw[←hX,fa];have:=HLO.out;simp;omega
  have hYl:Y.c.length=ln-j:=by rw[←hY,fa];have:=HLO.out;simp;omega
  have hXa:gh L O k (l.take j)=X:=by unfold gh;rw[if_pos ⟨hbk,by have:=HLO.out;simp;omega⟩];exact hX
  have hYa:gh X.L X.O X.k (l.drop j)=Y:=by unfold gh;rw[if_pos ⟨hXo,by have:=HLO.out;simp;omega⟩];exact hY
  obtain ⟨C1,G1,Q1,k1⟩:=X
  obtain ⟨C2,G2,Q2,k2⟩:=Y
  dsimp only at hqe hXl hYl hXa hYa
  obtain ⟨hC,rfl,rfl,rfl⟩:C=C1++C2/\G=G2/\Q=Q2/\kd=k2:=by simpa using hqe
  have HC12:=aa hC
  have hx12:G1.length<=12/\Q1.length<=8:=⟨hXo.2.1.1,hXo.2.2.1.1⟩
  obtain ⟨x1,hx1⟩:∃m,G1.length=m:=⟨_,rfl⟩
  obtain ⟨x2,hx2⟩:∃m,Q1.length=m:=⟨_,rfl⟩
  have IX:Hid (∀V (E:Below w6.heap.size w6 V),Calls Pg 33 #[.agg #[Ii Jj k.day,(Sl a1 m1 c1),(Sl b1 m2 d1),Ii Jj k.inn,Ii Jj k.out,Ii Jj k.posted,Ii Jj k.missed],Sl (some ⟨lg,0,none⟩) j lc] V fun e w'=>pu ⟨C1,G1,Q1,k1⟩ x1 x2 j V e w'):=fun V E=>by
   have y:((cW V r3 h (Sl a1 m1 c1) (Sl b1 m2 d1) k L O/\dO V (some ⟨lg,0,none⟩) ln (eu l)/\Below h w V)/\cW V r5 h (Sl a2 g1 c2) (Sl b2 g2 d2) kd G Q/\IL V h (Sl ca2 cn cc2) C)/\cW V r7 h (Sl a3 g1 c3) (Sl b3 g2 d3) kd G Q/\IL V h (Sl ca3 cn cc3) C:=⟨⟨⟨X6.out.1.1.1.below E,X6.out.1.1.2.1.below E,LEB.out X6.out.1.1.2.2 E⟩,X6.out.1.2.1.below E,X6.out.1.2.2.kept E⟩,X6.out.2.1.below E,X6.out.2.2.kept E⟩
   have e1:(l.take j).length=j:=by have:=HLO.out;simp;omega
   have ht:dO V (some ⟨lg,0,none⟩) j (eu (l.take j)):=by have h6:=y.1.1.2.1;rw[←HLO.out.2.2.2.2] at h6;exact h6.take (by have:=HLO.out;omega)
   exact (jV a1 b1 c1 d1 m1 m2 h L O k _ lc j (l.take j) p V y.1.1.1.2.1 y.1.1.1.2.2 HLO.out.1 HLO.out.2.1 e1 ht (HG.out.below (by rw[HH.out];exact y.1.1.2.2))).mono fun e W hr=>by rw[hXa] at hr;exact hr.q hx1 hx2 hXl
  have IY:Hid (∀V a4 c4 b4 d4 oa oc,AL V h (Sl a4 x1 c4) G1->ah V h (Sl b4 x2 d4) Q1->dO V oa (ln-j) (eu (l.drop j))->GE V p->Calls Pg 33 #[.agg #[Ii Jj k1.day,(Sl a4 x1 c4),(Sl b4 x2 d4),Ii Jj k1.inn,Ii Jj k1.out,Ii Jj k1.posted,Ii Jj k1.missed],Sl oa (ln-j) oc] V fun e w'=>pu ⟨C2,G,Q,kd⟩ g1 g2 (ln-j) V e w'):=fun V a4 c4 b4 d4 oa oc h1 h2 h3 h4=>by
   have e1:(l.drop j).length=ln-j:=by have:=HLO.out;simp;omega
   exact (jV a4 b4 c4 d4 x1 x2 h G1 Q1 k1 oa oc (ln-j) (l.drop j) p V h1 h2 hx12.1 hx12.2 e1 h3 h4).mono fun e W hr=>by rw[hYa] at hr;exact hr.q HLQ.out.2.2.2.1 HLQ.out.2.2.2.2.1 hYl
  have HXL:Hid (C1.length=j/\C2.length=ln-j):=⟨hXl,hYl⟩
  clear hX hY hp hqe hXo hXl hYl hXa hYa hC hx12 hx1 hx2 hbk
  have hji:(0:Int)<=(j:Int):=by omega
  have hjc:(j:Int)<=(lc:Int):=by omega
  have hjo:(j:Int)<=(ln:Int):=by omega
  have BXw6:Hid (cW w6 r3 h (Sl a1 m1 c1) (Sl b1 m2 d1) k L O):=X6.out.1.1.1
  have HVHw6:Hid (h<=w6.heap.size):=LEH.out X6.out.1.1.2.2
  go_upto_region 9 with fail
  try rw[hje]
  clear hje
  go_cut[10,11] (fun s t wx=>Hid (∃(r:Nat) (a9:Option Addr) (c9:Nat) (b9:Option Addr) (d9:Nat) (ca:Option Addr) (cc:Nat),s=.pointer (some ⟨r,0,none⟩)/\t=Sl ca j cc/\cW wx r h (Sl a9 x1 c9) (Sl b9 x2 d9) k1 G1 Q1/\IL wx h (Sl ca j cc) C1/\Below w6.heap.size w6 wx))
  case first=>
   have E0':Hid (Below w6.heap.size w6 w6.drew):=⟨rfl,rfl,rfl,Nf _,fun _ _=>rfl⟩
   have hHr:Hid (r3<w6.heap.size):=BXw6.out.1.2.2
   have HVH:=HVHw6
   have hHd:Hid (w6.drew.heap.size=w6.heap.size):=rfl
   refine wp_region_held_drew (S:=ec r3 0 [Ii Jj k.day,(Sl a1 m1 c1),(Sl b1 m2 d1),Ii Jj k.inn,Ii Jj k.out,Ii Jj k.posted,Ii Jj k.missed]) (by kernel_rfl) BXw6.out.nms (fun hHeld=>?_)
   have BE:Hid (∀W,Below w6.heap.size w6 W->w6.heap.size<=W.heap.size):=fun W hb=>hb.size
   generalize w6.drew=wd at E0' hHeld hHd ⊢
   have E0:=E0'
   clear E0'
   refine wpAnyH_take (i:=0) (v:=?_) rfl (by kernel_rfl) (by kernel_rfl) (by kernel_rfl) (fun _ _ _ h=>h) (Or.inl ⟨by rfl,?_⟩) hHeld ?_
   rotate_left
   ·intro wq hSw
    have y0:=hSw.2 0 _ rfl
    have y1:=hSw.2 1 _ rfl
    have y2:=hSw.2 2 _ rfl
    have y3:=hSw.2 3 _ rfl
    have y4:=hSw.2 4 _ rfl
    have y5:=hSw.2 5 _ rfl
    have y6:=hSw.2 6 _ rfl
    simp only[Nat.zero_add] at y0 y1 y2 y3 y4 y5 y6
    go_simp
    all_goals (with_reducible rfl)
   (try simp only[Act.put,La,Lz,Lc])
   refine wpAnyH_take (i:=1) (v:=?_) rfl (by kernel_rfl) (by kernel_rfl) (by kernel_rfl) (fun _ _ _ h=>h) (Or.inl ⟨by rfl,?_⟩) hHeld ?_
   rotate_left
   ·intro wq hSw
    go_simp
    all_goals (with_reducible rfl)
   (try simp only[Act.put,La,Lz,Lc])
   refine wpAnyH_take (i:=2) (v:=?_) rfl (by kernel_rfl) (by kernel_rfl) (by kernel_rfl) (fun _ _ _ h=>h) (Or.inl ⟨by rfl,?_⟩) hHeld ?_
   rotate_left
   ·intro wq hSw
    go_simp
    all_goals (with_reducible rfl)
   (try simp only[Act.put,La,Lz,Lc])
   refine wpAnyH_take (i:=3) (v:=?_) rfl (by kernel_rfl) (by kernel_rfl) (by kernel_rfl) (fun _ _ _ h=>h) (Or.inl ⟨by rfl,?_⟩) hHeld ?_
   rotate_left
   ·intro wq hSw
    go_simp
    all_goals (with_reducible rfl)
   (try simp only[Act.put,La,Lz,Lc])
   refine wpAnyH_ready (rs:=[4,8]) (by kernel_rfl) (by simp) ?_
   refine AllReadyH.cons rfl (fun K' hK=>?_) ?_
   ·skip
    go_simp
    refine (IX.out wd E0.out).mono ?_
    rintro e w5 ⟨a9,c9,b9,d9,ca,cc,rfl,A5,Q5,I5,B5⟩
    dsimp only at A5 Q5 I5
    have E5:=aa ((E0.out).trans (B5.mono (E0.out).size))
    have hH5:ec r3 0 [Ii Jj k.day,(Sl a1 m1 c1),(Sl b1 m2 d1),Ii Jj k.inn,Ii Jj k.out,Ii Jj k.posted,Ii Jj k.missed] w5:=hHeld.below B5
    have hVh:h<=wd.heap.size:=by have:=HVH.out;have:=E0.out.size;omega
    have FA:Hid (∀r' W,W=w5.alloc (.cells #[Ii Jj k1.day,(Sl a9 x1 c9),(Sl b9 x2 d9),Ii Jj k1.inn,Ii Jj k1.out,Ii Jj k1.posted,Ii Jj k1.missed] 38)->r'=w5.heap.size->cW W r' h (Sl a9 x1 c9) (Sl b9 x2 d9) k1 G1 Q1/\IL W h (Sl ca j cc) C1/\Below w6.heap.size w6 W):=fun r' W hW hr=>by
     rw[hW,hr]
     have hb:Below w5.heap.size w5 (w5.alloc (.cells #[Ii Jj k1.day,(Sl a9 x1 c9),(Sl b9 x2 d9),Ii Jj k1.inn,Ii Jj k1.out,Ii Jj k1.posted,Ii Jj k1.missed] 38)):=(Bf _ _).alloc (Nf _) _
     exact ⟨cW.new (k:=k1) A5 Q5 hVh,IL.mono (I5.kept hb) hVh,E5.out.trans (hb.mono E5.out.size)⟩
    clear A5 Q5 I5 B5 hHeld
    refine hK.out _ _ hH5 (fun hHeld=>?_)
    clear hK hH5
    (try simp only[Act.put,La,Lz,Lc])
    refine wpAnyH_take (i:=5) (v:=?_) rfl (by kernel_rfl) (by kernel_rfl) (by kernel_rfl) (fun _ _ _ h=>h) (Or.inl ⟨by rfl,?_⟩) hHeld ?_
    rotate_left
    ·intro wq hSw
     go_simp
     all_goals (with_reducible rfl)
    (try simp only[Act.put,La,Lz,Lc])
    refine wpAnyH_take (i:=6) (v:=?_) rfl (by kernel_rfl) (by kernel_rfl) (by kernel_rfl) (fun _ _ _ h=>h) (Or.inl ⟨by rfl,?_⟩) hHeld ?_
    rotate_left
    ·intro wq hSw
     go_simp
     all_goals (with_reducible rfl)
    (try simp only[Act.put,La,Lz,Lc])
    refine wpAnyH_take (i:=7) (v:=?_) rfl (by kernel_rfl) (by kernel_rfl) (by kernel_rfl) (fun _ _ _ h=>h) (Or.inl ⟨by rfl,?_⟩) hHeld ?_
    rotate_left
    ·intro wq hSw
     go_simp
     all_goals (with_reducible rfl)
    (try simp only[Act.put,La,Lz,Lc])
    refine wpAnyH_ready (rs:=[8]) (by kernel_rfl) (by simp) ?_
    refine AllReadyH.cons rfl (fun K' hK=>?_) AllReadyH.nil
    go_simp
    refine hK.out _ _ (hHeld.alloc _) (fun hHeld=>?_)
    clear hK
    (try simp only[Act.put,La,Lz,Lc])
    refine wpAnyH_ready (rs:=[9]) (by kernel_rfl) (by simp) ?_
    refine AllReadyH.cons rfl (fun K' hK=>?_) AllReadyH.nil
    go_simp
    refine hK.out _ _ ?_ (fun hHeld=>?_)
    ·exact ec.realloc hHeld (by have:=hHr.out;have:=E5.out.size;omega)
    clear hK
    (try simp only[Act.put,La,Lz,Lc])
    refine wpAnyH_ready (rs:=[10]) (by kernel_rfl) (by simp) ?_
    refine AllReadyH.cons rfl (fun K' hK=>?_) AllReadyH.nil
    go_simp
    refine hK.out _ _ hHeld (fun hHeld=>?_)
    clear hK hHeld
    (try simp only[Act.put,La,Lz,Lc])
    refine wpAnyH_done (by kernel_rfl) ?_ _
    go_wp2_with fail
    go_meet
    exact aa ⟨w5.heap.size,a9,c9,b9,d9,ca,cc,rfl,rfl,FA.out _ _ rfl rfl⟩
   refine AllReadyH.cons rfl (fun K' hK=>?_) AllReadyH.nil
   go_simp
   obtain ⟨V5,hV5,XB⟩:∃W,W=wd.alloc (.cells #[Ii Jj 0,Sl none 0 0,Sl none 0 0,Ii Jj 0,Ii Jj 0,Ii Jj 0,Ii Jj 0] 38)/\Hid (ak W wd.heap.size (Ii Jj 0) (Sl none 0 0) (Sl none 0 0) (Ii Jj 0) (Ii Jj 0) (Ii Jj 0) (Ii Jj 0)/\Below w6.heap.size w6 W/\W.heap.size=wd.heap.size+1):=⟨_,rfl,ak.new wd _ _ _ _ _ _ _ 38,E0.out.alloc E0.out.size _,by simp⟩
   have HV5:=aa hV5
   have hH5:ec r3 0 [Ii Jj k.day,(Sl a1 m1 c1),(Sl b1 m2 d1),Ii Jj k.inn,Ii Jj k.out,Ii Jj k.posted,Ii Jj k.missed] V5:=by rw[hV5];exact hHeld.alloc _
   refine hK.out _ _ (by rw[←HV5.out];exact hH5) (fun hHeld=>?_)
   clear hK hHeld hV5
   rw[←HV5.out]
   have hHeld:=hH5
   clear hH5 HV5
   obtain ⟨r9,hr9⟩:∃r,wd.heap.size=r:=⟨_,rfl⟩
   try rw[hr9]
   rw[hr9] at XB
   have HR9:Hid (w6.heap.size<=r9):=by show _<=_;rw[←hr9];exact E0.out.size
   clear hr9
   (try simp only[Act.put,La,Lz,Lc])
   refine wpAnyH_ready (rs:=[4]) (by kernel_rfl) (by simp) ?_
   refine AllReadyH.cons rfl (fun K' hK=>?_) AllReadyH.nil
   go_simp
   refine (IX.out V5 XB.out.2.1).mono ?_
   rintro e w5 ⟨a9,c9,b9,d9,ca,cc,rfl,A5,Q5,I5,B5⟩
   dsimp only at A5 Q5 I5
   have E5:=aa ((XB.out.2.1).trans (B5.mono (XB.out.2.1).size))
   have hH5:ec r3 0 [Ii Jj k.day,(Sl a1 m1 c1),(Sl b1 m2 d1),Ii Jj k.inn,Ii Jj k.out,Ii Jj k.posted,Ii Jj k.missed] w5:=hHeld.below B5
   have hVh:h<=V5.heap.size:=by have:=HVH.out;have:=XB.out.2.1.size;omega
   have J5:=aa (XB.out.1.kept B5 XB.out.1.2.2)
   have hr9:Hid (w6.heap.size<=r9):=HR9.out
   have FA:Hid (cW (dI w5 r9 k1 (Sl a9 x1 c9) (Sl b9 x2 d9)) r9 h (Sl a9 x1 c9) (Sl b9 x2 d9) k1 G1 Q1/\IL (dI w5 r9 k1 (Sl a9 x1 c9) (Sl b9 x2 d9)) h (Sl ca j cc) C1/\Below w6.heap.size w6 (dI w5 r9 k1 (Sl a9 x1 c9) (Sl b9 x2 d9))):=by
    have g:=dP w5 r9 k1 (Sl a9 x1 c9) (Sl b9 x2 d9)
    have lt:∀q,V5.heap.size<=q->q≠r9:=fun q hq=>by have:=XB.out.1.2.2;omega
    exact ⟨⟨(((((((J5.out.set0 _).set1 _).set2 _).set3 _).set4 _).set5 _).set6 _),AL.mono (aO A5 g (fun q hq=>lt q (World.ownsRow.lt A5 q hq).1)) hVh,ah.mono (aO Q5 g (fun q hq=>lt q (World.ownsRow.lt Q5 q hq).1)) hVh⟩,IL.mono (aO I5 g (fun q hq=>lt q (World.ownsRow.lt I5 q hq).1)) hVh,E5.out.grown g E5.out.size (fun q hq=>by have:=hr9.out;simp at hq;omega)⟩
   have hne:r9≠r3:=by have:=hH5.1;have:=hHr.out;have:=hr9.out;omega
   clear A5 Q5 I5 B5 hHeld
   refine hK.out _ _ hH5 (fun hHeld=>?_)
   clear hK hH5
   (try simp only[Act.put,La,Lz,Lc])
   refine wpAnyH_take (i:=5) (v:=?_) rfl (by kernel_rfl) (by kernel_rfl) (by kernel_rfl) (fun _ _ _ h=>h) (Or.inl ⟨by rfl,?_⟩) hHeld ?_
   rotate_left
   ·intro wq hSw
    go_simp
    all_goals (with_reducible rfl)
   (try simp only[Act.put,La,Lz,Lc])
   refine wpAnyH_take (i:=6) (v:=?_) rfl (by kernel_rfl) (by kernel_rfl) (by kernel_rfl) (fun _ _ _ h=>h) (Or.inl ⟨by rfl,?_⟩) hHeld ?_
   rotate_left
   ·intro wq hSw
    go_simp
    all_goals (with_reducible rfl)
   (try simp only[Act.put,La,Lz,Lc])
   refine wpAnyH_take (i:=7) (v:=?_) rfl (by kernel_rfl) (by kernel_rfl) (by kernel_rfl) (fun _ _ _ h=>h) (Or.inl ⟨by rfl,?_⟩) hHeld ?_
   rotate_left
   ·intro wq hSw
    go_simp
    all_goals (with_reducible rfl)
   (try simp only[Act.put,La,Lz,Lc])
   refine wpAnyH_ready (rs:=[9]) (by kernel_rfl) (by simp) ?_
   refine AllReadyH.cons rfl (fun K' hK=>?_) AllReadyH.nil
   obtain ⟨⟨z0,z1,z2,z3,z4,z5,z6⟩,zf,zz⟩:=J5.out
   go_simp
   refine hK.out _ _ ?_ (fun hHeld=>?_)
   ·exact ((((((hHeld.set hne _ _).set hne _ _).set hne _ _).set hne _ _).set hne _ _).set hne _ _).set hne _ _
   clear hK
   (try simp only[Act.put,La,Lz,Lc])
   refine wpAnyH_ready (rs:=[10]) (by kernel_rfl) (by simp) ?_
   refine AllReadyH.cons rfl (fun K' hK=>?_) AllReadyH.nil
   go_simp
   refine hK.out _ _ hHeld (fun hHeld=>?_)
   clear hK hHeld
   (try simp only[Act.put,La,Lz,Lc])
   refine wpAnyH_done (by kernel_rfl) ?_ _
   go_wp2_with fail
   go_meet
   exact aa ⟨r9,a9,c9,b9,d9,ca,cc,rfl,rfl,FA.out⟩
  obtain ⟨w8,hw8⟩:∃V,V=wc:=⟨_,rfl⟩
  subst hw8
  obtain ⟨r10,a4,c4,b4,d4,ca4,cc4,rfl,rfl,hb4,hi4,E8⟩:=hcut.out
  have X8:Hid (((cW w8 r3 h (Sl a1 m1 c1) (Sl b1 m2 d1) k L O/\dO w8 (some ⟨lg,0,none⟩) ln (eu l)/\Below h w w8)/\cW w8 r5 h (Sl a2 g1 c2) (Sl b2 g2 d2) kd G Q/\IL w8 h (Sl ca2 cn cc2) C)/\cW w8 r10 h (Sl a4 x1 c4) (Sl b4 x2 d4) k1 G1 Q1/\IL w8 h (Sl ca4 j cc4) C1):=by
   have y:(cW w6 r3 h (Sl a1 m1 c1) (Sl b1 m2 d1) k L O/\dO w6 (some ⟨lg,0,none⟩) ln (eu l)/\Below h w w6)/\cW w6 r5 h (Sl a2 g1 c2) (Sl b2 g2 d2) kd G Q/\IL w6 h (Sl ca2 cn cc2) C:=X6.out.1
   exact ⟨⟨⟨y.1.1.below E8,y.1.2.1.below E8,LEB.out y.1.2.2 E8⟩,y.2.1.below E8,y.2.2.kept E8⟩,hb4,hi4⟩
  clear hcut hb4 hi4 E8 X6 IX BXw6 HVHw6
  have BXw8:Hid (cW w8 r10 h (Sl a4 x1 c4) (Sl b4 x2 d4) k1 G1 Q1):=X8.out.2.1
  have HVHw8:Hid (h<=w8.heap.size):=LEH.out X8.out.1.1.2.2
  by_cases hcp:lc=j
  ·skip
   have hoe:j=ln:=by omega
   have e0:ln-j=0:=by omega
   have IY0:Hid (∀V (E:Below w8.heap.size w8 V) oa oc,Calls Pg 33 #[.agg #[Ii Jj k1.day,(Sl a4 x1 c4),(Sl b4 x2 d4),Ii Jj k1.inn,Ii Jj k1.out,Ii Jj k1.posted,Ii Jj k1.missed],Sl oa 0 oc] V fun e w'=>pu ⟨C2,G,Q,kd⟩ g1 g2 0 V e w'):=fun V E oa oc=>by
    have y:((cW V r3 h (Sl a1 m1 c1) (Sl b1 m2 d1) k L O/\dO V (some ⟨lg,0,none⟩) ln (eu l)/\Below h w V)/\cW V r5 h (Sl a2 g1 c2) (Sl b2 g2 d2) kd G Q/\IL V h (Sl ca2 cn cc2) C)/\cW V r10 h (Sl a4 x1 c4) (Sl b4 x2 d4) k1 G1 Q1/\IL V h (Sl ca4 j cc4) C1:=⟨⟨⟨X8.out.1.1.1.below E,X8.out.1.1.2.1.below E,LEB.out X8.out.1.1.2.2 E⟩,X8.out.1.2.1.below E,X8.out.1.2.2.kept E⟩,X8.out.2.1.below E,X8.out.2.2.kept E⟩
    have:=IY.out V a4 c4 b4 d4 oa oc y.2.1.2.1 y.2.1.2.2 ⟨by omega,Or.inl e0⟩ (HG.out.below (by rw[HH.out];exact y.1.1.2.2))
    rw[e0] at this
    exact this
   have hcp2:j=lc:=hcp.symm
   clear hcp e0
   subst hcp2
   subst hoe
   go_upto_region 10 with fail
   go_cut[12,13] (fun s t wx=>Hid (∃(r:Nat) (a9:Option Addr) (c9:Nat) (b9:Option Addr) (d9:Nat) (ca:Option Addr) (cc:Nat),s=.pointer (some ⟨r,0,none⟩)/\t=Sl ca 0 cc/\cW wx r h (Sl a9 g1 c9) (Sl b9 g2 d9) kd G Q/\IL wx h (Sl ca 0 cc) C2/\Below w8.heap.size w8 wx))
   case first=>
    have E0':Hid (Below w8.heap.size w8 w8.drew):=⟨rfl,rfl,rfl,Nf _,fun _ _=>rfl⟩
    have hHr:Hid (r10<w8.heap.size):=BXw8.out.1.2.2
    have HVH:=HVHw8
    have hHd:Hid (w8.drew.heap.size=w8.heap.size):=rfl
    refine wp_region_held_drew (S:=ec r10 0 [Ii Jj k1.day,(Sl a4 x1 c4),(Sl b4 x2 d4),Ii Jj k1.inn,Ii Jj k1.out,Ii Jj k1.posted,Ii Jj k1.missed]) (by kernel_rfl) BXw8.out.nms (fun hHeld=>?_)
    have BE:Hid (∀W,Below w8.heap.size w8 W->w8.heap.size<=W.heap.size):=fun W hb=>hb.size
    generalize w8.drew=wd at E0' hHeld hHd ⊢
    have E0:=E0'
    clear E0'
    refine wpAnyH_take (i:=0) (v:=?_) rfl (by kernel_rfl) (by kernel_rfl) (by kernel_rfl) (fun _ _ _ h=>h) (Or.inl ⟨by rfl,?_⟩) hHeld ?_
    rotate_left
    ·intro wq hSw
     have y0:=hSw.2 0 _ rfl
     have y1:=hSw.2 1 _ rfl
     have y2:=hSw.2 2 _ rfl
     have y3:=hSw.2 3 _ rfl
     have y4:=hSw.2 4 _ rfl
     have y5:=hSw.2 5 _ rfl
     have y6:=hSw.2 6 _ rfl
     simp only[Nat.zero_add] at y0 y1 y2 y3 y4 y5 y6
     go_simp
     all_goals (with_reducible rfl)
    (try simp only[Act.put,La,Lz,Lc])
    refine wpAnyH_take (i:=1) (v:=?_) rfl (by kernel_rfl) (by kernel_rfl) (by kernel_rfl) (fun _ _ _ h=>h) (Or.inl ⟨by rfl,?_⟩) hHeld ?_
    rotate_left
    ·intro wq hSw
     go_simp
     all_goals (with_reducible rfl)
    (try simp only[Act.put,La,Lz,Lc])
    refine wpAnyH_take (i:=2) (v:=?_) rfl (by kernel_rfl) (by kernel_rfl) (by kernel_rfl) (fun _ _ _ h=>h) (Or.inl ⟨by rfl,?_⟩) hHeld ?_
    rotate_left
    ·intro wq hSw
     go_simp
     all_goals (with_reducible rfl)
    (try simp only[Act.put,La,Lz,Lc])
    refine wpAnyH_take (i:=3) (v:=?_) rfl (by kernel_rfl) (by kernel_rfl) (by kernel_rfl) (fun _ _ _ h=>h) (Or.inl ⟨by rfl,?_⟩) hHeld ?_
    rotate_left
    ·intro wq hSw
     go_simp
     all_goals (with_reducible rfl)
    (try simp only[Act.put,La,Lz,Lc])
    refine wpAnyH_ready (rs:=[4,8]) (by kernel_rfl) (by simp) ?_
    refine AllReadyH.cons rfl (fun K' hK=>?_) ?_
    ·skip
     go_simp
     refine (IY0.out wd E0.out _ _).mono ?_
     rintro e w5 ⟨a9,c9,b9,d9,ca,cc,rfl,A5,Q5,I5,B5⟩
     dsimp only at A5 Q5 I5
     have E5:=aa ((E0.out).trans (B5.mono (E0.out).size))
     have hH5:ec r10 0 [Ii Jj k1.day,(Sl a4 x1 c4),(Sl b4 x2 d4),Ii Jj k1.inn,Ii Jj k1.out,Ii Jj k1.posted,Ii Jj k1.missed] w5:=hHeld.below B5
     have hVh:h<=wd.heap.size:=by have:=HVH.out;have:=E0.out.size;omega
     have FA:Hid (∀r' W,W=w5.alloc (.cells #[Ii Jj kd.day,(Sl a9 g1 c9),(Sl b9 g2 d9),Ii Jj kd.inn,Ii Jj kd.out,Ii Jj kd.posted,Ii Jj kd.missed] 38)->r'=w5.heap.size->cW W r' h (Sl a9 g1 c9) (Sl b9 g2 d9) kd G Q/\IL W h (Sl ca 0 cc) C2/\Below w8.heap.size w8 W):=fun r' W hW hr=>by
      rw[hW,hr]
      have hb:Below w5.heap.size w5 (w5.alloc (.cells #[Ii Jj kd.day,(Sl a9 g1 c9),(Sl b9 g2 d9),Ii Jj kd.inn,Ii Jj kd.out,Ii Jj kd.posted,Ii Jj kd.missed] 38)):=(Bf _ _).alloc (Nf _) _
      exact ⟨cW.new (k:=kd) A5 Q5 hVh,IL.mono (I5.kept hb) hVh,E5.out.trans (hb.mono E5.out.size)⟩
     clear A5 Q5 I5 B5 hHeld
     refine hK.out _ _ hH5 (fun hHeld=>?_)
     clear hK hH5
     (try simp only[Act.put,La,Lz,Lc])
     refine wpAnyH_take (i:=5) (v:=?_) rfl (by kernel_rfl) (by kernel_rfl) (by kernel_rfl) (fun _ _ _ h=>h) (Or.inl ⟨by rfl,?_⟩) hHeld ?_
     rotate_left
     ·intro wq hSw
      go_simp
      all_goals (with_reducible rfl)
     (try simp only[Act.put,La,Lz,Lc])
     refine wpAnyH_take (i:=6) (v:=?_) rfl (by kernel_rfl) (by kernel_rfl) (by kernel_rfl) (fun _ _ _ h=>h) (Or.inl ⟨by rfl,?_⟩) hHeld ?_
     rotate_left
     ·intro wq hSw
      go_simp
      all_goals (with_reducible rfl)
     (try simp only[Act.put,La,Lz,Lc])
     refine wpAnyH_take (i:=7) (v:=?_) rfl (by kernel_rfl) (by kernel_rfl) (by kernel_rfl) (fun _ _ _ h=>h) (Or.inl ⟨by rfl,?_⟩) hHeld ?_
     rotate_left
     ·intro wq hSw
      go_simp
      all_goals (with_reducible rfl)
     (try simp only[Act.put,La,Lz,Lc])
     refine wpAnyH_ready (rs:=[8]) (by kernel_rfl) (by simp) ?_
     refine AllReadyH.cons rfl (fun K' hK=>?_) AllReadyH.nil
     go_simp
     refine hK.out _ _ (hHeld.alloc _) (fun hHeld=>?_)
     clear hK
     (try simp only[Act.put,La,Lz,Lc])
     refine wpAnyH_ready (rs:=[9]) (by kernel_rfl) (by simp) ?_
     refine AllReadyH.cons rfl (fun K' hK=>?_) AllReadyH.nil
     go_simp
     refine hK.out _ _ ?_ (fun hHeld=>?_)
     ·exact ec.realloc hHeld (by have:=hHr.out;have:=E5.out.size;omega)
     clear hK
     (try simp only[Act.put,La,Lz,Lc])
     refine wpAnyH_ready (rs:=[10]) (by kernel_rfl) (by simp) ?_
     refine AllReadyH.cons rfl (fun K' hK=>?_) AllReadyH.nil
     go_simp
     refine hK.out _ _ hHeld (fun hHeld=>?_)
     clear hK hHeld
     (try simp only[Act.put,La,Lz,Lc])
     refine wpAnyH_done (by kernel_rfl) ?_ _
     go_wp2_with fail
     go_meet
     exact aa ⟨w5.heap.size,a9,c9,b9,d9,ca,cc,rfl,rfl,FA.out _ _ rfl rfl⟩
    refine AllReadyH.cons rfl (fun K' hK=>?_) AllReadyH.nil
    go_simp
    obtain ⟨V5,hV5,XB⟩:∃W,W=wd.alloc (.cells #[Ii Jj 0,Sl none 0 0,Sl none 0 0,Ii Jj 0,Ii Jj 0,Ii Jj 0,Ii Jj 0] 38)/\Hid (ak W wd.heap.size (Ii Jj 0) (Sl none 0 0) (Sl none 0 0) (Ii Jj 0) (Ii Jj 0) (Ii Jj 0) (Ii Jj 0)/\Below w8.heap.size w8 W/\W.heap.size=wd.heap.size+1):=⟨_,rfl,ak.new wd _ _ _ _ _ _ _ 38,E0.out.alloc E0.out.size _,by simp⟩
    have HV5:=aa hV5
    have hH5:ec r10 0 [Ii Jj k1.day,(Sl a4 x1 c4),(Sl b4 x2 d4),Ii Jj k1.inn,Ii Jj k1.out,Ii Jj k1.posted,Ii Jj k1.missed] V5:=by rw[hV5];exact hHeld.alloc _
    refine hK.out _ _ (by rw[←HV5.out];exact hH5) (fun hHeld=>?_)
    clear hK hHeld hV5
    rw[←HV5.out]
    have hHeld:=hH5
    clear hH5 HV5
    obtain ⟨r9,hr9⟩:∃r,wd.heap.size=r:=⟨_,rfl⟩
    try rw[hr9]
    rw[hr9] at XB
    have HR9:Hid (w8.heap.size<=r9):=by show _<=_;rw[←hr9];exact E0.out.size
    clear hr9
    (try simp only[Act.put,La,Lz,Lc])
    refine wpAnyH_ready (rs:=[4]) (by kernel_rfl) (by simp) ?_
    refine AllReadyH.cons rfl (fun K' hK=>?_) AllReadyH.nil
    go_simp
    refine (IY0.out V5 XB.out.2.1 _ _).mono ?_
    rintro e w5 ⟨a9,c9,b9,d9,ca,cc,rfl,A5,Q5,I5,B5⟩
    dsimp only at A5 Q5 I5
    have E5:=aa ((XB.out.2.1).trans (B5.mono (XB.out.2.1).size))
    have hH5:ec r10 0 [Ii Jj k1.day,(Sl a4 x1 c4),(Sl b4 x2 d4),Ii Jj k1.inn,Ii Jj k1.out,Ii Jj k1.posted,Ii Jj k1.missed] w5:=hHeld.below B5
    have hVh:h<=V5.heap.size:=by have:=HVH.out;have:=XB.out.2.1.size;omega
    have J5:=aa (XB.out.1.kept B5 XB.out.1.2.2)
    have hr9:Hid (w8.heap.size<=r9):=HR9.out
    have FA:Hid (cW (dI w5 r9 kd (Sl a9 g1 c9) (Sl b9 g2 d9)) r9 h (Sl a9 g1 c9) (Sl b9 g2 d9) kd G Q/\IL (dI w5 r9 kd (Sl a9 g1 c9) (Sl b9 g2 d9)) h (Sl ca 0 cc) C2/\Below w8.heap.size w8 (dI w5 r9 kd (Sl a9 g1 c9) (Sl b9 g2 d9))):=by
     have g:=dP w5 r9 kd (Sl a9 g1 c9) (Sl b9 g2 d9)
     have lt:∀q,V5.heap.size<=q->q≠r9:=fun q hq=>by have:=XB.out.1.2.2;omega
     exact ⟨⟨(((((((J5.out.set0 _).set1 _).set2 _).set3 _).set4 _).set5 _).set6 _),AL.mono (aO A5 g (fun q hq=>lt q (World.ownsRow.lt A5 q hq).1)) hVh,ah.mono (aO Q5 g (fun q hq=>lt q (World.ownsRow.lt Q5 q hq).1)) hVh⟩,IL.mono (aO I5 g (fun q hq=>lt q (World.ownsRow.lt I5 q hq).1)) hVh,E5.out.grown g E5.out.size (fun q hq=>by have:=hr9.out;simp at hq;omega)⟩
    have hne:r9≠r10:=by have:=hH5.1;have:=hHr.out;have:=hr9.out;omega
    clear A5 Q5 I5 B5 hHeld
    refine hK.out _ _ hH5 (fun hHeld=>?_)
    clear hK hH5
    (try simp only[Act.put,La,Lz,Lc])
    refine wpAnyH_take (i:=5) (v:=?_) rfl (by kernel_rfl) (by kernel_rfl) (by kernel_rfl) (fun _ _ _ h=>h) (Or.inl ⟨by rfl,?_⟩) hHeld ?_
    rotate_left
    ·intro wq hSw
     go_simp
     all_goals (with_reducible rfl)
    (try simp only[Act.put,La,Lz,Lc])
    refine wpAnyH_take (i:=6) (v:=?_) rfl (by kernel_rfl) (by kernel_rfl) (by kernel_rfl) (fun _ _ _ h=>h) (Or.inl ⟨by rfl,?_⟩) hHeld ?_
    rotate_left
    ·intro wq hSw
     go_simp
     all_goals (with_reducible rfl)
    (try simp only[Act.put,La,Lz,Lc])
    refine wpAnyH_take (i:=7) (v:=?_) rfl (by kernel_rfl) (by kernel_rfl) (by kernel_rfl) (fun _ _ _ h=>h) (Or.inl ⟨by rfl,?_⟩) hHeld ?_
    rotate_left
    ·intro wq hSw
     go_simp
     all_goals (with_reducible rfl)
    (try simp only[Act.put,La,Lz,Lc])
    refine wpAnyH_ready (rs:=[9]) (by kernel_rfl) (by simp) ?_
    refine AllReadyH.cons rfl (fun K' hK=>?_) AllReadyH.nil
    obtain ⟨⟨z0,z1,z2,z3,z4,z5,z6⟩,zf,zz⟩:=J5.out
    go_simp
    refine hK.out _ _ ?_ (fun hHeld=>?_)
    ·exact ((((((hHeld.set hne _ _).set hne _ _).set hne _ _).set hne _ _).set hne _ _).set hne _ _).set hne _ _
    clear hK
    (try simp only[Act.put,La,Lz,Lc])
    refine wpAnyH_ready (rs:=[10]) (by kernel_rfl) (by simp) ?_
    refine AllReadyH.cons rfl (fun K' hK=>?_) AllReadyH.nil
    go_simp
    refine hK.out _ _ hHeld (fun hHeld=>?_)
    clear hK hHeld
    (try simp only[Act.put,La,Lz,Lc])
    refine wpAnyH_done (by kernel_rfl) ?_ _
    go_wp2_with fail
    go_meet
    exact aa ⟨r9,a9,c9,b9,d9,ca,cc,rfl,rfl,FA.out⟩
   obtain ⟨w9,hw9⟩:∃V,V=wc:=⟨_,rfl⟩
   subst hw9
   obtain ⟨r12,a5,c5,b5,d5,ca5,cc5,rfl,rfl,hb5,hi5,E9⟩:=hcut.out
   have X9:Hid ((((cW w9 r3 h (Sl a1 m1 c1) (Sl b1 m2 d1) k L O/\dO w9 (some ⟨lg,0,none⟩) j (eu l)/\Below h w w9)/\cW w9 r5 h (Sl a2 g1 c2) (Sl b2 g2 d2) kd G Q/\IL w9 h (Sl ca2 cn cc2) C)/\cW w9 r10 h (Sl a4 x1 c4) (Sl b4 x2 d4) k1 G1 Q1/\IL w9 h (Sl ca4 j cc4) C1)/\cW w9 r12 h (Sl a5 g1 c5) (Sl b5 g2 d5) kd G Q/\IL w9 h (Sl ca5 0 cc5) C2):=by
    have y:((cW w8 r3 h (Sl a1 m1 c1) (Sl b1 m2 d1) k L O/\dO w8 (some ⟨lg,0,none⟩) j (eu l)/\Below h w w8)/\cW w8 r5 h (Sl a2 g1 c2) (Sl b2 g2 d2) kd G Q/\IL w8 h (Sl ca2 cn cc2) C)/\cW w8 r10 h (Sl a4 x1 c4) (Sl b4 x2 d4) k1 G1 Q1/\IL w8 h (Sl ca4 j cc4) C1:=X8.out
    exact ⟨⟨⟨⟨y.1.1.1.below E9,y.1.1.2.1.below E9,LEB.out y.1.1.2.2 E9⟩,y.1.2.1.below E9,y.1.2.2.kept E9⟩,y.2.1.below E9,y.2.2.kept E9⟩,hb5,hi5⟩
   clear hcut hb5 hi5 E9 X8 IY BXw8 HVHw8
   obtain ⟨⟨s0,s1,s2,s3,s4,s5,s6⟩,sf,sz⟩:=X9.out.2.1.1
   obtain ⟨⟨t0,t1,t2,t3,t4,t5,t6⟩,tf,tz⟩:=X9.out.1.1.2.1.1
   go_wp2_with fail
   refine (ga kd _ HLQ.out.1 HLQ.out.2.1 X9.out.2.1.2.1 X9.out.2.1.2.2 X9.out.1.1.2.1.2.1 X9.out.1.1.2.1.2.2).mono ?_
   rintro e wA ⟨rfl,BA⟩
   have XA_:Hid (IL wA h (Sl ca4 j cc4) C1/\IL wA h (Sl ca5 0 cc5) C2/\IL wA h (Sl ca2 cn cc2) C/\Below h w wA):=⟨X9.out.1.2.2.kept BA,X9.out.2.2.kept BA,X9.out.1.1.2.2.kept BA,LEB.out X9.out.1.1.1.2.2 BA⟩
   clear s0 s1 s2 s3 s4 s5 s6 sf sz
   clear t0 t1 t2 t3 t4 t5 t6 tf tz
   clear BA X9
   have N0:Hid (IL (wA.alloc (.cells #[] 2)) wA.heap.size (Sl (some ⟨wA.heap.size,0,none⟩) 0 0) []):=IL.empty wA _ (Nf _)
   have L4:Hid (∀q,(Value.slice ca4 j cc4).ownBlock=some q->q<wA.heap.size):=fun q hq=>(World.ownsRow.lt XA_.out.1 q hq).2
   have L5:Hid (∀q,(Value.slice ca5 0 cc5).ownBlock=some q->q<wA.heap.size):=fun q hq=>(World.ownsRow.lt XA_.out.2.1 q hq).2
   have L2:Hid (∀q,(Value.slice ca2 cn cc2).ownBlock=some q->q<wA.heap.size):=fun q hq=>(World.ownsRow.lt XA_.out.2.2.1 q hq).2
   have hAh:Hid (h<=wA.heap.size):=LEH.out XA_.out.2.2.2
   go_wp2_with (at_builtin;refine cE (by rfl) _ _ rfl wA.heap.size h _ _ [] C1 rfl rfl N0.out (World.ownsRow.alloc XA_.out.1 _) ?_ ?_ ?_)
   ·have:=HXL.out;simp;omega
   ·simp
   intro v10 w10 I10 gr10
   have hbk:∀q:Nat,(Value.slice (some ⟨wA.heap.size,0,none⟩) 0 0).ownBlock=some q->q=wA.heap.size:=fun q hq=>by simpa [Value.ownBlock] using hq.symm
   have J10:Hid (IL w10 h (Sl ca2 cn cc2) C/\IL w10 h (Sl ca5 0 cc5) C2/\Below h w w10/\IL w10 wA.heap.size v10 C1/\wA.heap.size<=w10.heap.size):=⟨IL.past (World.ownsRow.alloc XA_.out.2.2.1 _) gr10 (fun q h1 h2=>by have:=L2.out q h1;have:=hbk q h2;omega),IL.past (World.ownsRow.alloc XA_.out.2.1 _) gr10 (fun q h1 h2=>by have:=L5.out q h1;have:=hbk q h2;omega),(XA_.out.2.2.2.alloc hAh.out _).grown gr10 (by have:=hAh.out;simp;omega) (fun q hq=>by have:=hbk q hq;have:=hAh.out;omega),I10,Nat.le_trans (by simp) gr10.size⟩
   clear I10 gr10 XA_ N0 L4 hbk
   have L10:Hid (∀q,v10.ownBlock=some q->wA.heap.size<=q):=fun q hq=>(World.ownsRow.lt J10.out.2.2.2.1 q hq).1
   go_wp2_with (at_builtin;refine cE (by rfl) _ _ rfl wA.heap.size h _ _ C1 C2 rfl rfl J10.out.2.2.2.1 J10.out.2.1 ?_ ?_ ?_)
   ·have:=HXL.out;omega
   ·exact J10.out.2.2.2.2
   intro v11 w11 I11 gr11
   rw[←HC12.out] at I11
   have J11:Hid (IL w11 wA.heap.size v11 C/\IL w11 h (Sl ca2 cn cc2) C/\Below h w w11):=⟨I11,IL.past J10.out.1 gr11 (fun q h1 h2=>by have:=L2.out q h1;have:=L10.out q h2;omega),J10.out.2.2.1.grown gr11 (LEH.out J10.out.2.2.1) (fun q hq=>by have:=L10.out q hq;have:=hAh.out;omega)⟩
   clear I11 gr11 J10 L10 L2 L5
   go_wp2_with fail
   refine (dR _ _ _ _ C _ (by have:=HLQ.out;omega) J11.out.1 J11.out.2.1).mono ?_
   rintro e w12 ⟨rfl,B12⟩
   have FI:Hid (Below h w w12):=LEB.out J11.out.2.2 B12
   clear B12 J11
   go_wp2
   go_ret
   exact ⟨rfl,by rw[HH.out];exact FI.out⟩
  ·skip
   have IY1:Hid (∀V (E:Below w8.heap.size w8 V),Calls Pg 33 #[.agg #[Ii Jj k1.day,(Sl a4 x1 c4),(Sl b4 x2 d4),Ii Jj k1.inn,Ii Jj k1.out,Ii Jj k1.posted,Ii Jj k1.missed],Sl (some ⟨lg,j*14,none⟩) (ln-j) (lc-j)] V fun e w'=>pu ⟨C2,G,Q,kd⟩ g1 g2 (ln-j) V e w'):=fun V E=>by
    have y:((cW V r3 h (Sl a1 m1 c1) (Sl b1 m2 d1) k L O/\dO V (some ⟨lg,0,none⟩) ln (eu l)/\Below h w V)/\cW V r5 h (Sl a2 g1 c2) (Sl b2 g2 d2) kd G Q/\IL V h (Sl ca2 cn cc2) C)/\cW V r10 h (Sl a4 x1 c4) (Sl b4 x2 d4) k1 G1 Q1/\IL V h (Sl ca4 j cc4) C1:=⟨⟨⟨X8.out.1.1.1.below E,X8.out.1.1.2.1.below E,LEB.out X8.out.1.1.2.2 E⟩,X8.out.1.2.1.below E,X8.out.1.2.2.kept E⟩,X8.out.2.1.below E,X8.out.2.2.kept E⟩
    have hd:dO V (some ⟨lg,j*14,none⟩) (ln-j) (eu (l.drop j)):=by
     have h6:=y.1.1.2.1
     have h7:=HLO.out.2.2.2.2
     rw[←h7] at h6
     have:=h6.drop (k:=j) (by omega)
     rw[h7] at this
     exact this
    exact IY.out V a4 c4 b4 d4 _ _ y.2.1.2.1 y.2.1.2.2 hd (HG.out.below (by rw[HH.out];exact y.1.1.2.2))
   have hcp':¬((lc:Int)=(j:Int)):=by omega
   go_upto_region 10 with fail
   go_cut[12,13] (fun s t wx=>Hid (∃(r:Nat) (a9:Option Addr) (c9:Nat) (b9:Option Addr) (d9:Nat) (ca:Option Addr) (cc:Nat),s=.pointer (some ⟨r,0,none⟩)/\t=Sl ca (ln-j) cc/\cW wx r h (Sl a9 g1 c9) (Sl b9 g2 d9) kd G Q/\IL wx h (Sl ca (ln-j) cc) C2/\Below w8.heap.size w8 wx))
   case first=>
    have E0':Hid (Below w8.heap.size w8 w8.drew):=⟨rfl,rfl,rfl,Nf _,fun _ _=>rfl⟩
    have hHr:Hid (r10<w8.heap.size):=BXw8.out.1.2.2
    have HVH:=HVHw8
    have hHd:Hid (w8.drew.heap.size=w8.heap.size):=rfl
    refine wp_region_held_drew (S:=ec r10 0 [Ii Jj k1.day,(Sl a4 x1 c4),(Sl b4 x2 d4),Ii Jj k1.inn,Ii Jj k1.out,Ii Jj k1.posted,Ii Jj k1.missed]) (by kernel_rfl) BXw8.out.nms (fun hHeld=>?_)
    have BE:Hid (∀W,Below w8.heap.size w8 W->w8.heap.size<=W.heap.size):=fun W hb=>hb.size
    generalize w8.drew=wd at E0' hHeld hHd ⊢
    have E0:=E0'
    clear E0'
    refine wpAnyH_take (i:=0) (v:=?_) rfl (by kernel_rfl) (by kernel_rfl) (by kernel_rfl) (fun _ _ _ h=>h) (Or.inl ⟨by rfl,?_⟩) hHeld ?_
    rotate_left
    ·intro wq hSw
     have y0:=hSw.2 0 _ rfl
     have y1:=hSw.2 1 _ rfl
     have y2:=hSw.2 2 _ rfl
     have y3:=hSw.2 3 _ rfl
     have y4:=hSw.2 4 _ rfl
     have y5:=hSw.2 5 _ rfl
     have y6:=hSw.2 6 _ rfl
     simp only[Nat.zero_add] at y0 y1 y2 y3 y4 y5 y6
     go_simp
     all_goals (with_reducible rfl)
    (try simp only[Act.put,La,Lz,Lc])
    refine wpAnyH_take (i:=1) (v:=?_) rfl (by kernel_rfl) (by kernel_rfl) (by kernel_rfl) (fun _ _ _ h=>h) (Or.inl ⟨by rfl,?_⟩) hHeld ?_
    rotate_left
    ·intro wq hSw
     go_simp
     all_goals (with_reducible rfl)
    (try simp only[Act.put,La,Lz,Lc])
    refine wpAnyH_take (i:=2) (v:=?_) rfl (by kernel_rfl) (by kernel_rfl) (by kernel_rfl) (fun _ _ _ h=>h) (Or.inl ⟨by rfl,?_⟩) hHeld ?_
    rotate_left
    ·intro wq hSw
     go_simp
     all_goals (with_reducible rfl)
    (try simp only[Act.put,La,Lz,Lc])
    refine wpAnyH_take (i:=3) (v:=?_) rfl (by kernel_rfl) (by kernel_rfl) (by kernel_rfl) (fun _ _ _ h=>h) (Or.inl ⟨by rfl,?_⟩) hHeld ?_
    rotate_left
    ·intro wq hSw
     go_simp
     all_goals (with_reducible rfl)
    (try simp only[Act.put,La,Lz,Lc])
    refine wpAnyH_ready (rs:=[4,8]) (by kernel_rfl) (by simp) ?_
    refine AllReadyH.cons rfl (fun K' hK=>?_) ?_
    ·skip
     go_simp
     refine (IY1.out wd E0.out).mono ?_
     rintro e w5 ⟨a9,c9,b9,d9,ca,cc,rfl,A5,Q5,I5,B5⟩
     dsimp only at A5 Q5 I5
     have E5:=aa ((E0.out).trans (B5.mono (E0.out).size))
     have hH5:ec r10 0 [Ii Jj k1.day,(Sl a4 x1 c4),(Sl b4 x2 d4),Ii Jj k1.inn,Ii Jj k1.out,Ii Jj k1.posted,Ii Jj k1.missed] w5:=hHeld.below B5
     have hVh:h<=wd.heap.size:=by have:=HVH.out;have:=E0.out.size;omega
     have FA:Hid (∀r' W,W=w5.alloc (.cells #[Ii Jj kd.day,(Sl a9 g1 c9),(Sl b9 g2 d9),Ii Jj kd.inn,Ii Jj kd.out,Ii Jj kd.posted,Ii Jj kd.missed] 38)->r'=w5.heap.size->cW W r' h (Sl a9 g1 c9) (Sl b9 g2 d9) kd G Q/\IL W h (Sl ca (ln-j) cc) C2/\Below w8.heap.size w8 W):=fun r' W hW hr=>by
      rw[hW,hr]
      have hb:Below w5.heap.size w5 (w5.alloc (.cells #[Ii Jj kd.day,(Sl a9 g1 c9),(Sl b9 g2 d9),Ii Jj kd.inn,Ii Jj kd.out,Ii Jj kd.posted,Ii Jj kd.missed] 38)):=(Bf _ _).alloc (Nf _) _
      exact ⟨cW.new (k:=kd) A5 Q5 hVh,IL.mono (I5.kept hb) hVh,E5.out.trans (hb.mono E5.out.size)⟩
     clear A5 Q5 I5 B5 hHeld
     refine hK.out _ _ hH5 (fun hHeld=>?_)
     clear hK hH5
     (try simp only[Act.put,La,Lz,Lc])
     refine wpAnyH_take (i:=5) (v:=?_) rfl (by kernel_rfl) (by kernel_rfl) (by kernel_rfl) (fun _ _ _ h=>h) (Or.inl ⟨by rfl,?_⟩) hHeld ?_
     rotate_left
     ·intro wq hSw
      go_simp
      all_goals (with_reducible rfl)
     (try simp only[Act.put,La,Lz,Lc])
     refine wpAnyH_take (i:=6) (v:=?_) rfl (by kernel_rfl) (by kernel_rfl) (by kernel_rfl) (fun _ _ _ h=>h) (Or.inl ⟨by rfl,?_⟩) hHeld ?_
     rotate_left
     ·intro wq hSw
      go_simp
      all_goals (with_reducible rfl)
     (try simp only[Act.put,La,Lz,Lc])
     refine wpAnyH_take (i:=7) (v:=?_) rfl (by kernel_rfl) (by kernel_rfl) (by kernel_rfl) (fun _ _ _ h=>h) (Or.inl ⟨by rfl,?_⟩) hHeld ?_
     rotate_left
     ·intro wq hSw
      go_simp
      all_goals (with_reducible rfl)
     (try simp only[Act.put,La,Lz,Lc])
     refine wpAnyH_ready (rs:=[8]) (by kernel_rfl) (by simp) ?_
     refine AllReadyH.cons rfl (fun K' hK=>?_) AllReadyH.nil
     go_simp
     refine hK.out _ _ (hHeld.alloc _) (fun hHeld=>?_)
     clear hK
     (try simp only[Act.put,La,Lz,Lc])
     refine wpAnyH_ready (rs:=[9]) (by kernel_rfl) (by simp) ?_
     refine AllReadyH.cons rfl (fun K' hK=>?_) AllReadyH.nil
     go_simp
     refine hK.out _ _ ?_ (fun hHeld=>?_)
     ·exact ec.realloc hHeld (by have:=hHr.out;have:=E5.out.size;omega)
     clear hK
     (try simp only[Act.put,La,Lz,Lc])
     refine wpAnyH_ready (rs:=[10]) (by kernel_rfl) (by simp) ?_
     refine AllReadyH.cons rfl (fun K' hK=>?_) AllReadyH.nil
     go_simp
     refine hK.out _ _ hHeld (fun hHeld=>?_)
     clear hK hHeld
     (try simp only[Act.put,La,Lz,Lc])
     refine wpAnyH_done (by kernel_rfl) ?_ _
     go_wp2_with fail
     go_meet
     exact aa ⟨w5.heap.size,a9,c9,b9,d9,ca,cc,rfl,rfl,FA.out _ _ rfl rfl⟩
    refine AllReadyH.cons rfl (fun K' hK=>?_) AllReadyH.nil
    go_simp
    obtain ⟨V5,hV5,XB⟩:∃W,W=wd.alloc (.cells #[Ii Jj 0,Sl none 0 0,Sl none 0 0,Ii Jj 0,Ii Jj 0,Ii Jj 0,Ii Jj 0] 38)/\Hid (ak W wd.heap.size (Ii Jj 0) (Sl none 0 0) (Sl none 0 0) (Ii Jj 0) (Ii Jj 0) (Ii Jj 0) (Ii Jj 0)/\Below w8.heap.size w8 W/\W.heap.size=wd.heap.size+1):=⟨_,rfl,ak.new wd _ _ _ _ _ _ _ 38,E0.out.alloc E0.out.size _,by simp⟩
    have HV5:=aa hV5
    have hH5:ec r10 0 [Ii Jj k1.day,(Sl a4 x1 c4),(Sl b4 x2 d4),Ii Jj k1.inn,Ii Jj k1.out,Ii Jj k1.posted,Ii Jj k1.missed] V5:=by rw[hV5];exact hHeld.alloc _
    refine hK.out _ _ (by rw[←HV5.out];exact hH5) (fun hHeld=>?_)
    clear hK hHeld hV5
    rw[←HV5.out]
    have hHeld:=hH5
    clear hH5 HV5
    obtain ⟨r9,hr9⟩:∃r,wd.heap.size=r:=⟨_,rfl⟩
    try rw[hr9]
    rw[hr9] at XB
    have HR9:Hid (w8.heap.size<=r9):=by show _<=_;rw[←hr9];exact E0.out.size
    clear hr9
    (try simp only[Act.put,La,Lz,Lc])
    refine wpAnyH_ready (rs:=[4]) (by kernel_rfl) (by simp) ?_
    refine AllReadyH.cons rfl (fun K' hK=>?_) AllReadyH.nil
    go_simp
    refine (IY1.out V5 XB.out.2.1).mono ?_
    rintro e w5 ⟨a9,c9,b9,d9,ca,cc,rfl,A5,Q5,I5,B5⟩
    dsimp only at A5 Q5 I5
    have E5:=aa ((XB.out.2.1).trans (B5.mono (XB.out.2.1).size))
    have hH5:ec r10 0 [Ii Jj k1.day,(Sl a4 x1 c4),(Sl b4 x2 d4),Ii Jj k1.inn,Ii Jj k1.out,Ii Jj k1.posted,Ii Jj k1.missed] w5:=hHeld.below B5
    have hVh:h<=V5.heap.size:=by have:=HVH.out;have:=XB.out.2.1.size;omega
    have J5:=aa (XB.out.1.kept B5 XB.out.1.2.2)
    have hr9:Hid (w8.heap.size<=r9):=HR9.out
    have FA:Hid (cW (dI w5 r9 kd (Sl a9 g1 c9) (Sl b9 g2 d9)) r9 h (Sl a9 g1 c9) (Sl b9 g2 d9) kd G Q/\IL (dI w5 r9 kd (Sl a9 g1 c9) (Sl b9 g2 d9)) h (Sl ca (ln-j) cc) C2/\Below w8.heap.size w8 (dI w5 r9 kd (Sl a9 g1 c9) (Sl b9 g2 d9))):=by
     have g:=dP w5 r9 kd (Sl a9 g1 c9) (Sl b9 g2 d9)
     have lt:∀q,V5.heap.size<=q->q≠r9:=fun q hq=>by have:=XB.out.1.2.2;omega
     exact ⟨⟨(((((((J5.out.set0 _).set1 _).set2 _).set3 _).set4 _).set5 _).set6 _),AL.mono (aO A5 g (fun q hq=>lt q (World.ownsRow.lt A5 q hq).1)) hVh,ah.mono (aO Q5 g (fun q hq=>lt q (World.ownsRow.lt Q5 q hq).1)) hVh⟩,IL.mono (aO I5 g (fun q hq=>lt q (World.ownsRow.lt I5 q hq).1)) hVh,E5.out.grown g E5.out.size (fun q hq=>by have:=hr9.out;simp at hq;omega)⟩
    have hne:r9≠r10:=by have:=hH5.1;have:=hHr.out;have:=hr9.out;omega
    clear A5 Q5 I5 B5 hHeld
    refine hK.out _ _ hH5 (fun hHeld=>?_)
    clear hK hH5
    (try simp only[Act.put,La,Lz,Lc])
    refine wpAnyH_take (i:=5) (v:=?_) rfl (by kernel_rfl) (by kernel_rfl) (by kernel_rfl) (fun _ _ _ h=>h) (Or.inl ⟨by rfl,?_⟩) hHeld ?_
    rotate_left
    ·intro wq hSw
     go_simp
     all_goals (with_reducible rfl)
    (try simp only[Act.put,La,Lz,Lc])
    refine wpAnyH_take (i:=6) (v:=?_) rfl (by kernel_rfl) (by kernel_rfl) (by kernel_rfl) (fun _ _ _ h=>h) (Or.inl ⟨by rfl,?_⟩) hHeld ?_
    rotate_left
    ·intro wq hSw
     go_simp
     all_goals (with_reducible rfl)
    (try simp only[Act.put,La,Lz,Lc])
    refine wpAnyH_take (i:=7) (v:=?_) rfl (by kernel_rfl) (by kernel_rfl) (by kernel_rfl) (fun _ _ _ h=>h) (Or.inl ⟨by rfl,?_⟩) hHeld ?_
    rotate_left
    ·intro wq hSw
     go_simp
     all_goals (with_reducible rfl)
    (try simp only[Act.put,La,Lz,Lc])
    refine wpAnyH_ready (rs:=[9]) (by kernel_rfl) (by simp) ?_
    refine AllReadyH.cons rfl (fun K' hK=>?_) AllReadyH.nil
    obtain ⟨⟨z0,z1,z2,z3,z4,z5,z6⟩,zf,zz⟩:=J5.out
    go_simp
    refine hK.out _ _ ?_ (fun hHeld=>?_)
    ·exact ((((((hHeld.set hne _ _).set hne _ _).set hne _ _).set hne _ _).set hne _ _).set hne _ _).set hne _ _
    clear hK
    (try simp only[Act.put,La,Lz,Lc])
    refine wpAnyH_ready (rs:=[10]) (by kernel_rfl) (by simp) ?_
    refine AllReadyH.cons rfl (fun K' hK=>?_) AllReadyH.nil
    go_simp
    refine hK.out _ _ hHeld (fun hHeld=>?_)
    clear hK hHeld
    (try simp only[Act.put,La,Lz,Lc])
    refine wpAnyH_done (by kernel_rfl) ?_ _
    go_wp2_with fail
    go_meet
    exact aa ⟨r9,a9,c9,b9,d9,ca,cc,rfl,rfl,FA.out⟩
   obtain ⟨w9,hw9⟩:∃V,V=wc:=⟨_,rfl⟩
   subst hw9
   obtain ⟨r12,a5,c5,b5,d5,ca5,cc5,rfl,rfl,hb5,hi5,E9⟩:=hcut.out
   have X9:Hid ((((cW w9 r3 h (Sl a1 m1 c1) (Sl b1 m2 d1) k L O/\dO w9 (some ⟨lg,0,none⟩) ln (eu l)/\Below h w w9)/\cW w9 r5 h (Sl a2 g1 c2) (Sl b2 g2 d2) kd G Q/\IL w9 h (Sl ca2 cn cc2) C)/\cW w9 r10 h (Sl a4 x1 c4) (Sl b4 x2 d4) k1 G1 Q1/\IL w9 h (Sl ca4 j cc4) C1)/\cW w9 r12 h (Sl a5 g1 c5) (Sl b5 g2 d5) kd G Q/\IL w9 h (Sl ca5 (ln-j) cc5) C2):=by
    have y:((cW w8 r3 h (Sl a1 m1 c1) (Sl b1 m2 d1) k L O/\dO w8 (some ⟨lg,0,none⟩) ln (eu l)/\Below h w w8)/\cW w8 r5 h (Sl a2 g1 c2) (Sl b2 g2 d2) kd G Q/\IL w8 h (Sl ca2 cn cc2) C)/\cW w8 r10 h (Sl a4 x1 c4) (Sl b4 x2 d4) k1 G1 Q1/\IL w8 h (Sl ca4 j cc4) C1:=X8.out
    exact ⟨⟨⟨⟨y.1.1.1.below E9,y.1.1.2.1.below E9,LEB.out y.1.1.2.2 E9⟩,y.1.2.1.below E9,y.1.2.2.kept E9⟩,y.2.1.below E9,y.2.2.kept E9⟩,hb5,hi5⟩
   clear hcut hb5 hi5 E9 X8 IY BXw8 HVHw8
   obtain ⟨⟨s0,s1,s2,s3,s4,s5,s6⟩,sf,sz⟩:=X9.out.2.1.1
   obtain ⟨⟨t0,t1,t2,t3,t4,t5,t6⟩,tf,tz⟩:=X9.out.1.1.2.1.1
   go_wp2_with fail
   refine (ga kd _ HLQ.out.1 HLQ.out.2.1 X9.out.2.1.2.1 X9.out.2.1.2.2 X9.out.1.1.2.1.2.1 X9.out.1.1.2.1.2.2).mono ?_
   rintro e wA ⟨rfl,BA⟩
   have XA_:Hid (IL wA h (Sl ca4 j cc4) C1/\IL wA h (Sl ca5 (ln-j) cc5) C2/\IL wA h (Sl ca2 cn cc2) C/\Below h w wA):=⟨X9.out.1.2.2.kept BA,X9.out.2.2.kept BA,X9.out.1.1.2.2.kept BA,LEB.out X9.out.1.1.1.2.2 BA⟩
   clear s0 s1 s2 s3 s4 s5 s6 sf sz
   clear t0 t1 t2 t3 t4 t5 t6 tf tz
   clear BA X9
   have N0:Hid (IL (wA.alloc (.cells #[] 2)) wA.heap.size (Sl (some ⟨wA.heap.size,0,none⟩) 0 0) []):=IL.empty wA _ (Nf _)
   have L4:Hid (∀q,(Value.slice ca4 j cc4).ownBlock=some q->q<wA.heap.size):=fun q hq=>(World.ownsRow.lt XA_.out.1 q hq).2
   have L5:Hid (∀q,(Value.slice ca5 (ln-j) cc5).ownBlock=some q->q<wA.heap.size):=fun q hq=>(World.ownsRow.lt XA_.out.2.1 q hq).2
   have L2:Hid (∀q,(Value.slice ca2 cn cc2).ownBlock=some q->q<wA.heap.size):=fun q hq=>(World.ownsRow.lt XA_.out.2.2.1 q hq).2
   have hAh:Hid (h<=wA.heap.size):=LEH.out XA_.out.2.2.2
   go_wp2_with (at_builtin;refine cE (by rfl) _ _ rfl wA.heap.size h _ _ [] C1 rfl rfl N0.out (World.ownsRow.alloc XA_.out.1 _) ?_ ?_ ?_)
   ·have:=HXL.out;simp;omega
   ·simp
   intro v10 w10 I10 gr10
   have hbk:∀q:Nat,(Value.slice (some ⟨wA.heap.size,0,none⟩) 0 0).ownBlock=some q->q=wA.heap.size:=fun q hq=>by simpa [Value.ownBlock] using hq.symm
   have J10:Hid (IL w10 h (Sl ca2 cn cc2) C/\IL w10 h (Sl ca5 (ln-j) cc5) C2/\Below h w w10/\IL w10 wA.heap.size v10 C1/\wA.heap.size<=w10.heap.size):=⟨IL.past (World.ownsRow.alloc XA_.out.2.2.1 _) gr10 (fun q h1 h2=>by have:=L2.out q h1;have:=hbk q h2;omega),IL.past (World.ownsRow.alloc XA_.out.2.1 _) gr10 (fun q h1 h2=>by have:=L5.out q h1;have:=hbk q h2;omega),(XA_.out.2.2.2.alloc hAh.out _).grown gr10 (by have:=hAh.out;simp;omega) (fun q hq=>by have:=hbk q hq;have:=hAh.out;omega),I10,Nat.le_trans (by simp) gr10.size⟩
   clear I10 gr10 XA_ N0 L4 hbk
   have L10:Hid (∀q,v10.ownBlock=some q->wA.heap.size<=q):=fun q hq=>(World.ownsRow.lt J10.out.2.2.2.1 q hq).1
   go_wp2_with (at_builtin;refine cE (by rfl) _ _ rfl wA.heap.size h _ _ C1 C2 rfl rfl J10.out.2.2.2.1 J10.out.2.1 ?_ ?_ ?_)
   ·have:=HXL.out;omega
   ·exact J10.out.2.2.2.2
   intro v11 w11 I11 gr11
   rw[←HC12.out] at I11
   have J11:Hid (IL w11 wA.heap.size v11 C/\IL w11 h (Sl ca2 cn cc2) C/\Below h w w11):=⟨I11,IL.past J10.out.1 gr11 (fun q h1 h2=>by have:=L2.out q h1;have:=L10.out q h2;omega),J10.out.2.2.1.grown gr11 (LEH.out J10.out.2.2.1) (fun q hq=>by have:=L10.out q hq;have:=hAh.out;omega)⟩
   clear I11 gr11 J10 L10 L2 L5
   go_wp2_with fail
   refine (dR _ _ _ _ C _ (by have:=HLQ.out;omega) J11.out.1 J11.out.2.1).mono ?_
   rintro e w12 ⟨rfl,B12⟩
   have FI:Hid (Below h w w12):=LEB.out J11.out.2.2 B12
   clear B12 J11
   go_wp2
   go_ret
   exact ⟨rfl,by rw[HH.out];exact FI.out⟩
end Go.Proofs.YtghkbhggopiajaaGreatDoor
