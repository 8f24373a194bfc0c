/- TotalOf of the specification. -/
import Derived.Test.YtghkbhggopiajaaGreatDoorOrosr
namespace Go.Proofs.YtghkbhggopiajaaGreatDoor
open Value renaming int → Ii,slice → Sl
open IntKind renaming i64 → Jj
open Nat renaming le_refl → Nf
open Go.Proofs.Tryz renaming prog → Pg
set_option maxHeartbeats 4000000
open Go.RowKit
set_option maxRecDepth 8000
theorem kj (a:Option Addr) (n c:Nat) (F:Nat->aj) (w:World) (h:Fo w a n F) (hR:al F n):
  Calls Pg 87 #[Sl a n c] w fun e w'=>e=.returned (Ii Jj (ef F n))/\Below w.heap.size w w':=by
 have H:=aa h
 have HR:=aa hR
 have hn:=hR.1
 clear h hR
 go_enter Tryz.func87,Tryz.ntmps87
 go_wp2
 go_loopw[3,4] (fun t i wr=>∃k:Nat,k<=n/\i=Ii Jj k/\t=Ii Jj (ef F k)/\Hid (Below w.heap.size w wr)) (fun _ i _=>n-(intOf i).toNat)
 case atStart=>exact ⟨0,Nat.zero_le _,rfl,rfl,Below.refl _ _⟩
 case round=>
  obtain ⟨k,hk,rfl,rfl,hB⟩:=hrel
  obtain ⟨t1,t2⟩:=fA HR.out k hk
  go_wp2_with fail
  refine (dr a n c F _ (H.out.below hB.out) HR.out).mono ?_
  rintro e w1 ⟨rfl,B1⟩
  have B1':=aa (hB.out.trans (B1.mono hB.out.size))
  clear B1
  by_cases hlt:k<n
  ·obtain ⟨b,o,rfl,hb0,hA0⟩:=H.out.acc hlt
   have hA:=hA0.of_cells (w':=w1) (fun q=>B1'.out.cell (p:=⟨b,q,none⟩) hb0)
   obtain ⟨c0,c1,c2,c3,c4,c5,c6,c7⟩:=hA
   obtain ⟨b1,b2⟩:=(HR.out.2.1 k hlt).2.2.2.2.2.1
   clear hA0
   go_wp2
   go_roundw
   case rel=>exact ⟨k+1,by omega,by go_num,rfl,B1'⟩
   case measure=>simp[intOf];omega
  ·have hkn:k=n:=by omega
   subst hkn
   have hd:decide (k<k)=false:=by simp
   go_wp2
   go_ret
   exact ⟨rfl,B1'.out⟩
open Go.RowKit
set_option maxRecDepth 8000
structure Bk where
 day:Int
 inn:Int
 out:Int
 posted:Int
 missed:Int
def aq (F:Nat->aj) (n:Nat) (O:Nat->au) (m:Nat) (k:Bk):Prop:=(0<=k.day/\k.day<=3000000)/\al F n/\bB O m/\(0<=k.inn/\k.inn<=1000000000000000)/\(0<=k.out/\k.out<=1000000000000000)/\(-1000000000000000<=k.posted/\k.posted<=1000000000000000)/\(0<=k.missed/\k.missed<=1000000000000000)/\ef F n=k.inn-k.out+k.posted
def gQ (w:World) (R:Nat) (f o:Value) (k:Bk):Prop:=w.cell? ⟨R,0,none⟩=some (Ii Jj k.day)/\w.cell? ⟨R,1,none⟩=some (f)/\w.cell? ⟨R,2,none⟩=some (o)/\w.cell? ⟨R,3,none⟩=some (Ii Jj k.inn)/\w.cell? ⟨R,4,none⟩=some (Ii Jj k.out)/\w.cell? ⟨R,5,none⟩=some (Ii Jj k.posted)/\w.cell? ⟨R,6,none⟩=some (Ii Jj k.missed)/\R<w.heap.size
theorem gQ.new (w:World) (f o:Value) (k:Bk) (T:Nat):gQ (w.alloc (.cells #[Ii Jj k.day,f,o,Ii Jj k.inn,Ii Jj k.out,Ii Jj k.posted,Ii Jj k.missed] T)) w.heap.size f o k:=by
 unfold gQ
 simp[go_sem]
theorem gQ.below {w w':World} {R:Nat} {f o:Value} {k:Bk} (h:gQ w R f o k) (hb:Below w.heap.size w w'):gQ w' R f o k:=by
 obtain ⟨h0,h1,h2,h3,h4,h5,h6,h7⟩:=h
 exact ⟨by rw[hb.cell (p:=⟨R,0,none⟩) h7];exact h0,by rw[hb.cell (p:=⟨R,1,none⟩) h7];exact h1,by rw[hb.cell (p:=⟨R,2,none⟩) h7];exact h2,by rw[hb.cell (p:=⟨R,3,none⟩) h7];exact h3,by rw[hb.cell (p:=⟨R,4,none⟩) h7];exact h4,by rw[hb.cell (p:=⟨R,5,none⟩) h7];exact h5,by rw[hb.cell (p:=⟨R,6,none⟩) h7];exact h6,Nat.lt_of_lt_of_le h7 hb.size⟩
def n8 (w:World) (R:Nat) (a b:Option Addr) (n c m d:Nat) (F:Nat->aj) (O:Nat->au) (k:Bk) (w0:World):Prop:=gQ w R (Sl a n c) (Sl b m d) k/\Fo w a n F/\aG w b m O/\Below w0.heap.size w0 w
theorem n8.below {w w' w0:World} {R:Nat} {a b:Option Addr} {n c m d:Nat} {F:Nat->aj} {O:Nat->au} {k:Bk} (h:n8 w R a b n c m d F O k w0) (hb:Below w.heap.size w w'):n8 w' R a b n c m d F O k w0:=
 ⟨h.1.below hb,h.2.1.below hb,h.2.2.1.below hb,h.2.2.2.trans (hb.mono h.2.2.2.size)⟩
theorem lF (a:Option Addr) (n c:Nat) (F:Nat->aj) (w:World) (h:Fo w a n F):
  Calls Pg 19 #[Sl a n c] w fun e w'=>af e (al F n)/\Below w.heap.size w w':=by
 by_cases hR:al F n
 ·exact (dt a n c F w h hR).mono fun e w' ⟨he,hb⟩=>⟨⟨true,he,fun _=>hR,fun e=>(by cases e)⟩,hb⟩
 ·exact (i7 a n c F w h hR).mono fun e w' ⟨he,hb⟩=>⟨⟨false,he,fun e=>(by cases e),fun _=>hR⟩,hb⟩
theorem lG (a:Option Addr) (n c:Nat) (F:Nat->aj) (w:World) (h:Fo w a n F):
  Calls Pg 16 #[Sl a n c] w fun e w'=>af e (al F n)/\Below w.heap.size w w':=by
 by_cases hR:al F n
 ·exact (dr a n c F w h hR).mono fun e w' ⟨he,hb⟩=>⟨⟨true,he,fun _=>hR,fun e=>(by cases e)⟩,hb⟩
 ·exact (eW a n c F w h hR).mono fun e w' ⟨he,hb⟩=>⟨⟨false,he,fun e=>(by cases e),fun _=>hR⟩,hb⟩
theorem n9 (n:Int) (w:World) (h:0<=n/\n<=1000000000000000):
  Calls Pg 79 #[Ii Jj n] w fun e w'=>e=.returned (.bool true)/\w'=w:=by
 obtain ⟨h1,h2⟩:=h
 go_enter Tryz.func79,Tryz.ntmps79
 go_wp2
 go_ret
 exact ⟨rfl,rfl⟩
theorem oM (n:Int) (w:World) (h:¬(0<=n/\n<=1000000000000000)):
  Calls Pg 79 #[Ii Jj n] w fun e w'=>e=.returned (.bool false)/\w'=w:=by
 by_cases h1:0<=n
 ·have h2:¬n<=1000000000000000:=by omega
  have h3:1000000000000000<n:=by omega
  clear h
  go_enter Tryz.func79,Tryz.ntmps79
  go_wp2
  go_ret
  exact ⟨rfl,rfl⟩
 ·have h2:n<0:=by omega
  clear h
  go_enter Tryz.func79,Tryz.ntmps79
  go_wp2
  go_ret
  exact ⟨rfl,rfl⟩
theorem ig (n:Int) (w:World):
  Calls Pg 79 #[Ii Jj n] w fun e w'=>af e (0<=n/\n<=1000000000000000)/\w'=w:=by
 by_cases h:0<=n/\n<=1000000000000000
 ·exact (n9 n w h).mono fun e w' ⟨he,hw⟩=>⟨⟨true,he,fun _=>h,fun e=>(by cases e)⟩,hw⟩
 ·exact (oM n w h).mono fun e w' ⟨he,hw⟩=>⟨⟨false,he,fun e=>(by cases e),fun _=>h⟩,hw⟩
theorem ck (a b:Option Addr) (n c m d:Nat) (F:Nat->aj) (O:Nat->au) (k:Bk) (w:World) (hF:Fo w a n F) (hO:aG w b m O):
  Calls Pg 31 #[.agg #[Ii Jj k.day,Sl a n c,Sl b m d,Ii Jj k.inn,Ii Jj k.out,Ii Jj k.posted,Ii Jj k.missed]] w fun e w'=>af e (aq F n O m k)/\Below w.heap.size w w':=by
 have X0:Hid (n8 (w.alloc (.cells #[Ii Jj k.day,Sl a n c,Sl b m d,Ii Jj k.inn,Ii Jj k.out,Ii Jj k.posted,Ii Jj k.missed] 38)) w.heap.size a b n c m d F O k w):=⟨gQ.new w _ _ k 38,hF.alloc _,hO.alloc _,(Below.refl _ _).alloc (Nf _) _⟩
 clear hF hO
 go_enter Tryz.func31,Tryz.ntmps31
 obtain ⟨⟨c0,c1,c2,c3,c4,c5,c6,hz⟩,xF,xO,hBw⟩:=X0.out
 go_wp2_with fail
 refine (cp k.day 0 3000000 _).mono ?_
 rintro e w1 ⟨⟨b1,rfl,hb1⟩,B1⟩
 subst B1
 clear c0 c1 c2 c3 c4 c5 c6 hz xF xO hBw
 cases b1 with
 | false=>
  have H1:=hb1.2 rfl
  clear hb1
  have HN:Hid (¬aq F n O m k):=fun h=>H1 (by unfold aq at h;first|exact h.2.1|exact h.2.2.1|omega)
  clear H1
  go_wp2
  go_ret
  exact ⟨af.no HN.out,X0.out.2.2.2⟩
 | true=>
 have H1:=hb1.1 rfl
 clear hb1
 obtain ⟨⟨c0,c1,c2,c3,c4,c5,c6,hz⟩,xF,xO,hBw⟩:=X0.out
 go_wp2_with fail
 refine (lG a n c F _ xF).mono ?_
 rintro e w2 ⟨⟨b2,rfl,hb2⟩,B2⟩
 have X2:=aa (X0.out.below B2)
 clear X0 B2 c0 c1 c2 c3 c4 c5 c6 hz xF xO hBw
 cases b2 with
 | false=>
  have H2:=hb2.2 rfl
  clear hb2
  have HN:Hid (¬aq F n O m k):=fun h=>H2 (by unfold aq at h;first|exact h.2.1|exact h.2.2.1|omega)
  clear H2
  go_wp2
  go_ret
  exact ⟨af.no HN.out,X2.out.2.2.2⟩
 | true=>
 have H2:=hb2.1 rfl
 clear hb2
 obtain ⟨⟨c0,c1,c2,c3,c4,c5,c6,hz⟩,xF,xO,hBw⟩:=X2.out
 go_wp2_with fail
 refine (js b m d O _ xO).mono ?_
 rintro e w3 ⟨⟨b3,rfl,hb3⟩,B3⟩
 have X3:=aa (X2.out.below B3)
 clear X2 B3 c0 c1 c2 c3 c4 c5 c6 hz xF xO hBw
 cases b3 with
 | false=>
  have H3:=hb3.2 rfl
  clear hb3
  have HN:Hid (¬aq F n O m k):=fun h=>H3 (by unfold aq at h;first|exact h.2.1|exact h.2.2.1|omega)
  clear H3
  go_wp2
  go_ret
  exact ⟨af.no HN.out,X3.out.2.2.2⟩
 | true=>
 have H3:=hb3.1 rfl
 clear hb3
 obtain ⟨⟨c0,c1,c2,c3,c4,c5,c6,hz⟩,xF,xO,hBw⟩:=X3.out
 go_wp2_with fail
 refine (cp k.inn 0 1000000000000000 _).mono ?_
 rintro e w4 ⟨⟨b4,rfl,hb4⟩,B4⟩
 subst B4
 clear c0 c1 c2 c3 c4 c5 c6 hz xF xO hBw
 cases b4 with
 | false=>
  have H4:=hb4.2 rfl
  clear hb4
  have HN:Hid (¬aq F n O m k):=fun h=>H4 (by unfold aq at h;first|exact h.2.1|exact h.2.2.1|omega)
  clear H4
  go_wp2
  go_ret
  exact ⟨af.no HN.out,X3.out.2.2.2⟩
 | true=>
 have H4:=hb4.1 rfl
 clear hb4
 obtain ⟨⟨c0,c1,c2,c3,c4,c5,c6,hz⟩,xF,xO,hBw⟩:=X3.out
 go_wp2_with fail
 refine (cp k.out 0 1000000000000000 _).mono ?_
 rintro e w5 ⟨⟨b5,rfl,hb5⟩,B5⟩
 subst B5
 clear c0 c1 c2 c3 c4 c5 c6 hz xF xO hBw
 cases b5 with
 | false=>
  have H5:=hb5.2 rfl
  clear hb5
  have HN:Hid (¬aq F n O m k):=fun h=>H5 (by unfold aq at h;first|exact h.2.1|exact h.2.2.1|omega)
  clear H5
  go_wp2
  go_ret
  exact ⟨af.no HN.out,X3.out.2.2.2⟩
 | true=>
 have H5:=hb5.1 rfl
 clear hb5
 obtain ⟨⟨c0,c1,c2,c3,c4,c5,c6,hz⟩,xF,xO,hBw⟩:=X3.out
 go_wp2_with fail
 refine (cp k.posted (-1000000000000000) 1000000000000000 _).mono ?_
 rintro e w6 ⟨⟨b6,rfl,hb6⟩,B6⟩
 subst B6
 clear c0 c1 c2 c3 c4 c5 c6 hz xF xO hBw
 cases b6 with
 | false=>
  have H6:=hb6.2 rfl
  clear hb6
  have HN:Hid (¬aq F n O m k):=fun h=>H6 (by unfold aq at h;first|exact h.2.1|exact h.2.2.1|omega)
  clear H6
  go_wp2
  go_ret
  exact ⟨af.no HN.out,X3.out.2.2.2⟩
 | true=>
 have H6:=hb6.1 rfl
 clear hb6
 obtain ⟨⟨c0,c1,c2,c3,c4,c5,c6,hz⟩,xF,xO,hBw⟩:=X3.out
 go_wp2_with fail
 refine (cp k.missed 0 1000000000000000 _).mono ?_
 rintro e w7 ⟨⟨b7,rfl,hb7⟩,B7⟩
 subst B7
 clear c0 c1 c2 c3 c4 c5 c6 hz xF xO hBw
 cases b7 with
 | false=>
  have H7:=hb7.2 rfl
  clear hb7
  have HN:Hid (¬aq F n O m k):=fun h=>H7 (by unfold aq at h;first|exact h.2.1|exact h.2.2.1|omega)
  clear H7
  go_wp2
  go_ret
  exact ⟨af.no HN.out,X3.out.2.2.2⟩
 | true=>
 have H7:=hb7.1 rfl
 clear hb7
 obtain ⟨⟨c0,c1,c2,c3,c4,c5,c6,hz⟩,xF,xO,hBw⟩:=X3.out
 have XF:=aa xF
 have XB:=aa hBw
 have hR:al F n:=H2
 have HR:=aa hR
 obtain ⟨t1,t2⟩:=fA hR n (Nf _)
 have n12:=hR.1
 have hov:∀v q,(bH w7 v).cell? ⟨w.heap.size,q,none⟩=w7.cell? ⟨w.heap.size,q,none⟩:=fun v q=>(ap w7 v).cell (p:=⟨w.heap.size,q,none⟩) hz
 clear xF xO hBw hR
 have FOV:Hid (∀v,Fo (bH w7 v) a n F):=fun v=>XF.out.below (ap w7 v)
 have KY:Hid (ef F n=k.inn-k.out+k.posted->aq F n O m k):=fun e=>⟨H1,H2,H3,H4,H5,H6,H7,e⟩
 have KN:Hid (aq F n O m k->ef F n=k.inn-k.out+k.posted):=fun h=>h.2.2.2.2.2.2.2
 obtain ⟨T,hT⟩:∃T,T=ef F n:=⟨_,rfl⟩
 have HT:=aa hT
 rw[←hT] at t1 t2 KY KN
 have CT:Hid (∀v,Calls Pg 87 #[Sl a n c] (bH w7 v) fun e w'=>e=.returned (Ii Jj T)/\Below (bH w7 v).heap.size (bH w7 v) w'):=fun v=>by rw[HT.out];exact kj a n c F _ (FOV.out v) HR.out
 clear hT
 by_cases e:T=k.inn-k.out+k.posted
 ·have eb:(T == k.inn-k.out+k.posted)=true:=by simp[e]
  clear e KN
  have KY':Hid (aq F n O m k):=KY.out (by simpa using eb)
  go_wp2
  refine aw (by kernel_rfl) (by kernel_rfl) ?_
  repeat (go_big_quiet_step ((first|(go_at_call 87;exact Calls.over_of (CT.out _)))))
  refine wpQuiet_nil ?_
  intro _ hw'
  obtain ⟨vq,hw''⟩:=hw'
  subst hw''
  go_wp2
  go_ret
  exact ⟨af.yes KY'.out,XB.out.trans ((ap w7 vq).mono XB.out.size)⟩
 ·have eb:(T == k.inn-k.out+k.posted)=false:=by simp[e]
  have KN':Hid (¬aq F n O m k):=fun h=>e (KN.out h)
  clear e
  go_wp2
  refine aw (by kernel_rfl) (by kernel_rfl) ?_
  repeat (go_big_quiet_step ((first|(go_at_call 87;exact Calls.over_of (CT.out _)))))
  refine wpQuiet_nil ?_
  intro _ hw'
  obtain ⟨vq,hw''⟩:=hw'
  subst hw''
  go_wp2
  go_ret
  exact ⟨af.no KN'.out,XB.out.trans ((ap w7 vq).mono XB.out.size)⟩
theorem cZ (a b:Option Addr) (n c m d:Nat) (F:Nat->aj) (O:Nat->au) (k:Bk) (w:World) (hF:Fo w a n F) (hO:aG w b m O):
  Calls Pg 27 #[.agg #[Ii Jj k.day,Sl a n c,Sl b m d,Ii Jj k.inn,Ii Jj k.out,Ii Jj k.posted,Ii Jj k.missed]] w fun e w'=>af e (aq F n O m k)/\Below w.heap.size w w':=by
 have X0:Hid (n8 (w.alloc (.cells #[Ii Jj k.day,Sl a n c,Sl b m d,Ii Jj k.inn,Ii Jj k.out,Ii Jj k.posted,Ii Jj k.missed] 38)) w.heap.size a b n c m d F O k w):=⟨gQ.new w _ _ k 38,hF.alloc _,hO.alloc _,(Below.refl _ _).alloc (Nf _) _⟩
 clear hF hO
 go_enter Tryz.func27,Tryz.ntmps27
 obtain ⟨⟨c0,c1,c2,c3,c4,c5,c6,hz⟩,xF,xO,hBw⟩:=X0.out
 go_wp2_with fail
 refine (pF k.day _).mono ?_
 rintro e w1 ⟨⟨b1,rfl,hb1⟩,B1⟩
 subst B1
 clear c0 c1 c2 c3 c4 c5 c6 hz xF xO hBw
 cases b1 with
 | false=>
  have H1:=hb1.2 rfl
  clear hb1
  have HN:Hid (¬aq F n O m k):=fun h=>H1 (by unfold aq at h;first|exact h.2.1|exact h.2.2.1|omega)
  clear H1
  go_wp2
  go_ret
  exact ⟨af.no HN.out,X0.out.2.2.2⟩
 | true=>
 have H1:=hb1.1 rfl
 clear hb1
 obtain ⟨⟨c0,c1,c2,c3,c4,c5,c6,hz⟩,xF,xO,hBw⟩:=X0.out
 go_wp2_with fail
 refine (lF a n c F _ xF).mono ?_
 rintro e w2 ⟨⟨b2,rfl,hb2⟩,B2⟩
 have X2:=aa (X0.out.below B2)
 clear X0 B2 c0 c1 c2 c3 c4 c5 c6 hz xF xO hBw
 cases b2 with
 | false=>
  have H2:=hb2.2 rfl
  clear hb2
  have HN:Hid (¬aq F n O m k):=fun h=>H2 (by unfold aq at h;first|exact h.2.1|exact h.2.2.1|omega)
  clear H2
  go_wp2
  go_ret
  exact ⟨af.no HN.out,X2.out.2.2.2⟩
 | true=>
 have H2:=hb2.1 rfl
 clear hb2
 obtain ⟨⟨c0,c1,c2,c3,c4,c5,c6,hz⟩,xF,xO,hBw⟩:=X2.out
 go_wp2_with fail
 refine (jt b m d O _ xO).mono ?_
 rintro e w3 ⟨⟨b3,rfl,hb3⟩,B3⟩
 have X3:=aa (X2.out.below B3)
 clear X2 B3 c0 c1 c2 c3 c4 c5 c6 hz xF xO hBw
 cases b3 with
 | false=>
  have H3:=hb3.2 rfl
  clear hb3
  have HN:Hid (¬aq F n O m k):=fun h=>H3 (by unfold aq at h;first|exact h.2.1|exact h.2.2.1|omega)
  clear H3
  go_wp2
  go_ret
  exact ⟨af.no HN.out,X3.out.2.2.2⟩
 | true=>
 have H3:=hb3.1 rfl
 clear hb3
 obtain ⟨⟨c0,c1,c2,c3,c4,c5,c6,hz⟩,xF,xO,hBw⟩:=X3.out
 go_wp2_with fail
 refine (ig k.inn _).mono ?_
 rintro e w4 ⟨⟨b4,rfl,hb4⟩,B4⟩
 subst B4
 clear c0 c1 c2 c3 c4 c5 c6 hz xF xO hBw
 cases b4 with
 | false=>
  have H4:=hb4.2 rfl
  clear hb4
  have HN:Hid (¬aq F n O m k):=fun h=>H4 (by unfold aq at h;first|exact h.2.1|exact h.2.2.1|omega)
  clear H4
  go_wp2
  go_ret
  exact ⟨af.no HN.out,X3.out.2.2.2⟩
 | true=>
 have H4:=hb4.1 rfl
 clear hb4
 obtain ⟨⟨c0,c1,c2,c3,c4,c5,c6,hz⟩,xF,xO,hBw⟩:=X3.out
 go_wp2_with fail
 refine (ig k.out _).mono ?_
 rintro e w5 ⟨⟨b5,rfl,hb5⟩,B5⟩
 subst B5
 clear c0 c1 c2 c3 c4 c5 c6 hz xF xO hBw
 cases b5 with
 | false=>
  have H5:=hb5.2 rfl
  clear hb5
  have HN:Hid (¬aq F n O m k):=fun h=>H5 (by unfold aq at h;first|exact h.2.1|exact h.2.2.1|omega)
  clear H5
  go_wp2
  go_ret
  exact ⟨af.no HN.out,X3.out.2.2.2⟩
 | true=>
 have H5:=hb5.1 rfl
 clear hb5
 obtain ⟨⟨c0,c1,c2,c3,c4,c5,c6,hz⟩,xF,xO,hBw⟩:=X3.out
 go_wp2_with fail
 refine (ig k.missed _).mono ?_
 rintro e w6 ⟨⟨b6,rfl,hb6⟩,B6⟩
 subst B6
 clear c0 c1 c2 c3 c4 c5 c6 hz xF xO hBw
 cases b6 with
 | false=>
  have H6:=hb6.2 rfl
  clear hb6
  have HN:Hid (¬aq F n O m k):=fun h=>H6 (by unfold aq at h;first|exact h.2.1|exact h.2.2.1|omega)
  clear H6
  go_wp2
  go_ret
  exact ⟨af.no HN.out,X3.out.2.2.2⟩
 | true=>
 have H6:=hb6.1 rfl
 clear hb6
 by_cases q7: -1000000000000000<=k.posted
 rotate_left
 ·have q7b:k.posted< -1000000000000000:=by omega
  obtain ⟨⟨c0,c1,c2,c3,c4,c5,c6,_⟩,_,_,hBw⟩:=X3.out
  have HBw:=aa hBw
  clear hBw
  go_wp2
  go_ret
  exact ⟨af.no (fun h=>by unfold aq at h;omega),HBw.out⟩
 by_cases q8:k.posted<=1000000000000000
 rotate_left
 ·have q8b:1000000000000000<k.posted:=by omega
  obtain ⟨⟨c0,c1,c2,c3,c4,c5,c6,_⟩,_,_,hBw⟩:=X3.out
  have HBw:=aa hBw
  clear hBw
  go_wp2
  go_ret
  exact ⟨af.no (fun h=>by unfold aq at h;omega),HBw.out⟩
 obtain ⟨⟨c0,c1,c2,c3,c4,c5,c6,hz⟩,xF,xO,hBw⟩:=X3.out
 have XF:=aa xF
 have XB:=aa hBw
 have hR:al F n:=H2
 have HR:=aa hR
 obtain ⟨t1,t2⟩:=fA hR n (Nf _)
 have n12:=hR.1
 have hov:∀v q,(bH w6 v).cell? ⟨w.heap.size,q,none⟩=w6.cell? ⟨w.heap.size,q,none⟩:=fun v q=>(ap w6 v).cell (p:=⟨w.heap.size,q,none⟩) hz
 clear xF xO hBw hR
 have FOV:Hid (∀v,Fo (bH w6 v) a n F):=fun v=>XF.out.below (ap w6 v)
 have KY:Hid (ef F n=k.inn-k.out+k.posted->aq F n O m k):=fun e=>⟨H1,H2,H3,H4,H5,⟨q7,q8⟩,H6,e⟩
 have KN:Hid (aq F n O m k->ef F n=k.inn-k.out+k.posted):=fun h=>h.2.2.2.2.2.2.2
 obtain ⟨T,hT⟩:∃T,T=ef F n:=⟨_,rfl⟩
 have HT:=aa hT
 rw[←hT] at t1 t2 KY KN
 have CT:Hid (∀v,Calls Pg 20 #[Sl a n c] (bH w6 v) fun e w'=>e=.returned (Ii Jj T)/\Below (bH w6 v).heap.size (bH w6 v) w'):=fun v=>by rw[HT.out];exact jX a n c F _ (FOV.out v) HR.out
 clear hT
 by_cases e:T=k.inn-k.out+k.posted
 ·have eb:(T == k.inn-k.out+k.posted)=true:=by simp[e]
  clear e KN
  have KY':Hid (aq F n O m k):=KY.out (by simpa using eb)
  go_wp2
  refine aw (by kernel_rfl) (by kernel_rfl) ?_
  repeat (go_big_quiet_step ((first|(go_at_call 20;exact Calls.over_of (CT.out _)))))
  refine wpQuiet_nil ?_
  intro _ hw'
  obtain ⟨vq,hw''⟩:=hw'
  subst hw''
  go_wp2
  go_ret
  exact ⟨af.yes KY'.out,XB.out.trans ((ap w6 vq).mono XB.out.size)⟩
 ·have eb:(T == k.inn-k.out+k.posted)=false:=by simp[e]
  have KN':Hid (¬aq F n O m k):=fun h=>e (KN.out h)
  clear e
  go_wp2
  refine aw (by kernel_rfl) (by kernel_rfl) ?_
  repeat (go_big_quiet_step ((first|(go_at_call 20;exact Calls.over_of (CT.out _)))))
  refine wpQuiet_nil ?_
  intro _ hw'
  obtain ⟨vq,hw''⟩:=hw'
  subst hw''
  go_wp2
  go_ret
  exact ⟨af.no KN'.out,XB.out.trans ((ap w6 vq).mono XB.out.size)⟩
open Go.ChangeShapes Go.WideShapes Go.ChangeAt Go.RowKit
set_option maxRecDepth 8000
open Go.ChangeShapes Go.WideShapes Go.ChangeAt Go.RowKit
set_option maxRecDepth 8000
def ak (w:World) (R:Nat) (v0 v1 v2 v3 v4 v5 v6:Value):Prop:=(w.cell? ⟨R,0,none⟩=some v0/\w.cell? ⟨R,1,none⟩=some v1/\w.cell? ⟨R,2,none⟩=some v2/\w.cell? ⟨R,3,none⟩=some v3/\w.cell? ⟨R,4,none⟩=some v4/\w.cell? ⟨R,5,none⟩=some v5/\w.cell? ⟨R,6,none⟩=some v6)/\(∀o,w.frozen? ⟨R,o,none⟩=false)/\R<w.heap.size
theorem ak.new (w:World) (v0 v1 v2 v3 v4 v5 v6:Value) (T:Nat):ak (w.alloc (.cells #[v0,v1,v2,v3,v4,v5,v6] T)) w.heap.size v0 v1 v2 v3 v4 v5 v6:=
 ⟨⟨by simp[go_sem],by simp[go_sem],by simp[go_sem],by simp[go_sem],by simp[go_sem],by simp[go_sem],by simp[go_sem]⟩,fun o=>by simp[go_sem],by simp⟩
theorem ak.kept {n₀:Nat} {w w':World} {R:Nat} {v0 v1 v2 v3 v4 v5 v6:Value} (h:ak w R v0 v1 v2 v3 v4 v5 v6) (hb:Below n₀ w w') (hR:R<n₀):ak w' R v0 v1 v2 v3 v4 v5 v6:=by
 obtain ⟨⟨h0,h1,h2,h3,h4,h5,h6⟩,hf,hz⟩:=h
 exact ⟨⟨by rw[hb.cell (p:=⟨R,0,none⟩) hR];exact h0,by rw[hb.cell (p:=⟨R,1,none⟩) hR];exact h1,by rw[hb.cell (p:=⟨R,2,none⟩) hR];exact h2,by rw[hb.cell (p:=⟨R,3,none⟩) hR];exact h3,by rw[hb.cell (p:=⟨R,4,none⟩) hR];exact h4,by rw[hb.cell (p:=⟨R,5,none⟩) hR];exact h5,by rw[hb.cell (p:=⟨R,6,none⟩) hR];exact h6⟩,fun o=>by rw[hb.frozen (p:=⟨R,o,none⟩) hR];exact hf o,Nat.lt_of_lt_of_le hz hb.size⟩
theorem ak.far {w:World} {R:Nat} {v0 v1 v2 v3 v4 v5 v6:Value} (h:ak w R v0 v1 v2 v3 v4 v5 v6) {Q:Nat} (hne:Q≠R) (q:Nat) (u:Value):ak (w.setCell ⟨Q,q,none⟩ u) R v0 v1 v2 v3 v4 v5 v6:=by
 obtain ⟨⟨h0,h1,h2,h3,h4,h5,h6⟩,hf,hz⟩:=h
 have o:∀j,(w.setCell ⟨Q,q,none⟩ u).cell? ⟨R,j,none⟩=w.cell? ⟨R,j,none⟩:=fun j=>World.cell?_setCell_other _ _ _ _ (by intro e;exact hne (congrArg Addr.block e))
 exact ⟨⟨by rw[o];exact h0,by rw[o];exact h1,by rw[o];exact h2,by rw[o];exact h3,by rw[o];exact h4,by rw[o];exact h5,by rw[o];exact h6⟩,fun o=>by rw[World.frozen?_setCell];exact hf o,by simpa [World.setCell] using hz⟩
theorem ak.set0 {w:World} {R:Nat} {v0 v1 v2 v3 v4 v5 v6:Value} (h:ak w R v0 v1 v2 v3 v4 v5 v6) (u:Value):ak (w.setCell ⟨R,0,none⟩ u) R u v1 v2 v3 v4 v5 v6:=by
 obtain ⟨⟨h0,h1,h2,h3,h4,h5,h6⟩,hf,hz⟩:=h
 have o:∀j,j≠0->(w.setCell ⟨R,0,none⟩ u).cell? ⟨R,j,none⟩=w.cell? ⟨R,j,none⟩:=fun j hj=>World.cell?_setCell_other _ _ _ _ (by intro e;exact hj (congrArg Addr.off e).symm)
 exact ⟨⟨World.cell?_setCell_same' _ _ _ (by rw[h0];rfl),by rw[o 1 (by omega)];exact h1,by rw[o 2 (by omega)];exact h2,by rw[o 3 (by omega)];exact h3,by rw[o 4 (by omega)];exact h4,by rw[o 5 (by omega)];exact h5,by rw[o 6 (by omega)];exact h6⟩,fun o=>by rw[World.frozen?_setCell];exact hf o,by simpa [World.setCell] using hz⟩
theorem ak.set1 {w:World} {R:Nat} {v0 v1 v2 v3 v4 v5 v6:Value} (h:ak w R v0 v1 v2 v3 v4 v5 v6) (u:Value):ak (w.setCell ⟨R,1,none⟩ u) R v0 u v2 v3 v4 v5 v6:=by
 obtain ⟨⟨h0,h1,h2,h3,h4,h5,h6⟩,hf,hz⟩:=h
 have o:∀j,j≠1->(w.setCell ⟨R,1,none⟩ u).cell? ⟨R,j,none⟩=w.cell? ⟨R,j,none⟩:=fun j hj=>World.cell?_setCell_other _ _ _ _ (by intro e;exact hj (congrArg Addr.off e).symm)
 exact ⟨⟨by rw[o 0 (by omega)];exact h0,World.cell?_setCell_same' _ _ _ (by rw[h1];rfl),by rw[o 2 (by omega)];exact h2,by rw[o 3 (by omega)];exact h3,by rw[o 4 (by omega)];exact h4,by rw[o 5 (by omega)];exact h5,by rw[o 6 (by omega)];exact h6⟩,fun o=>by rw[World.frozen?_setCell];exact hf o,by simpa [World.setCell] using hz⟩
theorem ak.set2 {w:World} {R:Nat} {v0 v1 v2 v3 v4 v5 v6:Value} (h:ak w R v0 v1 v2 v3 v4 v5 v6) (u:Value):ak (w.setCell ⟨R,2,none⟩ u) R v0 v1 u v3 v4 v5 v6:=by
 obtain ⟨⟨h0,h1,h2,h3,h4,h5,h6⟩,hf,hz⟩:=h
 have o:∀j,j≠2->(w.setCell ⟨R,2,none⟩ u).cell? ⟨R,j,none⟩=w.cell? ⟨R,j,none⟩:=fun j hj=>World.cell?_setCell_other _ _ _ _ (by intro e;exact hj (congrArg Addr.off e).symm)
 exact ⟨⟨by rw[o 0 (by omega)];exact h0,by rw[o 1 (by omega)];exact h1,World.cell?_setCell_same' _ _ _ (by rw[h2];rfl),by rw[o 3 (by omega)];exact h3,by rw[o 4 (by omega)];exact h4,by rw[o 5 (by omega)];exact h5,by rw[o 6 (by omega)];exact h6⟩,fun o=>by rw[World.frozen?_setCell];exact hf o,by simpa [World.setCell] using hz⟩
theorem ak.set3 {w:World} {R:Nat} {v0 v1 v2 v3 v4 v5 v6:Value} (h:ak w R v0 v1 v2 v3 v4 v5 v6) (u:Value):ak (w.setCell ⟨R,3,none⟩ u) R v0 v1 v2 u v4 v5 v6:=by
 obtain ⟨⟨h0,h1,h2,h3,h4,h5,h6⟩,hf,hz⟩:=h
 have o:∀j,j≠3->(w.setCell ⟨R,3,none⟩ u).cell? ⟨R,j,none⟩=w.cell? ⟨R,j,none⟩:=fun j hj=>World.cell?_setCell_other _ _ _ _ (by intro e;exact hj (congrArg Addr.off e).symm)
 exact ⟨⟨by rw[o 0 (by omega)];exact h0,by rw[o 1 (by omega)];exact h1,by rw[o 2 (by omega)];exact h2,World.cell?_setCell_same' _ _ _ (by rw[h3];rfl),by rw[o 4 (by omega)];exact h4,by rw[o 5 (by omega)];exact h5,by rw[o 6 (by omega)];exact h6⟩,fun o=>by rw[World.frozen?_setCell];exact hf o,by simpa [World.setCell] using hz⟩
theorem ak.set4 {w:World} {R:Nat} {v0 v1 v2 v3 v4 v5 v6:Value} (h:ak w R v0 v1 v2 v3 v4 v5 v6) (u:Value):ak (w.setCell ⟨R,4,none⟩ u) R v0 v1 v2 v3 u v5 v6:=by
 obtain ⟨⟨h0,h1,h2,h3,h4,h5,h6⟩,hf,hz⟩:=h
 have o:∀j,j≠4->(w.setCell ⟨R,4,none⟩ u).cell? ⟨R,j,none⟩=w.cell? ⟨R,j,none⟩:=fun j hj=>World.cell?_setCell_other _ _ _ _ (by intro e;exact hj (congrArg Addr.off e).symm)
 exact ⟨⟨by rw[o 0 (by omega)];exact h0,by rw[o 1 (by omega)];exact h1,by rw[o 2 (by omega)];exact h2,by rw[o 3 (by omega)];exact h3,World.cell?_setCell_same' _ _ _ (by rw[h4];rfl),by rw[o 5 (by omega)];exact h5,by rw[o 6 (by omega)];exact h6⟩,fun o=>by rw[World.frozen?_setCell];exact hf o,by simpa [World.setCell] using hz⟩
theorem ak.set5 {w:World} {R:Nat} {v0 v1 v2 v3 v4 v5 v6:Value} (h:ak w R v0 v1 v2 v3 v4 v5 v6) (u:Value):ak (w.setCell ⟨R,5,none⟩ u) R v0 v1 v2 v3 v4 u v6:=by
 obtain ⟨⟨h0,h1,h2,h3,h4,h5,h6⟩,hf,hz⟩:=h
 have o:∀j,j≠5->(w.setCell ⟨R,5,none⟩ u).cell? ⟨R,j,none⟩=w.cell? ⟨R,j,none⟩:=fun j hj=>World.cell?_setCell_other _ _ _ _ (by intro e;exact hj (congrArg Addr.off e).symm)
 exact ⟨⟨by rw[o 0 (by omega)];exact h0,by rw[o 1 (by omega)];exact h1,by rw[o 2 (by omega)];exact h2,by rw[o 3 (by omega)];exact h3,by rw[o 4 (by omega)];exact h4,World.cell?_setCell_same' _ _ _ (by rw[h5];rfl),by rw[o 6 (by omega)];exact h6⟩,fun o=>by rw[World.frozen?_setCell];exact hf o,by simpa [World.setCell] using hz⟩
theorem ak.set6 {w:World} {R:Nat} {v0 v1 v2 v3 v4 v5 v6:Value} (h:ak w R v0 v1 v2 v3 v4 v5 v6) (u:Value):ak (w.setCell ⟨R,6,none⟩ u) R v0 v1 v2 v3 v4 v5 u:=by
 obtain ⟨⟨h0,h1,h2,h3,h4,h5,h6⟩,hf,hz⟩:=h
 have o:∀j,j≠6->(w.setCell ⟨R,6,none⟩ u).cell? ⟨R,j,none⟩=w.cell? ⟨R,j,none⟩:=fun j hj=>World.cell?_setCell_other _ _ _ _ (by intro e;exact hj (congrArg Addr.off e).symm)
 exact ⟨⟨by rw[o 0 (by omega)];exact h0,by rw[o 1 (by omega)];exact h1,by rw[o 2 (by omega)];exact h2,by rw[o 3 (by omega)];exact h3,by rw[o 4 (by omega)];exact h4,by rw[o 5 (by omega)];exact h5,World.cell?_setCell_same' _ _ _ (by rw[h6];rfl)⟩,fun o=>by rw[World.frozen?_setCell];exact hf o,by simpa [World.setCell] using hz⟩
theorem ai {B:Nat} {w W:World} (h:Below B w W) {Q:Nat} (hQ:B<=Q) (q:Nat) (u:Value):Below B w (W.setCell ⟨Q,q,none⟩ u):=h.setCell (p:=⟨Q,q,none⟩) hQ u
end Go.Proofs.YtghkbhggopiajaaGreatDoor
