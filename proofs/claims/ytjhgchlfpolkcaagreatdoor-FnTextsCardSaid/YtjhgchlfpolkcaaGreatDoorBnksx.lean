/- TotalOf of the specification. -/
import Derived.Test.YtjhgchlfpolkcaaGreatDoorOrosx
import Derived.ProofKit
import Derived.OpenShut
import Derived.Deep.Slices
namespace Go.Proofs.YtjhgchlfpolkcaaGreatDoor
open Value renaming int → Ii,slice → Sl
open IntKind renaming i64 → Jj
open Nat renaming le_refl → Nf
open Go.Proofs.Tryz renaming prog → Pg
set_option maxRecDepth 8000
set_option maxHeartbeats 4000000
open Go.RowKit
theorem jW (a:Option Addr) (n c:Nat) (F:Nat->al) (w:World) (h:Fo w a n F) (hR:ap F n):
  Calls Pg 78 #[Sl a n c] w fun e w'=>e=.returned (Ii Jj (dF F n))/\Below w.heap.size w w':=by
 have H:Hid (Fo w a n F):=h
 have HR:Hid (ap F n):=hR
 have hn:=hR.1
 clear h hR
 go_enter Tryz.func78,Tryz.ntmps78
 go_wp2
 go_loopw[3,4] (fun t i wr=>∃k:Nat,k<=n/\i=Ii Jj k/\t=Ii Jj (dF F k)/\Hid (Below w.heap.size w wr)) (fun _ i _=>n-(intOf i).toNat)
 case atStart=>exact ⟨0,Nat.zero_le _,rfl,rfl,Below.refl _ _⟩
 case round=>
  obtain ⟨k,hk,rfl,rfl,hB⟩:=hrel
  obtain ⟨t1,t2⟩:=fO HR.out k hk
  go_wp2_with fail
  refine (dh a n c F _ (H.out.below hB.out) HR.out).mono ?_
  rintro e w1 ⟨rfl,B1⟩
  have B1':Hid (Below w.heap.size w w1):=hB.out.trans (B1.mono hB.out.size)
  clear B1
  by_cases hlt:k<n
  ·obtain ⟨b,o,rfl,hb0,hA0⟩:=H.out.acc hlt
   have hA:=hA0.of_cells (w':=w1) (fun q=>B1'.out.cell (p:=⟨b,q,none⟩) hb0)
   obtain ⟨c0,c1,c2,c3,c4,c5,c6,c7⟩:=hA
   obtain ⟨b1,b2⟩:=(HR.out.2.1 k hlt).2.2.2.2.2.1
   clear hA0
   go_wp2
   go_roundw
   case rel=>exact ⟨k+1,by omega,by go_num,rfl,B1'⟩
   case measure=>simp[intOf];omega
  ·have hkn:k=n:=by omega
   subst hkn
   have hd:decide (k<k)=false:=by simp
   go_wp2
   go_ret
   exact ⟨rfl,B1'.out⟩
open Go.RowKit
structure Bk where
 day:Int
 inn:Int
 out:Int
 posted:Int
 missed:Int
def aj (F:Nat->al) (n:Nat) (O:Nat->am) (m:Nat) (k:Bk):Prop:=(0<=k.day/\k.day<=3000000)/\ap F n/\cf O m/\(0<=k.inn/\k.inn<=1000000000000000)/\(0<=k.out/\k.out<=1000000000000000)/\(-1000000000000000<=k.posted/\k.posted<=1000000000000000)/\(0<=k.missed/\k.missed<=1000000000000000)/\dF F n=k.inn-k.out+k.posted
def eK (w:World) (R:Nat) (f o:Value) (k:Bk):Prop:=w.cell? ⟨R,0,none⟩=some (Ii Jj k.day)/\w.cell? ⟨R,1,none⟩=some (f)/\w.cell? ⟨R,2,none⟩=some (o)/\w.cell? ⟨R,3,none⟩=some (Ii Jj k.inn)/\w.cell? ⟨R,4,none⟩=some (Ii Jj k.out)/\w.cell? ⟨R,5,none⟩=some (Ii Jj k.posted)/\w.cell? ⟨R,6,none⟩=some (Ii Jj k.missed)/\R<w.heap.size
theorem eK.new (w:World) (f o:Value) (k:Bk) (T:Nat):eK (w.alloc (.cells #[Ii Jj k.day,f,o,Ii Jj k.inn,Ii Jj k.out,Ii Jj k.posted,Ii Jj k.missed] T)) w.heap.size f o k:=by
 unfold eK
 simp[go_sem]
theorem eK.below {w w':World} {R:Nat} {f o:Value} {k:Bk} (h:eK w R f o k) (hb:Below w.heap.size w w'):eK w' R f o k:=by
 obtain ⟨h0,h1,h2,h3,h4,h5,h6,h7⟩:=h
 exact ⟨by rw[hb.cell (p:=⟨R,0,none⟩) h7];exact h0,by rw[hb.cell (p:=⟨R,1,none⟩) h7];exact h1,by rw[hb.cell (p:=⟨R,2,none⟩) h7];exact h2,by rw[hb.cell (p:=⟨R,3,none⟩) h7];exact h3,by rw[hb.cell (p:=⟨R,4,none⟩) h7];exact h4,by rw[hb.cell (p:=⟨R,5,none⟩) h7];exact h5,by rw[hb.cell (p:=⟨R,6,none⟩) h7];exact h6,Nat.lt_of_lt_of_le h7 hb.size⟩
def bj (w:World) (R:Nat) (a b:Option Addr) (n c m d:Nat) (F:Nat->al) (O:Nat->am) (k:Bk) (w0:World):Prop:=eK w R (Sl a n c) (Sl b m d) k/\Fo w a n F/\aJ w b m O/\Below w0.heap.size w0 w
theorem bj.below {w w' w0:World} {R:Nat} {a b:Option Addr} {n c m d:Nat} {F:Nat->al} {O:Nat->am} {k:Bk} (h:bj w R a b n c m d F O k w0) (hb:Below w.heap.size w w'):bj w' R a b n c m d F O k w0:=
 ⟨h.1.below hb,h.2.1.below hb,h.2.2.1.below hb,h.2.2.2.trans (hb.mono h.2.2.2.size)⟩
theorem kY (a:Option Addr) (n c:Nat) (F:Nat->al) (w:World) (h:Fo w a n F):
  Calls Pg 39 #[Sl a n c] w fun e w'=>ae e (ap F n)/\Below w.heap.size w w':=by
 by_cases hR:ap F n
 ·exact (ji a n c F w h hR).mono fun e w' ⟨he,hb⟩=>⟨⟨true,he,fun _=>hR,fun e=>(by cases e)⟩,hb⟩
 ·exact (pf a n c F w h hR).mono fun e w' ⟨he,hb⟩=>⟨⟨false,he,fun e=>(by cases e),fun _=>hR⟩,hb⟩
theorem lv (a:Option Addr) (n c:Nat) (F:Nat->al) (w:World) (h:Fo w a n F):
  Calls Pg 76 #[Sl a n c] w fun e w'=>ae e (ap F n)/\Below w.heap.size w w':=by
 by_cases hR:ap F n
 ·exact (dh a n c F w h hR).mono fun e w' ⟨he,hb⟩=>⟨⟨true,he,fun _=>hR,fun e=>(by cases e)⟩,hb⟩
 ·exact (eZ a n c F w h hR).mono fun e w' ⟨he,hb⟩=>⟨⟨false,he,fun e=>(by cases e),fun _=>hR⟩,hb⟩
theorem mW (n:Int) (w:World) (h:0<=n/\n<=1000000000000000):
  Calls Pg 41 #[Ii Jj n] w fun e w'=>e=.returned (.bool true)/\w'=w:=by
 obtain ⟨h1,h2⟩:=h
 go_enter Tryz.func41,Tryz.ntmps41
 go_wp2
 go_ret
 exact ⟨rfl,rfl⟩
theorem nY (n:Int) (w:World) (h:¬(0<=n/\n<=1000000000000000)):
  Calls Pg 41 #[Ii Jj n] w fun e w'=>e=.returned (.bool false)/\w'=w:=by
 by_cases h1:0<=n
 ·have h2:¬n<=1000000000000000:=by omega
  have h3:1000000000000000<n:=by omega
  clear h
  go_enter Tryz.func41,Tryz.ntmps41
  go_wp2
  go_ret
  exact ⟨rfl,rfl⟩
 ·have h2:n<0:=by omega
  clear h
  go_enter Tryz.func41,Tryz.ntmps41
  go_wp2
  go_ret
  exact ⟨rfl,rfl⟩
theorem ib (n:Int) (w:World):
  Calls Pg 41 #[Ii Jj n] w fun e w'=>ae e (0<=n/\n<=1000000000000000)/\w'=w:=by
 by_cases h:0<=n/\n<=1000000000000000
 ·exact (mW n w h).mono fun e w' ⟨he,hw⟩=>⟨⟨true,he,fun _=>h,fun e=>(by cases e)⟩,hw⟩
 ·exact (nY n w h).mono fun e w' ⟨he,hw⟩=>⟨⟨false,he,fun e=>(by cases e),fun _=>h⟩,hw⟩
theorem cC (a b:Option Addr) (n c m d:Nat) (F:Nat->al) (O:Nat->am) (k:Bk) (w:World) (hF:Fo w a n F) (hO:aJ w b m O):
  Calls Pg 36 #[.agg #[Ii Jj k.day,Sl a n c,Sl b m d,Ii Jj k.inn,Ii Jj k.out,Ii Jj k.posted,Ii Jj k.missed]] w fun e w'=>ae e (aj F n O m k)/\Below w.heap.size w w':=by
 have X0:Hid (bj (w.alloc (.cells #[Ii Jj k.day,Sl a n c,Sl b m d,Ii Jj k.inn,Ii Jj k.out,Ii Jj k.posted,Ii Jj k.missed] 27)) w.heap.size a b n c m d F O k w):=⟨eK.new w _ _ k 27,hF.alloc _,hO.alloc _,(Below.refl _ _).alloc (Nf _) _⟩
 clear hF hO
 go_enter Tryz.func36,Tryz.ntmps36
 obtain ⟨⟨c0,c1,c2,c3,c4,c5,c6,hz⟩,xF,xO,hBw⟩:=X0.out
 go_wp2_with fail
 refine (ck k.day 0 3000000 _).mono ?_
 rintro e w1 ⟨⟨b1,rfl,hb1⟩,B1⟩
 subst B1
 clear c0 c1 c2 c3 c4 c5 c6 hz xF xO hBw
 cases b1 with
 | false=>
  have H1:=hb1.2 rfl
  clear hb1
  have HN:Hid (¬aj F n O m k):=fun h=>H1 (by unfold aj at h;first|exact h.2.1|exact h.2.2.1|omega)
  clear H1
  go_wp2
  go_ret
  exact ⟨ae.no HN.out,X0.out.2.2.2⟩
 | true=>
 have H1:=hb1.1 rfl
 clear hb1
 obtain ⟨⟨c0,c1,c2,c3,c4,c5,c6,hz⟩,xF,xO,hBw⟩:=X0.out
 go_wp2_with fail
 refine (lv a n c F _ xF).mono ?_
 rintro e w2 ⟨⟨b2,rfl,hb2⟩,B2⟩
 have X2:Hid (bj w2 w.heap.size a b n c m d F O k w):=X0.out.below B2
 clear X0 B2 c0 c1 c2 c3 c4 c5 c6 hz xF xO hBw
 cases b2 with
 | false=>
  have H2:=hb2.2 rfl
  clear hb2
  have HN:Hid (¬aj F n O m k):=fun h=>H2 (by unfold aj at h;first|exact h.2.1|exact h.2.2.1|omega)
  clear H2
  go_wp2
  go_ret
  exact ⟨ae.no HN.out,X2.out.2.2.2⟩
 | true=>
 have H2:=hb2.1 rfl
 clear hb2
 obtain ⟨⟨c0,c1,c2,c3,c4,c5,c6,hz⟩,xF,xO,hBw⟩:=X2.out
 go_wp2_with fail
 refine (jB b m d O _ xO).mono ?_
 rintro e w3 ⟨⟨b3,rfl,hb3⟩,B3⟩
 have X3:Hid (bj w3 w.heap.size a b n c m d F O k w):=X2.out.below B3
 clear X2 B3 c0 c1 c2 c3 c4 c5 c6 hz xF xO hBw
 cases b3 with
 | false=>
  have H3:=hb3.2 rfl
  clear hb3
  have HN:Hid (¬aj F n O m k):=fun h=>H3 (by unfold aj at h;first|exact h.2.1|exact h.2.2.1|omega)
  clear H3
  go_wp2
  go_ret
  exact ⟨ae.no HN.out,X3.out.2.2.2⟩
 | true=>
 have H3:=hb3.1 rfl
 clear hb3
 obtain ⟨⟨c0,c1,c2,c3,c4,c5,c6,hz⟩,xF,xO,hBw⟩:=X3.out
 go_wp2_with fail
 refine (ck k.inn 0 1000000000000000 _).mono ?_
 rintro e w4 ⟨⟨b4,rfl,hb4⟩,B4⟩
 subst B4
 clear c0 c1 c2 c3 c4 c5 c6 hz xF xO hBw
 cases b4 with
 | false=>
  have H4:=hb4.2 rfl
  clear hb4
  have HN:Hid (¬aj F n O m k):=fun h=>H4 (by unfold aj at h;first|exact h.2.1|exact h.2.2.1|omega)
  clear H4
  go_wp2
  go_ret
  exact ⟨ae.no HN.out,X3.out.2.2.2⟩
 | true=>
 have H4:=hb4.1 rfl
 clear hb4
 obtain ⟨⟨c0,c1,c2,c3,c4,c5,c6,hz⟩,xF,xO,hBw⟩:=X3.out
 go_wp2_with fail
 refine (ck k.out 0 1000000000000000 _).mono ?_
 rintro e w5 ⟨⟨b5,rfl,hb5⟩,B5⟩
 subst B5
 clear c0 c1 c2 c3 c4 c5 c6 hz xF xO hBw
 cases b5 with
 | false=>
  have H5:=hb5.2 rfl
  clear hb5
  have HN:Hid (¬aj F n O m k):=fun h=>H5 (by unfold aj at h;first|exact h.2.1|exact h.2.2.1|omega)
  clear H5
  go_wp2
  go_ret
  exact ⟨ae.no HN.out,X3.out.2.2.2⟩
 | true=>
 have H5:=hb5.1 rfl
 clear hb5
 obtain ⟨⟨c0,c1,c2,c3,c4,c5,c6,hz⟩,xF,xO,hBw⟩:=X3.out
 go_wp2_with fail
 refine (ck k.posted (-1000000000000000) 1000000000000000 _).mono ?_
 rintro e w6 ⟨⟨b6,rfl,hb6⟩,B6⟩
 subst B6
 clear c0 c1 c2 c3 c4 c5 c6 hz xF xO hBw
 cases b6 with
 | false=>
  have H6:=hb6.2 rfl
  clear hb6
  have HN:Hid (¬aj F n O m k):=fun h=>H6 (by unfold aj at h;first|exact h.2.1|exact h.2.2.1|omega)
  clear H6
  go_wp2
  go_ret
  exact ⟨ae.no HN.out,X3.out.2.2.2⟩
 | true=>
 have H6:=hb6.1 rfl
 clear hb6
 obtain ⟨⟨c0,c1,c2,c3,c4,c5,c6,hz⟩,xF,xO,hBw⟩:=X3.out
 go_wp2_with fail
 refine (ck k.missed 0 1000000000000000 _).mono ?_
 rintro e w7 ⟨⟨b7,rfl,hb7⟩,B7⟩
 subst B7
 clear c0 c1 c2 c3 c4 c5 c6 hz xF xO hBw
 cases b7 with
 | false=>
  have H7:=hb7.2 rfl
  clear hb7
  have HN:Hid (¬aj F n O m k):=fun h=>H7 (by unfold aj at h;first|exact h.2.1|exact h.2.2.1|omega)
  clear H7
  go_wp2
  go_ret
  exact ⟨ae.no HN.out,X3.out.2.2.2⟩
 | true=>
 have H7:=hb7.1 rfl
 clear hb7
 obtain ⟨⟨c0,c1,c2,c3,c4,c5,c6,hz⟩,xF,xO,hBw⟩:=X3.out
 have XF:Hid (Fo w7 a n F):=xF
 have XB:Hid (Below w.heap.size w w7):=hBw
 have hR:ap F n:=H2
 have HR:Hid (ap F n):=hR
 obtain ⟨t1,t2⟩:=fO hR n (Nf _)
 have n12:=hR.1
 have hov:∀v q,(bW w7 v).cell? ⟨w.heap.size,q,none⟩=w7.cell? ⟨w.heap.size,q,none⟩:=fun v q=>(ar w7 v).cell (p:=⟨w.heap.size,q,none⟩) hz
 clear xF xO hBw hR
 have FOV:Hid (∀v,Fo (bW w7 v) a n F):=fun v=>XF.out.below (ar w7 v)
 have KY:Hid (dF F n=k.inn-k.out+k.posted->aj F n O m k):=fun e=>⟨H1,H2,H3,H4,H5,H6,H7,e⟩
 have KN:Hid (aj F n O m k->dF F n=k.inn-k.out+k.posted):=fun h=>h.2.2.2.2.2.2.2
 obtain ⟨T,hT⟩:∃T,T=dF F n:=⟨_,rfl⟩
 have HT:Hid (T=dF F n):=hT
 rw[←hT] at t1 t2 KY KN
 have CT:Hid (∀v,Calls Pg 78 #[Sl a n c] (bW w7 v) fun e w'=>e=.returned (Ii Jj T)/\Below (bW w7 v).heap.size (bW w7 v) w'):=fun v=>by rw[HT.out];exact jW a n c F _ (FOV.out v) HR.out
 clear hT
 by_cases e:T=k.inn-k.out+k.posted
 ·have eb:(T == k.inn-k.out+k.posted)=true:=by simp[e]
  clear e KN
  have KY':Hid (aj F n O m k):=KY.out (by simpa using eb)
  go_wp2
  refine aw (by kernel_rfl) (by kernel_rfl) ?_
  repeat (go_big_quiet_step ((first|(go_at_call 78;exact Calls.over_of (CT.out _)))))
  refine wpQuiet_nil ?_
  intro _ hw'
  obtain ⟨vq,hw''⟩:=hw'
  subst hw''
  go_wp2
  go_ret
  exact ⟨ae.yes KY'.out,XB.out.trans ((ar w7 vq).mono XB.out.size)⟩
 ·have eb:(T == k.inn-k.out+k.posted)=false:=by simp[e]
  have KN':Hid (¬aj F n O m k):=fun h=>e (KN.out h)
  clear e
  go_wp2
  refine aw (by kernel_rfl) (by kernel_rfl) ?_
  repeat (go_big_quiet_step ((first|(go_at_call 78;exact Calls.over_of (CT.out _)))))
  refine wpQuiet_nil ?_
  intro _ hw'
  obtain ⟨vq,hw''⟩:=hw'
  subst hw''
  go_wp2
  go_ret
  exact ⟨ae.no KN'.out,XB.out.trans ((ar w7 vq).mono XB.out.size)⟩
theorem gG (a b:Option Addr) (n c m d:Nat) (F:Nat->al) (O:Nat->am) (k:Bk) (w:World) (hF:Fo w a n F) (hO:aJ w b m O):
  Calls Pg 12 #[.agg #[Ii Jj k.day,Sl a n c,Sl b m d,Ii Jj k.inn,Ii Jj k.out,Ii Jj k.posted,Ii Jj k.missed]] w fun e w'=>ae e (aj F n O m k)/\Below w.heap.size w w':=by
 have X0:Hid (bj (w.alloc (.cells #[Ii Jj k.day,Sl a n c,Sl b m d,Ii Jj k.inn,Ii Jj k.out,Ii Jj k.posted,Ii Jj k.missed] 27)) w.heap.size a b n c m d F O k w):=⟨eK.new w _ _ k 27,hF.alloc _,hO.alloc _,(Below.refl _ _).alloc (Nf _) _⟩
 clear hF hO
 go_enter Tryz.func12,Tryz.ntmps12
 obtain ⟨⟨c0,c1,c2,c3,c4,c5,c6,hz⟩,xF,xO,hBw⟩:=X0.out
 go_wp2_with fail
 refine (oh k.day _).mono ?_
 rintro e w1 ⟨⟨b1,rfl,hb1⟩,B1⟩
 subst B1
 clear c0 c1 c2 c3 c4 c5 c6 hz xF xO hBw
 cases b1 with
 | false=>
  have H1:=hb1.2 rfl
  clear hb1
  have HN:Hid (¬aj F n O m k):=fun h=>H1 (by unfold aj at h;first|exact h.2.1|exact h.2.2.1|omega)
  clear H1
  go_wp2
  go_ret
  exact ⟨ae.no HN.out,X0.out.2.2.2⟩
 | true=>
 have H1:=hb1.1 rfl
 clear hb1
 obtain ⟨⟨c0,c1,c2,c3,c4,c5,c6,hz⟩,xF,xO,hBw⟩:=X0.out
 go_wp2_with fail
 refine (kY a n c F _ xF).mono ?_
 rintro e w2 ⟨⟨b2,rfl,hb2⟩,B2⟩
 have X2:Hid (bj w2 w.heap.size a b n c m d F O k w):=X0.out.below B2
 clear X0 B2 c0 c1 c2 c3 c4 c5 c6 hz xF xO hBw
 cases b2 with
 | false=>
  have H2:=hb2.2 rfl
  clear hb2
  have HN:Hid (¬aj F n O m k):=fun h=>H2 (by unfold aj at h;first|exact h.2.1|exact h.2.2.1|omega)
  clear H2
  go_wp2
  go_ret
  exact ⟨ae.no HN.out,X2.out.2.2.2⟩
 | true=>
 have H2:=hb2.1 rfl
 clear hb2
 obtain ⟨⟨c0,c1,c2,c3,c4,c5,c6,hz⟩,xF,xO,hBw⟩:=X2.out
 go_wp2_with fail
 refine (qv b m d O _ xO).mono ?_
 rintro e w3 ⟨⟨b3,rfl,hb3⟩,B3⟩
 have X3:Hid (bj w3 w.heap.size a b n c m d F O k w):=X2.out.below B3
 clear X2 B3 c0 c1 c2 c3 c4 c5 c6 hz xF xO hBw
 cases b3 with
 | false=>
  have H3:=hb3.2 rfl
  clear hb3
  have HN:Hid (¬aj F n O m k):=fun h=>H3 (by unfold aj at h;first|exact h.2.1|exact h.2.2.1|omega)
  clear H3
  go_wp2
  go_ret
  exact ⟨ae.no HN.out,X3.out.2.2.2⟩
 | true=>
 have H3:=hb3.1 rfl
 clear hb3
 obtain ⟨⟨c0,c1,c2,c3,c4,c5,c6,hz⟩,xF,xO,hBw⟩:=X3.out
 go_wp2_with fail
 refine (ib k.inn _).mono ?_
 rintro e w4 ⟨⟨b4,rfl,hb4⟩,B4⟩
 subst B4
 clear c0 c1 c2 c3 c4 c5 c6 hz xF xO hBw
 cases b4 with
 | false=>
  have H4:=hb4.2 rfl
  clear hb4
  have HN:Hid (¬aj F n O m k):=fun h=>H4 (by unfold aj at h;first|exact h.2.1|exact h.2.2.1|omega)
  clear H4
  go_wp2
  go_ret
  exact ⟨ae.no HN.out,X3.out.2.2.2⟩
 | true=>
 have H4:=hb4.1 rfl
 clear hb4
 obtain ⟨⟨c0,c1,c2,c3,c4,c5,c6,hz⟩,xF,xO,hBw⟩:=X3.out
 go_wp2_with fail
 refine (ib k.out _).mono ?_
 rintro e w5 ⟨⟨b5,rfl,hb5⟩,B5⟩
 subst B5
 clear c0 c1 c2 c3 c4 c5 c6 hz xF xO hBw
 cases b5 with
 | false=>
  have H5:=hb5.2 rfl
  clear hb5
  have HN:Hid (¬aj F n O m k):=fun h=>H5 (by unfold aj at h;first|exact h.2.1|exact h.2.2.1|omega)
  clear H5
  go_wp2
  go_ret
  exact ⟨ae.no HN.out,X3.out.2.2.2⟩
 | true=>
 have H5:=hb5.1 rfl
 clear hb5
 obtain ⟨⟨c0,c1,c2,c3,c4,c5,c6,hz⟩,xF,xO,hBw⟩:=X3.out
 go_wp2_with fail
 refine (ib k.missed _).mono ?_
 rintro e w6 ⟨⟨b6,rfl,hb6⟩,B6⟩
 subst B6
 clear c0 c1 c2 c3 c4 c5 c6 hz xF xO hBw
 cases b6 with
 | false=>
  have H6:=hb6.2 rfl
  clear hb6
  have HN:Hid (¬aj F n O m k):=fun h=>H6 (by unfold aj at h;first|exact h.2.1|exact h.2.2.1|omega)
  clear H6
  go_wp2
  go_ret
  exact ⟨ae.no HN.out,X3.out.2.2.2⟩
 | true=>
 have H6:=hb6.1 rfl
 clear hb6
 by_cases q7: -1000000000000000<=k.posted
 rotate_left
 ·have q7b:k.posted< -1000000000000000:=by omega
  obtain ⟨⟨c0,c1,c2,c3,c4,c5,c6,_⟩,_,_,hBw⟩:=X3.out
  have HBw:Hid (Below w.heap.size w w6):=hBw
  clear hBw
  go_wp2
  go_ret
  exact ⟨ae.no (fun h=>by unfold aj at h;omega),HBw.out⟩
 by_cases q8:k.posted<=1000000000000000
 rotate_left
 ·have q8b:1000000000000000<k.posted:=by omega
  obtain ⟨⟨c0,c1,c2,c3,c4,c5,c6,_⟩,_,_,hBw⟩:=X3.out
  have HBw:Hid (Below w.heap.size w w6):=hBw
  clear hBw
  go_wp2
  go_ret
  exact ⟨ae.no (fun h=>by unfold aj at h;omega),HBw.out⟩
 obtain ⟨⟨c0,c1,c2,c3,c4,c5,c6,hz⟩,xF,xO,hBw⟩:=X3.out
 have XF:Hid (Fo w6 a n F):=xF
 have XB:Hid (Below w.heap.size w w6):=hBw
 have hR:ap F n:=H2
 have HR:Hid (ap F n):=hR
 obtain ⟨t1,t2⟩:=fO hR n (Nf _)
 have n12:=hR.1
 have hov:∀v q,(bW w6 v).cell? ⟨w.heap.size,q,none⟩=w6.cell? ⟨w.heap.size,q,none⟩:=fun v q=>(ar w6 v).cell (p:=⟨w.heap.size,q,none⟩) hz
 clear xF xO hBw hR
 have FOV:Hid (∀v,Fo (bW w6 v) a n F):=fun v=>XF.out.below (ar w6 v)
 have KY:Hid (dF F n=k.inn-k.out+k.posted->aj F n O m k):=fun e=>⟨H1,H2,H3,H4,H5,⟨q7,q8⟩,H6,e⟩
 have KN:Hid (aj F n O m k->dF F n=k.inn-k.out+k.posted):=fun h=>h.2.2.2.2.2.2.2
 obtain ⟨T,hT⟩:∃T,T=dF F n:=⟨_,rfl⟩
 have HT:Hid (T=dF F n):=hT
 rw[←hT] at t1 t2 KY KN
 have CT:Hid (∀v,Calls Pg 42 #[Sl a n c] (bW w6 v) fun e w'=>e=.returned (Ii Jj T)/\Below (bW w6 v).heap.size (bW w6 v) w'):=fun v=>by rw[HT.out];exact jM a n c F _ (FOV.out v) HR.out
 clear hT
 by_cases e:T=k.inn-k.out+k.posted
 ·have eb:(T == k.inn-k.out+k.posted)=true:=by simp[e]
  clear e KN
  have KY':Hid (aj F n O m k):=KY.out (by simpa using eb)
  go_wp2
  refine aw (by kernel_rfl) (by kernel_rfl) ?_
  repeat (go_big_quiet_step ((first|(go_at_call 42;exact Calls.over_of (CT.out _)))))
  refine wpQuiet_nil ?_
  intro _ hw'
  obtain ⟨vq,hw''⟩:=hw'
  subst hw''
  go_wp2
  go_ret
  exact ⟨ae.yes KY'.out,XB.out.trans ((ar w6 vq).mono XB.out.size)⟩
 ·have eb:(T == k.inn-k.out+k.posted)=false:=by simp[e]
  have KN':Hid (¬aj F n O m k):=fun h=>e (KN.out h)
  clear e
  go_wp2
  refine aw (by kernel_rfl) (by kernel_rfl) ?_
  repeat (go_big_quiet_step ((first|(go_at_call 42;exact Calls.over_of (CT.out _)))))
  refine wpQuiet_nil ?_
  intro _ hw'
  obtain ⟨vq,hw''⟩:=hw'
  subst hw''
  go_wp2
  go_ret
  exact ⟨ae.no KN'.out,XB.out.trans ((ar w6 vq).mono XB.out.size)⟩
open Go.ChangeShapes Go.WideShapes Go.ChangeAt Go.RowKit
open Go.ChangeShapes Go.WideShapes Go.ChangeAt Go.RowKit
def af (w:World) (R:Nat) (v0 v1 v2 v3 v4 v5 v6:Value):Prop:=(w.cell? ⟨R,0,none⟩=some v0/\w.cell? ⟨R,1,none⟩=some v1/\w.cell? ⟨R,2,none⟩=some v2/\w.cell? ⟨R,3,none⟩=some v3/\w.cell? ⟨R,4,none⟩=some v4/\w.cell? ⟨R,5,none⟩=some v5/\w.cell? ⟨R,6,none⟩=some v6)/\(∀o,w.frozen? ⟨R,o,none⟩=false)/\R<w.heap.size
theorem af.new (w:World) (v0 v1 v2 v3 v4 v5 v6:Value) (T:Nat):af (w.alloc (.cells #[v0,v1,v2,v3,v4,v5,v6] T)) w.heap.size v0 v1 v2 v3 v4 v5 v6:=
 ⟨⟨by simp[go_sem],by simp[go_sem],by simp[go_sem],by simp[go_sem],by simp[go_sem],by simp[go_sem],by simp[go_sem]⟩,fun o=>by simp[go_sem],by simp⟩
theorem af.kept {n₀:Nat} {w w':World} {R:Nat} {v0 v1 v2 v3 v4 v5 v6:Value} (h:af w R v0 v1 v2 v3 v4 v5 v6) (hb:Below n₀ w w') (hR:R<n₀):af w' R v0 v1 v2 v3 v4 v5 v6:=by
 obtain ⟨⟨h0,h1,h2,h3,h4,h5,h6⟩,hf,hz⟩:=h
 exact ⟨⟨by rw[hb.cell (p:=⟨R,0,none⟩) hR];exact h0,by rw[hb.cell (p:=⟨R,1,none⟩) hR];exact h1,by rw[hb.cell (p:=⟨R,2,none⟩) hR];exact h2,by rw[hb.cell (p:=⟨R,3,none⟩) hR];exact h3,by rw[hb.cell (p:=⟨R,4,none⟩) hR];exact h4,by rw[hb.cell (p:=⟨R,5,none⟩) hR];exact h5,by rw[hb.cell (p:=⟨R,6,none⟩) hR];exact h6⟩,fun o=>by rw[hb.frozen (p:=⟨R,o,none⟩) hR];exact hf o,Nat.lt_of_lt_of_le hz hb.size⟩
theorem af.far {w:World} {R:Nat} {v0 v1 v2 v3 v4 v5 v6:Value} (h:af w R v0 v1 v2 v3 v4 v5 v6) {Q:Nat} (hne:Q≠R) (q:Nat) (u:Value):af (w.setCell ⟨Q,q,none⟩ u) R v0 v1 v2 v3 v4 v5 v6:=by
 obtain ⟨⟨h0,h1,h2,h3,h4,h5,h6⟩,hf,hz⟩:=h
 have o:∀j,(w.setCell ⟨Q,q,none⟩ u).cell? ⟨R,j,none⟩=w.cell? ⟨R,j,none⟩:=fun j=>World.cell?_setCell_other _ _ _ _ (by intro e;exact hne (congrArg Addr.block e))
 exact ⟨⟨by rw[o];exact h0,by rw[o];exact h1,by rw[o];exact h2,by rw[o];exact h3,by rw[o];exact h4,by rw[o];exact h5,by rw[o];exact h6⟩,fun o=>by rw[World.frozen?_setCell];exact hf o,by simpa [World.setCell] using hz⟩
theorem af.set0 {w:World} {R:Nat} {v0 v1 v2 v3 v4 v5 v6:Value} (h:af w R v0 v1 v2 v3 v4 v5 v6) (u:Value):af (w.setCell ⟨R,0,none⟩ u) R u v1 v2 v3 v4 v5 v6:=by
 obtain ⟨⟨h0,h1,h2,h3,h4,h5,h6⟩,hf,hz⟩:=h
 have o:∀j,j≠0->(w.setCell ⟨R,0,none⟩ u).cell? ⟨R,j,none⟩=w.cell? ⟨R,j,none⟩:=fun j hj=>World.cell?_setCell_other _ _ _ _ (by intro e;exact hj (congrArg Addr.off e).symm)
 exact ⟨⟨World.cell?_setCell_same' _ _ _ (by rw[h0];rfl),by rw[o 1 (by omega)];exact h1,by rw[o 2 (by omega)];exact h2,by rw[o 3 (by omega)];exact h3,by rw[o 4 (by omega)];exact h4,by rw[o 5 (by omega)];exact h5,by rw[o 6 (by omega)];exact h6⟩,fun o=>by rw[World.frozen?_setCell];exact hf o,by simpa [World.setCell] using hz⟩
theorem af.set1 {w:World} {R:Nat} {v0 v1 v2 v3 v4 v5 v6:Value} (h:af w R v0 v1 v2 v3 v4 v5 v6) (u:Value):af (w.setCell ⟨R,1,none⟩ u) R v0 u v2 v3 v4 v5 v6:=by
 obtain ⟨⟨h0,h1,h2,h3,h4,h5,h6⟩,hf,hz⟩:=h
 have o:∀j,j≠1->(w.setCell ⟨R,1,none⟩ u).cell? ⟨R,j,none⟩=w.cell? ⟨R,j,none⟩:=fun j hj=>World.cell?_setCell_other _ _ _ _ (by intro e;exact hj (congrArg Addr.off e).symm)
 exact ⟨⟨by rw[o 0 (by omega)];exact h0,World.cell?_setCell_same' _ _ _ (by rw[h1];rfl),by rw[o 2 (by omega)];exact h2,by rw[o 3 (by omega)];exact h3,by rw[o 4 (by omega)];exact h4,by rw[o 5 (by omega)];exact h5,by rw[o 6 (by omega)];exact h6⟩,fun o=>by rw[World.frozen?_setCell];exact hf o,by simpa [World.setCell] using hz⟩
theorem af.set2 {w:World} {R:Nat} {v0 v1 v2 v3 v4 v5 v6:Value} (h:af w R v0 v1 v2 v3 v4 v5 v6) (u:Value):af (w.setCell ⟨R,2,none⟩ u) R v0 v1 u v3 v4 v5 v6:=by
 obtain ⟨⟨h0,h1,h2,h3,h4,h5,h6⟩,hf,hz⟩:=h
 have o:∀j,j≠2->(w.setCell ⟨R,2,none⟩ u).cell? ⟨R,j,none⟩=w.cell? ⟨R,j,none⟩:=fun j hj=>World.cell?_setCell_other _ _ _ _ (by intro e;exact hj (congrArg Addr.off e).symm)
 exact ⟨⟨by rw[o 0 (by omega)];exact h0,by rw[o 1 (by omega)];exact h1,World.cell?_setCell_same' _ _ _ (by rw[h2];rfl),by rw[o 3 (by omega)];exact h3,by rw[o 4 (by omega)];exact h4,by rw[o 5 (by omega)];exact h5,by rw[o 6 (by omega)];exact h6⟩,fun o=>by rw[World.frozen?_setCell];exact hf o,by simpa [World.setCell] using hz⟩
theorem af.set3 {w:World} {R:Nat} {v0 v1 v2 v3 v4 v5 v6:Value} (h:af w R v0 v1 v2 v3 v4 v5 v6) (u:Value):af (w.setCell ⟨R,3,none⟩ u) R v0 v1 v2 u v4 v5 v6:=by
 obtain ⟨⟨h0,h1,h2,h3,h4,h5,h6⟩,hf,hz⟩:=h
 have o:∀j,j≠3->(w.setCell ⟨R,3,none⟩ u).cell? ⟨R,j,none⟩=w.cell? ⟨R,j,none⟩:=fun j hj=>World.cell?_setCell_other _ _ _ _ (by intro e;exact hj (congrArg Addr.off e).symm)
 exact ⟨⟨by rw[o 0 (by omega)];exact h0,by rw[o 1 (by omega)];exact h1,by rw[o 2 (by omega)];exact h2,World.cell?_setCell_same' _ _ _ (by rw[h3];rfl),by rw[o 4 (by omega)];exact h4,by rw[o 5 (by omega)];exact h5,by rw[o 6 (by omega)];exact h6⟩,fun o=>by rw[World.frozen?_setCell];exact hf o,by simpa [World.setCell] using hz⟩
theorem af.set4 {w:World} {R:Nat} {v0 v1 v2 v3 v4 v5 v6:Value} (h:af w R v0 v1 v2 v3 v4 v5 v6) (u:Value):af (w.setCell ⟨R,4,none⟩ u) R v0 v1 v2 v3 u v5 v6:=by
 obtain ⟨⟨h0,h1,h2,h3,h4,h5,h6⟩,hf,hz⟩:=h
 have o:∀j,j≠4->(w.setCell ⟨R,4,none⟩ u).cell? ⟨R,j,none⟩=w.cell? ⟨R,j,none⟩:=fun j hj=>World.cell?_setCell_other _ _ _ _ (by intro e;exact hj (congrArg Addr.off e).symm)
 exact ⟨⟨by rw[o 0 (by omega)];exact h0,by rw[o 1 (by omega)];exact h1,by rw[o 2 (by omega)];exact h2,by rw[o 3 (by omega)];exact h3,World.cell?_setCell_same' _ _ _ (by rw[h4];rfl),by rw[o 5 (by omega)];exact h5,by rw[o 6 (by omega)];exact h6⟩,fun o=>by rw[World.frozen?_setCell];exact hf o,by simpa [World.setCell] using hz⟩
theorem af.set5 {w:World} {R:Nat} {v0 v1 v2 v3 v4 v5 v6:Value} (h:af w R v0 v1 v2 v3 v4 v5 v6) (u:Value):af (w.setCell ⟨R,5,none⟩ u) R v0 v1 v2 v3 v4 u v6:=by
 obtain ⟨⟨h0,h1,h2,h3,h4,h5,h6⟩,hf,hz⟩:=h
 have o:∀j,j≠5->(w.setCell ⟨R,5,none⟩ u).cell? ⟨R,j,none⟩=w.cell? ⟨R,j,none⟩:=fun j hj=>World.cell?_setCell_other _ _ _ _ (by intro e;exact hj (congrArg Addr.off e).symm)
 exact ⟨⟨by rw[o 0 (by omega)];exact h0,by rw[o 1 (by omega)];exact h1,by rw[o 2 (by omega)];exact h2,by rw[o 3 (by omega)];exact h3,by rw[o 4 (by omega)];exact h4,World.cell?_setCell_same' _ _ _ (by rw[h5];rfl),by rw[o 6 (by omega)];exact h6⟩,fun o=>by rw[World.frozen?_setCell];exact hf o,by simpa [World.setCell] using hz⟩
theorem af.set6 {w:World} {R:Nat} {v0 v1 v2 v3 v4 v5 v6:Value} (h:af w R v0 v1 v2 v3 v4 v5 v6) (u:Value):af (w.setCell ⟨R,6,none⟩ u) R v0 v1 v2 v3 v4 v5 u:=by
 obtain ⟨⟨h0,h1,h2,h3,h4,h5,h6⟩,hf,hz⟩:=h
 have o:∀j,j≠6->(w.setCell ⟨R,6,none⟩ u).cell? ⟨R,j,none⟩=w.cell? ⟨R,j,none⟩:=fun j hj=>World.cell?_setCell_other _ _ _ _ (by intro e;exact hj (congrArg Addr.off e).symm)
 exact ⟨⟨by rw[o 0 (by omega)];exact h0,by rw[o 1 (by omega)];exact h1,by rw[o 2 (by omega)];exact h2,by rw[o 3 (by omega)];exact h3,by rw[o 4 (by omega)];exact h4,by rw[o 5 (by omega)];exact h5,World.cell?_setCell_same' _ _ _ (by rw[h6];rfl)⟩,fun o=>by rw[World.frozen?_setCell];exact hf o,by simpa [World.setCell] using hz⟩
theorem ak {B:Nat} {w W:World} (h:Below B w W) {Q:Nat} (hQ:B<=Q) (q:Nat) (u:Value):Below B w (W.setCell ⟨Q,q,none⟩ u):=h.setCell (p:=⟨Q,q,none⟩) hQ u
end Go.Proofs.YtjhgchlfpolkcaaGreatDoor
