/- TotalOf of the specification. -/
import Derived.Test.YtghkbhggopiajaaGreatDoorOrosq
set_option maxHeartbeats 4000000
namespace Go.Proofs.YtghkbhggopiajaaGreatDoor
open Go.RowKit
set_option maxRecDepth 8000
theorem specTotal_yes (a:Option Addr) (n c:Nat) (F:Nat->Acc) (w:World) (h:Fo w a n F) (hR:Right F n):
  Calls Tryz.prog 87 #[.slice a n c] w fun e w'=>e=.returned (.int .i64 (total F n))/\Below w.heap.size w w':=by
 have H:=hidOf h
 have HR:=hidOf hR
 have hn:=hR.1
 clear h hR
 go_enter Tryz.func87,Tryz.ntmps87
 go_wp2
 go_loopw[3,4] (fun t i wr=>∃k:Nat,k<=n/\i=.int .i64 k/\t=.int .i64 (total F k)/\Hid (Below w.heap.size w wr)) (fun _ i _=>n-(intOf i).toNat)
 case atStart=>exact ⟨0,Nat.zero_le _,rfl,rfl,Below.refl _ _⟩
 case round=>
  obtain ⟨k,hk,rfl,rfl,hB⟩:=hrel
  obtain ⟨t1,t2⟩:=total_bd HR.out k hk
  go_wp2_with fail
  refine (specOk_yes a n c F _ (H.out.below hB.out) HR.out).mono ?_
  rintro e w1 ⟨rfl,B1⟩
  have B1':=hidOf (hB.out.trans (B1.mono hB.out.size))
  clear B1
  by_cases hlt:k<n
  ·obtain ⟨b,o,rfl,hb0,hA0⟩:=H.out.acc hlt
   have hA:=hA0.of_cells (w':=w1) (fun q=>B1'.out.cell (p:=⟨b,q,none⟩) hb0)
   obtain ⟨c0,c1,c2,c3,c4,c5,c6,c7⟩:=hA
   obtain ⟨b1,b2⟩:=(HR.out.2.1 k hlt).2.2.2.2.2.1
   clear hA0
   go_wp2
   go_roundw
   case rel=>exact ⟨k+1,by omega,by go_num,rfl,B1'⟩
   case measure=>simp[intOf];omega
  ·have hkn:k=n:=by omega
   subst hkn
   have hd:decide (k<k)=false:=by simp
   go_wp2
   go_ret
   exact ⟨rfl,B1'.out⟩
open Go.RowKit
set_option maxRecDepth 8000
structure Bk where
 day:Int
 inn:Int
 out:Int
 posted:Int
 missed:Int
def bankOk (F:Nat->Acc) (n:Nat) (O:Nat->Ord) (m:Nat) (k:Bk):Prop:=(0<=k.day/\k.day<=3000000)/\Right F n/\RightO O m/\(0<=k.inn/\k.inn<=1000000000000000)/\(0<=k.out/\k.out<=1000000000000000)/\(-1000000000000000<=k.posted/\k.posted<=1000000000000000)/\(0<=k.missed/\k.missed<=1000000000000000)/\total F n=k.inn-k.out+k.posted
def BkBox (w:World) (R:Nat) (f o:Value) (k:Bk):Prop:=w.cell? ⟨R,0,none⟩=some (.int .i64 k.day)/\w.cell? ⟨R,1,none⟩=some (f)/\w.cell? ⟨R,2,none⟩=some (o)/\w.cell? ⟨R,3,none⟩=some (.int .i64 k.inn)/\w.cell? ⟨R,4,none⟩=some (.int .i64 k.out)/\w.cell? ⟨R,5,none⟩=some (.int .i64 k.posted)/\w.cell? ⟨R,6,none⟩=some (.int .i64 k.missed)/\R<w.heap.size
theorem BkBox.new (w:World) (f o:Value) (k:Bk) (T:Nat):BkBox (w.alloc (.cells #[.int .i64 k.day,f,o,.int .i64 k.inn,.int .i64 k.out,.int .i64 k.posted,.int .i64 k.missed] T)) w.heap.size f o k:=by
 unfold BkBox
 simp[go_sem]
theorem BkBox.below {w w':World} {R:Nat} {f o:Value} {k:Bk} (h:BkBox w R f o k) (hb:Below w.heap.size w w'):BkBox w' R f o k:=by
 obtain ⟨h0,h1,h2,h3,h4,h5,h6,h7⟩:=h
 exact ⟨by rw[hb.cell (p:=⟨R,0,none⟩) h7];exact h0,by rw[hb.cell (p:=⟨R,1,none⟩) h7];exact h1,by rw[hb.cell (p:=⟨R,2,none⟩) h7];exact h2,by rw[hb.cell (p:=⟨R,3,none⟩) h7];exact h3,by rw[hb.cell (p:=⟨R,4,none⟩) h7];exact h4,by rw[hb.cell (p:=⟨R,5,none⟩) h7];exact h5,by rw[hb.cell (p:=⟨R,6,none⟩) h7];exact h6,Nat.lt_of_lt_of_le h7 hb.size⟩
def BkAll (w:World) (R:Nat) (a b:Option Addr) (n c m d:Nat) (F:Nat->Acc) (O:Nat->Ord) (k:Bk) (w0:World):Prop:=BkBox w R (.slice a n c) (.slice b m d) k/\Fo w a n F/\Ords w b m O/\Below w0.heap.size w0 w
theorem BkAll.below {w w' w0:World} {R:Nat} {a b:Option Addr} {n c m d:Nat} {F:Nat->Acc} {O:Nat->Ord} {k:Bk} (h:BkAll w R a b n c m d F O k w0) (hb:Below w.heap.size w w'):BkAll w' R a b n c m d F O k w0:=
 ⟨h.1.below hb,h.2.1.below hb,h.2.2.1.below hb,h.2.2.2.trans (hb.mono h.2.2.2.size)⟩
theorem implForest_b (a:Option Addr) (n c:Nat) (F:Nat->Acc) (w:World) (h:Fo w a n F):
  Calls Tryz.prog 19 #[.slice a n c] w fun e w'=>Tells e (Right F n)/\Below w.heap.size w w':=by
 by_cases hR:Right F n
 ·exact (implOk_yes a n c F w h hR).mono fun e w' ⟨he,hb⟩=>⟨⟨true,he,fun _=>hR,fun e=>(by cases e)⟩,hb⟩
 ·exact (implOk_no a n c F w h hR).mono fun e w' ⟨he,hb⟩=>⟨⟨false,he,fun e=>(by cases e),fun _=>hR⟩,hb⟩
theorem specForest_b (a:Option Addr) (n c:Nat) (F:Nat->Acc) (w:World) (h:Fo w a n F):
  Calls Tryz.prog 16 #[.slice a n c] w fun e w'=>Tells e (Right F n)/\Below w.heap.size w w':=by
 by_cases hR:Right F n
 ·exact (specOk_yes a n c F w h hR).mono fun e w' ⟨he,hb⟩=>⟨⟨true,he,fun _=>hR,fun e=>(by cases e)⟩,hb⟩
 ·exact (specOk_no a n c F w h hR).mono fun e w' ⟨he,hb⟩=>⟨⟨false,he,fun e=>(by cases e),fun _=>hR⟩,hb⟩
theorem totalOk_yes (n:Int) (w:World) (h:0<=n/\n<=1000000000000000):
  Calls Tryz.prog 79 #[.int .i64 n] w fun e w'=>e=.returned (.bool true)/\w'=w:=by
 obtain ⟨h1,h2⟩:=h
 go_enter Tryz.func79,Tryz.ntmps79
 go_wp2
 go_ret
 exact ⟨rfl,rfl⟩
theorem totalOk_no (n:Int) (w:World) (h:¬(0<=n/\n<=1000000000000000)):
  Calls Tryz.prog 79 #[.int .i64 n] w fun e w'=>e=.returned (.bool false)/\w'=w:=by
 by_cases h1:0<=n
 ·have h2:¬n<=1000000000000000:=by omega
  have h3:1000000000000000<n:=by omega
  clear h
  go_enter Tryz.func79,Tryz.ntmps79
  go_wp2
  go_ret
  exact ⟨rfl,rfl⟩
 ·have h2:n<0:=by omega
  clear h
  go_enter Tryz.func79,Tryz.ntmps79
  go_wp2
  go_ret
  exact ⟨rfl,rfl⟩
theorem totalOk_b (n:Int) (w:World):
  Calls Tryz.prog 79 #[.int .i64 n] w fun e w'=>Tells e (0<=n/\n<=1000000000000000)/\w'=w:=by
 by_cases h:0<=n/\n<=1000000000000000
 ·exact (totalOk_yes n w h).mono fun e w' ⟨he,hw⟩=>⟨⟨true,he,fun _=>h,fun e=>(by cases e)⟩,hw⟩
 ·exact (totalOk_no n w h).mono fun e w' ⟨he,hw⟩=>⟨⟨false,he,fun e=>(by cases e),fun _=>h⟩,hw⟩
theorem specBank (a b:Option Addr) (n c m d:Nat) (F:Nat->Acc) (O:Nat->Ord) (k:Bk) (w:World) (hF:Fo w a n F) (hO:Ords w b m O):
  Calls Tryz.prog 31 #[.agg #[.int .i64 k.day,.slice a n c,.slice b m d,.int .i64 k.inn,.int .i64 k.out,.int .i64 k.posted,.int .i64 k.missed]] w fun e w'=>Tells e (bankOk F n O m k)/\Below w.heap.size w w':=by
 have X0:Hid (BkAll (w.alloc (.cells #[.int .i64 k.day,.slice a n c,.slice b m d,.int .i64 k.inn,.int .i64 k.out,.int .i64 k.posted,.int .i64 k.missed] 38)) w.heap.size a b n c m d F O k w):=⟨BkBox.new w _ _ k 38,hF.alloc _,hO.alloc _,(Below.refl _ _).alloc (Nat.le_refl _) _⟩
 clear hF hO
 go_enter Tryz.func31,Tryz.ntmps31
 obtain ⟨⟨c0,c1,c2,c3,c4,c5,c6,hz⟩,xF,xO,hBw⟩:=X0.out
 go_wp2_with fail
 refine (l1In_b k.day 0 3000000 _).mono ?_
 rintro e w1 ⟨⟨b1,rfl,hb1⟩,B1⟩
 subst B1
 clear c0 c1 c2 c3 c4 c5 c6 hz xF xO hBw
 cases b1 with
 | false=>
  have H1:=hb1.2 rfl
  clear hb1
  have HN:Hid (¬bankOk F n O m k):=fun h=>H1 (by unfold bankOk at h;first|exact h.2.1|exact h.2.2.1|omega)
  clear H1
  go_wp2
  go_ret
  exact ⟨Tells.no HN.out,X0.out.2.2.2⟩
 | true=>
 have H1:=hb1.1 rfl
 clear hb1
 obtain ⟨⟨c0,c1,c2,c3,c4,c5,c6,hz⟩,xF,xO,hBw⟩:=X0.out
 go_wp2_with fail
 refine (specForest_b a n c F _ xF).mono ?_
 rintro e w2 ⟨⟨b2,rfl,hb2⟩,B2⟩
 have X2:=hidOf (X0.out.below B2)
 clear X0 B2 c0 c1 c2 c3 c4 c5 c6 hz xF xO hBw
 cases b2 with
 | false=>
  have H2:=hb2.2 rfl
  clear hb2
  have HN:Hid (¬bankOk F n O m k):=fun h=>H2 (by unfold bankOk at h;first|exact h.2.1|exact h.2.2.1|omega)
  clear H2
  go_wp2
  go_ret
  exact ⟨Tells.no HN.out,X2.out.2.2.2⟩
 | true=>
 have H2:=hb2.1 rfl
 clear hb2
 obtain ⟨⟨c0,c1,c2,c3,c4,c5,c6,hz⟩,xF,xO,hBw⟩:=X2.out
 go_wp2_with fail
 refine (specOrds b m d O _ xO).mono ?_
 rintro e w3 ⟨⟨b3,rfl,hb3⟩,B3⟩
 have X3:=hidOf (X2.out.below B3)
 clear X2 B3 c0 c1 c2 c3 c4 c5 c6 hz xF xO hBw
 cases b3 with
 | false=>
  have H3:=hb3.2 rfl
  clear hb3
  have HN:Hid (¬bankOk F n O m k):=fun h=>H3 (by unfold bankOk at h;first|exact h.2.1|exact h.2.2.1|omega)
  clear H3
  go_wp2
  go_ret
  exact ⟨Tells.no HN.out,X3.out.2.2.2⟩
 | true=>
 have H3:=hb3.1 rfl
 clear hb3
 obtain ⟨⟨c0,c1,c2,c3,c4,c5,c6,hz⟩,xF,xO,hBw⟩:=X3.out
 go_wp2_with fail
 refine (l1In_b k.inn 0 1000000000000000 _).mono ?_
 rintro e w4 ⟨⟨b4,rfl,hb4⟩,B4⟩
 subst B4
 clear c0 c1 c2 c3 c4 c5 c6 hz xF xO hBw
 cases b4 with
 | false=>
  have H4:=hb4.2 rfl
  clear hb4
  have HN:Hid (¬bankOk F n O m k):=fun h=>H4 (by unfold bankOk at h;first|exact h.2.1|exact h.2.2.1|omega)
  clear H4
  go_wp2
  go_ret
  exact ⟨Tells.no HN.out,X3.out.2.2.2⟩
 | true=>
 have H4:=hb4.1 rfl
 clear hb4
 obtain ⟨⟨c0,c1,c2,c3,c4,c5,c6,hz⟩,xF,xO,hBw⟩:=X3.out
 go_wp2_with fail
 refine (l1In_b k.out 0 1000000000000000 _).mono ?_
 rintro e w5 ⟨⟨b5,rfl,hb5⟩,B5⟩
 subst B5
 clear c0 c1 c2 c3 c4 c5 c6 hz xF xO hBw
 cases b5 with
 | false=>
  have H5:=hb5.2 rfl
  clear hb5
  have HN:Hid (¬bankOk F n O m k):=fun h=>H5 (by unfold bankOk at h;first|exact h.2.1|exact h.2.2.1|omega)
  clear H5
  go_wp2
  go_ret
  exact ⟨Tells.no HN.out,X3.out.2.2.2⟩
 | true=>
 have H5:=hb5.1 rfl
 clear hb5
 obtain ⟨⟨c0,c1,c2,c3,c4,c5,c6,hz⟩,xF,xO,hBw⟩:=X3.out
 go_wp2_with fail
 refine (l1In_b k.posted (-1000000000000000) 1000000000000000 _).mono ?_
 rintro e w6 ⟨⟨b6,rfl,hb6⟩,B6⟩
 subst B6
 clear c0 c1 c2 c3 c4 c5 c6 hz xF xO hBw
 cases b6 with
 | false=>
  have H6:=hb6.2 rfl
  clear hb6
  have HN:Hid (¬bankOk F n O m k):=fun h=>H6 (by unfold bankOk at h;first|exact h.2.1|exact h.2.2.1|omega)
  clear H6
  go_wp2
  go_ret
  exact ⟨Tells.no HN.out,X3.out.2.2.2⟩
 | true=>
 have H6:=hb6.1 rfl
 clear hb6
 obtain ⟨⟨c0,c1,c2,c3,c4,c5,c6,hz⟩,xF,xO,hBw⟩:=X3.out
 go_wp2_with fail
 refine (l1In_b k.missed 0 1000000000000000 _).mono ?_
 rintro e w7 ⟨⟨b7,rfl,hb7⟩,B7⟩
 subst B7
 clear c0 c1 c2 c3 c4 c5 c6 hz xF xO hBw
 cases b7 with
 | false=>
  have H7:=hb7.2 rfl
  clear hb7
  have HN:Hid (¬bankOk F n O m k):=fun h=>H7 (by unfold bankOk at h;first|exact h.2.1|exact h.2.2.1|omega)
  clear H7
  go_wp2
  go_ret
  exact ⟨Tells.no HN.out,X3.out.2.2.2⟩
 | true=>
 have H7:=hb7.1 rfl
 clear hb7
 obtain ⟨⟨c0,c1,c2,c3,c4,c5,c6,hz⟩,xF,xO,hBw⟩:=X3.out
 have XF:=hidOf xF
 have XB:=hidOf hBw
 have hR:Right F n:=H2
 have HR:=hidOf hR
 obtain ⟨t1,t2⟩:=total_bd hR n (Nat.le_refl _)
 have n12:=hR.1
 have hov:∀v q,(over w7 v).cell? ⟨w.heap.size,q,none⟩=w7.cell? ⟨w.heap.size,q,none⟩:=fun v q=>(below_over w7 v).cell (p:=⟨w.heap.size,q,none⟩) hz
 clear xF xO hBw hR
 have FOV:Hid (∀v,Fo (over w7 v) a n F):=fun v=>XF.out.below (below_over w7 v)
 have KY:Hid (total F n=k.inn-k.out+k.posted->bankOk F n O m k):=fun e=>⟨H1,H2,H3,H4,H5,H6,H7,e⟩
 have KN:Hid (bankOk F n O m k->total F n=k.inn-k.out+k.posted):=fun h=>h.2.2.2.2.2.2.2
 obtain ⟨T,hT⟩:∃T,T=total F n:=⟨_,rfl⟩
 have HT:=hidOf hT
 rw[←hT] at t1 t2 KY KN
 have CT:Hid (∀v,Calls Tryz.prog 87 #[.slice a n c] (over w7 v) fun e w'=>e=.returned (.int .i64 T)/\Below (over w7 v).heap.size (over w7 v) w'):=fun v=>by rw[HT.out];exact specTotal_yes a n c F _ (FOV.out v) HR.out
 clear hT
 by_cases e:T=k.inn-k.out+k.posted
 ·have eb:(T == k.inn-k.out+k.posted)=true:=by simp[e]
  clear e KN
  have KY':Hid (bankOk F n O m k):=KY.out (by simpa using eb)
  go_wp2
  refine wp_region_over (by kernel_rfl) (by kernel_rfl) ?_
  repeat (go_big_quiet_step ((first|(go_at_call 87;exact Calls.over_of (CT.out _)))))
  refine wpQuiet_nil ?_
  intro _ hw'
  obtain ⟨vq,hw''⟩:=hw'
  subst hw''
  go_wp2
  go_ret
  exact ⟨Tells.yes KY'.out,XB.out.trans ((below_over w7 vq).mono XB.out.size)⟩
 ·have eb:(T == k.inn-k.out+k.posted)=false:=by simp[e]
  have KN':Hid (¬bankOk F n O m k):=fun h=>e (KN.out h)
  clear e
  go_wp2
  refine wp_region_over (by kernel_rfl) (by kernel_rfl) ?_
  repeat (go_big_quiet_step ((first|(go_at_call 87;exact Calls.over_of (CT.out _)))))
  refine wpQuiet_nil ?_
  intro _ hw'
  obtain ⟨vq,hw''⟩:=hw'
  subst hw''
  go_wp2
  go_ret
  exact ⟨Tells.no KN'.out,XB.out.trans ((below_over w7 vq).mono XB.out.size)⟩
theorem implBank (a b:Option Addr) (n c m d:Nat) (F:Nat->Acc) (O:Nat->Ord) (k:Bk) (w:World) (hF:Fo w a n F) (hO:Ords w b m O):
  Calls Tryz.prog 27 #[.agg #[.int .i64 k.day,.slice a n c,.slice b m d,.int .i64 k.inn,.int .i64 k.out,.int .i64 k.posted,.int .i64 k.missed]] w fun e w'=>Tells e (bankOk F n O m k)/\Below w.heap.size w w':=by
 have X0:Hid (BkAll (w.alloc (.cells #[.int .i64 k.day,.slice a n c,.slice b m d,.int .i64 k.inn,.int .i64 k.out,.int .i64 k.posted,.int .i64 k.missed] 38)) w.heap.size a b n c m d F O k w):=⟨BkBox.new w _ _ k 38,hF.alloc _,hO.alloc _,(Below.refl _ _).alloc (Nat.le_refl _) _⟩
 clear hF hO
 go_enter Tryz.func27,Tryz.ntmps27
 obtain ⟨⟨c0,c1,c2,c3,c4,c5,c6,hz⟩,xF,xO,hBw⟩:=X0.out
 go_wp2_with fail
 refine (dayOk_b k.day _).mono ?_
 rintro e w1 ⟨⟨b1,rfl,hb1⟩,B1⟩
 subst B1
 clear c0 c1 c2 c3 c4 c5 c6 hz xF xO hBw
 cases b1 with
 | false=>
  have H1:=hb1.2 rfl
  clear hb1
  have HN:Hid (¬bankOk F n O m k):=fun h=>H1 (by unfold bankOk at h;first|exact h.2.1|exact h.2.2.1|omega)
  clear H1
  go_wp2
  go_ret
  exact ⟨Tells.no HN.out,X0.out.2.2.2⟩
 | true=>
 have H1:=hb1.1 rfl
 clear hb1
 obtain ⟨⟨c0,c1,c2,c3,c4,c5,c6,hz⟩,xF,xO,hBw⟩:=X0.out
 go_wp2_with fail
 refine (implForest_b a n c F _ xF).mono ?_
 rintro e w2 ⟨⟨b2,rfl,hb2⟩,B2⟩
 have X2:=hidOf (X0.out.below B2)
 clear X0 B2 c0 c1 c2 c3 c4 c5 c6 hz xF xO hBw
 cases b2 with
 | false=>
  have H2:=hb2.2 rfl
  clear hb2
  have HN:Hid (¬bankOk F n O m k):=fun h=>H2 (by unfold bankOk at h;first|exact h.2.1|exact h.2.2.1|omega)
  clear H2
  go_wp2
  go_ret
  exact ⟨Tells.no HN.out,X2.out.2.2.2⟩
 | true=>
 have H2:=hb2.1 rfl
 clear hb2
 obtain ⟨⟨c0,c1,c2,c3,c4,c5,c6,hz⟩,xF,xO,hBw⟩:=X2.out
 go_wp2_with fail
 refine (implOrds b m d O _ xO).mono ?_
 rintro e w3 ⟨⟨b3,rfl,hb3⟩,B3⟩
 have X3:=hidOf (X2.out.below B3)
 clear X2 B3 c0 c1 c2 c3 c4 c5 c6 hz xF xO hBw
 cases b3 with
 | false=>
  have H3:=hb3.2 rfl
  clear hb3
  have HN:Hid (¬bankOk F n O m k):=fun h=>H3 (by unfold bankOk at h;first|exact h.2.1|exact h.2.2.1|omega)
  clear H3
  go_wp2
  go_ret
  exact ⟨Tells.no HN.out,X3.out.2.2.2⟩
 | true=>
 have H3:=hb3.1 rfl
 clear hb3
 obtain ⟨⟨c0,c1,c2,c3,c4,c5,c6,hz⟩,xF,xO,hBw⟩:=X3.out
 go_wp2_with fail
 refine (totalOk_b k.inn _).mono ?_
 rintro e w4 ⟨⟨b4,rfl,hb4⟩,B4⟩
 subst B4
 clear c0 c1 c2 c3 c4 c5 c6 hz xF xO hBw
 cases b4 with
 | false=>
  have H4:=hb4.2 rfl
  clear hb4
  have HN:Hid (¬bankOk F n O m k):=fun h=>H4 (by unfold bankOk at h;first|exact h.2.1|exact h.2.2.1|omega)
  clear H4
  go_wp2
  go_ret
  exact ⟨Tells.no HN.out,X3.out.2.2.2⟩
 | true=>
 have H4:=hb4.1 rfl
 clear hb4
 obtain ⟨⟨c0,c1,c2,c3,c4,c5,c6,hz⟩,xF,xO,hBw⟩:=X3.out
 go_wp2_with fail
 refine (totalOk_b k.out _).mono ?_
 rintro e w5 ⟨⟨b5,rfl,hb5⟩,B5⟩
 subst B5
 clear c0 c1 c2 c3 c4 c5 c6 hz xF xO hBw
 cases b5 with
 | false=>
  have H5:=hb5.2 rfl
  clear hb5
  have HN:Hid (¬bankOk F n O m k):=fun h=>H5 (by unfold bankOk at h;first|exact h.2.1|exact h.2.2.1|omega)
  clear H5
  go_wp2
  go_ret
  exact ⟨Tells.no HN.out,X3.out.2.2.2⟩
 | true=>
 have H5:=hb5.1 rfl
 clear hb5
 obtain ⟨⟨c0,c1,c2,c3,c4,c5,c6,hz⟩,xF,xO,hBw⟩:=X3.out
 go_wp2_with fail
 refine (totalOk_b k.missed _).mono ?_
 rintro e w6 ⟨⟨b6,rfl,hb6⟩,B6⟩
 subst B6
 clear c0 c1 c2 c3 c4 c5 c6 hz xF xO hBw
 cases b6 with
 | false=>
  have H6:=hb6.2 rfl
  clear hb6
  have HN:Hid (¬bankOk F n O m k):=fun h=>H6 (by unfold bankOk at h;first|exact h.2.1|exact h.2.2.1|omega)
  clear H6
  go_wp2
  go_ret
  exact ⟨Tells.no HN.out,X3.out.2.2.2⟩
 | true=>
 have H6:=hb6.1 rfl
 clear hb6
 by_cases q7: -1000000000000000<=k.posted
 rotate_left
 ·have q7b:k.posted< -1000000000000000:=by omega
  obtain ⟨⟨c0,c1,c2,c3,c4,c5,c6,_⟩,_,_,hBw⟩:=X3.out
  have HBw:=hidOf hBw
  clear hBw
  go_wp2
  go_ret
  exact ⟨Tells.no (fun h=>by unfold bankOk at h;omega),HBw.out⟩
 by_cases q8:k.posted<=1000000000000000
 rotate_left
 ·have q8b:1000000000000000<k.posted:=by omega
  obtain ⟨⟨c0,c1,c2,c3,c4,c5,c6,_⟩,_,_,hBw⟩:=X3.out
  have HBw:=hidOf hBw
  clear hBw
  go_wp2
  go_ret
  exact ⟨Tells.no (fun h=>by unfold bankOk at h;omega),HBw.out⟩
 obtain ⟨⟨c0,c1,c2,c3,c4,c5,c6,hz⟩,xF,xO,hBw⟩:=X3.out
 have XF:=hidOf xF
 have XB:=hidOf hBw
 have hR:Right F n:=H2
 have HR:=hidOf hR
 obtain ⟨t1,t2⟩:=total_bd hR n (Nat.le_refl _)
 have n12:=hR.1
 have hov:∀v q,(over w6 v).cell? ⟨w.heap.size,q,none⟩=w6.cell? ⟨w.heap.size,q,none⟩:=fun v q=>(below_over w6 v).cell (p:=⟨w.heap.size,q,none⟩) hz
 clear xF xO hBw hR
 have FOV:Hid (∀v,Fo (over w6 v) a n F):=fun v=>XF.out.below (below_over w6 v)
 have KY:Hid (total F n=k.inn-k.out+k.posted->bankOk F n O m k):=fun e=>⟨H1,H2,H3,H4,H5,⟨q7,q8⟩,H6,e⟩
 have KN:Hid (bankOk F n O m k->total F n=k.inn-k.out+k.posted):=fun h=>h.2.2.2.2.2.2.2
 obtain ⟨T,hT⟩:∃T,T=total F n:=⟨_,rfl⟩
 have HT:=hidOf hT
 rw[←hT] at t1 t2 KY KN
 have CT:Hid (∀v,Calls Tryz.prog 20 #[.slice a n c] (over w6 v) fun e w'=>e=.returned (.int .i64 T)/\Below (over w6 v).heap.size (over w6 v) w'):=fun v=>by rw[HT.out];exact implTotal_yes a n c F _ (FOV.out v) HR.out
 clear hT
 by_cases e:T=k.inn-k.out+k.posted
 ·have eb:(T == k.inn-k.out+k.posted)=true:=by simp[e]
  clear e KN
  have KY':Hid (bankOk F n O m k):=KY.out (by simpa using eb)
  go_wp2
  refine wp_region_over (by kernel_rfl) (by kernel_rfl) ?_
  repeat (go_big_quiet_step ((first|(go_at_call 20;exact Calls.over_of (CT.out _)))))
  refine wpQuiet_nil ?_
  intro _ hw'
  obtain ⟨vq,hw''⟩:=hw'
  subst hw''
  go_wp2
  go_ret
  exact ⟨Tells.yes KY'.out,XB.out.trans ((below_over w6 vq).mono XB.out.size)⟩
 ·have eb:(T == k.inn-k.out+k.posted)=false:=by simp[e]
  have KN':Hid (¬bankOk F n O m k):=fun h=>e (KN.out h)
  clear e
  go_wp2
  refine wp_region_over (by kernel_rfl) (by kernel_rfl) ?_
  repeat (go_big_quiet_step ((first|(go_at_call 20;exact Calls.over_of (CT.out _)))))
  refine wpQuiet_nil ?_
  intro _ hw'
  obtain ⟨vq,hw''⟩:=hw'
  subst hw''
  go_wp2
  go_ret
  exact ⟨Tells.no KN'.out,XB.out.trans ((below_over w6 vq).mono XB.out.size)⟩
open Go.ChangeShapes Go.WideShapes Go.ChangeAt Go.RowKit
set_option maxRecDepth 8000
theorem list8 {l:List Value} (h:l.length=8):∃a b c d e f g i,l=[a,b,c,d,e,f,g,i]:=by
 match l,h with
 | [a,b,c,d,e,f,g,i],_=>exact ⟨a,b,c,d,e,f,g,i,rfl⟩
theorem cells47:Tryz.prog.cellsOf 125=8:=by kernel_rfl
theorem cells2:Tryz.prog.cellsOf 2=1:=by kernel_rfl
theorem cells4:Tryz.prog.cellsOf 4=1:=by kernel_rfl
theorem acc_of_trod {H:Type} {enc:TypeId×Value->H} {W:World} {base:Nat} {spare:Nat->Bool} {held:Bool} {fuel:Nat} {cs:List Value} {x:DataW H×List MemPlace}
  (h:DataW.trod enc Tryz.prog W base spare held fuel 125 cs=some x):∃A:Acc,cs=[.int .i64 A.id,.int .i64 A.up,.int .i64 A.limit,.int .i64 A.rate,.int .i64 A.target,.bool A.frozen,.int .i64 A.balance,.int .i64 A.carry]:=by
 obtain ⟨xs,n,_,_,hl,hlen,hf⟩:=DataW.trod_struct Tryz.underlying125 h
 rw[cells47] at hl
 obtain ⟨c0,c1,c2,c3,c4,c5,c6,c7,rfl⟩:=list8 hl
 have hx:xs.length=8:=by simpa using hlen
 have g0:DataW.trod enc Tryz.prog W base spare held n 2 [c0]=xs[0]? :=by have:=hf 0 _ rfl;simpa [cells2] using this
 have g1:DataW.trod enc Tryz.prog W base spare held n 2 [c1]=xs[1]? :=by have:=hf 1 _ rfl;simpa [cells2] using this
 have g2:DataW.trod enc Tryz.prog W base spare held n 2 [c2]=xs[2]? :=by have:=hf 2 _ rfl;simpa [cells2] using this
 have g3:DataW.trod enc Tryz.prog W base spare held n 2 [c3]=xs[3]? :=by have:=hf 3 _ rfl;simpa [cells2] using this
 have g4:DataW.trod enc Tryz.prog W base spare held n 2 [c4]=xs[4]? :=by have:=hf 4 _ rfl;simpa [cells2] using this
 have g5:DataW.trod enc Tryz.prog W base spare held n 4 [c5]=xs[5]? :=by have:=hf 5 _ rfl;simpa [cells4] using this
 have g6:DataW.trod enc Tryz.prog W base spare held n 2 [c6]=xs[6]? :=by have:=hf 6 _ rfl;simpa [cells2] using this
 have g7:DataW.trod enc Tryz.prog W base spare held n 2 [c7]=xs[7]? :=by have:=hf 7 _ rfl;simpa [cells2] using this
 rw[List.getElem?_eq_getElem (by omega)] at g0 g1 g2 g3 g4 g5 g6 g7
 obtain ⟨x0,e0,_,_⟩:=DataW.trod_int Tryz.underlying2 g0
 obtain ⟨x1,e1,_,_⟩:=DataW.trod_int Tryz.underlying2 g1
 obtain ⟨x2,e2,_,_⟩:=DataW.trod_int Tryz.underlying2 g2
 obtain ⟨x3,e3,_,_⟩:=DataW.trod_int Tryz.underlying2 g3
 obtain ⟨x4,e4,_,_⟩:=DataW.trod_int Tryz.underlying2 g4
 obtain ⟨x5,e5,_⟩:=DataW.trod_bool Tryz.underlying4 g5
 obtain ⟨x6,e6,_,_⟩:=DataW.trod_int Tryz.underlying2 g6
 obtain ⟨x7,e7,_,_⟩:=DataW.trod_int Tryz.underlying2 g7
 simp at e0 e1 e2 e3 e4 e5 e6 e7
 exact ⟨⟨x0,x1,x2,x3,x4,x5,x6,x7⟩,by rw[e0,e1,e2,e3,e4,e5,e6,e7]⟩
theorem Fo_of_cells {H:Type} {enc:TypeId×Value->H} {W:World} {fuel:Nat} {cs:List Value} {x:DataW H×List MemPlace}
  (hf:DataW.trod enc Tryz.prog W 0 (fun _=>true) true fuel 62 cs=some x):∃(a:Option Addr) (len cap:Nat),cs=[.slice a len cap]/\len<=9223372036854775807/\∃F:Nat->Acc,len<=1048576->Fo W a len F:=by
 rcases Go.Deep.open_slice Tryz.underlying62 hf with ⟨hcs,_⟩|⟨x,l,c,m,n,D,Pl,hcs,_,hlc,hm,hmm,_,hel⟩
 ·exact ⟨none,0,0,hcs,by omega,fun _=>⟨0,0,0,0,0,false,0,0⟩,fun _=>⟨by omega,Or.inl rfl⟩⟩
 ·unfold maxLen at hm
  refine ⟨some x,l,c,hcs,by omega,?_⟩
  have hex:∀i,i<l->∃A:Acc,∀j,j<8->W.cell? ((x.add (i*8)).add j)=[Value.int .i64 A.id,.int .i64 A.up,.int .i64 A.limit,.int .i64 A.rate,.int .i64 A.target,.bool A.frozen,.int .i64 A.balance,.int .i64 A.carry][j]? :=by
   intro i hi
   obtain ⟨cs',hc,ht⟩:=hel i (by rw[hmm];simp;omega)
   obtain ⟨A,rfl⟩:=acc_of_trod ht
   rw[cells47] at hc
   obtain ⟨_,_,hall⟩:=World.cells?_some hc
   exact ⟨A,fun j hj=>hall j hj⟩
  haveI:Inhabited Acc:=⟨⟨0,0,0,0,0,false,0,0⟩⟩
  obtain ⟨F,hF⟩:=Go.Deep.choose_lt hex
  refine ⟨F,fun hle=>⟨hle,?_⟩⟩
  by_cases h0:l=0
  ·exact Or.inl h0
  right
  obtain ⟨b,off,spot⟩:=x
  have c00:=hF 0 (by omega) 0 (by omega)
  have hspot:spot=none:=by simpa [Addr.add] using World.cell?_spot c00
  subst hspot
  have hadd:∀q,(⟨b,off,none⟩:Addr).add q=⟨b,off+q,none⟩:=fun q=>by
   by_cases e:q=0
   ·subst e;simp[Addr.add]
   ·simp[Addr.add,e]
  have hadd2:∀q r,((⟨b,off,none⟩:Addr).add q).add r=⟨b,off+q+r,none⟩:=fun q r=>by
   rw[Go.Deep.add_add,hadd,Nat.add_assoc]
  refine ⟨b,off,rfl,World.block_lt_of_cell? W _ c00,fun i hi=>?_⟩
  have g:=hF i hi
  simp only[hadd2] at g
  exact ⟨g 0 (by omega),g 1 (by omega),g 2 (by omega),g 3 (by omega),g 4 (by omega),g 5 (by omega),g 6 (by omega),g 7 (by omega)⟩
theorem Ords_of_cells {H:Type} {enc:TypeId×Value->H} {W:World} {fuel:Nat} {cs:List Value} {x:DataW H×List MemPlace}
  (hf:DataW.trod enc Tryz.prog W 0 (fun _=>true) true fuel 67 cs=some x):∃(a:Option Addr) (len cap:Nat),cs=[.slice a len cap]/\len<=9223372036854775807/\∃F:Nat->Ord,len<=1048576->Ords W a len F:=by
 rcases Go.Deep.open_slice Tryz.underlying67 hf with ⟨hcs,_⟩|⟨x,l,c,m,n,D,Pl,hcs,_,hlc,hm,hmm,_,hel⟩
 ·exact ⟨none,0,0,hcs,by omega,fun _=>⟨0,0,0,0,0,0,0⟩,fun _=>⟨by omega,Or.inl rfl⟩⟩
 ·unfold maxLen at hm
  refine ⟨some x,l,c,hcs,by omega,?_⟩
  have hex:∀i,i<l->∃A:Ord,∀j,j<7->W.cell? ((x.add (i*7)).add j)=[Value.int .i64 A.id,.int .i64 A.src,.int .i64 A.dst,.int .i64 A.amount,.int .i64 A.first,.int .i64 A.every,.int .i64 A.times][j]? :=by
   intro i hi
   obtain ⟨cs',hc,ht⟩:=hel i (by rw[hmm];simp;omega)
   obtain ⟨A,rfl⟩:=ord_of_trod ht
   rw[cellsOrd] at hc
   obtain ⟨_,_,hall⟩:=World.cells?_some hc
   exact ⟨A,fun j hj=>hall j hj⟩
  haveI:Inhabited Ord:=⟨⟨0,0,0,0,0,0,0⟩⟩
  obtain ⟨F,hF⟩:=Go.Deep.choose_lt hex
  refine ⟨F,fun hle=>⟨hle,?_⟩⟩
  by_cases h0:l=0
  ·exact Or.inl h0
  right
  obtain ⟨b,off,spot⟩:=x
  have c00:=hF 0 (by omega) 0 (by omega)
  have hspot:spot=none:=by simpa [Addr.add] using World.cell?_spot c00
  subst hspot
  have hadd:∀q,(⟨b,off,none⟩:Addr).add q=⟨b,off+q,none⟩:=fun q=>by
   by_cases e:q=0
   ·subst e;simp[Addr.add]
   ·simp[Addr.add,e]
  have hadd2:∀q r,((⟨b,off,none⟩:Addr).add q).add r=⟨b,off+q+r,none⟩:=fun q r=>by
   rw[Go.Deep.add_add,hadd,Nat.add_assoc]
  refine ⟨b,off,rfl,World.block_lt_of_cell? W _ c00,fun i hi=>?_⟩
  have g:=hF i hi
  simp only[hadd2] at g
  exact ⟨g 0 (by omega),g 1 (by omega),g 2 (by omega),g 3 (by omega),g 4 (by omega),g 5 (by omega),g 6 (by omega)⟩
theorem cellsBank:Tryz.prog.cellsOf 69=7:=by kernel_rfl
theorem cellsFo:Tryz.prog.cellsOf 62=1:=by kernel_rfl
theorem cellsOl:Tryz.prog.cellsOf 67=1:=by kernel_rfl
theorem bank_of_trod {H:Type} {enc:TypeId×Value->H} {W:World} {fuel:Nat} {cs:List Value} {x:DataW H×List MemPlace}
  (h:DataW.trod enc Tryz.prog W 0 (fun _=>true) true fuel 69 cs=some x):∃(x0 x3 x4 x5 x6:Int) (a:Option Addr) (n c:Nat) (b:Option Addr) (m d:Nat),cs=[.int .i64 x0,.slice a n c,.slice b m d,.int .i64 x3,.int .i64 x4,.int .i64 x5,.int .i64 x6]/\n<=9223372036854775807/\m<=9223372036854775807/\∃(F:Nat->Acc) (O:Nat->Ord),(n<=1048576->Fo W a n F)/\(m<=1048576->Ords W b m O):=by
 obtain ⟨xs,n,_,_,hl,hlen,hf⟩:=DataW.trod_struct Tryz.underlying69 h
 rw[cellsBank] at hl
 obtain ⟨c0,c1,c2,c3,c4,c5,c6,rfl⟩:=list7o hl
 have hx:xs.length=7:=by simpa using hlen
 have g0:DataW.trod enc Tryz.prog W 0 (fun _=>true) true n 2 [c0]=xs[0]? :=by have:=hf 0 _ rfl;simpa [cellsInt,cellsFo,cellsOl] using this
 have g1:DataW.trod enc Tryz.prog W 0 (fun _=>true) true n 62 [c1]=xs[1]? :=by have:=hf 1 _ rfl;simpa [cellsInt,cellsFo,cellsOl] using this
 have g2:DataW.trod enc Tryz.prog W 0 (fun _=>true) true n 67 [c2]=xs[2]? :=by have:=hf 2 _ rfl;simpa [cellsInt,cellsFo,cellsOl] using this
 have g3:DataW.trod enc Tryz.prog W 0 (fun _=>true) true n 2 [c3]=xs[3]? :=by have:=hf 3 _ rfl;simpa [cellsInt,cellsFo,cellsOl] using this
 have g4:DataW.trod enc Tryz.prog W 0 (fun _=>true) true n 2 [c4]=xs[4]? :=by have:=hf 4 _ rfl;simpa [cellsInt,cellsFo,cellsOl] using this
 have g5:DataW.trod enc Tryz.prog W 0 (fun _=>true) true n 2 [c5]=xs[5]? :=by have:=hf 5 _ rfl;simpa [cellsInt,cellsFo,cellsOl] using this
 have g6:DataW.trod enc Tryz.prog W 0 (fun _=>true) true n 2 [c6]=xs[6]? :=by have:=hf 6 _ rfl;simpa [cellsInt,cellsFo,cellsOl] using this
 rw[List.getElem?_eq_getElem (by omega)] at g0 g1 g2 g3 g4 g5 g6
 obtain ⟨x0,e0,_,_⟩:=DataW.trod_int Tryz.underlying2 g0
 obtain ⟨x3,e3,_,_⟩:=DataW.trod_int Tryz.underlying2 g3
 obtain ⟨x4,e4,_,_⟩:=DataW.trod_int Tryz.underlying2 g4
 obtain ⟨x5,e5,_,_⟩:=DataW.trod_int Tryz.underlying2 g5
 obtain ⟨x6,e6,_,_⟩:=DataW.trod_int Tryz.underlying2 g6
 obtain ⟨a,ln,cp,ea,hn,F,hF⟩:=Fo_of_cells g1
 obtain ⟨b,lm,dp,eb,hm,O,hO⟩:=Ords_of_cells g2
 simp at e0 e3 e4 e5 e6 ea eb
 exact ⟨x0,x3,x4,x5,x6,a,ln,cp,b,lm,dp,by rw[e0,e3,e4,e5,e6,ea,eb],hn,hm,F,O,hF,hO⟩
open Go.ChangeShapes Go.WideShapes Go.ChangeAt Go.RowKit
set_option maxRecDepth 8000
def Box7 (w:World) (R:Nat) (v0 v1 v2 v3 v4 v5 v6:Value):Prop:=(w.cell? ⟨R,0,none⟩=some v0/\w.cell? ⟨R,1,none⟩=some v1/\w.cell? ⟨R,2,none⟩=some v2/\w.cell? ⟨R,3,none⟩=some v3/\w.cell? ⟨R,4,none⟩=some v4/\w.cell? ⟨R,5,none⟩=some v5/\w.cell? ⟨R,6,none⟩=some v6)/\(∀o,w.frozen? ⟨R,o,none⟩=false)/\R<w.heap.size
theorem Box7.new (w:World) (v0 v1 v2 v3 v4 v5 v6:Value) (T:Nat):Box7 (w.alloc (.cells #[v0,v1,v2,v3,v4,v5,v6] T)) w.heap.size v0 v1 v2 v3 v4 v5 v6:=
 ⟨⟨by simp[go_sem],by simp[go_sem],by simp[go_sem],by simp[go_sem],by simp[go_sem],by simp[go_sem],by simp[go_sem]⟩,fun o=>by simp[go_sem],by simp⟩
theorem Box7.kept {n₀:Nat} {w w':World} {R:Nat} {v0 v1 v2 v3 v4 v5 v6:Value} (h:Box7 w R v0 v1 v2 v3 v4 v5 v6) (hb:Below n₀ w w') (hR:R<n₀):Box7 w' R v0 v1 v2 v3 v4 v5 v6:=by
 obtain ⟨⟨h0,h1,h2,h3,h4,h5,h6⟩,hf,hz⟩:=h
 exact ⟨⟨by rw[hb.cell (p:=⟨R,0,none⟩) hR];exact h0,by rw[hb.cell (p:=⟨R,1,none⟩) hR];exact h1,by rw[hb.cell (p:=⟨R,2,none⟩) hR];exact h2,by rw[hb.cell (p:=⟨R,3,none⟩) hR];exact h3,by rw[hb.cell (p:=⟨R,4,none⟩) hR];exact h4,by rw[hb.cell (p:=⟨R,5,none⟩) hR];exact h5,by rw[hb.cell (p:=⟨R,6,none⟩) hR];exact h6⟩,fun o=>by rw[hb.frozen (p:=⟨R,o,none⟩) hR];exact hf o,Nat.lt_of_lt_of_le hz hb.size⟩
theorem Box7.far {w:World} {R:Nat} {v0 v1 v2 v3 v4 v5 v6:Value} (h:Box7 w R v0 v1 v2 v3 v4 v5 v6) {Q:Nat} (hne:Q≠R) (q:Nat) (u:Value):Box7 (w.setCell ⟨Q,q,none⟩ u) R v0 v1 v2 v3 v4 v5 v6:=by
 obtain ⟨⟨h0,h1,h2,h3,h4,h5,h6⟩,hf,hz⟩:=h
 have o:∀j,(w.setCell ⟨Q,q,none⟩ u).cell? ⟨R,j,none⟩=w.cell? ⟨R,j,none⟩:=fun j=>World.cell?_setCell_other _ _ _ _ (by intro e;exact hne (congrArg Addr.block e))
 exact ⟨⟨by rw[o];exact h0,by rw[o];exact h1,by rw[o];exact h2,by rw[o];exact h3,by rw[o];exact h4,by rw[o];exact h5,by rw[o];exact h6⟩,fun o=>by rw[World.frozen?_setCell];exact hf o,by simpa [World.setCell] using hz⟩
theorem Box7.set0 {w:World} {R:Nat} {v0 v1 v2 v3 v4 v5 v6:Value} (h:Box7 w R v0 v1 v2 v3 v4 v5 v6) (u:Value):Box7 (w.setCell ⟨R,0,none⟩ u) R u v1 v2 v3 v4 v5 v6:=by
 obtain ⟨⟨h0,h1,h2,h3,h4,h5,h6⟩,hf,hz⟩:=h
 have o:∀j,j≠0->(w.setCell ⟨R,0,none⟩ u).cell? ⟨R,j,none⟩=w.cell? ⟨R,j,none⟩:=fun j hj=>World.cell?_setCell_other _ _ _ _ (by intro e;exact hj (congrArg Addr.off e).symm)
 exact ⟨⟨World.cell?_setCell_same' _ _ _ (by rw[h0];rfl),by rw[o 1 (by omega)];exact h1,by rw[o 2 (by omega)];exact h2,by rw[o 3 (by omega)];exact h3,by rw[o 4 (by omega)];exact h4,by rw[o 5 (by omega)];exact h5,by rw[o 6 (by omega)];exact h6⟩,fun o=>by rw[World.frozen?_setCell];exact hf o,by simpa [World.setCell] using hz⟩
theorem Box7.set1 {w:World} {R:Nat} {v0 v1 v2 v3 v4 v5 v6:Value} (h:Box7 w R v0 v1 v2 v3 v4 v5 v6) (u:Value):Box7 (w.setCell ⟨R,1,none⟩ u) R v0 u v2 v3 v4 v5 v6:=by
 obtain ⟨⟨h0,h1,h2,h3,h4,h5,h6⟩,hf,hz⟩:=h
 have o:∀j,j≠1->(w.setCell ⟨R,1,none⟩ u).cell? ⟨R,j,none⟩=w.cell? ⟨R,j,none⟩:=fun j hj=>World.cell?_setCell_other _ _ _ _ (by intro e;exact hj (congrArg Addr.off e).symm)
 exact ⟨⟨by rw[o 0 (by omega)];exact h0,World.cell?_setCell_same' _ _ _ (by rw[h1];rfl),by rw[o 2 (by omega)];exact h2,by rw[o 3 (by omega)];exact h3,by rw[o 4 (by omega)];exact h4,by rw[o 5 (by omega)];exact h5,by rw[o 6 (by omega)];exact h6⟩,fun o=>by rw[World.frozen?_setCell];exact hf o,by simpa [World.setCell] using hz⟩
theorem Box7.set2 {w:World} {R:Nat} {v0 v1 v2 v3 v4 v5 v6:Value} (h:Box7 w R v0 v1 v2 v3 v4 v5 v6) (u:Value):Box7 (w.setCell ⟨R,2,none⟩ u) R v0 v1 u v3 v4 v5 v6:=by
 obtain ⟨⟨h0,h1,h2,h3,h4,h5,h6⟩,hf,hz⟩:=h
 have o:∀j,j≠2->(w.setCell ⟨R,2,none⟩ u).cell? ⟨R,j,none⟩=w.cell? ⟨R,j,none⟩:=fun j hj=>World.cell?_setCell_other _ _ _ _ (by intro e;exact hj (congrArg Addr.off e).symm)
 exact ⟨⟨by rw[o 0 (by omega)];exact h0,by rw[o 1 (by omega)];exact h1,World.cell?_setCell_same' _ _ _ (by rw[h2];rfl),by rw[o 3 (by omega)];exact h3,by rw[o 4 (by omega)];exact h4,by rw[o 5 (by omega)];exact h5,by rw[o 6 (by omega)];exact h6⟩,fun o=>by rw[World.frozen?_setCell];exact hf o,by simpa [World.setCell] using hz⟩
theorem Box7.set3 {w:World} {R:Nat} {v0 v1 v2 v3 v4 v5 v6:Value} (h:Box7 w R v0 v1 v2 v3 v4 v5 v6) (u:Value):Box7 (w.setCell ⟨R,3,none⟩ u) R v0 v1 v2 u v4 v5 v6:=by
 obtain ⟨⟨h0,h1,h2,h3,h4,h5,h6⟩,hf,hz⟩:=h
 have o:∀j,j≠3->(w.setCell ⟨R,3,none⟩ u).cell? ⟨R,j,none⟩=w.cell? ⟨R,j,none⟩:=fun j hj=>World.cell?_setCell_other _ _ _ _ (by intro e;exact hj (congrArg Addr.off e).symm)
 exact ⟨⟨by rw[o 0 (by omega)];exact h0,by rw[o 1 (by omega)];exact h1,by rw[o 2 (by omega)];exact h2,World.cell?_setCell_same' _ _ _ (by rw[h3];rfl),by rw[o 4 (by omega)];exact h4,by rw[o 5 (by omega)];exact h5,by rw[o 6 (by omega)];exact h6⟩,fun o=>by rw[World.frozen?_setCell];exact hf o,by simpa [World.setCell] using hz⟩
theorem Box7.set4 {w:World} {R:Nat} {v0 v1 v2 v3 v4 v5 v6:Value} (h:Box7 w R v0 v1 v2 v3 v4 v5 v6) (u:Value):Box7 (w.setCell ⟨R,4,none⟩ u) R v0 v1 v2 v3 u v5 v6:=by
 obtain ⟨⟨h0,h1,h2,h3,h4,h5,h6⟩,hf,hz⟩:=h
 have o:∀j,j≠4->(w.setCell ⟨R,4,none⟩ u).cell? ⟨R,j,none⟩=w.cell? ⟨R,j,none⟩:=fun j hj=>World.cell?_setCell_other _ _ _ _ (by intro e;exact hj (congrArg Addr.off e).symm)
 exact ⟨⟨by rw[o 0 (by omega)];exact h0,by rw[o 1 (by omega)];exact h1,by rw[o 2 (by omega)];exact h2,by rw[o 3 (by omega)];exact h3,World.cell?_setCell_same' _ _ _ (by rw[h4];rfl),by rw[o 5 (by omega)];exact h5,by rw[o 6 (by omega)];exact h6⟩,fun o=>by rw[World.frozen?_setCell];exact hf o,by simpa [World.setCell] using hz⟩
theorem Box7.set5 {w:World} {R:Nat} {v0 v1 v2 v3 v4 v5 v6:Value} (h:Box7 w R v0 v1 v2 v3 v4 v5 v6) (u:Value):Box7 (w.setCell ⟨R,5,none⟩ u) R v0 v1 v2 v3 v4 u v6:=by
 obtain ⟨⟨h0,h1,h2,h3,h4,h5,h6⟩,hf,hz⟩:=h
 have o:∀j,j≠5->(w.setCell ⟨R,5,none⟩ u).cell? ⟨R,j,none⟩=w.cell? ⟨R,j,none⟩:=fun j hj=>World.cell?_setCell_other _ _ _ _ (by intro e;exact hj (congrArg Addr.off e).symm)
 exact ⟨⟨by rw[o 0 (by omega)];exact h0,by rw[o 1 (by omega)];exact h1,by rw[o 2 (by omega)];exact h2,by rw[o 3 (by omega)];exact h3,by rw[o 4 (by omega)];exact h4,World.cell?_setCell_same' _ _ _ (by rw[h5];rfl),by rw[o 6 (by omega)];exact h6⟩,fun o=>by rw[World.frozen?_setCell];exact hf o,by simpa [World.setCell] using hz⟩
theorem Box7.set6 {w:World} {R:Nat} {v0 v1 v2 v3 v4 v5 v6:Value} (h:Box7 w R v0 v1 v2 v3 v4 v5 v6) (u:Value):Box7 (w.setCell ⟨R,6,none⟩ u) R v0 v1 v2 v3 v4 v5 u:=by
 obtain ⟨⟨h0,h1,h2,h3,h4,h5,h6⟩,hf,hz⟩:=h
 have o:∀j,j≠6->(w.setCell ⟨R,6,none⟩ u).cell? ⟨R,j,none⟩=w.cell? ⟨R,j,none⟩:=fun j hj=>World.cell?_setCell_other _ _ _ _ (by intro e;exact hj (congrArg Addr.off e).symm)
 exact ⟨⟨by rw[o 0 (by omega)];exact h0,by rw[o 1 (by omega)];exact h1,by rw[o 2 (by omega)];exact h2,by rw[o 3 (by omega)];exact h3,by rw[o 4 (by omega)];exact h4,by rw[o 5 (by omega)];exact h5,World.cell?_setCell_same' _ _ _ (by rw[h6];rfl)⟩,fun o=>by rw[World.frozen?_setCell];exact hf o,by simpa [World.setCell] using hz⟩
theorem below_far {B:Nat} {w W:World} (h:Below B w W) {Q:Nat} (hQ:B<=Q) (q:Nat) (u:Value):Below B w (W.setCell ⟨Q,q,none⟩ u):=h.setCell (p:=⟨Q,q,none⟩) hQ u
theorem Row.far {w:World} {R n k:Nat} {F:Nat->Acc} (h:Row w R n k F) {Q:Nat} (hne:Q≠R) (q:Nat) (u:Value):Row (w.setCell ⟨Q,q,none⟩ u) R n k F:=by
 have o:∀j,(w.setCell ⟨Q,q,none⟩ u).cell? ⟨R,j,none⟩=w.cell? ⟨R,j,none⟩:=fun j=>World.cell?_setCell_other _ _ _ _ (by intro e;exact hne (congrArg Addr.block e))
 exact ⟨fun j hj=>by rw[o];exact h.1 j hj,fun j=>by rw[World.frozen?_setCell];exact h.2.1 j,by simpa [World.setCell] using h.2.2.1,fun i hi=>(h.2.2.2 i hi).of_cells o⟩
theorem RowOrd.far {w:World} {R n k:Nat} {F:Nat->Ord} (h:RowOrd w R n k F) {Q:Nat} (hne:Q≠R) (q:Nat) (u:Value):RowOrd (w.setCell ⟨Q,q,none⟩ u) R n k F:=by
 have o:∀j,(w.setCell ⟨Q,q,none⟩ u).cell? ⟨R,j,none⟩=w.cell? ⟨R,j,none⟩:=fun j=>World.cell?_setCell_other _ _ _ _ (by intro e;exact hne (congrArg Addr.block e))
 exact ⟨fun j hj=>by rw[o];exact h.1 j hj,fun j=>by rw[World.frozen?_setCell];exact h.2.1 j,by simpa [World.setCell] using h.2.2.1,fun i hi=>(h.2.2.2 i hi).of_cells o⟩
theorem eqBank_same (a1 a2 b1 b2:Option Addr) (n p1 p2 m q1 q2:Nat) (F:Nat->Acc) (O:Nat->Ord) (k:Bk) (w:World) (hF1:Fo w a1 n F) (hF2:Fo w a2 n F) (hO1:Ords w b1 m O) (hO2:Ords w b2 m O):
  Calls Tryz.prog 43 #[.agg #[.int .i64 k.day,.slice a1 n p1,.slice b1 m q1,.int .i64 k.inn,.int .i64 k.out,.int .i64 k.posted,.int .i64 k.missed],.agg #[.int .i64 k.day,.slice a2 n p2,.slice b2 m q2,.int .i64 k.inn,.int .i64 k.out,.int .i64 k.posted,.int .i64 k.missed]] w fun e w'=>e=.returned (.bool true)/\Below w.heap.size w w':=by
 have X1:Hid (BkAll ((w.alloc (.cells #[.int .i64 k.day,.slice a1 n p1,.slice b1 m q1,.int .i64 k.inn,.int .i64 k.out,.int .i64 k.posted,.int .i64 k.missed] 38)).alloc (.cells #[.int .i64 k.day,.slice a2 n p2,.slice b2 m q2,.int .i64 k.inn,.int .i64 k.out,.int .i64 k.posted,.int .i64 k.missed] 38)) w.heap.size a1 b1 n p1 m q1 F O k w):=by
  have:BkAll (w.alloc (.cells #[.int .i64 k.day,.slice a1 n p1,.slice b1 m q1,.int .i64 k.inn,.int .i64 k.out,.int .i64 k.posted,.int .i64 k.missed] 38)) w.heap.size a1 b1 n p1 m q1 F O k w:=⟨BkBox.new w _ _ k 38,hF1.alloc _,hO1.alloc _,(Below.refl _ _).alloc (Nat.le_refl _) _⟩
  exact this.below ((Below.refl _ _).alloc (Nat.le_refl _) _)
 have X2:Hid (BkAll ((w.alloc (.cells #[.int .i64 k.day,.slice a1 n p1,.slice b1 m q1,.int .i64 k.inn,.int .i64 k.out,.int .i64 k.posted,.int .i64 k.missed] 38)).alloc (.cells #[.int .i64 k.day,.slice a2 n p2,.slice b2 m q2,.int .i64 k.inn,.int .i64 k.out,.int .i64 k.posted,.int .i64 k.missed] 38)) (w.heap.size+1) a2 b2 n p2 m q2 F O k w):=by
  have h:=BkBox.new (w.alloc (.cells #[.int .i64 k.day,.slice a1 n p1,.slice b1 m q1,.int .i64 k.inn,.int .i64 k.out,.int .i64 k.posted,.int .i64 k.missed] 38)) (.slice a2 n p2) (.slice b2 m q2) k 38
  rw[World.size_alloc] at h
  exact ⟨h,(hF2.alloc _).alloc _,(hO2.alloc _).alloc _,((Below.refl _ _).alloc (Nat.le_refl _) _).alloc (by simp) _⟩
 clear hF1 hF2 hO1 hO2
 have e0:(k.day != k.day)=false:=by simp
 have e1:(k.inn != k.inn)=false:=by simp
 have e2:(k.out != k.out)=false:=by simp
 have e3:(k.posted != k.posted)=false:=by simp
 have e4:(k.missed != k.missed)=false:=by simp
 go_enter Tryz.func43,Tryz.ntmps43
 go_wp2_with fail
 refine (eqAccountS_same _ _ n _ _ F _ X1.out.2.1 X2.out.2.1).mono ?_
 rintro e w1 ⟨rfl,B1⟩
 have Y1:=hidOf (X1.out.below B1)
 have Y2:=hidOf (X2.out.below B1)
 clear X1 X2 B1
 obtain ⟨⟨c0,c1,c2,c3,c4,c5,c6,_⟩,_,_,_⟩:=Y1.out
 obtain ⟨⟨g0,g1,g2,g3,g4,g5,g6,_⟩,_,_,_⟩:=Y2.out
 go_wp2_with fail
 refine (eqSOrd_same _ _ m _ _ O _ Y1.out.2.2.1 Y2.out.2.2.1).mono ?_
 rintro e w2 ⟨rfl,B2⟩
 have Z1:=hidOf (Y1.out.below B2)
 have Z2:=hidOf (Y2.out.below B2)
 clear Y1 Y2 B2 c0 c1 c2 c3 c4 c5 c6 g0 g1 g2 g3 g4 g5 g6
 obtain ⟨⟨c0,c1,c2,c3,c4,c5,c6,_⟩,_,_,_⟩:=Z1.out
 obtain ⟨⟨g0,g1,g2,g3,g4,g5,g6,_⟩,_,_,_⟩:=Z2.out
 go_wp2
 go_ret
 exact ⟨rfl,Z1.out.2.2.2⟩
theorem toBank (a b:Option Addr) (n c m d:Nat) (F:Nat->Acc) (O:Nat->Ord) (k:Bk) (w:World) (hF:Fo w a n F) (hO:Ords w b m O):
  Calls Tryz.prog 42 #[.agg #[.int .i64 k.day,.slice a n c,.slice b m d,.int .i64 k.inn,.int .i64 k.out,.int .i64 k.posted,.int .i64 k.missed]] w fun e w'=>∃R1 R2,e=.returned (.agg #[.int .i64 k.day,.slice (some ⟨R1,0,none⟩) n n,.slice (some ⟨R2,0,none⟩) m m,.int .i64 k.inn,.int .i64 k.out,.int .i64 k.posted,.int .i64 k.missed])/\Row w' R1 n n F/\RowOrd w' R2 m m O/\w.heap.size<=R1/\R1<R2/\Below w.heap.size w w':=by
 have hn:=hF.1
 have hm:=hO.1
 have Z:Hid (∃W0,W0=((w.alloc (.cells #[.int .i64 k.day,.slice a n c,.slice b m d,.int .i64 k.inn,.int .i64 k.out,.int .i64 k.posted,.int .i64 k.missed] 69)).alloc (.cells #[.int .i64 0,.slice none 0 0,.slice none 0 0,.int .i64 0,.int .i64 0,.int .i64 0,.int .i64 0] 38)).alloc (.cells #[.int .i64 k.day,.slice none 0 0,.slice none 0 0,.int .i64 0,.int .i64 0,.int .i64 0,.int .i64 0] 38)/\
   Box7 W0 w.heap.size (.int .i64 k.day) (.slice a n c) (.slice b m d) (.int .i64 k.inn) (.int .i64 k.out) (.int .i64 k.posted) (.int .i64 k.missed)/\
   Box7 W0 (w.heap.size+1) (.int .i64 0) (.slice none 0 0) (.slice none 0 0) (.int .i64 0) (.int .i64 0) (.int .i64 0) (.int .i64 0)/\
   Box7 W0 (w.heap.size+1+1) (.int .i64 k.day) (.slice none 0 0) (.slice none 0 0) (.int .i64 0) (.int .i64 0) (.int .i64 0) (.int .i64 0)/\Fo W0 a n F/\Ords W0 b m O/\Below w.heap.size w W0/\W0.heap.size=w.heap.size+1+1+1):=by
  refine ⟨_,rfl,?_,?_,?_,((hF.alloc _).alloc _).alloc _,((hO.alloc _).alloc _).alloc _,(((Below.refl _ _).alloc (Nat.le_refl _) _).alloc (by simp) _).alloc (by simp;omega) _,by simp⟩
  ·exact ((Box7.new w _ _ _ _ _ _ _ 69).kept ((Below.refl _ _).alloc (Nat.le_refl _) _) (by simp)).kept ((Below.refl _ _).alloc (Nat.le_refl _) _) (by simp;omega)
  ·have:=Box7.new (w.alloc (.cells #[.int .i64 k.day,.slice a n c,.slice b m d,.int .i64 k.inn,.int .i64 k.out,.int .i64 k.posted,.int .i64 k.missed] 69)) (.int .i64 0) (.slice none 0 0) (.slice none 0 0) (.int .i64 0) (.int .i64 0) (.int .i64 0) (.int .i64 0) 38
   rw[World.size_alloc] at this
   exact this.kept ((Below.refl _ _).alloc (Nat.le_refl _) _) (by simp)
  ·have:=Box7.new ((w.alloc (.cells #[.int .i64 k.day,.slice a n c,.slice b m d,.int .i64 k.inn,.int .i64 k.out,.int .i64 k.posted,.int .i64 k.missed] 69)).alloc (.cells #[.int .i64 0,.slice none 0 0,.slice none 0 0,.int .i64 0,.int .i64 0,.int .i64 0,.int .i64 0] 38)) (.int .i64 k.day) (.slice none 0 0) (.slice none 0 0) (.int .i64 0) (.int .i64 0) (.int .i64 0) (.int .i64 0) 38
   simp only[World.size_alloc] at this
   exact this
 have HF:=hidOf hF
 have HO:=hidOf hO
 clear hF hO
 obtain ⟨W0,hW0,z1,z2,z3,_,_,zB,zs⟩:=Z.out
 clear Z
 have P1:Hid (Box7 W0 w.heap.size (.int .i64 k.day) (.slice a n c) (.slice b m d) (.int .i64 k.inn) (.int .i64 k.out) (.int .i64 k.posted) (.int .i64 k.missed)/\Box7 W0 (w.heap.size+1) (.int .i64 0) (.slice none 0 0) (.slice none 0 0) (.int .i64 0) (.int .i64 0) (.int .i64 0) (.int .i64 0)/\Box7 W0 (w.heap.size+1+1) (.int .i64 k.day) (.slice none 0 0) (.slice none 0 0) (.int .i64 0) (.int .i64 0) (.int .i64 0) (.int .i64 0)/\Below w.heap.size w W0/\W0.heap.size=w.heap.size+1+1+1):=by
  exact ⟨z1,z2,z3,zB,zs⟩
 have HW0:=hidOf hW0
 clear hW0 z1 z2 z3 zB zs
 go_enter Tryz.func42,Tryz.ntmps42
 go_wp2_with fail
 rw[←HW0.out]
 refine (toAccountS a n c F _ (HF.out.below P1.out.2.2.2.1)).mono ?_
 rintro e w1 ⟨rfl,R1,D1⟩
 rw[P1.out.2.2.2.2] at R1 D1 ⊢
 clear HW0
 obtain ⟨W2,hW2⟩:∃W2,W2=w1.setCell ⟨w.heap.size+1+1,1,none⟩ (.slice (some ⟨w.heap.size+1+1+1,0,none⟩) n n):=⟨_,rfl⟩
 have P2:Hid (Box7 W2 w.heap.size (.int .i64 k.day) (.slice a n c) (.slice b m d) (.int .i64 k.inn) (.int .i64 k.out) (.int .i64 k.posted) (.int .i64 k.missed)/\Box7 W2 (w.heap.size+1) (.int .i64 0) (.slice none 0 0) (.slice none 0 0) (.int .i64 0) (.int .i64 0) (.int .i64 0) (.int .i64 0)/\Box7 W2 (w.heap.size+1+1) (.int .i64 k.day) (.slice (some ⟨w.heap.size+1+1+1,0,none⟩) n n) (.slice none 0 0) (.int .i64 0) (.int .i64 0) (.int .i64 0) (.int .i64 0)/\Below w.heap.size w W2/\Row W2 (w.heap.size+1+1+1) n n F):=by
  obtain ⟨p1,p2,p3,p4,p5⟩:=P1.out
  subst hW2
  exact ⟨(p1.kept D1 (by omega)).far (by omega) _ _,(p2.kept D1 (by omega)).far (by omega) _ _,(p3.kept D1 (by omega)).set1 _,(p4.trans (D1.mono (by omega))).setCell (p:=⟨w.heap.size+1+1,1,none⟩) (by simp;omega) _,R1.far (by omega) _ _⟩
 have HW2:=hidOf hW2
 obtain ⟨⟨⟨s0,s1,s2,s3,s4,s5,s6⟩,_,_⟩,_,⟨⟨o0,o1,o2,o3,o4,o5,o6⟩,of,_⟩,_⟩:Box7 w1 w.heap.size (.int .i64 k.day) (.slice a n c) (.slice b m d) (.int .i64 k.inn) (.int .i64 k.out) (.int .i64 k.posted) (.int .i64 k.missed)/\True/\Box7 w1 (w.heap.size+1+1) (.int .i64 k.day) (.slice none 0 0) (.slice none 0 0) (.int .i64 0) (.int .i64 0) (.int .i64 0) (.int .i64 0)/\True:=by
  obtain ⟨p1,p2,p3,p4,p5⟩:=P1.out
  exact ⟨p1.kept D1 (by omega),trivial,p3.kept D1 (by omega),trivial⟩
 clear P1 R1 D1 hW2
 go_wp2_with fail
 rw[←HW2.out]
 refine (toSOrd b m d O _ (HO.out.below P2.out.2.2.2.1)).mono ?_
 rintro e w2 ⟨rfl,R2,D2⟩
 have hsz:w.heap.size+1+1+1<W2.heap.size:=P2.out.2.2.2.2.2.2.1
 obtain ⟨q,hq⟩:∃q,q=W2.heap.size:=⟨_,rfl⟩
 rw[←hq] at R2 D2 hsz ⊢
 have P3:Hid (Box7 w2 w.heap.size (.int .i64 k.day) (.slice a n c) (.slice b m d) (.int .i64 k.inn) (.int .i64 k.out) (.int .i64 k.posted) (.int .i64 k.missed)/\Box7 w2 (w.heap.size+1) (.int .i64 0) (.slice none 0 0) (.slice none 0 0) (.int .i64 0) (.int .i64 0) (.int .i64 0) (.int .i64 0)/\Box7 w2 (w.heap.size+1+1) (.int .i64 k.day) (.slice (some ⟨w.heap.size+1+1+1,0,none⟩) n n) (.slice none 0 0) (.int .i64 0) (.int .i64 0) (.int .i64 0) (.int .i64 0)/\Below w.heap.size w w2/\Row w2 (w.heap.size+1+1+1) n n F/\RowOrd w2 q m m O):=by
  obtain ⟨p1,p2,p3,p4,p5⟩:=P2.out
  exact ⟨p1.kept D2 (by omega),p2.kept D2 (by omega),p3.kept D2 (by omega),p4.trans (D2.mono (by omega)),p5.below (by rw[←hq];exact D2),R2⟩
 clear P2 R2 D2 HW2 s0 s1 s2 s3 s4 s5 s6 o0 o1 o2 o3 o4 o5 o6 of hq
 obtain ⟨⟨⟨s0,s1,s2,s3,s4,s5,s6⟩,_,_⟩,⟨⟨r0,r1,r2,r3,r4,r5,r6⟩,rf,_⟩,⟨⟨o0,o1,o2,o3,o4,o5,o6⟩,of,_⟩,_⟩:=P3.out
 go_wp2
 refine bodyPost_ret (v:=.agg #[.int .i64 k.day,.slice (some ⟨w.heap.size+1+1+1,0,none⟩) n n,.slice (some ⟨q,0,none⟩) m m,.int .i64 k.inn,.int .i64 k.out,.int .i64 k.posted,.int .i64 k.missed]) (by simp[results,Tryz.results42,go_sem,r0,r1,r2,r3,r4,r5,r6]) rfl ⟨_,_,rfl,?_,?_,?_,?_,?_⟩
 ·repeat (refine Row.far ?_ (by omega) _ _)
  exact P3.out.2.2.2.2.1
 ·repeat (refine RowOrd.far ?_ (by omega) _ _)
  exact P3.out.2.2.2.2.2
 ·omega
 ·omega
 ·repeat (refine below_far ?_ (by omega) _ _)
  exact P3.out.2.2.2.1
end Go.Proofs.YtghkbhggopiajaaGreatDoor
