/- Lists of orders in memory, the copies that the exact laws make of them, and their comparison. -/
import Derived.Test.YtjhgchlfpolkcaaGreatDoorExpsx
import Derived.Deep.Slices
namespace Go.Proofs.YtjhgchlfpolkcaaGreatDoor
open Value renaming int → Ii,slice → Sl
open IntKind renaming i64 → Jj
open Nat renaming le_refl → Nf
open Go.Proofs.Tryz renaming prog → Pg
set_option maxRecDepth 8000
set_option maxHeartbeats 2000000
open Go.ChangeShapes Go.WideShapes Go.ChangeAt Go.RowKit
def gA (w:World) (b p:Nat) (a:am):Prop:=
 w.cell? ⟨b,p,none⟩=some (Ii Jj a.id)/\w.cell? ⟨b,p+1,none⟩=some (Ii Jj a.src)/\w.cell? ⟨b,p+2,none⟩=some (Ii Jj a.dst)/\w.cell? ⟨b,p+3,none⟩=some (Ii Jj a.amount)/\w.cell? ⟨b,p+4,none⟩=some (Ii Jj a.first)/\w.cell? ⟨b,p+5,none⟩=some (Ii Jj a.every)/\w.cell? ⟨b,p+6,none⟩=some (Ii Jj a.times)
def aJ (w:World) (a:Option Addr) (n:Nat) (F:Nat->am):Prop:=
 n<=1048576/\(n=0\/∃b o,a=some ⟨b,o,none⟩/\b<w.heap.size/\∀i,i<n->gA w b (o+i*7) (F i))
theorem gA.of_cells {w w':World} {b p:Nat} {a:am} (h:gA w b p a) (hc:∀o,w'.cell? ⟨b,o,none⟩=w.cell? ⟨b,o,none⟩):gA w' b p a:=by
 unfold gA at h ⊢
 simp only[hc]
 exact h
theorem aJ.below {w w':World} {a:Option Addr} {n:Nat} {F:Nat->am} (h:aJ w a n F) (hb:Below w.heap.size w w'):aJ w' a n F:=by
 refine ⟨h.1,?_⟩
 rcases h.2 with h0|⟨b,o,ha,hlt,hall⟩
 ·exact Or.inl h0
 ·exact Or.inr ⟨b,o,ha,Nat.lt_of_lt_of_le hlt hb.size,fun i hi=>(hall i hi).of_cells (fun q=>hb.cell (p:=⟨b,q,none⟩) hlt)⟩
theorem aJ.alloc {w:World} {a:Option Addr} {n:Nat} {F:Nat->am} (h:aJ w a n F) (x:Obj):aJ (w.alloc x) a n F:=h.below ((Below.refl _ _).alloc (Nf _) x)
theorem aJ.acc {w:World} {a:Option Addr} {n:Nat} {F:Nat->am} (h:aJ w a n F) {i:Nat} (hi:i<n):∃b o,a=some ⟨b,o,none⟩/\b<w.heap.size/\gA w b (o+i*7) (F i):=by
 rcases h.2 with h0|⟨b,o,ha,hlt,hall⟩
 ·omega
 ·exact ⟨b,o,ha,hlt,hall i hi⟩
theorem fS:(Pg.info? 35).map (fun i=>(i.zero,i.size,i.bytes))=some (some (.agg #[Ii Jj 0,Ii Jj 0,Ii Jj 0,Ii Jj 0,Ii Jj 0,Ii Jj 0,Ii Jj 0]),7,56):=by kernel_rfl
open Go.RowKit
def cf (F:Nat->am) (n:Nat):Prop:=n<=8/\(∀i,i<n->aE (F i))/\∀i,0<i->i<n->(F (i-1)).id<(F i).id
theorem jB (a:Option Addr) (n c:Nat) (F:Nat->am) (w:World) (h:aJ w a n F):
  Calls Pg 77 #[Sl a n c] w fun e w'=>ae e (cf F n)/\Below w.heap.size w w':=by
 have H:Hid (aJ w a n F):=h
 have hn:=h.1
 clear h
 go_enter Tryz.func77,Tryz.ntmps77
 go_wp2
 go_loopw[3] (fun i wr=>∃k:Nat,k<=n/\i=Ii Jj k/\Hid (∀j,j<k->aE (F j))/\Hid (∀j,0<j->j<k->(F (j-1)).id<(F j).id)/\Hid (Below w.heap.size w wr)) (fun i _=>n-(intOf i).toNat)
 case atStart=>exact ⟨0,Nat.zero_le _,rfl,fun j hj=>absurd hj (Nat.not_lt_zero _),fun j _ hj=>absurd hj (Nat.not_lt_zero _),Below.refl _ _⟩
 case round=>
  obtain ⟨k,hk,rfl,hok,hri,hB⟩:=hrel
  by_cases hlt:k<n
  ·obtain ⟨b,o,rfl,hb0,hA0⟩:=H.out.acc hlt
   have hb:b<wr.heap.size:=Nat.lt_of_lt_of_le hb0 hB.out.size
   have hA:=hA0.of_cells (w':=wr) (fun q=>hB.out.cell (p:=⟨b,q,none⟩) hb0)
   clear hA0
   obtain ⟨c0,c1,c2,c3,c4,c5,c6⟩:=hA
   have hov:∀v q,(bW wr v).cell? ⟨b,q,none⟩=wr.cell? ⟨b,q,none⟩:=fun v q=>(ar wr v).cell (p:=⟨b,q,none⟩) hb
   by_cases hoks:aE (F k)
   ·have HS:Hid (aE (F k)):=hoks
    have HK:Hid (∀j,j<k+1->aE (F j)):=fun j hj=>by
     by_cases e:j=k
     ·subst e;exact hoks
     ·exact hok.out j (by omega)
    clear hoks
    by_cases hk0:0<k
    ·obtain ⟨b',o',e',hb0',hA0'⟩:=H.out.acc (show k-1<n by omega)
     obtain ⟨rfl,rfl⟩:b=b'/\o=o':=by simpa using e'
     have d0:wr.cell? ⟨b,o+(k-1)*7,none⟩=some (Ii Jj (F (k-1)).id):=by
      rw[hB.out.cell (p:=⟨b,o+(k-1)*7,none⟩) hb0];exact hA0'.1
     clear e' hA0' hb0'
     have g0:(0:Int)<(k:Int):=by omega
     by_cases hr:(F (k-1)).id<(F k).id
     ·have HR:Hid (∀j,0<j->j<k+1->(F (j-1)).id<(F j).id):=fun j h1 h2=>by
       by_cases e:j=k
       ·subst e;exact hr
       ·exact hri.out j h1 (by omega)
      have hr':¬(F k).id<=(F (k-1)).id:=by omega
      have hd:decide ((F k).id<=(F (k-1)).id)=false:=decide_eq_false hr'
      go_wp2
      refine aw (by kernel_rfl) (by kernel_rfl) ?_
      repeat (go_big_quiet_step ((first|(go_at_call 83;exact Calls.over_of (cO (F k) _ HS.out)))))
      refine wpQuiet_nil ?_
      intro _ hw'
      obtain ⟨vq,hw''⟩:=hw'
      subst hw''
      go_wp2
      go_roundw
      case rel=>exact ⟨k+1,by omega,by go_num,HK,HR,hB.out.trans ((ar wr vq).mono hB.out.size)⟩
      case measure=>simp[intOf];omega
     ·have NR:Hid (¬cf F n):=fun hh=>hr (hh.2.2 k hk0 hlt)
      have hr':(F k).id<=(F (k-1)).id:=by omega
      clear hr
      go_wp2
      refine aw (by kernel_rfl) (by kernel_rfl) ?_
      repeat (go_big_quiet_step ((first|(go_at_call 83;exact Calls.over_of (cO (F k) _ HS.out)))))
      refine wpQuiet_nil ?_
      intro _ hw'
      obtain ⟨vq,hw''⟩:=hw'
      subst hw''
      go_wp2
      go_ret
      exact ⟨ae.no NR.out,hB.out.trans ((ar wr vq).mono hB.out.size)⟩
    ·have g0:decide (0<k)=false:=decide_eq_false (by omega)
     have HR:Hid (∀j,0<j->j<k+1->(F (j-1)).id<(F j).id):=fun j h1 h2=>by omega
     have hk1:k<=0:=by omega
     clear hk0
     go_wp2
     refine aw (by kernel_rfl) (by kernel_rfl) ?_
     repeat (go_big_quiet_step ((first|(go_at_call 83;exact Calls.over_of (cO (F k) _ HS.out)))))
     refine wpQuiet_nil ?_
     intro _ hw'
     obtain ⟨vq,hw''⟩:=hw'
     subst hw''
     go_wp2
     go_roundw
     case rel=>exact ⟨k+1,by omega,by go_num,HK,HR,hB.out.trans ((ar wr vq).mono hB.out.size)⟩
     case measure=>simp[intOf];omega
   ·have NR:Hid (¬cf F n):=fun hr=>hoks (hr.2.1 k hlt)
    have NO:Hid (¬aE (F k)):=hoks
    clear hoks
    go_wp2
    refine aw (by kernel_rfl) (by kernel_rfl) ?_
    repeat (go_big_quiet_step ((first|(go_at_call 83;exact Calls.over_of (gu (F k) _ NO.out)))))
    refine wpQuiet_nil ?_
    intro _ hw'
    obtain ⟨vq,hw''⟩:=hw'
    subst hw''
    go_wp2
    go_ret
    exact ⟨ae.no NR.out,hB.out.trans ((ar wr vq).mono hB.out.size)⟩
  ·have hkn:k=n:=by omega
   subst hkn
   clear hlt hk
   by_cases h8:k<=8
   ·have R:Hid (cf F k):=⟨h8,hok.out,hri.out⟩
    have hd:decide ((k:Int)<=8)=true:=decide_eq_true (by omega)
    go_wp2
    go_ret
    exact ⟨ae.yes R.out,hB.out⟩
   ·have R:Hid (¬cf F k):=fun hh=>h8 hh.1
    have h8':(8:Int)<(k:Int):=by omega
    have hd:decide ((k:Int)<=8)=false:=decide_eq_false (by omega)
    go_wp2
    go_ret
    exact ⟨ae.no R.out,hB.out⟩
theorem qv (a:Option Addr) (n c:Nat) (F:Nat->am) (w:World) (h:aJ w a n F):
  Calls Pg 40 #[Sl a n c] w fun e w'=>ae e (cf F n)/\Below w.heap.size w w':=by
 have H:Hid (aJ w a n F):=h
 have hn:=h.1
 clear h
 by_cases h8:n<=8
 rotate_left
 ·have R:Hid (¬cf F n):=fun hh=>h8 hh.1
  have h8':(8:Int)<(n:Int):=by omega
  go_enter Tryz.func40,Tryz.ntmps40
  go_wp2
  go_ret
  exact ⟨ae.no R.out,Below.refl _ _⟩
 go_enter Tryz.func40,Tryz.ntmps40
 go_wp2
 go_loopw[10] (fun i wr=>∃k:Nat,k<=n/\i=Ii Jj k/\Hid (∀j,j<k->aE (F j))/\Hid (∀j,0<j->j<k->(F (j-1)).id<(F j).id)/\Hid (Below w.heap.size w wr)) (fun i _=>n-(intOf i).toNat)
 case atStart=>exact ⟨0,Nat.zero_le _,rfl,fun j hj=>absurd hj (Nat.not_lt_zero _),fun j _ hj=>absurd hj (Nat.not_lt_zero _),Below.refl _ _⟩
 case round=>
  obtain ⟨k,hk,rfl,hok,hri,hB⟩:=hrel
  by_cases hlt:k<n
  ·obtain ⟨b,o,rfl,hb0,hA0⟩:=H.out.acc hlt
   have hb:b<wr.heap.size:=Nat.lt_of_lt_of_le hb0 hB.out.size
   have hA:=hA0.of_cells (w':=wr) (fun q=>hB.out.cell (p:=⟨b,q,none⟩) hb0)
   clear hA0
   obtain ⟨c0,c1,c2,c3,c4,c5,c6⟩:=hA
   have hov:∀v q,(bW (wr.alloc (.cells #[Ii Jj (F k).id,Ii Jj (F k).src,Ii Jj (F k).dst,Ii Jj (F k).amount,Ii Jj (F k).first,Ii Jj (F k).every,Ii Jj (F k).times] 35)) v).cell? ⟨b,q,none⟩=(wr.alloc (.cells #[Ii Jj (F k).id,Ii Jj (F k).src,Ii Jj (F k).dst,Ii Jj (F k).amount,Ii Jj (F k).first,Ii Jj (F k).every,Ii Jj (F k).times] 35)).cell? ⟨b,q,none⟩:=fun v q=>(ar _ v).cell (p:=⟨b,q,none⟩) (by simp;omega)
   have hov2:∀v q,(bW (wr.alloc (.cells #[Ii Jj (F k).id,Ii Jj (F k).src,Ii Jj (F k).dst,Ii Jj (F k).amount,Ii Jj (F k).first,Ii Jj (F k).every,Ii Jj (F k).times] 35)) v).cell? ⟨wr.heap.size,q,none⟩=(wr.alloc (.cells #[Ii Jj (F k).id,Ii Jj (F k).src,Ii Jj (F k).dst,Ii Jj (F k).amount,Ii Jj (F k).first,Ii Jj (F k).every,Ii Jj (F k).times] 35)).cell? ⟨wr.heap.size,q,none⟩:=fun v q=>(ar _ v).cell (p:=⟨wr.heap.size,q,none⟩) (by simp)
   by_cases hoks:aE (F k)
   ·have HS:Hid (aE (F k)):=hoks
    have HK:Hid (∀j,j<k+1->aE (F j)):=fun j hj=>by
     by_cases e:j=k
     ·subst e;exact hoks
     ·exact hok.out j (by omega)
    clear hoks
    by_cases hk0:0<k
    ·obtain ⟨b',o',e',hb0',hA0'⟩:=H.out.acc (show k-1<n by omega)
     obtain ⟨rfl,rfl⟩:b=b'/\o=o':=by simpa using e'
     have d0:wr.cell? ⟨b,o+(k-1)*7,none⟩=some (Ii Jj (F (k-1)).id):=by
      rw[hB.out.cell (p:=⟨b,o+(k-1)*7,none⟩) hb0];exact hA0'.1
     clear e' hA0' hb0'
     have g0:(0:Int)<(k:Int):=by omega
     by_cases hr:(F (k-1)).id<(F k).id
     ·have HR:Hid (∀j,0<j->j<k+1->(F (j-1)).id<(F j).id):=fun j h1 h2=>by
       by_cases e:j=k
       ·subst e;exact hr
       ·exact hri.out j h1 (by omega)
      have hr':¬(F k).id<=(F (k-1)).id:=by omega
      have hd:decide ((F k).id<=(F (k-1)).id)=false:=decide_eq_false hr'
      go_wp2
      refine aw (by kernel_rfl) (by kernel_rfl) ?_
      repeat (go_big_quiet_step ((first|(go_at_call 67;exact Calls.over_of (fB (F k) _ HS.out)))))
      refine wpQuiet_nil ?_
      intro _ hw'
      obtain ⟨vq,hw''⟩:=hw'
      subst hw''
      go_wp2
      go_roundw
      case rel=>exact ⟨k+1,by omega,by go_num,HK,HR,(hB.out.alloc hB.out.size _).trans ((ar _ vq).mono (by have:=hB.out.size;simp;omega))⟩
      case measure=>simp[intOf];omega
     ·have NR:Hid (¬cf F n):=fun hh=>hr (hh.2.2 k hk0 hlt)
      have hr':(F k).id<=(F (k-1)).id:=by omega
      clear hr
      go_wp2
      refine aw (by kernel_rfl) (by kernel_rfl) ?_
      repeat (go_big_quiet_step ((first|(go_at_call 67;exact Calls.over_of (fB (F k) _ HS.out)))))
      refine wpQuiet_nil ?_
      intro _ hw'
      obtain ⟨vq,hw''⟩:=hw'
      subst hw''
      go_wp2
      go_ret
      exact ⟨ae.no NR.out,(hB.out.alloc hB.out.size _).trans ((ar _ vq).mono (by have:=hB.out.size;simp;omega))⟩
    ·have g0:decide (0<k)=false:=decide_eq_false (by omega)
     have HR:Hid (∀j,0<j->j<k+1->(F (j-1)).id<(F j).id):=fun j h1 h2=>by omega
     have hk1:k<=0:=by omega
     clear hk0
     go_wp2
     refine aw (by kernel_rfl) (by kernel_rfl) ?_
     repeat (go_big_quiet_step ((first|(go_at_call 67;exact Calls.over_of (fB (F k) _ HS.out)))))
     refine wpQuiet_nil ?_
     intro _ hw'
     obtain ⟨vq,hw''⟩:=hw'
     subst hw''
     go_wp2
     go_roundw
     case rel=>exact ⟨k+1,by omega,by go_num,HK,HR,(hB.out.alloc hB.out.size _).trans ((ar _ vq).mono (by have:=hB.out.size;simp;omega))⟩
     case measure=>simp[intOf];omega
   ·have NR:Hid (¬cf F n):=fun hr=>hoks (hr.2.1 k hlt)
    have NO:Hid (¬aE (F k)):=hoks
    clear hoks
    go_wp2
    refine aw (by kernel_rfl) (by kernel_rfl) ?_
    repeat (go_big_quiet_step ((first|(go_at_call 67;exact Calls.over_of (nB (F k) _ NO.out)))))
    refine wpQuiet_nil ?_
    intro _ hw'
    obtain ⟨vq,hw''⟩:=hw'
    subst hw''
    go_wp2
    go_ret
    exact ⟨ae.no NR.out,(hB.out.alloc hB.out.size _).trans ((ar _ vq).mono (by have:=hB.out.size;simp;omega))⟩
  ·have hkn:k=n:=by omega
   subst hkn
   clear hlt hk
   have R:Hid (cf F k):=⟨h8,hok.out,hri.out⟩
   go_wp2
   go_ret
   exact ⟨ae.yes R.out,hB.out⟩
open Go.RowKit
def au (a:am):List Value:=[Ii Jj a.id,Ii Jj a.src,Ii Jj a.dst,Ii Jj a.amount,Ii Jj a.first,Ii Jj a.every,Ii Jj a.times]
def ag (w:World) (B:Nat) (v:Value) (l:List am):Prop:=w.ownsRow B 35 7 v l.length (l.flatMap au)
theorem bq (l:List am):(l.flatMap au).length=l.length*7:=by
 induction l with
 | nil=>rfl
 | cons a l ih=>simp only[List.flatMap_cons,List.length_append,ih,List.length_cons,au,List.length_nil];omega
theorem ik (l:List am):∀(i j:Nat) (hi:i<l.length) (_:j<7),(l.flatMap au)[i*7+j]? =(au l[i])[j]? :=by
 induction l with
 | nil=>intro i j hi;simp at hi
 | cons a l ih=>
  intro i j hi hj
  rw[List.flatMap_cons]
  cases i with
  | zero=>
   rw[List.getElem?_append_left (by simp[au];omega)]
   simp
  | succ i=>
   have hl:(au a).length=7:=rfl
   rw[List.getElem?_append_right (by rw[hl];omega),hl]
   have e:(i+1)*7+j-7=i*7+j:=by omega
   rw[e,ih i j (by simpa using hi) hj]
   simp
theorem ag.kept {w w':World} {B:Nat} {v:Value} {l:List am} (h:ag w B v l) (hb:Below w.heap.size w w'):ag w' B v l:=
 World.ownsRow.kept (row:=none) h ⟨hb.os,hb.tape,hb.output,hb.size,fun k hk _=>hb.block k hk⟩ (by cases hv:v.ownBlock <;>simp)
theorem ag.shape {w:World} {B:Nat} {v:Value} {l:List am} (h:ag w B v l):
  ∃a cap,v=Sl a l.length cap/\(∀g,v.ownBlock=some g->B<=g/\g<w.heap.size)/\
   ∀i (hi:i<l.length),∃g,a=some ⟨g,0,none⟩/\B<=g/\g<w.heap.size/\gA w g (i*7) l[i]:=by
 have hlt:=World.ownsRow.lt h
 rcases h.2 with ⟨hv,hn⟩|⟨g,cap,cur,hv,hg,r⟩
 ·refine ⟨none,0,by rw[hv,hn],fun g hg=>hlt g hg,fun i hi=>?_⟩
  omega
 ·refine ⟨some ⟨g,0,none⟩,cap,hv,fun g hg=>hlt g hg,fun i hi=>?_⟩
  have ho:v.ownBlock=some g:=by rw[hv];rfl
  have hs:w.ownsRow B 35 7 (Sl (some ⟨g,0,none⟩) l.length cap) l.length (l.flatMap au):=by rw[←hv];exact h
  have hc:∀j,j<7->w.cell? ⟨g,i*7+j,none⟩=(au l[i])[j]? :=fun j hj=>by
   rw[World.ownsRow.cellAt hs (i*7+j) (by omega),ik l i j hi hj]
  exact ⟨g,rfl,hg,(hlt g ho).2,hc 0 (by omega),hc 1 (by omega),hc 2 (by omega),hc 3 (by omega),hc 4 (by omega),hc 5 (by omega),hc 6 (by omega)⟩
theorem ag.mono {w:World} {B B':Nat} {v:Value} {l:List am} (h:ag w B v l) (hB:B'<=B):ag w B' v l:=
 ⟨h.1,h.2.elim Or.inl (fun ⟨g,cap,cur,hv,hg,r⟩=>Or.inr ⟨g,cap,cur,hv,Nat.le_trans hB hg,r⟩)⟩
theorem ag.nil (w:World) (B:Nat):ag w B (Sl none 0 0) []:=World.ownsRow_nil w B 35 7
theorem ag.empty (w:World) (B:Nat) (hB:B<=w.heap.size):ag (w.alloc (.cells #[] 35)) B (Sl (some ⟨w.heap.size,0,none⟩) 0 0) []:=World.ownsRow_lit w #[] 0 hB (Nat.zero_le _) (by simp)
def ai (L:List am):Nat->am:=fun j=>L.getD j ⟨0,0,0,0,0,0,0⟩
theorem eD {L:List am} {j:Nat} (h:j<L.length):ai L j=L[j]:=by simp[ai,List.getD,List.getElem?_eq_getElem h]
theorem ag.list {w:World} {B:Nat} {a:Option Addr} {c m:Nat} {L:List am} (h:ag w B (Sl a m c) L) (hl:L.length<=1048576):m=L.length/\aJ w a m (ai L):=by
 obtain ⟨a',c',hv,_,hs⟩:=h.shape
 obtain ⟨rfl,rfl,rfl⟩:a=a'/\m=L.length/\c=c':=by simpa using hv
 refine ⟨rfl,hl,?_⟩
 by_cases h0:L.length=0
 ·exact Or.inl h0
 ·obtain ⟨g,ea,_,hg,_⟩:=hs 0 (by omega)
  refine Or.inr ⟨g,0,ea,hg,fun i hi=>?_⟩
  obtain ⟨g',ea',_,_,hA⟩:=hs i hi
  rw[ea] at ea'
  have:g=g':=by simpa using ea'
  subst this
  rw[eD hi]
  simpa using hA
theorem fX (w:World) (R o:Nat) (u:Value):w.grownBy (w.setCell ⟨R,o,none⟩ u) (some R):=
 ⟨rfl,rfl,rfl,by simp[World.setCell],fun k _ hn=>Below.heap_setCell _ _ _ _ (fun e=>hn (by rw[e]))⟩
open Go.RowKit
open Classical in
noncomputable def cx (F:Nat->am) (d:Int):Nat->List am
 | 0=>[]
 | k+1=>if fk (F k) d then cx F d k++[F k] else cx F d k
theorem kc {F:Nat->am} {d:Int} {k:Nat} (h:fk (F k) d):cx F d (k+1)=cx F d k++[F k]:=by simp[cx,h]
theorem lO {F:Nat->am} {d:Int} {k:Nat} (h:¬fk (F k) d):cx F d (k+1)=cx F d k:=by simp[cx,h]
theorem gV (F:Nat->am) (d:Int):∀k,(cx F d k).length<=k
 | 0=>Nf _
 | k+1=>by
  have:=gV F d k
  by_cases h:fk (F k) d
  ·rw[kc h];simp;omega
  ·rw[lO h];omega
open Classical in
noncomputable def lN (F:Nat->am) (n:Nat) (d:Int):List am:=if cf F n then cx F d n else []
theorem qj (F:Nat->am) (n:Nat) (d:Int):(lN F n d).length<=n:=by
 unfold lN
 split
 ·exact gV F d n
 ·exact Nat.zero_le _
theorem lB (a:Option Addr) (n c:Nat) (F:Nat->am) (w:World) (h:aJ w a n F) (hR:cf F n):
  Calls Pg 77 #[Sl a n c] w fun e w'=>e=.returned (.bool true)/\Below w.heap.size w w':=
 (jB a n c F w h).mono fun e w' ⟨⟨b,he,_,h2⟩,hB⟩=>⟨by cases b with|true=>exact he|false=>exact absurd hR (h2 rfl),hB⟩
theorem mN (a:Option Addr) (n c:Nat) (F:Nat->am) (w:World) (h:aJ w a n F) (hR:¬cf F n):
  Calls Pg 77 #[Sl a n c] w fun e w'=>e=.returned (.bool false)/\Below w.heap.size w w':=
 (jB a n c F w h).mono fun e w' ⟨⟨b,he,h1,_⟩,hB⟩=>⟨by cases b with|false=>exact he|true=>exact absurd (h1 rfl) hR,hB⟩
theorem pC (a:Option Addr) (n c:Nat) (F:Nat->am) (d:Int) (w:World) (h:aJ w a n F):
  Calls Pg 123 #[Sl a n c,Ii Jj d] w fun e w'=>∃v,e=.returned v/\ag w' w.heap.size v (lN F n d)/\Below w.heap.size w w':=by
 obtain ⟨i0,hi,hz0,hz1,hz2⟩:=info_parts fS
 have A0:Hid (ag (w.alloc (.cells #[] 35)) w.heap.size (Sl (some ⟨w.heap.size,0,none⟩) 0 0) []):=ag.empty w _ (Nf _)
 have B0:Hid (Below w.heap.size w (w.alloc (.cells #[] 35))):=(Below.refl _ _).alloc (Nf _) _
 have H:Hid (aJ w a n F):=h
 clear h
 by_cases hR:cf F n
 rotate_left
 ·have E:Hid (lN F n d=[]):=if_neg hR
  have HR:Hid (¬cf F n):=hR
  clear hR
  go_enter Tryz.func123,Tryz.ntmps123
  go_wp2
  refine wp_loop_rounds 1 ?_
  rw[rounds_succ]
  go_wp2_with fail
  refine (mN a n c F _ (H.out.below B0.out) HR.out).mono ?_
  rintro e w1 ⟨rfl,B1⟩
  have A1:Hid (ag w1 w.heap.size (Sl (some ⟨w.heap.size,0,none⟩) 0 0) []):=A0.out.kept B1
  have B1':Hid (Below w.heap.size w w1):=B0.out.trans (B1.mono B0.out.size)
  clear B1 A0 B0
  go_wp2
  go_ret
  rw[E.out]
  exact ⟨_,rfl,A1.out,B1'.out⟩
 have E:Hid (lN F n d=cx F d n):=if_pos hR
 have HR:Hid (cf F n):=hR
 have hn8:=hR.1
 clear hR
 go_enter Tryz.func123,Tryz.ntmps123
 go_wp2
 go_loopw[5,6] (fun v i wr=>∃k:Nat,k<=n/\i=Ii Jj k/\Hid (ag wr w.heap.size v (cx F d k))/\Hid (Below w.heap.size w wr)) (fun _ i _=>n-(intOf i).toNat)
 case atStart=>exact ⟨0,Nat.zero_le _,rfl,A0,B0⟩
 case round=>
  obtain ⟨k,hk,rfl,hA,hB⟩:=hrel
  clear A0 B0
  obtain ⟨av,cv,hv,hlt0,_⟩:=hA.out.shape
  have hlen:=gV F d k
  have HLT:Hid (∀g,(Value.slice av (cx F d k).length cv).ownBlock=some g->w.heap.size<=g/\g<wr.heap.size):=by rw[←hv];exact hlt0
  subst hv
  clear hlt0
  go_wp2_with fail
  refine (lB a n c F _ (H.out.below hB.out) HR.out).mono ?_
  rintro e w1 ⟨rfl,B1⟩
  have A1:Hid (ag w1 w.heap.size (Sl av (cx F d k).length cv) (cx F d k)):=hA.out.kept B1
  have B1':Hid (Below w.heap.size w w1):=hB.out.trans (B1.mono hB.out.size)
  clear B1 hA hB
  by_cases hlt:k<n
  ·obtain ⟨b,o,rfl,hb0,hA0⟩:=(H.out.below B1'.out).acc hlt
   obtain ⟨c0,c1,c2,c3,c4,c5,c6⟩:=hA0
   go_wp2_with fail
   refine (tL (F k) d _).mono ?_
   rintro e w2 ⟨⟨bo,rfl,hb1,hb2⟩,B2⟩
   have A2:Hid (ag w2 w.heap.size (Sl av (cx F d k).length cv) (cx F d k)):=A1.out.kept B2
   have B2':Hid (Below w.heap.size w w2):=B1'.out.trans (B2.mono B1'.out.size)
   have hA2:gA w2 b (o+k*7) (F k):=by
    obtain ⟨b',o',e',hb',hA'⟩:=(H.out.below B2'.out).acc hlt
    obtain ⟨rfl,rfl⟩:b=b'/\o=o':=by simpa using e'
    exact hA'
   clear B2 A1 B1' c0 c1 c2 c3 c4 c5 c6
   cases bo with
   | true=>
    have HD:Hid (cx F d (k+1)=cx F d k++[F k]):=kc (hb1 rfl)
    clear hb1 hb2
    obtain ⟨c0,c1,c2,c3,c4,c5,c6⟩:=hA2
    go_wp2_with (at_builtin;refine wpList_append_own _ rfl _ _ 25 rfl w.heap.size 35 i0 _ 7 56 Tryz.underlying25 hi hz0 hz1 hz2 rfl (by decide) _ _ _ rfl (World.ownsRow.alloc A2.out _) ⟨_,0,none⟩ 1 1 (au (F k)) rfl rfl ?_ ?_ ?_ ?_ ?_ ?_)
    ·intro j u hj
     have hj8:j<7:=by
      by_cases e:j<7
      ·exact e
      ·rw[List.getElem?_eq_none (by simp[au];omega)] at hj;cases hj
     have hcase:j=0\/j=1\/j=2\/j=3\/j=4\/j=5\/j=6:=by omega
     rcases hcase with e|e|e|e|e|e|e <;>subst e <;>simp[au] at hj <;>subst hj <;>simp[Addr.add,go_sem]
    ·intro u hu
     simp only[au,List.mem_cons,List.not_mem_nil,or_false] at hu
     rcases hu with e|e|e|e|e|e|e <;>subst e <;>rfl
    ·unfold maxLen;omega
    ·omega
    ·have:=B2'.out.size;simp;omega
    ·intro v' w3 hown hgrow _
     have A3:Hid (ag w3 w.heap.size v' (cx F d (k+1))):=by
      show ag w3 w.heap.size v' (cx F d (k+1))
      rw[HD.out]
      unfold ag
      simpa using hown
     have B3:Hid (Below w.heap.size w w3):=(B2'.out.alloc B2'.out.size _).grown hgrow (by have:=B2'.out.size;simp;omega) (fun q hq=>(HLT.out q hq).1)
     clear hown hgrow
     obtain ⟨a3,m3,hv3,_,_⟩:=A3.out.shape
     subst hv3
     go_wp2
     go_roundw
     case rel=>exact ⟨k+1,by omega,by go_num,A3,B3⟩
     case measure=>simp[intOf];omega
   | false=>
    have A3:Hid (ag w2 w.heap.size (Sl av (cx F d k).length cv) (cx F d (k+1))):=by
     show ag w2 w.heap.size (Sl av (cx F d k).length cv) (cx F d (k+1))
     rw[lO (hb2 rfl)];exact A2.out
    clear hb1 hb2
    go_wp2
    go_roundw
    case rel=>exact ⟨k+1,by omega,by go_num,A3,B2'⟩
    case measure=>simp[intOf];omega
  ·have hkn:k=n:=by omega
   subst hkn
   go_wp2
   go_ret
   rw[E.out]
   exact ⟨_,rfl,A1.out,B1'.out⟩
end Go.Proofs.YtjhgchlfpolkcaaGreatDoor
