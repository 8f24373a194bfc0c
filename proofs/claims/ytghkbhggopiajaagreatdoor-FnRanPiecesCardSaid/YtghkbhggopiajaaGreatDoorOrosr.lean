/- Lists of orders in memory. -/
import Derived.Test.YtghkbhggopiajaaGreatDoorExpsr
import Derived.Deep.Slices
namespace Go.Proofs.YtghkbhggopiajaaGreatDoor
open Value renaming int → Ii,slice → Sl
open IntKind renaming i64 → Jj
open Nat renaming le_refl → Nf
open Go.Proofs.Tryz renaming prog → Pg
set_option maxHeartbeats 2000000
open Go.ChangeShapes Go.WideShapes Go.ChangeAt Go.RowKit
set_option maxRecDepth 8000
def gn (w:World) (b p:Nat) (a:au):Prop:=
 w.cell? ⟨b,p,none⟩=some (Ii Jj a.id)/\w.cell? ⟨b,p+1,none⟩=some (Ii Jj a.src)/\w.cell? ⟨b,p+2,none⟩=some (Ii Jj a.dst)/\w.cell? ⟨b,p+3,none⟩=some (Ii Jj a.amount)/\w.cell? ⟨b,p+4,none⟩=some (Ii Jj a.first)/\w.cell? ⟨b,p+5,none⟩=some (Ii Jj a.every)/\w.cell? ⟨b,p+6,none⟩=some (Ii Jj a.times)
def aG (w:World) (a:Option Addr) (n:Nat) (F:Nat->au):Prop:=
 n<=1048576/\(n=0\/∃b o,a=some ⟨b,o,none⟩/\b<w.heap.size/\∀i,i<n->gn w b (o+i*7) (F i))
theorem gn.of_cells {w w':World} {b p:Nat} {a:au} (h:gn w b p a) (hc:∀o,w'.cell? ⟨b,o,none⟩=w.cell? ⟨b,o,none⟩):gn w' b p a:=by
 unfold gn at h ⊢
 simp only[hc]
 exact h
theorem aG.below {w w':World} {a:Option Addr} {n:Nat} {F:Nat->au} (h:aG w a n F) (hb:Below w.heap.size w w'):aG w' a n F:=by
 refine ⟨h.1,?_⟩
 rcases h.2 with h0|⟨b,o,ha,hlt,hall⟩
 ·exact Or.inl h0
 ·exact Or.inr ⟨b,o,ha,Nat.lt_of_lt_of_le hlt hb.size,fun i hi=>(hall i hi).of_cells (fun q=>hb.cell (p:=⟨b,q,none⟩) hlt)⟩
theorem aG.alloc {w:World} {a:Option Addr} {n:Nat} {F:Nat->au} (h:aG w a n F) (x:Obj):aG (w.alloc x) a n F:=h.below ((Below.refl _ _).alloc (Nf _) x)
theorem aG.acc {w:World} {a:Option Addr} {n:Nat} {F:Nat->au} (h:aG w a n F) {i:Nat} (hi:i<n):∃b o,a=some ⟨b,o,none⟩/\b<w.heap.size/\gn w b (o+i*7) (F i):=by
 rcases h.2 with h0|⟨b,o,ha,hlt,hall⟩
 ·omega
 ·exact ⟨b,o,ha,hlt,hall i hi⟩
def fE (w:World) (R p:Nat) (a:au):World:=
 ((((((w.setCell ⟨R,p,none⟩ (Ii Jj a.id)).setCell ⟨R,p+1,none⟩ (Ii Jj a.src)).setCell ⟨R,p+2,none⟩ (Ii Jj a.dst)).setCell ⟨R,p+3,none⟩ (Ii Jj a.amount)).setCell ⟨R,p+4,none⟩ (Ii Jj a.first)).setCell ⟨R,p+5,none⟩ (Ii Jj a.every)).setCell ⟨R,p+6,none⟩ (Ii Jj a.times)
theorem dd:(Pg.info? 45).map (fun i=>(i.zero,i.size,i.bytes))=some (some (.agg #[Ii Jj 0,Ii Jj 0,Ii Jj 0,Ii Jj 0,Ii Jj 0,Ii Jj 0,Ii Jj 0]),7,56):=by kernel_rfl
open Go.RowKit
set_option maxRecDepth 8000
def bB (F:Nat->au) (n:Nat):Prop:=n<=8/\(∀i,i<n->aL (F i))/\∀i,0<i->i<n->(F (i-1)).id<(F i).id
theorem js (a:Option Addr) (n c:Nat) (F:Nat->au) (w:World) (h:aG w a n F):
  Calls Pg 86 #[Sl a n c] w fun e w'=>af e (bB F n)/\Below w.heap.size w w':=by
 have H:=aa h
 have hn:=h.1
 clear h
 go_enter Tryz.func86,Tryz.ntmps86
 go_wp2
 go_loopw[3] (fun i wr=>∃k:Nat,k<=n/\i=Ii Jj k/\Hid (∀j,j<k->aL (F j))/\Hid (∀j,0<j->j<k->(F (j-1)).id<(F j).id)/\Hid (Below w.heap.size w wr)) (fun i _=>n-(intOf i).toNat)
 case atStart=>exact ⟨0,Nat.zero_le _,rfl,fun j hj=>absurd hj (Nat.not_lt_zero _),fun j _ hj=>absurd hj (Nat.not_lt_zero _),Below.refl _ _⟩
 case round=>
  obtain ⟨k,hk,rfl,hok,hri,hB⟩:=hrel
  by_cases hlt:k<n
  ·obtain ⟨b,o,rfl,hb0,hA0⟩:=H.out.acc hlt
   have hb:b<wr.heap.size:=Nat.lt_of_lt_of_le hb0 hB.out.size
   have hA:=hA0.of_cells (w':=wr) (fun q=>hB.out.cell (p:=⟨b,q,none⟩) hb0)
   clear hA0
   obtain ⟨c0,c1,c2,c3,c4,c5,c6⟩:=hA
   have hov:∀v q,(bH wr v).cell? ⟨b,q,none⟩=wr.cell? ⟨b,q,none⟩:=fun v q=>(ap wr v).cell (p:=⟨b,q,none⟩) hb
   by_cases hoks:aL (F k)
   ·have HS:Hid (aL (F k)):=hoks
    have HK:Hid (∀j,j<k+1->aL (F j)):=fun j hj=>by
     by_cases e:j=k
     ·subst e;exact hoks
     ·exact hok.out j (by omega)
    clear hoks
    by_cases hk0:0<k
    ·obtain ⟨b',o',e',hb0',hA0'⟩:=H.out.acc (show k-1<n by omega)
     obtain ⟨rfl,rfl⟩:b=b'/\o=o':=by simpa using e'
     have d0:wr.cell? ⟨b,o+(k-1)*7,none⟩=some (Ii Jj (F (k-1)).id):=by
      rw[hB.out.cell (p:=⟨b,o+(k-1)*7,none⟩) hb0];exact hA0'.1
     clear e' hA0' hb0'
     have g0:(0:Int)<(k:Int):=by omega
     by_cases hr:(F (k-1)).id<(F k).id
     ·have HR:Hid (∀j,0<j->j<k+1->(F (j-1)).id<(F j).id):=fun j h1 h2=>by
       by_cases e:j=k
       ·subst e;exact hr
       ·exact hri.out j h1 (by omega)
      have hr':¬(F k).id<=(F (k-1)).id:=by omega
      have hd:decide ((F k).id<=(F (k-1)).id)=false:=decide_eq_false hr'
      go_wp2
      refine aw (by kernel_rfl) (by kernel_rfl) ?_
      repeat (go_big_quiet_step ((first|(go_at_call 135;exact Calls.over_of (cY (F k) _ HS.out)))))
      refine wpQuiet_nil ?_
      intro _ hw'
      obtain ⟨vq,hw''⟩:=hw'
      subst hw''
      go_wp2
      go_roundw
      case rel=>exact ⟨k+1,by omega,by go_num,HK,HR,hB.out.trans ((ap wr vq).mono hB.out.size)⟩
      case measure=>simp[intOf];omega
     ·have NR:Hid (¬bB F n):=fun hh=>hr (hh.2.2 k hk0 hlt)
      have hr':(F k).id<=(F (k-1)).id:=by omega
      clear hr
      go_wp2
      refine aw (by kernel_rfl) (by kernel_rfl) ?_
      repeat (go_big_quiet_step ((first|(go_at_call 135;exact Calls.over_of (cY (F k) _ HS.out)))))
      refine wpQuiet_nil ?_
      intro _ hw'
      obtain ⟨vq,hw''⟩:=hw'
      subst hw''
      go_wp2
      go_ret
      exact ⟨af.no NR.out,hB.out.trans ((ap wr vq).mono hB.out.size)⟩
    ·have g0:decide (0<k)=false:=decide_eq_false (by omega)
     have HR:Hid (∀j,0<j->j<k+1->(F (j-1)).id<(F j).id):=fun j h1 h2=>by omega
     have hk1:k<=0:=by omega
     clear hk0
     go_wp2
     refine aw (by kernel_rfl) (by kernel_rfl) ?_
     repeat (go_big_quiet_step ((first|(go_at_call 135;exact Calls.over_of (cY (F k) _ HS.out)))))
     refine wpQuiet_nil ?_
     intro _ hw'
     obtain ⟨vq,hw''⟩:=hw'
     subst hw''
     go_wp2
     go_roundw
     case rel=>exact ⟨k+1,by omega,by go_num,HK,HR,hB.out.trans ((ap wr vq).mono hB.out.size)⟩
     case measure=>simp[intOf];omega
   ·have NR:Hid (¬bB F n):=fun hr=>hoks (hr.2.1 k hlt)
    have NO:=aa hoks
    clear hoks
    go_wp2
    refine aw (by kernel_rfl) (by kernel_rfl) ?_
    repeat (go_big_quiet_step ((first|(go_at_call 135;exact Calls.over_of (gy (F k) _ NO.out)))))
    refine wpQuiet_nil ?_
    intro _ hw'
    obtain ⟨vq,hw''⟩:=hw'
    subst hw''
    go_wp2
    go_ret
    exact ⟨af.no NR.out,hB.out.trans ((ap wr vq).mono hB.out.size)⟩
  ·have hkn:k=n:=by omega
   subst hkn
   clear hlt hk
   by_cases h8:k<=8
   ·have R:Hid (bB F k):=⟨h8,hok.out,hri.out⟩
    have hd:decide ((k:Int)<=8)=true:=decide_eq_true (by omega)
    go_wp2
    go_ret
    exact ⟨af.yes R.out,hB.out⟩
   ·have R:Hid (¬bB F k):=fun hh=>h8 hh.1
    have h8':(8:Int)<(k:Int):=by omega
    have hd:decide ((k:Int)<=8)=false:=decide_eq_false (by omega)
    go_wp2
    go_ret
    exact ⟨af.no R.out,hB.out⟩
theorem jt (a:Option Addr) (n c:Nat) (F:Nat->au) (w:World) (h:aG w a n F):
  Calls Pg 77 #[Sl a n c] w fun e w'=>af e (bB F n)/\Below w.heap.size w w':=by
 have H:=aa h
 have hn:=h.1
 clear h
 by_cases h8:n<=8
 rotate_left
 ·have R:Hid (¬bB F n):=fun hh=>h8 hh.1
  have h8':(8:Int)<(n:Int):=by omega
  go_enter Tryz.func77,Tryz.ntmps77
  go_wp2
  go_ret
  exact ⟨af.no R.out,Below.refl _ _⟩
 go_enter Tryz.func77,Tryz.ntmps77
 go_wp2
 go_loopw[10] (fun i wr=>∃k:Nat,k<=n/\i=Ii Jj k/\Hid (∀j,j<k->aL (F j))/\Hid (∀j,0<j->j<k->(F (j-1)).id<(F j).id)/\Hid (Below w.heap.size w wr)) (fun i _=>n-(intOf i).toNat)
 case atStart=>exact ⟨0,Nat.zero_le _,rfl,fun j hj=>absurd hj (Nat.not_lt_zero _),fun j _ hj=>absurd hj (Nat.not_lt_zero _),Below.refl _ _⟩
 case round=>
  obtain ⟨k,hk,rfl,hok,hri,hB⟩:=hrel
  by_cases hlt:k<n
  ·obtain ⟨b,o,rfl,hb0,hA0⟩:=H.out.acc hlt
   have hb:b<wr.heap.size:=Nat.lt_of_lt_of_le hb0 hB.out.size
   have hA:=hA0.of_cells (w':=wr) (fun q=>hB.out.cell (p:=⟨b,q,none⟩) hb0)
   clear hA0
   obtain ⟨c0,c1,c2,c3,c4,c5,c6⟩:=hA
   have hov:∀v q,(bH (wr.alloc (.cells #[Ii Jj (F k).id,Ii Jj (F k).src,Ii Jj (F k).dst,Ii Jj (F k).amount,Ii Jj (F k).first,Ii Jj (F k).every,Ii Jj (F k).times] 45)) v).cell? ⟨b,q,none⟩=(wr.alloc (.cells #[Ii Jj (F k).id,Ii Jj (F k).src,Ii Jj (F k).dst,Ii Jj (F k).amount,Ii Jj (F k).first,Ii Jj (F k).every,Ii Jj (F k).times] 45)).cell? ⟨b,q,none⟩:=fun v q=>(ap _ v).cell (p:=⟨b,q,none⟩) (by simp;omega)
   have hov2:∀v q,(bH (wr.alloc (.cells #[Ii Jj (F k).id,Ii Jj (F k).src,Ii Jj (F k).dst,Ii Jj (F k).amount,Ii Jj (F k).first,Ii Jj (F k).every,Ii Jj (F k).times] 45)) v).cell? ⟨wr.heap.size,q,none⟩=(wr.alloc (.cells #[Ii Jj (F k).id,Ii Jj (F k).src,Ii Jj (F k).dst,Ii Jj (F k).amount,Ii Jj (F k).first,Ii Jj (F k).every,Ii Jj (F k).times] 45)).cell? ⟨wr.heap.size,q,none⟩:=fun v q=>(ap _ v).cell (p:=⟨wr.heap.size,q,none⟩) (by simp)
   by_cases hoks:aL (F k)
   ·have HS:Hid (aL (F k)):=hoks
    have HK:Hid (∀j,j<k+1->aL (F j)):=fun j hj=>by
     by_cases e:j=k
     ·subst e;exact hoks
     ·exact hok.out j (by omega)
    clear hoks
    by_cases hk0:0<k
    ·obtain ⟨b',o',e',hb0',hA0'⟩:=H.out.acc (show k-1<n by omega)
     obtain ⟨rfl,rfl⟩:b=b'/\o=o':=by simpa using e'
     have d0:wr.cell? ⟨b,o+(k-1)*7,none⟩=some (Ii Jj (F (k-1)).id):=by
      rw[hB.out.cell (p:=⟨b,o+(k-1)*7,none⟩) hb0];exact hA0'.1
     clear e' hA0' hb0'
     have g0:(0:Int)<(k:Int):=by omega
     by_cases hr:(F (k-1)).id<(F k).id
     ·have HR:Hid (∀j,0<j->j<k+1->(F (j-1)).id<(F j).id):=fun j h1 h2=>by
       by_cases e:j=k
       ·subst e;exact hr
       ·exact hri.out j h1 (by omega)
      have hr':¬(F k).id<=(F (k-1)).id:=by omega
      have hd:decide ((F k).id<=(F (k-1)).id)=false:=decide_eq_false hr'
      go_wp2
      refine aw (by kernel_rfl) (by kernel_rfl) ?_
      repeat (go_big_quiet_step ((first|(go_at_call 74;exact Calls.over_of (dV (F k) _ HS.out)))))
      refine wpQuiet_nil ?_
      intro _ hw'
      obtain ⟨vq,hw''⟩:=hw'
      subst hw''
      go_wp2
      go_roundw
      case rel=>exact ⟨k+1,by omega,by go_num,HK,HR,(hB.out.alloc hB.out.size _).trans ((ap _ vq).mono (by have:=hB.out.size;simp;omega))⟩
      case measure=>simp[intOf];omega
     ·have NR:Hid (¬bB F n):=fun hh=>hr (hh.2.2 k hk0 hlt)
      have hr':(F k).id<=(F (k-1)).id:=by omega
      clear hr
      go_wp2
      refine aw (by kernel_rfl) (by kernel_rfl) ?_
      repeat (go_big_quiet_step ((first|(go_at_call 74;exact Calls.over_of (dV (F k) _ HS.out)))))
      refine wpQuiet_nil ?_
      intro _ hw'
      obtain ⟨vq,hw''⟩:=hw'
      subst hw''
      go_wp2
      go_ret
      exact ⟨af.no NR.out,(hB.out.alloc hB.out.size _).trans ((ap _ vq).mono (by have:=hB.out.size;simp;omega))⟩
    ·have g0:decide (0<k)=false:=decide_eq_false (by omega)
     have HR:Hid (∀j,0<j->j<k+1->(F (j-1)).id<(F j).id):=fun j h1 h2=>by omega
     have hk1:k<=0:=by omega
     clear hk0
     go_wp2
     refine aw (by kernel_rfl) (by kernel_rfl) ?_
     repeat (go_big_quiet_step ((first|(go_at_call 74;exact Calls.over_of (dV (F k) _ HS.out)))))
     refine wpQuiet_nil ?_
     intro _ hw'
     obtain ⟨vq,hw''⟩:=hw'
     subst hw''
     go_wp2
     go_roundw
     case rel=>exact ⟨k+1,by omega,by go_num,HK,HR,(hB.out.alloc hB.out.size _).trans ((ap _ vq).mono (by have:=hB.out.size;simp;omega))⟩
     case measure=>simp[intOf];omega
   ·have NR:Hid (¬bB F n):=fun hr=>hoks (hr.2.1 k hlt)
    have NO:=aa hoks
    clear hoks
    go_wp2
    refine aw (by kernel_rfl) (by kernel_rfl) ?_
    repeat (go_big_quiet_step ((first|(go_at_call 74;exact Calls.over_of (jr (F k) _ NO.out)))))
    refine wpQuiet_nil ?_
    intro _ hw'
    obtain ⟨vq,hw''⟩:=hw'
    subst hw''
    go_wp2
    go_ret
    exact ⟨af.no NR.out,(hB.out.alloc hB.out.size _).trans ((ap _ vq).mono (by have:=hB.out.size;simp;omega))⟩
  ·have hkn:k=n:=by omega
   subst hkn
   clear hlt hk
   have R:Hid (bB F k):=⟨h8,hok.out,hri.out⟩
   go_wp2
   go_ret
   exact ⟨af.yes R.out,hB.out⟩
open Go.RowKit
set_option maxRecDepth 8000
def an (a:au):List Value:=[Ii Jj a.id,Ii Jj a.src,Ii Jj a.dst,Ii Jj a.amount,Ii Jj a.first,Ii Jj a.every,Ii Jj a.times]
def ah (w:World) (B:Nat) (v:Value) (l:List au):Prop:=w.ownsRow B 45 7 v l.length (l.flatMap an)
theorem aA (l:List au):(l.flatMap an).length=l.length*7:=by
 induction l with
 | nil=>rfl
 | cons a l ih=>simp only[List.flatMap_cons,List.length_append,ih,List.length_cons,an,List.length_nil];omega
theorem fF (l:List au):∀(i j:Nat) (hi:i<l.length) (_:j<7),(l.flatMap an)[i*7+j]? =(an l[i])[j]? :=by
 induction l with
 | nil=>intro i j hi;simp at hi
 | cons a l ih=>
  intro i j hi hj
  rw[List.flatMap_cons]
  cases i with
  | zero=>
   rw[List.getElem?_append_left (by simp[an];omega)]
   simp
  | succ i=>
   have hl:(an a).length=7:=rfl
   rw[List.getElem?_append_right (by rw[hl];omega),hl]
   have e:(i+1)*7+j-7=i*7+j:=by omega
   rw[e,ih i j (by simpa using hi) hj]
   simp
theorem ah.kept {w w':World} {B:Nat} {v:Value} {l:List au} (h:ah w B v l) (hb:Below w.heap.size w w'):ah w' B v l:=
 World.ownsRow.kept (row:=none) h ⟨hb.os,hb.tape,hb.output,hb.size,fun k hk _=>hb.block k hk⟩ (by cases hv:v.ownBlock <;>simp)
theorem ah.shape {w:World} {B:Nat} {v:Value} {l:List au} (h:ah w B v l):
  ∃a cap,v=Sl a l.length cap/\(∀g,v.ownBlock=some g->B<=g/\g<w.heap.size)/\
   ∀i (hi:i<l.length),∃g,a=some ⟨g,0,none⟩/\B<=g/\g<w.heap.size/\gn w g (i*7) l[i]:=by
 have hlt:=World.ownsRow.lt h
 rcases h.2 with ⟨hv,hn⟩|⟨g,cap,cur,hv,hg,r⟩
 ·refine ⟨none,0,by rw[hv,hn],fun g hg=>hlt g hg,fun i hi=>?_⟩
  omega
 ·refine ⟨some ⟨g,0,none⟩,cap,hv,fun g hg=>hlt g hg,fun i hi=>?_⟩
  have ho:v.ownBlock=some g:=by rw[hv];rfl
  have hs:w.ownsRow B 45 7 (Sl (some ⟨g,0,none⟩) l.length cap) l.length (l.flatMap an):=by rw[←hv];exact h
  have hc:∀j,j<7->w.cell? ⟨g,i*7+j,none⟩=(an l[i])[j]? :=fun j hj=>by
   rw[World.ownsRow.cellAt hs (i*7+j) (by omega),fF l i j hi hj]
  exact ⟨g,rfl,hg,(hlt g ho).2,hc 0 (by omega),hc 1 (by omega),hc 2 (by omega),hc 3 (by omega),hc 4 (by omega),hc 5 (by omega),hc 6 (by omega)⟩
theorem ah.mono {w:World} {B B':Nat} {v:Value} {l:List au} (h:ah w B v l) (hB:B'<=B):ah w B' v l:=
 ⟨h.1,h.2.elim Or.inl (fun ⟨g,cap,cur,hv,hg,r⟩=>Or.inr ⟨g,cap,cur,hv,Nat.le_trans hB hg,r⟩)⟩
theorem ah.nil (w:World) (B:Nat):ah w B (Sl none 0 0) []:=World.ownsRow_nil w B 45 7
theorem ah.empty (w:World) (B:Nat) (hB:B<=w.heap.size):ah (w.alloc (.cells #[] 45)) B (Sl (some ⟨w.heap.size,0,none⟩) 0 0) []:=World.ownsRow_lit w #[] 0 hB (Nat.zero_le _) (by simp)
def ae (L:List au):Nat->au:=fun j=>L.getD j ⟨0,0,0,0,0,0,0⟩
theorem dn {L:List au} {j:Nat} (h:j<L.length):ae L j=L[j]:=by simp[ae,List.getD,List.getElem?_eq_getElem h]
theorem dA {L:List au} {p:Nat} (x:au) (h:p<L.length):ae (L.set p x) p=x:=by
 rw[dn (by simpa using h)];simp
theorem mW {L:List au} {p j:Nat} (x:au) (h:j≠p):ae (L.set p x) j=ae L j:=by
 simp only[ae,List.getD]
 rw[List.getElem?_set_ne (by omega)]
theorem ah.list {w:World} {B:Nat} {a:Option Addr} {c m:Nat} {L:List au} (h:ah w B (Sl a m c) L) (hl:L.length<=1048576):m=L.length/\aG w a m (ae L):=by
 obtain ⟨a',c',hv,_,hs⟩:=h.shape
 obtain ⟨rfl,rfl,rfl⟩:a=a'/\m=L.length/\c=c':=by simpa using hv
 refine ⟨rfl,hl,?_⟩
 by_cases h0:L.length=0
 ·exact Or.inl h0
 ·obtain ⟨g,ea,_,hg,_⟩:=hs 0 (by omega)
  refine Or.inr ⟨g,0,ea,hg,fun i hi=>?_⟩
  obtain ⟨g',ea',_,_,hA⟩:=hs i hi
  rw[ea] at ea'
  have:g=g':=by simpa using ea'
  subst this
  rw[dn hi]
  simpa using hA
theorem iC:∀(L:List au) (p j:Nat) (u:Value) (A:au),p<L.length->j<7->(an (ae L p)).set j u=an A->(L.flatMap an).set (p*7+j) u=(L.set p A).flatMap an
 | [],p,j,u,A,hp,_,_=>by simp at hp
 | x::L,0,j,u,A,_,hj,h=>by
  have hl:(an x).length=7:=rfl
  have h':(an x).set j u=an A:=h
  simp only[List.flatMap_cons,List.set_cons_zero,Nat.zero_mul,Nat.zero_add]
  rw[List.set_append_left _ _ (by rw[hl];omega),h']
 | x::L,p+1,j,u,A,hp,hj,h=>by
  have hl:(an x).length=7:=rfl
  have ih:=iC L p j u A (by simpa using hp) hj (by simpa [ae,List.getD] using h)
  simp only[List.flatMap_cons,List.set_cons_succ]
  rw[List.set_append_right _ _ (by rw[hl];omega),hl]
  have e:(p+1)*7+j-7=p*7+j:=by omega
  rw[e,ih]
theorem ah.stored1 {w:World} {B g cap:Nat} {L:List au} (h:ah w B (Sl (some ⟨g,0,none⟩) L.length cap) L) {p:Nat} (hp:p<L.length) (j:Nat) (hj:j<7) (u:Value) (A:au) (hA:(an (ae L p)).set j u=an A):
  ah (w.setCell ⟨g,p*7+j,none⟩ u) B (Sl (some ⟨g,0,none⟩) (L.set p A).length cap) (L.set p A):=by
 obtain ⟨h1,_⟩:=World.ownsRow.stored h (p*7+j) u
 unfold ah
 rw[←iC L p j u A hp hj hA,List.length_set]
 exact h1
theorem ah.stored {w:World} {B g cap:Nat} {L:List au} (h:ah w B (Sl (some ⟨g,0,none⟩) L.length cap) L) {p:Nat} (hp:p<L.length) (A:au):
  ah (fE w g (p*7) A) B (Sl (some ⟨g,0,none⟩) L.length cap) (L.set p A):=by
 have s0:=h.stored1 hp 0 (by omega) (Ii Jj A.id) {ae L p with id:=A.id} rfl
 have s1:=s0.stored1 (p:=p) (by simpa using hp) 1 (by omega) (Ii Jj A.src) {ae L p with id:=A.id,src:=A.src} (by rw[dA _ hp];rfl)
 simp only[List.set_set] at s1
 have s2:=s1.stored1 (p:=p) (by simpa using hp) 2 (by omega) (Ii Jj A.dst) {ae L p with id:=A.id,src:=A.src,dst:=A.dst} (by rw[dA _ hp];rfl)
 simp only[List.set_set] at s2
 have s3:=s2.stored1 (p:=p) (by simpa using hp) 3 (by omega) (Ii Jj A.amount) {ae L p with id:=A.id,src:=A.src,dst:=A.dst,amount:=A.amount} (by rw[dA _ hp];rfl)
 simp only[List.set_set] at s3
 have s4:=s3.stored1 (p:=p) (by simpa using hp) 4 (by omega) (Ii Jj A.first) {ae L p with id:=A.id,src:=A.src,dst:=A.dst,amount:=A.amount,first:=A.first} (by rw[dA _ hp];rfl)
 simp only[List.set_set] at s4
 have s5:=s4.stored1 (p:=p) (by simpa using hp) 5 (by omega) (Ii Jj A.every) {ae L p with id:=A.id,src:=A.src,dst:=A.dst,amount:=A.amount,first:=A.first,every:=A.every} (by rw[dA _ hp];rfl)
 simp only[List.set_set] at s5
 have s6:=s5.stored1 (p:=p) (by simpa using hp) 6 (by omega) (Ii Jj A.times) A (by rw[dA _ hp];rfl)
 simp only[List.set_set,List.length_set,Nat.add_zero] at s6
 exact s6
theorem cq {a b c:World} {row:Option Nat} (h:a.grownBy b row) (k:b.grownBy c row):a.grownBy c row:=
 ⟨k.os.trans h.os,k.tape.trans h.tape,k.output.trans h.output,Nat.le_trans h.size k.size,fun i hi hn=>(k.block i (Nat.lt_of_lt_of_le hi h.size) hn).trans (h.block i hi hn)⟩
theorem bD (w:World) (R o:Nat) (u:Value):w.grownBy (w.setCell ⟨R,o,none⟩ u) (some R):=
 ⟨rfl,rfl,rfl,by simp[World.setCell],fun k _ hn=>Below.heap_setCell _ _ _ _ (fun e=>hn (by rw[e]))⟩
theorem lC (w:World) (R p:Nat) (A:au):w.grownBy (fE w R p A) (some R):=by
 unfold fE
 exact cq (cq (cq (cq (cq (cq (bD w R p _) (bD _ R (p+1) _)) (bD _ R (p+2) _)) (bD _ R (p+3) _)) (bD _ R (p+4) _)) (bD _ R (p+5) _)) (bD _ R (p+6) _)
open Go.RowKit
set_option maxRecDepth 8000
open Classical in
noncomputable def bK (F:Nat->au) (d:Int):Nat->List au
 | 0=>[]
 | k+1=>if eh (F k) d then bK F d k++[F k] else bK F d k
theorem ie {F:Nat->au} {d:Int} {k:Nat} (h:eh (F k) d):bK F d (k+1)=bK F d k++[F k]:=by simp[bK,h]
theorem ju {F:Nat->au} {d:Int} {k:Nat} (h:¬eh (F k) d):bK F d (k+1)=bK F d k:=by simp[bK,h]
theorem fT (F:Nat->au) (d:Int):∀k,(bK F d k).length<=k
 | 0=>Nf _
 | k+1=>by
  have:=fT F d k
  by_cases h:eh (F k) d
  ·rw[ie h];simp;omega
  ·rw[ju h];omega
open Classical in
noncomputable def fG (F:Nat->au) (n:Nat) (d:Int):List au:=if bB F n then bK F d n else []
theorem mX (F:Nat->au) (n:Nat) (d:Int):(fG F n d).length<=n:=by
 unfold fG
 split
 ·exact fT F d n
 ·exact Nat.zero_le _
theorem lD (a:Option Addr) (n c:Nat) (F:Nat->au) (w:World) (h:aG w a n F) (hR:bB F n):
  Calls Pg 86 #[Sl a n c] w fun e w'=>e=.returned (.bool true)/\Below w.heap.size w w':=
 (js a n c F w h).mono fun e w' ⟨⟨b,he,_,h2⟩,hB⟩=>⟨by cases b with|true=>exact he|false=>exact absurd hR (h2 rfl),hB⟩
theorem mY (a:Option Addr) (n c:Nat) (F:Nat->au) (w:World) (h:aG w a n F) (hR:¬bB F n):
  Calls Pg 86 #[Sl a n c] w fun e w'=>e=.returned (.bool false)/\Below w.heap.size w w':=
 (js a n c F w h).mono fun e w' ⟨⟨b,he,h1,_⟩,hB⟩=>⟨by cases b with|false=>exact he|true=>exact absurd (h1 rfl) hR,hB⟩
theorem lE (a:Option Addr) (n c:Nat) (F:Nat->au) (w:World) (h:aG w a n F) (hR:bB F n):
  Calls Pg 77 #[Sl a n c] w fun e w'=>e=.returned (.bool true)/\Below w.heap.size w w':=
 (jt a n c F w h).mono fun e w' ⟨⟨b,he,_,h2⟩,hB⟩=>⟨by cases b with|true=>exact he|false=>exact absurd hR (h2 rfl),hB⟩
theorem mZ (a:Option Addr) (n c:Nat) (F:Nat->au) (w:World) (h:aG w a n F) (hR:¬bB F n):
  Calls Pg 77 #[Sl a n c] w fun e w'=>e=.returned (.bool false)/\Below w.heap.size w w':=
 (jt a n c F w h).mono fun e w' ⟨⟨b,he,h1,_⟩,hB⟩=>⟨by cases b with|false=>exact he|true=>exact absurd (h1 rfl) hR,hB⟩
theorem qm (a:Option Addr) (n c:Nat) (F:Nat->au) (d:Int) (w:World) (h:aG w a n F):
  Calls Pg 120 #[Sl a n c,Ii Jj d] w fun e w'=>∃v,e=.returned v/\ah w' w.heap.size v (fG F n d)/\Below w.heap.size w w':=by
 obtain ⟨i0,hi,hz0,hz1,hz2⟩:=info_parts dd
 have A0:Hid (ah (w.alloc (.cells #[] 45)) w.heap.size (Sl (some ⟨w.heap.size,0,none⟩) 0 0) []):=ah.empty w _ (Nf _)
 have B0:Hid (Below w.heap.size w (w.alloc (.cells #[] 45))):=(Below.refl _ _).alloc (Nf _) _
 have H:=aa h
 clear h
 by_cases hR:bB F n
 rotate_left
 ·have E:Hid (fG F n d=[]):=if_neg hR
  have HR:=aa hR
  clear hR
  go_enter Tryz.func120,Tryz.ntmps120
  go_wp2
  refine wp_loop_rounds 1 ?_
  rw[rounds_succ]
  go_wp2_with fail
  refine (mY a n c F _ (H.out.below B0.out) HR.out).mono ?_
  rintro e w1 ⟨rfl,B1⟩
  have A1:=aa (A0.out.kept B1)
  have B1':=aa (B0.out.trans (B1.mono B0.out.size))
  clear B1 A0 B0
  go_wp2
  go_ret
  rw[E.out]
  exact ⟨_,rfl,A1.out,B1'.out⟩
 have E:Hid (fG F n d=bK F d n):=if_pos hR
 have HR:=aa hR
 have hn8:=hR.1
 clear hR
 go_enter Tryz.func120,Tryz.ntmps120
 go_wp2
 go_loopw[5,6] (fun v i wr=>∃k:Nat,k<=n/\i=Ii Jj k/\Hid (ah wr w.heap.size v (bK F d k))/\Hid (Below w.heap.size w wr)) (fun _ i _=>n-(intOf i).toNat)
 case atStart=>exact ⟨0,Nat.zero_le _,rfl,A0,B0⟩
 case round=>
  obtain ⟨k,hk,rfl,hA,hB⟩:=hrel
  clear A0 B0
  obtain ⟨av,cv,hv,hlt0,_⟩:=hA.out.shape
  have hlen:=fT F d k
  have HLT:Hid (∀g,(Value.slice av (bK F d k).length cv).ownBlock=some g->w.heap.size<=g/\g<wr.heap.size):=by rw[←hv];exact hlt0
  subst hv
  clear hlt0
  go_wp2_with fail
  refine (lD a n c F _ (H.out.below hB.out) HR.out).mono ?_
  rintro e w1 ⟨rfl,B1⟩
  have A1:=aa (hA.out.kept B1)
  have B1':=aa (hB.out.trans (B1.mono hB.out.size))
  clear B1 hA hB
  by_cases hlt:k<n
  ·obtain ⟨b,o,rfl,hb0,hA0⟩:=(H.out.below B1'.out).acc hlt
   obtain ⟨c0,c1,c2,c3,c4,c5,c6⟩:=hA0
   go_wp2_with fail
   refine (t9 (F k) d _).mono ?_
   rintro e w2 ⟨⟨bo,rfl,hb1,hb2⟩,B2⟩
   have A2:=aa (A1.out.kept B2)
   have B2':=aa (B1'.out.trans (B2.mono B1'.out.size))
   have hA2:gn w2 b (o+k*7) (F k):=by
    obtain ⟨b',o',e',hb',hA'⟩:=(H.out.below B2'.out).acc hlt
    obtain ⟨rfl,rfl⟩:b=b'/\o=o':=by simpa using e'
    exact hA'
   clear B2 A1 B1' c0 c1 c2 c3 c4 c5 c6
   cases bo with
   | true=>
    have HD:Hid (bK F d (k+1)=bK F d k++[F k]):=ie (hb1 rfl)
    clear hb1 hb2
    obtain ⟨c0,c1,c2,c3,c4,c5,c6⟩:=hA2
    go_wp2_with (at_builtin;refine wpList_append_own _ rfl _ _ 36 rfl w.heap.size 45 i0 _ 7 56 Tryz.underlying36 hi hz0 hz1 hz2 rfl (by decide) _ _ _ rfl (World.ownsRow.alloc A2.out _) ⟨_,0,none⟩ 1 1 (an (F k)) rfl rfl ?_ ?_ ?_ ?_ ?_ ?_)
    ·intro j u hj
     have hj8:j<7:=by
      by_cases e:j<7
      ·exact e
      ·rw[List.getElem?_eq_none (by simp[an];omega)] at hj;cases hj
     have hcase:j=0\/j=1\/j=2\/j=3\/j=4\/j=5\/j=6:=by omega
     rcases hcase with e|e|e|e|e|e|e <;>subst e <;>simp[an] at hj <;>subst hj <;>simp[Addr.add,go_sem]
    ·intro u hu
     simp only[an,List.mem_cons,List.not_mem_nil,or_false] at hu
     rcases hu with e|e|e|e|e|e|e <;>subst e <;>rfl
    ·unfold maxLen;omega
    ·omega
    ·have:=B2'.out.size;simp;omega
    ·intro v' w3 hown hgrow _
     have A3:Hid (ah w3 w.heap.size v' (bK F d (k+1))):=by
      show ah w3 w.heap.size v' (bK F d (k+1))
      rw[HD.out]
      unfold ah
      simpa using hown
     have B3:Hid (Below w.heap.size w w3):=(B2'.out.alloc B2'.out.size _).grown hgrow (by have:=B2'.out.size;simp;omega) (fun q hq=>(HLT.out q hq).1)
     clear hown hgrow
     obtain ⟨a3,m3,hv3,_,_⟩:=A3.out.shape
     subst hv3
     go_wp2
     go_roundw
     case rel=>exact ⟨k+1,by omega,by go_num,A3,B3⟩
     case measure=>simp[intOf];omega
   | false=>
    have A3:Hid (ah w2 w.heap.size (Sl av (bK F d k).length cv) (bK F d (k+1))):=by
     show ah w2 w.heap.size (Sl av (bK F d k).length cv) (bK F d (k+1))
     rw[ju (hb2 rfl)];exact A2.out
    clear hb1 hb2
    go_wp2
    go_roundw
    case rel=>exact ⟨k+1,by omega,by go_num,A3,B2'⟩
    case measure=>simp[intOf];omega
  ·have hkn:k=n:=by omega
   subst hkn
   go_wp2
   go_ret
   rw[E.out]
   exact ⟨_,rfl,A1.out,B1'.out⟩
theorem qn (a:Option Addr) (n c:Nat) (F:Nat->au) (d:Int) (w:World) (h:aG w a n F):
  Calls Pg 26 #[Sl a n c,Ii Jj d] w fun e w'=>∃v,e=.returned v/\ah w' w.heap.size v (fG F n d)/\Below w.heap.size w w':=by
 obtain ⟨i0,hi,hz0,hz1,hz2⟩:=info_parts dd
 have H:=aa h
 clear h
 by_cases hR:bB F n
 rotate_left
 ·have E:Hid (fG F n d=[]):=if_neg hR
  have HR:=aa hR
  clear hR
  go_enter Tryz.func26,Tryz.ntmps26
  go_wp2_with fail
  refine (mZ a n c F _ H.out HR.out).mono ?_
  rintro e w1 ⟨rfl,B1⟩
  have B1':=aa B1
  clear B1
  go_wp2
  go_ret
  rw[E.out]
  exact ⟨_,rfl,ah.nil _ _,B1'.out⟩
 have E:Hid (fG F n d=bK F d n):=if_pos hR
 have HR:=aa hR
 have hn8:=hR.1
 clear hR
 go_enter Tryz.func26,Tryz.ntmps26
 go_wp2_with fail
 refine (lE a n c F _ H.out HR.out).mono ?_
 rintro e w1 ⟨rfl,B1⟩
 have B1':=aa B1
 clear B1
 go_wp2
 go_loopw[5,13] (fun v i wr=>∃k:Nat,k<=n/\i=Ii Jj k/\Hid (ah wr w.heap.size v (bK F d k))/\Hid (Below w.heap.size w wr)) (fun _ i _=>n-(intOf i).toNat)
 case atStart=>exact ⟨0,Nat.zero_le _,rfl,ah.nil _ _,B1'⟩
 case round=>
  obtain ⟨k,hk,rfl,hA,hB⟩:=hrel
  clear B1'
  obtain ⟨av,cv,hv,hlt0,_⟩:=hA.out.shape
  have hlen:=fT F d k
  have HLT:Hid (∀g,(Value.slice av (bK F d k).length cv).ownBlock=some g->w.heap.size<=g/\g<wr.heap.size):=by rw[←hv];exact hlt0
  subst hv
  clear hlt0
  by_cases hlt:k<n
  ·obtain ⟨b,o,rfl,hb0,hA0⟩:=(H.out.below hB.out).acc hlt
   obtain ⟨c0,c1,c2,c3,c4,c5,c6⟩:=hA0
   have X0:Hid (bz (wr.alloc (.cells #[Ii Jj (F k).id,Ii Jj (F k).src,Ii Jj (F k).dst,Ii Jj (F k).amount,Ii Jj (F k).first,Ii Jj (F k).every,Ii Jj (F k).times] 45)) wr.heap.size (F k)):=bz.new wr (F k) 45
   go_wp2_with fail
   refine (tc (F k) d _).mono ?_
   rintro e w2 ⟨⟨bo,rfl,hb1,hb2⟩,B2⟩
   have X2:=aa (X0.out.below B2)
   have A2:Hid (ah w2 w.heap.size (Sl av (bK F d k).length cv) (bK F d k)):=ah.kept (World.ownsRow.alloc hA.out _) B2
   have B2':Hid (Below w.heap.size w w2):=(hB.out.alloc hB.out.size _).trans (B2.mono (by have:=hB.out.size;simp;omega))
   clear B2 hA hB c0 c1 c2 c3 c4 c5 c6 X0
   cases bo with
   | true=>
    have HD:Hid (bK F d (k+1)=bK F d k++[F k]):=ie (hb1 rfl)
    clear hb1 hb2
    obtain ⟨c0,c1,c2,c3,c4,c5,c6,_⟩:=X2.out
    go_wp2_with (at_builtin;refine wpList_append_own _ rfl _ _ 36 rfl w.heap.size 45 i0 _ 7 56 Tryz.underlying36 hi hz0 hz1 hz2 rfl (by decide) _ _ _ rfl (World.ownsRow.alloc A2.out _) ⟨_,0,none⟩ 1 1 (an (F k)) rfl rfl ?_ ?_ ?_ ?_ ?_ ?_)
    ·intro j u hj
     have hj8:j<7:=by
      by_cases e:j<7
      ·exact e
      ·rw[List.getElem?_eq_none (by simp[an];omega)] at hj;cases hj
     have hcase:j=0\/j=1\/j=2\/j=3\/j=4\/j=5\/j=6:=by omega
     rcases hcase with e|e|e|e|e|e|e <;>subst e <;>simp[an] at hj <;>subst hj <;>simp[Addr.add,go_sem]
    ·intro u hu
     simp only[an,List.mem_cons,List.not_mem_nil,or_false] at hu
     rcases hu with e|e|e|e|e|e|e <;>subst e <;>rfl
    ·unfold maxLen;omega
    ·omega
    ·have:=B2'.out.size;simp;omega
    ·intro v' w3 hown hgrow _
     have A3:Hid (ah w3 w.heap.size v' (bK F d (k+1))):=by
      show ah w3 w.heap.size v' (bK F d (k+1))
      rw[HD.out]
      unfold ah
      simpa using hown
     have B3:Hid (Below w.heap.size w w3):=(B2'.out.alloc B2'.out.size _).grown hgrow (by have:=B2'.out.size;simp;omega) (fun q hq=>(HLT.out q hq).1)
     clear hown hgrow
     obtain ⟨a3,m3,hv3,_,_⟩:=A3.out.shape
     subst hv3
     go_wp2
     go_roundw
     case rel=>exact ⟨k+1,by omega,by go_num,A3,B3⟩
     case measure=>simp[intOf];omega
   | false=>
    have A3:Hid (ah w2 w.heap.size (Sl av (bK F d k).length cv) (bK F d (k+1))):=by
     show ah w2 w.heap.size (Sl av (bK F d k).length cv) (bK F d (k+1))
     rw[ju (hb2 rfl)];exact A2.out
    clear hb1 hb2
    go_wp2
    go_roundw
    case rel=>exact ⟨k+1,by omega,by go_num,A3,B2'⟩
    case measure=>simp[intOf];omega
  ·have hkn:k=n:=by omega
   subst hkn
   go_wp2
   go_ret
   rw[E.out]
   exact ⟨_,rfl,hA.out,hB.out⟩
end Go.Proofs.YtghkbhggopiajaaGreatDoor
