/- slices. -/
import Derived.Test.YtghkbhggopiajaaGreatDoorOrosr
import Derived.Test.YtghkbhggopiajaaGreatDoorLets2r
import Derived.Laws.IdiomCopy
namespace Go.Proofs.YtghkbhggopiajaaGreatDoor
open Value renaming int → Ii,slice → Sl
open IntKind renaming i64 → Jj
open Go.Proofs.Tryz renaming prog → Pg
set_option maxHeartbeats 4000000
open Go.RowKit
set_option maxRecDepth 8000
def nA:List Value->Nat->List Value->List Value
 | xs,_,[]=>xs
 | xs,o,v::r=>nA (xs.set o v) (o+1) r
theorem nB:∀(vs xs:List Value) (o:Nat),o+vs.length<=xs.length->nA xs o vs=xs.take o++vs++xs.drop (o+vs.length)
 | [],xs,o,_=>by simp[nA]
 | v::r,xs,o,h=>by
  simp only[List.length_cons] at h
  rw[nA,nB r (xs.set o v) (o+1) (by simp;omega)]
  rw[List.take_add_one,List.getElem?_set_self (by omega),List.take_set_of_le (by omega),List.drop_set_of_lt (by omega)]
  simp only[List.length_cons,Option.toList_some,List.append_assoc,List.nil_append,List.cons_append]
  rw[show o+(r.length+1)=o+1+r.length by omega]
theorem fJ {base e size n cap g:Nat}:∀(vs:List Value) (o:Nat) (w:World) (xs:List Value),w.ownsRow base e size (Sl (some ⟨g,0,none⟩) n cap) n xs->(w.setCells g o vs).ownsRow base e size (Sl (some ⟨g,0,none⟩) n cap) n (nA xs o vs)
 | [],_,_,_,h=>h
 | v::r,o,_,_,h=>fJ r (o+1) _ _ (World.ownsRow.stored h o v).1
theorem qB {w:World} {base e size n m cap g:Nat} {xs:List Value} (h:w.ownsRow base e size (Sl (some ⟨g,0,none⟩) n cap) n xs) (hm:m<=n):w.ownsRow base e size (Sl (some ⟨g,0,none⟩) m cap) m (xs.take (m*size)):=by
 have hms:m*size<=n*size:=Nat.mul_le_mul_right _ hm
 rcases h.2 with ⟨h',_⟩|⟨g',cap',cur,h',hb,hg,hnc,hcm,hcs,htake⟩
 ·simp at h'
 ·simp only[Value.slice.injEq,Option.some.injEq,Addr.mk.injEq,and_true,true_and] at h'
  obtain ⟨rfl,rfl⟩:=h'
  refine ⟨by rw[List.length_take,h.1];omega,.inr ⟨g,cap,cur,rfl,hb,hg,by omega,hcm,hcs,?_⟩⟩
  rw[←htake,List.take_take]
  congr 1
  omega
def gg (pr:au->Bool) (P:List au):Int:=match P.findIdx? pr with|some i=>i|none=> -1
theorem gW {pr:au->Bool} {P:List au} {k:Nat} (hk:k<P.length) (hp:pr (ae P k)=true) (hno:∀j,j<k->pr (ae P j)=false):gg pr P=(k:Int):=by
 have:P.findIdx? pr=some k:=by
  rw[List.findIdx?_eq_some_iff_getElem]
  refine ⟨hk,by rw[←dn hk];exact hp,fun j hj=>?_⟩
  rw[←dn (show j<P.length by omega),hno j hj]
  simp
 simp[gg,this]
theorem eZ {pr:au->Bool} {P:List au} (hno:∀j,j<P.length->pr (ae P j)=false):gg pr P= -1:=by
 have:P.findIdx? pr=none:=by
  rw[List.findIdx?_eq_none_iff]
  intro x hx
  obtain ⟨j,hj,rfl⟩:=List.getElem_of_mem hx
  rw[←dn hj]
  exact hno j hj
 simp[gg,this]
set_option maxRecDepth 8000 in
theorem jE (a:Option Addr) (c:Nat) (P:List au) (g:Nat) (lb:Array Value) (pr:au->Bool) (w:World) (h:aG w a P.length (ae P)) (entered:∀args w,(callFunc g args).run Pg w=.ok (.enter g args) w)
  (hc:∀x W,Below w.heap.size w W->Calls Pg g (#[.agg #[Ii Jj x.id,Ii Jj x.src,Ii Jj x.dst,Ii Jj x.amount,Ii Jj x.first,Ii Jj x.every,Ii Jj x.times]]++lb) W fun e w'=>e=.returned (.bool (pr x))/\Below W.heap.size W w'):
  Calls Pg 119 #[Sl a P.length c,.func (.func g) #[] lb] w fun e w'=>e=.returned (Ii Jj (gg pr P))/\Below w.heap.size w w':=by
 have H:=aa h
 have hn:=h.1
 have HC:Hid (∀x W,Below w.heap.size w W->Calls Pg g (#[.agg #[Ii Jj x.id,Ii Jj x.src,Ii Jj x.dst,Ii Jj x.amount,Ii Jj x.first,Ii Jj x.every,Ii Jj x.times]]++lb) W fun e w'=>e=.returned (.bool (pr x))/\Below W.heap.size W w'):=hc
 clear h hc
 go_enter Tryz.func119,Tryz.ntmps119
 go_wp2
 go_loopw[8] (fun i wr=>∃k:Nat,k<=P.length/\i=Ii Jj k/\Hid (∀j,j<k->pr (ae P j)=false)/\Hid (Below w.heap.size w wr)) (fun i _=>P.length-(eH i).toNat)
 case atStart=>exact ⟨0,Nat.zero_le _,rfl,fun j hj=>absurd hj (Nat.not_lt_zero _),Below.refl _ _⟩
 case round=>
  obtain ⟨k,hk,rfl,hno,hB⟩:=hrel
  by_cases hlt:k<P.length
  ·obtain ⟨b,q,rfl,hb,hA⟩:=(H.out.below hB.out).acc hlt
   obtain ⟨c0,c1,c2,c3,c4,c5,c6⟩:=hA
   cases hpr:pr (ae P k) with
   | true=>
    have E:Hid (gg pr P=(k:Int)):=gW hlt hpr hno.out
    have HK:Hid (∀W,Below w.heap.size w W->Calls Pg g (#[.agg #[Ii Jj (ae P k).id,Ii Jj (ae P k).src,Ii Jj (ae P k).dst,Ii Jj (ae P k).amount,Ii Jj (ae P k).first,Ii Jj (ae P k).every,Ii Jj (ae P k).times]]++lb) W fun e w'=>e=.returned (.bool true)/\Below W.heap.size W w'):=fun W hW=>by rw[←hpr];exact HC.out (ae P k) W hW
    clear hpr
    go_wp2_with fail
    refine (HK.out _ hB.out).mono ?_
    rintro e w1 ⟨rfl,B1⟩
    have B1':=aa (hB.out.trans (B1.mono hB.out.size))
    clear B1
    go_wp2
    go_ret
    rw[E.out]
    exact ⟨rfl,B1'.out⟩
   | false=>
    have HN:Hid (∀j,j<k+1->pr (ae P j)=false):=fun j hj=>by
     by_cases e:j=k
     ·subst e;exact hpr
     ·exact hno.out j (by omega)
    have HK:Hid (∀W,Below w.heap.size w W->Calls Pg g (#[.agg #[Ii Jj (ae P k).id,Ii Jj (ae P k).src,Ii Jj (ae P k).dst,Ii Jj (ae P k).amount,Ii Jj (ae P k).first,Ii Jj (ae P k).every,Ii Jj (ae P k).times]]++lb) W fun e w'=>e=.returned (.bool false)/\Below W.heap.size W w'):=fun W hW=>by rw[←hpr];exact HC.out (ae P k) W hW
    clear hpr
    go_wp2_with fail
    refine (HK.out _ hB.out).mono ?_
    rintro e w1 ⟨rfl,B1⟩
    have B1':=aa (hB.out.trans (B1.mono hB.out.size))
    clear B1
    go_wp2
    go_roundw
    case rel=>exact ⟨k+1,by omega,by go_num,HN,B1'⟩
    case measure=>simp[eH];omega
  ·have hkn:k=P.length:=by omega
   have E:Hid (gg pr P= -1):=eZ (fun j hj=>hno.out j (by omega))
   go_wp2
   go_ret
   rw[E.out]
   exact ⟨rfl,hB.out⟩
theorem sD (m:Nat):(Builtin.zeroCells (Value.agg #[Ii Jj 0,Ii Jj 0,Ii Jj 0,Ii Jj 0,Ii Jj 0,Ii Jj 0,Ii Jj 0]).cells m).toList=List.replicate (m*7) (Ii Jj 0):=by
 apply List.ext_getElem
 ·simp[Builtin.zeroCells,Value.cells]
 ·intro i h1 h2
  have hz:(Value.agg #[Ii Jj 0,Ii Jj 0,Ii Jj 0,Ii Jj 0,Ii Jj 0,Ii Jj 0,Ii Jj 0]).cells=#[Ii Jj 0,Ii Jj 0,Ii Jj 0,Ii Jj 0,Ii Jj 0,Ii Jj 0,Ii Jj 0]:=by simp[Value.cells]
  simp only[Builtin.zeroCells,hz,List.getElem_replicate,Array.getElem_toList,Array.getElem_map]
  have hm:i % 7<7:=Nat.mod_lt _ (by omega)
  simp only[Array.getElem_range,List.size_toArray,List.length_cons,List.length_nil,Nat.zero_add,Nat.reduceAdd]
  generalize i % 7=q at*
  match q,hm with
  | 0,_=>rfl
  | 1,_=>rfl
  | 2,_=>rfl
  | 3,_=>rfl
  | 4,_=>rfl
  | 5,_=>rfl
  | 6,_=>rfl
theorem ah.raw {w:World} {B g n c:Nat} {R:List au} (h:ah w B (Sl (some ⟨g,0,none⟩) n c) R) (hl:R.length=n):w.ownsRow B 45 7 (Sl (some ⟨g,0,none⟩) n c) n (R.flatMap an):=by
 unfold ah at h
 rw[hl] at h
 exact h
theorem oW (w:World) (ty:TypeId) (b o m c:Nat) (h0:0<m) (hc:∀j,j<m*7->(w.cell? ⟨b,o+j,none⟩).isSome=true) (hf:∀j,j<m*7->w.frozen? ⟨b,o+j,none⟩=false):
  (Builtin.clear_ #[36] ty #[Sl (some ⟨b,o,none⟩) m c]).run Pg w=.ok (.tuple #[]) (w.setCells b o (List.replicate (m*7) (Ii Jj 0))):=by
 have hst:=run_storeCells_cells (P:=Pg) b o (List.replicate (m*7) (Ii Jj 0)) 0 w (by simpa using hc) (by simpa using hf) (by intro v hv;rw[(List.mem_replicate.1 hv).2];rfl)
 simp only[Nat.add_zero] at hst
 obtain ⟨q,rfl⟩:∃q,m=q+1:=⟨m-1,by omega⟩
 simp[Builtin.clear_,run_underlying Tryz.underlying36,sD,hst]
theorem fK {g:Nat} {w0:World}:∀(vs:List Value) (o:Nat) (w:World),w0.grownBy w (some g)->w0.grownBy (w.setCells g o vs) (some g)
 | [],_,_,h=>h
 | v::r,o,_,h=>fK r (o+1) _ (aV h o v)
def bP (pr:au->Bool) (L:List au):List au:=L.filter fun x=> !pr x
theorem fj {pr:au->Bool} {L:List au} {j:Nat} (hj:j<L.length):bP pr (L.take (j+1))=if pr (ae L j) then bP pr (L.take j) else bP pr (L.take j)++[ae L j]:=by
 unfold bP
 rw[List.take_succ_eq_append_getElem hj,List.filter_append,dn hj]
 cases h:pr L[j] <;>simp[h]
theorem kO {pr:au->Bool} {L:List au} (h:∀j,j<L.length->pr (ae L j)=false):bP pr L=L:=by
 unfold bP
 rw[List.filter_eq_self]
 intro x hx
 obtain ⟨j,hj,rfl⟩:=List.getElem_of_mem hx
 rw[←dn hj,h j hj]
 rfl
structure fL (w:World) (B g c:Nat) (L:List au) (pr:au->Bool) (i j:Nat):Prop where
 row:∃R:List au,R.length=L.length/\ah w B (Sl (some ⟨g,0,none⟩) L.length c) R/\R.take i=bP pr (L.take j)/\∀t,j<=t->t<L.length->ae R t=ae L t
 lt:i<j
theorem fL.skip {w w':World} {B g c:Nat} {L:List au} {pr:au->Bool} {i j:Nat} (h:fL w B g c L pr i j) (hj:j<L.length) (hp:pr (ae L j)=true) (hb:Below w.heap.size w w'):fL w' B g c L pr i (j+1):=by
 obtain ⟨R,h1,h2,h3,h4⟩:=h.row
 exact ⟨⟨R,h1,h2.kept hb,by rw[h3,fj hj,if_pos hp],fun t ht hl=>h4 t (by omega) hl⟩,by have:=h.lt;omega⟩
theorem fL.put {w w':World} {B g c:Nat} {L:List au} {pr:au->Bool} {i j:Nat} (h:fL w B g c L pr i j) (hj:j<L.length) (hp:pr (ae L j)=false) (hb:Below w.heap.size w w'):fL (fE w' g (i*7) (ae L j)) B g c L pr (i+1) (j+1):=by
 obtain ⟨R,h1,h2,h3,h4⟩:=h.row
 have hlt:=h.lt
 have h2':ah w' B (Sl (some ⟨g,0,none⟩) R.length c) R:=by rw[h1];exact h2.kept hb
 refine ⟨⟨R.set i (ae L j),by simpa using h1,?_,?_,fun t ht hl=>?_⟩,by omega⟩
 ·have:=h2'.stored (p:=i) (by omega) (ae L j)
  rw[h1] at this
  exact this
 ·rw[fj hj,if_neg (by simp[hp]),←h3,List.take_succ_eq_append_getElem (by simp;omega)]
  congr 1
  ·rw[List.take_set_of_le (by omega)]
  ·simp
 ·rw[mW _ (by omega)]
  exact h4 t (by omega) hl
theorem oX (B g c:Nat) (L:List au) (gf:Nat) (lb:Array Value) (pr:au->Bool) (w:World) (h:ah w B (Sl (some ⟨g,0,none⟩) L.length c) L) (hl:L.length<=1048576) (entered:∀args w,(callFunc gf args).run Pg w=.ok (.enter gf args) w)
  (hc:∀x W,w.grownBy W (some g)->Calls Pg gf (#[.agg #[Ii Jj x.id,Ii Jj x.src,Ii Jj x.dst,Ii Jj x.amount,Ii Jj x.first,Ii Jj x.every,Ii Jj x.times]]++lb) W fun e w'=>e=.returned (.bool (pr x))/\Below W.heap.size W w'):
  Calls Pg 70 #[Sl (some ⟨g,0,none⟩) L.length c,.func (.func gf) #[] lb] w fun e w'=>e=.returned (Sl (some ⟨g,0,none⟩) (bP pr L).length c)/\ah w' B (Sl (some ⟨g,0,none⟩) (bP pr L).length c) (bP pr L)/\w.grownBy w' (some g):=by
 have H:=aa h
 have HO:Hid (aG w (some ⟨g,0,none⟩) L.length (ae L)):=(h.list hl).2
 have HC:Hid (∀x W,w.grownBy W (some g)->Calls Pg gf (#[.agg #[Ii Jj x.id,Ii Jj x.src,Ii Jj x.dst,Ii Jj x.amount,Ii Jj x.first,Ii Jj x.every,Ii Jj x.times]]++lb) W fun e w'=>e=.returned (.bool (pr x))/\Below W.heap.size W w'):=hc
 have IX:=jE (some ⟨g,0,none⟩) c L gf lb pr w HO.out entered (fun x W hW=>hc x W ⟨hW.os,hW.tape,hW.output,hW.size,fun i hi _=>hW.block i hi⟩)
 have IXX:Hid (Calls Pg 119 #[Sl (some ⟨g,0,none⟩) L.length c,.func (.func gf) #[] lb] w fun e w'=>e=.returned (Ii Jj (gg pr L))/\Below w.heap.size w w'):=IX
 have hcap:L.length<=c:=by
  rcases h.2 with ⟨hv,hn⟩|⟨g',cap,cur,hv,hg,hcur,r1,r2,r3⟩
  ·cases hv
  ·simp at hv;omega
 have hgl:=World.ownsRow.lt h g rfl
 clear IX h hc
 go_enter Tryz.func70,Tryz.ntmps70
 by_cases hany:∃k,k<L.length/\pr (ae L k)=true/\∀j,j<k->pr (ae L j)=false
 ·obtain ⟨k0,hk0,hp0,hno⟩:=hany
  have E:Hid (gg pr L=(k0:Int)):=gW hk0 hp0 hno
  rw[E.out] at IXX
  have D0:Hid (bP pr (L.take (k0+1))=L.take k0):=by
   show bP pr (L.take (k0+1))=L.take k0
   rw[fj hk0,if_pos hp0]
   refine kO fun j hj=>?_
   have hj':j<k0:=by simp at hj;omega
   rw[dn hj,List.getElem_take,←dn (by omega)]
   exact hno j hj'
  have hk1:((k0:Int) == -1)=false:=by simp
  clear hno hp0
  go_wp2_with (go_at_call 119;refine IXX.out.mono ?_;rintro e w1 ⟨rfl,B1⟩)
  have G1:Hid (w.grownBy w1 (some g)):=⟨B1.os,B1.tape,B1.output,B1.size,fun i hi _=>B1.block i hi⟩
  have A1:Hid (fL w1 B g c L pr k0 (k0+1)):=⟨⟨L,rfl,H.out.kept B1,D0.out.symm,fun _ _ _=>rfl⟩,Nat.lt_succ_self _⟩
  clear B1
  go_loopw[6,5] (fun q p wr=>∃j i:Nat,j<=L.length/\q=Ii Jj j/\p=Ii Jj i/\Hid (fL wr B g c L pr i j)/\Hid (w.grownBy wr (some g))) (fun q _ _=>L.length-(eH q).toNat)
  case atStart=>exact ⟨k0+1,k0,by omega,by go_num,rfl,A1,G1⟩
  case round=>
   obtain ⟨j,i,hj,rfl,rfl,hD,hG⟩:=hrel
   have hij:=hD.out.lt
   by_cases hlt:j<L.length
   ·obtain ⟨R,hR1,hR2,hR3,hR4⟩:=hD.out.row
    obtain ⟨a',cap',hv',_,sh⟩:=hR2.shape
    obtain ⟨g',e1,e2,e3,e4⟩:=sh j (by omega)
    have hgg:g=g':=by rw[e1] at hv';simpa using congrArg (fun v=>match v with| Sl (some a) _ _=>a.block|_=>0) hv'
    subst hgg
    rw[←dn (by omega),hR4 j (Nat.le_refl _) hlt] at e4
    obtain ⟨c0,c1,c2,c3,c4,c5,c6⟩:=e4
    have hgr:g<wr.heap.size:=e3
    clear hR2 hR3 hR4 sh e1 e2 e3 hv'
    cases hpr:pr (ae L j) with
    | true=>
     have HK:Hid (∀W,w.grownBy W (some g)->Calls Pg gf (#[.agg #[Ii Jj (ae L j).id,Ii Jj (ae L j).src,Ii Jj (ae L j).dst,Ii Jj (ae L j).amount,Ii Jj (ae L j).first,Ii Jj (ae L j).every,Ii Jj (ae L j).times]]++lb) W fun e w'=>e=.returned (.bool true)/\Below W.heap.size W w'):=fun W hW=>by rw[←hpr];exact HC.out (ae L j) W hW
     have HP:=aa hpr
     clear hpr
     go_wp2_with fail
     refine (HK.out _ (hG.out.trans (World.grownBy_alloc _ _ _))).mono ?_
     rintro e w2 ⟨rfl,B2⟩
     have BW:Below wr.heap.size wr w2:=((Below.refl _ _).alloc (Nat.le_refl _) _).trans (B2.mono (by simp))
     have D2:Hid (fL w2 B g c L pr i (j+1)):=hD.out.skip hlt HP.out BW
     have G2:Hid (w.grownBy w2 (some g)):=hG.out.trans ⟨BW.os,BW.tape,BW.output,BW.size,fun q hq _=>BW.block q hq⟩
     clear B2 BW c0 c1 c2 c3 c4 c5 c6
     go_wp2
     go_roundw
     case rel=>exact ⟨j+1,i,by omega,by go_num,rfl,D2,G2⟩
     case measure=>simp[eH];omega
    | false=>
     have HK:Hid (∀W,w.grownBy W (some g)->Calls Pg gf (#[.agg #[Ii Jj (ae L j).id,Ii Jj (ae L j).src,Ii Jj (ae L j).dst,Ii Jj (ae L j).amount,Ii Jj (ae L j).first,Ii Jj (ae L j).every,Ii Jj (ae L j).times]]++lb) W fun e w'=>e=.returned (.bool false)/\Below W.heap.size W w'):=fun W hW=>by rw[←hpr];exact HC.out (ae L j) W hW
     have HP:=aa hpr
     clear hpr
     go_wp2_with fail
     refine (HK.out _ (hG.out.trans (World.grownBy_alloc _ _ _))).mono ?_
     rintro e w2 ⟨rfl,B2⟩
     have BW:Below wr.heap.size wr w2:=((Below.refl _ _).alloc (Nat.le_refl _) _).trans (B2.mono (by simp))
     obtain ⟨n0,n1,n2,n3,n4,n5,n6⟩:w2.cell? ⟨wr.heap.size,0,none⟩=some (Ii Jj (ae L j).id)/\w2.cell? ⟨wr.heap.size,1,none⟩=some (Ii Jj (ae L j).src)/\w2.cell? ⟨wr.heap.size,2,none⟩=some (Ii Jj (ae L j).dst)/\w2.cell? ⟨wr.heap.size,3,none⟩=some (Ii Jj (ae L j).amount)/\w2.cell? ⟨wr.heap.size,4,none⟩=some (Ii Jj (ae L j).first)/\w2.cell? ⟨wr.heap.size,5,none⟩=some (Ii Jj (ae L j).every)/\w2.cell? ⟨wr.heap.size,6,none⟩=some (Ii Jj (ae L j).times):=by
      refine ⟨?_,?_,?_,?_,?_,?_,?_⟩ <;>(rw[B2.cell (by simp)];simp[go_sem])
     have D2:Hid (fL (fE w2 g (i*7) (ae L j)) B g c L pr (i+1) (j+1)):=hD.out.put hlt HP.out BW
     have G2:Hid (w.grownBy (fE w2 g (i*7) (ae L j)) (some g)):=(hG.out.trans ⟨BW.os,BW.tape,BW.output,BW.size,fun q hq _=>BW.block q hq⟩).trans (lC _ _ _ _)
     obtain ⟨R,hR1,hR2,_,_⟩:=hD.out.row
     have hR2':=hR2.kept BW
     have hcell:∀t,t<7->∃v,w2.cell? ⟨g,i*7+t,none⟩=some v:=fun t ht=>by
      rw[World.ownsRow.cellAt (hR2'.raw hR1) (i*7+t) (by omega),List.getElem?_eq_getElem (by rw[aA];omega)]
      exact ⟨_,rfl⟩
     obtain ⟨x0,d0⟩:=hcell 0 (by omega)
     obtain ⟨x1,d1⟩:=hcell 1 (by omega)
     obtain ⟨x2,d2⟩:=hcell 2 (by omega)
     obtain ⟨x3,d3⟩:=hcell 3 (by omega)
     obtain ⟨x4,d4⟩:=hcell 4 (by omega)
     obtain ⟨x5,d5⟩:=hcell 5 (by omega)
     obtain ⟨x6,d6⟩:=hcell 6 (by omega)
     have hf:∀t,w2.frozen? ⟨g,t,none⟩=false:=fun t=>World.ownsRow.frozenAt (hR2'.raw hR1) t
     have hil:(i:Int)<(L.length:Int):=by omega
     obtain ⟨V,hV,hDV,hGV⟩:∃V,Hid (V=fE w2 g (i*7) (ae L j))/\Hid (fL V B g c L pr (i+1) (j+1))/\Hid (w.grownBy V (some g)):=⟨_,rfl,D2,G2⟩
     clear B2 BW c0 c1 c2 c3 c4 c5 c6 hR2 hR2' hcell D2 G2 hR1
     simp only[Nat.add_zero] at d0
     go_wp2
     have hV:=hV.out
     simp only[fE] at hV
     rw[←hV]
     go_roundw
     case rel=>exact ⟨j+1,i+1,by omega,by go_num,by go_num,hDV,hGV⟩
     case measure=>simp[eH];omega
   ·obtain rfl:j=L.length:=by omega
    obtain ⟨R,hR1,hR2,hR3,hR4⟩:=hD.out.row
    rw[List.take_length] at hR3
    have hkl:(bP pr L).length=i:=by rw[←hR3,List.length_take];omega
    have hcl:∀ty,(Builtin.clear_ #[36] ty #[Sl (some ⟨g,i*7,none⟩) (L.length-i) (c-i)]).run Pg wr=.ok (.tuple #[]) (wr.setCells g (i*7) (List.replicate ((L.length-i)*7) (Ii Jj 0))):=fun ty=>
     oW wr ty g (i*7) (L.length-i) (c-i) (by omega) (fun t ht=>by rw[World.ownsRow.cellAt (hR2.raw hR1) _ (by omega),List.getElem?_eq_getElem (by rw[aA];omega)];rfl) (fun t _=>World.ownsRow.frozenAt (hR2.raw hR1) _)
    have Z:Hid (ah (wr.setCells g (i*7) (List.replicate ((L.length-i)*7) (Ii Jj 0))) B (Sl (some ⟨g,0,none⟩) i c) (bP pr L)/\w.grownBy (wr.setCells g (i*7) (List.replicate ((L.length-i)*7) (Ii Jj 0))) (some g)):=by
     refine ⟨?_,fK _ _ _ hG.out⟩
     have hR2':wr.ownsRow B 45 7 (Sl (some ⟨g,0,none⟩) L.length c) L.length (R.flatMap an):=by
      have h:=hR2
      unfold ah at h
      rw[hR1] at h
      exact h
     have o2:=qB (fJ (List.replicate ((L.length-i)*7) (Ii Jj 0)) (i*7) _ _ hR2') (show i<=L.length by omega)
     have hfl:(R.flatMap an).length=L.length*7:=by rw[aA,hR1]
     rw[nB _ _ _ (by rw[List.length_replicate,hfl];omega),List.append_assoc,List.take_append_of_le_length (by rw[List.length_take,hfl];omega),List.take_take,Nat.min_self] at o2
     have hft:(R.flatMap an).take (i*7)=(bP pr L).flatMap an:=by
      rw[←hR3]
      have e:R.flatMap an=(R.take i).flatMap an++(R.drop i).flatMap an:=by rw[←List.flatMap_append,List.take_append_drop]
      have hl':((R.take i).flatMap an).length=i*7:=by rw[aA,List.length_take];omega
      rw[e,List.take_append_of_le_length (by omega),List.take_of_length_le (by omega)]
     rw[hft] at o2
     unfold ah
     rw[hkl]
     exact o2
    have HKL:=aa hkl
    have b1:(i:Int)<=(L.length:Int):=by omega
    have b2:(L.length:Int)<=(c:Int):=by omega
    have b3:(i:Int)<=(c:Int):=by omega
    have b4:(i:Int).toNat=i:=by omega
    have b5:i<=c:=by omega
    clear hR2 hR3 hR4 hkl hR1
    go_wp2
    go_ret
    rw[HKL.out]
    exact ⟨rfl,Z.out.1,Z.out.2⟩
 ·have hno:∀j,j<L.length->pr (ae L j)=false:=by
   intro j
   induction j using Nat.strongRecOn with
   | ind j ih=>
    intro hj
    cases hp:pr (ae L j) with
    | false=>rfl
    | true=>exact absurd ⟨j,hj,hp,fun t ht=>ih t ht (by omega)⟩ hany
  have E:Hid (gg pr L= -1):=eZ hno
  have K:Hid (bP pr L=L):=kO hno
  rw[E.out] at IXX
  clear hno hany
  go_wp2_with (go_at_call 119;refine IXX.out.mono ?_;rintro e w1 ⟨rfl,B1⟩)
  go_ret
  rw[K.out]
  exact ⟨rfl,H.out.kept B1,B1.os,B1.tape,B1.output,B1.size,fun i hi _=>B1.block i hi⟩
end Go.Proofs.YtghkbhggopiajaaGreatDoor
