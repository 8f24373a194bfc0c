/- slices. -/
import Derived.Test.YtghkbhggopiajaaGreatDoorOrosr
import Derived.Test.YtghkbhggopiajaaGreatDoorLets2r
import Derived.Laws.IdiomCopy
set_option maxHeartbeats 4000000
namespace Go.Proofs.YtghkbhggopiajaaGreatDoor
open Go.RowKit
set_option maxRecDepth 8000
def setLO:List Value->Nat->List Value->List Value
 | xs,_,[]=>xs
 | xs,o,v::r=>setLO (xs.set o v) (o+1) r
theorem setLO_eq:∀(vs xs:List Value) (o:Nat),o+vs.length<=xs.length->setLO xs o vs=xs.take o++vs++xs.drop (o+vs.length)
 | [],xs,o,_=>by simp[setLO]
 | v::r,xs,o,h=>by
  simp only[List.length_cons] at h
  rw[setLO,setLO_eq r (xs.set o v) (o+1) (by simp;omega)]
  rw[List.take_add_one,List.getElem?_set_self (by omega),List.take_set_of_le (by omega),List.drop_set_of_lt (by omega)]
  simp only[List.length_cons,Option.toList_some,List.append_assoc,List.nil_append,List.cons_append]
  rw[show o+(r.length+1)=o+1+r.length by omega]
theorem owns_setCellsO {base e size n cap g:Nat}:∀(vs:List Value) (o:Nat) (w:World) (xs:List Value),w.ownsRow base e size (.slice (some ⟨g,0,none⟩) n cap) n xs->(w.setCells g o vs).ownsRow base e size (.slice (some ⟨g,0,none⟩) n cap) n (setLO xs o vs)
 | [],_,_,_,h=>h
 | v::r,o,_,_,h=>owns_setCellsO r (o+1) _ _ (World.ownsRow.stored h o v).1
theorem owns_cutO {w:World} {base e size n m cap g:Nat} {xs:List Value} (h:w.ownsRow base e size (.slice (some ⟨g,0,none⟩) n cap) n xs) (hm:m<=n):w.ownsRow base e size (.slice (some ⟨g,0,none⟩) m cap) m (xs.take (m*size)):=by
 have hms:m*size<=n*size:=Nat.mul_le_mul_right _ hm
 rcases h.2 with ⟨h',_⟩|⟨g',cap',cur,h',hb,hg,hnc,hcm,hcs,htake⟩
 ·simp at h'
 ·simp only[Value.slice.injEq,Option.some.injEq,Addr.mk.injEq,and_true,true_and] at h'
  obtain ⟨rfl,rfl⟩:=h'
  refine ⟨by rw[List.length_take,h.1];omega,.inr ⟨g,cap,cur,rfl,hb,hg,by omega,hcm,hcs,?_⟩⟩
  rw[←htake,List.take_take]
  congr 1
  omega
def idxO (pr:Ord->Bool) (P:List Ord):Int:=match P.findIdx? pr with|some i=>i|none=> -1
theorem idxO_hit {pr:Ord->Bool} {P:List Ord} {k:Nat} (hk:k<P.length) (hp:pr (OrdF P k)=true) (hno:∀j,j<k->pr (OrdF P j)=false):idxO pr P=(k:Int):=by
 have:P.findIdx? pr=some k:=by
  rw[List.findIdx?_eq_some_iff_getElem]
  refine ⟨hk,by rw[←OrdF_lt hk];exact hp,fun j hj=>?_⟩
  rw[←OrdF_lt (show j<P.length by omega),hno j hj]
  simp
 simp[idxO,this]
theorem idxO_miss {pr:Ord->Bool} {P:List Ord} (hno:∀j,j<P.length->pr (OrdF P j)=false):idxO pr P= -1:=by
 have:P.findIdx? pr=none:=by
  rw[List.findIdx?_eq_none_iff]
  intro x hx
  obtain ⟨j,hj,rfl⟩:=List.getElem_of_mem hx
  rw[←OrdF_lt hj]
  exact hno j hj
 simp[idxO,this]
set_option maxRecDepth 8000 in
theorem indexFuncO (a:Option Addr) (c:Nat) (P:List Ord) (g:Nat) (lb:Array Value) (pr:Ord->Bool) (w:World) (h:Ords w a P.length (OrdF P)) (entered:∀args w,(callFunc g args).run Tryz.prog w=.ok (.enter g args) w)
  (hc:∀x W,Below w.heap.size w W->Calls Tryz.prog g (#[.agg #[.int .i64 x.id,.int .i64 x.src,.int .i64 x.dst,.int .i64 x.amount,.int .i64 x.first,.int .i64 x.every,.int .i64 x.times]]++lb) W fun e w'=>e=.returned (.bool (pr x))/\Below W.heap.size W w'):
  Calls Tryz.prog 119 #[.slice a P.length c,.func (.func g) #[] lb] w fun e w'=>e=.returned (.int .i64 (idxO pr P))/\Below w.heap.size w w':=by
 have H:=hidOf h
 have hn:=h.1
 have HC:Hid (∀x W,Below w.heap.size w W->Calls Tryz.prog g (#[.agg #[.int .i64 x.id,.int .i64 x.src,.int .i64 x.dst,.int .i64 x.amount,.int .i64 x.first,.int .i64 x.every,.int .i64 x.times]]++lb) W fun e w'=>e=.returned (.bool (pr x))/\Below W.heap.size W w'):=hc
 clear h hc
 go_enter Tryz.func119,Tryz.ntmps119
 go_wp2
 go_loopw[8] (fun i wr=>∃k:Nat,k<=P.length/\i=.int .i64 k/\Hid (∀j,j<k->pr (OrdF P j)=false)/\Hid (Below w.heap.size w wr)) (fun i _=>P.length-(ctr i).toNat)
 case atStart=>exact ⟨0,Nat.zero_le _,rfl,fun j hj=>absurd hj (Nat.not_lt_zero _),Below.refl _ _⟩
 case round=>
  obtain ⟨k,hk,rfl,hno,hB⟩:=hrel
  by_cases hlt:k<P.length
  ·obtain ⟨b,q,rfl,hb,hA⟩:=(H.out.below hB.out).acc hlt
   obtain ⟨c0,c1,c2,c3,c4,c5,c6⟩:=hA
   cases hpr:pr (OrdF P k) with
   | true=>
    have E:Hid (idxO pr P=(k:Int)):=idxO_hit hlt hpr hno.out
    have HK:Hid (∀W,Below w.heap.size w W->Calls Tryz.prog g (#[.agg #[.int .i64 (OrdF P k).id,.int .i64 (OrdF P k).src,.int .i64 (OrdF P k).dst,.int .i64 (OrdF P k).amount,.int .i64 (OrdF P k).first,.int .i64 (OrdF P k).every,.int .i64 (OrdF P k).times]]++lb) W fun e w'=>e=.returned (.bool true)/\Below W.heap.size W w'):=fun W hW=>by rw[←hpr];exact HC.out (OrdF P k) W hW
    clear hpr
    go_wp2_with fail
    refine (HK.out _ hB.out).mono ?_
    rintro e w1 ⟨rfl,B1⟩
    have B1':=hidOf (hB.out.trans (B1.mono hB.out.size))
    clear B1
    go_wp2
    go_ret
    rw[E.out]
    exact ⟨rfl,B1'.out⟩
   | false=>
    have HN:Hid (∀j,j<k+1->pr (OrdF P j)=false):=fun j hj=>by
     by_cases e:j=k
     ·subst e;exact hpr
     ·exact hno.out j (by omega)
    have HK:Hid (∀W,Below w.heap.size w W->Calls Tryz.prog g (#[.agg #[.int .i64 (OrdF P k).id,.int .i64 (OrdF P k).src,.int .i64 (OrdF P k).dst,.int .i64 (OrdF P k).amount,.int .i64 (OrdF P k).first,.int .i64 (OrdF P k).every,.int .i64 (OrdF P k).times]]++lb) W fun e w'=>e=.returned (.bool false)/\Below W.heap.size W w'):=fun W hW=>by rw[←hpr];exact HC.out (OrdF P k) W hW
    clear hpr
    go_wp2_with fail
    refine (HK.out _ hB.out).mono ?_
    rintro e w1 ⟨rfl,B1⟩
    have B1':=hidOf (hB.out.trans (B1.mono hB.out.size))
    clear B1
    go_wp2
    go_roundw
    case rel=>exact ⟨k+1,by omega,by go_num,HN,B1'⟩
    case measure=>simp[ctr];omega
  ·have hkn:k=P.length:=by omega
   have E:Hid (idxO pr P= -1):=idxO_miss (fun j hj=>hno.out j (by omega))
   go_wp2
   go_ret
   rw[E.out]
   exact ⟨rfl,hB.out⟩
theorem zeroOrd (m:Nat):(Builtin.zeroCells (Value.agg #[.int .i64 0,.int .i64 0,.int .i64 0,.int .i64 0,.int .i64 0,.int .i64 0,.int .i64 0]).cells m).toList=List.replicate (m*7) (.int .i64 0):=by
 apply List.ext_getElem
 ·simp[Builtin.zeroCells,Value.cells]
 ·intro i h1 h2
  have hz:(Value.agg #[.int .i64 0,.int .i64 0,.int .i64 0,.int .i64 0,.int .i64 0,.int .i64 0,.int .i64 0]).cells=#[.int .i64 0,.int .i64 0,.int .i64 0,.int .i64 0,.int .i64 0,.int .i64 0,.int .i64 0]:=by simp[Value.cells]
  simp only[Builtin.zeroCells,hz,List.getElem_replicate,Array.getElem_toList,Array.getElem_map]
  have hm:i % 7<7:=Nat.mod_lt _ (by omega)
  simp only[Array.getElem_range,List.size_toArray,List.length_cons,List.length_nil,Nat.zero_add,Nat.reduceAdd]
  generalize i % 7=q at*
  match q,hm with
  | 0,_=>rfl
  | 1,_=>rfl
  | 2,_=>rfl
  | 3,_=>rfl
  | 4,_=>rfl
  | 5,_=>rfl
  | 6,_=>rfl
theorem OrdL.raw {w:World} {B g n c:Nat} {R:List Ord} (h:OrdL w B (.slice (some ⟨g,0,none⟩) n c) R) (hl:R.length=n):w.ownsRow B 45 7 (.slice (some ⟨g,0,none⟩) n c) n (R.flatMap OrdC):=by
 unfold OrdL at h
 rw[hl] at h
 exact h
theorem run_clearO (w:World) (ty:TypeId) (b o m c:Nat) (h0:0<m) (hc:∀j,j<m*7->(w.cell? ⟨b,o+j,none⟩).isSome=true) (hf:∀j,j<m*7->w.frozen? ⟨b,o+j,none⟩=false):
  (Builtin.clear_ #[36] ty #[.slice (some ⟨b,o,none⟩) m c]).run Tryz.prog w=.ok (.tuple #[]) (w.setCells b o (List.replicate (m*7) (.int .i64 0))):=by
 have hst:=run_storeCells_cells (P:=Tryz.prog) b o (List.replicate (m*7) (.int .i64 0)) 0 w (by simpa using hc) (by simpa using hf) (by intro v hv;rw[(List.mem_replicate.1 hv).2];rfl)
 simp only[Nat.add_zero] at hst
 obtain ⟨q,rfl⟩:∃q,m=q+1:=⟨m-1,by omega⟩
 simp[Builtin.clear_,run_underlying Tryz.underlying36,zeroOrd,hst]
theorem grown_setCells {g:Nat} {w0:World}:∀(vs:List Value) (o:Nat) (w:World),w0.grownBy w (some g)->w0.grownBy (w.setCells g o vs) (some g)
 | [],_,_,h=>h
 | v::r,o,_,h=>grown_setCells r (o+1) _ (setCell_grown h o v)
def keepO (pr:Ord->Bool) (L:List Ord):List Ord:=L.filter fun x=> !pr x
theorem keepO_take {pr:Ord->Bool} {L:List Ord} {j:Nat} (hj:j<L.length):keepO pr (L.take (j+1))=if pr (OrdF L j) then keepO pr (L.take j) else keepO pr (L.take j)++[OrdF L j]:=by
 unfold keepO
 rw[List.take_succ_eq_append_getElem hj,List.filter_append,OrdF_lt hj]
 cases h:pr L[j] <;>simp[h]
theorem keepO_all {pr:Ord->Bool} {L:List Ord} (h:∀j,j<L.length->pr (OrdF L j)=false):keepO pr L=L:=by
 unfold keepO
 rw[List.filter_eq_self]
 intro x hx
 obtain ⟨j,hj,rfl⟩:=List.getElem_of_mem hx
 rw[←OrdF_lt hj,h j hj]
 rfl
structure DelAt (w:World) (B g c:Nat) (L:List Ord) (pr:Ord->Bool) (i j:Nat):Prop where
 row:∃R:List Ord,R.length=L.length/\OrdL w B (.slice (some ⟨g,0,none⟩) L.length c) R/\R.take i=keepO pr (L.take j)/\∀t,j<=t->t<L.length->OrdF R t=OrdF L t
 lt:i<j
theorem DelAt.skip {w w':World} {B g c:Nat} {L:List Ord} {pr:Ord->Bool} {i j:Nat} (h:DelAt w B g c L pr i j) (hj:j<L.length) (hp:pr (OrdF L j)=true) (hb:Below w.heap.size w w'):DelAt w' B g c L pr i (j+1):=by
 obtain ⟨R,h1,h2,h3,h4⟩:=h.row
 exact ⟨⟨R,h1,h2.kept hb,by rw[h3,keepO_take hj,if_pos hp],fun t ht hl=>h4 t (by omega) hl⟩,by have:=h.lt;omega⟩
theorem DelAt.put {w w':World} {B g c:Nat} {L:List Ord} {pr:Ord->Bool} {i j:Nat} (h:DelAt w B g c L pr i j) (hj:j<L.length) (hp:pr (OrdF L j)=false) (hb:Below w.heap.size w w'):DelAt (setOrd w' g (i*7) (OrdF L j)) B g c L pr (i+1) (j+1):=by
 obtain ⟨R,h1,h2,h3,h4⟩:=h.row
 have hlt:=h.lt
 have h2':OrdL w' B (.slice (some ⟨g,0,none⟩) R.length c) R:=by rw[h1];exact h2.kept hb
 refine ⟨⟨R.set i (OrdF L j),by simpa using h1,?_,?_,fun t ht hl=>?_⟩,by omega⟩
 ·have:=h2'.stored (p:=i) (by omega) (OrdF L j)
  rw[h1] at this
  exact this
 ·rw[keepO_take hj,if_neg (by simp[hp]),←h3,List.take_succ_eq_append_getElem (by simp;omega)]
  congr 1
  ·rw[List.take_set_of_le (by omega)]
  ·simp
 ·rw[OrdF_set_ne _ (by omega)]
  exact h4 t (by omega) hl
theorem deleteFunc (B g c:Nat) (L:List Ord) (gf:Nat) (lb:Array Value) (pr:Ord->Bool) (w:World) (h:OrdL w B (.slice (some ⟨g,0,none⟩) L.length c) L) (hl:L.length<=1048576) (entered:∀args w,(callFunc gf args).run Tryz.prog w=.ok (.enter gf args) w)
  (hc:∀x W,w.grownBy W (some g)->Calls Tryz.prog gf (#[.agg #[.int .i64 x.id,.int .i64 x.src,.int .i64 x.dst,.int .i64 x.amount,.int .i64 x.first,.int .i64 x.every,.int .i64 x.times]]++lb) W fun e w'=>e=.returned (.bool (pr x))/\Below W.heap.size W w'):
  Calls Tryz.prog 70 #[.slice (some ⟨g,0,none⟩) L.length c,.func (.func gf) #[] lb] w fun e w'=>e=.returned (.slice (some ⟨g,0,none⟩) (keepO pr L).length c)/\OrdL w' B (.slice (some ⟨g,0,none⟩) (keepO pr L).length c) (keepO pr L)/\w.grownBy w' (some g):=by
 have H:=hidOf h
 have HO:Hid (Ords w (some ⟨g,0,none⟩) L.length (OrdF L)):=(h.list hl).2
 have HC:Hid (∀x W,w.grownBy W (some g)->Calls Tryz.prog gf (#[.agg #[.int .i64 x.id,.int .i64 x.src,.int .i64 x.dst,.int .i64 x.amount,.int .i64 x.first,.int .i64 x.every,.int .i64 x.times]]++lb) W fun e w'=>e=.returned (.bool (pr x))/\Below W.heap.size W w'):=hc
 have IX:=indexFuncO (some ⟨g,0,none⟩) c L gf lb pr w HO.out entered (fun x W hW=>hc x W ⟨hW.os,hW.tape,hW.output,hW.size,fun i hi _=>hW.block i hi⟩)
 have IXX:Hid (Calls Tryz.prog 119 #[.slice (some ⟨g,0,none⟩) L.length c,.func (.func gf) #[] lb] w fun e w'=>e=.returned (.int .i64 (idxO pr L))/\Below w.heap.size w w'):=IX
 have hcap:L.length<=c:=by
  rcases h.2 with ⟨hv,hn⟩|⟨g',cap,cur,hv,hg,hcur,r1,r2,r3⟩
  ·cases hv
  ·simp at hv;omega
 have hgl:=World.ownsRow.lt h g rfl
 clear IX h hc
 go_enter Tryz.func70,Tryz.ntmps70
 by_cases hany:∃k,k<L.length/\pr (OrdF L k)=true/\∀j,j<k->pr (OrdF L j)=false
 ·obtain ⟨k0,hk0,hp0,hno⟩:=hany
  have E:Hid (idxO pr L=(k0:Int)):=idxO_hit hk0 hp0 hno
  rw[E.out] at IXX
  have D0:Hid (keepO pr (L.take (k0+1))=L.take k0):=by
   show keepO pr (L.take (k0+1))=L.take k0
   rw[keepO_take hk0,if_pos hp0]
   refine keepO_all fun j hj=>?_
   have hj':j<k0:=by simp at hj;omega
   rw[OrdF_lt hj,List.getElem_take,←OrdF_lt (by omega)]
   exact hno j hj'
  have hk1:((k0:Int) == -1)=false:=by simp
  clear hno hp0
  go_wp2_with (go_at_call 119;refine IXX.out.mono ?_;rintro e w1 ⟨rfl,B1⟩)
  have G1:Hid (w.grownBy w1 (some g)):=⟨B1.os,B1.tape,B1.output,B1.size,fun i hi _=>B1.block i hi⟩
  have A1:Hid (DelAt w1 B g c L pr k0 (k0+1)):=⟨⟨L,rfl,H.out.kept B1,D0.out.symm,fun _ _ _=>rfl⟩,Nat.lt_succ_self _⟩
  clear B1
  go_loopw[6,5] (fun q p wr=>∃j i:Nat,j<=L.length/\q=.int .i64 j/\p=.int .i64 i/\Hid (DelAt wr B g c L pr i j)/\Hid (w.grownBy wr (some g))) (fun q _ _=>L.length-(ctr q).toNat)
  case atStart=>exact ⟨k0+1,k0,by omega,by go_num,rfl,A1,G1⟩
  case round=>
   obtain ⟨j,i,hj,rfl,rfl,hD,hG⟩:=hrel
   have hij:=hD.out.lt
   by_cases hlt:j<L.length
   ·obtain ⟨R,hR1,hR2,hR3,hR4⟩:=hD.out.row
    obtain ⟨a',cap',hv',_,sh⟩:=hR2.shape
    obtain ⟨g',e1,e2,e3,e4⟩:=sh j (by omega)
    have hgg:g=g':=by rw[e1] at hv';simpa using congrArg (fun v=>match v with| .slice (some a) _ _=>a.block|_=>0) hv'
    subst hgg
    rw[←OrdF_lt (by omega),hR4 j (Nat.le_refl _) hlt] at e4
    obtain ⟨c0,c1,c2,c3,c4,c5,c6⟩:=e4
    have hgr:g<wr.heap.size:=e3
    clear hR2 hR3 hR4 sh e1 e2 e3 hv'
    cases hpr:pr (OrdF L j) with
    | true=>
     have HK:Hid (∀W,w.grownBy W (some g)->Calls Tryz.prog gf (#[.agg #[.int .i64 (OrdF L j).id,.int .i64 (OrdF L j).src,.int .i64 (OrdF L j).dst,.int .i64 (OrdF L j).amount,.int .i64 (OrdF L j).first,.int .i64 (OrdF L j).every,.int .i64 (OrdF L j).times]]++lb) W fun e w'=>e=.returned (.bool true)/\Below W.heap.size W w'):=fun W hW=>by rw[←hpr];exact HC.out (OrdF L j) W hW
     have HP:=hidOf hpr
     clear hpr
     go_wp2_with fail
     refine (HK.out _ (hG.out.trans (World.grownBy_alloc _ _ _))).mono ?_
     rintro e w2 ⟨rfl,B2⟩
     have BW:Below wr.heap.size wr w2:=((Below.refl _ _).alloc (Nat.le_refl _) _).trans (B2.mono (by simp))
     have D2:Hid (DelAt w2 B g c L pr i (j+1)):=hD.out.skip hlt HP.out BW
     have G2:Hid (w.grownBy w2 (some g)):=hG.out.trans ⟨BW.os,BW.tape,BW.output,BW.size,fun q hq _=>BW.block q hq⟩
     clear B2 BW c0 c1 c2 c3 c4 c5 c6
     go_wp2
     go_roundw
     case rel=>exact ⟨j+1,i,by omega,by go_num,rfl,D2,G2⟩
     case measure=>simp[ctr];omega
    | false=>
     have HK:Hid (∀W,w.grownBy W (some g)->Calls Tryz.prog gf (#[.agg #[.int .i64 (OrdF L j).id,.int .i64 (OrdF L j).src,.int .i64 (OrdF L j).dst,.int .i64 (OrdF L j).amount,.int .i64 (OrdF L j).first,.int .i64 (OrdF L j).every,.int .i64 (OrdF L j).times]]++lb) W fun e w'=>e=.returned (.bool false)/\Below W.heap.size W w'):=fun W hW=>by rw[←hpr];exact HC.out (OrdF L j) W hW
     have HP:=hidOf hpr
     clear hpr
     go_wp2_with fail
     refine (HK.out _ (hG.out.trans (World.grownBy_alloc _ _ _))).mono ?_
     rintro e w2 ⟨rfl,B2⟩
     have BW:Below wr.heap.size wr w2:=((Below.refl _ _).alloc (Nat.le_refl _) _).trans (B2.mono (by simp))
     obtain ⟨n0,n1,n2,n3,n4,n5,n6⟩:w2.cell? ⟨wr.heap.size,0,none⟩=some (.int .i64 (OrdF L j).id)/\w2.cell? ⟨wr.heap.size,1,none⟩=some (.int .i64 (OrdF L j).src)/\w2.cell? ⟨wr.heap.size,2,none⟩=some (.int .i64 (OrdF L j).dst)/\w2.cell? ⟨wr.heap.size,3,none⟩=some (.int .i64 (OrdF L j).amount)/\w2.cell? ⟨wr.heap.size,4,none⟩=some (.int .i64 (OrdF L j).first)/\w2.cell? ⟨wr.heap.size,5,none⟩=some (.int .i64 (OrdF L j).every)/\w2.cell? ⟨wr.heap.size,6,none⟩=some (.int .i64 (OrdF L j).times):=by
      refine ⟨?_,?_,?_,?_,?_,?_,?_⟩ <;>(rw[B2.cell (by simp)];simp[go_sem])
     have D2:Hid (DelAt (setOrd w2 g (i*7) (OrdF L j)) B g c L pr (i+1) (j+1)):=hD.out.put hlt HP.out BW
     have G2:Hid (w.grownBy (setOrd w2 g (i*7) (OrdF L j)) (some g)):=(hG.out.trans ⟨BW.os,BW.tape,BW.output,BW.size,fun q hq _=>BW.block q hq⟩).trans (grown_setOrd _ _ _ _)
     obtain ⟨R,hR1,hR2,_,_⟩:=hD.out.row
     have hR2':=hR2.kept BW
     have hcell:∀t,t<7->∃v,w2.cell? ⟨g,i*7+t,none⟩=some v:=fun t ht=>by
      rw[World.ownsRow.cellAt (hR2'.raw hR1) (i*7+t) (by omega),List.getElem?_eq_getElem (by rw[flatOrd_len];omega)]
      exact ⟨_,rfl⟩
     obtain ⟨x0,d0⟩:=hcell 0 (by omega)
     obtain ⟨x1,d1⟩:=hcell 1 (by omega)
     obtain ⟨x2,d2⟩:=hcell 2 (by omega)
     obtain ⟨x3,d3⟩:=hcell 3 (by omega)
     obtain ⟨x4,d4⟩:=hcell 4 (by omega)
     obtain ⟨x5,d5⟩:=hcell 5 (by omega)
     obtain ⟨x6,d6⟩:=hcell 6 (by omega)
     have hf:∀t,w2.frozen? ⟨g,t,none⟩=false:=fun t=>World.ownsRow.frozenAt (hR2'.raw hR1) t
     have hil:(i:Int)<(L.length:Int):=by omega
     obtain ⟨V,hV,hDV,hGV⟩:∃V,Hid (V=setOrd w2 g (i*7) (OrdF L j))/\Hid (DelAt V B g c L pr (i+1) (j+1))/\Hid (w.grownBy V (some g)):=⟨_,rfl,D2,G2⟩
     clear B2 BW c0 c1 c2 c3 c4 c5 c6 hR2 hR2' hcell D2 G2 hR1
     simp only[Nat.add_zero] at d0
     go_wp2
     have hV:=hV.out
     simp only[setOrd] at hV
     rw[←hV]
     go_roundw
     case rel=>exact ⟨j+1,i+1,by omega,by go_num,by go_num,hDV,hGV⟩
     case measure=>simp[ctr];omega
   ·obtain rfl:j=L.length:=by omega
    obtain ⟨R,hR1,hR2,hR3,hR4⟩:=hD.out.row
    rw[List.take_length] at hR3
    have hkl:(keepO pr L).length=i:=by rw[←hR3,List.length_take];omega
    have hcl:∀ty,(Builtin.clear_ #[36] ty #[.slice (some ⟨g,i*7,none⟩) (L.length-i) (c-i)]).run Tryz.prog wr=.ok (.tuple #[]) (wr.setCells g (i*7) (List.replicate ((L.length-i)*7) (.int .i64 0))):=fun ty=>
     run_clearO wr ty g (i*7) (L.length-i) (c-i) (by omega) (fun t ht=>by rw[World.ownsRow.cellAt (hR2.raw hR1) _ (by omega),List.getElem?_eq_getElem (by rw[flatOrd_len];omega)];rfl) (fun t _=>World.ownsRow.frozenAt (hR2.raw hR1) _)
    have Z:Hid (OrdL (wr.setCells g (i*7) (List.replicate ((L.length-i)*7) (.int .i64 0))) B (.slice (some ⟨g,0,none⟩) i c) (keepO pr L)/\w.grownBy (wr.setCells g (i*7) (List.replicate ((L.length-i)*7) (.int .i64 0))) (some g)):=by
     refine ⟨?_,grown_setCells _ _ _ hG.out⟩
     have hR2':wr.ownsRow B 45 7 (.slice (some ⟨g,0,none⟩) L.length c) L.length (R.flatMap OrdC):=by
      have h:=hR2
      unfold OrdL at h
      rw[hR1] at h
      exact h
     have o2:=owns_cutO (owns_setCellsO (List.replicate ((L.length-i)*7) (.int .i64 0)) (i*7) _ _ hR2') (show i<=L.length by omega)
     have hfl:(R.flatMap OrdC).length=L.length*7:=by rw[flatOrd_len,hR1]
     rw[setLO_eq _ _ _ (by rw[List.length_replicate,hfl];omega),List.append_assoc,List.take_append_of_le_length (by rw[List.length_take,hfl];omega),List.take_take,Nat.min_self] at o2
     have hft:(R.flatMap OrdC).take (i*7)=(keepO pr L).flatMap OrdC:=by
      rw[←hR3]
      have e:R.flatMap OrdC=(R.take i).flatMap OrdC++(R.drop i).flatMap OrdC:=by rw[←List.flatMap_append,List.take_append_drop]
      have hl':((R.take i).flatMap OrdC).length=i*7:=by rw[flatOrd_len,List.length_take];omega
      rw[e,List.take_append_of_le_length (by omega),List.take_of_length_le (by omega)]
     rw[hft] at o2
     unfold OrdL
     rw[hkl]
     exact o2
    have HKL:=hidOf hkl
    have b1:(i:Int)<=(L.length:Int):=by omega
    have b2:(L.length:Int)<=(c:Int):=by omega
    have b3:(i:Int)<=(c:Int):=by omega
    have b4:(i:Int).toNat=i:=by omega
    have b5:i<=c:=by omega
    clear hR2 hR3 hR4 hkl hR1
    go_wp2
    go_ret
    rw[HKL.out]
    exact ⟨rfl,Z.out.1,Z.out.2⟩
 ·have hno:∀j,j<L.length->pr (OrdF L j)=false:=by
   intro j
   induction j using Nat.strongRecOn with
   | ind j ih=>
    intro hj
    cases hp:pr (OrdF L j) with
    | false=>rfl
    | true=>exact absurd ⟨j,hj,hp,fun t ht=>ih t ht (by omega)⟩ hany
  have E:Hid (idxO pr L= -1):=idxO_miss hno
  have K:Hid (keepO pr L=L):=keepO_all hno
  rw[E.out] at IXX
  clear hno hany
  go_wp2_with (go_at_call 119;refine IXX.out.mono ?_;rintro e w1 ⟨rfl,B1⟩)
  go_ret
  rw[K.out]
  exact ⟨rfl,H.out.kept B1,B1.os,B1.tape,B1.output,B1.size,fun i hi _=>B1.block i hi⟩
end Go.Proofs.YtghkbhggopiajaaGreatDoor
