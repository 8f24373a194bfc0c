/- slices. -/
import Derived.Test.YtghkbhggopiajaaGreatDoorBofr
namespace Go.Proofs.YtghkbhggopiajaaGreatDoor
open Value renaming int → Ii,slice → Sl
open IntKind renaming i64 → Jj
open Nat renaming le_refl → Nf
open Go.Proofs.Tryz renaming prog → Pg
set_option maxHeartbeats 4000000
set_option maxRecDepth 100000
open Go.RowKit
theorem p8 {w w':World} {g:Nat} (h:w.grownBy w' (some g)) (o:Nat) (u:Value):w.grownBy (w'.setCell ⟨g,o,none⟩ u) (some g):=
 ⟨h.os,h.tape,h.output,by simpa [World.setCell] using h.size,fun k hk hne=>by rw[Below.heap_setCell _ _ _ _ (show k≠g by intro e;exact hne (by rw[e]))];exact h.block k hk hne⟩
theorem e7 {g:Nat} {w0:World}:∀(vs:List Value) (o:Nat) (w:World),w0.grownBy w (some g)->w0.grownBy (w.setCells g o vs) (some g)
 | [],_,_,h=>h
 | v::r,o,_,h=>e7 r (o+1) _ (p8 h o v)
theorem ah.news {w:World} {B g c:Nat} {L:List au} (h:ah w B (Sl (some ⟨g,0,none⟩) L.length c) L) (q:Nat):∀j u,((L.drop q).flatMap an)[j]? =some u->w.cell? ((⟨g,q*7,none⟩:Addr).add j)=some u:=by
 intro j u hj
 have e:(L.flatMap an)[q*7+j]? =some u:=by
  by_cases hq:q<=L.length
  ·have e0:L.flatMap an=(L.take q).flatMap an++(L.drop q).flatMap an:=by rw[←List.flatMap_append,List.take_append_drop]
   have hl:((L.take q).flatMap an).length=q*7:=by rw[aA];simp;omega
   rw[e0,List.getElem?_append_right (by omega),hl,show q*7+j-q*7=j by omega]
   exact hj
  ·rw[List.drop_eq_nil_of_le (by omega)] at hj
   simp at hj
 have hlt:q*7+j<L.length*7:=by
  obtain ⟨h',_⟩:=List.getElem?_eq_some_iff.1 e
  rw[aA] at h'
  exact h'
 have ea:(⟨g,q*7,none⟩:Addr).add j=⟨g,q*7+j,none⟩:=by simp[Addr.add]
 rw[ea]
 rw[World.ownsRow.cellAt h _ hlt]
 exact e
theorem ah.cap {w:World} {B g c:Nat} {L:List au} (h:ah w B (Sl (some ⟨g,0,none⟩) L.length c) L):L.length<=c/\c<=maxLen:=by
 rcases h.2 with ⟨hv,_⟩|⟨g',c',cur,hv,_,_,h1,h2,_⟩
 ·cases hv
 ·have:c=c':=(Value.slice.inj hv).2.2
  subst this
  exact ⟨h1,h2⟩
theorem eC (L:List au) (p:Nat) (hp:p<=L.length):(L.flatMap an).take (p*7)=(L.take p).flatMap an:=by
 have e:L.flatMap an=(L.take p).flatMap an++(L.drop p).flatMap an:=by rw[←List.flatMap_append,List.take_append_drop]
 have hl:((L.take p).flatMap an).length=p*7:=by rw[aA];simp;omega
 rw[e,List.take_append_of_le_length (by omega),List.take_of_length_le (by omega)]
def f8:List Value:=[Ii Jj 0,Ii Jj 0,Ii Jj 0,Ii Jj 0,Ii Jj 0,Ii Jj 0,Ii Jj 0]
theorem p9:(Builtin.zeroCells (Value.agg #[Ii Jj 0,Ii Jj 0,Ii Jj 0,Ii Jj 0,Ii Jj 0,Ii Jj 0,Ii Jj 0]).cells 1).toList=f8:=by kernel_rfl
theorem nG (w:World) (ty:TypeId) (b o c:Nat) (hc:∀j,j<7->(w.cell? ⟨b,o+j,none⟩).isSome=true) (hf:∀j,j<7->w.frozen? ⟨b,o+j,none⟩=false):
  (Builtin.clear_ #[36] ty #[Sl (some ⟨b,o,none⟩) 1 c]).run Pg w=.ok (.tuple #[]) (w.setCells b o f8):=by
 have hst:=run_storeCells_cells (P:=Pg) b o f8 0 w (by simpa [f8] using hc) (by simpa [f8] using hf) (by intro v hv;simp only[f8,List.mem_cons,List.not_mem_nil,or_false] at hv;rcases hv with e|e|e|e|e|e|e <;>subst e <;>rfl)
 simp only[Nat.add_zero] at hst
 simp[Builtin.clear_,run_underlying Tryz.underlying36,p9,hst]
theorem qC (L:List au) (p:Nat) (hp:p<L.length):
  (cP (cP (L.flatMap an) (p*7) ((L.drop (p+1)).flatMap an)) ((L.length-1)*7) f8).take ((L.length-1)*7)=(L.take p++L.drop (p+1)).flatMap an:=by
 have hl:(L.flatMap an).length=L.length*7:=aA L
 have hd:((L.drop (p+1)).flatMap an).length=(L.length-(p+1))*7:=by rw[aA];simp
 have ht:((L.take p).flatMap an).length=p*7:=by rw[aA];simp;omega
 have h8:f8.length=7:=rfl
 have h1:(cP (L.flatMap an) (p*7) ((L.drop (p+1)).flatMap an))=(L.take p).flatMap an++(L.drop (p+1)).flatMap an++(L.flatMap an).drop (p*7+(L.length-(p+1))*7):=by
  rw[de _ _ _ (by omega),eC L p (by omega),hd]
 have h2:((L.take p).flatMap an++(L.drop (p+1)).flatMap an).length=(L.length-1)*7:=by rw[List.length_append];omega
 have h3:(cP (L.flatMap an) (p*7) ((L.drop (p+1)).flatMap an)).length=L.length*7:=by
  rw[h1,List.length_append,h2,List.length_drop];omega
 rw[de _ _ _ (by omega),List.append_assoc,List.take_append_of_le_length (by simp;omega),List.take_take,Nat.min_self,h1,List.take_append_of_le_length (by omega),List.take_of_length_le (by omega),List.flatMap_append]
theorem nH (B g c:Nat) (L:List au) (p:Nat) (w:World) (h:ah w B (Sl (some ⟨g,0,none⟩) L.length c) L) (hp:p<L.length) (hl:L.length<=1048576):
  Calls Pg 159 #[Sl (some ⟨g,0,none⟩) L.length c,Ii Jj p,Ii Jj ((p:Int)+1)] w fun e w'=>e=.returned (Sl (some ⟨g,0,none⟩) (L.length-1) c)/\ah w' B (Sl (some ⟨g,0,none⟩) (L.length-1) c) (L.take p++L.drop (p+1))/\Below B w w'/\w.grownBy w' (some g):=by
 obtain ⟨i0,hi,hz0,hz1,hz2⟩:=info_parts dd
 obtain ⟨hc1,hc2⟩:=h.cap
 unfold maxLen at hc2
 have hBg:=(World.ownsRow.lt h g rfl).1
 obtain ⟨news,hnews⟩:∃news,news=(L.drop (p+1)).flatMap an:=⟨_,rfl⟩
 have hnl:news.length=(L.length-(p+1))*7:=by rw[hnews,aA];simp
 have O0:w.drew.ownsRow B 45 7 (Sl (some ⟨g,0,none⟩) L.length c) L.length (L.flatMap an):=h
 have fl:(L.flatMap an).length=L.length*7:=aA L
 obtain ⟨A,hA,hsrc⟩:∃A:Addr,(if c=p+1 then some (⟨g,0,none⟩:Addr) else some ⟨g,(p+1)*7,none⟩)=some A/\Hid (∀t u,news[t]? =some u->w.drew.cell? (A.add t)=some u):=by
  by_cases e:c=p+1
  ·refine ⟨⟨g,0,none⟩,by simp[e],fun t u hu=>?_⟩
   have h0:news.length=0:=by rw[hnl];omega
   rw[List.length_eq_zero_iff.1 h0] at hu
   simp at hu
  ·refine ⟨⟨g,(p+1)*7,none⟩,by simp[e],fun t u hu=>?_⟩
   rw[hnews] at hu
   exact h.news (p+1) t u hu
 have s1:=aa hnl
 have s2:Hid (∀u ∈ news,u.oneCell'=true):=(by rw[hnews];exact cL _:∀u ∈ news,u.oneCell'=true)
 have s3:Hid (∀t,t<news.length->(w.drew.cell? ⟨g,0+p*7+t,none⟩).isSome=true/\w.drew.frozen? ⟨g,0+p*7+t,none⟩=false):=by
  intro t ht
  rw[hnl] at ht
  refine ⟨?_,World.ownsRow.frozenAt h _⟩
  rw[World.ownsRow.cellAt O0 _ (by omega),List.getElem?_eq_getElem (by omega)]
  rfl
 obtain ⟨W1,hW1⟩:∃W1,W1=w.drew.setCells g (0+p*7) news:=⟨_,rfl⟩
 have O1:W1.ownsRow B 45 7 (Sl (some ⟨g,0,none⟩) L.length c) L.length (cP (L.flatMap an) (p*7) news):=by
  have:=aW news (0+p*7) _ _ O0
  rw[←hW1,Nat.zero_add] at this
  exact this
 have B1:Below B w W1:=by rw[hW1];exact aS hBg news _ _ ⟨rfl,rfl,rfl,Nf _,fun _ _=>rfl⟩
 have G1:w.grownBy W1 (some g):=by rw[hW1];exact e7 news _ _ ⟨rfl,rfl,rfl,Nf _,fun _ _ _=>rfl⟩
 have hcl:∀ty,(Builtin.clear_ #[36] ty #[Sl (some ⟨g,(L.length-1)*7,none⟩) (L.length-(L.length-1)) (c-(L.length-1))]).run Pg W1=.ok (.tuple #[]) (W1.setCells g ((L.length-1)*7) f8):=fun ty=>by
  rw[show L.length-(L.length-1)=1 by omega]
  exact nG W1 ty g _ _ (fun j hj=>by rw[World.ownsRow.cellAt O1 _ (by omega),List.getElem?_eq_getElem (by rw[O1.1];omega)];rfl) (fun j _=>World.ownsRow.frozenAt O1 _)
 have hW:=aa hW1
 have Z:Hid (ah (W1.setCells g ((L.length-1)*7) f8) B (Sl (some ⟨g,0,none⟩) (L.length-1) c) (L.take p++L.drop (p+1))/\Below B w (W1.setCells g ((L.length-1)*7) f8)/\w.grownBy (W1.setCells g ((L.length-1)*7) f8) (some g)):=by
  refine ⟨?_,aS hBg _ _ _ B1,e7 _ _ _ G1⟩
  have o2:=ny (aW f8 ((L.length-1)*7) _ _ O1) (show L.length-1<=L.length by omega)
  rw[hnews,qC L p hp] at o2
  have hlen:(L.take p++L.drop (p+1)).length=L.length-1:=by simp;omega
  unfold ah
  rw[hlen]
  exact o2
 have b0:(0:Int)<=(p:Int):=by omega
 have b1:(p:Int)<=(c:Int):=by omega
 have b2:(p:Int)+1<=(c:Int):=by omega
 have b3:(0:Int)<=(p:Int)+1:=by omega
 have b4:(p:Int)+1<=(L.length:Int):=by omega
 have b5:(p:Int)<=(p:Int)+1:=by omega
 have b6:((p:Int)+1).toNat=p+1:=by omega
 have b7:((p:Int) == (p:Int)+1)=false:=by simp;omega
 have b8:(L.length:Int)<=(c:Int):=by omega
 have b9:p+(L.length-(p+1))=L.length-1:=by omega
 clear h hnews hnl O0 O1 B1 hW1 G1
 go_enter Tryz.func159,Tryz.ntmps159
 go_wp2_with fail
 go_region_law (refine step_append_room rfl (.tmp 22) (.tmp 25) 36 rfl 45 i0 7 Tryz.underlying36 hi hz1 g 0 p c (by simp[Act.eval,Act.put]) A (L.length-(p+1)) (c-(p+1)) news (by simp[Act.eval,Act.put]) s1.out hsrc.out s2.out (by omega) s3.out ?_;rw[←hW.out,b9])
 go_wp2
 go_ret
 exact ⟨rfl,Z.out.1,Z.out.2⟩
open Go.RowKit
theorem ah.len {w:World} {B:Nat} {v:Value} {L:List au} (h:ah w B v L):∃a c,v=Sl a L.length c:=by
 obtain ⟨a,c,hv,_⟩:=h.shape
 exact ⟨a,c,hv⟩
theorem ah.block {w:World} {B g cap m:Nat} {L:List au} (h:ah w B (Sl (some ⟨g,0,none⟩) m cap) L):B<=g/\g<w.heap.size:=World.ownsRow.lt h g rfl
theorem ah.own {w:World} {B:Nat} {v:Value} {L:List au} (h:ah w B v L) (hv:v≠ Sl none 0 0):∃g c,v=Sl (some ⟨g,0,none⟩) L.length c:=by
 rcases h.2 with ⟨e,_⟩|⟨g,c,_,e,_⟩
 ·exact absurd e hv
 ·exact ⟨g,c,e⟩
theorem fY (w:World) (ty:TypeId) (b o dLen dCap:Nat) (a:Addr) (sLen sCap:Nat) (n:Nat) (cs:List Value)
  (hn:n=Nat.min sLen dLen) (hl:cs.length=n*7)
  (hsrc:∀j v,cs[j]? =some v->w.cell? (a.add j)=some v) (hc:∀j,j<cs.length->(w.cell? ⟨b,o+j,none⟩).isSome=true) (hf:∀j,j<cs.length->w.frozen? ⟨b,o+j,none⟩=false) (h1:∀v ∈ cs,v.oneCell'=true):
  (Builtin.copy_ #[36,36] ty #[Sl (some ⟨b,o,none⟩) dLen dCap,Sl (some a) sLen sCap]).run Pg w=.ok (goInt n) (w.setCells b o cs):=by
 obtain ⟨i0,hi,hz0,hz1,hz2⟩:=info_parts dd
 have hld:=run_loadCells_list (P:=Pg) w a cs hsrc
 have hst:=run_storeCells_cells (P:=Pg) b o cs 0 w (by simpa using hc) (by simpa using hf) h1
 rw[hl] at hld
 simp[Builtin.copy_,run_underlying Tryz.underlying36,Builtin.lenOf,Builtin.firstCells,sizeOf,typeInfo,hi,hz1,←hn,hld,hst]
theorem qD (L:List au) (i:Nat) (x:au) (ys:List Value) (hy:ys.length=7) (hi:i<L.length):
  cP (cP (L.flatMap an++ys) ((i+1)*7) ((L.drop i).flatMap an)) (i*7) (an x)=(L.take i++x::L.drop i).flatMap an:=by
 have hl:(L.flatMap an).length=L.length*7:=aA L
 have hd:((L.drop i).flatMap an).length=(L.length-i)*7:=by rw[aA];simp
 have ht:((L.take i).flatMap an).length=i*7:=by rw[aA];simp;omega
 have h8:(an x).length=7:=rfl
 have hw:(L.flatMap an++ys).length=(L.length+1)*7:=by rw[List.length_append];omega
 have e1:cP (L.flatMap an++ys) ((i+1)*7) ((L.drop i).flatMap an)=(L.flatMap an++ys).take ((i+1)*7)++(L.drop i).flatMap an:=by
  have ez:(L.flatMap an++ys).drop ((i+1)*7+(L.length-i)*7)=[]:=List.drop_eq_nil_of_le (by omega)
  rw[de _ _ _ (by omega),hd,ez,List.append_nil]
 have e3:((L.flatMap an++ys).take ((i+1)*7)).length=(i+1)*7:=by rw[List.length_take];omega
 rw[e1,de _ _ _ (by rw[List.length_append];omega),h8]
 rw[List.take_append_of_le_length (by omega),List.take_take,show min (i*7) ((i+1)*7)=i*7 by omega,List.take_append_of_le_length (by omega),eC L i (by omega)]
 rw[show i*7+7=(i+1)*7 by omega,List.drop_append_of_le_length (by omega),List.drop_of_length_le (by omega)]
 simp
theorem tq (w:World):(Go.sizeOf 45).run Pg w=.ok 7 w:=by kernel_rfl
theorem fm (x:au):∀v ∈ an x,v.oneCell'=true:=by
 intro u hx
 simp only[an,List.mem_cons,List.not_mem_nil,or_false] at hx
 rcases hx with e|e|e|e|e|e|e <;>subst e <;>rfl
def ee (w:World) (vb:Nat) (x:au):Prop:=w.heap[vb]? =some (.cells (an x).toArray 45 (0,0))
theorem ee.cell {w:World} {vb:Nat} {x:au} (h:ee w vb x) (j:Nat) (v:Value) (hj:(an x)[j]? =some v):w.cell? ((⟨vb,0,none⟩:Addr).add j)=some v:=by
 rw[Addr.add_lit,Nat.zero_add]
 unfold ee at h
 simp only[World.cell?,h]
 simp[hj]
theorem ee.setCells {vb:Nat} {x:au} {g:Nat} (hne:vb≠g):∀(vs:List Value) (o:Nat) (w:World),ee w vb x->ee (w.setCells g o vs) vb x
 | [],_,_,h=>h
 | v::r,o,_,h=>ee.setCells hne r (o+1) _ (by unfold ee at h ⊢;rw[Below.heap_setCell _ _ _ _ hne];exact h)
theorem qE (B g c:Nat) (L:List au) (i:Nat) (x:au) (vb:Nat) (w:World) (h:ah w B (Sl (some ⟨g,0,none⟩) L.length c) L) (hi:i<L.length) (hr:L.length+1<=c) (hl:L.length<=1048576) (hv:ee w vb x) (hne:vb≠g):
  Calls Pg 158 #[Sl (some ⟨g,0,none⟩) L.length c,Ii Jj i,Sl (some ⟨vb,0,none⟩) 1 1] w fun e w'=>e=.returned (Sl (some ⟨g,0,none⟩) (L.length+1) c)/\ah w' B (Sl (some ⟨g,0,none⟩) (L.length+1) c) (L.take i++x::L.drop i)/\Below B w w'/\w.grownBy w' (some g):=by
 obtain ⟨hc1,hc2⟩:=h.cap
 unfold maxLen at hc2
 have hBg:=(World.ownsRow.lt h g rfl).1
 obtain ⟨cur,hcur,hcs⟩:=kN h
 obtain ⟨ys,hy,O0⟩:=nz h hr
 have fl:(L.flatMap an++ys).length=(L.length+1)*7:=by rw[List.length_append,aA,hy];omega
 have hov:∀lb cb,(callFunc 175 #[Sl (some ⟨vb,0,none⟩) 1 1,Sl (some ⟨g,(i+1)*7,none⟩) lb cb]).run Pg w=.ok (.value (.bool false)) w:=fun lb cb=>by
  rw[run_callFunc_extern Tryz.func175 (by kernel_rfl) (by kernel_rfl) (by kernel_rfl) (e:=Extern.SlicesOverlaps.overlaps #[36,36] #[4]) (by kernel_rfl),
   Lib.run_overlaps_apart w 36 4 45 Tryz.underlying36 7 tq ⟨vb,0,none⟩ ⟨g,(i+1)*7,none⟩ 1 1 lb cb hne 45 45 7 (c*7) (by unfold World.shape?;rw[hv];rfl) (by unfold World.shape?;rw[hcur,←hcs]) (by omega) (by unfold World.frozen?;rw[hv];rfl) (by unfold World.frozen?;rw[hv];rfl)]
  rfl
 obtain ⟨cs,hcsd⟩:∃cs,cs=(L.drop i).flatMap an:=⟨_,rfl⟩
 have hdl:cs.length=(L.length-i)*7:=by rw[hcsd,aA];simp
 have O0d:w.drew.ownsRow B 45 7 (Sl (some ⟨g,0,none⟩) (L.length+1) c) (L.length+1) (L.flatMap an++ys):=O0
 obtain ⟨W1,hW1⟩:∃W1,W1=w.drew.setCells g ((i+1)*7) cs:=⟨_,rfl⟩
 have hcp1:∀ty dc sc,(Builtin.copy_ #[36,36] ty #[Sl (some ⟨g,(i+1)*7,none⟩) (L.length-i) dc,Sl (some ⟨g,i*7,none⟩) (L.length+1-i) sc]).run Pg w.drew=.ok (goInt ((L.length-i:Nat):Int)) W1:=fun ty dc sc=>by
  rw[hW1]
  exact fY w.drew ty g ((i+1)*7) (L.length-i) dc ⟨g,i*7,none⟩ (L.length+1-i) sc (L.length-i) cs (by simp only[Nat.min_def];split <;>omega) hdl
   (fun j v hj=>by rw[hcsd] at hj;exact h.news i j v hj)
   (fun j hj=>by rw[World.ownsRow.cellAt O0d _ (by omega),List.getElem?_eq_getElem (by omega)];rfl) (fun j _=>World.ownsRow.frozenAt O0d _) (by rw[hcsd];exact cL _)
 have O1:W1.ownsRow B 45 7 (Sl (some ⟨g,0,none⟩) (L.length+1) c) (L.length+1) (cP (L.flatMap an++ys) ((i+1)*7) cs):=by rw[hW1];exact aW cs _ _ _ O0d
 have hv1:ee W1 vb x:=by rw[hW1];exact ee.setCells hne cs _ _ hv
 have B1:Below B w W1:=by rw[hW1];exact aS hBg cs _ _ ⟨rfl,rfl,rfl,Nf _,fun _ _=>rfl⟩
 have G1:w.grownBy W1 (some g):=by rw[hW1];exact e7 cs _ _ ⟨rfl,rfl,rfl,Nf _,fun _ _ _=>rfl⟩
 have hcp2:∀ty dc,(Builtin.copy_ #[36,36] ty #[Sl (some ⟨g,i*7,none⟩) (L.length+1-i) dc,Sl (some ⟨vb,0,none⟩) 1 1]).run Pg W1=.ok (goInt 1) (W1.setCells g (i*7) (an x)):=fun ty dc=>
  fY W1 ty g (i*7) (L.length+1-i) dc ⟨vb,0,none⟩ 1 1 1 (an x) (by simp only[Nat.min_def];split <;>omega) rfl hv1.cell
   (fun j hj=>by have h8:j<7:=hj;rw[World.ownsRow.cellAt O1 _ (by omega),List.getElem?_eq_getElem (by rw[O1.1];omega)];rfl) (fun j _=>World.ownsRow.frozenAt O1 _) (fm x)
 have Z:Hid (ah (W1.setCells g (i*7) (an x)) B (Sl (some ⟨g,0,none⟩) (L.length+1) c) (L.take i++x::L.drop i)/\Below B w (W1.setCells g (i*7) (an x))/\w.grownBy (W1.setCells g (i*7) (an x)) (some g)):=by
  refine ⟨?_,aS hBg _ _ _ B1,e7 _ _ _ G1⟩
  have o2:=aW (an x) (i*7) _ _ O1
  rw[hcsd,qD L i x ys hy hi] at o2
  have hlen:(L.take i++x::L.drop i).length=L.length+1:=by simp;omega
  unfold ah
  rw[hlen]
  exact o2
 have hz2:((i:Int) == (L.length:Int))=false:=by simp;omega
 have hw1:IntKind.i64.wrap ((i:Int)+1)=(i:Int)+1:=by rw[IntKind.wrap_i64];omega
 have hw2:IntKind.i64.wrap ((L.length:Int)+1)=(L.length:Int)+1:=by rw[IntKind.wrap_i64];omega
 have hb1:(0:Int)<=(i:Int)+1:=by omega
 have hb0:(0:Int)<=(L.length:Int)+1:=by omega
 have hb5:(L.length:Int)+1<=(c:Int):=by omega
 have hin:i<=L.length:=by omega
 have htn:((i:Int)+1).toNat=i+1:=by omega
 have htl:((L.length:Int)+1).toNat=L.length+1:=by omega
 have hb2:¬(c=i+1):=by omega
 have hb3:(i:Int)<=(L.length:Int)+1:=by omega
 have hb6:(i:Int)+1<=(L.length:Int)+1:=by omega
 have hb4:¬(c=i):=by omega
 clear h hcur hcs O0 O0d fl hdl hcsd hW1 O1 hv1 B1 G1 hv hy
 go_enter Tryz.func158,Tryz.ntmps158
 go_wp2_with (simp only[hov])
 go_region_law (refine step_copy_runI rfl _ _ 36 36 rfl (Sl (some ⟨g,(i+1)*7,none⟩) (L.length-i) (c-(i+1))) (Sl (some ⟨g,i*7,none⟩) (L.length+1-i) (c-i)) (by simp[Act.eval,Act.put]) (by simp[Act.eval,Act.put]) (hcp1 3 (c-(i+1)) (c-i)) ?_)
 go_wp2_with (at_builtin;refine wpList_copy_runI _ rfl _ _ 36 36 rfl _ _ rfl rfl (hcp2 _ _) ?_)
 go_ret
 exact ⟨rfl,Z.out.1,Z.out.2⟩
theorem sF (B g c:Nat) (L:List au) (x:au) (vb:Nat) (w:World) (h:ah w B (Sl (some ⟨g,0,none⟩) L.length c) L) (hB:B<=w.heap.size) (hl:L.length<=1048576) (hv:ee w vb x):
  Calls Pg 158 #[Sl (some ⟨g,0,none⟩) L.length c,Ii Jj L.length,Sl (some ⟨vb,0,none⟩) 1 1] w fun e w'=>∃v,e=.returned v/\ah w' B v (L++[x])/\Below B w w'/\w.grownBy w' (some g):=by
 obtain ⟨i0,hi,hz0,hz1,hz2⟩:=info_parts dd
 obtain ⟨hc1,hc2⟩:=h.cap
 unfold maxLen at hc2
 have H:=aa h
 have HV:=aa hv
 have hBg:=(World.ownsRow.lt h g rfl).1
 obtain ⟨A,hA⟩:∃A:Addr,(if c=L.length then some (⟨g,0,none⟩:Addr) else some ⟨g,L.length*7,none⟩)=some A:=by
  by_cases e:c=L.length
  ·exact ⟨_,by rw[if_pos e]⟩
  ·exact ⟨_,by rw[if_neg e]⟩
 clear h hv
 go_enter Tryz.func158,Tryz.ntmps158
 go_wp2_with (at_builtin;refine wpList_append_own _ rfl _ _ 36 rfl B 45 i0 _ 7 56 Tryz.underlying36 hi hz0 hz1 hz2 rfl (by decide) _ _ _ rfl H.out ⟨vb,0,none⟩ 1 1 (an x) rfl rfl HV.out.cell (fm x) ?_ ?_ hB ?_)
 ·unfold maxLen;omega
 ·omega
 ·intro v' w2 hown hgrow hnn
  have A2:Hid (ah w2 B v' (L++[x])):=by
   show ah w2 B v' (L++[x])
   unfold ah
   simpa using hown
  have B2:Hid (Below B w w2):=(Below.refl _ _).grown hgrow hB (fun q hq=>by simp[Value.ownBlock] at hq;omega)
  have G2:=aa hgrow
  clear hown hgrow hnn
  obtain ⟨a2,c2,hv2⟩:=A2.out.len
  obtain ⟨n',hn'⟩:∃n',n'=(L++[x]).length:=⟨_,rfl⟩
  rw[←hn'] at hv2
  subst hv2
  clear hn'
  go_wp2
  go_ret
  exact ⟨_,rfl,A2.out,B2.out,G2.out⟩
theorem sG (B:Nat) (x:au) (vb:Nat) (w:World) (hB:B<=w.heap.size) (hv:ee w vb x):
  Calls Pg 158 #[Sl none 0 0,Ii Jj 0,Sl (some ⟨vb,0,none⟩) 1 1] w fun e w'=>∃v,e=.returned v/\ah w' B v [x]/\Below B w w'/\w.grownBy w' none:=by
 obtain ⟨i0,hi,hz0,hz1,hz2⟩:=info_parts dd
 have H:Hid (ah w B (Sl none 0 0) []):=World.ownsRow_nil _ _ _ _
 have HV:=aa hv
 clear hv
 go_enter Tryz.func158,Tryz.ntmps158
 go_wp2_with (at_builtin;refine wpList_append_own _ rfl _ _ 36 rfl B 45 i0 _ 7 56 Tryz.underlying36 hi hz0 hz1 hz2 rfl (by decide) _ _ _ rfl H.out ⟨vb,0,none⟩ 1 1 (an x) rfl rfl HV.out.cell (fm x) ?_ ?_ hB ?_)
 ·unfold maxLen;simp
 ·simp
 ·intro v' w2 hown hgrow hnn
  have A2:Hid (ah w2 B v' [x]):=by
   show ah w2 B v' [x]
   unfold ah
   simpa using hown
  have B2:Hid (Below B w w2):=(Below.refl _ _).grown hgrow hB (fun q hq=>by simp[Value.ownBlock] at hq)
  have G2:=aa hgrow
  clear hown hgrow hnn
  obtain ⟨a2,c2,hv2⟩:=A2.out.len
  obtain ⟨n',hn'⟩:∃n',n'=[x].length:=⟨_,rfl⟩
  rw[←hn'] at hv2
  subst hv2
  clear hn'
  go_wp2
  go_ret
  exact ⟨_,rfl,A2.out,B2.out,G2.out⟩
theorem vA (k:Nat):(Builtin.zeroCells (Value.agg #[Ii Jj 0,Ii Jj 0,Ii Jj 0,Ii Jj 0,Ii Jj 0,Ii Jj 0,Ii Jj 0]).cells k).size=k*7:=by
 simp[Builtin.zeroCells,Value.cells]
theorem rS (B g c:Nat) (L:List au) (i:Nat) (x:au) (vb:Nat) (w:World) (h:ah w B (Sl (some ⟨g,0,none⟩) L.length c) L) (hB:B<=w.heap.size) (hi:i<L.length) (hr:c<L.length+1) (hl:L.length<=1048576) (hv:ee w vb x) (hvw:vb<w.heap.size):
  Calls Pg 158 #[Sl (some ⟨g,0,none⟩) L.length c,Ii Jj i,Sl (some ⟨vb,0,none⟩) 1 1] w fun e w'=>∃v,e=.returned v/\ah w' B v (L.take i++x::L.drop i)/\Below B w w'/\w.grownBy w' (some g):=by
 obtain ⟨i0,hi0,hz0,hzs,hzb⟩:=info_parts dd
 obtain ⟨hc1,hc2⟩:=h.cap
 unfold maxLen at hc2
 obtain ⟨hBg,hgw⟩:=h.block
 have hkk:(L.length:Int)+1-(i:Int)=((L.length+1-i:Nat):Int):=by omega
 have hik:i+(L.length+1-i)=L.length+1:=by omega
 have htl:((L.take i).flatMap an).length=i*7:=by rw[aA];simp;omega
 have fl:(L.flatMap an).length=L.length*7:=aA L
 have hold:(Builtin.firstCells i0.size i (Sl (some ⟨g,0,none⟩) i c)).run Pg w.drew=.ok ((L.take i).flatMap an).toArray w.drew:=by
  rw[hzs]
  exact run_firstCells_some w.drew 7 i ⟨g,0,none⟩ i c ((L.take i).flatMap an) htl (fun j v hj=>by
   rw[Addr.add_lit,Nat.zero_add]
   have hjl:j<i*7:=by
    have:=(List.getElem?_eq_some_iff.1 hj).1
    rwa [htl] at this
   show w.cell? ⟨g,j,none⟩=some v
   rw[World.ownsRow.cellAt h j (by omega),←hj,←eC L i (by omega),List.getElem?_take]
   simp[hjl])
 have hrz:∀ty,(Builtin.append_ #[36,3] ty #[Sl (some ⟨g,0,none⟩) i c,Ii Jj ((L.length:Int)+1-(i:Int))]).run Pg w=
   .ok (Sl (some ⟨w.heap.size,0,none⟩) (L.length+1) (grownCap w (L.length+1) c 45)) (w.drew.alloc (.cells (((L.take i).flatMap an).toArray++Builtin.zeroCells (Value.agg #[Ii Jj 0,Ii Jj 0,Ii Jj 0,Ii Jj 0,Ii Jj 0,Ii Jj 0,Ii Jj 0]).cells (L.length+1-i)++Builtin.zeroCells (Value.agg #[Ii Jj 0,Ii Jj 0,Ii Jj 0,Ii Jj 0,Ii Jj 0,Ii Jj 0,Ii Jj 0]).cells (grownCap w (L.length+1) c 45-(L.length+1))) 45)):=fun ty=>by
  have h:=Lib.run_append_grow_zeros w 36 3 ty 45 i0 _ .i64 .i64 Tryz.underlying36 Tryz.underlying3 hi0 hz0 (some ⟨g,0,none⟩) i c ((L.take i).flatMap an) hold (L.length+1-i) (by omega) (by omega) (by omega) (by omega) (by rw[hzb];omega) (by rw[hzb,hik];exact growslice_fits hr (by omega))
  rw[hik] at h
  rw[hkk]
  exact h
 obtain ⟨G,hG⟩:∃G,G=grownCap w (L.length+1) c 45:=⟨_,rfl⟩
 obtain ⟨ROW,hROW⟩:∃ROW:Array Value,ROW=((L.take i).flatMap an).toArray++Builtin.zeroCells (Value.agg #[Ii Jj 0,Ii Jj 0,Ii Jj 0,Ii Jj 0,Ii Jj 0,Ii Jj 0,Ii Jj 0]).cells (L.length+1-i)++Builtin.zeroCells (Value.agg #[Ii Jj 0,Ii Jj 0,Ii Jj 0,Ii Jj 0,Ii Jj 0,Ii Jj 0,Ii Jj 0]).cells (G-(L.length+1)):=⟨_,rfl⟩
 rw[←hG] at hrz
 rw[←hROW] at hrz
 have hGn:L.length+1<=G:=by rw[hG];exact grownCap_ge w _ _ _
 have hG63:G<=maxLen:=by
  rw[hG]
  exact grownCap_le_maxLen w (L.length+1) c 45 (by unfold maxLen;omega)
 have hRs:ROW.size=G*7:=by
  rw[hROW]
  simp only[Array.size_append,vA,List.size_toArray,htl]
  omega
 obtain ⟨W1,hW1⟩:∃W1,W1=w.drew.alloc (.cells ROW 45):=⟨_,rfl⟩
 rw[←hW1] at hrz
 obtain ⟨zs,hzl,hzs'⟩:∃zs:List Value,zs.length=(L.length+1-i)*7/\ROW.toList.take ((L.length+1)*7)=(L.take i).flatMap an++zs:=by
  refine ⟨(Builtin.zeroCells (Value.agg #[Ii Jj 0,Ii Jj 0,Ii Jj 0,Ii Jj 0,Ii Jj 0,Ii Jj 0,Ii Jj 0]).cells (L.length+1-i)).toList,by rw[Array.length_toList,vA],?_⟩
  have e2:(((L.take i).flatMap an)++(Builtin.zeroCells (Value.agg #[Ii Jj 0,Ii Jj 0,Ii Jj 0,Ii Jj 0,Ii Jj 0,Ii Jj 0,Ii Jj 0]).cells (L.length+1-i)).toList).length=(L.length+1)*7:=by
   rw[List.length_append,htl,Array.length_toList,vA];omega
  rw[hROW,Array.toList_append,Array.toList_append,List.toList_toArray,List.take_append_of_le_length (by omega),List.take_of_length_le (by omega)]
 have O1:W1.ownsRow B 45 7 (Sl (some ⟨w.heap.size,0,none⟩) (L.length+1) G) (L.length+1) ((L.take i).flatMap an++zs):=by
  refine ⟨by rw[List.length_append,htl,hzl];omega,.inr ⟨w.heap.size,G,ROW,rfl,hB,?_,hGn,hG63,hRs,hzs'⟩⟩
  rw[hW1]
  show (w.heap.push _)[w.heap.size]? =_
  simp
 have B1:Below w.heap.size w W1:=by
  rw[hW1]
  exact (show Below w.heap.size w w.drew from ⟨rfl,rfl,rfl,Nf _,fun _ _=>rfl⟩).alloc (Nf _) _
 have hv1:ee W1 vb x:=by unfold ee at hv ⊢;rw[B1.block vb hvw];exact hv
 have hcpA:∀ty dc,(Builtin.copy_ #[36,36] ty #[Sl (some ⟨w.heap.size,i*7,none⟩) (L.length+1-i) dc,Sl (some ⟨vb,0,none⟩) 1 1]).run Pg W1=.ok (goInt 1) (W1.setCells w.heap.size (i*7) (an x)):=fun ty dc=>
  fY W1 ty w.heap.size (i*7) (L.length+1-i) dc ⟨vb,0,none⟩ 1 1 1 (an x) (by simp only[Nat.min_def];split <;>omega) rfl hv1.cell
   (fun j hj=>by have h8:j<7:=hj;rw[World.ownsRow.cellAt O1 _ (by omega),List.getElem?_eq_getElem (by rw[O1.1];omega)];rfl) (fun j _=>World.ownsRow.frozenAt O1 _) (fm x)
 obtain ⟨W2,hW2⟩:∃W2,W2=W1.setCells w.heap.size (i*7) (an x):=⟨_,rfl⟩
 rw[←hW2] at hcpA
 have O2:W2.ownsRow B 45 7 (Sl (some ⟨w.heap.size,0,none⟩) (L.length+1) G) (L.length+1) (cP ((L.take i).flatMap an++zs) (i*7) (an x)):=by rw[hW2];exact aW _ _ _ _ O1
 have O2d:W2.drew.ownsRow B 45 7 (Sl (some ⟨w.heap.size,0,none⟩) (L.length+1) G) (L.length+1) (cP ((L.take i).flatMap an++zs) (i*7) (an x)):=O2
 have B2:Below w.heap.size w W2.drew:=by
  have:Below w.heap.size w W2:=by rw[hW2];exact aS (Nf _) _ _ _ B1
  exact this.trans ⟨rfl,rfl,rfl,Nf _,fun _ _=>rfl⟩
 obtain ⟨cs,hcsd⟩:∃cs,cs=(L.drop i).flatMap an:=⟨_,rfl⟩
 have hdl:cs.length=(L.length-i)*7:=by rw[hcsd,aA];simp
 have hcpB:∀ty dc sc,(Builtin.copy_ #[36,36] ty #[Sl (some ⟨w.heap.size,(i+1)*7,none⟩) (L.length-i) dc,Sl (some ⟨g,i*7,none⟩) (L.length-i) sc]).run Pg W2.drew=.ok (goInt ((L.length-i:Nat):Int)) (W2.drew.setCells w.heap.size ((i+1)*7) cs):=fun ty dc sc=>
  fY W2.drew ty w.heap.size ((i+1)*7) (L.length-i) dc ⟨g,i*7,none⟩ (L.length-i) sc (L.length-i) cs (by simp only[Nat.min_def];split <;>omega) hdl
   (fun j v hj=>by
    rw[hcsd] at hj
    have:=h.news i j v hj
    rw[Addr.add_lit] at this ⊢
    rw[B2.cell (p:=⟨g,i*7+j,none⟩) hgw]
    exact this)
   (fun j hj=>by rw[World.ownsRow.cellAt O2d _ (by omega),List.getElem?_eq_getElem (by rw[O2d.1];omega)];rfl) (fun j _=>World.ownsRow.frozenAt O2d _) (by rw[hcsd];exact cL _)
 have Z:Hid (ah (W2.drew.setCells w.heap.size ((i+1)*7) cs) B (Sl (some ⟨w.heap.size,0,none⟩) (L.length+1) G) (L.take i++x::L.drop i)/\Below B w (W2.drew.setCells w.heap.size ((i+1)*7) cs)/\w.grownBy (W2.drew.setCells w.heap.size ((i+1)*7) cs) (some g)):=by
  have b3:=aS (Nf _) cs ((i+1)*7) _ B2
  refine ⟨?_,b3.mono hB,⟨b3.os,b3.tape,b3.output,b3.size,fun q hq _=>b3.block q hq⟩⟩
  have o3:=aW cs ((i+1)*7) _ _ O2d
  have h8:(an x).length=7:=rfl
  have hx1:((L.take i).flatMap an++zs).length=(L.length+1)*7:=by rw[List.length_append,htl,hzl];omega
  have e1:cP ((L.take i).flatMap an++zs) (i*7) (an x)=(L.take i).flatMap an++an x++((L.take i).flatMap an++zs).drop ((i+1)*7):=by
   rw[de _ _ _ (by omega),List.take_append_of_le_length (by omega),List.take_of_length_le (by omega),h8,show i*7+7=(i+1)*7 by omega]
  have hx2:(cP ((L.take i).flatMap an++zs) (i*7) (an x)).length=(L.length+1)*7:=O2.1
  have hx3:((L.take i).flatMap an++an x).length=(i+1)*7:=by rw[List.length_append,htl,h8];omega
  have ez:(cP ((L.take i).flatMap an++zs) (i*7) (an x)).drop ((i+1)*7+(L.length-i)*7)=[]:=List.drop_eq_nil_of_le (by omega)
  have e2:cP (cP ((L.take i).flatMap an++zs) (i*7) (an x)) ((i+1)*7) cs=(L.take i).flatMap an++an x++cs:=by
   rw[de _ _ _ (by omega),hdl,ez,List.append_nil,e1,List.take_append_of_le_length (by omega),List.take_of_length_le (by omega)]
  rw[e2] at o3
  have hlen:(L.take i++x::L.drop i).length=L.length+1:=by simp;omega
  unfold ah
  rw[hlen,List.flatMap_append,List.flatMap_cons,←List.append_assoc,←hcsd]
  exact o3
 have hz2:((i:Int) == (L.length:Int))=false:=by simp;omega
 have hz3:(c:Int)<(L.length:Int)+1:=by omega
 have hz4:decide ((c:Int)<(L.length:Int)+1)=true:=by simp;omega
 have hw1:IntKind.i64.wrap ((i:Int)+1)=(i:Int)+1:=by rw[IntKind.wrap_i64];omega
 have hw2:IntKind.i64.wrap ((L.length:Int)+1)=(L.length:Int)+1:=by rw[IntKind.wrap_i64];omega
 have hw3:IntKind.i64.wrap ((L.length:Int)+1-(i:Int))=(L.length:Int)+1-(i:Int):=by rw[IntKind.wrap_i64];omega
 have hb1:(0:Int)<=(i:Int)+1:=by omega
 have hin:i<=L.length:=by omega
 have hic:i<=c:=by omega
 have htn:((i:Int)+1).toNat=i+1:=by omega
 have hGi:¬(G=i):=by omega
 have hGim:¬(G=i+1):=by omega
 have hb3:(i:Int)<=(L.length:Int)+1:=by omega
 have hb6:(i:Int)+1<=(L.length:Int)+1:=by omega
 have hb4:¬(c=i):=by omega
 unfold maxLen at hG63
 clear h hkk hik htl fl hold hROW hG hRs hzs' hzl O1 B1 hv1 hv hW1 hW2 O2 O2d B2 hcsd hdl
 go_enter Tryz.func158,Tryz.ntmps158
 go_wp2_with (first
  | (at_builtin;refine Lib.wpList_append_run _ rfl _ _ _ _ rfl _ _ rfl rfl _ _ (hrz _) ?_)
  | (at_builtin;refine wpList_copy_runI _ rfl _ _ 36 36 rfl _ _ rfl rfl (hcpA _ _) ?_))
 go_region_law (refine step_copy_runI rfl _ _ 36 36 rfl (Sl (some ⟨w.heap.size,(i+1)*7,none⟩) (L.length-i) (G-(i+1))) (Sl (some ⟨g,i*7,none⟩) (L.length-i) (c-i)) (by simp[Act.eval,Act.put]) (by simp[Act.eval,Act.put]) (hcpB 3 (G-(i+1)) (c-i)) ?_)
 go_wp2
 go_ret
 exact ⟨_,rfl,Z.out.1,Z.out.2⟩
theorem nI (B:Nat) (v:Value) (L:List au) (k:Nat) (x:au) (vb:Nat) (w:World) (h:ah w B v L) (hB:B<=w.heap.size) (hk:k<=L.length) (hl:L.length<=1048576) (hv:ee w vb x) (hvw:vb<w.heap.size) (hne:v.ownBlock≠some vb):
  Calls Pg 158 #[v,Ii Jj k,Sl (some ⟨vb,0,none⟩) 1 1] w fun e w'=>∃v',e=.returned v'/\ah w' B v' (L.take k++x::L.drop k)/\Below B w w'/\w.grownBy w' v.ownBlock:=by
 by_cases hn:v=Sl none 0 0
 ·subst hn
  obtain ⟨a,c,e⟩:=h.len
  have h0:L.length=0:=by simp at e;omega
  have hL:L=[]:=List.length_eq_zero_iff.1 h0
  subst hL
  have hk0:k=0:=by simpa using hk
  subst hk0
  simpa [Value.ownBlock] using sG B x vb w hB hv
 ·obtain ⟨g,c,e⟩:=h.own hn
  subst e
  by_cases hkn:k=L.length
  ·subst hkn
   have:=sF B g c L x vb w h hB hl hv
   simpa [Value.ownBlock] using this
  ·have hlt:k<L.length:=by omega
   by_cases hr:L.length+1<=c
   ·exact (qE B g c L k x vb w h hlt hr hl hv (fun e=>hne (by simp[Value.ownBlock,e]))).mono fun e w' ⟨h1,h2,h3,h4⟩=>⟨_,h1,h2,h3,h4⟩
   ·exact rS B g c L k x vb w h hB hlt (by omega) hl hv hvw
end Go.Proofs.YtghkbhggopiajaaGreatDoor
