/- Lists of numbers that the calls make. -/
import Derived.Test.YtghkbhggopiajaaGreatDoorChAr
import Derived.Laws.EntriesVeiled
namespace Go.Proofs.YtghkbhggopiajaaGreatDoor
open Value renaming int → Ii,slice → Sl
open IntKind renaming i64 → Jj
open Nat renaming le_refl → Nf
open Go.RowKit.Below renaming refl → Bf
open Go.Proofs.Tryz renaming prog → Pg
set_option maxHeartbeats 4000000
set_option maxRecDepth 8000
open Go.RowKit
def IL (w:World) (B:Nat) (v:Value) (l:List Int):Prop:=w.ownsRow B 2 1 v l.length (l.map (Value.int .i64))
theorem IL.nil (w:World) (B:Nat):IL w B (Sl none 0 0) []:=World.ownsRow_nil w B 2 1
theorem IL.empty (w:World) (B:Nat) (hB:B<=w.heap.size):IL (w.alloc (.cells #[] 2)) B (Sl (some ⟨w.heap.size,0,none⟩) 0 0) []:=World.ownsRow_lit w #[] 0 hB (Nat.zero_le _) (by simp)
theorem IL.kept {w w':World} {B:Nat} {v:Value} {l:List Int} (h:IL w B v l) (hb:Below w.heap.size w w'):IL w' B v l:=
 World.ownsRow.kept (row:=none) h ⟨hb.os,hb.tape,hb.output,hb.size,fun k hk _=>hb.block k hk⟩ (by cases hv:v.ownBlock <;>simp)
theorem IL.shape {w:World} {B:Nat} {v:Value} {l:List Int} (h:IL w B v l):
  ∃a cap,v=Sl a l.length cap/\(∀g,v.ownBlock=some g->B<=g/\g<w.heap.size)/\
   ∀i,i<l.length->∃g,a=some ⟨g,0,none⟩/\v.ownBlock=some g/\B<=g/\g<w.heap.size/\w.cell? ⟨g,i,none⟩=some (Ii Jj (l.getD i 0))/\w.frozen? ⟨g,i,none⟩=false:=by
 have hlt:=World.ownsRow.lt h
 rcases h.2 with ⟨hv,hn⟩|⟨g,cap,cur,hv,hg,r⟩
 ·refine ⟨none,0,by rw[hv,hn],fun g hg=>hlt g hg,fun i hi=>?_⟩
  omega
 ·refine ⟨some ⟨g,0,none⟩,cap,hv,fun g hg=>hlt g hg,fun i hi=>?_⟩
  have ho:v.ownBlock=some g:=by rw[hv];rfl
  have hs:w.ownsRow B 2 1 (Sl (some ⟨g,0,none⟩) l.length cap) l.length (l.map (Value.int .i64)):=by rw[←hv];exact h
  have hc:=World.ownsRow.cellAt hs i (by omega)
  refine ⟨g,rfl,ho,hg,(hlt g ho).2,?_,World.ownsRow.frozenAt hs i⟩
  rw[hc]
  simp[List.getD,List.getElem?_eq_getElem hi]
theorem pU (w:World) (R o:Nat) (u:Value):w.grownBy (w.setCell ⟨R,o,none⟩ u) (some R):=
 ⟨rfl,rfl,rfl,by simp[World.setCell],fun k _ hn=>Below.heap_setCell _ _ _ _ (fun e=>hn (by rw[e]))⟩
open Go.RowKit
def bZ (F:Nat->aj) (id:Int):Nat->List Int
 | 0=>[]
 | k+1=>bZ F id k++(if (F k).up=id then [(F k).id] else [])
theorem fB (F:Nat->aj) (id:Int):∀k,(bZ F id k).length<=k
 | 0=>by simp[bZ]
 | k+1=>by
  have:=fB F id k
  simp only[bZ,List.length_append]
  split <;>simp <;>omega
theorem me {F:Nat->aj} {id:Int} {k:Nat} (h:(F k).up=id):bZ F id (k+1)=bZ F id k++[(F k).id]:=by simp[bZ,h]
theorem ky {F:Nat->aj} {id:Int} {k:Nat} (h:(F k).up≠id):bZ F id (k+1)=bZ F id k:=by simp[bZ,h]
theorem l7 (a:Option Addr) (n c:Nat) (F:Nat->aj) (id:Int) (w:World) (h:Fo w a n F) (hR:al F n):
  Calls Pg 165 #[Sl a n c,Ii Jj id] w fun e w'=>∃v,e=.returned v/\IL w' w.heap.size v (bZ F id n)/\Below w.heap.size w w':=by
 have H:=aa h
 have HR:=aa hR
 have hn:=hR.1
 clear h hR
 obtain ⟨i0,hi,hz0,hz1,hz2⟩:=info_parts kx
 have I0:Hid (IL (w.alloc (.cells #[] 2)) w.heap.size (Sl (some ⟨w.heap.size,0,none⟩) 0 0) []):=IL.empty w w.heap.size (Nf _)
 go_enter Tryz.func165,Tryz.ntmps165
 go_wp2
 go_loopw[5,6] (fun v i wr=>∃k:Nat,k<=n/\i=Ii Jj k/\Hid (IL wr w.heap.size v (bZ F id k))/\Hid (Below w.heap.size w wr)) (fun _ i _=>n-(intOf i).toNat)
 case atStart=>exact ⟨0,Nat.zero_le _,rfl,I0,(Bf _ _).alloc (Nf _) _⟩
 case round=>
  rename_i v5
  obtain ⟨k,hk,rfl,hI,hB⟩:=hrel
  clear I0
  go_wp2_with fail
  refine (dr a n c F _ (H.out.below hB.out) HR.out).mono ?_
  rintro e w1 ⟨rfl,B1⟩
  have I1:=aa (hI.out.kept B1)
  have B1':=aa (hB.out.trans (B1.mono hB.out.size))
  clear B1 hI hB
  by_cases hlt:k<n
  ·obtain ⟨b,o,rfl,hb0,hA0⟩:=H.out.acc hlt
   have hA:=hA0.of_cells (w':=w1) (fun q=>B1'.out.cell (p:=⟨b,q,none⟩) hb0)
   obtain ⟨c0,c1,c2,c3,c4,c5,c6,c7⟩:=hA
   clear hA0
   obtain ⟨a',m',hv,hlt',_⟩:=I1.out.shape
   subst hv
   have hkl:=fB F id k
   by_cases hu:(F k).up=id
   ·have bu:((F k).up == id)=true:=by simp[hu]
    have HK:Hid (bZ F id (k+1)=bZ F id k++[(F k).id]):=me hu
    have HL:=aa hlt'
    have hbw:b<w1.heap.size:=Nat.lt_of_lt_of_le hb0 B1'.out.size
    clear hu hlt'
    go_wp2_with (at_builtin;refine wpList_append_own _ rfl _ _ 31 rfl w.heap.size 2 i0 (Ii Jj 0) 1 8 Tryz.underlying31 hi hz0 hz1 hz2 rfl (by decide) _ _ _ rfl (World.ownsRow.alloc I1.out _) ⟨_,0,none⟩ 1 1 [Ii Jj (F k).id] rfl rfl ?_ ?_ ?_ ?_ ?_ ?_)
    ·intro j u hj
     match j,hj with
     | 0,hj=>simp at hj;subst hj;simp[Addr.add,go_sem]
    ·intro u hu;simp at hu;subst hu;rfl
    ·unfold maxLen;omega
    ·omega
    ·have:=B1'.out.size;simp;omega
    ·intro v' w2 hown hgrow _
     have I2:Hid (IL w2 w.heap.size v' (bZ F id (k+1))):=by
      have e:bZ F id (k+1)=bZ F id k++[(F k).id]:=HK.out
      show IL w2 w.heap.size v' (bZ F id (k+1))
      rw[e]
      unfold IL
      simpa using hown
     have B2:Hid (Below w.heap.size w w2):=(B1'.out.alloc B1'.out.size _).grown hgrow (by have:=B1'.out.size;simp;omega) (fun q hq=>(HL.out q hq).1)
     clear hown hgrow
     go_wp2
     go_roundw
     case rel=>exact ⟨k+1,by omega,by go_num,I2,B2⟩
     case measure=>simp[intOf];omega
   ·have bu:((F k).up == id)=false:=by simp[hu]
    have I2:Hid (IL w1 w.heap.size (Sl a' (bZ F id k).length m') (bZ F id (k+1))):=by
     show IL w1 w.heap.size _ (bZ F id (k+1))
     rw[ky hu];exact I1.out
    clear hu hlt'
    go_wp2
    go_roundw
    case rel=>exact ⟨k+1,by omega,by go_num,I2,B1'⟩
    case measure=>simp[intOf];omega
  ·have hkn:k=n:=by omega
   subst hkn
   have hd:decide (k<k)=false:=by simp
   go_wp2
   go_ret
   exact ⟨_,rfl,I1.out,B1'.out⟩
theorem l8 (a:Option Addr) (n c:Nat) (F:Nat->aj) (id:Int) (w:World) (h:Fo w a n F) (hR:al F n):
  Calls Pg 17 #[Sl a n c,Ii Jj id] w fun e w'=>∃v,e=.returned v/\IL w' w.heap.size v (bZ F id n)/\Below w.heap.size w w':=by
 have H:=aa h
 have HR:=aa hR
 have hn:=hR.1
 clear h hR
 obtain ⟨i0,hi,hz0,hz1,hz2⟩:=info_parts kx
 go_enter Tryz.func17,Tryz.ntmps17
 go_wp2_with fail
 refine (dt a n c F _ H.out HR.out).mono ?_
 rintro e w0 ⟨rfl,B0⟩
 have B0':=aa B0
 have I0:Hid (IL w0 w.heap.size (Sl none 0 0) []):=IL.nil w0 w.heap.size
 clear B0
 go_wp2
 go_loopw[5,13] (fun v i wr=>∃k:Nat,k<=n/\i=Ii Jj k/\Hid (IL wr w.heap.size v (bZ F id k))/\Hid (Below w.heap.size w wr)) (fun _ i _=>n-(intOf i).toNat)
 case atStart=>exact ⟨0,Nat.zero_le _,rfl,I0,B0'⟩
 case round=>
  obtain ⟨k,hk,rfl,I1,B1'⟩:=hrel
  clear I0 B0'
  by_cases hlt:k<n
  ·obtain ⟨b,o,rfl,hb0,hA0⟩:=H.out.acc hlt
   have hA:=hA0.of_cells (w':=wr) (fun q=>B1'.out.cell (p:=⟨b,q,none⟩) hb0)
   obtain ⟨c0,c1,c2,c3,c4,c5,c6,c7⟩:=hA
   clear hA0
   obtain ⟨a',m',hv,hlt',_⟩:=I1.out.shape
   subst hv
   have hkl:=fB F id k
   have IA:Hid (∀x,IL (wr.alloc x) w.heap.size (Sl a' (bZ F id k).length m') (bZ F id k)):=fun x=>World.ownsRow.alloc I1.out x
   have BA:Hid (∀x,Below w.heap.size w (wr.alloc x)):=fun x=>B1'.out.alloc B1'.out.size x
   by_cases hu:(F k).up=id
   ·have bu:((F k).up == id)=true:=by simp[hu]
    have HK:Hid (bZ F id (k+1)=bZ F id k++[(F k).id]):=me hu
    have HL:=aa hlt'
    clear hu hlt'
    go_wp2_with (at_builtin;refine wpList_append_own _ rfl _ _ 31 rfl w.heap.size 2 i0 (Ii Jj 0) 1 8 Tryz.underlying31 hi hz0 hz1 hz2 rfl (by decide) _ _ _ rfl (World.ownsRow.alloc (IA.out _) _) ⟨_,0,none⟩ 1 1 [Ii Jj (F k).id] rfl rfl ?_ ?_ ?_ ?_ ?_ ?_)
    ·intro j u hj
     match j,hj with
     | 0,hj=>simp at hj;subst hj;simp[Addr.add,go_sem]
    ·intro u hu;simp at hu;subst hu;rfl
    ·unfold maxLen;omega
    ·omega
    ·have:=B1'.out.size;simp;omega
    ·intro v' w2 hown hgrow _
     have I2:Hid (IL w2 w.heap.size v' (bZ F id (k+1))):=by
      have e:bZ F id (k+1)=bZ F id k++[(F k).id]:=HK.out
      show IL w2 w.heap.size v' (bZ F id (k+1))
      rw[e]
      unfold IL
      simpa using hown
     have B2:Hid (Below w.heap.size w w2):=((BA.out _).alloc (BA.out _).size _).grown hgrow (by have:=B1'.out.size;simp;omega) (fun q hq=>(HL.out q hq).1)
     clear hown hgrow
     go_wp2
     go_roundw
     case rel=>exact ⟨k+1,by omega,by go_num,I2,B2⟩
     case measure=>simp[intOf];omega
   ·have bu:((F k).up == id)=false:=by simp[hu]
    have I2:Hid (∀x,IL (wr.alloc x) w.heap.size (Sl a' (bZ F id k).length m') (bZ F id (k+1))):=fun x=>by
     rw[ky hu];exact IA.out x
    clear hu hlt'
    go_wp2
    go_roundw
    case rel=>exact ⟨k+1,by omega,by go_num,I2.out _,BA.out _⟩
    case measure=>simp[intOf];omega
  ·have hkn:k=n:=by omega
   subst hkn
   go_wp2
   go_ret
   exact ⟨_,rfl,I1.out,B1'.out⟩
open Go.RowKit
def ab (a:aj):List Value:=[Ii Jj a.id,Ii Jj a.up,Ii Jj a.limit,Ii Jj a.rate,Ii Jj a.target,.bool a.frozen,Ii Jj a.balance,Ii Jj a.carry]
def AL (w:World) (B:Nat) (v:Value) (l:List aj):Prop:=w.ownsRow B 30 8 v l.length (l.flatMap ab)
theorem aZ (l:List aj):(l.flatMap ab).length=l.length*8:=by
 induction l with
 | nil=>rfl
 | cons a l ih=>simp only[List.flatMap_cons,List.length_append,ih,List.length_cons,ab,List.length_nil];omega
theorem fC (l:List aj):∀(i j:Nat) (hi:i<l.length) (_:j<8),(l.flatMap ab)[i*8+j]? =(ab l[i])[j]? :=by
 induction l with
 | nil=>intro i j hi;simp at hi
 | cons a l ih=>
  intro i j hi hj
  rw[List.flatMap_cons]
  cases i with
  | zero=>
   rw[List.getElem?_append_left (by simp[ab];omega)]
   simp
  | succ i=>
   have hl:(ab a).length=8:=rfl
   rw[List.getElem?_append_right (by rw[hl];omega),hl]
   have e:(i+1)*8+j-8=i*8+j:=by omega
   rw[e,ih i j (by simpa using hi) hj]
   simp
theorem AL.kept {w w':World} {B:Nat} {v:Value} {l:List aj} (h:AL w B v l) (hb:Below w.heap.size w w'):AL w' B v l:=
 World.ownsRow.kept (row:=none) h ⟨hb.os,hb.tape,hb.output,hb.size,fun k hk _=>hb.block k hk⟩ (by cases hv:v.ownBlock <;>simp)
theorem AL.shape {w:World} {B:Nat} {v:Value} {l:List aj} (h:AL w B v l):
  ∃a cap,v=Sl a l.length cap/\(∀g,v.ownBlock=some g->B<=g/\g<w.heap.size)/\
   ∀i (hi:i<l.length),∃g,a=some ⟨g,0,none⟩/\B<=g/\g<w.heap.size/\dS w g (i*8) l[i]:=by
 have hlt:=World.ownsRow.lt h
 rcases h.2 with ⟨hv,hn⟩|⟨g,cap,cur,hv,hg,r⟩
 ·refine ⟨none,0,by rw[hv,hn],fun g hg=>hlt g hg,fun i hi=>?_⟩
  omega
 ·refine ⟨some ⟨g,0,none⟩,cap,hv,fun g hg=>hlt g hg,fun i hi=>?_⟩
  have ho:v.ownBlock=some g:=by rw[hv];rfl
  have hs:w.ownsRow B 30 8 (Sl (some ⟨g,0,none⟩) l.length cap) l.length (l.flatMap ab):=by rw[←hv];exact h
  have hc:∀j,j<8->w.cell? ⟨g,i*8+j,none⟩=(ab l[i])[j]? :=fun j hj=>by
   rw[World.ownsRow.cellAt hs (i*8+j) (by omega),fC l i j hi hj]
  exact ⟨g,rfl,hg,(hlt g ho).2,hc 0 (by omega),hc 1 (by omega),hc 2 (by omega),hc 3 (by omega),hc 4 (by omega),hc 5 (by omega),hc 6 (by omega),hc 7 (by omega)⟩
theorem al.id_pos {F:Nat->aj} {n:Nat} (h:al F n) {j:Nat} (hj:j<n):1<=(F j).id:=(h.2.1 j hj).1.1
theorem oh {F:Nat->aj} {n m:Nat} {cur:Int} {j:Nat} (h0:cur≠0) (hp:ao F n cur=some j) (hs:(aD F n m cur).isSome=true):∃m',m=m'+1/\aD F n m cur=(aD F n m' (F j).up).map (cur:: ·):=by
 cases m with
 | zero=>simp[aD,h0] at hs
 | succ m'=>exact ⟨m',rfl,by simp[aD,h0,hp]⟩
theorem gI (a:Option Addr) (n c:Nat) (F:Nat->aj) (id:Int) (l:List Int) (w:World) (h:Fo w a n F) (hR:al F n) (hl:aD F n n id=some l):
  Calls Pg 240 #[Sl a n c,Ii Jj id] w fun e w'=>∃v P,e=.returned v/\AL w' w.heap.size v P/\P.map (·.id)=l/\P.length<=n/\(∀x,x ∈ P->∃j,j<n/\x=F j)/\Below w.heap.size w w':=by
 have H:=aa h
 have HR:=aa hR
 have HL:=aa hl
 have hn:=hR.1
 clear h hR hl
 obtain ⟨i0,hi,hz0,hz1,hz2⟩:=info_parts dq
 go_enter Tryz.func240,Tryz.ntmps240
 go_wp2_with fail
 refine (dp a n c F id _ H.out).mono ?_
 rintro e w0 ⟨rfl,B0⟩
 have B0':=aa B0
 have A0:Hid (AL w0 w.heap.size (Sl none 0 0) []):=World.ownsRow_nil w0 w.heap.size 30 8
 clear B0
 go_wp2
 go_loopw[5,6] (fun v t wr=>∃(P:List aj) (cur:Int),t=Ii Jj (aK F n cur)/\jc v=P.length/\P.length<=n/\Hid (aD F n n id=(aD F n (n-P.length) cur).map (P.map (·.id)++ ·))/\Hid (AL wr w.heap.size v P)/\Hid (∀x,x ∈ P->∃j,j<n/\x=F j)/\Hid (Below w.heap.size w wr)) (fun v _ _=>n+1-jc v)
 case atStart=>
  refine ⟨[],id,rfl,rfl,Nat.zero_le _,?_,A0,fun x hx=>absurd hx (by simp),B0'⟩
  exact (by simp:aD F n n id=(aD F n (n-0) id).map ([]++ ·))
 case round=>
  obtain ⟨P,cur,rfl,hlen,hpn,hch,hA,hIn,hB⟩:=hrel
  clear A0 B0'
  rcases i6 (F:=F) (n:=n) (id:=cur) with ⟨hp,hpi⟩|⟨i,hp,hin,hpi⟩
  ·rw[hpi]
   have hc0:cur=0:=by
    by_cases e:cur=0
    ·exact e
    ·have:=hch.out
     rw[jd _ _ _ _ e hp,HL.out] at this
     simp at this
   have E:Hid (P.map (·.id)=l):=by
    have:=hch.out
    rw[hc0,gr,HL.out] at this
    simp at this
    exact this.symm
   clear hp hpi hc0
   go_wp2
   go_ret
   exact ⟨_,P,rfl,hA.out,E.out,hpn,hIn.out,hB.out⟩
  ·rw[hpi]
   have hid:=(ar hp).2
   have hc0:cur≠0:=by have:=HR.out.id_pos hin;omega
   have hsome:(aD F n (n-P.length) cur).isSome=true:=by
    have:=hch.out
    rw[HL.out] at this
    cases hq:aD F n (n-P.length) cur with
    | none=>rw[hq] at this;simp at this
    | some x=>rfl
   obtain ⟨m',hm',hst⟩:=oh hc0 hp hsome
   have hplt:P.length<n:=by omega
   have E:Hid (aD F n n id=(aD F n (n-(P++[F i]).length) (F i).up).map ((P++[F i]).map (·.id)++ ·)):=by
    have e1:n-(P++[F i]).length=m':=by simp;omega
    have e2:aD F n n id=(aD F n (n-(P++[F i]).length) (F i).up).map ((P++[F i]).map (·.id)++ ·):=by
     rw[hch.out,hst,e1,Option.map_map]
     congr 1
     funext x
     simp[hid]
    exact e2
   have IN:Hid (∀x,x ∈ P++[F i]->∃j,j<n/\x=F j):=fun x hx=>by
    rcases List.mem_append.1 hx with e|e
    ·exact hIn.out x e
    ·exact ⟨i,hin,by simpa using e⟩
   obtain ⟨b,o,rfl,hb0,hAc0⟩:=H.out.acc hin
   have hb:b<wr.heap.size:=Nat.lt_of_lt_of_le hb0 hB.out.size
   have hAc:=hAc0.of_cells (w':=wr) (fun q=>hB.out.cell (p:=⟨b,q,none⟩) hb0)
   clear hAc0
   have HAc:=aa hAc
   obtain ⟨c0,c1,c2,c3,c4,c5,c6,c7⟩:=hAc
   obtain ⟨a',m1,hv,hlt',_⟩:=hA.out.shape
   subst hv
   have HLT:=aa hlt'
   clear hp hpi hc0 hsome hst hm' hid hlt'
   go_wp2_with (at_builtin;refine wpList_append_own _ rfl _ _ 24 rfl w.heap.size 30 i0 _ 8 64 Tryz.underlying24 hi hz0 hz1 hz2 rfl (by decide) _ _ _ rfl (World.ownsRow.alloc hA.out _) ⟨_,0,none⟩ 1 1 (ab (F i)) rfl rfl ?_ ?_ ?_ ?_ ?_ ?_)
   ·intro j u hj
    have hj8:j<8:=by
     by_cases e:j<8
     ·exact e
     ·rw[List.getElem?_eq_none (by simp[ab];omega)] at hj;cases hj
    have hcase:j=0\/j=1\/j=2\/j=3\/j=4\/j=5\/j=6\/j=7:=by omega
    rcases hcase with e|e|e|e|e|e|e|e <;>subst e <;>simp[ab] at hj <;>subst hj <;>simp[Addr.add,go_sem]
   ·intro u hu
    simp only[ab,List.mem_cons,List.not_mem_nil,or_false] at hu
    rcases hu with e|e|e|e|e|e|e|e <;>subst e <;>rfl
   ·unfold maxLen;omega
   ·omega
   ·have:=hB.out.size;simp;omega
   ·intro v' w2 hown hgrow hnn
    have A2:Hid (AL w2 w.heap.size v' (P++[F i])):=by
     show AL w2 w.heap.size v' (P++[F i])
     unfold AL
     simpa using hown
    have B2:Hid (Below w.heap.size w w2):=(hB.out.alloc hB.out.size _).grown hgrow (by have:=hB.out.size;simp;omega) (fun q hq=>(HLT.out q hq).1)
    obtain ⟨a2,m2,hv2,_,_⟩:=A2.out.shape
    subst hv2
    have hA2:dS w2 b (o+i*8) (F i):=by
     refine HAc.out.of_cells (fun q=>World.cell?_of_block (w:=wr) ?_)
     show w2.heap[b]? =wr.heap[b]?
     rw[hgrow.block b (by simp;omega) (fun e=>by have:=(HLT.out b e.symm).1;omega),Below.heap_alloc _ _ _ hb]
    clear c0 c1 c2 c3 c4 c5 c6 c7
    obtain ⟨c0,c1,c2,c3,c4,c5,c6,c7⟩:=hA2
    clear hown hgrow hnn hA HLT
    go_wp2_with fail
    refine (dp _ n c F (F i).up _ (H.out.below B2.out)).mono ?_
    rintro e w3 ⟨rfl,B3⟩
    have A3:=aa (A2.out.kept B3)
    have B3':=aa (B2.out.trans (B3.mono B2.out.size))
    clear B3 A2 B2 c0 c1 c2 c3 c4 c5 c6 c7
    go_wp2
    go_roundw
    case rel=>exact ⟨P++[F i],(F i).up,rfl,by simp[jc],by simp;omega,E,(by have t:=A3.out;rw[List.length_append] at t;exact t),IN,B3'⟩
    case measure=>simp[jc];omega
theorem ld (a:Option Addr) (n c:Nat) (F:Nat->aj) (id:Int) (l:List Int) (w:World) (h:Fo w a n F) (hR:al F n) (hl:aD F n n id=some l):
  Calls Pg 240 #[Sl a n c,Ii Jj id] w fun e w'=>∃v P,e=.returned v/\AL w' w.heap.size v P/\P.map (·.id)=l/\P.length<=n/\Below w.heap.size w w':=
 (gI a n c F id l w h hR hl).mono fun _ _ ⟨v,P,a1,a2,a3,a4,_,a5⟩=>⟨v,P,a1,a2,a3,a4,a5⟩
open Go.RowKit
theorem kz (F:Nat->aj) (n:Nat):∀(m:Nat) (id:Int) (l:List Int),aD F n m id=some l->l.length<=m
 | 0,id,l,h=>by
  by_cases h0:id=0
  ·simp[aD,h0] at h;simp[h]
  ·simp[aD,h0] at h
 | m+1,id,l,h=>by
  by_cases h0:id=0
  ·simp[aD,h0] at h;simp[h]
  ·simp only[aD,if_neg h0] at h
   cases hp:ao F n id with
   | none=>rw[hp] at h;cases h
   | some i=>
    rw[hp] at h
    simp only[Option.map_eq_some_iff] at h
    obtain ⟨l',h1,rfl⟩:=h
    have:=kz F n m _ l' h1
    simp
    exact this
theorem gt (F:Nat->aj) (n:Nat):∀(m m':Nat) (x:Int) (l:List Int),m<=m'->aD F n m x=some l->aD F n m' x=some l
 | 0,m',x,l,_,h=>by
  by_cases h0:x=0
  ·subst h0
   cases m' <;>simpa [aD] using h
  ·simp[aD,h0] at h
 | m+1,0,x,l,hm,_=>by omega
 | m+1,m'+1,x,l,hm,h=>by
  by_cases h0:x=0
  ·subst h0;simpa [aD] using h
  ·simp only[aD,if_neg h0] at h ⊢
   cases hp:ao F n x with
   | none=>rw[hp] at h;cases h
   | some i=>
    rw[hp] at h
    simp only[Option.map_eq_some_iff] at h ⊢
    obtain ⟨l',h1,h2⟩:=h
    exact ⟨l',gt F n m m' _ l' (by omega) h1,h2⟩
theorem gJ (F:Nat->aj) (n:Nat):∀(m:Nat) (x y:Int) (l:List Int),m<=n->aD F n m x=some l->y ∈ l->∃l',aD F n n y=some l'/\l'.length<=l.length
 | 0,x,y,l,_,h,hy=>by
  by_cases h0:x=0
  ·simp[aD,h0] at h;subst h;cases hy
  ·simp[aD,h0] at h
 | m+1,x,y,l,hm,h,hy=>by
  by_cases h0:x=0
  ·simp[aD,h0] at h;subst h;cases hy
  ·by_cases e:y=x
   ·subst e
    exact ⟨l,gt F n (m+1) n y l hm h,Nf _⟩
   ·simp only[aD,if_neg h0] at h
    cases hp:ao F n x with
    | none=>rw[hp] at h;cases h
    | some i=>
     rw[hp] at h
     simp only[Option.map_eq_some_iff] at h
     obtain ⟨l1,h1,rfl⟩:=h
     have hy1:y ∈ l1:=by
      rcases List.mem_cons.1 hy with e'|e'
      ·exact absurd e' e
      ·exact e'
     obtain ⟨l',a,b⟩:=gJ F n m _ y l1 (by omega) h1 hy1
     exact ⟨l',a,by simp;omega⟩
def aB (F:Nat->aj) (n j:Nat):List Int:=(aD F n n (F j).id).getD []
section
variable {F:Nat->aj} {n:Nat}
theorem al.id1 (h:al F n) {j:Nat} (hj:j<n):1<=(F j).id:=(h.2.1 j hj).1.1
theorem al.path (h:al F n) {j:Nat} (hj:j<n):aD F n n (F j).id=some (aB F n j):=by
 obtain ⟨l,hl⟩:=Option.isSome_iff_exists.1 (h.2.2.2 j hj)
 simp[aB,hl]
theorem al.inj (h:al F n) {i j:Nat} (hi:i<n) (hj:j<n) (e:(F i).id=(F j).id):i=j:=by
 have a:=bL h.2.2.1 hi
 have b:=bL h.2.2.1 hj
 rw[e,b] at a
 exact (Option.some.inj a).symm
theorem al.path_root (h:al F n) {j:Nat} (hj:j<n) (hu:(F j).up=0):aB F n j=[(F j).id]:=by
 have hp:=h.path hj
 have h1:=h.id1 hj
 cases n with
 | zero=>omega
 | succ m=>
  simp only[aD,if_neg (show (F j).id≠0 by omega),bL h.2.2.1 hj,hu] at hp
  have e:aD F (m+1) m 0=some []:=by cases m <;>simp[aD]
  rw[e] at hp
  simpa using hp.symm
theorem al.path_up (h:al F n) {j:Nat} (hj:j<n) (hu:(F j).up≠0):∃p,p<n/\(F p).id=(F j).up/\aB F n j=(F j).id::aB F n p:=by
 have hp:=h.path hj
 have h1:=h.id1 hj
 cases n with
 | zero=>omega
 | succ m=>
  simp only[aD,if_neg (show (F j).id≠0 by omega),bL h.2.2.1 hj,Option.map_eq_some_iff] at hp
  obtain ⟨l1,h2,h3⟩:=hp
  have hpl:∃p,ao F (m+1) (F j).up=some p:=by
   cases hq:ao F (m+1) (F j).up with
   | some p=>exact ⟨p,rfl⟩
   | none=>
    cases m <;>simp[aD,hu,hq] at h2
  obtain ⟨p,hq⟩:=hpl
  obtain ⟨hpn,hid⟩:=ar hq
  have h4:=gt F (m+1) m (m+1) _ l1 (by omega) h2
  rw[←hid,h.path hpn] at h4
  exact ⟨p,hpn,hid,by rw[←h3,←Option.some.inj h4]⟩
theorem al.not_mem (h:al F n) {j p:Nat} (hj:j<n) (hp:p<n) (e:aB F n j=(F j).id::aB F n p):(F j).id ∉ aB F n p:=by
 intro hm
 obtain ⟨l',a,b⟩:=gJ F n n _ _ _ (Nf _) (h.path hp) hm
 rw[h.path hj] at a
 rw[←Option.some.inj a,e] at b
 simp at b
 omega
def on (F:Nat->aj) (n i j:Nat):Int:=if (F i).id ∈ aB F n j then 1 else 0
theorem pA (h:al F n) {i j:Nat} (hi:i<n) (hj:j<n) (hu:(F j).up=0):on F n i j=if i=j then 1 else 0:=by
 unfold on
 rw[h.path_root hj hu]
 by_cases e:i=j
 ·subst e;simp
 ·rw[if_neg e,if_neg]
  simp only[List.mem_singleton]
  exact fun e'=>e (h.inj hi hj e')
theorem sV (h:al F n) {i j p:Nat} (hi:i<n) (hj:j<n) (hp:p<n) (e:aB F n j=(F j).id::aB F n p):on F n i j=(if i=j then 1 else 0)+on F n i p:=by
 unfold on
 rw[e]
 by_cases eij:i=j
 ·subst eij
  have:=h.not_mem hj hp e
  simp[this]
 ·have:(F i).id≠(F j).id:=fun e'=>eij (h.inj hi hj e')
  simp[eij,this]
end
def aX (f:Nat->Int):Nat->Int
 | 0=>0
 | k+1=>aX f k+f k
theorem dw {f g:Nat->Int}:∀{n:Nat},(∀k,k<n->f k=g k)->aX f n=aX g n
 | 0,_=>rfl
 | n+1,h=>by simp only[aX];rw[dw (fun k hk=>h k (by omega)),h n (by omega)]
theorem fQ (f g:Nat->Int):∀n,aX (fun k=>f k+g k) n=aX f n+aX g n
 | 0=>rfl
 | n+1=>by simp only[aX];rw[fQ f g n];omega
theorem fe:∀n,aX (fun _=>0) n=0
 | 0=>rfl
 | n+1=>by simp only[aX];rw[fe n];rfl
theorem kA (f:Nat->Int) (x:Int):∀n,aX (fun k=>f k*x) n=aX f n*x
 | 0=>by simp[aX]
 | n+1=>by simp only[aX];rw[kA f x n,Int.add_mul]
theorem ff (x:Int) (j:Nat):∀n,aX (fun k=>if k=j then x else 0) n=if j<n then x else 0
 | 0=>by simp[aX]
 | n+1=>by
  simp only[aX]
  rw[ff x j n]
  by_cases h1:j<n
  ·rw[if_pos h1,if_neg (by omega),if_pos (by omega)];omega
  ·by_cases h2:n=j
   ·rw[if_neg h1,if_pos h2,if_pos (by omega)];omega
   ·rw[if_neg h1,if_neg h2,if_neg (by omega)];omega
theorem jf (f:Nat->Nat->Int) (m:Nat):∀n,aX (fun i=>aX (fun j=>f i j) m) n=aX (fun j=>aX (fun i=>f i j) n) m
 | 0=>by simp only[aX];rw[fe]
 | n+1=>by
  simp only[aX]
  rw[jf f m n,←fQ]
section
variable {F:Nat->aj} {n:Nat}
theorem pB (h:al F n) {i:Nat} (hi:i<n):∀(d j:Nat),j<n->(aB F n j).length<=d->on F n i j=(if j=i then 1 else 0)+aX (fun k=>if (F k).up=(F i).id then on F n k j else 0) n
 | 0,j,hj,hd=>by
  by_cases hu:(F j).up=0
  ·rw[h.path_root hj hu] at hd;simp at hd
  ·obtain ⟨p,_,_,e⟩:=h.path_up hj hu
   rw[e] at hd;simp at hd
 | d+1,j,hj,hd=>by
  have hi1:=h.id1 hi
  by_cases hu:(F j).up=0
  ·rw[pA h hi hj hu]
   have e1:aX (fun k=>if (F k).up=(F i).id then on F n k j else 0) n=0:=by
    refine (dw (g:=fun _=>0) (fun k hk=>?_)).trans (fe n)
    by_cases e:(F k).up=(F i).id
    ·rw[if_pos e,pA h hk hj hu,if_neg]
     intro e'
     subst e'
     omega
    ·rw[if_neg e]
   rw[e1]
   by_cases e:i=j
   ·rw[if_pos e,if_pos e.symm];rfl
   ·rw[if_neg e,if_neg (fun e'=>e e'.symm)];rfl
  ·obtain ⟨p,hp,hid,e⟩:=h.path_up hj hu
   have ih:=pB h hi d p hp (by rw[e] at hd;simp at hd;omega)
   rw[sV h hi hj hp e]
   have e1:aX (fun k=>if (F k).up=(F i).id then on F n k j else 0) n=(if p=i then 1 else 0)+aX (fun k=>if (F k).up=(F i).id then on F n k p else 0) n:=by
    have e2:aX (fun k=>if (F k).up=(F i).id then on F n k j else 0) n=aX (fun k=>(if k=j then (if p=i then 1 else 0) else 0)+(if (F k).up=(F i).id then on F n k p else 0)) n:=by
     refine dw (fun k hk=>?_)
     by_cases ek:(F k).up=(F i).id
     ·rw[if_pos ek,if_pos ek,sV h hk hj hp e]
      by_cases ekj:k=j
      ·subst ekj
       have hpi:p=i:=h.inj hp hi (by rw[hid,ek])
       simp[hpi]
      ·simp[ekj]
     ·rw[if_neg ek,if_neg ek]
      by_cases ekj:k=j
      ·subst ekj
       have hpi:p≠i:=fun e'=>ek (by rw[←hid,e'])
       simp[hpi]
      ·simp[ekj]
    rw[e2,fQ,ff,if_pos hj]
   rw[e1,←ih]
   by_cases eij:i=j
   ·rw[if_pos eij,if_pos eij.symm]
   ·rw[if_neg eij,if_neg (fun e'=>eij e'.symm)]
def ax (F:Nat->aj) (n i:Nat):Int:=aX (fun j=>on F n i j*(F j).balance) n
theorem mf (h:al F n) {i:Nat} (hi:i<n):ax F n i=(F i).balance+aX (fun k=>if (F k).up=(F i).id then ax F n k else 0) n:=by
 have e1:ax F n i=aX (fun j=>(if j=i then (F i).balance else 0)+aX (fun k=>if (F k).up=(F i).id then on F n k j*(F j).balance else 0) n) n:=by
  refine dw (fun j hj=>?_)
  rw[pB h hi _ j hj (Nf _),Int.add_mul,←kA]
  congr 1
  ·by_cases e:j=i
   ·subst e;simp
   ·simp[e]
  ·refine dw (fun k _=>?_)
   by_cases e:(F k).up=(F i).id
   ·simp[e]
   ·simp[e]
 rw[e1,fQ,ff,if_pos hi,jf]
 congr 1
 refine dw (fun k _=>?_)
 by_cases e:(F k).up=(F i).id
 ·simp only[if_pos e];rfl
 ·simp only[if_neg e];exact fe n
theorem tQ (F:Nat->aj) (n i j:Nat):on F n i j=0\/on F n i j=1:=by
 unfold on;split
 ·exact Or.inr rfl
 ·exact Or.inl rfl
theorem oi (h:al F n) (i:Nat):∀m,m<=n-> -(1000000000000*(m:Int))<=aX (fun j=>on F n i j*(F j).balance) m/\aX (fun j=>on F n i j*(F j).balance) m<=1000000000000*(m:Int)
 | 0,_=>by simp[aX]
 | m+1,hm=>by
  have ih:=oi h i m (by omega)
  have b:=(h.2.1 m (by omega)).2.2.2.2.2.1
  simp only[aX]
  rcases tQ F n i m with e|e
  ·rw[e];simp;omega
  ·rw[e];simp;omega
theorem dJ (h:al F n) (i:Nat): -12000000000000<=ax F n i/\ax F n i<=12000000000000:=by
 have:=oi h i n (Nf _)
 have:=h.1
 unfold ax
 omega
theorem kB (h:al F n) (x:Int):∀m,m<=n-> -(12000000000000*(m:Int))<=aX (fun k=>if (F k).up=x then ax F n k else 0) m/\aX (fun k=>if (F k).up=x then ax F n k else 0) m<=12000000000000*(m:Int)
 | 0,_=>by simp[aX]
 | m+1,hm=>by
  have ih:=kB h x m (by omega)
  have b:=dJ h m
  simp only[aX]
  split <;>omega
theorem si (h:al F n) {i k:Nat} (hi:i<n) (hk:k<n) (e:(F k).up=(F i).id):(aB F n k).length=(aB F n i).length+1:=by
 have hi1:=h.id1 hi
 obtain ⟨p,hp,hid,hpath⟩:=h.path_up hk (by omega)
 have:p=i:=h.inj hp hi (by rw[hid,e])
 subst this
 rw[hpath];simp
end
open Go.RowKit
def dv (F:Nat->aj) (n i k:Nat):Int:=aX (fun j=>if (F j).up=(F i).id then ax F n j else 0) k
theorem oj {F:Nat->aj} {n i k:Nat} (h:(F k).up=(F i).id):dv F n i (k+1)=dv F n i k+ax F n k:=by simp[dv,aX,h]
theorem mg {F:Nat->aj} {n i k:Nat} (h:(F k).up≠(F i).id):dv F n i (k+1)=dv F n i k:=by simp[dv,aX,h]
theorem eX {F:Nat->aj} {n:Nat} (h:al F n) {i:Nat} (hi:i<n):(aB F n i).length<=n:=kz F n n _ _ (h.path hi)
theorem sj (a:Option Addr) (n c bf bs:Nat) (F:Nat->aj) (hR:al F n):∀(d i:Nat) (w:World),i<n->n-(aB F n i).length<d->Fo w a n F->bf<w.heap.size->bs<w.heap.size->
  w.cell? ⟨bf,0,none⟩=some (Sl a n c)->w.cell? ⟨bs,0,none⟩=some (.func (.func 170) #[] #[.pointer (some ⟨bf,0,none⟩),.pointer (some ⟨bs,0,none⟩)])->
  Calls Pg 170 #[.agg #[Ii Jj (F i).id,Ii Jj (F i).up,Ii Jj (F i).limit,Ii Jj (F i).rate,Ii Jj (F i).target,.bool (F i).frozen,Ii Jj (F i).balance,Ii Jj (F i).carry],.pointer (some ⟨bf,0,none⟩),.pointer (some ⟨bs,0,none⟩)] w fun e w'=>e=.returned (Ii Jj (ax F n i))/\Below w.heap.size w w':=by
 intro d
 induction d with
 | zero=>intro i w hi hd;omega
 | succ d ih=>
  intro i w hi hd h hbf hbs cf cs
  have H:=aa h
  have HR:=aa hR
  have IH:Hid (∀(i:Nat) (w:World),i<n->n-(aB F n i).length<d->Fo w a n F->bf<w.heap.size->bs<w.heap.size->
  w.cell? ⟨bf,0,none⟩=some (Sl a n c)->w.cell? ⟨bs,0,none⟩=some (.func (.func 170) #[] #[.pointer (some ⟨bf,0,none⟩),.pointer (some ⟨bs,0,none⟩)])->
  Calls Pg 170 #[.agg #[Ii Jj (F i).id,Ii Jj (F i).up,Ii Jj (F i).limit,Ii Jj (F i).rate,Ii Jj (F i).target,.bool (F i).frozen,Ii Jj (F i).balance,Ii Jj (F i).carry],.pointer (some ⟨bf,0,none⟩),.pointer (some ⟨bs,0,none⟩)] w fun e w'=>e=.returned (Ii Jj (ax F n i))/\Below w.heap.size w w'):=ih
  have HD:=aa hd
  have HS:Hid (ax F n i=(F i).balance+dv F n i n):=mf hR hi
  obtain ⟨bb1,bb2⟩:=(hR.2.1 i hi).2.2.2.2.2.1
  have hn:=hR.1
  have BX:Hid (bV (w.alloc (.cells #[Ii Jj (F i).id,Ii Jj (F i).up,Ii Jj (F i).limit,Ii Jj (F i).rate,Ii Jj (F i).target,.bool (F i).frozen,Ii Jj (F i).balance,Ii Jj (F i).carry] 30)) w.heap.size (F i)):=bV.new w (F i) 30
  clear h ih hd
  go_enter Tryz.func170,Tryz.ntmps170
  go_wp2
  go_loopw[5,12] (fun t q wr=>∃k:Nat,k<=n/\q=Ii Jj k/\t=Ii Jj ((F i).balance+dv F n i k)/\Hid (bV wr w.heap.size (F i))/\Hid (Below w.heap.size w wr)) (fun _ q _=>n-(intOf q).toNat)
  case atStart=>exact ⟨0,Nat.zero_le _,rfl,by simp[dv,aX],BX,(Bf _ _).alloc (Nf _) _⟩
  case round=>
   obtain ⟨k,hk,rfl,rfl,hX,hB⟩:=hrel
   clear BX
   obtain ⟨kb1,kb2⟩: -(12000000000000*(k:Int))<=dv F n i k/\dv F n i k<=12000000000000*(k:Int):=kB HR.out (F i).id k hk
   by_cases hlt:k<n
   ·obtain ⟨b,o,rfl,hb0,hA0⟩:=H.out.acc hlt
    have hA:=hA0.of_cells (w':=wr) (fun q=>hB.out.cell (p:=⟨b,q,none⟩) hb0)
    obtain ⟨c0,c1,c2,c3,c4,c5,c6,c7⟩:=hA
    clear hA0
    have cf1:wr.cell? ⟨bf,0,none⟩=some (Sl (some ⟨b,o,none⟩) n c):=by rw[hB.out.cell (p:=⟨bf,0,none⟩) hbf];exact cf
    have cs1:wr.cell? ⟨bs,0,none⟩=some (.func (.func 170) #[] #[.pointer (some ⟨bf,0,none⟩),.pointer (some ⟨bs,0,none⟩)]):=by rw[hB.out.cell (p:=⟨bs,0,none⟩) hbs];exact cs
    obtain ⟨⟨b0,b1,b2,b3,b4,b5,b6,b7⟩,_,hz⟩:=hX.out
    have hbf1:bf<wr.heap.size:=by omega
    have hbs1:bs<wr.heap.size:=by omega
    clear b1 b2 b3 b4 b5 b6 b7
    by_cases hu:(F k).up=(F i).id
    ·have bu:((F k).up == (F i).id)=true:=by simp[hu]
     have HK:Hid (dv F n i (k+1)=dv F n i k+ax F n k):=oj hu
     have HD':Hid (n-(aB F n k).length<d):=by
      have e1:=si HR.out hi hlt hu
      have e2:=eX HR.out hlt
      have e3:=HD.out
      exact (by omega:n-(aB F n k).length<d)
     obtain ⟨sb1,sb2⟩:=dJ HR.out k
     clear hu
     have HF:Hid (∀x:Obj,Fo (wr.alloc x) (some ⟨b,o,none⟩) n F):=fun x=>(H.out.below hB.out).alloc x
     have CF:Hid (∀x:Obj,(wr.alloc x).cell? ⟨bf,0,none⟩=some (Sl (some ⟨b,o,none⟩) n c)):=fun x=>by rw[World.cell?_alloc_lt _ _ _ (by exact hbf1)];exact cf1
     have CS:Hid (∀x:Obj,(wr.alloc x).cell? ⟨bs,0,none⟩=some (.func (.func 170) #[] #[.pointer (some ⟨bf,0,none⟩),.pointer (some ⟨bs,0,none⟩)])):=fun x=>by rw[World.cell?_alloc_lt _ _ _ (by exact hbs1)];exact cs1
     go_wp2_with fail
     refine (IH.out k _ hlt HD'.out (HF.out _) (by simp;omega) (by simp;omega) (CF.out _) (CS.out _)).mono ?_
     rintro e w1 ⟨rfl,B1⟩
     have X1:Hid (bV w1 w.heap.size (F i)):=(hX.out.below ((Bf _ _).alloc (Nf _) _)).below B1
     have B1':Hid (Below w.heap.size w w1):=(hB.out.alloc hB.out.size _).trans (B1.mono (by have:=hB.out.size;simp;omega))
     clear B1
     go_wp2
     go_roundw
     case rel=>exact ⟨k+1,by omega,by go_num,by rw[HK.out];go_num,X1,B1'⟩
     case measure=>simp[intOf];omega
    ·have bu:((F k).up == (F i).id)=false:=by simp[hu]
     have HK:Hid (dv F n i (k+1)=dv F n i k):=mg hu
     have XA:Hid (∀x:Obj,bV (wr.alloc x) w.heap.size (F i)):=fun x=>hX.out.below ((Bf _ _).alloc (Nf _) _)
     clear hu
     go_wp2
     go_roundw
     case rel=>exact ⟨k+1,by omega,by go_num,by rw[HK.out],XA.out _,hB.out.alloc hB.out.size _⟩
     case measure=>simp[intOf];omega
   ·have hkn:k=n:=by omega
    subst hkn
    go_wp2
    go_ret
    rw[HS.out]
    exact ⟨rfl,hB.out⟩
theorem eJ (a:Option Addr) (n c:Nat) (F:Nat->aj) (i:Nat) (w:World) (h:Fo w a n F) (hR:al F n) (hi:i<n):
  Calls Pg 151 #[Sl a n c,.agg #[Ii Jj (F i).id,Ii Jj (F i).up,Ii Jj (F i).limit,Ii Jj (F i).rate,Ii Jj (F i).target,.bool (F i).frozen,Ii Jj (F i).balance,Ii Jj (F i).carry]] w fun e w'=>e=.returned (Ii Jj (ax F n i))/\Below w.heap.size w w':=by
 have H:=aa h
 have HR:=aa hR
 clear h hR
 have hmf:∀(fn:Fn) (first cap:Array Value) (w:World),(Instr.makeFunc fn first cap).run Pg w=.ok (.func fn first cap) w:=fun _ _ _ _=>rfl
 go_enter Tryz.func151,Tryz.ntmps151
 go_wp2_with fail
 refine (sj a n c w.heap.size (w.heap.size+1+1) F HR.out (n+1) i _ hi (by omega) (((H.out.alloc _).alloc _).alloc _) (by simp;omega) (by simp) ?_ ?_).mono ?_
 ·simp[go_sem]
 ·simp[go_sem]
 rintro e w1 ⟨rfl,B1⟩
 have B1':Hid (Below w.heap.size w w1):=((((Bf _ _).alloc (Nf _) _).alloc (by simp) _).alloc (by simp;omega) _).trans (B1.mono (by simp;omega))
 clear B1
 go_wp2
 go_ret
 exact ⟨rfl,B1'.out⟩
open Go.RowKit
theorem mh {l:List Int} {k:Nat} (h:k<l.length):l.getD k 0 ∈ l:=by
 simp[List.getD,List.getElem?_eq_getElem h]
theorem qP {l:List Int} {x:Int} (h:x ∈ l):∃k,k<l.length/\l.getD k 0=x:=by
 obtain ⟨k,hk,e⟩:=List.getElem_of_mem h
 exact ⟨k,hk,by simp[List.getD,List.getElem?_eq_getElem hk,e]⟩
theorem bI (B:Nat) (v:Value) (l:List Int) (x:Int) (w:World) (hl:l.length<=1048576) (h:IL w B v l) (hx:x ∈ l):
  Calls Pg 164 #[v,Ii Jj x] w fun e w'=>e=.returned (.bool true)/\w'=w:=by
 obtain ⟨a,m,rfl,_,s⟩:=h.shape
 have S:Hid (∀i,i<l.length->∃g,a=some ⟨g,0,none⟩/\w.cell? ⟨g,i,none⟩=some (Ii Jj (l.getD i 0))):=fun i hi=>by obtain ⟨g,e,_,_,_,hc,_⟩:=s i hi;exact ⟨g,e,hc⟩
 have HX:Hid (∃k,k<l.length/\l.getD k 0=x):=qP hx
 clear s h hx
 generalize hn:l.length=n at*
 go_enter Tryz.func164,Tryz.ntmps164
 go_wp2
 go_loop [5] (fun i=>∃k:Nat,k<=n/\i=Ii Jj k/\Hid (∀j,j<k->l.getD j 0≠x)) (fun i=>n-(intOf i).toNat)
 case atStart=>exact ⟨0,Nat.zero_le _,rfl,fun j hj=>absurd hj (Nat.not_lt_zero _)⟩
 case round=>
  obtain ⟨k,hk,rfl,hno⟩:=hrel
  by_cases hlt:k<n
  ·obtain ⟨g,rfl,c0⟩:=S.out k hlt
   by_cases hid:l.getD k 0=x
   ·rw[hid] at c0
    clear hid
    go_wp2
    go_ret
    exact ⟨rfl,rfl⟩
   ·have hb:(l.getD k 0 == x)=false:=beq_eq_false_iff_ne.2 hid
    have NX:Hid (∀j,j<k+1->l.getD j 0≠x):=fun j hj=>by
     by_cases e:j=k
     ·rw[e];exact hid
     ·exact hno.out j (by omega)
    clear hid
    generalize l.getD k 0=z at c0 hb
    go_wp2
    go_round
    case rel=>exact ⟨k+1,by omega,by go_num,NX⟩
    case measure=>simp[intOf];omega
  ·obtain ⟨q,hq,e⟩:=HX.out
   exact absurd e (hno.out q (by omega))
theorem cB (B:Nat) (v:Value) (l:List Int) (x:Int) (w:World) (hl:l.length<=1048576) (h:IL w B v l) (hx:x ∉ l):
  Calls Pg 164 #[v,Ii Jj x] w fun e w'=>e=.returned (.bool false)/\w'=w:=by
 obtain ⟨a,m,rfl,_,s⟩:=h.shape
 have S:Hid (∀i,i<l.length->∃g,a=some ⟨g,0,none⟩/\w.cell? ⟨g,i,none⟩=some (Ii Jj (l.getD i 0))):=fun i hi=>by obtain ⟨g,e,_,_,_,hc,_⟩:=s i hi;exact ⟨g,e,hc⟩
 have HX:Hid (∀k,k<l.length->l.getD k 0≠x):=fun k hk e=>hx (e ▸ mh hk)
 clear s h hx
 generalize hn:l.length=n at*
 go_enter Tryz.func164,Tryz.ntmps164
 go_wp2
 go_loop [5] (fun i=>∃k:Nat,k<=n/\i=Ii Jj k) (fun i=>n-(intOf i).toNat)
 case atStart=>exact ⟨0,Nat.zero_le _,rfl⟩
 case round=>
  obtain ⟨k,hk,rfl⟩:=hrel
  by_cases hlt:k<n
  ·obtain ⟨g,rfl,c0⟩:=S.out k hlt
   have hb:(l.getD k 0 == x)=false:=beq_eq_false_iff_ne.2 (HX.out k hlt)
   generalize l.getD k 0=z at c0 hb
   go_wp2
   go_round
   case rel=>exact ⟨k+1,by omega,by go_num⟩
   case measure=>simp[intOf];omega
  ·go_wp2
   go_ret
   exact ⟨rfl,rfl⟩
theorem cX (a:Option Addr) (n c:Nat) (F:Nat->aj) (j:Nat) (w:World) (h:Fo w a n F) (hR:al F n) (hj:j<n):
  Calls Pg 62 #[Sl a n c,Ii Jj (F j).id] w fun e w'=>∃v,e=.returned (.tuple #[v,.bool true])/\IL w' w.heap.size v (aB F n j)/\Below w.heap.size w w':=
 (md a n c F (F j).id w h).mono fun e w' ⟨B,hc⟩=>by
  rcases hc with ⟨hno,_⟩|⟨l,v,hl,he,hI⟩
  ·rw[hR.path hj] at hno;cases hno
  ·rw[hR.path hj] at hl
   obtain rfl:=Option.some.inj hl
   exact ⟨v,he,hI.1,B⟩
def dK (F:Nat->aj) (n i k:Nat):Int:=aX (fun j=>on F n i j*(F j).balance) k
theorem ol {F:Nat->aj} {n i k:Nat} (h:(F i).id ∈ aB F n k):dK F n i (k+1)=dK F n i k+(F k).balance:=by
 simp[dK,aX,on,h]
theorem mj {F:Nat->aj} {n i k:Nat} (h:(F i).id ∉ aB F n k):dK F n i (k+1)=dK F n i k:=by
 simp[dK,aX,on,h]
theorem iV (a:Option Addr) (n c:Nat) (F:Nat->aj) (i:Nat) (w:World) (h:Fo w a n F) (hR:al F n) (hi:i<n):
  Calls Pg 155 #[Sl a n c,Ii Jj (F i).id] w fun e w'=>e=.returned (Ii Jj (ax F n i))/\Below w.heap.size w w':=by
 have H:=aa h
 have HR:=aa hR
 have hn:=hR.1
 clear h hR
 go_enter Tryz.func155,Tryz.ntmps155
 go_wp2
 go_loopw[5,6] (fun t q wr=>∃k:Nat,k<=n/\q=Ii Jj k/\t=Ii Jj (dK F n i k)/\Hid (Below w.heap.size w wr)) (fun _ q _=>n-(intOf q).toNat)
 case atStart=>exact ⟨0,Nat.zero_le _,rfl,rfl,Bf _ _⟩
 case round=>
  obtain ⟨k,hk,rfl,rfl,hB⟩:=hrel
  obtain ⟨kb1,kb2⟩: -(1000000000000*(k:Int))<=dK F n i k/\dK F n i k<=1000000000000*(k:Int):=oi HR.out i k hk
  by_cases hlt:k<n
  ·obtain ⟨b,o,rfl,hb0,hA0⟩:=H.out.acc hlt
   have hA:=hA0.of_cells (w':=wr) (fun q=>hB.out.cell (p:=⟨b,q,none⟩) hb0)
   have c0:=hA.1
   obtain ⟨bb1,bb2⟩:=(HR.out.2.1 k hlt).2.2.2.2.2.1
   clear hA
   go_wp2_with fail
   refine (cX _ n c F k _ (H.out.below hB.out) HR.out hlt).mono ?_
   rintro e w1 ⟨v,rfl,I1,B1⟩
   have B1':=aa (hB.out.trans (B1.mono hB.out.size))
   have I1':=aa I1
   have hpl:(aB F n k).length<=1048576:=by have:=eX HR.out hlt;omega
   have hA:=hA0.of_cells (w':=w1) (fun q=>B1'.out.cell (p:=⟨b,q,none⟩) hb0)
   have c6:=hA.2.2.2.2.2.2.1
   clear hA hA0 c0 B1 I1
   by_cases hm:(F i).id ∈ aB F n k
   ·have HK:Hid (dK F n i (k+1)=dK F n i k+(F k).balance):=ol hm
    have HM:=aa hm
    clear hm
    go_wp2_with fail
    refine (bI _ v _ _ _ hpl I1'.out HM.out).mono ?_
    rintro e w2 ⟨rfl,rfl⟩
    go_wp2
    go_roundw
    case rel=>exact ⟨k+1,by omega,by go_num,by rw[HK.out],B1'⟩
    case measure=>simp[intOf];omega
   ·have HK:Hid (dK F n i (k+1)=dK F n i k):=mj hm
    have HM:=aa hm
    clear hm
    go_wp2_with fail
    refine (cB _ v _ _ _ hpl I1'.out HM.out).mono ?_
    rintro e w2 ⟨rfl,rfl⟩
    go_wp2
    go_roundw
    case rel=>exact ⟨k+1,by omega,by go_num,by rw[HK.out],B1'⟩
    case measure=>simp[intOf];omega
  ·have hkn:k=n:=by omega
   subst hkn
   go_wp2
   go_ret
   exact ⟨rfl,hB.out⟩
theorem jY (a:Option Addr) (n c:Nat) (F:Nat->aj) (id:Int) (i:Nat) (w:World) (h:Fo w a n F) (hR:al F n) (hp:ao F n id=some i):
  Calls Pg 117 #[Sl a n c,Ii Jj id] w fun e w'=>e=.returned (.tuple #[Ii Jj (ax F n i),.bool true])/\Below w.heap.size w w':=by
 have H:=aa h
 have HR:=aa hR
 have HP:=aa hp
 have hin:=(ar hp).1
 clear h hR hp
 go_enter Tryz.func117,Tryz.ntmps117
 go_wp2_with fail
 refine (kZ a n c F id i _ H.out HR.out HP.out).mono ?_
 rintro e w1 ⟨rfl,B1⟩
 have B1':=aa B1
 clear B1
 go_wp2_with fail
 refine (eJ a n c F i _ ((H.out.below B1'.out).alloc _) HR.out hin).mono ?_
 rintro e w3 ⟨rfl,B3⟩
 have B3':Hid (Below w.heap.size w w3):=(B1'.out.alloc B1'.out.size _).trans (B3.mono (by have:=B1'.out.size;simp;omega))
 clear B3
 go_wp2
 go_ret2
 exact ⟨rfl,B3'.out⟩
open Go.RowKit
theorem kC (F:Nat->aj) (n:Nat):∀(m:Nat) (x y:Int) (l:List Int),aD F n m x=some l->y ∈ l->∃j,ao F n y=some j
 | 0,x,y,l,h,hy=>by
  by_cases h0:x=0
  ·simp[aD,h0] at h;subst h;cases hy
  ·simp[aD,h0] at h
 | m+1,x,y,l,h,hy=>by
  by_cases h0:x=0
  ·simp[aD,h0] at h;subst h;cases hy
  ·simp only[aD,if_neg h0] at h
   cases hp:ao F n x with
   | none=>rw[hp] at h;cases h
   | some i=>
    rw[hp] at h
    simp only[Option.map_eq_some_iff] at h
    obtain ⟨l1,h1,rfl⟩:=h
    rcases List.mem_cons.1 hy with e|e
    ·exact ⟨i,by rw[e];exact hp⟩
    ·exact kC F n m _ y l1 h1 e
section
variable {F:Nat->aj} {n:Nat}
theorem al.on_path (h:al F n) {i:Nat} (hi:i<n) {x:Int} (hx:x ∈ aB F n i):∃j,j<n/\(F j).id=x/\ao F n x=some j:=by
 obtain ⟨j,hj⟩:=kC F n n _ x _ (h.path hi) hx
 exact ⟨j,(ar hj).1,(ar hj).2,hj⟩
theorem al.has_root (h:al F n):∀(d i:Nat),i<n->(aB F n i).length<=d->∃j,j<n/\(F j).id ∈ aB F n i/\(F j).up=0
 | 0,i,hi,hd=>by
  by_cases hu:(F i).up=0
  ·rw[h.path_root hi hu] at hd;simp at hd
  ·obtain ⟨p,_,_,e⟩:=h.path_up hi hu
   rw[e] at hd;simp at hd
 | d+1,i,hi,hd=>by
  by_cases hu:(F i).up=0
  ·exact ⟨i,hi,by rw[h.path_root hi hu];simp,hu⟩
  ·obtain ⟨p,hp,_,e⟩:=h.path_up hi hu
   obtain ⟨j,hj,hm,h0⟩:=has_root h d p hp (by rw[e] at hd;simp at hd;omega)
   exact ⟨j,hj,by rw[e];simp[hm],h0⟩
end
def cN (F:Nat->aj) (n:Nat) (but:List Int) (r:Option Int) (x:Int):Option Int:=
 if (F ((ao F n x).getD 0)).limit<0\/x ∈ but then r else
  some (match r with|none=>ax F n ((ao F n x).getD 0)+(F ((ao F n x).getD 0)).limit|some q=>if ax F n ((ao F n x).getD 0)+(F ((ao F n x).getD 0)).limit<q then ax F n ((ao F n x).getD 0)+(F ((ao F n x).getD 0)).limit else q)
def eT (F:Nat->aj) (n:Nat) (but:List Int) (i:Nat):Option Int:=(aB F n i).foldl (cN F n but) none
section
variable {F:Nat->aj} {n:Nat} {but:List Int} {j:Nat} {x:Int}
theorem i8 (hp:ao F n x=some j) (h:(F j).limit<0\/x ∈ but) (r:Option Int):cN F n but r x=r:=by
 simp only[cN,hp,Option.getD_some,if_pos h]
theorem jg (hp:ao F n x=some j) (h:¬((F j).limit<0\/x ∈ but)):cN F n but none x=some (ax F n j+(F j).limit):=by
 simp only[cN,hp,Option.getD_some,if_neg h]
theorem kD (hp:ao F n x=some j) (h:¬((F j).limit<0\/x ∈ but)) {q:Int} (hq:ax F n j+(F j).limit<q):cN F n but (some q) x=some (ax F n j+(F j).limit):=by
 simp only[cN,hp,Option.getD_some,if_neg h,if_pos hq]
theorem kE (hp:ao F n x=some j) (h:¬((F j).limit<0\/x ∈ but)) {q:Int} (hq:¬ax F n j+(F j).limit<q):cN F n but (some q) x=some q:=by
 simp only[cN,hp,Option.getD_some,if_neg h,if_neg hq]
theorem pV (r:Option Int) (h:r.isSome=true) (y:Int):(cN F n but r y).isSome=true:=by
 unfold cN
 split
 ·exact h
 ·rfl
theorem kF:∀(l:List Int) (r:Option Int),r.isSome=true->(l.foldl (cN F n but) r).isSome=true
 | [],_,h=>h
 | y::l,r,h=>kF l _ (pV r h y)
theorem ml (hp:ao F n x=some j) (h:¬((F j).limit<0\/x ∈ but)):∀(l:List Int) (r:Option Int),x ∈ l->(l.foldl (cN F n but) r).isSome=true
 | [],_,hx=>by cases hx
 | y::l,_,hx=>by
  by_cases e:x=y
  ·subst e
   refine kF l _ ?_
   unfold cN
   rw[hp]
   simp only[Option.getD_some,if_neg h]
   rfl
  ·refine ml hp h l _ ?_
   rcases List.mem_cons.1 hx with e'|e'
   ·exact absurd e' e
   ·exact e'
theorem pW (h:al F n) {i:Nat} (hi:i<n):(eT F n [] i).isSome=true:=by
 obtain ⟨q,hq,hm,h0⟩:=h.has_root _ i hi (Nf _)
 refine ml (bL h.2.2.1 hq) ?_ _ _ hm
 have:=((h.2.1 q hq).2.2.2.2.2.2.2.1 h0).1
 simp
 omega
theorem pX (F:Nat->aj) (n:Nat) (but:List Int) (l:List Int) (k:Nat) (hk:k<l.length):(l.take (k+1)).foldl (cN F n but) none=cN F n but ((l.take k).foldl (cN F n but) none) (l.getD k 0):=by
 rw[List.take_succ_eq_append_getElem hk,List.foldl_append]
 simp[List.getD,List.getElem?_eq_getElem hk]
end
theorem mm (a:Option Addr) (n c:Nat) (F:Nat->aj) (but:List Int) (i B:Nat) (vb:Value) (w:World) (h:Fo w a n F) (hR:al F n) (hi:i<n) (hb:IL w B vb but) (hbl:but.length<=1048576):
  Calls Pg 163 #[Sl a n c,Ii Jj (F i).id,vb] w fun e w'=>e=.returned (.tuple #[Ii Jj ((eT F n but i).getD 0),.bool (eT F n but i).isSome])/\Below w.heap.size w w':=by
 have H:=aa h
 have HR:=aa hR
 have HB:=aa hb
 have hn:=hR.1
 clear h hR hb
 go_enter Tryz.func163,Tryz.ntmps163
 go_wp2_with fail
 refine (cX a n c F i _ H.out HR.out hi).mono ?_
 rintro e w0 ⟨v,rfl,I0,B0⟩
 have hpl:(aB F n i).length<=n:=eX HR.out hi
 have HM:Hid (∀x,x ∈ aB F n i->∃j,j<n/\(F j).id=x/\ao F n x=some j):=fun x hx=>HR.out.on_path hi hx
 have HO:Hid (eT F n but i=(aB F n i).foldl (cN F n but) none):=rfl
 have HT:Hid (∀k,k<(aB F n i).length->((aB F n i).take (k+1)).foldl (cN F n but) none=cN F n but (((aB F n i).take k).foldl (cN F n but) none) ((aB F n i).getD k 0)):=fun k hk=>pX F n but _ k hk
 obtain ⟨pa,pm,rfl,_,s⟩:=I0.shape
 have S:Hid (∀q,q<(aB F n i).length->∃g,pa=some ⟨g,0,none⟩/\g<w0.heap.size/\w0.cell? ⟨g,q,none⟩=some (Ii Jj ((aB F n i).getD q 0))):=fun q hq=>by obtain ⟨g,e,_,_,hz,hc,_⟩:=s q hq;exact ⟨g,e,hz,hc⟩
 have HG:Hid (∀q,q<(aB F n i).length->(aB F n i).getD q 0 ∈ aB F n i):=fun q hq=>mh hq
 have B0':=aa B0
 clear s I0 B0
 generalize aB F n i=l at*
 generalize hL:l.length=L at*
 have HTE:Hid (l.take L=l):=(by rw[←hL];exact List.take_length:l.take L=l)
 clear hL
 go_wp2
 go_loopw[10,11,12] (fun r s q wr=>∃(k:Nat) (z:Option Int),k<=L/\q=Ii Jj k/\r=Ii Jj (z.getD 0)/\s=.bool z.isSome/\Hid (z=(l.take k).foldl (cN F n but) none)/\Hid (Below w0.heap.size w0 wr)) (fun _ _ q _=>L-(intOf q).toNat)
 case atStart=>exact ⟨0,none,Nat.zero_le _,rfl,rfl,rfl,(by simp:none=(l.take 0).foldl (cN F n but) none),Bf _ _⟩
 case round=>
  obtain ⟨k,z,hk,rfl,rfl,rfl,hz,hB⟩:=hrel
  have hBw:=aa (B0'.out.trans (hB.out.mono B0'.out.size))
  by_cases hlt:k<L
  ·obtain ⟨g,rfl,hg,cg0⟩:=S.out k hlt
   have cg:wr.cell? ⟨g,k,none⟩=some (Ii Jj (l.getD k 0)):=by rw[hB.out.cell (p:=⟨g,k,none⟩) hg];exact cg0
   obtain ⟨j,hj,hid,hp⟩:=HM.out _ (HG.out k hlt)
   have HTk:Hid ((l.take (k+1)).foldl (cN F n but) none=cN F n but z (l.getD k 0)):=by
    have e:=HT.out k hlt
    rw[←hz.out] at e
    exact e
   clear cg0
   generalize l.getD k 0=x at*
   have HP:Hid (aK F n x=j):=aE hp
   have HPl:=aa hp
   clear hp
   obtain ⟨b,o,rfl,hb0,hA0⟩:=H.out.acc hj
   have hA:=hA0.of_cells (w':=wr) (fun q=>hBw.out.cell (p:=⟨b,q,none⟩) hb0)
   obtain ⟨c0,c1,c2,c3,c4,c5,c6,c7⟩:=hA
   obtain ⟨lb1,lb2⟩:=(HR.out.2.1 j hj).2.2.1
   obtain ⟨sb1,sb2⟩:=dJ HR.out j
   subst hid
   clear hA0
   go_wp2_with fail
   refine (bM _ n c F _ _ (H.out.below hBw.out)).mono ?_
   rintro e w1 ⟨rfl,hw1⟩
   subst hw1
   rw[HP.out]
   have BA:Hid (∀y,Below w0.heap.size w0 (w1.alloc y)):=fun y=>hB.out.alloc hB.out.size y
   by_cases hl0:(F j).limit<0
   ·have E:Hid (z=(l.take (k+1)).foldl (cN F n but) none):=(by rw[HTk.out,i8 HPl.out (Or.inl hl0)]:z=(l.take (k+1)).foldl (cN F n but) none)
    go_wp2
    go_roundw
    case rel=>exact ⟨k+1,z,by omega,by go_num,rfl,rfl,E,BA.out _⟩
    case measure=>simp[intOf];omega
   ·have hl1:0<=(F j).limit:=by omega
    have FA:Hid (∀y,Fo (w1.alloc y) (some ⟨b,o,none⟩) n F):=fun y=>(H.out.below hBw.out).alloc y
    have IA:Hid (∀y,IL (w1.alloc y) B vb but):=fun y=>(HB.out.kept hBw.out).kept ((Bf _ _).alloc (Nf _) y)
    by_cases hm:(F j).id ∈ but
    ·have E:Hid (z=(l.take (k+1)).foldl (cN F n but) none):=(by rw[HTk.out,i8 HPl.out (Or.inr hm)]:z=(l.take (k+1)).foldl (cN F n but) none)
     have HMm:=aa hm
     clear hm hl0
     go_wp2_with fail
     refine (bI B vb but _ _ hbl (IA.out _) HMm.out).mono ?_
     rintro e w2 ⟨rfl,hw2⟩
     subst hw2
     go_wp2
     go_roundw
     case rel=>exact ⟨k+1,z,by omega,by go_num,rfl,rfl,E,BA.out _⟩
     case measure=>simp[intOf];omega
    ·have hnot:Hid (¬((F j).limit<0\/(F j).id ∈ but)):=(fun e=>e.elim hl0 hm:¬((F j).limit<0\/(F j).id ∈ but))
     have HMm:=aa hm
     clear hm hl0
     go_wp2_with fail
     refine (cB B vb but _ _ hbl (IA.out _) HMm.out).mono ?_
     rintro e w2 ⟨rfl,hw2⟩
     have X2:Hid (bV w2 w1.heap.size (F j)):=by rw[hw2];exact bV.new w1 (F j) 30
     have F2:Hid (Fo w2 (some ⟨b,o,none⟩) n F):=by rw[hw2];exact FA.out _
     have B2:Hid (Below w0.heap.size w0 w2):=by rw[hw2];exact BA.out _
     obtain ⟨⟨x0,x1,x2,x3,x4,x5,x6,x7⟩,_,hsz⟩:=X2.out
     simp only[Nat.zero_add] at x2
     have hov:∀v q,(bH w2 v).cell? ⟨w1.heap.size,q,none⟩=w2.cell? ⟨w1.heap.size,q,none⟩:=fun v q=>(ap w2 v).cell (p:=⟨w1.heap.size,q,none⟩) hsz
     clear hw2 x1 x3 x4 x5 x6 x7 X2
     go_wp2
     refine aw (by kernel_rfl) (by kernel_rfl) ?_
     repeat (go_big_quiet_step ((first|(go_at_call 155;exact Calls.over_of (iV _ n c F j _ (F2.out.below (ap _ _)) HR.out hj)))))
     refine wpQuiet_nil ?_
     intro w3 hw'
     obtain ⟨vq,hw''⟩:=hw'
     have B3':Hid (Below w0.heap.size w0 w3):=by rw[hw''];exact B2.out.trans ((ap w2 vq).mono B2.out.size)
     clear hw''
     cases z with
     | none=>
      have E:Hid (some (ax F n j+(F j).limit)=(l.take (k+1)).foldl (cN F n but) none):=(by rw[HTk.out,jg HPl.out hnot.out]:some (ax F n j+(F j).limit)=(l.take (k+1)).foldl (cN F n but) none)
      simp only[Option.isSome_none,Option.getD_none]
      go_wp2
      go_roundw
      case rel=>exact ⟨k+1,some (ax F n j+(F j).limit),by omega,by go_num,by simp only[Option.getD_some],rfl,E,B3'⟩
      case measure=>simp[intOf];omega
     | some q=>
      simp only[Option.isSome_some,Option.getD_some]
      by_cases hq:ax F n j+(F j).limit<q
      ·have E:Hid (some (ax F n j+(F j).limit)=(l.take (k+1)).foldl (cN F n but) none):=(by rw[HTk.out,kD HPl.out hnot.out hq]:some (ax F n j+(F j).limit)=(l.take (k+1)).foldl (cN F n but) none)
       go_wp2
       go_roundw
       case rel=>exact ⟨k+1,some (ax F n j+(F j).limit),by omega,by go_num,by simp only[Option.getD_some],rfl,E,B3'⟩
       case measure=>simp[intOf];omega
      ·have E:Hid (some q=(l.take (k+1)).foldl (cN F n but) none):=(by rw[HTk.out,kE HPl.out hnot.out hq]:some q=(l.take (k+1)).foldl (cN F n but) none)
       go_wp2
       go_roundw
       case rel=>exact ⟨k+1,some q,by omega,by go_num,by simp only[Option.getD_some],rfl,E,B3'⟩
       case measure=>simp[intOf];omega
  ·have hkn:k=L:=by omega
   subst hkn
   have E:Hid (z=eT F n but i):=(by rw[HO.out,hz.out,HTE.out]:z=eT F n but i)
   go_wp2
   go_ret2
   rw[E.out]
   exact ⟨rfl,hBw.out⟩
open Go.RowKit
theorem sk {F:Nat->aj} {n:Nat} (h:al F n) {j:Nat} (hj:j<n): -13000000000000<=ax F n j+(F j).limit/\ax F n j+(F j).limit<=13000000000000:=by
 have:=dJ h j
 have:=(h.2.1 j hj).2.2.1
 omega
end Go.Proofs.YtghkbhggopiajaaGreatDoor
