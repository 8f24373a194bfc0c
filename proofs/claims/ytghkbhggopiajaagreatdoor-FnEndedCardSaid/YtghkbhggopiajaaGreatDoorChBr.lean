/- Lists of numbers that the calls make. -/
import Derived.Test.YtghkbhggopiajaaGreatDoorChAr
import Derived.Laws.EntriesVeiled
set_option maxHeartbeats 4000000
set_option maxRecDepth 8000
namespace Go.Proofs.YtghkbhggopiajaaGreatDoor
open Go.RowKit
def IL (w:World) (B:Nat) (v:Value) (l:List Int):Prop:=w.ownsRow B 2 1 v l.length (l.map (Value.int .i64))
theorem IL.nil (w:World) (B:Nat):IL w B (.slice none 0 0) []:=World.ownsRow_nil w B 2 1
theorem IL.empty (w:World) (B:Nat) (hB:B<=w.heap.size):IL (w.alloc (.cells #[] 2)) B (.slice (some ⟨w.heap.size,0,none⟩) 0 0) []:=World.ownsRow_lit w #[] 0 hB (Nat.zero_le _) (by simp)
theorem IL.kept {w w':World} {B:Nat} {v:Value} {l:List Int} (h:IL w B v l) (hb:Below w.heap.size w w'):IL w' B v l:=
 World.ownsRow.kept (row:=none) h ⟨hb.os,hb.tape,hb.output,hb.size,fun k hk _=>hb.block k hk⟩ (by cases hv:v.ownBlock <;>simp)
theorem IL.shape {w:World} {B:Nat} {v:Value} {l:List Int} (h:IL w B v l):
  ∃a cap,v=.slice a l.length cap/\(∀g,v.ownBlock=some g->B<=g/\g<w.heap.size)/\
   ∀i,i<l.length->∃g,a=some ⟨g,0,none⟩/\v.ownBlock=some g/\B<=g/\g<w.heap.size/\w.cell? ⟨g,i,none⟩=some (.int .i64 (l.getD i 0))/\w.frozen? ⟨g,i,none⟩=false:=by
 have hlt:=World.ownsRow.lt h
 rcases h.2 with ⟨hv,hn⟩|⟨g,cap,cur,hv,hg,r⟩
 ·refine ⟨none,0,by rw[hv,hn],fun g hg=>hlt g hg,fun i hi=>?_⟩
  omega
 ·refine ⟨some ⟨g,0,none⟩,cap,hv,fun g hg=>hlt g hg,fun i hi=>?_⟩
  have ho:v.ownBlock=some g:=by rw[hv];rfl
  have hs:w.ownsRow B 2 1 (.slice (some ⟨g,0,none⟩) l.length cap) l.length (l.map (Value.int .i64)):=by rw[←hv];exact h
  have hc:=World.ownsRow.cellAt hs i (by omega)
  refine ⟨g,rfl,ho,hg,(hlt g ho).2,?_,World.ownsRow.frozenAt hs i⟩
  rw[hc]
  simp[List.getD,List.getElem?_eq_getElem hi]
theorem grown_set (w:World) (R o:Nat) (u:Value):w.grownBy (w.setCell ⟨R,o,none⟩ u) (some R):=
 ⟨rfl,rfl,rfl,by simp[World.setCell],fun k _ hn=>Below.heap_setCell _ _ _ _ (fun e=>hn (by rw[e]))⟩
open Go.RowKit
def kids (F:Nat->Acc) (id:Int):Nat->List Int
 | 0=>[]
 | k+1=>kids F id k++(if (F k).up=id then [(F k).id] else [])
theorem kids_len (F:Nat->Acc) (id:Int):∀k,(kids F id k).length<=k
 | 0=>by simp[kids]
 | k+1=>by
  have:=kids_len F id k
  simp only[kids,List.length_append]
  split <;>simp <;>omega
theorem kids_hit {F:Nat->Acc} {id:Int} {k:Nat} (h:(F k).up=id):kids F id (k+1)=kids F id k++[(F k).id]:=by simp[kids,h]
theorem kids_miss {F:Nat->Acc} {id:Int} {k:Nat} (h:(F k).up≠id):kids F id (k+1)=kids F id k:=by simp[kids,h]
theorem specKids_yes (a:Option Addr) (n c:Nat) (F:Nat->Acc) (id:Int) (w:World) (h:Fo w a n F) (hR:Right F n):
  Calls Tryz.prog 165 #[.slice a n c,.int .i64 id] w fun e w'=>∃v,e=.returned v/\IL w' w.heap.size v (kids F id n)/\Below w.heap.size w w':=by
 have H:=hidOf h
 have HR:=hidOf hR
 have hn:=hR.1
 clear h hR
 obtain ⟨i0,hi,hz0,hz1,hz2⟩:=info_parts info2
 have I0:Hid (IL (w.alloc (.cells #[] 2)) w.heap.size (.slice (some ⟨w.heap.size,0,none⟩) 0 0) []):=IL.empty w w.heap.size (Nat.le_refl _)
 go_enter Tryz.func165,Tryz.ntmps165
 go_wp2
 go_loopw[5,6] (fun v i wr=>∃k:Nat,k<=n/\i=.int .i64 k/\Hid (IL wr w.heap.size v (kids F id k))/\Hid (Below w.heap.size w wr)) (fun _ i _=>n-(intOf i).toNat)
 case atStart=>exact ⟨0,Nat.zero_le _,rfl,I0,(Below.refl _ _).alloc (Nat.le_refl _) _⟩
 case round=>
  rename_i v5
  obtain ⟨k,hk,rfl,hI,hB⟩:=hrel
  clear I0
  go_wp2_with fail
  refine (specOk_yes a n c F _ (H.out.below hB.out) HR.out).mono ?_
  rintro e w1 ⟨rfl,B1⟩
  have I1:=hidOf (hI.out.kept B1)
  have B1':=hidOf (hB.out.trans (B1.mono hB.out.size))
  clear B1 hI hB
  by_cases hlt:k<n
  ·obtain ⟨b,o,rfl,hb0,hA0⟩:=H.out.acc hlt
   have hA:=hA0.of_cells (w':=w1) (fun q=>B1'.out.cell (p:=⟨b,q,none⟩) hb0)
   obtain ⟨c0,c1,c2,c3,c4,c5,c6,c7⟩:=hA
   clear hA0
   obtain ⟨a',m',hv,hlt',_⟩:=I1.out.shape
   subst hv
   have hkl:=kids_len F id k
   by_cases hu:(F k).up=id
   ·have bu:((F k).up == id)=true:=by simp[hu]
    have HK:Hid (kids F id (k+1)=kids F id k++[(F k).id]):=kids_hit hu
    have HL:=hidOf hlt'
    have hbw:b<w1.heap.size:=Nat.lt_of_lt_of_le hb0 B1'.out.size
    clear hu hlt'
    go_wp2_with (at_builtin;refine wpList_append_own _ rfl _ _ 31 rfl w.heap.size 2 i0 (.int .i64 0) 1 8 Tryz.underlying31 hi hz0 hz1 hz2 rfl (by decide) _ _ _ rfl (World.ownsRow.alloc I1.out _) ⟨_,0,none⟩ 1 1 [.int .i64 (F k).id] rfl rfl ?_ ?_ ?_ ?_ ?_ ?_)
    ·intro j u hj
     match j,hj with
     | 0,hj=>simp at hj;subst hj;simp[Addr.add,go_sem]
    ·intro u hu;simp at hu;subst hu;rfl
    ·unfold maxLen;omega
    ·omega
    ·have:=B1'.out.size;simp;omega
    ·intro v' w2 hown hgrow _
     have I2:Hid (IL w2 w.heap.size v' (kids F id (k+1))):=by
      have e:kids F id (k+1)=kids F id k++[(F k).id]:=HK.out
      show IL w2 w.heap.size v' (kids F id (k+1))
      rw[e]
      unfold IL
      simpa using hown
     have B2:Hid (Below w.heap.size w w2):=(B1'.out.alloc B1'.out.size _).grown hgrow (by have:=B1'.out.size;simp;omega) (fun q hq=>(HL.out q hq).1)
     clear hown hgrow
     go_wp2
     go_roundw
     case rel=>exact ⟨k+1,by omega,by go_num,I2,B2⟩
     case measure=>simp[intOf];omega
   ·have bu:((F k).up == id)=false:=by simp[hu]
    have I2:Hid (IL w1 w.heap.size (.slice a' (kids F id k).length m') (kids F id (k+1))):=by
     show IL w1 w.heap.size _ (kids F id (k+1))
     rw[kids_miss hu];exact I1.out
    clear hu hlt'
    go_wp2
    go_roundw
    case rel=>exact ⟨k+1,by omega,by go_num,I2,B1'⟩
    case measure=>simp[intOf];omega
  ·have hkn:k=n:=by omega
   subst hkn
   have hd:decide (k<k)=false:=by simp
   go_wp2
   go_ret
   exact ⟨_,rfl,I1.out,B1'.out⟩
theorem implKids_yes (a:Option Addr) (n c:Nat) (F:Nat->Acc) (id:Int) (w:World) (h:Fo w a n F) (hR:Right F n):
  Calls Tryz.prog 17 #[.slice a n c,.int .i64 id] w fun e w'=>∃v,e=.returned v/\IL w' w.heap.size v (kids F id n)/\Below w.heap.size w w':=by
 have H:=hidOf h
 have HR:=hidOf hR
 have hn:=hR.1
 clear h hR
 obtain ⟨i0,hi,hz0,hz1,hz2⟩:=info_parts info2
 go_enter Tryz.func17,Tryz.ntmps17
 go_wp2_with fail
 refine (implOk_yes a n c F _ H.out HR.out).mono ?_
 rintro e w0 ⟨rfl,B0⟩
 have B0':=hidOf B0
 have I0:Hid (IL w0 w.heap.size (.slice none 0 0) []):=IL.nil w0 w.heap.size
 clear B0
 go_wp2
 go_loopw[5,13] (fun v i wr=>∃k:Nat,k<=n/\i=.int .i64 k/\Hid (IL wr w.heap.size v (kids F id k))/\Hid (Below w.heap.size w wr)) (fun _ i _=>n-(intOf i).toNat)
 case atStart=>exact ⟨0,Nat.zero_le _,rfl,I0,B0'⟩
 case round=>
  obtain ⟨k,hk,rfl,I1,B1'⟩:=hrel
  clear I0 B0'
  by_cases hlt:k<n
  ·obtain ⟨b,o,rfl,hb0,hA0⟩:=H.out.acc hlt
   have hA:=hA0.of_cells (w':=wr) (fun q=>B1'.out.cell (p:=⟨b,q,none⟩) hb0)
   obtain ⟨c0,c1,c2,c3,c4,c5,c6,c7⟩:=hA
   clear hA0
   obtain ⟨a',m',hv,hlt',_⟩:=I1.out.shape
   subst hv
   have hkl:=kids_len F id k
   have IA:Hid (∀x,IL (wr.alloc x) w.heap.size (.slice a' (kids F id k).length m') (kids F id k)):=fun x=>World.ownsRow.alloc I1.out x
   have BA:Hid (∀x,Below w.heap.size w (wr.alloc x)):=fun x=>B1'.out.alloc B1'.out.size x
   by_cases hu:(F k).up=id
   ·have bu:((F k).up == id)=true:=by simp[hu]
    have HK:Hid (kids F id (k+1)=kids F id k++[(F k).id]):=kids_hit hu
    have HL:=hidOf hlt'
    clear hu hlt'
    go_wp2_with (at_builtin;refine wpList_append_own _ rfl _ _ 31 rfl w.heap.size 2 i0 (.int .i64 0) 1 8 Tryz.underlying31 hi hz0 hz1 hz2 rfl (by decide) _ _ _ rfl (World.ownsRow.alloc (IA.out _) _) ⟨_,0,none⟩ 1 1 [.int .i64 (F k).id] rfl rfl ?_ ?_ ?_ ?_ ?_ ?_)
    ·intro j u hj
     match j,hj with
     | 0,hj=>simp at hj;subst hj;simp[Addr.add,go_sem]
    ·intro u hu;simp at hu;subst hu;rfl
    ·unfold maxLen;omega
    ·omega
    ·have:=B1'.out.size;simp;omega
    ·intro v' w2 hown hgrow _
     have I2:Hid (IL w2 w.heap.size v' (kids F id (k+1))):=by
      have e:kids F id (k+1)=kids F id k++[(F k).id]:=HK.out
      show IL w2 w.heap.size v' (kids F id (k+1))
      rw[e]
      unfold IL
      simpa using hown
     have B2:Hid (Below w.heap.size w w2):=((BA.out _).alloc (BA.out _).size _).grown hgrow (by have:=B1'.out.size;simp;omega) (fun q hq=>(HL.out q hq).1)
     clear hown hgrow
     go_wp2
     go_roundw
     case rel=>exact ⟨k+1,by omega,by go_num,I2,B2⟩
     case measure=>simp[intOf];omega
   ·have bu:((F k).up == id)=false:=by simp[hu]
    have I2:Hid (∀x,IL (wr.alloc x) w.heap.size (.slice a' (kids F id k).length m') (kids F id (k+1))):=fun x=>by
     rw[kids_miss hu];exact IA.out x
    clear hu hlt'
    go_wp2
    go_roundw
    case rel=>exact ⟨k+1,by omega,by go_num,I2.out _,BA.out _⟩
    case measure=>simp[intOf];omega
  ·have hkn:k=n:=by omega
   subst hkn
   go_wp2
   go_ret
   exact ⟨_,rfl,I1.out,B1'.out⟩
open Go.RowKit
def accCells (a:Acc):List Value:=[.int .i64 a.id,.int .i64 a.up,.int .i64 a.limit,.int .i64 a.rate,.int .i64 a.target,.bool a.frozen,.int .i64 a.balance,.int .i64 a.carry]
def AL (w:World) (B:Nat) (v:Value) (l:List Acc):Prop:=w.ownsRow B 30 8 v l.length (l.flatMap accCells)
theorem flat_len (l:List Acc):(l.flatMap accCells).length=l.length*8:=by
 induction l with
 | nil=>rfl
 | cons a l ih=>simp only[List.flatMap_cons,List.length_append,ih,List.length_cons,accCells,List.length_nil];omega
theorem flat_get (l:List Acc):∀(i j:Nat) (hi:i<l.length) (_:j<8),(l.flatMap accCells)[i*8+j]? =(accCells l[i])[j]? :=by
 induction l with
 | nil=>intro i j hi;simp at hi
 | cons a l ih=>
  intro i j hi hj
  rw[List.flatMap_cons]
  cases i with
  | zero=>
   rw[List.getElem?_append_left (by simp[accCells];omega)]
   simp
  | succ i=>
   have hl:(accCells a).length=8:=rfl
   rw[List.getElem?_append_right (by rw[hl];omega),hl]
   have e:(i+1)*8+j-8=i*8+j:=by omega
   rw[e,ih i j (by simpa using hi) hj]
   simp
theorem AL.kept {w w':World} {B:Nat} {v:Value} {l:List Acc} (h:AL w B v l) (hb:Below w.heap.size w w'):AL w' B v l:=
 World.ownsRow.kept (row:=none) h ⟨hb.os,hb.tape,hb.output,hb.size,fun k hk _=>hb.block k hk⟩ (by cases hv:v.ownBlock <;>simp)
theorem AL.shape {w:World} {B:Nat} {v:Value} {l:List Acc} (h:AL w B v l):
  ∃a cap,v=.slice a l.length cap/\(∀g,v.ownBlock=some g->B<=g/\g<w.heap.size)/\
   ∀i (hi:i<l.length),∃g,a=some ⟨g,0,none⟩/\B<=g/\g<w.heap.size/\AccAt w g (i*8) l[i]:=by
 have hlt:=World.ownsRow.lt h
 rcases h.2 with ⟨hv,hn⟩|⟨g,cap,cur,hv,hg,r⟩
 ·refine ⟨none,0,by rw[hv,hn],fun g hg=>hlt g hg,fun i hi=>?_⟩
  omega
 ·refine ⟨some ⟨g,0,none⟩,cap,hv,fun g hg=>hlt g hg,fun i hi=>?_⟩
  have ho:v.ownBlock=some g:=by rw[hv];rfl
  have hs:w.ownsRow B 30 8 (.slice (some ⟨g,0,none⟩) l.length cap) l.length (l.flatMap accCells):=by rw[←hv];exact h
  have hc:∀j,j<8->w.cell? ⟨g,i*8+j,none⟩=(accCells l[i])[j]? :=fun j hj=>by
   rw[World.ownsRow.cellAt hs (i*8+j) (by omega),flat_get l i j hi hj]
  exact ⟨g,rfl,hg,(hlt g ho).2,hc 0 (by omega),hc 1 (by omega),hc 2 (by omega),hc 3 (by omega),hc 4 (by omega),hc 5 (by omega),hc 6 (by omega),hc 7 (by omega)⟩
theorem Right.id_pos {F:Nat->Acc} {n:Nat} (h:Right F n) {j:Nat} (hj:j<n):1<=(F j).id:=(h.2.1 j hj).1.1
theorem chain_step {F:Nat->Acc} {n m:Nat} {cur:Int} {j:Nat} (h0:cur≠0) (hp:place F n cur=some j) (hs:(chain F n m cur).isSome=true):∃m',m=m'+1/\chain F n m cur=(chain F n m' (F j).up).map (cur:: ·):=by
 cases m with
 | zero=>simp[chain,h0] at hs
 | succ m'=>exact ⟨m',rfl,by simp[chain,h0,hp]⟩
theorem implPathFull (a:Option Addr) (n c:Nat) (F:Nat->Acc) (id:Int) (l:List Int) (w:World) (h:Fo w a n F) (hR:Right F n) (hl:chain F n n id=some l):
  Calls Tryz.prog 240 #[.slice a n c,.int .i64 id] w fun e w'=>∃v P,e=.returned v/\AL w' w.heap.size v P/\P.map (·.id)=l/\P.length<=n/\(∀x,x ∈ P->∃j,j<n/\x=F j)/\Below w.heap.size w w':=by
 have H:=hidOf h
 have HR:=hidOf hR
 have HL:=hidOf hl
 have hn:=hR.1
 clear h hR hl
 obtain ⟨i0,hi,hz0,hz1,hz2⟩:=info_parts info30
 go_enter Tryz.func240,Tryz.ntmps240
 go_wp2_with fail
 refine (implAt a n c F id _ H.out).mono ?_
 rintro e w0 ⟨rfl,B0⟩
 have B0':=hidOf B0
 have A0:Hid (AL w0 w.heap.size (.slice none 0 0) []):=World.ownsRow_nil w0 w.heap.size 30 8
 clear B0
 go_wp2
 go_loopw[5,6] (fun v t wr=>∃(P:List Acc) (cur:Int),t=.int .i64 (placeI F n cur)/\lenOf v=P.length/\P.length<=n/\Hid (chain F n n id=(chain F n (n-P.length) cur).map (P.map (·.id)++ ·))/\Hid (AL wr w.heap.size v P)/\Hid (∀x,x ∈ P->∃j,j<n/\x=F j)/\Hid (Below w.heap.size w wr)) (fun v _ _=>n+1-lenOf v)
 case atStart=>
  refine ⟨[],id,rfl,rfl,Nat.zero_le _,?_,A0,fun x hx=>absurd hx (by simp),B0'⟩
  exact (by simp:chain F n n id=(chain F n (n-0) id).map ([]++ ·))
 case round=>
  obtain ⟨P,cur,rfl,hlen,hpn,hch,hA,hIn,hB⟩:=hrel
  clear A0 B0'
  rcases placeI_of (F:=F) (n:=n) (id:=cur) with ⟨hp,hpi⟩|⟨i,hp,hin,hpi⟩
  ·rw[hpi]
   have hc0:cur=0:=by
    by_cases e:cur=0
    ·exact e
    ·have:=hch.out
     rw[chain_none _ _ _ _ e hp,HL.out] at this
     simp at this
   have E:Hid (P.map (·.id)=l):=by
    have:=hch.out
    rw[hc0,chain_zero,HL.out] at this
    simp at this
    exact this.symm
   clear hp hpi hc0
   go_wp2
   go_ret
   exact ⟨_,P,rfl,hA.out,E.out,hpn,hIn.out,hB.out⟩
  ·rw[hpi]
   have hid:=(place_some hp).2
   have hc0:cur≠0:=by have:=HR.out.id_pos hin;omega
   have hsome:(chain F n (n-P.length) cur).isSome=true:=by
    have:=hch.out
    rw[HL.out] at this
    cases hq:chain F n (n-P.length) cur with
    | none=>rw[hq] at this;simp at this
    | some x=>rfl
   obtain ⟨m',hm',hst⟩:=chain_step hc0 hp hsome
   have hplt:P.length<n:=by omega
   have E:Hid (chain F n n id=(chain F n (n-(P++[F i]).length) (F i).up).map ((P++[F i]).map (·.id)++ ·)):=by
    have e1:n-(P++[F i]).length=m':=by simp;omega
    have e2:chain F n n id=(chain F n (n-(P++[F i]).length) (F i).up).map ((P++[F i]).map (·.id)++ ·):=by
     rw[hch.out,hst,e1,Option.map_map]
     congr 1
     funext x
     simp[hid]
    exact e2
   have IN:Hid (∀x,x ∈ P++[F i]->∃j,j<n/\x=F j):=fun x hx=>by
    rcases List.mem_append.1 hx with e|e
    ·exact hIn.out x e
    ·exact ⟨i,hin,by simpa using e⟩
   obtain ⟨b,o,rfl,hb0,hAc0⟩:=H.out.acc hin
   have hb:b<wr.heap.size:=Nat.lt_of_lt_of_le hb0 hB.out.size
   have hAc:=hAc0.of_cells (w':=wr) (fun q=>hB.out.cell (p:=⟨b,q,none⟩) hb0)
   clear hAc0
   have HAc:=hidOf hAc
   obtain ⟨c0,c1,c2,c3,c4,c5,c6,c7⟩:=hAc
   obtain ⟨a',m1,hv,hlt',_⟩:=hA.out.shape
   subst hv
   have HLT:=hidOf hlt'
   clear hp hpi hc0 hsome hst hm' hid hlt'
   go_wp2_with (at_builtin;refine wpList_append_own _ rfl _ _ 24 rfl w.heap.size 30 i0 _ 8 64 Tryz.underlying24 hi hz0 hz1 hz2 rfl (by decide) _ _ _ rfl (World.ownsRow.alloc hA.out _) ⟨_,0,none⟩ 1 1 (accCells (F i)) rfl rfl ?_ ?_ ?_ ?_ ?_ ?_)
   ·intro j u hj
    have hj8:j<8:=by
     by_cases e:j<8
     ·exact e
     ·rw[List.getElem?_eq_none (by simp[accCells];omega)] at hj;cases hj
    have hcase:j=0\/j=1\/j=2\/j=3\/j=4\/j=5\/j=6\/j=7:=by omega
    rcases hcase with e|e|e|e|e|e|e|e <;>subst e <;>simp[accCells] at hj <;>subst hj <;>simp[Addr.add,go_sem]
   ·intro u hu
    simp only[accCells,List.mem_cons,List.not_mem_nil,or_false] at hu
    rcases hu with e|e|e|e|e|e|e|e <;>subst e <;>rfl
   ·unfold maxLen;omega
   ·omega
   ·have:=hB.out.size;simp;omega
   ·intro v' w2 hown hgrow hnn
    have A2:Hid (AL w2 w.heap.size v' (P++[F i])):=by
     show AL w2 w.heap.size v' (P++[F i])
     unfold AL
     simpa using hown
    have B2:Hid (Below w.heap.size w w2):=(hB.out.alloc hB.out.size _).grown hgrow (by have:=hB.out.size;simp;omega) (fun q hq=>(HLT.out q hq).1)
    obtain ⟨a2,m2,hv2,_,_⟩:=A2.out.shape
    subst hv2
    have hA2:AccAt w2 b (o+i*8) (F i):=by
     refine HAc.out.of_cells (fun q=>World.cell?_of_block (w:=wr) ?_)
     show w2.heap[b]? =wr.heap[b]?
     rw[hgrow.block b (by simp;omega) (fun e=>by have:=(HLT.out b e.symm).1;omega),Below.heap_alloc _ _ _ hb]
    clear c0 c1 c2 c3 c4 c5 c6 c7
    obtain ⟨c0,c1,c2,c3,c4,c5,c6,c7⟩:=hA2
    clear hown hgrow hnn hA HLT
    go_wp2_with fail
    refine (implAt _ n c F (F i).up _ (H.out.below B2.out)).mono ?_
    rintro e w3 ⟨rfl,B3⟩
    have A3:=hidOf (A2.out.kept B3)
    have B3':=hidOf (B2.out.trans (B3.mono B2.out.size))
    clear B3 A2 B2 c0 c1 c2 c3 c4 c5 c6 c7
    go_wp2
    go_roundw
    case rel=>exact ⟨P++[F i],(F i).up,rfl,by simp[lenOf],by simp;omega,E,(by have t:=A3.out;rw[List.length_append] at t;exact t),IN,B3'⟩
    case measure=>simp[lenOf];omega
theorem implPathFrom (a:Option Addr) (n c:Nat) (F:Nat->Acc) (id:Int) (l:List Int) (w:World) (h:Fo w a n F) (hR:Right F n) (hl:chain F n n id=some l):
  Calls Tryz.prog 240 #[.slice a n c,.int .i64 id] w fun e w'=>∃v P,e=.returned v/\AL w' w.heap.size v P/\P.map (·.id)=l/\P.length<=n/\Below w.heap.size w w':=
 (implPathFull a n c F id l w h hR hl).mono fun _ _ ⟨v,P,a1,a2,a3,a4,_,a5⟩=>⟨v,P,a1,a2,a3,a4,a5⟩
open Go.RowKit
theorem chain_len (F:Nat->Acc) (n:Nat):∀(m:Nat) (id:Int) (l:List Int),chain F n m id=some l->l.length<=m
 | 0,id,l,h=>by
  by_cases h0:id=0
  ·simp[chain,h0] at h;simp[h]
  ·simp[chain,h0] at h
 | m+1,id,l,h=>by
  by_cases h0:id=0
  ·simp[chain,h0] at h;simp[h]
  ·simp only[chain,if_neg h0] at h
   cases hp:place F n id with
   | none=>rw[hp] at h;cases h
   | some i=>
    rw[hp] at h
    simp only[Option.map_eq_some_iff] at h
    obtain ⟨l',h1,rfl⟩:=h
    have:=chain_len F n m _ l' h1
    simp
    exact this
theorem chain_mono (F:Nat->Acc) (n:Nat):∀(m m':Nat) (x:Int) (l:List Int),m<=m'->chain F n m x=some l->chain F n m' x=some l
 | 0,m',x,l,_,h=>by
  by_cases h0:x=0
  ·subst h0
   cases m' <;>simpa [chain] using h
  ·simp[chain,h0] at h
 | m+1,0,x,l,hm,_=>by omega
 | m+1,m'+1,x,l,hm,h=>by
  by_cases h0:x=0
  ·subst h0;simpa [chain] using h
  ·simp only[chain,if_neg h0] at h ⊢
   cases hp:place F n x with
   | none=>rw[hp] at h;cases h
   | some i=>
    rw[hp] at h
    simp only[Option.map_eq_some_iff] at h ⊢
    obtain ⟨l',h1,h2⟩:=h
    exact ⟨l',chain_mono F n m m' _ l' (by omega) h1,h2⟩
theorem chain_suffix (F:Nat->Acc) (n:Nat):∀(m:Nat) (x y:Int) (l:List Int),m<=n->chain F n m x=some l->y ∈ l->∃l',chain F n n y=some l'/\l'.length<=l.length
 | 0,x,y,l,_,h,hy=>by
  by_cases h0:x=0
  ·simp[chain,h0] at h;subst h;cases hy
  ·simp[chain,h0] at h
 | m+1,x,y,l,hm,h,hy=>by
  by_cases h0:x=0
  ·simp[chain,h0] at h;subst h;cases hy
  ·by_cases e:y=x
   ·subst e
    exact ⟨l,chain_mono F n (m+1) n y l hm h,Nat.le_refl _⟩
   ·simp only[chain,if_neg h0] at h
    cases hp:place F n x with
    | none=>rw[hp] at h;cases h
    | some i=>
     rw[hp] at h
     simp only[Option.map_eq_some_iff] at h
     obtain ⟨l1,h1,rfl⟩:=h
     have hy1:y ∈ l1:=by
      rcases List.mem_cons.1 hy with e'|e'
      ·exact absurd e' e
      ·exact e'
     obtain ⟨l',a,b⟩:=chain_suffix F n m _ y l1 (by omega) h1 hy1
     exact ⟨l',a,by simp;omega⟩
def pathL (F:Nat->Acc) (n j:Nat):List Int:=(chain F n n (F j).id).getD []
section
variable {F:Nat->Acc} {n:Nat}
theorem Right.id1 (h:Right F n) {j:Nat} (hj:j<n):1<=(F j).id:=(h.2.1 j hj).1.1
theorem Right.path (h:Right F n) {j:Nat} (hj:j<n):chain F n n (F j).id=some (pathL F n j):=by
 obtain ⟨l,hl⟩:=Option.isSome_iff_exists.1 (h.2.2.2 j hj)
 simp[pathL,hl]
theorem Right.inj (h:Right F n) {i j:Nat} (hi:i<n) (hj:j<n) (e:(F i).id=(F j).id):i=j:=by
 have a:=place_self h.2.2.1 hi
 have b:=place_self h.2.2.1 hj
 rw[e,b] at a
 exact (Option.some.inj a).symm
theorem Right.path_root (h:Right F n) {j:Nat} (hj:j<n) (hu:(F j).up=0):pathL F n j=[(F j).id]:=by
 have hp:=h.path hj
 have h1:=h.id1 hj
 cases n with
 | zero=>omega
 | succ m=>
  simp only[chain,if_neg (show (F j).id≠0 by omega),place_self h.2.2.1 hj,hu] at hp
  have e:chain F (m+1) m 0=some []:=by cases m <;>simp[chain]
  rw[e] at hp
  simpa using hp.symm
theorem Right.path_up (h:Right F n) {j:Nat} (hj:j<n) (hu:(F j).up≠0):∃p,p<n/\(F p).id=(F j).up/\pathL F n j=(F j).id::pathL F n p:=by
 have hp:=h.path hj
 have h1:=h.id1 hj
 cases n with
 | zero=>omega
 | succ m=>
  simp only[chain,if_neg (show (F j).id≠0 by omega),place_self h.2.2.1 hj,Option.map_eq_some_iff] at hp
  obtain ⟨l1,h2,h3⟩:=hp
  have hpl:∃p,place F (m+1) (F j).up=some p:=by
   cases hq:place F (m+1) (F j).up with
   | some p=>exact ⟨p,rfl⟩
   | none=>
    cases m <;>simp[chain,hu,hq] at h2
  obtain ⟨p,hq⟩:=hpl
  obtain ⟨hpn,hid⟩:=place_some hq
  have h4:=chain_mono F (m+1) m (m+1) _ l1 (by omega) h2
  rw[←hid,h.path hpn] at h4
  exact ⟨p,hpn,hid,by rw[←h3,←Option.some.inj h4]⟩
theorem Right.not_mem (h:Right F n) {j p:Nat} (hj:j<n) (hp:p<n) (e:pathL F n j=(F j).id::pathL F n p):(F j).id ∉ pathL F n p:=by
 intro hm
 obtain ⟨l',a,b⟩:=chain_suffix F n n _ _ _ (Nat.le_refl _) (h.path hp) hm
 rw[h.path hj] at a
 rw[←Option.some.inj a,e] at b
 simp at b
 omega
def on (F:Nat->Acc) (n i j:Nat):Int:=if (F i).id ∈ pathL F n j then 1 else 0
theorem on_root (h:Right F n) {i j:Nat} (hi:i<n) (hj:j<n) (hu:(F j).up=0):on F n i j=if i=j then 1 else 0:=by
 unfold on
 rw[h.path_root hj hu]
 by_cases e:i=j
 ·subst e;simp
 ·rw[if_neg e,if_neg]
  simp only[List.mem_singleton]
  exact fun e'=>e (h.inj hi hj e')
theorem on_up (h:Right F n) {i j p:Nat} (hi:i<n) (hj:j<n) (hp:p<n) (e:pathL F n j=(F j).id::pathL F n p):on F n i j=(if i=j then 1 else 0)+on F n i p:=by
 unfold on
 rw[e]
 by_cases eij:i=j
 ·subst eij
  have:=h.not_mem hj hp e
  simp[this]
 ·have:(F i).id≠(F j).id:=fun e'=>eij (h.inj hi hj e')
  simp[eij,this]
end
def sumTo (f:Nat->Int):Nat->Int
 | 0=>0
 | k+1=>sumTo f k+f k
theorem sumTo_congr {f g:Nat->Int}:∀{n:Nat},(∀k,k<n->f k=g k)->sumTo f n=sumTo g n
 | 0,_=>rfl
 | n+1,h=>by simp only[sumTo];rw[sumTo_congr (fun k hk=>h k (by omega)),h n (by omega)]
theorem sumTo_add (f g:Nat->Int):∀n,sumTo (fun k=>f k+g k) n=sumTo f n+sumTo g n
 | 0=>rfl
 | n+1=>by simp only[sumTo];rw[sumTo_add f g n];omega
theorem sumTo_zero:∀n,sumTo (fun _=>0) n=0
 | 0=>rfl
 | n+1=>by simp only[sumTo];rw[sumTo_zero n];rfl
theorem sumTo_mul (f:Nat->Int) (x:Int):∀n,sumTo (fun k=>f k*x) n=sumTo f n*x
 | 0=>by simp[sumTo]
 | n+1=>by simp only[sumTo];rw[sumTo_mul f x n,Int.add_mul]
theorem sumTo_single (x:Int) (j:Nat):∀n,sumTo (fun k=>if k=j then x else 0) n=if j<n then x else 0
 | 0=>by simp[sumTo]
 | n+1=>by
  simp only[sumTo]
  rw[sumTo_single x j n]
  by_cases h1:j<n
  ·rw[if_pos h1,if_neg (by omega),if_pos (by omega)];omega
  ·by_cases h2:n=j
   ·rw[if_neg h1,if_pos h2,if_pos (by omega)];omega
   ·rw[if_neg h1,if_neg h2,if_neg (by omega)];omega
theorem sumTo_swap (f:Nat->Nat->Int) (m:Nat):∀n,sumTo (fun i=>sumTo (fun j=>f i j) m) n=sumTo (fun j=>sumTo (fun i=>f i j) n) m
 | 0=>by simp only[sumTo];rw[sumTo_zero]
 | n+1=>by
  simp only[sumTo]
  rw[sumTo_swap f m n,←sumTo_add]
section
variable {F:Nat->Acc} {n:Nat}
theorem on_kids (h:Right F n) {i:Nat} (hi:i<n):∀(d j:Nat),j<n->(pathL F n j).length<=d->on F n i j=(if j=i then 1 else 0)+sumTo (fun k=>if (F k).up=(F i).id then on F n k j else 0) n
 | 0,j,hj,hd=>by
  by_cases hu:(F j).up=0
  ·rw[h.path_root hj hu] at hd;simp at hd
  ·obtain ⟨p,_,_,e⟩:=h.path_up hj hu
   rw[e] at hd;simp at hd
 | d+1,j,hj,hd=>by
  have hi1:=h.id1 hi
  by_cases hu:(F j).up=0
  ·rw[on_root h hi hj hu]
   have e1:sumTo (fun k=>if (F k).up=(F i).id then on F n k j else 0) n=0:=by
    refine (sumTo_congr (g:=fun _=>0) (fun k hk=>?_)).trans (sumTo_zero n)
    by_cases e:(F k).up=(F i).id
    ·rw[if_pos e,on_root h hk hj hu,if_neg]
     intro e'
     subst e'
     omega
    ·rw[if_neg e]
   rw[e1]
   by_cases e:i=j
   ·rw[if_pos e,if_pos e.symm];rfl
   ·rw[if_neg e,if_neg (fun e'=>e e'.symm)];rfl
  ·obtain ⟨p,hp,hid,e⟩:=h.path_up hj hu
   have ih:=on_kids h hi d p hp (by rw[e] at hd;simp at hd;omega)
   rw[on_up h hi hj hp e]
   have e1:sumTo (fun k=>if (F k).up=(F i).id then on F n k j else 0) n=(if p=i then 1 else 0)+sumTo (fun k=>if (F k).up=(F i).id then on F n k p else 0) n:=by
    have e2:sumTo (fun k=>if (F k).up=(F i).id then on F n k j else 0) n=sumTo (fun k=>(if k=j then (if p=i then 1 else 0) else 0)+(if (F k).up=(F i).id then on F n k p else 0)) n:=by
     refine sumTo_congr (fun k hk=>?_)
     by_cases ek:(F k).up=(F i).id
     ·rw[if_pos ek,if_pos ek,on_up h hk hj hp e]
      by_cases ekj:k=j
      ·subst ekj
       have hpi:p=i:=h.inj hp hi (by rw[hid,ek])
       simp[hpi]
      ·simp[ekj]
     ·rw[if_neg ek,if_neg ek]
      by_cases ekj:k=j
      ·subst ekj
       have hpi:p≠i:=fun e'=>ek (by rw[←hid,e'])
       simp[hpi]
      ·simp[ekj]
    rw[e2,sumTo_add,sumTo_single,if_pos hj]
   rw[e1,←ih]
   by_cases eij:i=j
   ·rw[if_pos eij,if_pos eij.symm]
   ·rw[if_neg eij,if_neg (fun e'=>eij e'.symm)]
def sumAll (F:Nat->Acc) (n i:Nat):Int:=sumTo (fun j=>on F n i j*(F j).balance) n
theorem sumAll_kids (h:Right F n) {i:Nat} (hi:i<n):sumAll F n i=(F i).balance+sumTo (fun k=>if (F k).up=(F i).id then sumAll F n k else 0) n:=by
 have e1:sumAll F n i=sumTo (fun j=>(if j=i then (F i).balance else 0)+sumTo (fun k=>if (F k).up=(F i).id then on F n k j*(F j).balance else 0) n) n:=by
  refine sumTo_congr (fun j hj=>?_)
  rw[on_kids h hi _ j hj (Nat.le_refl _),Int.add_mul,←sumTo_mul]
  congr 1
  ·by_cases e:j=i
   ·subst e;simp
   ·simp[e]
  ·refine sumTo_congr (fun k _=>?_)
   by_cases e:(F k).up=(F i).id
   ·simp[e]
   ·simp[e]
 rw[e1,sumTo_add,sumTo_single,if_pos hi,sumTo_swap]
 congr 1
 refine sumTo_congr (fun k _=>?_)
 by_cases e:(F k).up=(F i).id
 ·simp only[if_pos e];rfl
 ·simp only[if_neg e];exact sumTo_zero n
theorem on_01 (F:Nat->Acc) (n i j:Nat):on F n i j=0\/on F n i j=1:=by
 unfold on;split
 ·exact Or.inr rfl
 ·exact Or.inl rfl
theorem sum_bd (h:Right F n) (i:Nat):∀m,m<=n-> -(1000000000000*(m:Int))<=sumTo (fun j=>on F n i j*(F j).balance) m/\sumTo (fun j=>on F n i j*(F j).balance) m<=1000000000000*(m:Int)
 | 0,_=>by simp[sumTo]
 | m+1,hm=>by
  have ih:=sum_bd h i m (by omega)
  have b:=(h.2.1 m (by omega)).2.2.2.2.2.1
  simp only[sumTo]
  rcases on_01 F n i m with e|e
  ·rw[e];simp;omega
  ·rw[e];simp;omega
theorem sumAll_bd (h:Right F n) (i:Nat): -12000000000000<=sumAll F n i/\sumAll F n i<=12000000000000:=by
 have:=sum_bd h i n (Nat.le_refl _)
 have:=h.1
 unfold sumAll
 omega
theorem kidsum_bd (h:Right F n) (x:Int):∀m,m<=n-> -(12000000000000*(m:Int))<=sumTo (fun k=>if (F k).up=x then sumAll F n k else 0) m/\sumTo (fun k=>if (F k).up=x then sumAll F n k else 0) m<=12000000000000*(m:Int)
 | 0,_=>by simp[sumTo]
 | m+1,hm=>by
  have ih:=kidsum_bd h x m (by omega)
  have b:=sumAll_bd h m
  simp only[sumTo]
  split <;>omega
theorem kid_len (h:Right F n) {i k:Nat} (hi:i<n) (hk:k<n) (e:(F k).up=(F i).id):(pathL F n k).length=(pathL F n i).length+1:=by
 have hi1:=h.id1 hi
 obtain ⟨p,hp,hid,hpath⟩:=h.path_up hk (by omega)
 have:p=i:=h.inj hp hi (by rw[hid,e])
 subst this
 rw[hpath];simp
end
open Go.RowKit
def kidSum (F:Nat->Acc) (n i k:Nat):Int:=sumTo (fun j=>if (F j).up=(F i).id then sumAll F n j else 0) k
theorem kidSum_hit {F:Nat->Acc} {n i k:Nat} (h:(F k).up=(F i).id):kidSum F n i (k+1)=kidSum F n i k+sumAll F n k:=by simp[kidSum,sumTo,h]
theorem kidSum_miss {F:Nat->Acc} {n i k:Nat} (h:(F k).up≠(F i).id):kidSum F n i (k+1)=kidSum F n i k:=by simp[kidSum,sumTo,h]
theorem path_len {F:Nat->Acc} {n:Nat} (h:Right F n) {i:Nat} (hi:i<n):(pathL F n i).length<=n:=chain_len F n n _ _ (h.path hi)
theorem implSum (a:Option Addr) (n c bf bs:Nat) (F:Nat->Acc) (hR:Right F n):∀(d i:Nat) (w:World),i<n->n-(pathL F n i).length<d->Fo w a n F->bf<w.heap.size->bs<w.heap.size->
  w.cell? ⟨bf,0,none⟩=some (.slice a n c)->w.cell? ⟨bs,0,none⟩=some (.func (.func 170) #[] #[.pointer (some ⟨bf,0,none⟩),.pointer (some ⟨bs,0,none⟩)])->
  Calls Tryz.prog 170 #[.agg #[.int .i64 (F i).id,.int .i64 (F i).up,.int .i64 (F i).limit,.int .i64 (F i).rate,.int .i64 (F i).target,.bool (F i).frozen,.int .i64 (F i).balance,.int .i64 (F i).carry],.pointer (some ⟨bf,0,none⟩),.pointer (some ⟨bs,0,none⟩)] w fun e w'=>e=.returned (.int .i64 (sumAll F n i))/\Below w.heap.size w w':=by
 intro d
 induction d with
 | zero=>intro i w hi hd;omega
 | succ d ih=>
  intro i w hi hd h hbf hbs cf cs
  have H:=hidOf h
  have HR:=hidOf hR
  have IH:Hid (∀(i:Nat) (w:World),i<n->n-(pathL F n i).length<d->Fo w a n F->bf<w.heap.size->bs<w.heap.size->
  w.cell? ⟨bf,0,none⟩=some (.slice a n c)->w.cell? ⟨bs,0,none⟩=some (.func (.func 170) #[] #[.pointer (some ⟨bf,0,none⟩),.pointer (some ⟨bs,0,none⟩)])->
  Calls Tryz.prog 170 #[.agg #[.int .i64 (F i).id,.int .i64 (F i).up,.int .i64 (F i).limit,.int .i64 (F i).rate,.int .i64 (F i).target,.bool (F i).frozen,.int .i64 (F i).balance,.int .i64 (F i).carry],.pointer (some ⟨bf,0,none⟩),.pointer (some ⟨bs,0,none⟩)] w fun e w'=>e=.returned (.int .i64 (sumAll F n i))/\Below w.heap.size w w'):=ih
  have HD:=hidOf hd
  have HS:Hid (sumAll F n i=(F i).balance+kidSum F n i n):=sumAll_kids hR hi
  obtain ⟨bb1,bb2⟩:=(hR.2.1 i hi).2.2.2.2.2.1
  have hn:=hR.1
  have BX:Hid (Box (w.alloc (.cells #[.int .i64 (F i).id,.int .i64 (F i).up,.int .i64 (F i).limit,.int .i64 (F i).rate,.int .i64 (F i).target,.bool (F i).frozen,.int .i64 (F i).balance,.int .i64 (F i).carry] 30)) w.heap.size (F i)):=Box.new w (F i) 30
  clear h ih hd
  go_enter Tryz.func170,Tryz.ntmps170
  go_wp2
  go_loopw[5,12] (fun t q wr=>∃k:Nat,k<=n/\q=.int .i64 k/\t=.int .i64 ((F i).balance+kidSum F n i k)/\Hid (Box wr w.heap.size (F i))/\Hid (Below w.heap.size w wr)) (fun _ q _=>n-(intOf q).toNat)
  case atStart=>exact ⟨0,Nat.zero_le _,rfl,by simp[kidSum,sumTo],BX,(Below.refl _ _).alloc (Nat.le_refl _) _⟩
  case round=>
   obtain ⟨k,hk,rfl,rfl,hX,hB⟩:=hrel
   clear BX
   obtain ⟨kb1,kb2⟩: -(12000000000000*(k:Int))<=kidSum F n i k/\kidSum F n i k<=12000000000000*(k:Int):=kidsum_bd HR.out (F i).id k hk
   by_cases hlt:k<n
   ·obtain ⟨b,o,rfl,hb0,hA0⟩:=H.out.acc hlt
    have hA:=hA0.of_cells (w':=wr) (fun q=>hB.out.cell (p:=⟨b,q,none⟩) hb0)
    obtain ⟨c0,c1,c2,c3,c4,c5,c6,c7⟩:=hA
    clear hA0
    have cf1:wr.cell? ⟨bf,0,none⟩=some (.slice (some ⟨b,o,none⟩) n c):=by rw[hB.out.cell (p:=⟨bf,0,none⟩) hbf];exact cf
    have cs1:wr.cell? ⟨bs,0,none⟩=some (.func (.func 170) #[] #[.pointer (some ⟨bf,0,none⟩),.pointer (some ⟨bs,0,none⟩)]):=by rw[hB.out.cell (p:=⟨bs,0,none⟩) hbs];exact cs
    obtain ⟨⟨b0,b1,b2,b3,b4,b5,b6,b7⟩,_,hz⟩:=hX.out
    have hbf1:bf<wr.heap.size:=by omega
    have hbs1:bs<wr.heap.size:=by omega
    clear b1 b2 b3 b4 b5 b6 b7
    by_cases hu:(F k).up=(F i).id
    ·have bu:((F k).up == (F i).id)=true:=by simp[hu]
     have HK:Hid (kidSum F n i (k+1)=kidSum F n i k+sumAll F n k):=kidSum_hit hu
     have HD':Hid (n-(pathL F n k).length<d):=by
      have e1:=kid_len HR.out hi hlt hu
      have e2:=path_len HR.out hlt
      have e3:=HD.out
      exact (by omega:n-(pathL F n k).length<d)
     obtain ⟨sb1,sb2⟩:=sumAll_bd HR.out k
     clear hu
     have HF:Hid (∀x:Obj,Fo (wr.alloc x) (some ⟨b,o,none⟩) n F):=fun x=>(H.out.below hB.out).alloc x
     have CF:Hid (∀x:Obj,(wr.alloc x).cell? ⟨bf,0,none⟩=some (.slice (some ⟨b,o,none⟩) n c)):=fun x=>by rw[World.cell?_alloc_lt _ _ _ (by exact hbf1)];exact cf1
     have CS:Hid (∀x:Obj,(wr.alloc x).cell? ⟨bs,0,none⟩=some (.func (.func 170) #[] #[.pointer (some ⟨bf,0,none⟩),.pointer (some ⟨bs,0,none⟩)])):=fun x=>by rw[World.cell?_alloc_lt _ _ _ (by exact hbs1)];exact cs1
     go_wp2_with fail
     refine (IH.out k _ hlt HD'.out (HF.out _) (by simp;omega) (by simp;omega) (CF.out _) (CS.out _)).mono ?_
     rintro e w1 ⟨rfl,B1⟩
     have X1:Hid (Box w1 w.heap.size (F i)):=(hX.out.below ((Below.refl _ _).alloc (Nat.le_refl _) _)).below B1
     have B1':Hid (Below w.heap.size w w1):=(hB.out.alloc hB.out.size _).trans (B1.mono (by have:=hB.out.size;simp;omega))
     clear B1
     go_wp2
     go_roundw
     case rel=>exact ⟨k+1,by omega,by go_num,by rw[HK.out];go_num,X1,B1'⟩
     case measure=>simp[intOf];omega
    ·have bu:((F k).up == (F i).id)=false:=by simp[hu]
     have HK:Hid (kidSum F n i (k+1)=kidSum F n i k):=kidSum_miss hu
     have XA:Hid (∀x:Obj,Box (wr.alloc x) w.heap.size (F i)):=fun x=>hX.out.below ((Below.refl _ _).alloc (Nat.le_refl _) _)
     clear hu
     go_wp2
     go_roundw
     case rel=>exact ⟨k+1,by omega,by go_num,by rw[HK.out],XA.out _,hB.out.alloc hB.out.size _⟩
     case measure=>simp[intOf];omega
   ·have hkn:k=n:=by omega
    subst hkn
    go_wp2
    go_ret
    rw[HS.out]
    exact ⟨rfl,hB.out⟩
theorem implSumFrom (a:Option Addr) (n c:Nat) (F:Nat->Acc) (i:Nat) (w:World) (h:Fo w a n F) (hR:Right F n) (hi:i<n):
  Calls Tryz.prog 151 #[.slice a n c,.agg #[.int .i64 (F i).id,.int .i64 (F i).up,.int .i64 (F i).limit,.int .i64 (F i).rate,.int .i64 (F i).target,.bool (F i).frozen,.int .i64 (F i).balance,.int .i64 (F i).carry]] w fun e w'=>e=.returned (.int .i64 (sumAll F n i))/\Below w.heap.size w w':=by
 have H:=hidOf h
 have HR:=hidOf hR
 clear h hR
 have hmf:∀(fn:Fn) (first cap:Array Value) (w:World),(Instr.makeFunc fn first cap).run Tryz.prog w=.ok (.func fn first cap) w:=fun _ _ _ _=>rfl
 go_enter Tryz.func151,Tryz.ntmps151
 go_wp2_with fail
 refine (implSum a n c w.heap.size (w.heap.size+1+1) F HR.out (n+1) i _ hi (by omega) (((H.out.alloc _).alloc _).alloc _) (by simp;omega) (by simp) ?_ ?_).mono ?_
 ·simp[go_sem]
 ·simp[go_sem]
 rintro e w1 ⟨rfl,B1⟩
 have B1':Hid (Below w.heap.size w w1):=((((Below.refl _ _).alloc (Nat.le_refl _) _).alloc (by simp) _).alloc (by simp;omega) _).trans (B1.mono (by simp;omega))
 clear B1
 go_wp2
 go_ret
 exact ⟨rfl,B1'.out⟩
open Go.RowKit
theorem getD_mem {l:List Int} {k:Nat} (h:k<l.length):l.getD k 0 ∈ l:=by
 simp[List.getD,List.getElem?_eq_getElem h]
theorem mem_getD {l:List Int} {x:Int} (h:x ∈ l):∃k,k<l.length/\l.getD k 0=x:=by
 obtain ⟨k,hk,e⟩:=List.getElem_of_mem h
 exact ⟨k,hk,by simp[List.getD,List.getElem?_eq_getElem hk,e]⟩
theorem specHas_yes (B:Nat) (v:Value) (l:List Int) (x:Int) (w:World) (hl:l.length<=1048576) (h:IL w B v l) (hx:x ∈ l):
  Calls Tryz.prog 164 #[v,.int .i64 x] w fun e w'=>e=.returned (.bool true)/\w'=w:=by
 obtain ⟨a,m,rfl,_,s⟩:=h.shape
 have S:Hid (∀i,i<l.length->∃g,a=some ⟨g,0,none⟩/\w.cell? ⟨g,i,none⟩=some (.int .i64 (l.getD i 0))):=fun i hi=>by obtain ⟨g,e,_,_,_,hc,_⟩:=s i hi;exact ⟨g,e,hc⟩
 have HX:Hid (∃k,k<l.length/\l.getD k 0=x):=mem_getD hx
 clear s h hx
 generalize hn:l.length=n at*
 go_enter Tryz.func164,Tryz.ntmps164
 go_wp2
 go_loop [5] (fun i=>∃k:Nat,k<=n/\i=.int .i64 k/\Hid (∀j,j<k->l.getD j 0≠x)) (fun i=>n-(intOf i).toNat)
 case atStart=>exact ⟨0,Nat.zero_le _,rfl,fun j hj=>absurd hj (Nat.not_lt_zero _)⟩
 case round=>
  obtain ⟨k,hk,rfl,hno⟩:=hrel
  by_cases hlt:k<n
  ·obtain ⟨g,rfl,c0⟩:=S.out k hlt
   by_cases hid:l.getD k 0=x
   ·rw[hid] at c0
    clear hid
    go_wp2
    go_ret
    exact ⟨rfl,rfl⟩
   ·have hb:(l.getD k 0 == x)=false:=beq_eq_false_iff_ne.2 hid
    have NX:Hid (∀j,j<k+1->l.getD j 0≠x):=fun j hj=>by
     by_cases e:j=k
     ·rw[e];exact hid
     ·exact hno.out j (by omega)
    clear hid
    generalize l.getD k 0=z at c0 hb
    go_wp2
    go_round
    case rel=>exact ⟨k+1,by omega,by go_num,NX⟩
    case measure=>simp[intOf];omega
  ·obtain ⟨q,hq,e⟩:=HX.out
   exact absurd e (hno.out q (by omega))
theorem specHas_no (B:Nat) (v:Value) (l:List Int) (x:Int) (w:World) (hl:l.length<=1048576) (h:IL w B v l) (hx:x ∉ l):
  Calls Tryz.prog 164 #[v,.int .i64 x] w fun e w'=>e=.returned (.bool false)/\w'=w:=by
 obtain ⟨a,m,rfl,_,s⟩:=h.shape
 have S:Hid (∀i,i<l.length->∃g,a=some ⟨g,0,none⟩/\w.cell? ⟨g,i,none⟩=some (.int .i64 (l.getD i 0))):=fun i hi=>by obtain ⟨g,e,_,_,_,hc,_⟩:=s i hi;exact ⟨g,e,hc⟩
 have HX:Hid (∀k,k<l.length->l.getD k 0≠x):=fun k hk e=>hx (e ▸ getD_mem hk)
 clear s h hx
 generalize hn:l.length=n at*
 go_enter Tryz.func164,Tryz.ntmps164
 go_wp2
 go_loop [5] (fun i=>∃k:Nat,k<=n/\i=.int .i64 k) (fun i=>n-(intOf i).toNat)
 case atStart=>exact ⟨0,Nat.zero_le _,rfl⟩
 case round=>
  obtain ⟨k,hk,rfl⟩:=hrel
  by_cases hlt:k<n
  ·obtain ⟨g,rfl,c0⟩:=S.out k hlt
   have hb:(l.getD k 0 == x)=false:=beq_eq_false_iff_ne.2 (HX.out k hlt)
   generalize l.getD k 0=z at c0 hb
   go_wp2
   go_round
   case rel=>exact ⟨k+1,by omega,by go_num⟩
   case measure=>simp[intOf];omega
  ·go_wp2
   go_ret
   exact ⟨rfl,rfl⟩
theorem specPath_right (a:Option Addr) (n c:Nat) (F:Nat->Acc) (j:Nat) (w:World) (h:Fo w a n F) (hR:Right F n) (hj:j<n):
  Calls Tryz.prog 62 #[.slice a n c,.int .i64 (F j).id] w fun e w'=>∃v,e=.returned (.tuple #[v,.bool true])/\IL w' w.heap.size v (pathL F n j)/\Below w.heap.size w w':=
 (specPath a n c F (F j).id w h).mono fun e w' ⟨B,hc⟩=>by
  rcases hc with ⟨hno,_⟩|⟨l,v,hl,he,hI⟩
  ·rw[hR.path hj] at hno;cases hno
  ·rw[hR.path hj] at hl
   obtain rfl:=Option.some.inj hl
   exact ⟨v,he,hI.1,B⟩
def sumPre (F:Nat->Acc) (n i k:Nat):Int:=sumTo (fun j=>on F n i j*(F j).balance) k
theorem sumPre_hit {F:Nat->Acc} {n i k:Nat} (h:(F i).id ∈ pathL F n k):sumPre F n i (k+1)=sumPre F n i k+(F k).balance:=by
 simp[sumPre,sumTo,on,h]
theorem sumPre_miss {F:Nat->Acc} {n i k:Nat} (h:(F i).id ∉ pathL F n k):sumPre F n i (k+1)=sumPre F n i k:=by
 simp[sumPre,sumTo,on,h]
theorem specSum (a:Option Addr) (n c:Nat) (F:Nat->Acc) (i:Nat) (w:World) (h:Fo w a n F) (hR:Right F n) (hi:i<n):
  Calls Tryz.prog 155 #[.slice a n c,.int .i64 (F i).id] w fun e w'=>e=.returned (.int .i64 (sumAll F n i))/\Below w.heap.size w w':=by
 have H:=hidOf h
 have HR:=hidOf hR
 have hn:=hR.1
 clear h hR
 go_enter Tryz.func155,Tryz.ntmps155
 go_wp2
 go_loopw[5,6] (fun t q wr=>∃k:Nat,k<=n/\q=.int .i64 k/\t=.int .i64 (sumPre F n i k)/\Hid (Below w.heap.size w wr)) (fun _ q _=>n-(intOf q).toNat)
 case atStart=>exact ⟨0,Nat.zero_le _,rfl,rfl,Below.refl _ _⟩
 case round=>
  obtain ⟨k,hk,rfl,rfl,hB⟩:=hrel
  obtain ⟨kb1,kb2⟩: -(1000000000000*(k:Int))<=sumPre F n i k/\sumPre F n i k<=1000000000000*(k:Int):=sum_bd HR.out i k hk
  by_cases hlt:k<n
  ·obtain ⟨b,o,rfl,hb0,hA0⟩:=H.out.acc hlt
   have hA:=hA0.of_cells (w':=wr) (fun q=>hB.out.cell (p:=⟨b,q,none⟩) hb0)
   have c0:=hA.1
   obtain ⟨bb1,bb2⟩:=(HR.out.2.1 k hlt).2.2.2.2.2.1
   clear hA
   go_wp2_with fail
   refine (specPath_right _ n c F k _ (H.out.below hB.out) HR.out hlt).mono ?_
   rintro e w1 ⟨v,rfl,I1,B1⟩
   have B1':=hidOf (hB.out.trans (B1.mono hB.out.size))
   have I1':=hidOf I1
   have hpl:(pathL F n k).length<=1048576:=by have:=path_len HR.out hlt;omega
   have hA:=hA0.of_cells (w':=w1) (fun q=>B1'.out.cell (p:=⟨b,q,none⟩) hb0)
   have c6:=hA.2.2.2.2.2.2.1
   clear hA hA0 c0 B1 I1
   by_cases hm:(F i).id ∈ pathL F n k
   ·have HK:Hid (sumPre F n i (k+1)=sumPre F n i k+(F k).balance):=sumPre_hit hm
    have HM:=hidOf hm
    clear hm
    go_wp2_with fail
    refine (specHas_yes _ v _ _ _ hpl I1'.out HM.out).mono ?_
    rintro e w2 ⟨rfl,rfl⟩
    go_wp2
    go_roundw
    case rel=>exact ⟨k+1,by omega,by go_num,by rw[HK.out],B1'⟩
    case measure=>simp[intOf];omega
   ·have HK:Hid (sumPre F n i (k+1)=sumPre F n i k):=sumPre_miss hm
    have HM:=hidOf hm
    clear hm
    go_wp2_with fail
    refine (specHas_no _ v _ _ _ hpl I1'.out HM.out).mono ?_
    rintro e w2 ⟨rfl,rfl⟩
    go_wp2
    go_roundw
    case rel=>exact ⟨k+1,by omega,by go_num,by rw[HK.out],B1'⟩
    case measure=>simp[intOf];omega
  ·have hkn:k=n:=by omega
   subst hkn
   go_wp2
   go_ret
   exact ⟨rfl,hB.out⟩
theorem implSumOf_yes (a:Option Addr) (n c:Nat) (F:Nat->Acc) (id:Int) (i:Nat) (w:World) (h:Fo w a n F) (hR:Right F n) (hp:place F n id=some i):
  Calls Tryz.prog 117 #[.slice a n c,.int .i64 id] w fun e w'=>e=.returned (.tuple #[.int .i64 (sumAll F n i),.bool true])/\Below w.heap.size w w':=by
 have H:=hidOf h
 have HR:=hidOf hR
 have HP:=hidOf hp
 have hin:=(place_some hp).1
 clear h hR hp
 go_enter Tryz.func117,Tryz.ntmps117
 go_wp2_with fail
 refine (implFind_yes a n c F id i _ H.out HR.out HP.out).mono ?_
 rintro e w1 ⟨rfl,B1⟩
 have B1':=hidOf B1
 clear B1
 go_wp2_with fail
 refine (implSumFrom a n c F i _ ((H.out.below B1'.out).alloc _) HR.out hin).mono ?_
 rintro e w3 ⟨rfl,B3⟩
 have B3':Hid (Below w.heap.size w w3):=(B1'.out.alloc B1'.out.size _).trans (B3.mono (by have:=B1'.out.size;simp;omega))
 clear B3
 go_wp2
 go_ret2
 exact ⟨rfl,B3'.out⟩
open Go.RowKit
theorem chain_mem (F:Nat->Acc) (n:Nat):∀(m:Nat) (x y:Int) (l:List Int),chain F n m x=some l->y ∈ l->∃j,place F n y=some j
 | 0,x,y,l,h,hy=>by
  by_cases h0:x=0
  ·simp[chain,h0] at h;subst h;cases hy
  ·simp[chain,h0] at h
 | m+1,x,y,l,h,hy=>by
  by_cases h0:x=0
  ·simp[chain,h0] at h;subst h;cases hy
  ·simp only[chain,if_neg h0] at h
   cases hp:place F n x with
   | none=>rw[hp] at h;cases h
   | some i=>
    rw[hp] at h
    simp only[Option.map_eq_some_iff] at h
    obtain ⟨l1,h1,rfl⟩:=h
    rcases List.mem_cons.1 hy with e|e
    ·exact ⟨i,by rw[e];exact hp⟩
    ·exact chain_mem F n m _ y l1 h1 e
section
variable {F:Nat->Acc} {n:Nat}
theorem Right.on_path (h:Right F n) {i:Nat} (hi:i<n) {x:Int} (hx:x ∈ pathL F n i):∃j,j<n/\(F j).id=x/\place F n x=some j:=by
 obtain ⟨j,hj⟩:=chain_mem F n n _ x _ (h.path hi) hx
 exact ⟨j,(place_some hj).1,(place_some hj).2,hj⟩
theorem Right.has_root (h:Right F n):∀(d i:Nat),i<n->(pathL F n i).length<=d->∃j,j<n/\(F j).id ∈ pathL F n i/\(F j).up=0
 | 0,i,hi,hd=>by
  by_cases hu:(F i).up=0
  ·rw[h.path_root hi hu] at hd;simp at hd
  ·obtain ⟨p,_,_,e⟩:=h.path_up hi hu
   rw[e] at hd;simp at hd
 | d+1,i,hi,hd=>by
  by_cases hu:(F i).up=0
  ·exact ⟨i,hi,by rw[h.path_root hi hu];simp,hu⟩
  ·obtain ⟨p,hp,_,e⟩:=h.path_up hi hu
   obtain ⟨j,hj,hm,h0⟩:=has_root h d p hp (by rw[e] at hd;simp at hd;omega)
   exact ⟨j,hj,by rw[e];simp[hm],h0⟩
end
def step (F:Nat->Acc) (n:Nat) (but:List Int) (r:Option Int) (x:Int):Option Int:=
 if (F ((place F n x).getD 0)).limit<0\/x ∈ but then r else
  some (match r with|none=>sumAll F n ((place F n x).getD 0)+(F ((place F n x).getD 0)).limit|some q=>if sumAll F n ((place F n x).getD 0)+(F ((place F n x).getD 0)).limit<q then sumAll F n ((place F n x).getD 0)+(F ((place F n x).getD 0)).limit else q)
def room (F:Nat->Acc) (n:Nat) (but:List Int) (i:Nat):Option Int:=(pathL F n i).foldl (step F n but) none
section
variable {F:Nat->Acc} {n:Nat} {but:List Int} {j:Nat} {x:Int}
theorem step_skip (hp:place F n x=some j) (h:(F j).limit<0\/x ∈ but) (r:Option Int):step F n but r x=r:=by
 simp only[step,hp,Option.getD_some,if_pos h]
theorem step_first (hp:place F n x=some j) (h:¬((F j).limit<0\/x ∈ but)):step F n but none x=some (sumAll F n j+(F j).limit):=by
 simp only[step,hp,Option.getD_some,if_neg h]
theorem step_less (hp:place F n x=some j) (h:¬((F j).limit<0\/x ∈ but)) {q:Int} (hq:sumAll F n j+(F j).limit<q):step F n but (some q) x=some (sumAll F n j+(F j).limit):=by
 simp only[step,hp,Option.getD_some,if_neg h,if_pos hq]
theorem step_more (hp:place F n x=some j) (h:¬((F j).limit<0\/x ∈ but)) {q:Int} (hq:¬sumAll F n j+(F j).limit<q):step F n but (some q) x=some q:=by
 simp only[step,hp,Option.getD_some,if_neg h,if_neg hq]
theorem step_some (r:Option Int) (h:r.isSome=true) (y:Int):(step F n but r y).isSome=true:=by
 unfold step
 split
 ·exact h
 ·rfl
theorem fold_some:∀(l:List Int) (r:Option Int),r.isSome=true->(l.foldl (step F n but) r).isSome=true
 | [],_,h=>h
 | y::l,r,h=>fold_some l _ (step_some r h y)
theorem fold_hit (hp:place F n x=some j) (h:¬((F j).limit<0\/x ∈ but)):∀(l:List Int) (r:Option Int),x ∈ l->(l.foldl (step F n but) r).isSome=true
 | [],_,hx=>by cases hx
 | y::l,_,hx=>by
  by_cases e:x=y
  ·subst e
   refine fold_some l _ ?_
   unfold step
   rw[hp]
   simp only[Option.getD_some,if_neg h]
   rfl
  ·refine fold_hit hp h l _ ?_
   rcases List.mem_cons.1 hx with e'|e'
   ·exact absurd e' e
   ·exact e'
theorem room_some (h:Right F n) {i:Nat} (hi:i<n):(room F n [] i).isSome=true:=by
 obtain ⟨q,hq,hm,h0⟩:=h.has_root _ i hi (Nat.le_refl _)
 refine fold_hit (place_self h.2.2.1 hq) ?_ _ _ hm
 have:=((h.2.1 q hq).2.2.2.2.2.2.2.1 h0).1
 simp
 omega
theorem fold_take (F:Nat->Acc) (n:Nat) (but:List Int) (l:List Int) (k:Nat) (hk:k<l.length):(l.take (k+1)).foldl (step F n but) none=step F n but ((l.take k).foldl (step F n but) none) (l.getD k 0):=by
 rw[List.take_succ_eq_append_getElem hk,List.foldl_append]
 simp[List.getD,List.getElem?_eq_getElem hk]
end
theorem specRoom (a:Option Addr) (n c:Nat) (F:Nat->Acc) (but:List Int) (i B:Nat) (vb:Value) (w:World) (h:Fo w a n F) (hR:Right F n) (hi:i<n) (hb:IL w B vb but) (hbl:but.length<=1048576):
  Calls Tryz.prog 163 #[.slice a n c,.int .i64 (F i).id,vb] w fun e w'=>e=.returned (.tuple #[.int .i64 ((room F n but i).getD 0),.bool (room F n but i).isSome])/\Below w.heap.size w w':=by
 have H:=hidOf h
 have HR:=hidOf hR
 have HB:=hidOf hb
 have hn:=hR.1
 clear h hR hb
 go_enter Tryz.func163,Tryz.ntmps163
 go_wp2_with fail
 refine (specPath_right a n c F i _ H.out HR.out hi).mono ?_
 rintro e w0 ⟨v,rfl,I0,B0⟩
 have hpl:(pathL F n i).length<=n:=path_len HR.out hi
 have HM:Hid (∀x,x ∈ pathL F n i->∃j,j<n/\(F j).id=x/\place F n x=some j):=fun x hx=>HR.out.on_path hi hx
 have HO:Hid (room F n but i=(pathL F n i).foldl (step F n but) none):=rfl
 have HT:Hid (∀k,k<(pathL F n i).length->((pathL F n i).take (k+1)).foldl (step F n but) none=step F n but (((pathL F n i).take k).foldl (step F n but) none) ((pathL F n i).getD k 0)):=fun k hk=>fold_take F n but _ k hk
 obtain ⟨pa,pm,rfl,_,s⟩:=I0.shape
 have S:Hid (∀q,q<(pathL F n i).length->∃g,pa=some ⟨g,0,none⟩/\g<w0.heap.size/\w0.cell? ⟨g,q,none⟩=some (.int .i64 ((pathL F n i).getD q 0))):=fun q hq=>by obtain ⟨g,e,_,_,hz,hc,_⟩:=s q hq;exact ⟨g,e,hz,hc⟩
 have HG:Hid (∀q,q<(pathL F n i).length->(pathL F n i).getD q 0 ∈ pathL F n i):=fun q hq=>getD_mem hq
 have B0':=hidOf B0
 clear s I0 B0
 generalize pathL F n i=l at*
 generalize hL:l.length=L at*
 have HTE:Hid (l.take L=l):=(by rw[←hL];exact List.take_length:l.take L=l)
 clear hL
 go_wp2
 go_loopw[10,11,12] (fun r s q wr=>∃(k:Nat) (z:Option Int),k<=L/\q=.int .i64 k/\r=.int .i64 (z.getD 0)/\s=.bool z.isSome/\Hid (z=(l.take k).foldl (step F n but) none)/\Hid (Below w0.heap.size w0 wr)) (fun _ _ q _=>L-(intOf q).toNat)
 case atStart=>exact ⟨0,none,Nat.zero_le _,rfl,rfl,rfl,(by simp:none=(l.take 0).foldl (step F n but) none),Below.refl _ _⟩
 case round=>
  obtain ⟨k,z,hk,rfl,rfl,rfl,hz,hB⟩:=hrel
  have hBw:=hidOf (B0'.out.trans (hB.out.mono B0'.out.size))
  by_cases hlt:k<L
  ·obtain ⟨g,rfl,hg,cg0⟩:=S.out k hlt
   have cg:wr.cell? ⟨g,k,none⟩=some (.int .i64 (l.getD k 0)):=by rw[hB.out.cell (p:=⟨g,k,none⟩) hg];exact cg0
   obtain ⟨j,hj,hid,hp⟩:=HM.out _ (HG.out k hlt)
   have HTk:Hid ((l.take (k+1)).foldl (step F n but) none=step F n but z (l.getD k 0)):=by
    have e:=HT.out k hlt
    rw[←hz.out] at e
    exact e
   clear cg0
   generalize l.getD k 0=x at*
   have HP:Hid (placeI F n x=j):=placeI_some hp
   have HPl:=hidOf hp
   clear hp
   obtain ⟨b,o,rfl,hb0,hA0⟩:=H.out.acc hj
   have hA:=hA0.of_cells (w':=wr) (fun q=>hBw.out.cell (p:=⟨b,q,none⟩) hb0)
   obtain ⟨c0,c1,c2,c3,c4,c5,c6,c7⟩:=hA
   obtain ⟨lb1,lb2⟩:=(HR.out.2.1 j hj).2.2.1
   obtain ⟨sb1,sb2⟩:=sumAll_bd HR.out j
   subst hid
   clear hA0
   go_wp2_with fail
   refine (specAt _ n c F _ _ (H.out.below hBw.out)).mono ?_
   rintro e w1 ⟨rfl,hw1⟩
   subst hw1
   rw[HP.out]
   have BA:Hid (∀y,Below w0.heap.size w0 (w1.alloc y)):=fun y=>hB.out.alloc hB.out.size y
   by_cases hl0:(F j).limit<0
   ·have E:Hid (z=(l.take (k+1)).foldl (step F n but) none):=(by rw[HTk.out,step_skip HPl.out (Or.inl hl0)]:z=(l.take (k+1)).foldl (step F n but) none)
    go_wp2
    go_roundw
    case rel=>exact ⟨k+1,z,by omega,by go_num,rfl,rfl,E,BA.out _⟩
    case measure=>simp[intOf];omega
   ·have hl1:0<=(F j).limit:=by omega
    have FA:Hid (∀y,Fo (w1.alloc y) (some ⟨b,o,none⟩) n F):=fun y=>(H.out.below hBw.out).alloc y
    have IA:Hid (∀y,IL (w1.alloc y) B vb but):=fun y=>(HB.out.kept hBw.out).kept ((Below.refl _ _).alloc (Nat.le_refl _) y)
    by_cases hm:(F j).id ∈ but
    ·have E:Hid (z=(l.take (k+1)).foldl (step F n but) none):=(by rw[HTk.out,step_skip HPl.out (Or.inr hm)]:z=(l.take (k+1)).foldl (step F n but) none)
     have HMm:=hidOf hm
     clear hm hl0
     go_wp2_with fail
     refine (specHas_yes B vb but _ _ hbl (IA.out _) HMm.out).mono ?_
     rintro e w2 ⟨rfl,hw2⟩
     subst hw2
     go_wp2
     go_roundw
     case rel=>exact ⟨k+1,z,by omega,by go_num,rfl,rfl,E,BA.out _⟩
     case measure=>simp[intOf];omega
    ·have hnot:Hid (¬((F j).limit<0\/(F j).id ∈ but)):=(fun e=>e.elim hl0 hm:¬((F j).limit<0\/(F j).id ∈ but))
     have HMm:=hidOf hm
     clear hm hl0
     go_wp2_with fail
     refine (specHas_no B vb but _ _ hbl (IA.out _) HMm.out).mono ?_
     rintro e w2 ⟨rfl,hw2⟩
     have X2:Hid (Box w2 w1.heap.size (F j)):=by rw[hw2];exact Box.new w1 (F j) 30
     have F2:Hid (Fo w2 (some ⟨b,o,none⟩) n F):=by rw[hw2];exact FA.out _
     have B2:Hid (Below w0.heap.size w0 w2):=by rw[hw2];exact BA.out _
     obtain ⟨⟨x0,x1,x2,x3,x4,x5,x6,x7⟩,_,hsz⟩:=X2.out
     simp only[Nat.zero_add] at x2
     have hov:∀v q,(over w2 v).cell? ⟨w1.heap.size,q,none⟩=w2.cell? ⟨w1.heap.size,q,none⟩:=fun v q=>(below_over w2 v).cell (p:=⟨w1.heap.size,q,none⟩) hsz
     clear hw2 x1 x3 x4 x5 x6 x7 X2
     go_wp2
     refine wp_region_over (by kernel_rfl) (by kernel_rfl) ?_
     repeat (go_big_quiet_step ((first|(go_at_call 155;exact Calls.over_of (specSum _ n c F j _ (F2.out.below (below_over _ _)) HR.out hj)))))
     refine wpQuiet_nil ?_
     intro w3 hw'
     obtain ⟨vq,hw''⟩:=hw'
     have B3':Hid (Below w0.heap.size w0 w3):=by rw[hw''];exact B2.out.trans ((below_over w2 vq).mono B2.out.size)
     clear hw''
     cases z with
     | none=>
      have E:Hid (some (sumAll F n j+(F j).limit)=(l.take (k+1)).foldl (step F n but) none):=(by rw[HTk.out,step_first HPl.out hnot.out]:some (sumAll F n j+(F j).limit)=(l.take (k+1)).foldl (step F n but) none)
      simp only[Option.isSome_none,Option.getD_none]
      go_wp2
      go_roundw
      case rel=>exact ⟨k+1,some (sumAll F n j+(F j).limit),by omega,by go_num,by simp only[Option.getD_some],rfl,E,B3'⟩
      case measure=>simp[intOf];omega
     | some q=>
      simp only[Option.isSome_some,Option.getD_some]
      by_cases hq:sumAll F n j+(F j).limit<q
      ·have E:Hid (some (sumAll F n j+(F j).limit)=(l.take (k+1)).foldl (step F n but) none):=(by rw[HTk.out,step_less HPl.out hnot.out hq]:some (sumAll F n j+(F j).limit)=(l.take (k+1)).foldl (step F n but) none)
       go_wp2
       go_roundw
       case rel=>exact ⟨k+1,some (sumAll F n j+(F j).limit),by omega,by go_num,by simp only[Option.getD_some],rfl,E,B3'⟩
       case measure=>simp[intOf];omega
      ·have E:Hid (some q=(l.take (k+1)).foldl (step F n but) none):=(by rw[HTk.out,step_more HPl.out hnot.out hq]:some q=(l.take (k+1)).foldl (step F n but) none)
       go_wp2
       go_roundw
       case rel=>exact ⟨k+1,some q,by omega,by go_num,by simp only[Option.getD_some],rfl,E,B3'⟩
       case measure=>simp[intOf];omega
  ·have hkn:k=L:=by omega
   subst hkn
   have E:Hid (z=room F n but i):=(by rw[HO.out,hz.out,HTE.out]:z=room F n but i)
   go_wp2
   go_ret2
   rw[E.out]
   exact ⟨rfl,hBw.out⟩
open Go.RowKit
theorem room_bd {F:Nat->Acc} {n:Nat} (h:Right F n) {j:Nat} (hj:j<n): -13000000000000<=sumAll F n j+(F j).limit/\sumAll F n j+(F j).limit<=13000000000000:=by
 have:=sumAll_bd h j
 have:=(h.2.1 j hj).2.2.1
 omega
end Go.Proofs.YtghkbhggopiajaaGreatDoor
