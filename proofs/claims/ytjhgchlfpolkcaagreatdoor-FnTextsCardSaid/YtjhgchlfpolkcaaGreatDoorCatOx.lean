/- The deferred function of readWhole. -/
import Derived.OwnWalk
import Derived.Test.YtjhgchlfpolkcaaGreatDoorRanPx
import Derived.Defers
import Derived.Recover
namespace Go.Proofs.YtjhgchlfpolkcaaGreatDoor
section
open Go.RowKit Go.Shelf
set_option maxRecDepth 8000
structure iL (p R:Nat) (w w':World):Prop where
 os:w'.os=w.os
 tape:w'.tape=w.tape
 output:w'.output=w.output
 size:w.heap.size<=w'.heap.size
 block:∀k,k<w.heap.size->k≠p->k≠R->w'.heap[k]? =w.heap[k]?
theorem iL.refl (p R:Nat) (w:World):iL p R w w:=⟨rfl,rfl,rfl,Nat.le_refl _,fun _ _ _ _=>rfl⟩
theorem iL.trans {p R:Nat} {a b c:World} (h:iL p R a b) (k:iL p R b c):iL p R a c:=
 ⟨k.os.trans h.os,k.tape.trans h.tape,k.output.trans h.output,Nat.le_trans h.size k.size,fun j hj h1 h2=>(k.block j (Nat.lt_of_lt_of_le hj h.size) h1 h2).trans (h.block j hj h1 h2)⟩
theorem iL.ofStp {p R:Nat} {w w':World} (h:an p w w'):iL p R w w':=⟨h.os,h.tape,h.output,h.size,fun k hk h1 _=>h.block k hk h1⟩
theorem iL.setCell {p R:Nat} {a w:World} (h:iL p R a w) (off:Nat) (u:Value):iL p R a (w.setCell ⟨R,off,none⟩ u):=
 h.trans ((an.refl R w).setCell off u |> fun k=>⟨k.os,k.tape,k.output,k.size,fun j hj _ h2=>k.block j hj h2⟩)
def cK (vs:List Value):List Nat->List Int->List Value
 | q::qs,n::ns=>cK (vs.set q (.int .i64 n)) qs ns
 | _,_=>vs
theorem it:∀(qs:List Nat) (ns:List Int) (vs:List Value) (q:Nat) (n:Int),qs.length=ns.length->cK vs (qs++[q]) (ns++[n])=(cK vs qs ns).set q (.int .i64 n)
 | [],[],vs,q,n,_=>rfl
 | [],_::_,_,_,_,h=>by simp at h
 | _::_,[],_,_,_,h=>by simp at h
 | a::qs,b::ns,vs,q,n,h=>by simpa [cK] using it qs ns (vs.set a (.int .i64 b)) q n (by simpa using h)
theorem jv:∀(qs:List Nat) (ns:List Int) (vs:List Value),(cK vs qs ns).length=vs.length
 | [],_,vs=>by simp[cK]
 | _::_,[],vs=>by simp[cK]
 | q::qs,n::ns,vs=>by simp[cK,jv qs ns]
def nZ (w:World) (p R:Nat) (s:ByteArray) (vs:List Value) (ps:List Nat) (e:Ending) (w':World):Prop:=iL p R w w'/\((∃(ns:List Int) (t:ByteArray),aH ps.length s.data.toList=some (ns,t.data.toList)/\e=.returned (.tuple #[])/\bp w' p t/\ba w'/\ah w' R (cK vs ps ns))\/(aH ps.length s.data.toList=none/\lI e))
theorem eh.stq {w w':World} {a:Option Addr} {p R:Nat} {ps:List Nat} (h:eh w a R ps) (hs:iL p R w w') (hp:p<R):eh w' a R ps:=by
 rcases h with e|⟨b,h1,h2,h3,h4⟩
 ·exact Or.inl e
 ·exact Or.inr ⟨b,h1,Nat.lt_of_lt_of_le h2 hs.size,h3,fun i hi=>(World.cell?_of_block (w:=w) (hs.block b h2 (by omega) (by omega))).trans (h4 i hi)⟩
theorem pA {ps:List Nat} {k:Nat} (h:k<ps.length):ps.take (k+1)=ps.take k++[ps[k]]:=by rw[List.take_succ_eq_append_getElem h]
set_option maxHeartbeats 2000000 in
theorem qQ (p R:Nat) (a:Option Addr) (c:Nat) (s:ByteArray) (vs:List Value) (ps:List Nat) (w:World) (h:bp w p s) (g:ba w) (hP:eh w a R ps) (hV:ah w R vs) (hpR:p<R) (hps:∀q ∈ ps,q<vs.length) (hl:ps.length<=100):
  Calls Tryz.prog 74 #[.pointer (some ⟨p,0,none⟩),.slice a ps.length c] w fun e w'=>nZ w p R s vs ps e w':=by
 obtain ⟨m,hm⟩:∃m,ps.length=m:=⟨_,rfl⟩
 have HM:Hid (ps.length=m/\∀q ∈ ps,q<vs.length):=⟨hm,hps⟩
 have H0:Hid (bp w p s/\ba w/\ah w R vs/\eh w a R ps):=⟨h,g,hV,hP⟩
 have h7:7<=p:=h.2.2.1
 rw[hm] at hl ⊢
 clear hm h g hP hV hps
 go_enter Tryz.func74,Tryz.ntmps74
 go_wp2
 go_loopw[8] (fun i wr=>∃(k:Nat) (t:ByteArray) (pre:List Int),k<=m/\i=.int .i64 k/\Hid (lH m s.data.toList k pre t.data.toList)/\Hid (bp wr p t/\ba wr/\ah wr R (cK vs (ps.take k) pre)/\iL p R w wr)) (fun i _=>m-(intOf i).toNat)
 case atStart=>exact ⟨0,s,[],Nat.zero_le _,rfl,lH.start _ _,(⟨H0.out.1,H0.out.2.1,by simpa [cK] using H0.out.2.2.1,iL.refl _ _ _⟩:bp w p s/\ba w/\ah w R (cK vs (ps.take 0) [])/\iL p R w w)⟩
 case round=>
  obtain ⟨k,t,pre,hk,rfl,HN,H1⟩:=hrel
  by_cases hlt:k<m
  ·have hkl:k<ps.length:=by rw[HM.out.1];exact hlt
   obtain ⟨q,hq⟩:∃q,ps[k]=q:=⟨_,rfl⟩
   obtain ⟨b,ha,hb,hRb,hc⟩:∃b,a=some ⟨b,0,none⟩/\b<wr.heap.size/\R<b/\wr.cell? ⟨b,k,none⟩=some (.pointer (some ⟨R,q,none⟩)):=by
    rcases H0.out.2.2.2.stq H1.out.2.2.2 hpR with e|⟨b,h1,h2,h3,h4⟩
    ·rw[e] at hkl;simp at hkl
    ·exact ⟨b,h1,h2,h3,by rw[h4 k hkl,hq]⟩
   subst ha
   have hqv:Hid (q<vs.length):=by show q<vs.length;rw[←hq];exact HM.out.2 _ (List.getElem_mem _)
   have HQ:Hid (ps.take (k+1)=ps.take k++[q]):=by show _=_;rw[pA hkl,hq]
   clear hq hkl
   go_wp2_with fail
   refine (oQ p t ⟨#[32]⟩ wr H1.out.1 H1.out.2.1 (fun hh=>by
    have:=f9 hh
    have hl:=congrArg List.length this
    rw[dB] at hl
    simp at hl
    show 1<=_
    omega)).mono ?_
   rintro e w1 ⟨S1,hor⟩
   rcases hor with ⟨hp1,rfl,R1⟩|⟨hp1,t9,p9,rfl⟩
   ·obtain ⟨u,hu⟩:∃u,t.extract 1 t.size=u:=⟨_,rfl⟩
    have HU:Hid (u.data.toList=t.data.toList.drop 1):=by show _=_;rw[←hu,ig,List.take_of_length_le (by simp)]
    have hu':t.extract (⟨#[32]⟩:ByteArray).size t.size=u:=hu
    rw[hu'] at R1
    have H2:Hid (bp w1 p u/\ba w1/\ah w1 R (cK vs (ps.take k) pre)/\iL p R w w1/\Lib.hasPrefix t.data.toList [32]=true):=⟨R1,H1.out.2.1.stp S1 h7,H1.out.2.2.1.stp S1 (by omega),H1.out.2.2.2.trans (iL.ofStp S1),hp1⟩
    clear S1 R1 H1 hp1 hu hu'
    go_wp2_with fail
    refine (oy p u w1 H2.out.1 H2.out.2.1).mono ?_
    rintro e w2 ⟨S2,hor⟩
    rcases hor with ⟨n,v,hn,hv,rfl,R2⟩|⟨hn,t9,p9,rfl⟩
    ·have V2:=H2.out.2.2.1.stp S2 (by omega)
     have HN2:Hid (lH m s.data.toList (k+1) (pre++[n]) v.data.toList):=by
      have:=HN.out.step hlt H2.out.2.2.2.2 (m:=n) (by rw[←HU.out];exact dU hn)
      rw[hv,HU.out]
      exact this
     obtain ⟨z,hz⟩:∃z,w2.cell? ⟨R,q,none⟩=some z:=⟨_,V2.1 q _ (List.getElem?_eq_getElem (by rw[jv];exact hqv.out))⟩
     have hfz:=V2.2.1 q
     have H3:Hid (bp (w2.setCell ⟨R,q,none⟩ (.int .i64 n)) p v/\ba (w2.setCell ⟨R,q,none⟩ (.int .i64 n))/\ah (w2.setCell ⟨R,q,none⟩ (.int .i64 n)) R (cK vs (ps.take (k+1)) (pre++[n]))/\iL p R w (w2.setCell ⟨R,q,none⟩ (.int .i64 n))):=by
      refine ⟨R2.far (by omega) _ _,(H2.out.2.1.stp S2 h7).far (by omega) _ _,?_,(H2.out.2.2.2.1.trans (iL.ofStp S2)).setCell _ _⟩
      have:=V2.set q (.int .i64 n)
      rw[HQ.out,it _ _ _ _ _ (by rw[List.length_take,HM.out.1,HN.out.1];omega)]
      exact this
     clear S2 R2 V2 H2 hn hv HN HU
     go_wp2
     go_roundw
     case rel=>exact ⟨k+1,v,pre++[n],by omega,by go_num,HN2,H3⟩
     case measure=>simp[intOf];omega
    ·have FI:Hid (nZ w p R s vs ps (.panicked [{v:=.iface t9 p9,recovered:=false}]) w2):=⟨H2.out.2.2.2.1.trans (iL.ofStp S2),Or.inr ⟨by
      rw[HM.out.1]
      refine HN.out.noNum hlt H2.out.2.2.2.2 ?_
      rw[←HU.out]
      cases hi:fd (bk u.data.toList) with
      | none=>rfl
      | some y=>exact absurd (jn hi) (hn y),t9,p9,rfl⟩⟩
     exact ⟨rfl,FI.out⟩
   ·have FI:Hid (nZ w p R s vs ps (.panicked [{v:=.iface t9 p9,recovered:=false}]) w1):=⟨H1.out.2.2.2.trans (iL.ofStp S1),Or.inr ⟨by rw[HM.out.1];exact HN.out.noBlank hlt hp1,t9,p9,rfl⟩⟩
    exact ⟨rfl,FI.out⟩
  ·obtain rfl:k=m:=by omega
   have FI:Hid (nZ w p R s vs ps (.returned (.tuple #[])) wr):=⟨H1.out.2.2.2,Or.inl ⟨pre,t,by rw[HM.out.1];exact HN.out.over,rfl,H1.out.1,H1.out.2.1,by have:=H1.out.2.2.1;rwa [List.take_of_length_le (by rw[HM.out.1];exact Nat.le_refl _)] at this⟩⟩
   clear HN H1 H0
   go_wp2
   refine bodyPost_end (results_none rfl _ _ _) rfl ?_
   exact FI.out
end
section
open Go.RowKit
set_option maxRecDepth 8000
def dt (i:Nat):List Value:=if i<3 then bZ (20+(i:Int)) else bl 19 ⟨(i:Int)-2,0,0,0,0⟩ ⟨0,0,0,0,0,0,0⟩ 0
theorem gW (i:Nat):(dt i).length=14:=by unfold dt;split <;>rfl
def fC (n:Nat):List Value:=(List.range n).flatMap dt
theorem gg (n:Nat):fC (n+1)=fC n++dt n:=by simp[fC,List.range_succ,List.flatMap_append]
theorem gX (n:Nat):(fC n).length=n*14:=by
 induction n with
 | zero=>rfl
 | succ n ih=>rw[gg,List.length_append,ih,gW];omega
theorem km:∀(n i j:Nat),i<n->j<14->(fC n)[i*14+j]? =(dt i)[j]?
 | 0,i,j,h,_=>by omega
 | n+1,i,j,h,hj=>by
  rw[gg]
  by_cases e:i=n
  ·subst e
   rw[List.getElem?_append_right (by rw[gX];omega),gX]
   congr 1
   omega
  ·rw[List.getElem?_append_left (by rw[gX];omega)]
   exact km n i j (by omega) hj
theorem tx:(Tryz.prog.info? 37).map (fun i=>(i.zero,i.size,i.bytes))=some (some (.agg (bZ 0).toArray),14,112):=by kernel_rfl
def eC (w:World) (g:Nat):Prop:=g<w.heap.size/\∀i j v,i<13->(dt i)[j]? =some v->w.cell? ⟨g,i*14+j,none⟩=some v
def lG (w:World) (e:Ending) (w':World):Prop:=∃g cap,e=.returned (.slice (some ⟨g,0,none⟩) 13 cap)/\w.heap.size<=g/\eC w' g/\Below w.heap.size w w'
theorem eC.of {w:World} {B g cap:Nat} (h:w.ownsRow B 37 14 (.slice (some ⟨g,0,none⟩) 13 cap) 13 (fC 13)):eC w g:=by
 refine ⟨(World.ownsRow.lt h g rfl).2,fun i j v hi hv=>?_⟩
 have hj:j<14:=by
  by_cases e:j<14
  ·exact e
  ·rw[List.getElem?_eq_none (by rw[gW];omega)] at hv;cases hv
 rw[World.ownsRow.cellAt h (i*14+j) (by omega),km 13 i j hi hj]
 exact hv
set_option maxHeartbeats 2000000 in
theorem tB (w:World):Calls Tryz.prog 73 #[] w fun e w'=>lG w e w':=by
 obtain ⟨i0,hi,hz0,hz1,hz2⟩:=info_parts tx
 have A0:Hid ((w.alloc (.cells (fC 3).toArray 37)).ownsRow w.heap.size 37 14 (.slice (some ⟨w.heap.size,0,none⟩) 3 3) 3 (fC 3)):=World.ownsRow_lit w (fC 3).toArray 3 (Nat.le_refl _) (by unfold maxLen;omega) (by rfl)
 go_enter Tryz.func73,Tryz.ntmps73
 go_wp2
 go_loopw[1,2] (fun v kv wr=>∃(k g cap:Nat),1<=k/\k<=11/\kv=.int .i64 k/\v=.slice (some ⟨g,0,none⟩) (k+2) cap/\Hid (wr.ownsRow w.heap.size 37 14 (.slice (some ⟨g,0,none⟩) (k+2) cap) (k+2) (fC (k+2)))/\Hid (Below w.heap.size w wr)) (fun _ kv _=>11-(intOf kv).toNat)
 case atStart=>exact ⟨1,_,_,by omega,by omega,rfl,rfl,A0,(Below.refl _ _).alloc (Nat.le_refl _) _⟩
 case round=>
  obtain ⟨k,g,cap,hk1,hk2,rfl,rfl,hA,hB⟩:=hrel
  clear A0
  by_cases hlt:k<=10
  ·have HG:Hid (w.heap.size<=g/\g<wr.heap.size):=World.ownsRow.lt hA.out g rfl
   have HK:Hid (dt (k+2)=bl 19 ⟨(k:Int),0,0,0,0⟩ ⟨0,0,0,0,0,0,0⟩ 0):=by
    show _=_
    unfold dt
    rw[if_neg (by omega)]
    simp
   go_wp2_with (at_builtin;refine wpList_append_own _ rfl _ _ 111 rfl w.heap.size 37 i0 _ 14 112 Tryz.underlying111 hi hz0 hz1 hz2 rfl (by decide) _ _ _ rfl (World.ownsRow.alloc hA.out _) ⟨_,0,none⟩ 1 1 (bl 19 ⟨(k:Int),0,0,0,0⟩ ⟨0,0,0,0,0,0,0⟩ 0) rfl rfl ?_ ?_ ?_ ?_ ?_ ?_)
   ·intro j u hj
    have:=(ah.new wr (bl 19 ⟨(k:Int),0,0,0,0⟩ ⟨0,0,0,0,0,0,0⟩ 0) 37).1 j u hj
    have e:(⟨wr.heap.size,0,none⟩:Addr).add j=⟨wr.heap.size,j,none⟩:=by cases j <;>simp[Addr.add]
    rw[e]
    exact this
   ·intro u hu
    simp only[List.mem_cons,List.not_mem_nil,or_false] at hu
    rcases hu with e|e|e|e|e|e|e|e|e|e|e|e|e|e <;>subst e <;>rfl
   ·unfold maxLen;omega
   ·omega
   ·have:=hB.out.size;simp;omega
   ·intro v' w3 hown hgrow hnn
    have A3:Hid (w3.ownsRow w.heap.size 37 14 v' (k+1+2) (fC (k+1+2))):=by
     show w3.ownsRow _ _ _ _ _ _
     rw[show k+1+2=(k+2)+1 by omega,gg,HK.out]
     simpa using hown
    have B3:Hid (Below w.heap.size w w3):=(hB.out.alloc hB.out.size _).grown hgrow (by have:=hB.out.size;simp;omega) (fun q hq=>by simp[Value.ownBlock] at hq;have:=HG.out.1;omega)
    obtain ⟨g',cap',hv'⟩:∃g' cap',v'=.slice (some ⟨g',0,none⟩) (k+1+2) cap':=by
     rcases A3.out.2 with ⟨hv,_⟩|⟨g',cap',_,hv,_⟩
     ·exact absurd hv hnn
     ·exact ⟨g',cap',hv⟩
    subst hv'
    clear hown hgrow hnn HG HK hA hB
    go_wp2
    go_roundw
    case rel=>exact ⟨k+1,g',cap',by omega,by omega,by go_num,rfl,A3,B3⟩
    case measure=>simp[intOf];omega
  ·obtain rfl:k=11:=by omega
   have FI:Hid (lG w (.returned (.slice (some ⟨g,0,none⟩) 13 cap)) wr):=⟨g,cap,rfl,(World.ownsRow.lt hA.out g rfl).1,eC.of hA.out,hB.out⟩
   clear hA hB
   go_wp2
   go_ret
   exact FI.out
end
section
open Go.RowKit
set_option maxRecDepth 8000
def sT:List (ByteArray×List Nat):=[(⟨#[111,114,100,101,114]⟩,[6,7,8,9,10,11,12]),(⟨#[99,97,110,99,101,108]⟩,[13]),(⟨#[100,97,121]⟩,[]),(⟨#[111,112,101,110]⟩,[2,3,4,5]),(⟨#[102,114,101,101,122,101]⟩,[2]),(⟨#[116,104,97,119]⟩,[2]),(⟨#[99,108,111,115,101]⟩,[2]),(⟨#[112,117,116]⟩,[2,4]),(⟨#[116,97,107,101]⟩,[2,4]),(⟨#[112,97,121]⟩,[2,3,4]),(⟨#[108,105,109,105,116]⟩,[2,4]),(⟨#[104,97,110,103]⟩,[2,3]),(⟨#[116,97,114,103,101,116]⟩,[2,4])]
def cB (i:Nat):ByteArray:=(sT.getD i (⟨#[]⟩,[])).1
def gn (i:Nat):List Nat:=(sT.getD i (⟨#[]⟩,[])).2
theorem qb {i:Nat} (h:i<13):i=0\/i=1\/i=2\/i=3\/i=4\/i=5\/i=6\/i=7\/i=8\/i=9\/i=10\/i=11\/i=12:=by omega
theorem qJ:∀i,i<13->∀j,j<13->cB i=cB j->i=j:=by decide
theorem nK:∀i,i<13->(∀q ∈ gn i,q<14)/\(gn i).length<=7:=by decide
def eS (i:Nat):Int:=if i<3 then 20+(i:Int) else 19
def m9 (i:Nat):Int:=if i<3 then 0 else (i:Int)-2
theorem m8 (i:Nat):dt i=bl (eS i) ⟨m9 i,0,0,0,0⟩ ⟨0,0,0,0,0,0,0⟩ 0:=by
 unfold dt eS m9
 split <;>rfl
theorem pX {K n K' n':Int} {x x':bB} {o o':am} (h:bl K x o n=bl K' x' o' n'):K=K'/\x=x'/\o=o'/\n=n':=by
 obtain ⟨a,b,c,d,e⟩:=x
 obtain ⟨a',b',c',d',e'⟩:=x'
 obtain ⟨f,g,i,j,k,l,m⟩:=o
 obtain ⟨f',g',i',j',k',l',m'⟩:=o'
 simp at h
 simp[h]
theorem dg {K n:Int} {x:bB} {o:am} (h:aA K x o n):∃i,i<13/\(bm K x o n).1=cB i/\(bm K x o n).2.length=(gn i).length/\cK (dt i) (gn i) (bm K x o n).2=bl K x o n:=by
 rcases h with ⟨rfl,h1,h2,h3⟩|⟨rfl,h1,h2,h3⟩|⟨rfl,h1,h2,h3⟩|⟨rfl,h1,h2,h3⟩
 ·obtain ⟨k,i,t,m,r⟩:=x
  obtain ⟨a1,a2,a3,a4,a5,a6,a7⟩:=o
  unfold db at h2
  simp only at h2
  obtain ⟨rfl,rfl,rfl,rfl,rfl,rfl,rfl⟩:=h2
  subst h3
  have h5:=h1.2
  simp only at h5
  have h4:k=1\/k=2\/k=3\/k=4\/k=5\/k=6\/k=7\/k=8\/k=9\/k=10:=by omega
  rcases h4 with rfl|rfl|rfl|rfl|rfl|rfl|rfl|rfl|rfl|rfl
  ·exact ⟨3,by omega,rfl,rfl,rfl⟩
  ·obtain ⟨rfl,rfl,rfl⟩:t=0/\m=0/\r=0:=by omega
   exact ⟨4,by omega,rfl,rfl,rfl⟩
  ·obtain ⟨rfl,rfl,rfl⟩:t=0/\m=0/\r=0:=by omega
   exact ⟨5,by omega,rfl,rfl,rfl⟩
  ·obtain ⟨rfl,rfl,rfl⟩:t=0/\m=0/\r=0:=by omega
   exact ⟨6,by omega,rfl,rfl,rfl⟩
  ·obtain ⟨rfl,rfl⟩:t=0/\r=0:=by omega
   exact ⟨7,by omega,rfl,rfl,rfl⟩
  ·obtain ⟨rfl,rfl⟩:t=0/\r=0:=by omega
   exact ⟨8,by omega,rfl,rfl,rfl⟩
  ·obtain rfl:r=0:=by omega
   exact ⟨9,by omega,rfl,rfl,rfl⟩
  ·obtain ⟨rfl,rfl⟩:t=0/\r=0:=by omega
   exact ⟨10,by omega,rfl,rfl,rfl⟩
  ·obtain ⟨rfl,rfl⟩:m=0/\r=0:=by omega
   exact ⟨11,by omega,rfl,rfl,rfl⟩
  ·obtain ⟨rfl,rfl⟩:t=0/\r=0:=by omega
   exact ⟨12,by omega,rfl,rfl,rfl⟩
 ·obtain ⟨k,i,t,m,r⟩:=x
  unfold dc at h1
  simp only at h1
  obtain ⟨rfl,rfl,rfl,rfl,rfl⟩:=h1
  subst h3
  exact ⟨0,by omega,rfl,rfl,rfl⟩
 ·obtain ⟨k,i,t,m,r⟩:=x
  obtain ⟨a1,a2,a3,a4,a5,a6,a7⟩:=o
  unfold dc at h1
  unfold db at h2
  simp only at h1 h2
  obtain ⟨rfl,rfl,rfl,rfl,rfl⟩:=h1
  obtain ⟨rfl,rfl,rfl,rfl,rfl,rfl,rfl⟩:=h2
  exact ⟨1,by omega,rfl,rfl,rfl⟩
 ·obtain ⟨k,i,t,m,r⟩:=x
  obtain ⟨a1,a2,a3,a4,a5,a6,a7⟩:=o
  unfold dc at h1
  unfold db at h2
  simp only at h1 h2
  obtain ⟨rfl,rfl,rfl,rfl,rfl⟩:=h1
  obtain ⟨rfl,rfl,rfl,rfl,rfl,rfl,rfl⟩:=h2
  subst h3
  exact ⟨2,by omega,rfl,rfl,rfl⟩
theorem ah.bx {w:World} {R:Nat} {K n:Int} {x:bB} {o:am} (h:ah w R (bl K x o n)):aG w R K x o n:=⟨⟨h.1 0 _ rfl,h.1 1 _ rfl,h.1 2 _ rfl,h.1 3 _ rfl,h.1 4 _ rfl,h.1 5 _ rfl,h.1 6 _ rfl,h.1 7 _ rfl,h.1 8 _ rfl,h.1 9 _ rfl,h.1 10 _ rfl,h.1 11 _ rfl,h.1 12 _ rfl,h.1 13 _ rfl⟩,h.2.2⟩
theorem tU (i:Nat) (hi:i<13) (R:Nat) (w:World) (h:ah w R (dt i)):Calls Tryz.prog 33 #[.pointer (some ⟨R,0,none⟩)] w fun e w'=>aC w R (cB i) (gn i) e w':=by
 rcases qb hi with rfl|rfl|rfl|rfl|rfl|rfl|rfl|rfl|rfl|rfl|rfl|rfl|rfl
 ·exact oi R 0 _ _ w (ah.bx (x:=⟨0,0,0,0,0⟩) (o:=⟨0,0,0,0,0,0,0⟩) h)
 ·exact oj R 0 _ _ w (ah.bx (x:=⟨0,0,0,0,0⟩) (o:=⟨0,0,0,0,0,0,0⟩) h)
 ·exact ol R 0 _ _ w (ah.bx (x:=⟨0,0,0,0,0⟩) (o:=⟨0,0,0,0,0,0,0⟩) h)
 ·exact bC R 0 ⟨1,0,0,0,0⟩ ⟨0,0,0,0,0,0,0⟩ w (ah.bx h) _ _ (fun w hb=>mc R 19 0 _ _ w hb rfl)
 ·exact bC R 0 ⟨2,0,0,0,0⟩ ⟨0,0,0,0,0,0,0⟩ w (ah.bx h) _ _ (fun w hb=>md R 19 0 _ _ w hb rfl)
 ·exact bC R 0 ⟨3,0,0,0,0⟩ ⟨0,0,0,0,0,0,0⟩ w (ah.bx h) _ _ (fun w hb=>me R 19 0 _ _ w hb rfl)
 ·exact bC R 0 ⟨4,0,0,0,0⟩ ⟨0,0,0,0,0,0,0⟩ w (ah.bx h) _ _ (fun w hb=>mf R 19 0 _ _ w hb rfl)
 ·exact bC R 0 ⟨5,0,0,0,0⟩ ⟨0,0,0,0,0,0,0⟩ w (ah.bx h) _ _ (fun w hb=>mg R 19 0 _ _ w hb rfl)
 ·exact bC R 0 ⟨6,0,0,0,0⟩ ⟨0,0,0,0,0,0,0⟩ w (ah.bx h) _ _ (fun w hb=>mh R 19 0 _ _ w hb rfl)
 ·exact bC R 0 ⟨7,0,0,0,0⟩ ⟨0,0,0,0,0,0,0⟩ w (ah.bx h) _ _ (fun w hb=>mj R 19 0 _ _ w hb rfl)
 ·exact bC R 0 ⟨8,0,0,0,0⟩ ⟨0,0,0,0,0,0,0⟩ w (ah.bx h) _ _ (fun w hb=>ml R 19 0 _ _ w hb rfl)
 ·exact bC R 0 ⟨9,0,0,0,0⟩ ⟨0,0,0,0,0,0,0⟩ w (ah.bx h) _ _ (fun w hb=>mm R 19 0 _ _ w hb rfl)
 ·exact bC R 0 ⟨10,0,0,0,0⟩ ⟨0,0,0,0,0,0,0⟩ w (ah.bx h) _ _ (fun w hb=>kp R 19 0 _ _ w hb rfl)
theorem qG {ns:List Int} (h:ns.length=1):∃a,ns=[a]:=by
 match ns,h with
 | [a],_=>exact ⟨a,rfl⟩
theorem pk {ns:List Int} (h:ns.length=2):∃a b,ns=[a,b]:=by
 match ns,h with
 | [a,b],_=>exact ⟨a,b,rfl⟩
theorem tY {ns:List Int} (h:ns.length=3):∃a b c,ns=[a,b,c]:=by
 match ns,h with
 | [a,b,c],_=>exact ⟨a,b,c,rfl⟩
theorem tZ {ns:List Int} (h:ns.length=4):∃a b c d,ns=[a,b,c,d]:=by
 match ns,h with
 | [a,b,c,d],_=>exact ⟨a,b,c,d,rfl⟩
theorem u0 {ns:List Int} (h:ns.length=7):∃a b c d e f g,ns=[a,b,c,d,e,f,g]:=by
 match ns,h with
 | [a,b,c,d,e,f,g],_=>exact ⟨a,b,c,d,e,f,g,rfl⟩
theorem ui (i:Nat) (hi:i<13) (ns:List Int) (hl:ns.length=(gn i).length):∃x o n,cK (dt i) (gn i) ns=bl (eS i) x o n/\bm (eS i) x o n=(cB i,ns):=by
 rcases qb hi with rfl|rfl|rfl|rfl|rfl|rfl|rfl|rfl|rfl|rfl|rfl|rfl|rfl
 ·obtain ⟨a,b,c,d,e,f,g,rfl⟩:∃a b c d e f g,ns=[a,b,c,d,e,f,g]:=u0 hl
  exact ⟨⟨0,0,0,0,0⟩,⟨a,b,c,d,e,f,g⟩,0,rfl,rfl⟩
 ·obtain ⟨a,rfl⟩:∃a,ns=[a]:=qG hl
  exact ⟨⟨0,0,0,0,0⟩,⟨0,0,0,0,0,0,0⟩,a,rfl,rfl⟩
 ·obtain rfl:ns=[]:=List.length_eq_zero_iff.1 hl
  exact ⟨⟨0,0,0,0,0⟩,⟨0,0,0,0,0,0,0⟩,0,rfl,rfl⟩
 ·obtain ⟨a,b,c,d,rfl⟩:∃a b c d,ns=[a,b,c,d]:=tZ hl
  exact ⟨⟨1,a,b,c,d⟩,⟨0,0,0,0,0,0,0⟩,0,rfl,rfl⟩
 ·obtain ⟨a,rfl⟩:∃a,ns=[a]:=qG hl
  exact ⟨⟨2,a,0,0,0⟩,⟨0,0,0,0,0,0,0⟩,0,rfl,rfl⟩
 ·obtain ⟨a,rfl⟩:∃a,ns=[a]:=qG hl
  exact ⟨⟨3,a,0,0,0⟩,⟨0,0,0,0,0,0,0⟩,0,rfl,rfl⟩
 ·obtain ⟨a,rfl⟩:∃a,ns=[a]:=qG hl
  exact ⟨⟨4,a,0,0,0⟩,⟨0,0,0,0,0,0,0⟩,0,rfl,rfl⟩
 ·obtain ⟨a,b,rfl⟩:∃a b,ns=[a,b]:=pk hl
  exact ⟨⟨5,a,0,b,0⟩,⟨0,0,0,0,0,0,0⟩,0,rfl,rfl⟩
 ·obtain ⟨a,b,rfl⟩:∃a b,ns=[a,b]:=pk hl
  exact ⟨⟨6,a,0,b,0⟩,⟨0,0,0,0,0,0,0⟩,0,rfl,rfl⟩
 ·obtain ⟨a,b,c,rfl⟩:∃a b c,ns=[a,b,c]:=tY hl
  exact ⟨⟨7,a,b,c,0⟩,⟨0,0,0,0,0,0,0⟩,0,rfl,rfl⟩
 ·obtain ⟨a,b,rfl⟩:∃a b,ns=[a,b]:=pk hl
  exact ⟨⟨8,a,0,b,0⟩,⟨0,0,0,0,0,0,0⟩,0,rfl,rfl⟩
 ·obtain ⟨a,b,rfl⟩:∃a b,ns=[a,b]:=pk hl
  exact ⟨⟨9,a,b,0,0⟩,⟨0,0,0,0,0,0,0⟩,0,rfl,rfl⟩
 ·obtain ⟨a,b,rfl⟩:∃a b,ns=[a,b]:=pk hl
  exact ⟨⟨10,a,0,b,0⟩,⟨0,0,0,0,0,0,0⟩,0,rfl,rfl⟩
end
section
open Value renaming int → Ii,slice → Sl
open IntKind renaming i64 → Jj
open Go.RowKit
set_option maxRecDepth 8000
def aY (s:List UInt8) (K:Int) (x:bB) (o:am) (n:Int) (t:List UInt8):Prop:=aA K x o n/\bk s=(bm K x o n).1.data.toList/\aH (bm K x o n).2.length (bY s)=some ((bm K x o n).2,t)
def tP (w:World) (p:Nat) (s:ByteArray) (e:Ending) (w':World):Prop:=an p w w'/\((∃(K:Int) (x:bB) (o:am) (n:Int) (t:ByteArray),aY s.data.toList K x o n t.data.toList/\e=.returned (.agg (bl K x o n).toArray)/\bp w' p t/\ba w')\/((∀K x o n t,¬aY s.data.toList K x o n t)/\lI e))
theorem qN {s:List UInt8} {wd:ByteArray} (hw:wd.data.toList=bk s) (h:∀j,j<13->cB j≠wd):∀K x o n t,¬aY s K x o n t:=by
 intro K x o n t ⟨h1,h2,_⟩
 obtain ⟨i,hi,e,_⟩:=dg h1
 exact h i hi (ca (by rw[←e,←h2,hw]))
theorem eg {s:List UInt8} {wd:ByteArray} {i:Nat} (hw:wd.data.toList=bk s) (hi:i<13) (he:cB i=wd) {K n:Int} {x:bB} {o:am} {t:List UInt8} (h:aY s K x o n t):aH (gn i).length (bY s)=some ((bm K x o n).2,t)/\cK (dt i) (gn i) (bm K x o n).2=bl K x o n:=by
 obtain ⟨h1,h2,h3⟩:=h
 obtain ⟨j,hj,e,hl,hf⟩:=dg h1
 obtain rfl:i=j:=qJ i hi j hj (by rw[he,←e];exact ca (by rw[hw,h2]))
 rw[←hl]
 exact ⟨h3,hf⟩
theorem oO {p R:Nat} {w w1 w2:World} (h:an p w w1) (k:iL p R w1 w2) (hR:w.heap.size<=R):an p w w2:=
 ⟨k.os.trans h.os,k.tape.trans h.tape,k.output.trans h.output,Nat.le_trans h.size k.size,fun j hj hp=>(k.block j (Nat.lt_of_lt_of_le hj h.size) hp (by omega)).trans (h.block j hj hp)⟩
theorem ah.stq {w w':World} {p R Q:Nat} {vs:List Value} (h:ah w Q vs) (hs:iL p R w w') (h1:Q≠p) (h2:Q≠R):ah w' Q vs:=
 ⟨fun j v hj=>(World.cell?_of_block (w:=w) (hs.block Q h.2.2 h1 h2)).trans (h.1 j v hj),fun o=>(World.frozen?_of_block (w:=w) (hs.block Q h.2.2 h1 h2)).trans (h.2.1 o),Nat.lt_of_lt_of_le h.2.2 hs.size⟩
theorem eC.below {w w':World} {g:Nat} (h:eC w g) (hb:Below w.heap.size w w'):eC w' g:=⟨Nat.lt_of_lt_of_le h.1 hb.size,fun i j v hi hv=>(hb.cell (p:=⟨g,i*14+j,none⟩) h.1).trans (h.2 i j v hi hv)⟩
def sP (w:World) (p g:Nat) (u:ByteArray) (wr:World):Prop:=bp wr p u/\ba wr/\eC wr g/\an p w wr/\ah wr w.heap.size (bZ 0)
theorem sP.below {w wr w':World} {p g:Nat} {u:ByteArray} (h:sP w p g u wr) (hb:Below wr.heap.size wr w'):sP w p g u w':=⟨h.1.below hb,h.2.1.below hb,h.2.2.1.below hb,h.2.2.2.1.trans (an.ofBelow hb),h.2.2.2.2.kept hb h.2.2.2.2.2.2⟩
theorem tT {w w5:World} {p R r:Nat} {K nn:Int} {x:bB} {od:am} {s t:ByteArray} (h:bp w5 p t/\ba w5/\an p w w5/\ah w5 R (bl K x od nn)/\ah w5 r (bZ 0)) (hR:aY s.data.toList K x od nn t.data.toList) (hr:w.heap.size=r) (hp:p<r):
  tP w p s (.returned (.agg (bl K x od nn).toArray)) (((((((((((((((w5).setCell ⟨r,0,none⟩ (Ii Jj K)).setCell ⟨r,1,none⟩ (Ii Jj x.k)).setCell ⟨r,2,none⟩ (Ii Jj x.i)).setCell ⟨r,3,none⟩ (Ii Jj x.t)).setCell ⟨r,4,none⟩ (Ii Jj x.m)).setCell ⟨r,5,none⟩ (Ii Jj x.r)).setCell ⟨r,6,none⟩ (Ii Jj od.id)).setCell ⟨r,7,none⟩ (Ii Jj od.src)).setCell ⟨r,8,none⟩ (Ii Jj od.dst)).setCell ⟨r,9,none⟩ (Ii Jj od.amount)).setCell ⟨r,10,none⟩ (Ii Jj od.first)).setCell ⟨r,11,none⟩ (Ii Jj od.every)).setCell ⟨r,12,none⟩ (Ii Jj od.times)).setCell ⟨r,13,none⟩ (Ii Jj nn)):=by
 have h7:=h.1.2.2.1
 have k1:∀{W:World} (o:Nat) (v:Value),bp W p t/\ba W/\an p w W->bp (W.setCell ⟨r,o,none⟩ v) p t/\ba (W.setCell ⟨r,o,none⟩ v)/\an p w (W.setCell ⟨r,o,none⟩ v):=fun o v k=>⟨k.1.far (by omega) o v,k.2.1.far (by omega) o v,k.2.2.setNew (p:=⟨r,o,none⟩) (by show w.heap.size<=r;omega) v⟩
 have k:=k1 13 (Ii Jj nn) (k1 12 (Ii Jj od.times) (k1 11 (Ii Jj od.every) (k1 10 (Ii Jj od.first) (k1 9 (Ii Jj od.amount) (k1 8 (Ii Jj od.dst) (k1 7 (Ii Jj od.src) (k1 6 (Ii Jj od.id) (k1 5 (Ii Jj x.r) (k1 4 (Ii Jj x.m) (k1 3 (Ii Jj x.t) (k1 2 (Ii Jj x.i) (k1 1 (Ii Jj x.k) (k1 0 (Ii Jj K) ((⟨h.1,h.2.1,h.2.2.1⟩:bp w5 p t/\ba w5/\an p w w5)))))))))))))))
 exact ⟨k.2.2,Or.inl ⟨K,x,od,nn,t,hR,rfl,k.1,k.2.1⟩⟩
set_option maxHeartbeats 4000000 in
theorem rP (p:Nat) (s:ByteArray) (w:World) (h:bp w p s) (g0:ba w):Calls Tryz.prog 35 #[.pointer (some ⟨p,0,none⟩)] w fun e w'=>tP w p s e w':=by
 obtain ⟨W0,hW0,X0⟩:∃W0,W0=w.alloc (.cells (bZ 0).toArray 37)/\Hid (bp W0 p s/\ba W0/\an p w W0/\ah W0 w.heap.size (bZ 0)/\p<w.heap.size):=by
  have hb:Below w.heap.size w (w.alloc (.cells (bZ 0).toArray 37)):=(Below.refl _ _).alloc (Nat.le_refl _) _
  exact ⟨_,rfl,h.below hb,g0.below hb,an.ofBelow hb,ah.new _ _ _,h.2.2.2.1⟩
 have HW0:Hid (W0=_):=hW0
 clear hW0 h g0
 go_enter Tryz.func35,Tryz.ntmps35
 go_wp2_with fail
 rw[←HW0.out]
 refine (t8 p s W0 X0.out.1).mono ?_
 rintro e w1 ⟨wd,u,rfl,hwd,hu,_,R1,S1⟩
 have X1:Hid (bp w1 p u/\ba w1/\an p w w1/\ah w1 w.heap.size (bZ 0)/\p<w.heap.size):=⟨R1,X0.out.2.1.stp S1 R1.2.2.1,X0.out.2.2.1.trans S1,X0.out.2.2.2.1.stp S1 (by have:=X0.out.2.2.2.2;omega),X0.out.2.2.2.2⟩
 have HWD:Hid (wd.data.toList=bk s.data.toList/\u.data.toList=bY s.data.toList):=⟨hwd,hu⟩
 clear R1 S1 X0 HW0 hwd hu
 go_wp2_with fail
 refine (tB w1).mono ?_
 rintro e w2 ⟨g,cap,rfl,hg,hk,B2⟩
 have X2:Hid (sP w p g u w2/\p<w.heap.size/\w.heap.size<g):=⟨⟨X1.out.1.below B2,X1.out.2.1.below B2,hk,X1.out.2.2.1.trans (an.ofBelow B2),X1.out.2.2.2.1.kept B2 X1.out.2.2.2.1.2.2⟩,X1.out.2.2.2.2,by have:=X1.out.2.2.2.1.2.2;omega⟩
 have hpw:p<w.heap.size:=X2.out.2.1
 have h7:7<=p:=X2.out.1.1.2.2.1
 have hgw:w.heap.size<g:=X2.out.2.2
 obtain ⟨r,hr⟩:∃r,w.heap.size=r:=⟨_,rfl⟩
 have HR:Hid (w.heap.size=r):=hr
 rw[hr] at hpw hgw ⊢
 clear hk B2 X1 hg hr
 go_wp2
 go_loopw[12] (fun iv wr=>∃i:Nat,i<=13/\iv=Ii Jj i/\Hid (∀j,j<i->cB j≠wd)/\Hid (sP w p g u wr)) (fun iv _=>13-(intOf iv).toNat)
 case atStart=>exact ⟨0,Nat.zero_le _,rfl,(fun j hj=>by omega:∀j,j<0->cB j≠wd),X2.out.1⟩
 case round=>
  obtain ⟨i,hi,rfl,HN,HA⟩:=hrel
  clear X2
  by_cases hlt:i<13
  ·have CC:Hid (∀j v,(dt i)[j]? =some v->wr.cell? ⟨g,i*14+j,none⟩=some v):=fun j v hv=>HA.out.2.2.1.2 i j v hlt hv
   rw[m8] at CC
   have c0:wr.cell? ⟨g,i*14,none⟩=some (Ii Jj (eS i)):=CC.out 0 _ rfl
   have c1:=CC.out 1 _ rfl
   have c2:=CC.out 2 _ rfl
   have c3:=CC.out 3 _ rfl
   have c4:=CC.out 4 _ rfl
   have c5:=CC.out 5 _ rfl
   have c6:=CC.out 6 _ rfl
   have c7:=CC.out 7 _ rfl
   have c8:=CC.out 8 _ rfl
   have c9:=CC.out 9 _ rfl
   have c10:=CC.out 10 _ rfl
   have c11:=CC.out 11 _ rfl
   have c12:=CC.out 12 _ rfl
   have c13:=CC.out 13 _ rfl
   obtain ⟨V,hV,XV⟩:∃V,V=wr.alloc (.cells (bl (eS i) ⟨m9 i,0,0,0,0⟩ ⟨0,0,0,0,0,0,0⟩ 0).toArray 37)/\Hid (sP w p g u V/\ah V wr.heap.size (dt i)/\r<wr.heap.size):=by
    have hb:Below wr.heap.size wr (wr.alloc (.cells (bl (eS i) ⟨m9 i,0,0,0,0⟩ ⟨0,0,0,0,0,0,0⟩ 0).toArray 37)):=(Below.refl _ _).alloc (Nat.le_refl _) _
    exact ⟨_,rfl,HA.out.below hb,by rw[m8];exact ah.new _ _ _,by have:=HA.out.2.2.2.2.2.2;rw[HR.out] at this;exact this⟩
   have HV:Hid (V=_):=hV
   clear hV CC
   generalize eS i=K at*
   generalize m9 i=kx at*
   go_upto_region 5 with fail
   rw[←HV.out]
   clear HV c0 c1 c2 c3 c4 c5 c6 c7 c8 c9 c10 c11 c12 c13
   obtain ⟨R,hRR⟩:∃R,wr.heap.size=R:=⟨_,rfl⟩
   rw[hRR] at XV ⊢
   have hrR:r<R:=XV.out.2.2
   clear hRR HA
   go_wp2_with fail
   refine (tU i hlt R V XV.out.2.1).mono ?_
   rintro e w3 ⟨a,c,rfl,P3,B3⟩
   have X3:Hid (sP w p g u w3/\ah w3 R (dt i)/\eh w3 a R (gn i)):=⟨XV.out.1.below B3,XV.out.2.1.kept B3 XV.out.2.1.2.2,P3⟩
   clear B3 P3 XV
   by_cases he:cB i=wd
   ·have HE:Hid (cB i=wd):=he
    obtain ⟨m,hm⟩:∃m,(gn i).length=m:=⟨_,rfl⟩
    have HMM:Hid ((gn i).length=m):=hm
    rw[hm,he]
    clear hm he HN
    go_wp2_with fail
    have CN:=qQ p R a c u (dt i) (gn i) w3 X3.out.1.1 X3.out.1.2.1 X3.out.2.2 X3.out.2.1 (by omega) (fun q hq=>by rw[gW];exact (nK i hlt).1 q hq) (by have:=(nK i hlt).2;omega)
    rw[HMM.out] at CN
    refine CN.mono ?_
    rintro e w4 ⟨Q4,hor⟩
    clear CN
    rcases hor with ⟨ns,t,hns,rfl,R4,G4,V4⟩|⟨hns,t9,p9,rfl⟩
    ·obtain ⟨x,od,nn,hbl,hbw⟩:=ui i hlt ns (dW _ _ _ _ hns).2.1
     rw[hbl] at V4
     have X4:Hid (bp w4 p t/\ba w4/\an p w w4/\ah w4 R (bl (eS i) x od nn)/\ah w4 r (bZ 0)):=⟨R4,G4,oO X3.out.1.2.2.2.1 Q4 (by rw[HR.out];omega),V4,by have:=X3.out.1.2.2.2.2;rw[HR.out] at this;exact this.stq Q4 (by omega) (by omega)⟩
     have HK:Hid ((∀K' x' o' n' t',aY s.data.toList K' x' o' n' t'->aA (eS i) x od nn)/\(aA (eS i) x od nn->aY s.data.toList (eS i) x od nn t.data.toList)):=by
      refine ⟨fun K' x' o' n' t' hh=>?_,fun hok=>⟨hok,by rw[hbw,HE.out,HWD.out.1],by rw[hbw,←HWD.out.2,(dW _ _ _ _ hns).2.1];exact hns⟩⟩
      obtain ⟨q1,q2⟩:=eg HWD.out.1 hlt HE.out hh
      rw[←HWD.out.2,hns] at q1
      have e1:ns=(bm K' x' o' n').2:=congrArg Prod.fst (Option.some.inj q1)
      rw[←e1,hbl] at q2
      obtain ⟨rfl,rfl,rfl,rfl⟩:=pX q2
      exact hh.1
     clear R4 G4 V4 hns hbl hbw X3 Q4 HE HMM
     generalize eS i=K at*
     have z0:=X4.out.2.2.2.1.1 0 _ rfl
     have z1:=X4.out.2.2.2.1.1 1 _ rfl
     have z2:=X4.out.2.2.2.1.1 2 _ rfl
     have z3:=X4.out.2.2.2.1.1 3 _ rfl
     have z4:=X4.out.2.2.2.1.1 4 _ rfl
     have z5:=X4.out.2.2.2.1.1 5 _ rfl
     have z6:=X4.out.2.2.2.1.1 6 _ rfl
     have z7:=X4.out.2.2.2.1.1 7 _ rfl
     have z8:=X4.out.2.2.2.1.1 8 _ rfl
     have z9:=X4.out.2.2.2.1.1 9 _ rfl
     have z10:=X4.out.2.2.2.1.1 10 _ rfl
     have z11:=X4.out.2.2.2.1.1 11 _ rfl
     have z12:=X4.out.2.2.2.1.1 12 _ rfl
     have z13:=X4.out.2.2.2.1.1 13 _ rfl
     go_wp2_with fail
     refine (kX K nn x od w4).mono ?_
     rintro e w5 ⟨⟨b,rfl,hb1,hb2⟩,B5⟩
     have X5:Hid (bp w5 p t/\ba w5/\an p w w5/\ah w5 R (bl K x od nn)/\ah w5 r (bZ 0)):=⟨X4.out.1.below B5,X4.out.2.1.below B5,X4.out.2.2.1.trans (an.ofBelow B5),X4.out.2.2.2.1.kept B5 X4.out.2.2.2.1.2.2,X4.out.2.2.2.2.kept B5 X4.out.2.2.2.2.2.2⟩
     clear B5 X4 z0 z1 z2 z3 z4 z5 z6 z7 z8 z9 z10 z11 z12 z13
     cases b with
     | true=>
      have HRT:Hid (aY s.data.toList K x od nn t.data.toList):=HK.out.2 (hb1 rfl)
      clear hb1 hb2 HK
      have z0:=X5.out.2.2.2.1.1 0 _ rfl
      have z1:=X5.out.2.2.2.1.1 1 _ rfl
      have z2:=X5.out.2.2.2.1.1 2 _ rfl
      have z3:=X5.out.2.2.2.1.1 3 _ rfl
      have z4:=X5.out.2.2.2.1.1 4 _ rfl
      have z5:=X5.out.2.2.2.1.1 5 _ rfl
      have z6:=X5.out.2.2.2.1.1 6 _ rfl
      have z7:=X5.out.2.2.2.1.1 7 _ rfl
      have z8:=X5.out.2.2.2.1.1 8 _ rfl
      have z9:=X5.out.2.2.2.1.1 9 _ rfl
      have z10:=X5.out.2.2.2.1.1 10 _ rfl
      have z11:=X5.out.2.2.2.1.1 11 _ rfl
      have z12:=X5.out.2.2.2.1.1 12 _ rfl
      have z13:=X5.out.2.2.2.1.1 13 _ rfl
      have r0:=X5.out.2.2.2.2.1 0 _ rfl
      have r1:=X5.out.2.2.2.2.1 1 _ rfl
      have r2:=X5.out.2.2.2.2.1 2 _ rfl
      have r3:=X5.out.2.2.2.2.1 3 _ rfl
      have r4:=X5.out.2.2.2.2.1 4 _ rfl
      have r5:=X5.out.2.2.2.2.1 5 _ rfl
      have r6:=X5.out.2.2.2.2.1 6 _ rfl
      have r7:=X5.out.2.2.2.2.1 7 _ rfl
      have r8:=X5.out.2.2.2.2.1 8 _ rfl
      have r9:=X5.out.2.2.2.2.1 9 _ rfl
      have r10:=X5.out.2.2.2.2.1 10 _ rfl
      have r11:=X5.out.2.2.2.2.1 11 _ rfl
      have r12:=X5.out.2.2.2.2.1 12 _ rfl
      have r13:=X5.out.2.2.2.2.1 13 _ rfl
      have fz:=X5.out.2.2.2.2.2.1
      have nh:¬r=R:=by omega
      go_wp2_with (go_at_call 58;refine (dY _ _).mono ?_;rintro e w3 ⟨rfl,rfl⟩)
      refine bodyPost_ret (v:=.agg (bl K x od nn).toArray) (by simp[results,Tryz.results35,go_sem,r0,r1,r2,r3,r4,r5,r6,r7,r8,r9,r10,r11,r12,r13]) rfl ?_
      exact tT X5.out HRT.out HR.out (by omega)
     | false=>
      have HNO:Hid (∀K' x' o' n' t',¬aY s.data.toList K' x' o' n' t'):=fun K' x' o' n' t' hh=>hb2 rfl (HK.out.1 K' x' o' n' t' hh)
      clear hb1 hb2 HK
      go_wp2_with (go_at_call 58;refine (dO _ _ X5.out.2.1).mono ?_;rintro e w3 ⟨⟨t9,p9,rfl⟩,rfl⟩)
      exact ⟨rfl,X5.out.2.2.1,Or.inr ⟨HNO.out,t9,p9,rfl⟩⟩
    ·have HNO:Hid (∀K' x' o' n' t',¬aY s.data.toList K' x' o' n' t'):=by
      intro K' x' o' n' t' hh
      obtain ⟨q1,_⟩:=eg HWD.out.1 hlt HE.out hh
      rw[←HWD.out.2,hns] at q1
      cases q1
     exact ⟨rfl,oO X3.out.1.2.2.2.1 Q4 (by rw[HR.out];omega),Or.inr ⟨HNO.out,t9,p9,rfl⟩⟩
   ·have HN2:Hid (∀j,j<i+1->cB j≠wd):=fun j hj=>by
     by_cases e:j=i
     ·rw[e];exact he
     ·exact HN.out j (by omega)
    have he':=lc he
    have X3':Hid (sP w p g u w3):=X3.out.1
    clear HN he X3
    generalize (gn i).length=m at*
    generalize cB i=nm at*
    go_wp2
    go_roundw
    case rel=>exact ⟨i+1,by omega,by go_num,HN2,X3'⟩
    case measure=>simp[intOf];omega
  ·have HNO:Hid (∀K' x' o' n' t',¬aY s.data.toList K' x' o' n' t'):=qN HWD.out.1 (fun j hj=>HN.out j (by omega))
   obtain ⟨t9,p9,h9⟩:=HA.out.2.1.1
   go_wp2
   exact ⟨rfl,HA.out.2.2.2.1,Or.inr ⟨HNO.out,t9,p9,rfl⟩⟩
end
section
open Value renaming int → Ii,slice → Sl
open IntKind renaming i64 → Jj
open Go.RowKit
set_option maxRecDepth 8000
theorem lL (p q:Addr) (w:World):
  CallsD Tryz.prog 71 #[.pointer (some p),.pointer (some q)] .returning w fun e u' w'=>e=.returned (.tuple #[])/\u'=.returning/\w'=w:=by
 refine callsD_of_wpS Tryz.func71 rfl fun c₀ cs hu=>?_
 apply wpS_seq
 apply wpS_region
 simp[wpOpsS,go_sem,recoverD,hu,Tryz.ntmps71,Exit.thenS]
 refine wpS_cond (t:=false) (by simp[Act.eval,Array.replicate]) ?_
 simp only[Bool.false_eq_true,if_false]
 refine wpS_of_wp (wp_skip ?_)
 cases c₀
 simp_all[bodyPostS,results,Tryz.results71]
theorem tE {vs:List Value} (h:vs.length=14):∃a0 a1 a2 a3 a4 a5 a6 a7 a8 a9 a10 a11 a12 a13,vs=[a0,a1,a2,a3,a4,a5,a6,a7,a8,a9,a10,a11,a12,a13]:=by
 match vs,h with
 | [a0,a1,a2,a3,a4,a5,a6,a7,a8,a9,a10,a11,a12,a13],_=>exact ⟨a0,a1,a2,a3,a4,a5,a6,a7,a8,a9,a10,a11,a12,a13,rfl⟩
set_option maxHeartbeats 4000000 in
theorem eL (p q:Nat) (u:TypeId) (pv:Value) (older:List PanicEntry) (vs:List Value) (b:Bool) (w:World) (hp:ah w p vs) (hv:vs.length=14) (hq:ah w q [.bool b]) (hpq:p≠q):
  CallsD Tryz.prog 71 #[.pointer (some ⟨p,0,none⟩),.pointer (some ⟨q,0,none⟩)] (.panicking ({v:=.iface u pv,recovered:=false}::older)) w fun e u' w'=>
   e=.returned (.tuple #[])/\u'=.panicking ({v:=.iface u pv,recovered:=true}::older)/\ah w' p (bZ 0)/\ah w' q [.bool false]/\(∀n,n<=p->n<=q->n<=w.heap.size->Below n w w'):=by
 obtain ⟨a0,a1,a2,a3,a4,a5,a6,a7,a8,a9,a10,a11,a12,a13,rfl⟩:=tE hv
 have hc:=hq.1 0 _ rfl
 have hz:=hq.2.1
 have hz2:=hp.2.1
 refine callsD_of_wpS Tryz.func71 rfl fun c₀ cs hu=>?_
 apply wpS_seq
 apply wpS_region
 simp[wpOpsS,go_sem,recoverD,hu,Tryz.ntmps71,Exit.thenS]
 refine wpS_cond (t:=true) (by simp[Act.eval,Array.replicate]) ?_
 simp only[if_true]
 obtain ⟨V,hV,XV⟩:∃V,V=w.alloc (.cells (bZ 0).toArray 37)/\Hid (ah V w.heap.size (bZ 0)/\ah V p [a0,a1,a2,a3,a4,a5,a6,a7,a8,a9,a10,a11,a12,a13]/\ah V q [.bool b]/\∀n,n<=w.heap.size->Below n w V):=by
  have hb:Below w.heap.size w (w.alloc (.cells (bZ 0).toArray 37)):=(Below.refl _ _).alloc (Nat.le_refl _) _
  exact ⟨_,rfl,ah.new _ _ _,hp.kept hb hp.2.2,hq.kept hb hq.2.2,fun n hn=>hb.mono hn⟩
 refine wpS_of_wp ?_
 have ea:(#[Value.pointer (some ⟨p,0,none⟩),Value.pointer (some ⟨q,0,none⟩)]++((Array.replicate 4 undef).setIfInBounds 1 (Value.iface u pv)).setIfInBounds 2 (Value.bool true))=#[Value.pointer (some ⟨p,0,none⟩),Value.pointer (some ⟨q,0,none⟩),undef,.iface u pv,.bool true,undef]:=rfl
 rw[ea]
 clear hc hz hz2
 go_upto_region 2 with fail
 rw[←hV]
 clear hV
 have z0:=XV.out.1.1 0 _ rfl
 have z1:=XV.out.1.1 1 _ rfl
 have z2:=XV.out.1.1 2 _ rfl
 have z3:=XV.out.1.1 3 _ rfl
 have z4:=XV.out.1.1 4 _ rfl
 have z5:=XV.out.1.1 5 _ rfl
 have z6:=XV.out.1.1 6 _ rfl
 have z7:=XV.out.1.1 7 _ rfl
 have z8:=XV.out.1.1 8 _ rfl
 have z9:=XV.out.1.1 9 _ rfl
 have z10:=XV.out.1.1 10 _ rfl
 have z11:=XV.out.1.1 11 _ rfl
 have z12:=XV.out.1.1 12 _ rfl
 have z13:=XV.out.1.1 13 _ rfl
 have r0:=XV.out.2.1.1 0 _ rfl
 have r1:=XV.out.2.1.1 1 _ rfl
 have r2:=XV.out.2.1.1 2 _ rfl
 have r3:=XV.out.2.1.1 3 _ rfl
 have r4:=XV.out.2.1.1 4 _ rfl
 have r5:=XV.out.2.1.1 5 _ rfl
 have r6:=XV.out.2.1.1 6 _ rfl
 have r7:=XV.out.2.1.1 7 _ rfl
 have r8:=XV.out.2.1.1 8 _ rfl
 have r9:=XV.out.2.1.1 9 _ rfl
 have r10:=XV.out.2.1.1 10 _ rfl
 have r11:=XV.out.2.1.1 11 _ rfl
 have r12:=XV.out.2.1.1 12 _ rfl
 have r13:=XV.out.2.1.1 13 _ rfl
 have fp:=XV.out.2.1.2.1
 have fq:=XV.out.2.2.1.2.1
 have cq:=XV.out.2.2.1.1 0 _ rfl
 have hpq':¬q=p:=fun e=>hpq e.symm
 have hnp:¬w.heap.size=p:=by have:=hp.2.2;omega
 have hnq:¬w.heap.size=q:=by have:=hq.2.2;omega
 clear hp hq hv
 obtain ⟨W,hW,FIN⟩:∃W,W=(((((((((((((((V).setCell ⟨p,0,none⟩ (Ii Jj 0)).setCell ⟨p,1,none⟩ (Ii Jj 0)).setCell ⟨p,2,none⟩ (Ii Jj 0)).setCell ⟨p,3,none⟩ (Ii Jj 0)).setCell ⟨p,4,none⟩ (Ii Jj 0)).setCell ⟨p,5,none⟩ (Ii Jj 0)).setCell ⟨p,6,none⟩ (Ii Jj 0)).setCell ⟨p,7,none⟩ (Ii Jj 0)).setCell ⟨p,8,none⟩ (Ii Jj 0)).setCell ⟨p,9,none⟩ (Ii Jj 0)).setCell ⟨p,10,none⟩ (Ii Jj 0)).setCell ⟨p,11,none⟩ (Ii Jj 0)).setCell ⟨p,12,none⟩ (Ii Jj 0)).setCell ⟨p,13,none⟩ (Ii Jj 0)).setCell ⟨q,0,none⟩ (.bool false)/\Hid (ah W p (bZ 0)/\ah W q [.bool false]/\∀n,n<=p->n<=q->n<=w.heap.size->Below n w W):=
  ⟨_,rfl,(((((((((((((((XV.out.2.1).set 0 (Ii Jj 0)).set 1 (Ii Jj 0)).set 2 (Ii Jj 0)).set 3 (Ii Jj 0)).set 4 (Ii Jj 0)).set 5 (Ii Jj 0)).set 6 (Ii Jj 0)).set 7 (Ii Jj 0)).set 8 (Ii Jj 0)).set 9 (Ii Jj 0)).set 10 (Ii Jj 0)).set 11 (Ii Jj 0)).set 12 (Ii Jj 0)).set 13 (Ii Jj 0)).far hpq' 0 (.bool false),(((((((((((((((XV.out.2.2.1).far hpq 0 (Ii Jj 0)).far hpq 1 (Ii Jj 0)).far hpq 2 (Ii Jj 0)).far hpq 3 (Ii Jj 0)).far hpq 4 (Ii Jj 0)).far hpq 5 (Ii Jj 0)).far hpq 6 (Ii Jj 0)).far hpq 7 (Ii Jj 0)).far hpq 8 (Ii Jj 0)).far hpq 9 (Ii Jj 0)).far hpq 10 (Ii Jj 0)).far hpq 11 (Ii Jj 0)).far hpq 12 (Ii Jj 0)).far hpq 13 (Ii Jj 0)).set 0 (.bool false),fun n hp' hq' hn=>(((((((((((((((XV.out.2.2.2 n hn).setCell (p:=⟨p,0,none⟩) hp' (Ii Jj 0)).setCell (p:=⟨p,1,none⟩) hp' (Ii Jj 0)).setCell (p:=⟨p,2,none⟩) hp' (Ii Jj 0)).setCell (p:=⟨p,3,none⟩) hp' (Ii Jj 0)).setCell (p:=⟨p,4,none⟩) hp' (Ii Jj 0)).setCell (p:=⟨p,5,none⟩) hp' (Ii Jj 0)).setCell (p:=⟨p,6,none⟩) hp' (Ii Jj 0)).setCell (p:=⟨p,7,none⟩) hp' (Ii Jj 0)).setCell (p:=⟨p,8,none⟩) hp' (Ii Jj 0)).setCell (p:=⟨p,9,none⟩) hp' (Ii Jj 0)).setCell (p:=⟨p,10,none⟩) hp' (Ii Jj 0)).setCell (p:=⟨p,11,none⟩) hp' (Ii Jj 0)).setCell (p:=⟨p,12,none⟩) hp' (Ii Jj 0)).setCell (p:=⟨p,13,none⟩) hp' (Ii Jj 0)).setCell (p:=⟨q,0,none⟩) hq' (.bool false)⟩
 go_wp2
 rw[←hW]
 clear hW
 simp[bodyPostS,results,Tryz.results71]
 exact FIN.out
end
end Go.Proofs.YtjhgchlfpolkcaaGreatDoor
