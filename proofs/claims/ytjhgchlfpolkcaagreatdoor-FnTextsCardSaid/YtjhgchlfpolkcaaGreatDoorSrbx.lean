/- ReadBank of the specification. -/
import Derived.Test.YtjhgchlfpolkcaaGreatDoorRbrx
import Derived.Test.YtjhgchlfpolkcaaGreatDoorRanPx
import Derived.Deep.RegionHeld3
namespace Go.Proofs.YtjhgchlfpolkcaaGreatDoor
open Value renaming int → Ii,slice → Sl
open IntKind renaming i64 → Jj
open Nat renaming le_refl → Nf
open List renaming setIfInBounds_toArray → La,set_cons_zero → Lz,set_cons_succ → Lc
set_option linter.unusedSimpArgs false
open Go.RowKit Go.Shelf
set_option maxRecDepth 8000
def jI (s:ByteArray) (w:World) (H:Nat) (r:ByteArray) (k:Bk) (L:List al) (O:List am) (v u:Value) (W:World):Prop:=L.length+O.length+r.size<=s.size/\g8 s.data.toList r.data.toList k L O/\di H v u k L O W/\Below H w W
theorem di.below {H:Nat} {v u:Value} {k:Bk} {L:List al} {O:List am} {w w':World} (h:di H v u k L O w) (hb:Below w.heap.size w w'):di H v u k L O w':=
 h.grown (ke (an.ofBelow (B:=w.heap.size) hb)) (by have:=h.2.1.2.2;omega) (fun e=>by have:=(h.blk.1 _ e).2;omega) (fun e=>by have:=(h.blk.2 _ e).2;omega)
theorem ko {x:ByteArray} {l:List UInt8} (h:x≠⟨l.toArray⟩):¬x.toList=l:=by
 intro e
 rw[Lib.toList_data] at e
 exact h (ca (by rw[e]))
theorem f7.num {w:World} {B g m c:Nat} {l:List Int} (h:f7 w B (Sl (some ⟨g,0,none⟩) m c) l) (i:Nat) (hi:i<l.length):w.cell? ⟨g,i,none⟩=some (Ii Jj l[i]):=by
 obtain ⟨g',c',e,_⟩:=h.shape
 obtain ⟨e1,e2,e3⟩:g=g'/\m=l.length/\c=c':=by simpa using e
 have h1:=h.1
 rw[e2] at h1
 rw[World.ownsRow.cellAt h1 i (by omega)]
 simp[List.getElem?_eq_getElem hi]
def ix (g:Nat) (l:List Value) (V:World):Prop:=g<V.heap.size/\∀j x,l[j]? =some x->V.cell? ⟨g,j,none⟩=some x
theorem ix.alloc {g:Nat} {l:List Value} {V:World} (h:ix g l V) (o:Obj):ix g l (V.alloc o):=⟨by have:=h.1;simp;omega,fun j x hj=>(World.cell?_alloc_lt _ _ _ h.1).trans (h.2 j x hj)⟩
theorem ix.grown {g:Nat} {l:List Value} {V W:World} {q:Option Nat} (h:ix g l V) (hg:V.grownBy W q) (hq:q≠some g):ix g l W:=⟨Nat.lt_of_lt_of_le h.1 hg.size,fun j x hj=>(World.cell?_of_block (w:=V) (hg.block g h.1 (fun e=>hq e.symm))).trans (h.2 j x hj)⟩
theorem ix.set {g:Nat} {l:List Value} {V:World} (h:ix g l V) {Q:Nat} (hne:Q≠g) (q:Nat) (u:Value):ix g l (V.setCell ⟨Q,q,none⟩ u):=⟨by simpa [World.setCell] using h.1,fun j x hj=>(World.cell?_setCell_other _ _ _ _ (by intro e;exact hne (congrArg Addr.block e))).trans (h.2 j x hj)⟩
theorem jI.below {s:ByteArray} {w w1 w2:World} {H:Nat} {r:ByteArray} {k:Bk} {L:List al} {O:List am} {v u:Value} (h:jI s w H r k L O v u w1) (hb:Below w1.heap.size w1 w2):jI s w H r k L O v u w2:=⟨h.1,h.2.1,h.2.2.1.below hb,h.2.2.2.trans (hb.mono (by have:=h.2.2.1.2.1.2.2;omega))⟩
set_option maxHeartbeats 8000000 in
theorem kC (s:ByteArray) (hs:s.size<=1048576) (w:World):Calls Tryz.prog 16 #[.string s] w fun e w'=>dA w s e w':=by
 obtain ⟨H,hh⟩:∃H,w.heap.size=H:=⟨_,rfl⟩
 have HH:Hid (w.heap.size=H):=hh
 obtain ⟨W0,hW0,X0⟩:∃W0,W0=(w.alloc (.cells cQ.toArray 27)).alloc (.cells cQ.toArray 27)/\Hid (jI s w H s ⟨0,0,0,0,0⟩ [] [] (Sl none 0 0) (Sl none 0 0) W0):=by
  have b1:∀(V:World) (o:Obj),Below V.heap.size V (V.alloc o):=fun V o=>(Below.refl _ _).alloc (Nf _) _
  have v0:=(ah.new w cQ 27).kept (b1 _ (.cells cQ.toArray 27)) (by simp)
  have v1:=ah.new (w.alloc (.cells cQ.toArray 27)) cQ 27
  simp only[World.size_alloc] at v1
  rw[hh] at v0 v1
  have bb:Below w.heap.size w ((w.alloc (.cells cQ.toArray 27)).alloc (.cells cQ.toArray 27)):=((Below.refl _ _).alloc (Nf _) _).alloc (by simp) _
  rw[hh] at bb
  exact ⟨_,rfl,by simp,g8.start _ _,⟨v0,⟨⟨v1.1 0 _ rfl,v1.1 1 _ rfl,v1.1 2 _ rfl,v1.1 3 _ rfl,v1.1 4 _ rfl,v1.1 5 _ rfl,v1.1 6 _ rfl⟩,v1.2.1,v1.2.2⟩,AL.nil' _ _,ag.nil _ _⟩,bb⟩
 have HW0:Hid (W0=(w.alloc (.cells #[Ii Jj 0,Sl none 0 0,Sl none 0 0,Ii Jj 0,Ii Jj 0,Ii Jj 0,Ii Jj 0] 27)).alloc (.cells #[Ii Jj 0,Sl none 0 0,Sl none 0 0,Ii Jj 0,Ii Jj 0,Ii Jj 0,Ii Jj 0] 27)):=hW0
 clear hW0
 go_enter Tryz.func16,Tryz.ntmps16
 go_upto_region 2 with fail
 rw[←HW0.out]
 clear HW0 hh
 go_wp2
 go_loopw[5] (fun rv wr=>∃(r:ByteArray) (k:Bk) (L:List al) (O:List am) (v u:Value),rv=.string r/\r.size<=1048576/\Hid (jI s w H r k L O v u wr)) (fun rv _=>fl rv)
 case atStart=>exact ⟨s,_,[],[],_,_,rfl,hs,X0⟩
 case round=>
  clear X0
  obtain ⟨r,k,L,O,v,u,rfl,hr,X⟩:=hrel
  by_cases he:r.toList.isEmpty=true
  ·have HE:Hid (∀k' L' O',f8 s.data.toList k' L' O' []->k=k'/\L=L'/\O=O'):=by
    have h:=X.out.2.1
    rw[Lib.toList_data,List.isEmpty_iff] at he
    rw[he] at h
    exact h.over
   go_upto_region 20 with fail
   have hL1:L.length<=1048576:=by have:=X.out.1;omega
   have hO1:O.length<=1048576:=by have:=X.out.1;omega
   obtain ⟨a1,c1,hv⟩:=X.out.2.2.1.2.2.1.len
   obtain ⟨a2,c2,hu,_⟩:=X.out.2.2.1.2.2.2.shape
   subst hv
   subst hu
   have HFo:Hid (Fo wr a1 L.length (FL L)/\aJ wr a2 O.length (ai O)):=⟨(X.out.2.2.1.2.2.1.fo hL1).2,(X.out.2.2.1.2.2.2.list hO1).2⟩
   clear hL1 hO1
   obtain ⟨t,HT⟩:∃t:ByteArray,Hid ((aj (FL L) L.length (ai O) O.length k->t=cZ (FL L) L.length (ai O) O.length k)/\(¬aj (FL L) L.length (ai O) O.length k->t=⟨#[]⟩)):=by
    by_cases hb:aj (FL L) L.length (ai O) O.length k
    ·exact ⟨_,fun _=>rfl,fun h=>absurd hb h⟩
    ·exact ⟨_,fun h=>absurd h hb,fun _=>rfl⟩
   have HY:Hid (t=s->s.toList.isEmpty=false->f8 s.data.toList k L O []):=fun e he=>by
    by_cases hb:aj (FL L) L.length (ai O) O.length k
    ·exact (dd s k L O).2 ⟨hb,e.symm.trans (HT.out.1 hb)⟩
    ·rw[←e,HT.out.2 hb,Lib.toList_data] at he
     simp at he
   have HN:Hid (t≠s->∀k' L' O',¬f8 s.data.toList k' L' O' []):=fun hne k' L' O' hh=>by
    obtain ⟨rfl,rfl,rfl⟩:=HE.out k' L' O' hh
    obtain ⟨h1,h2⟩:=(dd _ _ _ _).1 hh
    exact hne ((HT.out.1 h1).trans h2.symm)
   obtain ⟨m1,hm1⟩:∃m,L.length=m:=⟨_,rfl⟩
   obtain ⟨m2,hm2⟩:∃m,O.length=m:=⟨_,rfl⟩
   have X':Hid (jI s w H r k L O (Sl a1 m1 c1) (Sl a2 m2 c2) wr):=by rw[←hm1,←hm2];exact X.out
   rw[hm1,hm2] at HFo HT
   clear X hm1 hm2 HE
   by_cases hse:s.toList.isEmpty=true
   ·have FNO:Hid (∀W,Below H w W->dA w s (.returned (.tuple #[.agg cQ.toArray,.bool false])) W):=fun W hb=>⟨by rw[HH.out];exact hb,Or.inr ⟨fun k' L' O' hh=>by
     obtain ⟨h1,h2⟩:=(dd _ _ _ _).1 hh
     have h3:=(dH h1).2
     rw[←h2,←dB] at h3
     rw[Lib.toList_data,List.isEmpty_iff] at hse
     rw[hse] at h3
     simp at h3,rfl⟩⟩
    clear HY HN HT HFo
    have r0:=X'.out.2.2.1.1.1 0 _ rfl
    have r1:=X'.out.2.2.1.1.1 1 _ rfl
    have r2:=X'.out.2.2.1.1.1 2 _ rfl
    have r3:=X'.out.2.2.1.1.1 3 _ rfl
    have r4:=X'.out.2.2.1.1.1 4 _ rfl
    have r5:=X'.out.2.2.1.1.1 5 _ rfl
    have r6:=X'.out.2.2.1.1.1 6 _ rfl
    have fz:=X'.out.2.2.1.1.2.1
    have FI:Hid (dA w s (.returned (.tuple #[.agg cQ.toArray,.bool false])) ((((((((wr).setCell ⟨H,0,none⟩ (Ii Jj 0)).setCell ⟨H,1,none⟩ (Sl none 0 0)).setCell ⟨H,2,none⟩ (Sl none 0 0)).setCell ⟨H,3,none⟩ (Ii Jj 0)).setCell ⟨H,4,none⟩ (Ii Jj 0)).setCell ⟨H,5,none⟩ (Ii Jj 0)).setCell ⟨H,6,none⟩ (Ii Jj 0))):=FNO.out _ ((((((((X'.out.2.2.2).setCell (p:=⟨H,0,none⟩) (Nf _) (Ii Jj 0)).setCell (p:=⟨H,1,none⟩) (Nf _) (Sl none 0 0)).setCell (p:=⟨H,2,none⟩) (Nf _) (Sl none 0 0)).setCell (p:=⟨H,3,none⟩) (Nf _) (Ii Jj 0)).setCell (p:=⟨H,4,none⟩) (Nf _) (Ii Jj 0)).setCell (p:=⟨H,5,none⟩) (Nf _) (Ii Jj 0)).setCell (p:=⟨H,6,none⟩) (Nf _) (Ii Jj 0))
    clear FNO X'
    go_wp2
    refine bodyPost_ret (v:=.tuple #[.agg cQ.toArray,.bool false]) (by simp[results,Tryz.results16,go_sem,cQ,r0,r1,r2,r3,r4,r5,r6]) rfl ?_
    exact FI.out
   ·have hse':s.toList.isEmpty=false:=by simpa using hse
    obtain ⟨⟨s0,s1',s2',s3,s4,s5,s6⟩,sf,sz⟩:=X'.out.2.2.1.2.1
    have HY2:Hid (t=s->f8 s.data.toList k L O []):=fun e=>HY.out e hse'
    clear HY hse
    go_wp2_with fail
    refine (jx a1 a2 m1 c1 m2 c2 (FL L) (ai O) k wr HFo.out.1 HFo.out.2 t HT.out).mono ?_
    rintro e w5 ⟨rfl,B5⟩
    have X5:Hid (jI s w H r k L O (Sl a1 m1 c1) (Sl a2 m2 c2) w5):=⟨X'.out.1,X'.out.2.1,X'.out.2.2.1.below B5,X'.out.2.2.2.trans (B5.mono (by have:=X'.out.2.2.1.2.1.2.2;omega))⟩
    clear X' B5 HT HFo s0 s1' s2' s3 s4 s5 s6 sf sz
    by_cases hts:t=s
    ·have HR:Hid (f8 s.data.toList k L O []):=HY2.out hts
     clear HY2 HN
     subst hts
     obtain ⟨⟨s0,s1',s2',s3,s4,s5,s6⟩,sf,sz⟩:=X5.out.2.2.1.2.1
     have r0:=X5.out.2.2.1.1.1 0 _ rfl
     have r1:=X5.out.2.2.1.1.1 1 _ rfl
     have r2:=X5.out.2.2.1.1.1 2 _ rfl
     have r3:=X5.out.2.2.1.1.1 3 _ rfl
     have r4:=X5.out.2.2.1.1.1 4 _ rfl
     have r5:=X5.out.2.2.1.1.1 5 _ rfl
     have r6:=X5.out.2.2.1.1.1 6 _ rfl
     have fz:=X5.out.2.2.1.1.2.1
     have nh:¬H=H+1:=by omega
     have FI:Hid (dA w t (.returned (.tuple #[.agg (mX k (Sl a1 m1 c1) (Sl a2 m2 c2)).toArray,.bool true])) ((((((((w5).setCell ⟨H,0,none⟩ (Ii Jj k.day)).setCell ⟨H,1,none⟩ (Sl a1 m1 c1)).setCell ⟨H,2,none⟩ (Sl a2 m2 c2)).setCell ⟨H,3,none⟩ (Ii Jj k.inn)).setCell ⟨H,4,none⟩ (Ii Jj k.out)).setCell ⟨H,5,none⟩ (Ii Jj k.posted)).setCell ⟨H,6,none⟩ (Ii Jj k.missed))):=⟨by rw[HH.out];exact (((((((X5.out.2.2.2).setCell (p:=⟨H,0,none⟩) (Nf _) (Ii Jj k.day)).setCell (p:=⟨H,1,none⟩) (Nf _) (Sl a1 m1 c1)).setCell (p:=⟨H,2,none⟩) (Nf _) (Sl a2 m2 c2)).setCell (p:=⟨H,3,none⟩) (Nf _) (Ii Jj k.inn)).setCell (p:=⟨H,4,none⟩) (Nf _) (Ii Jj k.out)).setCell (p:=⟨H,5,none⟩) (Nf _) (Ii Jj k.posted)).setCell (p:=⟨H,6,none⟩) (Nf _) (Ii Jj k.missed),Or.inl ⟨k,L,O,_,_,HR.out,rfl,AL.mono ((((((((X5.out.2.2.1.2.2.1).put (q:=H) (by omega) 0 (Ii Jj k.day)).put (q:=H) (by omega) 1 (Sl a1 m1 c1)).put (q:=H) (by omega) 2 (Sl a2 m2 c2)).put (q:=H) (by omega) 3 (Ii Jj k.inn)).put (q:=H) (by omega) 4 (Ii Jj k.out)).put (q:=H) (by omega) 5 (Ii Jj k.posted)).put (q:=H) (by omega) 6 (Ii Jj k.missed)) (by rw[HH.out];omega),ag.mono ((((((((X5.out.2.2.1.2.2.2).put (q:=H) (by omega) 0 (Ii Jj k.day)).put (q:=H) (by omega) 1 (Sl a1 m1 c1)).put (q:=H) (by omega) 2 (Sl a2 m2 c2)).put (q:=H) (by omega) 3 (Ii Jj k.inn)).put (q:=H) (by omega) 4 (Ii Jj k.out)).put (q:=H) (by omega) 5 (Ii Jj k.posted)).put (q:=H) (by omega) 6 (Ii Jj k.missed)) (by rw[HH.out];omega)⟩⟩
     clear X5 HR
     have hq:(t.toList == t.toList)=true:=by simp
     go_wp2
     refine bodyPost_ret (v:=.tuple #[.agg (mX k (Sl a1 m1 c1) (Sl a2 m2 c2)).toArray,.bool true]) (by simp[results,Tryz.results16,go_sem,mX,r0,r1,r2,r3,r4,r5,r6]) rfl ?_
     exact FI.out
    ·have FNO:Hid (∀W,Below H w W->dA w s (.returned (.tuple #[.agg cQ.toArray,.bool false])) W):=fun W hb=>⟨by rw[HH.out];exact hb,Or.inr ⟨HN.out hts,rfl⟩⟩
     have hq:(t.toList == s.toList)=false:=by
      rw[beq_eq_false_iff_ne]
      intro e
      exact hts (ca (by rw[Lib.toList_data,Lib.toList_data] at e;exact e))
     clear HY2 HN hts
     have r0:=X5.out.2.2.1.1.1 0 _ rfl
     have r1:=X5.out.2.2.1.1.1 1 _ rfl
     have r2:=X5.out.2.2.1.1.1 2 _ rfl
     have r3:=X5.out.2.2.1.1.1 3 _ rfl
     have r4:=X5.out.2.2.1.1.1 4 _ rfl
     have r5:=X5.out.2.2.1.1.1 5 _ rfl
     have r6:=X5.out.2.2.1.1.1 6 _ rfl
     have fz:=X5.out.2.2.1.1.2.1
     have FI:Hid (dA w s (.returned (.tuple #[.agg cQ.toArray,.bool false])) ((((((((w5).setCell ⟨H,0,none⟩ (Ii Jj 0)).setCell ⟨H,1,none⟩ (Sl none 0 0)).setCell ⟨H,2,none⟩ (Sl none 0 0)).setCell ⟨H,3,none⟩ (Ii Jj 0)).setCell ⟨H,4,none⟩ (Ii Jj 0)).setCell ⟨H,5,none⟩ (Ii Jj 0)).setCell ⟨H,6,none⟩ (Ii Jj 0))):=FNO.out _ ((((((((X5.out.2.2.2).setCell (p:=⟨H,0,none⟩) (Nf _) (Ii Jj 0)).setCell (p:=⟨H,1,none⟩) (Nf _) (Sl none 0 0)).setCell (p:=⟨H,2,none⟩) (Nf _) (Sl none 0 0)).setCell (p:=⟨H,3,none⟩) (Nf _) (Ii Jj 0)).setCell (p:=⟨H,4,none⟩) (Nf _) (Ii Jj 0)).setCell (p:=⟨H,5,none⟩) (Nf _) (Ii Jj 0)).setCell (p:=⟨H,6,none⟩) (Nf _) (Ii Jj 0))
     clear FNO X5
     go_wp2
     refine bodyPost_ret (v:=.tuple #[.agg cQ.toArray,.bool false]) (by simp[results,Tryz.results16,go_sem,cQ,r0,r1,r2,r3,r4,r5,r6]) rfl ?_
     exact FI.out
  ·have he':r.toList.isEmpty=false:=by simpa using he
   by_cases hl:s.size<=10000
   ·go_wp2_with fail
    refine (iQ 10 r wr hr).mono ?_
    rintro e w1 ⟨x,y,b,rfl,hc1,hx,hy,hyb,B1⟩
    have HC1:Hid (bF 10 r.data.toList=(x.data.toList,y.data.toList,b)/\(b=true->y.size<r.size)):=⟨hc1,hyb⟩
    have HR0:Hid (r.data.toList≠[]):=fun e=>he (by rw[Lib.toList_data,e];rfl)
    have X1:Hid (jI s w H r k L O v u w1):=X.out.below B1
    have hx':x.size<=1048576:=Nat.le_trans hx hr
    have hy':y.size<=1048576:=Nat.le_trans hy hr
    clear hc1 hyb B1 hx hy X he he'
    go_wp2_with fail
    refine (iQ 32 x w1 hx').mono ?_
    rintro e w2 ⟨z,q,c,rfl,hc2,_,hq,_,B2⟩
    have HC2:Hid (bF 32 x.data.toList=(z.data.toList,q.data.toList,c)):=hc2
    have X2:Hid (jI s w H r k L O v u w2):=X1.out.below B2
    have hq':q.size<=1048576:=Nat.le_trans hq hx'
    clear hc2 B2 hq hx' X1
    go_wp2_with fail
    refine (mK q w2 hq').mono ?_
    rintro e w3 ⟨B3,hor⟩
    have X3:Hid (jI s w H r k L O v u w3):=X2.out.below B3
    rcases hor with ⟨ns,v3,hns,hnl,rfl,I3⟩|⟨hns,rfl⟩
    rotate_left
    ·have FNO:Hid (∀W,Below H w W->dA w s (.returned (.tuple #[.agg cQ.toArray,.bool false])) W):=fun W hb=>⟨by rw[HH.out];exact hb,Or.inr ⟨X3.out.2.1.bad2 HR0.out HC1.out.1 HC2.out hns,rfl⟩⟩
     clear B3 X2 HC1 HC2 HR0 hns
     cases b with
     | true=>
      have r0:=X3.out.2.2.1.1.1 0 _ rfl
      have r1:=X3.out.2.2.1.1.1 1 _ rfl
      have r2:=X3.out.2.2.1.1.1 2 _ rfl
      have r3:=X3.out.2.2.1.1.1 3 _ rfl
      have r4:=X3.out.2.2.1.1.1 4 _ rfl
      have r5:=X3.out.2.2.1.1.1 5 _ rfl
      have r6:=X3.out.2.2.1.1.1 6 _ rfl
      have fz:=X3.out.2.2.1.1.2.1
      have FI:Hid (dA w s (.returned (.tuple #[.agg cQ.toArray,.bool false])) ((((((((w3).setCell ⟨H,0,none⟩ (Ii Jj 0)).setCell ⟨H,1,none⟩ (Sl none 0 0)).setCell ⟨H,2,none⟩ (Sl none 0 0)).setCell ⟨H,3,none⟩ (Ii Jj 0)).setCell ⟨H,4,none⟩ (Ii Jj 0)).setCell ⟨H,5,none⟩ (Ii Jj 0)).setCell ⟨H,6,none⟩ (Ii Jj 0))):=FNO.out _ ((((((((X3.out.2.2.2).setCell (p:=⟨H,0,none⟩) (Nf _) (Ii Jj 0)).setCell (p:=⟨H,1,none⟩) (Nf _) (Sl none 0 0)).setCell (p:=⟨H,2,none⟩) (Nf _) (Sl none 0 0)).setCell (p:=⟨H,3,none⟩) (Nf _) (Ii Jj 0)).setCell (p:=⟨H,4,none⟩) (Nf _) (Ii Jj 0)).setCell (p:=⟨H,5,none⟩) (Nf _) (Ii Jj 0)).setCell (p:=⟨H,6,none⟩) (Nf _) (Ii Jj 0))
      clear FNO X3
      go_wp2
      refine bodyPost_ret (v:=.tuple #[.agg cQ.toArray,.bool false]) (by simp[results,Tryz.results16,go_sem,cQ,r0,r1,r2,r3,r4,r5,r6]) rfl ?_
      exact FI.out
     | false=>
      have r0:=X3.out.2.2.1.1.1 0 _ rfl
      have r1:=X3.out.2.2.1.1.1 1 _ rfl
      have r2:=X3.out.2.2.1.1.1 2 _ rfl
      have r3:=X3.out.2.2.1.1.1 3 _ rfl
      have r4:=X3.out.2.2.1.1.1 4 _ rfl
      have r5:=X3.out.2.2.1.1.1 5 _ rfl
      have r6:=X3.out.2.2.1.1.1 6 _ rfl
      have fz:=X3.out.2.2.1.1.2.1
      have FI:Hid (dA w s (.returned (.tuple #[.agg cQ.toArray,.bool false])) ((((((((w3).setCell ⟨H,0,none⟩ (Ii Jj 0)).setCell ⟨H,1,none⟩ (Sl none 0 0)).setCell ⟨H,2,none⟩ (Sl none 0 0)).setCell ⟨H,3,none⟩ (Ii Jj 0)).setCell ⟨H,4,none⟩ (Ii Jj 0)).setCell ⟨H,5,none⟩ (Ii Jj 0)).setCell ⟨H,6,none⟩ (Ii Jj 0))):=FNO.out _ ((((((((X3.out.2.2.2).setCell (p:=⟨H,0,none⟩) (Nf _) (Ii Jj 0)).setCell (p:=⟨H,1,none⟩) (Nf _) (Sl none 0 0)).setCell (p:=⟨H,2,none⟩) (Nf _) (Sl none 0 0)).setCell (p:=⟨H,3,none⟩) (Nf _) (Ii Jj 0)).setCell (p:=⟨H,4,none⟩) (Nf _) (Ii Jj 0)).setCell (p:=⟨H,5,none⟩) (Nf _) (Ii Jj 0)).setCell (p:=⟨H,6,none⟩) (Nf _) (Ii Jj 0))
      clear FNO X3
      go_wp2
      refine bodyPost_ret (v:=.tuple #[.agg cQ.toArray,.bool false]) (by simp[results,Tryz.results16,go_sem,cQ,r0,r1,r2,r3,r4,r5,r6]) rfl ?_
      exact FI.out
    cases b with
    | false=>
     have FNO:Hid (∀W,Below H w W->dA w s (.returned (.tuple #[.agg cQ.toArray,.bool false])) W):=fun W hb=>⟨by rw[HH.out];exact hb,Or.inr ⟨X3.out.2.1.bad HR0.out HC1.out.1,rfl⟩⟩
     obtain ⟨g3,cap3,rfl,hg31,hg32⟩:=I3.shape
     clear B3 X2 HC1 HC2 HR0 hns I3 hnl hg31 hg32
     generalize ns.length=l3
     have r0:=X3.out.2.2.1.1.1 0 _ rfl
     have r1:=X3.out.2.2.1.1.1 1 _ rfl
     have r2:=X3.out.2.2.1.1.1 2 _ rfl
     have r3:=X3.out.2.2.1.1.1 3 _ rfl
     have r4:=X3.out.2.2.1.1.1 4 _ rfl
     have r5:=X3.out.2.2.1.1.1 5 _ rfl
     have r6:=X3.out.2.2.1.1.1 6 _ rfl
     have fz:=X3.out.2.2.1.1.2.1
     have FI:Hid (dA w s (.returned (.tuple #[.agg cQ.toArray,.bool false])) ((((((((w3).setCell ⟨H,0,none⟩ (Ii Jj 0)).setCell ⟨H,1,none⟩ (Sl none 0 0)).setCell ⟨H,2,none⟩ (Sl none 0 0)).setCell ⟨H,3,none⟩ (Ii Jj 0)).setCell ⟨H,4,none⟩ (Ii Jj 0)).setCell ⟨H,5,none⟩ (Ii Jj 0)).setCell ⟨H,6,none⟩ (Ii Jj 0))):=FNO.out _ ((((((((X3.out.2.2.2).setCell (p:=⟨H,0,none⟩) (Nf _) (Ii Jj 0)).setCell (p:=⟨H,1,none⟩) (Nf _) (Sl none 0 0)).setCell (p:=⟨H,2,none⟩) (Nf _) (Sl none 0 0)).setCell (p:=⟨H,3,none⟩) (Nf _) (Ii Jj 0)).setCell (p:=⟨H,4,none⟩) (Nf _) (Ii Jj 0)).setCell (p:=⟨H,5,none⟩) (Nf _) (Ii Jj 0)).setCell (p:=⟨H,6,none⟩) (Nf _) (Ii Jj 0))
     clear FNO X3
     go_wp2
     refine bodyPost_ret (v:=.tuple #[.agg cQ.toArray,.bool false]) (by simp[results,Tryz.results16,go_sem,cQ,r0,r1,r2,r3,r4,r5,r6]) rfl ?_
     exact FI.out
    | true=>
     obtain ⟨g3,cap3,rfl,hg31,hg32⟩:=I3.shape
     have HNS:Hid (bR q.data.toList=some ns):=hns
     have HI3:Hid (f7 w3 w2.heap.size (Sl (some ⟨g3,0,none⟩) ns.length cap3) ns):=I3
     have hgH:H+1<g3:=by have:=X2.out.2.2.1.2.1.2.2;omega
     have HAP:Hid ((∀q,v.ownBlock=some q->q≠g3)/\(∀q,u.ownBlock=some q->q≠g3)):=⟨fun q hq=>by have:=(X2.out.2.2.1.blk.1 q hq).2;omega,fun q hq=>by have:=(X2.out.2.2.1.blk.2 q hq).2;omega⟩
     clear hns I3 B3 X2 hg31
     obtain ⟨l3,hl3⟩:∃l,ns.length=l:=⟨_,rfl⟩
     have HL3:Hid (ns.length=l3):=hl3
     rw[hl3] at HI3
     simp only[hl3]
     have hl3':l3<=1048577:=by omega
     clear hl3 hnl hq'
     go_upto_region 10 with fail
     by_cases zb:z=⟨#[98,97,110,107]⟩
     ·have q1:z.toList=[98,97,110,107]:=by rw[zb,Lib.toList_data]
      have q2:¬z.toList=[97,99,99,111,117,110,116]:=ko (by rw[zb];decide)
      have q3:¬z.toList=[111,114,100,101,114]:=ko (by rw[zb];decide)
      by_cases l5:l3=5
      ·subst l5
       have hyr:y.size<r.size:=HC1.out.2 rfl
       obtain ⟨k2,hk2⟩:=pW HL3.out
       have HX:Hid (g8 s.data.toList y.data.toList k2 L O):=X3.out.2.1.bank HR0.out HC1.out.1 HC2.out HNS.out (by rw[zb];rfl) hk2
       subst hk2
       have c0:=HI3.out.num 0 (by simp[ex])
       have c1:=HI3.out.num 1 (by simp[ex])
       have c2:=HI3.out.num 2 (by simp[ex])
       have c3:=HI3.out.num 3 (by simp[ex])
       have c4:=HI3.out.num 4 (by simp[ex])
       simp only[ex,List.getElem_cons_zero,List.getElem_cons_succ] at c0 c1 c2 c3 c4
       obtain ⟨⟨s0,s1',s2',s3,s4,s5,s6⟩,sf,sz⟩:=X3.out.2.2.1.2.1
       have ng:¬g3=H+1:=by omega
       have ng':¬H+1=g3:=by omega
       have X9:Hid (jI s w H y k2 L O v u ((((((w3).setCell ⟨H+1,0,none⟩ (Ii Jj k2.day)).setCell ⟨H+1,3,none⟩ (Ii Jj k2.inn)).setCell ⟨H+1,4,none⟩ (Ii Jj k2.out)).setCell ⟨H+1,5,none⟩ (Ii Jj k2.posted)).setCell ⟨H+1,6,none⟩ (Ii Jj k2.missed))):=⟨by have:=X3.out.1;omega,HX.out,⟨(((((X3.out.2.2.1.1).far (by omega) 0 (Ii Jj k2.day)).far (by omega) 3 (Ii Jj k2.inn)).far (by omega) 4 (Ii Jj k2.out)).far (by omega) 5 (Ii Jj k2.posted)).far (by omega) 6 (Ii Jj k2.missed),(((((X3.out.2.2.1.2.1).set0 (Ii Jj k2.day)).set3 (Ii Jj k2.inn)).set4 (Ii Jj k2.out)).set5 (Ii Jj k2.posted)).set6 (Ii Jj k2.missed),(((((X3.out.2.2.1.2.2.1).put (q:=H+1) (by omega) 0 (Ii Jj k2.day)).put (q:=H+1) (by omega) 3 (Ii Jj k2.inn)).put (q:=H+1) (by omega) 4 (Ii Jj k2.out)).put (q:=H+1) (by omega) 5 (Ii Jj k2.posted)).put (q:=H+1) (by omega) 6 (Ii Jj k2.missed),(((((X3.out.2.2.1.2.2.2).put (q:=H+1) (by omega) 0 (Ii Jj k2.day)).put (q:=H+1) (by omega) 3 (Ii Jj k2.inn)).put (q:=H+1) (by omega) 4 (Ii Jj k2.out)).put (q:=H+1) (by omega) 5 (Ii Jj k2.posted)).put (q:=H+1) (by omega) 6 (Ii Jj k2.missed)⟩,(((((X3.out.2.2.2).setCell (p:=⟨H+1,0,none⟩) (by show H<=H+1;omega) (Ii Jj k2.day)).setCell (p:=⟨H+1,3,none⟩) (by show H<=H+1;omega) (Ii Jj k2.inn)).setCell (p:=⟨H+1,4,none⟩) (by show H<=H+1;omega) (Ii Jj k2.out)).setCell (p:=⟨H+1,5,none⟩) (by show H<=H+1;omega) (Ii Jj k2.posted)).setCell (p:=⟨H+1,6,none⟩) (by show H<=H+1;omega) (Ii Jj k2.missed)⟩
       clear HX X3 HC1 HC2 HR0 HNS HI3 HL3 zb s1' s2'
       go_wp2
       go_roundw
       case rel=>exact ⟨y,k2,L,O,v,u,rfl,hy',X9⟩
       case measure=>simpa [fl] using hyr
      ·have l5':((l3:Int) == 5)=false:=by simp;omega
       have HX:Hid (g8 s.data.toList y.data.toList k L O):=X3.out.2.1.other HR0.out HC1.out.1 HC2.out HNS.out (fun e=>l5 (HL3.out.symm.trans e.2)) (fun e=>by rw[zb] at e;exact absurd e.1 (by decide)) (fun e=>by rw[zb] at e;exact absurd e.1 (by decide))
       clear zb
       have hyr:y.size<r.size:=HC1.out.2 rfl
       have X9:Hid (jI s w H y k L O v u w3):=⟨by have:=X3.out.1;omega,HX.out,X3.out.2.2.1,X3.out.2.2.2⟩
       clear HX X3 HC1 HC2 HR0 HNS HI3 HL3
       go_wp2
       go_roundw
       case rel=>exact ⟨y,k,L,O,v,u,rfl,hy',X9⟩
       case measure=>simpa [fl] using hyr
     ·have q1:¬z.toList=[98,97,110,107]:=ko zb
      by_cases za:z=⟨#[97,99,99,111,117,110,116]⟩
      ·have q2:z.toList=[97,99,99,111,117,110,116]:=by rw[za,Lib.toList_data]
       have q3:¬z.toList=[111,114,100,101,114]:=ko (by rw[za];decide)
       by_cases l8:l3=8
       ·skip
        subst l8
        have hyr:y.size<r.size:=HC1.out.2 rfl
        obtain ⟨n0,n1,n2,n3,n4,n5,n6,n7,hnl,hk⟩:=pT HL3.out
        have HX:Hid (g8 s.data.toList y.data.toList k (L++[(⟨n0,n1,n2,n3,n4,n5 == 1,n6,n7⟩:al)]) O):=X3.out.2.1.acc HR0.out HC1.out.1 HC2.out HNS.out (by rw[za];rfl) hk
        have hNm:ix g3 [Ii Jj n0,Ii Jj n1,Ii Jj n2,Ii Jj n3,Ii Jj n4,Ii Jj n5,Ii Jj n6,Ii Jj n7] w3.drew:=by
         rw[hnl] at HI3
         refine ⟨hg32,fun j q hj=>?_⟩
         match j,hj with
         | 0,hj=>simp at hj;subst hj;exact HI3.out.num 0 (by simp)
         | 1,hj=>simp at hj;subst hj;exact HI3.out.num 1 (by simp)
         | 2,hj=>simp at hj;subst hj;exact HI3.out.num 2 (by simp)
         | 3,hj=>simp at hj;subst hj;exact HI3.out.num 3 (by simp)
         | 4,hj=>simp at hj;subst hj;exact HI3.out.num 4 (by simp)
         | 5,hj=>simp at hj;subst hj;exact HI3.out.num 5 (by simp)
         | 6,hj=>simp at hj;subst hj;exact HI3.out.num 6 (by simp)
         | 7,hj=>simp at hj;subst hj;exact HI3.out.num 7 (by simp)
        have hll:L.length<=1048576:=by have:=X3.out.1;omega
        obtain ⟨aa,cc,hv⟩:∃aa cc,v=Sl aa L.length cc:=X3.out.2.2.1.2.2.1.len
        subst hv
        have SS:w3.drew.cell? ⟨H+1,1,none⟩=some (Sl aa L.length cc):=X3.out.2.2.1.2.1.1.2.1
        have XD:Hid (di H (Sl aa L.length cc) u k L O w3.drew/\Below H w w3.drew):=⟨X3.out.2.2.1,X3.out.2.2.2.drew⟩
        have HZ:Hid ((L++[(⟨n0,n1,n2,n3,n4,n5 == 1,n6,n7⟩:al)]).length+O.length+y.size<=s.size):=by show _<=_;have:=X3.out.1;simp;omega
        have hbv:Hid (∀q,(Value.slice aa L.length cc).ownBlock=some q->H+1+1<=q/\q≠g3):=fun q hq=>⟨(X3.out.2.2.1.blk.1 q hq).1,HAP.out.1 q hq⟩
        clear hnl hk X3 HI3 HL3 HNS HC1 HC2 HR0 zb za HAP
        go_upto_region 17 with fail
        refine wp_region_held_drew (S:=ix g3 [Ii Jj n0,Ii Jj n1,Ii Jj n2,Ii Jj n3,Ii Jj n4,Ii Jj n5,Ii Jj n6,Ii Jj n7]) (by kernel_rfl) hNm (fun hHeld=>?_)
        clear hNm
        generalize w3.drew=W3 at hHeld SS XD ⊢
        obtain ⟨iA,hA,zA0,zA1,zA2⟩:=info_parts sU
        refine wpAnyH_take (i:=0) (v:=?_) rfl (by kernel_rfl) (by kernel_rfl) (by kernel_rfl) (fun _ _ _ h=>h) (Or.inl ⟨by rfl,?_⟩) hHeld ?_
        rotate_left
        ·intro wq hSw
         go_simp
         all_goals (with_reducible rfl)
        (try simp only[Act.put,La,Lz,Lc])
        refine wpAnyH_take (i:=2) (v:=?_) rfl (by kernel_rfl) (by kernel_rfl) (by kernel_rfl) (fun _ _ _ h=>h) (Or.inl ⟨by rfl,?_⟩) hHeld ?_
        rotate_left
        ·intro wq hSw
         go_simp
         all_goals (with_reducible rfl)
        (try simp only[Act.put,La,Lz,Lc])
        refine wpAnyH_take (i:=3) (v:=?_) rfl (by kernel_rfl) (by kernel_rfl) (by kernel_rfl) (fun _ _ _ h=>h) (Or.inl ⟨by rfl,?_⟩) hHeld ?_
        rotate_left
        ·intro wq hSw
         go_simp
         all_goals (with_reducible rfl)
        (try simp only[Act.put,La,Lz,Lc])
        refine wpAnyH_take (i:=4) (v:=?_) rfl (by kernel_rfl) (by kernel_rfl) (by kernel_rfl) (fun _ _ _ h=>h) (Or.inl ⟨by rfl,?_⟩) hHeld ?_
        rotate_left
        ·intro wq hSw
         have yy:=hSw.2 0 _ rfl
         go_simp
         all_goals (with_reducible rfl)
        (try simp only[Act.put,La,Lz,Lc])
        refine wpAnyH_take (i:=5) (v:=?_) rfl (by kernel_rfl) (by kernel_rfl) (by kernel_rfl) (fun _ _ _ h=>h) (Or.inl ⟨by rfl,?_⟩) hHeld ?_
        rotate_left
        ·intro wq hSw
         go_simp
         all_goals (with_reducible rfl)
        (try simp only[Act.put,La,Lz,Lc])
        refine wpAnyH_take (i:=6) (v:=?_) rfl (by kernel_rfl) (by kernel_rfl) (by kernel_rfl) (fun _ _ _ h=>h) (Or.inl ⟨by rfl,?_⟩) hHeld ?_
        rotate_left
        ·intro wq hSw
         go_simp
         all_goals (with_reducible rfl)
        (try simp only[Act.put,La,Lz,Lc])
        refine wpAnyH_take (i:=7) (v:=?_) rfl (by kernel_rfl) (by kernel_rfl) (by kernel_rfl) (fun _ _ _ h=>h) (Or.inl ⟨by rfl,?_⟩) hHeld ?_
        rotate_left
        ·intro wq hSw
         have yy:=hSw.2 1 _ rfl
         go_simp
         all_goals (with_reducible rfl)
        (try simp only[Act.put,La,Lz,Lc])
        refine wpAnyH_take (i:=8) (v:=?_) rfl (by kernel_rfl) (by kernel_rfl) (by kernel_rfl) (fun _ _ _ h=>h) (Or.inl ⟨by rfl,?_⟩) hHeld ?_
        rotate_left
        ·intro wq hSw
         go_simp
         all_goals (with_reducible rfl)
        (try simp only[Act.put,La,Lz,Lc])
        refine wpAnyH_take (i:=9) (v:=?_) rfl (by kernel_rfl) (by kernel_rfl) (by kernel_rfl) (fun _ _ _ h=>h) (Or.inl ⟨by rfl,?_⟩) hHeld ?_
        rotate_left
        ·intro wq hSw
         go_simp
         all_goals (with_reducible rfl)
        (try simp only[Act.put,La,Lz,Lc])
        refine wpAnyH_take (i:=10) (v:=?_) rfl (by kernel_rfl) (by kernel_rfl) (by kernel_rfl) (fun _ _ _ h=>h) (Or.inl ⟨by rfl,?_⟩) hHeld ?_
        rotate_left
        ·intro wq hSw
         have yy:=hSw.2 2 _ rfl
         go_simp
         all_goals (with_reducible rfl)
        (try simp only[Act.put,La,Lz,Lc])
        refine wpAnyH_take (i:=11) (v:=?_) rfl (by kernel_rfl) (by kernel_rfl) (by kernel_rfl) (fun _ _ _ h=>h) (Or.inl ⟨by rfl,?_⟩) hHeld ?_
        rotate_left
        ·intro wq hSw
         go_simp
         all_goals (with_reducible rfl)
        (try simp only[Act.put,La,Lz,Lc])
        refine wpAnyH_take (i:=12) (v:=?_) rfl (by kernel_rfl) (by kernel_rfl) (by kernel_rfl) (fun _ _ _ h=>h) (Or.inl ⟨by rfl,?_⟩) hHeld ?_
        rotate_left
        ·intro wq hSw
         go_simp
         all_goals (with_reducible rfl)
        (try simp only[Act.put,La,Lz,Lc])
        refine wpAnyH_take (i:=13) (v:=?_) rfl (by kernel_rfl) (by kernel_rfl) (by kernel_rfl) (fun _ _ _ h=>h) (Or.inl ⟨by rfl,?_⟩) hHeld ?_
        rotate_left
        ·intro wq hSw
         have yy:=hSw.2 3 _ rfl
         go_simp
         all_goals (with_reducible rfl)
        (try simp only[Act.put,La,Lz,Lc])
        refine wpAnyH_take (i:=14) (v:=?_) rfl (by kernel_rfl) (by kernel_rfl) (by kernel_rfl) (fun _ _ _ h=>h) (Or.inl ⟨by rfl,?_⟩) hHeld ?_
        rotate_left
        ·intro wq hSw
         go_simp
         all_goals (with_reducible rfl)
        (try simp only[Act.put,La,Lz,Lc])
        refine wpAnyH_take (i:=15) (v:=?_) rfl (by kernel_rfl) (by kernel_rfl) (by kernel_rfl) (fun _ _ _ h=>h) (Or.inl ⟨by rfl,?_⟩) hHeld ?_
        rotate_left
        ·intro wq hSw
         go_simp
         all_goals (with_reducible rfl)
        (try simp only[Act.put,La,Lz,Lc])
        refine wpAnyH_take (i:=16) (v:=?_) rfl (by kernel_rfl) (by kernel_rfl) (by kernel_rfl) (fun _ _ _ h=>h) (Or.inl ⟨by rfl,?_⟩) hHeld ?_
        rotate_left
        ·intro wq hSw
         have yy:=hSw.2 4 _ rfl
         go_simp
         all_goals (with_reducible rfl)
        (try simp only[Act.put,La,Lz,Lc])
        refine wpAnyH_take (i:=17) (v:=?_) rfl (by kernel_rfl) (by kernel_rfl) (by kernel_rfl) (fun _ _ _ h=>h) (Or.inl ⟨by rfl,?_⟩) hHeld ?_
        rotate_left
        ·intro wq hSw
         go_simp
         all_goals (with_reducible rfl)
        (try simp only[Act.put,La,Lz,Lc])
        refine wpAnyH_take (i:=18) (v:=?_) rfl (by kernel_rfl) (by kernel_rfl) (by kernel_rfl) (fun _ _ _ h=>h) (Or.inl ⟨by rfl,?_⟩) hHeld ?_
        rotate_left
        ·intro wq hSw
         go_simp
         all_goals (with_reducible rfl)
        (try simp only[Act.put,La,Lz,Lc])
        refine wpAnyH_take (i:=19) (v:=?_) rfl (by kernel_rfl) (by kernel_rfl) (by kernel_rfl) (fun _ _ _ h=>h) (Or.inl ⟨by rfl,?_⟩) hHeld ?_
        rotate_left
        ·intro wq hSw
         have yy:=hSw.2 5 _ rfl
         go_simp
         all_goals (with_reducible rfl)
        (try simp only[Act.put,La,Lz,Lc])
        refine wpAnyH_take (i:=20) (v:=?_) rfl (by kernel_rfl) (by kernel_rfl) (by kernel_rfl) (fun _ _ _ h=>h) (Or.inl ⟨by rfl,?_⟩) hHeld ?_
        rotate_left
        ·intro wq hSw
         go_simp
         all_goals (with_reducible rfl)
        (try simp only[Act.put,La,Lz,Lc])
        refine wpAnyH_take (i:=21) (v:=?_) rfl (by kernel_rfl) (by kernel_rfl) (by kernel_rfl) (fun _ _ _ h=>h) (Or.inl ⟨by rfl,?_⟩) hHeld ?_
        rotate_left
        ·intro wq hSw
         go_simp
         all_goals (with_reducible rfl)
        (try simp only[Act.put,La,Lz,Lc])
        refine wpAnyH_take (i:=22) (v:=?_) rfl (by kernel_rfl) (by kernel_rfl) (by kernel_rfl) (fun _ _ _ h=>h) (Or.inl ⟨by rfl,?_⟩) hHeld ?_
        rotate_left
        ·intro wq hSw
         go_simp
         all_goals (with_reducible rfl)
        (try simp only[Act.put,La,Lz,Lc])
        refine wpAnyH_take (i:=23) (v:=?_) rfl (by kernel_rfl) (by kernel_rfl) (by kernel_rfl) (fun _ _ _ h=>h) (Or.inl ⟨by rfl,?_⟩) hHeld ?_
        rotate_left
        ·intro wq hSw
         have yy:=hSw.2 6 _ rfl
         go_simp
         all_goals (with_reducible rfl)
        (try simp only[Act.put,La,Lz,Lc])
        refine wpAnyH_take (i:=24) (v:=?_) rfl (by kernel_rfl) (by kernel_rfl) (by kernel_rfl) (fun _ _ _ h=>h) (Or.inl ⟨by rfl,?_⟩) hHeld ?_
        rotate_left
        ·intro wq hSw
         go_simp
         all_goals (with_reducible rfl)
        (try simp only[Act.put,La,Lz,Lc])
        refine wpAnyH_take (i:=25) (v:=?_) rfl (by kernel_rfl) (by kernel_rfl) (by kernel_rfl) (fun _ _ _ h=>h) (Or.inl ⟨by rfl,?_⟩) hHeld ?_
        rotate_left
        ·intro wq hSw
         go_simp
         all_goals (with_reducible rfl)
        (try simp only[Act.put,La,Lz,Lc])
        refine wpAnyH_take (i:=26) (v:=?_) rfl (by kernel_rfl) (by kernel_rfl) (by kernel_rfl) (fun _ _ _ h=>h) (Or.inl ⟨by rfl,?_⟩) hHeld ?_
        rotate_left
        ·intro wq hSw
         have yy:=hSw.2 7 _ rfl
         go_simp
         all_goals (with_reducible rfl)
        (try simp only[Act.put,La,Lz,Lc])
        refine wpAnyH_take (i:=27) (v:=?_) rfl (by kernel_rfl) (by kernel_rfl) (by kernel_rfl) (fun _ _ _ h=>h) (Or.inl ⟨by rfl,?_⟩) hHeld ?_
        rotate_left
        ·intro wq hSw
         go_simp
         all_goals (with_reducible rfl)
        (try simp only[Act.put,La,Lz,Lc])
        refine wpAnyH_ready (rs:=[1,28]) (by kernel_rfl) (by simp) ?_
        refine AllReadyH.cons rfl (fun K hK=>?_) ?_
        ·skip
         go_simp
         refine hK.out _ _ hHeld (fun hHeld=>?_)
         clear hK
         (try simp only[Act.put,La,Lz,Lc])
         refine wpAnyH_ready (rs:=[28]) (by kernel_rfl) (by simp) ?_
         refine AllReadyH.cons rfl (fun K hK=>?_) AllReadyH.nil
         go_simp
         obtain ⟨V5,hV5,X5⟩:∃V,V=W3.alloc (.cells (ab (⟨n0,n1,n2,n3,n4,n5 == 1,n6,n7⟩:al)).toArray 53)/\Hid (di H (Sl aa L.length cc) u k L O V/\Below H w V/\ah V W3.heap.size (ab (⟨n0,n1,n2,n3,n4,n5 == 1,n6,n7⟩:al))/\H+1+1<=V.heap.size/\ix g3 [Ii Jj n0,Ii Jj n1,Ii Jj n2,Ii Jj n3,Ii Jj n4,Ii Jj n5,Ii Jj n6,Ii Jj n7] V):=
          ⟨_,rfl,XD.out.1.alloc _,XD.out.2.alloc (by have:=XD.out.1.2.1.2.2;omega) _,ah.new _ _ _,by have:=XD.out.1.2.1.2.2;simp;omega,hHeld.alloc _⟩
         have SS5:V5.cell? ⟨H+1,1,none⟩=some (Sl aa L.length cc):=X5.out.1.2.1.1.2.1
         have HV5:Hid (V5=W3.alloc (.cells #[Ii Jj n0,Ii Jj n1,Ii Jj n2,Ii Jj n3,Ii Jj n4,.bool (n5 == 1),Ii Jj n6,Ii Jj n7] 53)):=hV5
         clear hV5 SS hHeld
         refine hK.out _ _ (by rw[←HV5.out];exact X5.out.2.2.2.2) (fun hHeld=>?_)
         rw[←HV5.out] at hHeld
         rw[←HV5.out]
         clear hK
         obtain ⟨r5,hr5⟩:∃r,W3.heap.size=r:=⟨_,rfl⟩
         try rw[hr5]
         rw[hr5] at X5
         clear XD HV5 hr5
         have NW:Hid (∀j y,(ab (⟨n0,n1,n2,n3,n4,n5 == 1,n6,n7⟩:al))[j]? =some y->V5.cell? ((⟨r5,0,none⟩:Addr).add j)=some y):=fun j y hj=>by
          have e:(⟨r5,0,none⟩:Addr).add j=⟨r5,j,none⟩:=by cases j <;>simp[Addr.add]
          rw[e]
          exact X5.out.2.2.1.1 j y hj
         have ONE:Hid (∀y ∈ ab (⟨n0,n1,n2,n3,n4,n5 == 1,n6,n7⟩:al),y.oneCell'=true):=fun y hy=>by
          simp only[ab,List.mem_cons,List.not_mem_nil,or_false] at hy
          rcases hy with e|e|e|e|e|e|e|e <;>subst e <;>rfl
         (try simp only[Act.put,La,Lz,Lc])
         refine wpAnyH_ready (rs:=[29]) (by kernel_rfl) (by simp) ?_
         refine AllReadyH.cons rfl (fun K hK=>?_) AllReadyH.nil
         refine az _ (by rfl) _ _ 24 (by rfl) (H+1+1) 53 iA _ 8 64 Tryz.underlying24 hA zA0 zA1 zA2 rfl (by decide) _ _ _ (by rfl) X5.out.1.2.2.1 ⟨r5,0,none⟩ 1 1 (ab (⟨n0,n1,n2,n3,n4,n5 == 1,n6,n7⟩:al)) (by rfl) rfl NW.out ONE.out (by unfold maxLen;omega) (by omega) X5.out.2.2.2.1 ?_
         intro v6 w6 hown hgrow
         have X6:Hid (di H v6 u k (L++[(⟨n0,n1,n2,n3,n4,n5 == 1,n6,n7⟩:al)]) O (w6.setCell ⟨H+1,1,none⟩ v6)):=X5.out.1.addA hown hgrow
         have B6:Hid (Below H w w6):=X5.out.2.1.grown hgrow (by have:=X5.out.2.2.2.1;omega) (fun q hq=>by have:=(hbv.out q hq).1;omega)
         have N6:Hid (ix g3 [Ii Jj n0,Ii Jj n1,Ii Jj n2,Ii Jj n3,Ii Jj n4,Ii Jj n5,Ii Jj n6,Ii Jj n7] w6):=X5.out.2.2.2.2.grown hgrow (fun e=>(hbv.out g3 e).2 rfl)
         have hz6:w6.cell? ⟨H+1,1,none⟩=some (Sl aa L.length cc):=(World.cell?_of_block (w:=V5) (hgrow.block (H+1) X5.out.1.2.1.2.2 (fun e=>by have:=(hbv.out _ e.symm).1;omega))).trans SS5
         have hf6:w6.frozen? ⟨H+1,1,none⟩=false:=(World.frozen?_of_block (w:=V5) (hgrow.block (H+1) X5.out.1.2.1.2.2 (fun e=>by have:=(hbv.out _ e.symm).1;omega))).trans (X5.out.1.2.1.2.1 1)
         clear hown hgrow hHeld
         refine hK.out _ _ N6.out (fun hHeld=>?_)
         clear hK X5 SS5 hbv NW ONE
         (try simp only[Act.put,La,Lz,Lc])
         refine wpAnyH_take (i:=30) (v:=?_) rfl (by kernel_rfl) (by kernel_rfl) (by kernel_rfl) (fun _ _ _ h=>h) (Or.inl ⟨by rfl,?_⟩) hHeld ?_
         rotate_left
         ·intro wq hSw
          go_simp
          all_goals (with_reducible rfl)
         (try simp only[Act.put,La,Lz,Lc])
         refine wpAnyH_ready (rs:=[31]) (by kernel_rfl) (by simp) ?_
         refine AllReadyH.cons rfl (fun K hK=>?_) AllReadyH.nil
         obtain ⟨a6,c6,hv6⟩:∃a6 c6,v6=Sl a6 (L++[(⟨n0,n1,n2,n3,n4,n5 == 1,n6,n7⟩:al)]).length c6:=X6.out.2.2.1.len
         subst hv6
         obtain ⟨m6,hm6⟩:∃m,(L++[(⟨n0,n1,n2,n3,n4,n5 == 1,n6,n7⟩:al)]).length=m:=⟨_,rfl⟩
         rw[hm6] at X6
         simp only[hm6]
         clear hm6
         go_simp
         refine hK.out _ _ (ix.set (Q:=H+1) N6.out (by omega) _ _) (fun hHeld=>?_)
         clear hK
         (try simp only[Act.put,La,Lz,Lc])
         refine wpAnyH_done (by kernel_rfl) ?_ _
         have X9:Hid (jI s w H y k (L++[(⟨n0,n1,n2,n3,n4,n5 == 1,n6,n7⟩:al)]) O (Sl a6 m6 c6) u (w6.setCell ⟨H+1,1,none⟩ (Sl a6 m6 c6))):=⟨HZ.out,HX.out,X6.out,B6.out.setCell (p:=⟨H+1,1,none⟩) (by show H<=H+1;omega) _⟩
         clear X6 B6 N6 hHeld hz6 hf6 HZ HX
         go_wp2
         go_roundw
         case rel=>exact ⟨y,k,_,_,_,_,rfl,hy',X9⟩
         case measure=>simpa [fl] using hyr
        refine AllReadyH.cons rfl (fun K hK=>?_) AllReadyH.nil
        go_simp
        obtain ⟨V5,hV5,X5⟩:∃V,V=W3.alloc (.cells (ab (⟨n0,n1,n2,n3,n4,n5 == 1,n6,n7⟩:al)).toArray 53)/\Hid (di H (Sl aa L.length cc) u k L O V/\Below H w V/\ah V W3.heap.size (ab (⟨n0,n1,n2,n3,n4,n5 == 1,n6,n7⟩:al))/\H+1+1<=V.heap.size/\ix g3 [Ii Jj n0,Ii Jj n1,Ii Jj n2,Ii Jj n3,Ii Jj n4,Ii Jj n5,Ii Jj n6,Ii Jj n7] V):=
         ⟨_,rfl,XD.out.1.alloc _,XD.out.2.alloc (by have:=XD.out.1.2.1.2.2;omega) _,ah.new _ _ _,by have:=XD.out.1.2.1.2.2;simp;omega,hHeld.alloc _⟩
        have SS5:V5.cell? ⟨H+1,1,none⟩=some (Sl aa L.length cc):=X5.out.1.2.1.1.2.1
        have HV5:Hid (V5=W3.alloc (.cells #[Ii Jj n0,Ii Jj n1,Ii Jj n2,Ii Jj n3,Ii Jj n4,.bool (n5 == 1),Ii Jj n6,Ii Jj n7] 53)):=hV5
        clear hV5 SS hHeld
        refine hK.out _ _ (by rw[←HV5.out];exact X5.out.2.2.2.2) (fun hHeld=>?_)
        rw[←HV5.out] at hHeld
        rw[←HV5.out]
        clear hK
        obtain ⟨r5,hr5⟩:∃r,W3.heap.size=r:=⟨_,rfl⟩
        try rw[hr5]
        rw[hr5] at X5
        clear XD HV5 hr5
        have NW:Hid (∀j y,(ab (⟨n0,n1,n2,n3,n4,n5 == 1,n6,n7⟩:al))[j]? =some y->V5.cell? ((⟨r5,0,none⟩:Addr).add j)=some y):=fun j y hj=>by
         have e:(⟨r5,0,none⟩:Addr).add j=⟨r5,j,none⟩:=by cases j <;>simp[Addr.add]
         rw[e]
         exact X5.out.2.2.1.1 j y hj
        have ONE:Hid (∀y ∈ ab (⟨n0,n1,n2,n3,n4,n5 == 1,n6,n7⟩:al),y.oneCell'=true):=fun y hy=>by
         simp only[ab,List.mem_cons,List.not_mem_nil,or_false] at hy
         rcases hy with e|e|e|e|e|e|e|e <;>subst e <;>rfl
        (try simp only[Act.put,La,Lz,Lc])
        refine wpAnyH_ready (rs:=[1]) (by kernel_rfl) (by simp) ?_
        refine AllReadyH.cons rfl (fun K hK=>?_) AllReadyH.nil
        go_simp
        refine hK.out _ _ hHeld (fun hHeld=>?_)
        clear hK
        (try simp only[Act.put,La,Lz,Lc])
        refine wpAnyH_ready (rs:=[29]) (by kernel_rfl) (by simp) ?_
        refine AllReadyH.cons rfl (fun K hK=>?_) AllReadyH.nil
        refine az _ (by rfl) _ _ 24 (by rfl) (H+1+1) 53 iA _ 8 64 Tryz.underlying24 hA zA0 zA1 zA2 rfl (by decide) _ _ _ (by rfl) X5.out.1.2.2.1 ⟨r5,0,none⟩ 1 1 (ab (⟨n0,n1,n2,n3,n4,n5 == 1,n6,n7⟩:al)) (by rfl) rfl NW.out ONE.out (by unfold maxLen;omega) (by omega) X5.out.2.2.2.1 ?_
        intro v6 w6 hown hgrow
        have X6:Hid (di H v6 u k (L++[(⟨n0,n1,n2,n3,n4,n5 == 1,n6,n7⟩:al)]) O (w6.setCell ⟨H+1,1,none⟩ v6)):=X5.out.1.addA hown hgrow
        have B6:Hid (Below H w w6):=X5.out.2.1.grown hgrow (by have:=X5.out.2.2.2.1;omega) (fun q hq=>by have:=(hbv.out q hq).1;omega)
        have N6:Hid (ix g3 [Ii Jj n0,Ii Jj n1,Ii Jj n2,Ii Jj n3,Ii Jj n4,Ii Jj n5,Ii Jj n6,Ii Jj n7] w6):=X5.out.2.2.2.2.grown hgrow (fun e=>(hbv.out g3 e).2 rfl)
        have hz6:w6.cell? ⟨H+1,1,none⟩=some (Sl aa L.length cc):=(World.cell?_of_block (w:=V5) (hgrow.block (H+1) X5.out.1.2.1.2.2 (fun e=>by have:=(hbv.out _ e.symm).1;omega))).trans SS5
        have hf6:w6.frozen? ⟨H+1,1,none⟩=false:=(World.frozen?_of_block (w:=V5) (hgrow.block (H+1) X5.out.1.2.1.2.2 (fun e=>by have:=(hbv.out _ e.symm).1;omega))).trans (X5.out.1.2.1.2.1 1)
        clear hown hgrow hHeld
        refine hK.out _ _ N6.out (fun hHeld=>?_)
        clear hK X5 SS5 hbv NW ONE
        (try simp only[Act.put,La,Lz,Lc])
        refine wpAnyH_take (i:=30) (v:=?_) rfl (by kernel_rfl) (by kernel_rfl) (by kernel_rfl) (fun _ _ _ h=>h) (Or.inl ⟨by rfl,?_⟩) hHeld ?_
        rotate_left
        ·intro wq hSw
         go_simp
         all_goals (with_reducible rfl)
        (try simp only[Act.put,La,Lz,Lc])
        refine wpAnyH_ready (rs:=[31]) (by kernel_rfl) (by simp) ?_
        refine AllReadyH.cons rfl (fun K hK=>?_) AllReadyH.nil
        obtain ⟨a6,c6,hv6⟩:∃a6 c6,v6=Sl a6 (L++[(⟨n0,n1,n2,n3,n4,n5 == 1,n6,n7⟩:al)]).length c6:=X6.out.2.2.1.len
        subst hv6
        obtain ⟨m6,hm6⟩:∃m,(L++[(⟨n0,n1,n2,n3,n4,n5 == 1,n6,n7⟩:al)]).length=m:=⟨_,rfl⟩
        rw[hm6] at X6
        simp only[hm6]
        clear hm6
        go_simp
        refine hK.out _ _ (ix.set (Q:=H+1) N6.out (by omega) _ _) (fun hHeld=>?_)
        clear hK
        (try simp only[Act.put,La,Lz,Lc])
        refine wpAnyH_done (by kernel_rfl) ?_ _
        have X9:Hid (jI s w H y k (L++[(⟨n0,n1,n2,n3,n4,n5 == 1,n6,n7⟩:al)]) O (Sl a6 m6 c6) u (w6.setCell ⟨H+1,1,none⟩ (Sl a6 m6 c6))):=⟨HZ.out,HX.out,X6.out,B6.out.setCell (p:=⟨H+1,1,none⟩) (by show H<=H+1;omega) _⟩
        clear X6 B6 N6 hHeld hz6 hf6 HZ HX
        go_wp2
        go_roundw
        case rel=>exact ⟨y,k,_,_,_,_,rfl,hy',X9⟩
        case measure=>simpa [fl] using hyr
       ·have l8':((l3:Int) == 8)=false:=by simp;omega
        have HX:Hid (g8 s.data.toList y.data.toList k L O):=X3.out.2.1.other HR0.out HC1.out.1 HC2.out HNS.out (fun e=>zb (ca e.1)) (fun e=>l8 (HL3.out.symm.trans e.2)) (fun e=>by rw[za] at e;exact absurd e.1 (by decide))
        clear zb za
        have hyr:y.size<r.size:=HC1.out.2 rfl
        have X9:Hid (jI s w H y k L O v u w3):=⟨by have:=X3.out.1;omega,HX.out,X3.out.2.2.1,X3.out.2.2.2⟩
        clear HX X3 HC1 HC2 HR0 HNS HI3 HL3
        go_wp2
        go_roundw
        case rel=>exact ⟨y,k,L,O,v,u,rfl,hy',X9⟩
        case measure=>simpa [fl] using hyr
      ·have q2:¬z.toList=[97,99,99,111,117,110,116]:=ko za
       by_cases zo:z=⟨#[111,114,100,101,114]⟩
       ·have q3:z.toList=[111,114,100,101,114]:=by rw[zo,Lib.toList_data]
        by_cases l7:l3=7
        ·skip
         subst l7
         have hyr:y.size<r.size:=HC1.out.2 rfl
         obtain ⟨n0,n1,n2,n3,n4,n5,n6,hnl,hk⟩:=qT HL3.out
         have HX:Hid (g8 s.data.toList y.data.toList k L (O++[(⟨n0,n1,n2,n3,n4,n5,n6⟩:am)])):=X3.out.2.1.ord HR0.out HC1.out.1 HC2.out HNS.out (by rw[zo];rfl) hk
         have hNm:ix g3 [Ii Jj n0,Ii Jj n1,Ii Jj n2,Ii Jj n3,Ii Jj n4,Ii Jj n5,Ii Jj n6] w3.drew:=by
          rw[hnl] at HI3
          refine ⟨hg32,fun j q hj=>?_⟩
          match j,hj with
          | 0,hj=>simp at hj;subst hj;exact HI3.out.num 0 (by simp)
          | 1,hj=>simp at hj;subst hj;exact HI3.out.num 1 (by simp)
          | 2,hj=>simp at hj;subst hj;exact HI3.out.num 2 (by simp)
          | 3,hj=>simp at hj;subst hj;exact HI3.out.num 3 (by simp)
          | 4,hj=>simp at hj;subst hj;exact HI3.out.num 4 (by simp)
          | 5,hj=>simp at hj;subst hj;exact HI3.out.num 5 (by simp)
          | 6,hj=>simp at hj;subst hj;exact HI3.out.num 6 (by simp)
         have hll:O.length<=1048576:=by have:=X3.out.1;omega
         obtain ⟨aa,cc,hv⟩:∃aa cc,u=Sl aa O.length cc:=(by obtain ⟨a',c',hv,_⟩:=X3.out.2.2.1.2.2.2.shape;exact ⟨a',c',hv⟩)
         subst hv
         have SS:w3.drew.cell? ⟨H+1,2,none⟩=some (Sl aa O.length cc):=X3.out.2.2.1.2.1.1.2.2.1
         have XD:Hid (di H v (Sl aa O.length cc) k L O w3.drew/\Below H w w3.drew):=⟨X3.out.2.2.1,X3.out.2.2.2.drew⟩
         have HZ:Hid (L.length+(O++[(⟨n0,n1,n2,n3,n4,n5,n6⟩:am)]).length+y.size<=s.size):=by show _<=_;have:=X3.out.1;simp;omega
         have hbv:Hid (∀q,(Value.slice aa O.length cc).ownBlock=some q->H+1+1<=q/\q≠g3):=fun q hq=>⟨(X3.out.2.2.1.blk.2 q hq).1,HAP.out.2 q hq⟩
         clear hnl hk X3 HI3 HL3 HNS HC1 HC2 HR0 zb za zo HAP
         go_upto_region 19 with fail
         refine wp_region_held_drew (S:=ix g3 [Ii Jj n0,Ii Jj n1,Ii Jj n2,Ii Jj n3,Ii Jj n4,Ii Jj n5,Ii Jj n6]) (by kernel_rfl) hNm (fun hHeld=>?_)
         clear hNm
         generalize w3.drew=W3 at hHeld SS XD ⊢
         obtain ⟨iA,hA,zA0,zA1,zA2⟩:=info_parts sV
         refine wpAnyH_take (i:=0) (v:=?_) rfl (by kernel_rfl) (by kernel_rfl) (by kernel_rfl) (fun _ _ _ h=>h) (Or.inl ⟨by rfl,?_⟩) hHeld ?_
         rotate_left
         ·intro wq hSw
          go_simp
          all_goals (with_reducible rfl)
         (try simp only[Act.put,La,Lz,Lc])
         refine wpAnyH_take (i:=2) (v:=?_) rfl (by kernel_rfl) (by kernel_rfl) (by kernel_rfl) (fun _ _ _ h=>h) (Or.inl ⟨by rfl,?_⟩) hHeld ?_
         rotate_left
         ·intro wq hSw
          go_simp
          all_goals (with_reducible rfl)
         (try simp only[Act.put,La,Lz,Lc])
         refine wpAnyH_take (i:=3) (v:=?_) rfl (by kernel_rfl) (by kernel_rfl) (by kernel_rfl) (fun _ _ _ h=>h) (Or.inl ⟨by rfl,?_⟩) hHeld ?_
         rotate_left
         ·intro wq hSw
          go_simp
          all_goals (with_reducible rfl)
         (try simp only[Act.put,La,Lz,Lc])
         refine wpAnyH_take (i:=4) (v:=?_) rfl (by kernel_rfl) (by kernel_rfl) (by kernel_rfl) (fun _ _ _ h=>h) (Or.inl ⟨by rfl,?_⟩) hHeld ?_
         rotate_left
         ·intro wq hSw
          have yy:=hSw.2 0 _ rfl
          go_simp
          all_goals (with_reducible rfl)
         (try simp only[Act.put,La,Lz,Lc])
         refine wpAnyH_take (i:=5) (v:=?_) rfl (by kernel_rfl) (by kernel_rfl) (by kernel_rfl) (fun _ _ _ h=>h) (Or.inl ⟨by rfl,?_⟩) hHeld ?_
         rotate_left
         ·intro wq hSw
          go_simp
          all_goals (with_reducible rfl)
         (try simp only[Act.put,La,Lz,Lc])
         refine wpAnyH_take (i:=6) (v:=?_) rfl (by kernel_rfl) (by kernel_rfl) (by kernel_rfl) (fun _ _ _ h=>h) (Or.inl ⟨by rfl,?_⟩) hHeld ?_
         rotate_left
         ·intro wq hSw
          go_simp
          all_goals (with_reducible rfl)
         (try simp only[Act.put,La,Lz,Lc])
         refine wpAnyH_take (i:=7) (v:=?_) rfl (by kernel_rfl) (by kernel_rfl) (by kernel_rfl) (fun _ _ _ h=>h) (Or.inl ⟨by rfl,?_⟩) hHeld ?_
         rotate_left
         ·intro wq hSw
          have yy:=hSw.2 1 _ rfl
          go_simp
          all_goals (with_reducible rfl)
         (try simp only[Act.put,La,Lz,Lc])
         refine wpAnyH_take (i:=8) (v:=?_) rfl (by kernel_rfl) (by kernel_rfl) (by kernel_rfl) (fun _ _ _ h=>h) (Or.inl ⟨by rfl,?_⟩) hHeld ?_
         rotate_left
         ·intro wq hSw
          go_simp
          all_goals (with_reducible rfl)
         (try simp only[Act.put,La,Lz,Lc])
         refine wpAnyH_take (i:=9) (v:=?_) rfl (by kernel_rfl) (by kernel_rfl) (by kernel_rfl) (fun _ _ _ h=>h) (Or.inl ⟨by rfl,?_⟩) hHeld ?_
         rotate_left
         ·intro wq hSw
          go_simp
          all_goals (with_reducible rfl)
         (try simp only[Act.put,La,Lz,Lc])
         refine wpAnyH_take (i:=10) (v:=?_) rfl (by kernel_rfl) (by kernel_rfl) (by kernel_rfl) (fun _ _ _ h=>h) (Or.inl ⟨by rfl,?_⟩) hHeld ?_
         rotate_left
         ·intro wq hSw
          have yy:=hSw.2 2 _ rfl
          go_simp
          all_goals (with_reducible rfl)
         (try simp only[Act.put,La,Lz,Lc])
         refine wpAnyH_take (i:=11) (v:=?_) rfl (by kernel_rfl) (by kernel_rfl) (by kernel_rfl) (fun _ _ _ h=>h) (Or.inl ⟨by rfl,?_⟩) hHeld ?_
         rotate_left
         ·intro wq hSw
          go_simp
          all_goals (with_reducible rfl)
         (try simp only[Act.put,La,Lz,Lc])
         refine wpAnyH_take (i:=12) (v:=?_) rfl (by kernel_rfl) (by kernel_rfl) (by kernel_rfl) (fun _ _ _ h=>h) (Or.inl ⟨by rfl,?_⟩) hHeld ?_
         rotate_left
         ·intro wq hSw
          go_simp
          all_goals (with_reducible rfl)
         (try simp only[Act.put,La,Lz,Lc])
         refine wpAnyH_take (i:=13) (v:=?_) rfl (by kernel_rfl) (by kernel_rfl) (by kernel_rfl) (fun _ _ _ h=>h) (Or.inl ⟨by rfl,?_⟩) hHeld ?_
         rotate_left
         ·intro wq hSw
          have yy:=hSw.2 3 _ rfl
          go_simp
          all_goals (with_reducible rfl)
         (try simp only[Act.put,La,Lz,Lc])
         refine wpAnyH_take (i:=14) (v:=?_) rfl (by kernel_rfl) (by kernel_rfl) (by kernel_rfl) (fun _ _ _ h=>h) (Or.inl ⟨by rfl,?_⟩) hHeld ?_
         rotate_left
         ·intro wq hSw
          go_simp
          all_goals (with_reducible rfl)
         (try simp only[Act.put,La,Lz,Lc])
         refine wpAnyH_take (i:=15) (v:=?_) rfl (by kernel_rfl) (by kernel_rfl) (by kernel_rfl) (fun _ _ _ h=>h) (Or.inl ⟨by rfl,?_⟩) hHeld ?_
         rotate_left
         ·intro wq hSw
          go_simp
          all_goals (with_reducible rfl)
         (try simp only[Act.put,La,Lz,Lc])
         refine wpAnyH_take (i:=16) (v:=?_) rfl (by kernel_rfl) (by kernel_rfl) (by kernel_rfl) (fun _ _ _ h=>h) (Or.inl ⟨by rfl,?_⟩) hHeld ?_
         rotate_left
         ·intro wq hSw
          have yy:=hSw.2 4 _ rfl
          go_simp
          all_goals (with_reducible rfl)
         (try simp only[Act.put,La,Lz,Lc])
         refine wpAnyH_take (i:=17) (v:=?_) rfl (by kernel_rfl) (by kernel_rfl) (by kernel_rfl) (fun _ _ _ h=>h) (Or.inl ⟨by rfl,?_⟩) hHeld ?_
         rotate_left
         ·intro wq hSw
          go_simp
          all_goals (with_reducible rfl)
         (try simp only[Act.put,La,Lz,Lc])
         refine wpAnyH_take (i:=18) (v:=?_) rfl (by kernel_rfl) (by kernel_rfl) (by kernel_rfl) (fun _ _ _ h=>h) (Or.inl ⟨by rfl,?_⟩) hHeld ?_
         rotate_left
         ·intro wq hSw
          go_simp
          all_goals (with_reducible rfl)
         (try simp only[Act.put,La,Lz,Lc])
         refine wpAnyH_take (i:=19) (v:=?_) rfl (by kernel_rfl) (by kernel_rfl) (by kernel_rfl) (fun _ _ _ h=>h) (Or.inl ⟨by rfl,?_⟩) hHeld ?_
         rotate_left
         ·intro wq hSw
          have yy:=hSw.2 5 _ rfl
          go_simp
          all_goals (with_reducible rfl)
         (try simp only[Act.put,La,Lz,Lc])
         refine wpAnyH_take (i:=20) (v:=?_) rfl (by kernel_rfl) (by kernel_rfl) (by kernel_rfl) (fun _ _ _ h=>h) (Or.inl ⟨by rfl,?_⟩) hHeld ?_
         rotate_left
         ·intro wq hSw
          go_simp
          all_goals (with_reducible rfl)
         (try simp only[Act.put,La,Lz,Lc])
         refine wpAnyH_take (i:=21) (v:=?_) rfl (by kernel_rfl) (by kernel_rfl) (by kernel_rfl) (fun _ _ _ h=>h) (Or.inl ⟨by rfl,?_⟩) hHeld ?_
         rotate_left
         ·intro wq hSw
          go_simp
          all_goals (with_reducible rfl)
         (try simp only[Act.put,La,Lz,Lc])
         refine wpAnyH_take (i:=22) (v:=?_) rfl (by kernel_rfl) (by kernel_rfl) (by kernel_rfl) (fun _ _ _ h=>h) (Or.inl ⟨by rfl,?_⟩) hHeld ?_
         rotate_left
         ·intro wq hSw
          have yy:=hSw.2 6 _ rfl
          go_simp
          all_goals (with_reducible rfl)
         (try simp only[Act.put,La,Lz,Lc])
         refine wpAnyH_take (i:=23) (v:=?_) rfl (by kernel_rfl) (by kernel_rfl) (by kernel_rfl) (fun _ _ _ h=>h) (Or.inl ⟨by rfl,?_⟩) hHeld ?_
         rotate_left
         ·intro wq hSw
          go_simp
          all_goals (with_reducible rfl)
         (try simp only[Act.put,La,Lz,Lc])
         refine wpAnyH_ready (rs:=[1,24]) (by kernel_rfl) (by simp) ?_
         refine AllReadyH.cons rfl (fun K hK=>?_) ?_
         ·skip
          go_simp
          refine hK.out _ _ hHeld (fun hHeld=>?_)
          clear hK
          (try simp only[Act.put,La,Lz,Lc])
          refine wpAnyH_ready (rs:=[24]) (by kernel_rfl) (by simp) ?_
          refine AllReadyH.cons rfl (fun K hK=>?_) AllReadyH.nil
          go_simp
          obtain ⟨V5,hV5,X5⟩:∃V,V=W3.alloc (.cells (au (⟨n0,n1,n2,n3,n4,n5,n6⟩:am)).toArray 35)/\Hid (di H v (Sl aa O.length cc) k L O V/\Below H w V/\ah V W3.heap.size (au (⟨n0,n1,n2,n3,n4,n5,n6⟩:am))/\H+1+1<=V.heap.size/\ix g3 [Ii Jj n0,Ii Jj n1,Ii Jj n2,Ii Jj n3,Ii Jj n4,Ii Jj n5,Ii Jj n6] V):=
           ⟨_,rfl,XD.out.1.alloc _,XD.out.2.alloc (by have:=XD.out.1.2.1.2.2;omega) _,ah.new _ _ _,by have:=XD.out.1.2.1.2.2;simp;omega,hHeld.alloc _⟩
          have SS5:V5.cell? ⟨H+1,2,none⟩=some (Sl aa O.length cc):=X5.out.1.2.1.1.2.2.1
          have HV5:Hid (V5=W3.alloc (.cells #[Ii Jj n0,Ii Jj n1,Ii Jj n2,Ii Jj n3,Ii Jj n4,Ii Jj n5,Ii Jj n6] 35)):=hV5
          clear hV5 SS hHeld
          refine hK.out _ _ (by rw[←HV5.out];exact X5.out.2.2.2.2) (fun hHeld=>?_)
          rw[←HV5.out] at hHeld
          rw[←HV5.out]
          clear hK
          obtain ⟨r5,hr5⟩:∃r,W3.heap.size=r:=⟨_,rfl⟩
          try rw[hr5]
          rw[hr5] at X5
          clear XD HV5 hr5
          have NW:Hid (∀j y,(au (⟨n0,n1,n2,n3,n4,n5,n6⟩:am))[j]? =some y->V5.cell? ((⟨r5,0,none⟩:Addr).add j)=some y):=fun j y hj=>by
           have e:(⟨r5,0,none⟩:Addr).add j=⟨r5,j,none⟩:=by cases j <;>simp[Addr.add]
           rw[e]
           exact X5.out.2.2.1.1 j y hj
          have ONE:Hid (∀y ∈ au (⟨n0,n1,n2,n3,n4,n5,n6⟩:am),y.oneCell'=true):=fun y hy=>by
           simp only[au,List.mem_cons,List.not_mem_nil,or_false] at hy
           rcases hy with e|e|e|e|e|e|e <;>subst e <;>rfl
          (try simp only[Act.put,La,Lz,Lc])
          refine wpAnyH_ready (rs:=[25]) (by kernel_rfl) (by simp) ?_
          refine AllReadyH.cons rfl (fun K hK=>?_) AllReadyH.nil
          refine az _ (by rfl) _ _ 25 (by rfl) (H+1+1) 35 iA _ 7 56 Tryz.underlying25 hA zA0 zA1 zA2 rfl (by decide) _ _ _ (by rfl) X5.out.1.2.2.2 ⟨r5,0,none⟩ 1 1 (au (⟨n0,n1,n2,n3,n4,n5,n6⟩:am)) (by rfl) rfl NW.out ONE.out (by unfold maxLen;omega) (by omega) X5.out.2.2.2.1 ?_
          intro v6 w6 hown hgrow
          have X6:Hid (di H v v6 k L (O++[(⟨n0,n1,n2,n3,n4,n5,n6⟩:am)]) (w6.setCell ⟨H+1,2,none⟩ v6)):=X5.out.1.addO hown hgrow
          have B6:Hid (Below H w w6):=X5.out.2.1.grown hgrow (by have:=X5.out.2.2.2.1;omega) (fun q hq=>by have:=(hbv.out q hq).1;omega)
          have N6:Hid (ix g3 [Ii Jj n0,Ii Jj n1,Ii Jj n2,Ii Jj n3,Ii Jj n4,Ii Jj n5,Ii Jj n6] w6):=X5.out.2.2.2.2.grown hgrow (fun e=>(hbv.out g3 e).2 rfl)
          have hz6:w6.cell? ⟨H+1,2,none⟩=some (Sl aa O.length cc):=(World.cell?_of_block (w:=V5) (hgrow.block (H+1) X5.out.1.2.1.2.2 (fun e=>by have:=(hbv.out _ e.symm).1;omega))).trans SS5
          have hf6:w6.frozen? ⟨H+1,2,none⟩=false:=(World.frozen?_of_block (w:=V5) (hgrow.block (H+1) X5.out.1.2.1.2.2 (fun e=>by have:=(hbv.out _ e.symm).1;omega))).trans (X5.out.1.2.1.2.1 2)
          clear hown hgrow hHeld
          refine hK.out _ _ N6.out (fun hHeld=>?_)
          clear hK X5 SS5 hbv NW ONE
          (try simp only[Act.put,La,Lz,Lc])
          refine wpAnyH_take (i:=26) (v:=?_) rfl (by kernel_rfl) (by kernel_rfl) (by kernel_rfl) (fun _ _ _ h=>h) (Or.inl ⟨by rfl,?_⟩) hHeld ?_
          rotate_left
          ·intro wq hSw
           go_simp
           all_goals (with_reducible rfl)
          (try simp only[Act.put,La,Lz,Lc])
          refine wpAnyH_ready (rs:=[27]) (by kernel_rfl) (by simp) ?_
          refine AllReadyH.cons rfl (fun K hK=>?_) AllReadyH.nil
          obtain ⟨a6,c6,hv6⟩:∃a6 c6,v6=Sl a6 (O++[(⟨n0,n1,n2,n3,n4,n5,n6⟩:am)]).length c6:=(by obtain ⟨a',c',hv,_⟩:=X6.out.2.2.2.shape;exact ⟨a',c',hv⟩)
          subst hv6
          obtain ⟨m6,hm6⟩:∃m,(O++[(⟨n0,n1,n2,n3,n4,n5,n6⟩:am)]).length=m:=⟨_,rfl⟩
          rw[hm6] at X6
          simp only[hm6]
          clear hm6
          go_simp
          refine hK.out _ _ (ix.set (Q:=H+1) N6.out (by omega) _ _) (fun hHeld=>?_)
          clear hK
          (try simp only[Act.put,La,Lz,Lc])
          refine wpAnyH_done (by kernel_rfl) ?_ _
          have X9:Hid (jI s w H y k L (O++[(⟨n0,n1,n2,n3,n4,n5,n6⟩:am)]) v (Sl a6 m6 c6) (w6.setCell ⟨H+1,2,none⟩ (Sl a6 m6 c6))):=⟨HZ.out,HX.out,X6.out,B6.out.setCell (p:=⟨H+1,2,none⟩) (by show H<=H+1;omega) _⟩
          clear X6 B6 N6 hHeld hz6 hf6 HZ HX
          go_wp2
          go_roundw
          case rel=>exact ⟨y,k,_,_,_,_,rfl,hy',X9⟩
          case measure=>simpa [fl] using hyr
         refine AllReadyH.cons rfl (fun K hK=>?_) AllReadyH.nil
         go_simp
         obtain ⟨V5,hV5,X5⟩:∃V,V=W3.alloc (.cells (au (⟨n0,n1,n2,n3,n4,n5,n6⟩:am)).toArray 35)/\Hid (di H v (Sl aa O.length cc) k L O V/\Below H w V/\ah V W3.heap.size (au (⟨n0,n1,n2,n3,n4,n5,n6⟩:am))/\H+1+1<=V.heap.size/\ix g3 [Ii Jj n0,Ii Jj n1,Ii Jj n2,Ii Jj n3,Ii Jj n4,Ii Jj n5,Ii Jj n6] V):=
          ⟨_,rfl,XD.out.1.alloc _,XD.out.2.alloc (by have:=XD.out.1.2.1.2.2;omega) _,ah.new _ _ _,by have:=XD.out.1.2.1.2.2;simp;omega,hHeld.alloc _⟩
         have SS5:V5.cell? ⟨H+1,2,none⟩=some (Sl aa O.length cc):=X5.out.1.2.1.1.2.2.1
         have HV5:Hid (V5=W3.alloc (.cells #[Ii Jj n0,Ii Jj n1,Ii Jj n2,Ii Jj n3,Ii Jj n4,Ii Jj n5,Ii Jj n6] 35)):=hV5
         clear hV5 SS hHeld
         refine hK.out _ _ (by rw[←HV5.out];exact X5.out.2.2.2.2) (fun hHeld=>?_)
         rw[←HV5.out] at hHeld
         rw[←HV5.out]
         clear hK
         obtain ⟨r5,hr5⟩:∃r,W3.heap.size=r:=⟨_,rfl⟩
         try rw[hr5]
         rw[hr5] at X5
         clear XD HV5 hr5
         have NW:Hid (∀j y,(au (⟨n0,n1,n2,n3,n4,n5,n6⟩:am))[j]? =some y->V5.cell? ((⟨r5,0,none⟩:Addr).add j)=some y):=fun j y hj=>by
          have e:(⟨r5,0,none⟩:Addr).add j=⟨r5,j,none⟩:=by cases j <;>simp[Addr.add]
          rw[e]
          exact X5.out.2.2.1.1 j y hj
         have ONE:Hid (∀y ∈ au (⟨n0,n1,n2,n3,n4,n5,n6⟩:am),y.oneCell'=true):=fun y hy=>by
          simp only[au,List.mem_cons,List.not_mem_nil,or_false] at hy
          rcases hy with e|e|e|e|e|e|e <;>subst e <;>rfl
         (try simp only[Act.put,La,Lz,Lc])
         refine wpAnyH_ready (rs:=[1]) (by kernel_rfl) (by simp) ?_
         refine AllReadyH.cons rfl (fun K hK=>?_) AllReadyH.nil
         go_simp
         refine hK.out _ _ hHeld (fun hHeld=>?_)
         clear hK
         (try simp only[Act.put,La,Lz,Lc])
         refine wpAnyH_ready (rs:=[25]) (by kernel_rfl) (by simp) ?_
         refine AllReadyH.cons rfl (fun K hK=>?_) AllReadyH.nil
         refine az _ (by rfl) _ _ 25 (by rfl) (H+1+1) 35 iA _ 7 56 Tryz.underlying25 hA zA0 zA1 zA2 rfl (by decide) _ _ _ (by rfl) X5.out.1.2.2.2 ⟨r5,0,none⟩ 1 1 (au (⟨n0,n1,n2,n3,n4,n5,n6⟩:am)) (by rfl) rfl NW.out ONE.out (by unfold maxLen;omega) (by omega) X5.out.2.2.2.1 ?_
         intro v6 w6 hown hgrow
         have X6:Hid (di H v v6 k L (O++[(⟨n0,n1,n2,n3,n4,n5,n6⟩:am)]) (w6.setCell ⟨H+1,2,none⟩ v6)):=X5.out.1.addO hown hgrow
         have B6:Hid (Below H w w6):=X5.out.2.1.grown hgrow (by have:=X5.out.2.2.2.1;omega) (fun q hq=>by have:=(hbv.out q hq).1;omega)
         have N6:Hid (ix g3 [Ii Jj n0,Ii Jj n1,Ii Jj n2,Ii Jj n3,Ii Jj n4,Ii Jj n5,Ii Jj n6] w6):=X5.out.2.2.2.2.grown hgrow (fun e=>(hbv.out g3 e).2 rfl)
         have hz6:w6.cell? ⟨H+1,2,none⟩=some (Sl aa O.length cc):=(World.cell?_of_block (w:=V5) (hgrow.block (H+1) X5.out.1.2.1.2.2 (fun e=>by have:=(hbv.out _ e.symm).1;omega))).trans SS5
         have hf6:w6.frozen? ⟨H+1,2,none⟩=false:=(World.frozen?_of_block (w:=V5) (hgrow.block (H+1) X5.out.1.2.1.2.2 (fun e=>by have:=(hbv.out _ e.symm).1;omega))).trans (X5.out.1.2.1.2.1 2)
         clear hown hgrow hHeld
         refine hK.out _ _ N6.out (fun hHeld=>?_)
         clear hK X5 SS5 hbv NW ONE
         (try simp only[Act.put,La,Lz,Lc])
         refine wpAnyH_take (i:=26) (v:=?_) rfl (by kernel_rfl) (by kernel_rfl) (by kernel_rfl) (fun _ _ _ h=>h) (Or.inl ⟨by rfl,?_⟩) hHeld ?_
         rotate_left
         ·intro wq hSw
          go_simp
          all_goals (with_reducible rfl)
         (try simp only[Act.put,La,Lz,Lc])
         refine wpAnyH_ready (rs:=[27]) (by kernel_rfl) (by simp) ?_
         refine AllReadyH.cons rfl (fun K hK=>?_) AllReadyH.nil
         obtain ⟨a6,c6,hv6⟩:∃a6 c6,v6=Sl a6 (O++[(⟨n0,n1,n2,n3,n4,n5,n6⟩:am)]).length c6:=(by obtain ⟨a',c',hv,_⟩:=X6.out.2.2.2.shape;exact ⟨a',c',hv⟩)
         subst hv6
         obtain ⟨m6,hm6⟩:∃m,(O++[(⟨n0,n1,n2,n3,n4,n5,n6⟩:am)]).length=m:=⟨_,rfl⟩
         rw[hm6] at X6
         simp only[hm6]
         clear hm6
         go_simp
         refine hK.out _ _ (ix.set (Q:=H+1) N6.out (by omega) _ _) (fun hHeld=>?_)
         clear hK
         (try simp only[Act.put,La,Lz,Lc])
         refine wpAnyH_done (by kernel_rfl) ?_ _
         have X9:Hid (jI s w H y k L (O++[(⟨n0,n1,n2,n3,n4,n5,n6⟩:am)]) v (Sl a6 m6 c6) (w6.setCell ⟨H+1,2,none⟩ (Sl a6 m6 c6))):=⟨HZ.out,HX.out,X6.out,B6.out.setCell (p:=⟨H+1,2,none⟩) (by show H<=H+1;omega) _⟩
         clear X6 B6 N6 hHeld hz6 hf6 HZ HX
         go_wp2
         go_roundw
         case rel=>exact ⟨y,k,_,_,_,_,rfl,hy',X9⟩
         case measure=>simpa [fl] using hyr
        ·have l7':((l3:Int) == 7)=false:=by simp;omega
         have HX:Hid (g8 s.data.toList y.data.toList k L O):=X3.out.2.1.other HR0.out HC1.out.1 HC2.out HNS.out (fun e=>zb (ca e.1)) (fun e=>za (ca e.1)) (fun e=>l7 (HL3.out.symm.trans e.2))
         clear zb za zo
         have hyr:y.size<r.size:=HC1.out.2 rfl
         have X9:Hid (jI s w H y k L O v u w3):=⟨by have:=X3.out.1;omega,HX.out,X3.out.2.2.1,X3.out.2.2.2⟩
         clear HX X3 HC1 HC2 HR0 HNS HI3 HL3
         go_wp2
         go_roundw
         case rel=>exact ⟨y,k,L,O,v,u,rfl,hy',X9⟩
         case measure=>simpa [fl] using hyr
       ·have q3:¬z.toList=[111,114,100,101,114]:=ko zo
        have HX:Hid (g8 s.data.toList y.data.toList k L O):=X3.out.2.1.other HR0.out HC1.out.1 HC2.out HNS.out (fun e=>zb (ca e.1)) (fun e=>za (ca e.1)) (fun e=>zo (ca e.1))
        clear zb za zo
        have hyr:y.size<r.size:=HC1.out.2 rfl
        have X9:Hid (jI s w H y k L O v u w3):=⟨by have:=X3.out.1;omega,HX.out,X3.out.2.2.1,X3.out.2.2.2⟩
        clear HX X3 HC1 HC2 HR0 HNS HI3 HL3
        go_wp2
        go_roundw
        case rel=>exact ⟨y,k,L,O,v,u,rfl,hy',X9⟩
        case measure=>simpa [fl] using hyr
   ·have HE:Hid (∀k' L' O',f8 s.data.toList k' L' O' []->k=k'/\L=L'/\O=O'):=fun k' L' O' hh=>by
     obtain ⟨h1,h2⟩:=(dd _ _ _ _).1 hh
     have:=(dH h1).1
     rw[←h2] at this
     omega
    go_upto_region 20 with fail
    have hL1:L.length<=1048576:=by have:=X.out.1;omega
    have hO1:O.length<=1048576:=by have:=X.out.1;omega
    obtain ⟨a1,c1,hv⟩:=X.out.2.2.1.2.2.1.len
    obtain ⟨a2,c2,hu,_⟩:=X.out.2.2.1.2.2.2.shape
    subst hv
    subst hu
    have HFo:Hid (Fo wr a1 L.length (FL L)/\aJ wr a2 O.length (ai O)):=⟨(X.out.2.2.1.2.2.1.fo hL1).2,(X.out.2.2.1.2.2.2.list hO1).2⟩
    clear hL1 hO1
    obtain ⟨t,HT⟩:∃t:ByteArray,Hid ((aj (FL L) L.length (ai O) O.length k->t=cZ (FL L) L.length (ai O) O.length k)/\(¬aj (FL L) L.length (ai O) O.length k->t=⟨#[]⟩)):=by
     by_cases hb:aj (FL L) L.length (ai O) O.length k
     ·exact ⟨_,fun _=>rfl,fun h=>absurd hb h⟩
     ·exact ⟨_,fun h=>absurd h hb,fun _=>rfl⟩
    have HY:Hid (t=s->s.toList.isEmpty=false->f8 s.data.toList k L O []):=fun e he=>by
     by_cases hb:aj (FL L) L.length (ai O) O.length k
     ·exact (dd s k L O).2 ⟨hb,e.symm.trans (HT.out.1 hb)⟩
     ·rw[←e,HT.out.2 hb,Lib.toList_data] at he
      simp at he
    have HN:Hid (t≠s->∀k' L' O',¬f8 s.data.toList k' L' O' []):=fun hne k' L' O' hh=>by
     obtain ⟨rfl,rfl,rfl⟩:=HE.out k' L' O' hh
     obtain ⟨h1,h2⟩:=(dd _ _ _ _).1 hh
     exact hne ((HT.out.1 h1).trans h2.symm)
    obtain ⟨m1,hm1⟩:∃m,L.length=m:=⟨_,rfl⟩
    obtain ⟨m2,hm2⟩:∃m,O.length=m:=⟨_,rfl⟩
    have X':Hid (jI s w H r k L O (Sl a1 m1 c1) (Sl a2 m2 c2) wr):=by rw[←hm1,←hm2];exact X.out
    rw[hm1,hm2] at HFo HT
    clear X hm1 hm2 HE
    by_cases hse:s.toList.isEmpty=true
    ·have FNO:Hid (∀W,Below H w W->dA w s (.returned (.tuple #[.agg cQ.toArray,.bool false])) W):=fun W hb=>⟨by rw[HH.out];exact hb,Or.inr ⟨fun k' L' O' hh=>by
      obtain ⟨h1,h2⟩:=(dd _ _ _ _).1 hh
      have h3:=(dH h1).2
      rw[←h2,←dB] at h3
      rw[Lib.toList_data,List.isEmpty_iff] at hse
      rw[hse] at h3
      simp at h3,rfl⟩⟩
     clear HY HN HT HFo
     have r0:=X'.out.2.2.1.1.1 0 _ rfl
     have r1:=X'.out.2.2.1.1.1 1 _ rfl
     have r2:=X'.out.2.2.1.1.1 2 _ rfl
     have r3:=X'.out.2.2.1.1.1 3 _ rfl
     have r4:=X'.out.2.2.1.1.1 4 _ rfl
     have r5:=X'.out.2.2.1.1.1 5 _ rfl
     have r6:=X'.out.2.2.1.1.1 6 _ rfl
     have fz:=X'.out.2.2.1.1.2.1
     have FI:Hid (dA w s (.returned (.tuple #[.agg cQ.toArray,.bool false])) ((((((((wr).setCell ⟨H,0,none⟩ (Ii Jj 0)).setCell ⟨H,1,none⟩ (Sl none 0 0)).setCell ⟨H,2,none⟩ (Sl none 0 0)).setCell ⟨H,3,none⟩ (Ii Jj 0)).setCell ⟨H,4,none⟩ (Ii Jj 0)).setCell ⟨H,5,none⟩ (Ii Jj 0)).setCell ⟨H,6,none⟩ (Ii Jj 0))):=FNO.out _ ((((((((X'.out.2.2.2).setCell (p:=⟨H,0,none⟩) (Nf _) (Ii Jj 0)).setCell (p:=⟨H,1,none⟩) (Nf _) (Sl none 0 0)).setCell (p:=⟨H,2,none⟩) (Nf _) (Sl none 0 0)).setCell (p:=⟨H,3,none⟩) (Nf _) (Ii Jj 0)).setCell (p:=⟨H,4,none⟩) (Nf _) (Ii Jj 0)).setCell (p:=⟨H,5,none⟩) (Nf _) (Ii Jj 0)).setCell (p:=⟨H,6,none⟩) (Nf _) (Ii Jj 0))
     clear FNO X'
     go_wp2
     refine bodyPost_ret (v:=.tuple #[.agg cQ.toArray,.bool false]) (by simp[results,Tryz.results16,go_sem,cQ,r0,r1,r2,r3,r4,r5,r6]) rfl ?_
     exact FI.out
    ·have hse':s.toList.isEmpty=false:=by simpa using hse
     obtain ⟨⟨s0,s1',s2',s3,s4,s5,s6⟩,sf,sz⟩:=X'.out.2.2.1.2.1
     have HY2:Hid (t=s->f8 s.data.toList k L O []):=fun e=>HY.out e hse'
     clear HY hse
     go_wp2_with fail
     refine (jx a1 a2 m1 c1 m2 c2 (FL L) (ai O) k wr HFo.out.1 HFo.out.2 t HT.out).mono ?_
     rintro e w5 ⟨rfl,B5⟩
     have X5:Hid (jI s w H r k L O (Sl a1 m1 c1) (Sl a2 m2 c2) w5):=⟨X'.out.1,X'.out.2.1,X'.out.2.2.1.below B5,X'.out.2.2.2.trans (B5.mono (by have:=X'.out.2.2.1.2.1.2.2;omega))⟩
     clear X' B5 HT HFo s0 s1' s2' s3 s4 s5 s6 sf sz
     by_cases hts:t=s
     ·have HR:Hid (f8 s.data.toList k L O []):=HY2.out hts
      clear HY2 HN
      subst hts
      obtain ⟨⟨s0,s1',s2',s3,s4,s5,s6⟩,sf,sz⟩:=X5.out.2.2.1.2.1
      have r0:=X5.out.2.2.1.1.1 0 _ rfl
      have r1:=X5.out.2.2.1.1.1 1 _ rfl
      have r2:=X5.out.2.2.1.1.1 2 _ rfl
      have r3:=X5.out.2.2.1.1.1 3 _ rfl
      have r4:=X5.out.2.2.1.1.1 4 _ rfl
      have r5:=X5.out.2.2.1.1.1 5 _ rfl
      have r6:=X5.out.2.2.1.1.1 6 _ rfl
      have fz:=X5.out.2.2.1.1.2.1
      have nh:¬H=H+1:=by omega
      have FI:Hid (dA w t (.returned (.tuple #[.agg (mX k (Sl a1 m1 c1) (Sl a2 m2 c2)).toArray,.bool true])) ((((((((w5).setCell ⟨H,0,none⟩ (Ii Jj k.day)).setCell ⟨H,1,none⟩ (Sl a1 m1 c1)).setCell ⟨H,2,none⟩ (Sl a2 m2 c2)).setCell ⟨H,3,none⟩ (Ii Jj k.inn)).setCell ⟨H,4,none⟩ (Ii Jj k.out)).setCell ⟨H,5,none⟩ (Ii Jj k.posted)).setCell ⟨H,6,none⟩ (Ii Jj k.missed))):=⟨by rw[HH.out];exact (((((((X5.out.2.2.2).setCell (p:=⟨H,0,none⟩) (Nf _) (Ii Jj k.day)).setCell (p:=⟨H,1,none⟩) (Nf _) (Sl a1 m1 c1)).setCell (p:=⟨H,2,none⟩) (Nf _) (Sl a2 m2 c2)).setCell (p:=⟨H,3,none⟩) (Nf _) (Ii Jj k.inn)).setCell (p:=⟨H,4,none⟩) (Nf _) (Ii Jj k.out)).setCell (p:=⟨H,5,none⟩) (Nf _) (Ii Jj k.posted)).setCell (p:=⟨H,6,none⟩) (Nf _) (Ii Jj k.missed),Or.inl ⟨k,L,O,_,_,HR.out,rfl,AL.mono ((((((((X5.out.2.2.1.2.2.1).put (q:=H) (by omega) 0 (Ii Jj k.day)).put (q:=H) (by omega) 1 (Sl a1 m1 c1)).put (q:=H) (by omega) 2 (Sl a2 m2 c2)).put (q:=H) (by omega) 3 (Ii Jj k.inn)).put (q:=H) (by omega) 4 (Ii Jj k.out)).put (q:=H) (by omega) 5 (Ii Jj k.posted)).put (q:=H) (by omega) 6 (Ii Jj k.missed)) (by rw[HH.out];omega),ag.mono ((((((((X5.out.2.2.1.2.2.2).put (q:=H) (by omega) 0 (Ii Jj k.day)).put (q:=H) (by omega) 1 (Sl a1 m1 c1)).put (q:=H) (by omega) 2 (Sl a2 m2 c2)).put (q:=H) (by omega) 3 (Ii Jj k.inn)).put (q:=H) (by omega) 4 (Ii Jj k.out)).put (q:=H) (by omega) 5 (Ii Jj k.posted)).put (q:=H) (by omega) 6 (Ii Jj k.missed)) (by rw[HH.out];omega)⟩⟩
      clear X5 HR
      have hq:(t.toList == t.toList)=true:=by simp
      go_wp2
      refine bodyPost_ret (v:=.tuple #[.agg (mX k (Sl a1 m1 c1) (Sl a2 m2 c2)).toArray,.bool true]) (by simp[results,Tryz.results16,go_sem,mX,r0,r1,r2,r3,r4,r5,r6]) rfl ?_
      exact FI.out
     ·have FNO:Hid (∀W,Below H w W->dA w s (.returned (.tuple #[.agg cQ.toArray,.bool false])) W):=fun W hb=>⟨by rw[HH.out];exact hb,Or.inr ⟨HN.out hts,rfl⟩⟩
      have hq:(t.toList == s.toList)=false:=by
       rw[beq_eq_false_iff_ne]
       intro e
       exact hts (ca (by rw[Lib.toList_data,Lib.toList_data] at e;exact e))
      clear HY2 HN hts
      have r0:=X5.out.2.2.1.1.1 0 _ rfl
      have r1:=X5.out.2.2.1.1.1 1 _ rfl
      have r2:=X5.out.2.2.1.1.1 2 _ rfl
      have r3:=X5.out.2.2.1.1.1 3 _ rfl
      have r4:=X5.out.2.2.1.1.1 4 _ rfl
      have r5:=X5.out.2.2.1.1.1 5 _ rfl
      have r6:=X5.out.2.2.1.1.1 6 _ rfl
      have fz:=X5.out.2.2.1.1.2.1
      have FI:Hid (dA w s (.returned (.tuple #[.agg cQ.toArray,.bool false])) ((((((((w5).setCell ⟨H,0,none⟩ (Ii Jj 0)).setCell ⟨H,1,none⟩ (Sl none 0 0)).setCell ⟨H,2,none⟩ (Sl none 0 0)).setCell ⟨H,3,none⟩ (Ii Jj 0)).setCell ⟨H,4,none⟩ (Ii Jj 0)).setCell ⟨H,5,none⟩ (Ii Jj 0)).setCell ⟨H,6,none⟩ (Ii Jj 0))):=FNO.out _ ((((((((X5.out.2.2.2).setCell (p:=⟨H,0,none⟩) (Nf _) (Ii Jj 0)).setCell (p:=⟨H,1,none⟩) (Nf _) (Sl none 0 0)).setCell (p:=⟨H,2,none⟩) (Nf _) (Sl none 0 0)).setCell (p:=⟨H,3,none⟩) (Nf _) (Ii Jj 0)).setCell (p:=⟨H,4,none⟩) (Nf _) (Ii Jj 0)).setCell (p:=⟨H,5,none⟩) (Nf _) (Ii Jj 0)).setCell (p:=⟨H,6,none⟩) (Nf _) (Ii Jj 0))
      clear FNO X5
      go_wp2
      refine bodyPost_ret (v:=.tuple #[.agg cQ.toArray,.bool false]) (by simp[results,Tryz.results16,go_sem,cQ,r0,r1,r2,r3,r4,r5,r6]) rfl ?_
      exact FI.out
end Go.Proofs.YtjhgchlfpolkcaaGreatDoor
