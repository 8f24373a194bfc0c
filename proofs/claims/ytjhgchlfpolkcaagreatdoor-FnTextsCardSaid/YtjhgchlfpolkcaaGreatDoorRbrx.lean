/- ReadBank of the program. -/
import Derived.Test.YtjhgchlfpolkcaaGreatDoorRbnx
import Derived.Deep.RegionHeld3
import Derived.Defers
import Derived.Recover
namespace Go.Proofs.YtjhgchlfpolkcaaGreatDoor
section
open Value renaming int → Ii,slice → Sl
open IntKind renaming i64 → Jj
open Nat renaming le_refl → Nf
open Go.RowKit.Below renaming refl → Bf
open List renaming setIfInBounds_toArray → La,set_cons_zero → Lz,set_cons_succ → Lc
set_option linter.unusedSimpArgs false
open Go.RowKit Go.Shelf
set_option maxRecDepth 8000
theorem uu {s s1 t:List UInt8} {k:Bk} {L:List al} (h1:aD cD.data.toList 5 s=some (ex k,s1)) (hl:kK bH.data.toList 8 1048577 s1 (L.map dn) t) (hp:Lib.hasPrefix t bH.data.toList=true) (hx:∀a u,aD bH.data.toList 8 t≠some (dn a,u)):∀k' L' O' t',¬f8 s k' L' O' t':=by
 rintro k' L' O' t' ⟨q1,q2,e1,e2,_⟩
 rw[h1] at e1
 have e3:s1=q1:=congrArg Prod.snd (Option.some.inj e1)
 rw[←e3] at e2
 exact hl.bad hp hx L' q2 e2
theorem uv {s s1 s2 t:List UInt8} {k:Bk} {L:List al} {O:List am} (h1:aD cD.data.toList 5 s=some (ex k,s1)) (h2:aP bH.data.toList 8 1048577 s1=some (L.map dn,s2)) (hl:kK bK.data.toList 7 1048577 s2 (O.map dz) t) (hp:Lib.hasPrefix t bK.data.toList=true) (hx:aD bK.data.toList 7 t=none):∀k' L' O' t',¬f8 s k' L' O' t':=by
 rintro k' L' O' t' ⟨q1,q2,e1,e2,e3,_⟩
 rw[h1] at e1
 have e4:s1=q1:=congrArg Prod.snd (Option.some.inj e1)
 rw[←e4,h2] at e2
 have e5:s2=q2:=congrArg Prod.snd (Option.some.inj e2)
 rw[←e5] at e3
 exact hl.bad hp (fun a u e=>by rw[hx] at e;cases e) O' t' e3
theorem oc {a b:Bk} (h:ex a=ex b):a=b:=by
 obtain ⟨a1,a2,a3,a4,a5⟩:=a
 obtain ⟨b1,b2,b3,b4,b5⟩:=b
 simp[ex] at h
 simp[h]
theorem o8 {a b:al} (h:dn a=dn b):a=b:=by
 obtain ⟨a1,a2,a3,a4,a5,a6,a7,a8⟩:=a
 obtain ⟨b1,b2,b3,b4,b5,b6,b7,b8⟩:=b
 simp[dn] at h
 have e:a6=b6:=by
  have:=h.2.2.2.2.2.1
  cases a6 <;>cases b6 <;>simp[ci] at this <;>rfl
 simp[h,e]
theorem oC {a b:am} (h:dz a=dz b):a=b:=by
 obtain ⟨a1,a2,a3,a4,a5,a6,a7⟩:=a
 obtain ⟨b1,b2,b3,b4,b5,b6,b7⟩:=b
 simp[dz] at h
 simp[h]
theorem gH {α β :Type} {N: α -> β} (hN:∀{a b: α},N a=N b->a=b):∀{l m:List α},l.map N=m.map N->l=m
 | [],[],_=>rfl
 | [],_::_,h=>by simp at h
 | _::_,[],h=>by simp at h
 | a::l,b::m,h=>by
  simp only[List.map_cons,List.cons.injEq] at h
  rw[hN h.1,gH hN h.2]
def TB (R:Nat) (i:Nat):Nat×Nat:=([(R,0),(R,3),(R,4),(R,5),(R,6)]:List (Nat×Nat)).getD i (0,0)
theorem og {i:Nat} (h:i<5):i=0\/i=1\/i=2\/i=3\/i=4:=by omega
theorem kN (R i:Nat) (hi:i<5):(TB R i).1=R/\(TB R i).2≠1/\(TB R i).2≠2:=by
 rcases og hi with rfl|rfl|rfl|rfl|rfl <;>simp[TB]
theorem tg (R:Nat):∀i j,i<5->j<5->TB R i=TB R j->i=j:=by
 intro i j hi hj e
 rcases og hi with rfl|rfl|rfl|rfl|rfl <;>rcases og hj with rfl|rfl|rfl|rfl|rfl <;>first|rfl|(exfalso;simp[TB] at e)
def XB (H:Nat) (w:World):Prop:=ah w H cQ/\w.cell? ⟨H+1,1,none⟩=some (Sl none 0 0)/\w.cell? ⟨H+1,2,none⟩=some (Sl none 0 0)/\(∀o,w.frozen? ⟨H+1,o,none⟩=false)/\H+1<w.heap.size
theorem pW {ns:List Int} (h:ns.length=5):∃k:Bk,ns=ex k:=by
 match ns,h with
 | [a,b,c,d,e],_=>exact ⟨⟨a,b,c,d,e⟩,rfl⟩
set_option maxHeartbeats 8000000 in
theorem tS (p:Nat) (s:ByteArray) (w:World) (h:bp w p s) (g:ba w):Calls Tryz.prog 27 #[.pointer (some ⟨p,0,none⟩)] w fun e w'=>ur w p s e w':=by
 obtain ⟨iA,hA,zA0,zA1,zA2⟩:=info_parts sU
 obtain ⟨iB,hB,zB0,zB1,zB2⟩:=info_parts sV
 obtain ⟨H,hh⟩:∃H,w.heap.size=H:=⟨_,rfl⟩
 have HH:Hid (w.heap.size=H):=hh
 have hpH:p<H:=by rw[←hh];exact h.2.2.2.1
 have h7:7<=p:=h.2.2.1
 have G0:Hid (ba w):=g
 have HS0:Hid (s.size<=1048576):=h.2.2.2.2
 obtain ⟨W0,hW0,X0⟩:∃W0,W0=(w.alloc (.cells cQ.toArray 27)).alloc (.cells cQ.toArray 27)/\Hid (ah W0 H cQ/\ah W0 (H+1) cQ/\an p w W0/\bp W0 p s/\ba W0):=by
  have b1:∀(V:World) (o:Obj),Below V.heap.size V (V.alloc o):=fun V o=>(Bf _ _).alloc (Nf _) _
  have v0:=(ah.new w cQ 27).kept (b1 _ (.cells cQ.toArray 27)) (by simp)
  have v1:=ah.new (w.alloc (.cells cQ.toArray 27)) cQ 27
  simp only[World.size_alloc] at v1
  rw[hh] at v0 v1
  have bb:Below w.heap.size w ((w.alloc (.cells cQ.toArray 27)).alloc (.cells cQ.toArray 27)):=((Bf _ _).alloc (Nf _) _).alloc (by simp) _
  exact ⟨_,rfl,v0,v1,an.ofBelow bb,h.below bb,g.below bb⟩
 have HW0:Hid (W0=(w.alloc (.cells #[Ii Jj 0,Sl none 0 0,Sl none 0 0,Ii Jj 0,Ii Jj 0,Ii Jj 0,Ii Jj 0] 27)).alloc (.cells #[Ii Jj 0,Sl none 0 0,Sl none 0 0,Ii Jj 0,Ii Jj 0,Ii Jj 0,Ii Jj 0] 27)):=hW0
 clear hW0 h g
 go_enter Tryz.func27,Tryz.ntmps27
 go_wp2_with fail
 rw[←HW0.out]
 clear HW0 hh
 refine (rQ (H+1) W0).mono ?_
 rintro e w1 ⟨b,c,rfl,hb1,hb2,hbc,B1⟩
 have hHW:H+1<W0.heap.size:=X0.out.2.1.2.2
 have X1:Hid (ah w1 H cQ/\ah w1 (H+1) cQ/\an p w w1/\bp w1 p s/\ba w1):=⟨X0.out.1.kept B1 X0.out.1.2.2,X0.out.2.1.kept B1 hHW,X0.out.2.2.1.trans (an.ofBelow B1),X0.out.2.2.2.1.below B1,X0.out.2.2.2.2.below B1⟩
 have PL:Hid (sR p H (some ⟨b,0,none⟩) 5 (TB (H+1)) (QT (TB (H+1)) 5 b (XB H))):=qX (tg (H+1)) (fun i hi=>by rw[(kN (H+1) i hi).1];omega) hpH (by omega)
  (fun w w' hx hs=>⟨hx.1.stp hs (by omega),(hs.cell (p:=⟨H+1,1,none⟩) hx.2.2.2.2 (by show H+1≠p;omega)).trans hx.2.1,(hs.cell (p:=⟨H+1,2,none⟩) hx.2.2.2.2 (by show H+1≠p;omega)).trans hx.2.2.1,fun o=>(hs.frozen (p:=⟨H+1,o,none⟩) hx.2.2.2.2 (by show H+1≠p;omega)).trans (hx.2.2.2.1 o),Nat.lt_of_lt_of_le hx.2.2.2.2 hs.size⟩)
  (fun w i m hi hx=>⟨hx.1.far (by rw[(kN (H+1) i hi).1];omega) _ _,(World.cell?_setCell_other _ _ _ _ (by intro e;exact (kN (H+1) i hi).2.1 (congrArg Addr.off e))).trans hx.2.1,(World.cell?_setCell_other _ _ _ _ (by intro e;exact (kN (H+1) i hi).2.2 (congrArg Addr.off e))).trans hx.2.2.1,fun o=>by rw[World.frozen?_setCell];exact hx.2.2.2.1 o,by simpa [World.setCell] using hx.2.2.2.2⟩)
 have Q1:Hid (QT (TB (H+1)) 5 b (XB H) [] w1):=by
  refine ⟨hb2,fun i hi=>hbc i hi,fun i hi=>?_,X1.out.1,X1.out.2.1.1 1 _ rfl,X1.out.2.1.1 2 _ rfl,X1.out.2.1.2.1,X1.out.2.1.2.2⟩
  rcases og hi with rfl|rfl|rfl|rfl|rfl
  ·exact ⟨X1.out.2.1.1 0 _ rfl,X1.out.2.1.2.1 0,X1.out.2.1.2.2⟩
  ·exact ⟨X1.out.2.1.1 3 _ rfl,X1.out.2.1.2.1 3,X1.out.2.1.2.2⟩
  ·exact ⟨X1.out.2.1.1 4 _ rfl,X1.out.2.1.2.1 4,X1.out.2.1.2.2⟩
  ·exact ⟨X1.out.2.1.1 5 _ rfl,X1.out.2.1.2.1 5,X1.out.2.1.2.2⟩
  ·exact ⟨X1.out.2.1.1 6 _ rfl,X1.out.2.1.2.1 6,X1.out.2.1.2.2⟩
 clear hbc B1 X0 hb1 hb2
 go_wp2_with fail
 refine (qE p H (some ⟨b,0,none⟩) 5 c s ⟨#[98,97,110,107]⟩ _ _ w1 X1.out.2.2.2.1 X1.out.2.2.2.2 PL.out Q1.out hpH (by omega)).mono ?_
 rintro e w2 ⟨S2,hor⟩
 rcases hor with ⟨ns,s1,hns,rfl,R2,G2,Q2⟩|⟨hns,t9,p9,rfl⟩
 rotate_left
 ·exact ⟨rfl,ft.stp X1.out.2.2.1 S2 (by rw[HH.out];exact Nf _),Or.inr ⟨fun k L O t hh=>(by
   obtain ⟨q1,q2,e1,_⟩:=hh
   have e':aD (⟨#[98,97,110,107]⟩:ByteArray).data.toList 5 s.data.toList=some (ex k,q1):=e1
   rw[hns] at e'
   cases e'),t9,p9,rfl⟩⟩
 obtain ⟨k,rfl⟩:=pW (bM hns).2.1
 have HB1:Hid (aD cD.data.toList 5 s.data.toList=some (ex k,s1.data.toList)):=hns
 have HS1:Hid (s1.size<=1048576):=R2.2.2.2.2
 have X2:Hid (di H (Sl none 0 0) (Sl none 0 0) k [] [] w2/\bp w2 p s1/\ba w2/\an p w w2):=⟨⟨Q2.2.2.2.1,⟨⟨(Q2.2.2.1 0 (by omega)).1,Q2.2.2.2.2.1,Q2.2.2.2.2.2.1,(Q2.2.2.1 1 (by omega)).1,(Q2.2.2.1 2 (by omega)).1,(Q2.2.2.1 3 (by omega)).1,(Q2.2.2.1 4 (by omega)).1⟩,Q2.2.2.2.2.2.2.1,Q2.2.2.2.2.2.2.2⟩,AL.nil' _ _,ag.nil _ _⟩,R2,G2,ft.stp X1.out.2.2.1 S2 (by rw[HH.out];exact Nf _)⟩
 clear S2 R2 G2 Q2 hns PL Q1 X1
 go_wp2
 go_loopg [8] s1.size (fun g _ wx=>∃(t:ByteArray) (L:List al) (v:Value),t.size=g/\Hid (kK bH.data.toList 8 1048577 s1.data.toList (L.map dn) t.data.toList)/\Hid (di H v (Sl none 0 0) k L [] wx/\bp wx p t/\ba wx/\an p w wx))
 case atStart=>exact ⟨s1,[],Sl none 0 0,rfl,kK.start _ _ _ _ (by omega),X2⟩
 case round=>
  clear X2
  obtain ⟨t,L,v,hg,HL,X3⟩:=hrel
  have A:=nc p t ⟨#[97,99,99,111,117,110,116]⟩ wr X3.out.2.1
  obtain ⟨bo,hbo⟩:∃bo,Lib.hasPrefix t.data.toList bH.data.toList=bo:=⟨_,rfl⟩
  have HBO:Hid (Lib.hasPrefix t.data.toList bH.data.toList=bo):=hbo
  have A':Calls Tryz.prog 60 #[.pointer (some ⟨p,0,none⟩),.string ⟨#[97,99,99,111,117,110,116]⟩] wr fun e w'=>e=.returned (.bool bo)/\w'=wr:=by rw[←hbo];exact A
  clear A hbo
  cases bo with
  | true=>
   obtain ⟨aa,cc,hv⟩:∃aa cc,v=Sl aa L.length cc:=X3.out.1.2.2.1.len
   subst hv
   have hll:L.length<=1048576:=by have h1:=HL.out.2.1;have h2:=HS1.out;rw[dB,dB] at h1;simp only[List.length_map] at h1;omega
   have SS:wr.drew.cell? ⟨H+1,1,none⟩=some (Sl aa L.length cc):=X3.out.1.2.1.1.2.1
   have XD:Hid (di H (Sl aa L.length cc) (Sl none 0 0) k L [] wr.drew/\bp wr.drew p t/\ba wr.drew/\an p w wr.drew):=⟨X3.out.1.stp (p:=p) (an.drewd (an.refl _ _)) hpH,X3.out.2.1,ba.drewd X3.out.2.2.1,an.drewd X3.out.2.2.2⟩
   clear X3
   go_wp2_with (go_at_call 60;refine A'.mono ?_;rintro e w9 ⟨rfl,hw9⟩;subst w9)
   clear A'
   refine wp_region_held_drew (S:=fun _=>True) (by kernel_rfl) trivial (fun hHeld=>?_)
   refine wpAnyH_take (i:=0) (v:=?_) rfl (by kernel_rfl) (by kernel_rfl) (by kernel_rfl) (fun _ _ _ h=>h) (Or.inl ⟨by rfl,?_⟩) trivial ?_
   rotate_left
   ·intro wq hSw
    go_simp
    all_goals (with_reducible rfl)
   (try simp only[Act.put,La,Lz,Lc])
   refine wpAnyH_take (i:=2) (v:=?_) rfl (by kernel_rfl) (by kernel_rfl) (by kernel_rfl) (fun _ _ _ h=>h) (Or.inl ⟨by rfl,?_⟩) trivial ?_
   rotate_left
   ·intro wq hSw
    go_simp
    all_goals (with_reducible rfl)
   (try simp only[Act.put,La,Lz,Lc])
   refine wpAnyH_ready (rs:=[1,3]) (by kernel_rfl) (by simp) ?_
   refine AllReadyH.cons rfl (fun K hK=>?_) ?_
   ·skip
    go_simp
    refine hK.out _ _ trivial (fun hHeld=>?_)
    clear hK
    (try simp only[Act.put,La,Lz,Lc])
    refine wpAnyH_ready (rs:=[3]) (by kernel_rfl) (by simp) ?_
    refine AllReadyH.cons rfl (fun K hK=>?_) AllReadyH.nil
    go_simp
    refine (lJ p t _ XD.out.2.1 XD.out.2.2.1).mono ?_
    rintro e w4 ⟨S4,hor⟩
    rcases hor with ⟨x,t',hx,rfl,R4,G4⟩|⟨hx,t9,p9,rfl⟩
    rotate_left
    ·exact ⟨rfl,XD.out.2.2.2.trans S4,Or.inr ⟨uu HB1.out HL.out HBO.out hx,t9,p9,rfl⟩⟩
    have X4:Hid (di H (Sl aa L.length cc) (Sl none 0 0) k L [] w4/\bp w4 p t'/\ba w4/\an p w w4):=⟨XD.out.1.stp S4 hpH,R4,G4,XD.out.2.2.2.trans S4⟩
    have HL2:Hid (kK bH.data.toList 8 1048577 s1.data.toList ((L++[x]).map dn) t'.data.toList/\t'.size<t.size):=by
     have h1:=HL.out.step (by have:=HS1.out;rw[dB];omega) HBO.out hx
     refine ⟨by simpa using h1,?_⟩
     have h3:=congrArg List.length (bM hx).1
     rw[dB] at h3
     simp[cy] at h3
     omega
    clear S4 R4 G4 hx
    have SS4:w4.cell? ⟨H+1,1,none⟩=some (Sl aa L.length cc):=X4.out.1.2.1.1.2.1
    refine hK.out _ _ trivial (fun hHeld=>?_)
    clear hK SS
    (try simp only[Act.put,La,Lz,Lc])
    simp only[ab]
    refine wpAnyH_ready (rs:=[4]) (by kernel_rfl) (by simp) ?_
    refine AllReadyH.cons rfl (fun K hK=>?_) AllReadyH.nil
    go_simp
    obtain ⟨V5,hV5,X5⟩:∃V,V=w4.alloc (.cells (ab x).toArray 53)/\Hid (di H (Sl aa L.length cc) (Sl none 0 0) k L [] V/\bp V p t'/\ba V/\an p w V/\ah V w4.heap.size (ab x)/\H+1+1<=V.heap.size):=by
     have hb:Below w4.heap.size w4 (w4.alloc (.cells (ab x).toArray 53)):=(Bf _ _).alloc (Nf _) _
     exact ⟨_,rfl,X4.out.1.alloc _,X4.out.2.1.below hb,X4.out.2.2.1.below hb,X4.out.2.2.2.trans (an.ofBelow hb),ah.new _ _ _,by have:=X4.out.1.2.1.2.2;simp;omega⟩
    have SS5:V5.cell? ⟨H+1,1,none⟩=some (Sl aa L.length cc):=X5.out.1.2.1.1.2.1
    have HV5:Hid (V5=w4.alloc (.cells #[Ii Jj x.id,Ii Jj x.up,Ii Jj x.limit,Ii Jj x.rate,Ii Jj x.target,.bool x.frozen,Ii Jj x.balance,Ii Jj x.carry] 53)):=hV5
    clear hV5 SS4
    refine hK.out _ _ trivial (fun hHeld=>?_)
    rw[←HV5.out]
    clear hK
    obtain ⟨r5,hr5⟩:∃r,w4.heap.size=r:=⟨_,rfl⟩
    try rw[hr5]
    rw[hr5] at X5
    clear X4 HV5 hr5
    have hbv:Hid (∀q,(Value.slice aa L.length cc).ownBlock=some q->H+1+1<=q):=fun q hq=>(X5.out.1.blk.1 q hq).1
    have NW:Hid (∀j y,(ab x)[j]? =some y->V5.cell? ((⟨r5,0,none⟩:Addr).add j)=some y):=fun j y hj=>by
     have e:(⟨r5,0,none⟩:Addr).add j=⟨r5,j,none⟩:=by cases j <;>simp[Addr.add]
     rw[e]
     exact X5.out.2.2.2.2.1.1 j y hj
    have ONE:Hid (∀y ∈ ab x,y.oneCell'=true):=fun y hy=>by
     simp only[ab,List.mem_cons,List.not_mem_nil,or_false] at hy
     rcases hy with e|e|e|e|e|e|e|e <;>subst e <;>rfl
    (try simp only[Act.put,La,Lz,Lc])
    refine wpAnyH_ready (rs:=[5]) (by kernel_rfl) (by simp) ?_
    refine AllReadyH.cons rfl (fun K hK=>?_) AllReadyH.nil
    refine az _ (by rfl) _ _ 24 (by rfl) (H+1+1) 53 iA _ 8 64 Tryz.underlying24 hA zA0 zA1 zA2 rfl (by decide) _ _ _ (by rfl) X5.out.1.2.2.1 ⟨r5,0,none⟩ 1 1 (ab x) (by rfl) rfl NW.out ONE.out (by unfold maxLen;omega) (by omega) X5.out.2.2.2.2.2 ?_
    intro v6 w6 hown hgrow
    have X6:Hid (di H v6 (Sl none 0 0) k (L++[x]) [] (w6.setCell ⟨H+1,1,none⟩ v6)):=X5.out.1.addA hown hgrow
    have S6:Hid (an p w w6/\bp w6 p t'/\ba w6):=by
     have hh:w.heap.size<=H+1+1:=by rw[HH.out];omega
     have hbk:∀q,q<V5.heap.size->q<H+1+1->w6.heap[q]? =V5.heap[q]? :=fun q hq hq2=>hgrow.block q hq (fun e=>by have:=hbv.out q e.symm;omega)
     have s1:an p w w6:=⟨hgrow.os.trans X5.out.2.2.2.1.os,hgrow.tape.trans X5.out.2.2.2.1.tape,hgrow.output.trans X5.out.2.2.2.1.output,Nat.le_trans X5.out.2.2.2.1.size hgrow.size,fun q hq hqp=>(hbk q (Nat.lt_of_lt_of_le hq X5.out.2.2.2.1.size) (by omega)).trans (X5.out.2.2.2.1.block q hq hqp)⟩
     have ep:=hbk p (by have:=X5.out.2.1.2.2.2.1;omega) (by omega)
     exact ⟨s1,⟨(World.cell?_of_block (w:=V5) ep).trans X5.out.2.1.1,(World.frozen?_of_block (w:=V5) ep).trans X5.out.2.1.2.1,h7,Nat.lt_of_lt_of_le X5.out.2.1.2.2.2.1 hgrow.size,X5.out.2.1.2.2.2.2⟩,G0.out.stp s1 h7⟩
    have hz6:w6.cell? ⟨H+1,1,none⟩=some (Sl aa L.length cc):=(World.cell?_of_block (w:=V5) (hgrow.block (H+1) X5.out.1.2.1.2.2 (fun e=>by have:=hbv.out _ e.symm;omega))).trans SS5
    have hf6:w6.frozen? ⟨H+1,1,none⟩=false:=(World.frozen?_of_block (w:=V5) (hgrow.block (H+1) X5.out.1.2.1.2.2 (fun e=>by have:=hbv.out _ e.symm;omega))).trans (X5.out.1.2.1.2.1 1)
    clear hown hgrow
    refine hK.out _ _ trivial (fun hHeld=>?_)
    clear hK X5 SS5 hbv NW ONE
    (try simp only[Act.put,La,Lz,Lc])
    refine wpAnyH_take (i:=6) (v:=?_) rfl (by kernel_rfl) (by kernel_rfl) (by kernel_rfl) (fun _ _ _ h=>h) (Or.inl ⟨by rfl,?_⟩) trivial ?_
    rotate_left
    ·intro wq hSw
     go_simp
     all_goals (with_reducible rfl)
    (try simp only[Act.put,La,Lz,Lc])
    refine wpAnyH_ready (rs:=[7]) (by kernel_rfl) (by simp) ?_
    refine AllReadyH.cons rfl (fun K hK=>?_) AllReadyH.nil
    obtain ⟨a6,c6,hv6⟩:∃a6 c6,v6=Sl a6 (L++[x]).length c6:=X6.out.2.2.1.len
    subst hv6
    obtain ⟨m6,hm6⟩:∃m,(L++[x]).length=m:=⟨_,rfl⟩
    rw[hm6] at X6
    simp only[hm6]
    clear hm6
    go_simp
    refine hK.out _ _ trivial (fun hHeld=>?_)
    clear hK
    (try simp only[Act.put,La,Lz,Lc])
    refine wpAnyH_done (by kernel_rfl) ?_ _
    have X7:Hid (di H (Sl a6 m6 c6) (Sl none 0 0) k (L++[x]) [] (w6.setCell ⟨H+1,1,none⟩ (Sl a6 m6 c6))/\bp (w6.setCell ⟨H+1,1,none⟩ (Sl a6 m6 c6)) p t'/\ba (w6.setCell ⟨H+1,1,none⟩ (Sl a6 m6 c6))/\an p w (w6.setCell ⟨H+1,1,none⟩ (Sl a6 m6 c6))):=⟨X6.out,S6.out.2.1.far (by omega) _ _,S6.out.2.2.far (by omega) _ _,S6.out.1.setNew (p:=⟨H+1,1,none⟩) (by show w.heap.size<=H+1;rw[HH.out];omega) _⟩
    clear X6 S6 hz6 hf6
    go_wp2
    go_roundg t'.size
    case measure=>have:=HL2.out.2;omega
    case rel=>exact ⟨t',L++[x],_,rfl,HL2.out.1,X7⟩
   refine AllReadyH.cons rfl (fun K hK=>?_) AllReadyH.nil
   go_simp
   refine (lJ p t _ XD.out.2.1 XD.out.2.2.1).mono ?_
   rintro e w4 ⟨S4,hor⟩
   rcases hor with ⟨x,t',hx,rfl,R4,G4⟩|⟨hx,t9,p9,rfl⟩
   rotate_left
   ·exact ⟨rfl,XD.out.2.2.2.trans S4,Or.inr ⟨uu HB1.out HL.out HBO.out hx,t9,p9,rfl⟩⟩
   have X4:Hid (di H (Sl aa L.length cc) (Sl none 0 0) k L [] w4/\bp w4 p t'/\ba w4/\an p w w4):=⟨XD.out.1.stp S4 hpH,R4,G4,XD.out.2.2.2.trans S4⟩
   have HL2:Hid (kK bH.data.toList 8 1048577 s1.data.toList ((L++[x]).map dn) t'.data.toList/\t'.size<t.size):=by
    have h1:=HL.out.step (by have:=HS1.out;rw[dB];omega) HBO.out hx
    refine ⟨by simpa using h1,?_⟩
    have h3:=congrArg List.length (bM hx).1
    rw[dB] at h3
    simp[cy] at h3
    omega
   clear S4 R4 G4 hx
   have SS4:w4.cell? ⟨H+1,1,none⟩=some (Sl aa L.length cc):=X4.out.1.2.1.1.2.1
   refine hK.out _ _ trivial (fun hHeld=>?_)
   clear hK SS
   (try simp only[Act.put,La,Lz,Lc])
   simp only[ab]
   refine wpAnyH_ready (rs:=[1,4]) (by kernel_rfl) (by simp) ?_
   refine AllReadyH.cons rfl (fun K hK=>?_) ?_
   ·skip
    go_simp
    refine hK.out _ _ trivial (fun hHeld=>?_)
    clear hK
    (try simp only[Act.put,La,Lz,Lc])
    refine wpAnyH_ready (rs:=[4]) (by kernel_rfl) (by simp) ?_
    refine AllReadyH.cons rfl (fun K hK=>?_) AllReadyH.nil
    go_simp
    obtain ⟨V5,hV5,X5⟩:∃V,V=w4.alloc (.cells (ab x).toArray 53)/\Hid (di H (Sl aa L.length cc) (Sl none 0 0) k L [] V/\bp V p t'/\ba V/\an p w V/\ah V w4.heap.size (ab x)/\H+1+1<=V.heap.size):=by
     have hb:Below w4.heap.size w4 (w4.alloc (.cells (ab x).toArray 53)):=(Bf _ _).alloc (Nf _) _
     exact ⟨_,rfl,X4.out.1.alloc _,X4.out.2.1.below hb,X4.out.2.2.1.below hb,X4.out.2.2.2.trans (an.ofBelow hb),ah.new _ _ _,by have:=X4.out.1.2.1.2.2;simp;omega⟩
    have SS5:V5.cell? ⟨H+1,1,none⟩=some (Sl aa L.length cc):=X5.out.1.2.1.1.2.1
    have HV5:Hid (V5=w4.alloc (.cells #[Ii Jj x.id,Ii Jj x.up,Ii Jj x.limit,Ii Jj x.rate,Ii Jj x.target,.bool x.frozen,Ii Jj x.balance,Ii Jj x.carry] 53)):=hV5
    clear hV5 SS4
    refine hK.out _ _ trivial (fun hHeld=>?_)
    rw[←HV5.out]
    clear hK
    obtain ⟨r5,hr5⟩:∃r,w4.heap.size=r:=⟨_,rfl⟩
    try rw[hr5]
    rw[hr5] at X5
    clear X4 HV5 hr5
    have hbv:Hid (∀q,(Value.slice aa L.length cc).ownBlock=some q->H+1+1<=q):=fun q hq=>(X5.out.1.blk.1 q hq).1
    have NW:Hid (∀j y,(ab x)[j]? =some y->V5.cell? ((⟨r5,0,none⟩:Addr).add j)=some y):=fun j y hj=>by
     have e:(⟨r5,0,none⟩:Addr).add j=⟨r5,j,none⟩:=by cases j <;>simp[Addr.add]
     rw[e]
     exact X5.out.2.2.2.2.1.1 j y hj
    have ONE:Hid (∀y ∈ ab x,y.oneCell'=true):=fun y hy=>by
     simp only[ab,List.mem_cons,List.not_mem_nil,or_false] at hy
     rcases hy with e|e|e|e|e|e|e|e <;>subst e <;>rfl
    (try simp only[Act.put,La,Lz,Lc])
    refine wpAnyH_ready (rs:=[5]) (by kernel_rfl) (by simp) ?_
    refine AllReadyH.cons rfl (fun K hK=>?_) AllReadyH.nil
    refine az _ (by rfl) _ _ 24 (by rfl) (H+1+1) 53 iA _ 8 64 Tryz.underlying24 hA zA0 zA1 zA2 rfl (by decide) _ _ _ (by rfl) X5.out.1.2.2.1 ⟨r5,0,none⟩ 1 1 (ab x) (by rfl) rfl NW.out ONE.out (by unfold maxLen;omega) (by omega) X5.out.2.2.2.2.2 ?_
    intro v6 w6 hown hgrow
    have X6:Hid (di H v6 (Sl none 0 0) k (L++[x]) [] (w6.setCell ⟨H+1,1,none⟩ v6)):=X5.out.1.addA hown hgrow
    have S6:Hid (an p w w6/\bp w6 p t'/\ba w6):=by
     have hh:w.heap.size<=H+1+1:=by rw[HH.out];omega
     have hbk:∀q,q<V5.heap.size->q<H+1+1->w6.heap[q]? =V5.heap[q]? :=fun q hq hq2=>hgrow.block q hq (fun e=>by have:=hbv.out q e.symm;omega)
     have s1:an p w w6:=⟨hgrow.os.trans X5.out.2.2.2.1.os,hgrow.tape.trans X5.out.2.2.2.1.tape,hgrow.output.trans X5.out.2.2.2.1.output,Nat.le_trans X5.out.2.2.2.1.size hgrow.size,fun q hq hqp=>(hbk q (Nat.lt_of_lt_of_le hq X5.out.2.2.2.1.size) (by omega)).trans (X5.out.2.2.2.1.block q hq hqp)⟩
     have ep:=hbk p (by have:=X5.out.2.1.2.2.2.1;omega) (by omega)
     exact ⟨s1,⟨(World.cell?_of_block (w:=V5) ep).trans X5.out.2.1.1,(World.frozen?_of_block (w:=V5) ep).trans X5.out.2.1.2.1,h7,Nat.lt_of_lt_of_le X5.out.2.1.2.2.2.1 hgrow.size,X5.out.2.1.2.2.2.2⟩,G0.out.stp s1 h7⟩
    have hz6:w6.cell? ⟨H+1,1,none⟩=some (Sl aa L.length cc):=(World.cell?_of_block (w:=V5) (hgrow.block (H+1) X5.out.1.2.1.2.2 (fun e=>by have:=hbv.out _ e.symm;omega))).trans SS5
    have hf6:w6.frozen? ⟨H+1,1,none⟩=false:=(World.frozen?_of_block (w:=V5) (hgrow.block (H+1) X5.out.1.2.1.2.2 (fun e=>by have:=hbv.out _ e.symm;omega))).trans (X5.out.1.2.1.2.1 1)
    clear hown hgrow
    refine hK.out _ _ trivial (fun hHeld=>?_)
    clear hK X5 SS5 hbv NW ONE
    (try simp only[Act.put,La,Lz,Lc])
    refine wpAnyH_take (i:=6) (v:=?_) rfl (by kernel_rfl) (by kernel_rfl) (by kernel_rfl) (fun _ _ _ h=>h) (Or.inl ⟨by rfl,?_⟩) trivial ?_
    rotate_left
    ·intro wq hSw
     go_simp
     all_goals (with_reducible rfl)
    (try simp only[Act.put,La,Lz,Lc])
    refine wpAnyH_ready (rs:=[7]) (by kernel_rfl) (by simp) ?_
    refine AllReadyH.cons rfl (fun K hK=>?_) AllReadyH.nil
    obtain ⟨a6,c6,hv6⟩:∃a6 c6,v6=Sl a6 (L++[x]).length c6:=X6.out.2.2.1.len
    subst hv6
    obtain ⟨m6,hm6⟩:∃m,(L++[x]).length=m:=⟨_,rfl⟩
    rw[hm6] at X6
    simp only[hm6]
    clear hm6
    go_simp
    refine hK.out _ _ trivial (fun hHeld=>?_)
    clear hK
    (try simp only[Act.put,La,Lz,Lc])
    refine wpAnyH_done (by kernel_rfl) ?_ _
    have X7:Hid (di H (Sl a6 m6 c6) (Sl none 0 0) k (L++[x]) [] (w6.setCell ⟨H+1,1,none⟩ (Sl a6 m6 c6))/\bp (w6.setCell ⟨H+1,1,none⟩ (Sl a6 m6 c6)) p t'/\ba (w6.setCell ⟨H+1,1,none⟩ (Sl a6 m6 c6))/\an p w (w6.setCell ⟨H+1,1,none⟩ (Sl a6 m6 c6))):=⟨X6.out,S6.out.2.1.far (by omega) _ _,S6.out.2.2.far (by omega) _ _,S6.out.1.setNew (p:=⟨H+1,1,none⟩) (by show w.heap.size<=H+1;rw[HH.out];omega) _⟩
    clear X6 S6 hz6 hf6
    go_wp2
    go_roundg t'.size
    case measure=>have:=HL2.out.2;omega
    case rel=>exact ⟨t',L++[x],_,rfl,HL2.out.1,X7⟩
   refine AllReadyH.cons rfl (fun K hK=>?_) AllReadyH.nil
   go_simp
   obtain ⟨V5,hV5,X5⟩:∃V,V=w4.alloc (.cells (ab x).toArray 53)/\Hid (di H (Sl aa L.length cc) (Sl none 0 0) k L [] V/\bp V p t'/\ba V/\an p w V/\ah V w4.heap.size (ab x)/\H+1+1<=V.heap.size):=by
    have hb:Below w4.heap.size w4 (w4.alloc (.cells (ab x).toArray 53)):=(Bf _ _).alloc (Nf _) _
    exact ⟨_,rfl,X4.out.1.alloc _,X4.out.2.1.below hb,X4.out.2.2.1.below hb,X4.out.2.2.2.trans (an.ofBelow hb),ah.new _ _ _,by have:=X4.out.1.2.1.2.2;simp;omega⟩
   have SS5:V5.cell? ⟨H+1,1,none⟩=some (Sl aa L.length cc):=X5.out.1.2.1.1.2.1
   have HV5:Hid (V5=w4.alloc (.cells #[Ii Jj x.id,Ii Jj x.up,Ii Jj x.limit,Ii Jj x.rate,Ii Jj x.target,.bool x.frozen,Ii Jj x.balance,Ii Jj x.carry] 53)):=hV5
   clear hV5 SS4
   refine hK.out _ _ trivial (fun hHeld=>?_)
   rw[←HV5.out]
   clear hK
   obtain ⟨r5,hr5⟩:∃r,w4.heap.size=r:=⟨_,rfl⟩
   try rw[hr5]
   rw[hr5] at X5
   clear X4 HV5 hr5
   have hbv:Hid (∀q,(Value.slice aa L.length cc).ownBlock=some q->H+1+1<=q):=fun q hq=>(X5.out.1.blk.1 q hq).1
   have NW:Hid (∀j y,(ab x)[j]? =some y->V5.cell? ((⟨r5,0,none⟩:Addr).add j)=some y):=fun j y hj=>by
    have e:(⟨r5,0,none⟩:Addr).add j=⟨r5,j,none⟩:=by cases j <;>simp[Addr.add]
    rw[e]
    exact X5.out.2.2.2.2.1.1 j y hj
   have ONE:Hid (∀y ∈ ab x,y.oneCell'=true):=fun y hy=>by
    simp only[ab,List.mem_cons,List.not_mem_nil,or_false] at hy
    rcases hy with e|e|e|e|e|e|e|e <;>subst e <;>rfl
   (try simp only[Act.put,La,Lz,Lc])
   refine wpAnyH_ready (rs:=[1]) (by kernel_rfl) (by simp) ?_
   refine AllReadyH.cons rfl (fun K hK=>?_) AllReadyH.nil
   go_simp
   refine hK.out _ _ trivial (fun hHeld=>?_)
   clear hK
   (try simp only[Act.put,La,Lz,Lc])
   refine wpAnyH_ready (rs:=[5]) (by kernel_rfl) (by simp) ?_
   refine AllReadyH.cons rfl (fun K hK=>?_) AllReadyH.nil
   refine az _ (by rfl) _ _ 24 (by rfl) (H+1+1) 53 iA _ 8 64 Tryz.underlying24 hA zA0 zA1 zA2 rfl (by decide) _ _ _ (by rfl) X5.out.1.2.2.1 ⟨r5,0,none⟩ 1 1 (ab x) (by rfl) rfl NW.out ONE.out (by unfold maxLen;omega) (by omega) X5.out.2.2.2.2.2 ?_
   intro v6 w6 hown hgrow
   have X6:Hid (di H v6 (Sl none 0 0) k (L++[x]) [] (w6.setCell ⟨H+1,1,none⟩ v6)):=X5.out.1.addA hown hgrow
   have S6:Hid (an p w w6/\bp w6 p t'/\ba w6):=by
    have hh:w.heap.size<=H+1+1:=by rw[HH.out];omega
    have hbk:∀q,q<V5.heap.size->q<H+1+1->w6.heap[q]? =V5.heap[q]? :=fun q hq hq2=>hgrow.block q hq (fun e=>by have:=hbv.out q e.symm;omega)
    have s1:an p w w6:=⟨hgrow.os.trans X5.out.2.2.2.1.os,hgrow.tape.trans X5.out.2.2.2.1.tape,hgrow.output.trans X5.out.2.2.2.1.output,Nat.le_trans X5.out.2.2.2.1.size hgrow.size,fun q hq hqp=>(hbk q (Nat.lt_of_lt_of_le hq X5.out.2.2.2.1.size) (by omega)).trans (X5.out.2.2.2.1.block q hq hqp)⟩
    have ep:=hbk p (by have:=X5.out.2.1.2.2.2.1;omega) (by omega)
    exact ⟨s1,⟨(World.cell?_of_block (w:=V5) ep).trans X5.out.2.1.1,(World.frozen?_of_block (w:=V5) ep).trans X5.out.2.1.2.1,h7,Nat.lt_of_lt_of_le X5.out.2.1.2.2.2.1 hgrow.size,X5.out.2.1.2.2.2.2⟩,G0.out.stp s1 h7⟩
   have hz6:w6.cell? ⟨H+1,1,none⟩=some (Sl aa L.length cc):=(World.cell?_of_block (w:=V5) (hgrow.block (H+1) X5.out.1.2.1.2.2 (fun e=>by have:=hbv.out _ e.symm;omega))).trans SS5
   have hf6:w6.frozen? ⟨H+1,1,none⟩=false:=(World.frozen?_of_block (w:=V5) (hgrow.block (H+1) X5.out.1.2.1.2.2 (fun e=>by have:=hbv.out _ e.symm;omega))).trans (X5.out.1.2.1.2.1 1)
   clear hown hgrow
   refine hK.out _ _ trivial (fun hHeld=>?_)
   clear hK X5 SS5 hbv NW ONE
   (try simp only[Act.put,La,Lz,Lc])
   refine wpAnyH_take (i:=6) (v:=?_) rfl (by kernel_rfl) (by kernel_rfl) (by kernel_rfl) (fun _ _ _ h=>h) (Or.inl ⟨by rfl,?_⟩) trivial ?_
   rotate_left
   ·intro wq hSw
    go_simp
    all_goals (with_reducible rfl)
   (try simp only[Act.put,La,Lz,Lc])
   refine wpAnyH_ready (rs:=[7]) (by kernel_rfl) (by simp) ?_
   refine AllReadyH.cons rfl (fun K hK=>?_) AllReadyH.nil
   obtain ⟨a6,c6,hv6⟩:∃a6 c6,v6=Sl a6 (L++[x]).length c6:=X6.out.2.2.1.len
   subst hv6
   obtain ⟨m6,hm6⟩:∃m,(L++[x]).length=m:=⟨_,rfl⟩
   rw[hm6] at X6
   simp only[hm6]
   clear hm6
   go_simp
   refine hK.out _ _ trivial (fun hHeld=>?_)
   clear hK
   (try simp only[Act.put,La,Lz,Lc])
   refine wpAnyH_done (by kernel_rfl) ?_ _
   have X7:Hid (di H (Sl a6 m6 c6) (Sl none 0 0) k (L++[x]) [] (w6.setCell ⟨H+1,1,none⟩ (Sl a6 m6 c6))/\bp (w6.setCell ⟨H+1,1,none⟩ (Sl a6 m6 c6)) p t'/\ba (w6.setCell ⟨H+1,1,none⟩ (Sl a6 m6 c6))/\an p w (w6.setCell ⟨H+1,1,none⟩ (Sl a6 m6 c6))):=⟨X6.out,S6.out.2.1.far (by omega) _ _,S6.out.2.2.far (by omega) _ _,S6.out.1.setNew (p:=⟨H+1,1,none⟩) (by show w.heap.size<=H+1;rw[HH.out];omega) _⟩
   clear X6 S6 hz6 hf6
   go_wp2
   go_roundg t'.size
   case measure=>have:=HL2.out.2;omega
   case rel=>exact ⟨t',L++[x],_,rfl,HL2.out.1,X7⟩
  | false=>
   have HB2:Hid (aP bH.data.toList 8 1048577 s1.data.toList=some (L.map dn,t.data.toList)):=HL.out.over HBO.out
   have HLL:Hid (L.length<=1048576):=by have h1:=HL.out.2.1;have h2:=HS1.out;rw[dB,dB] at h1;simp only[List.length_map] at h1;show _<=_;omega
   obtain ⟨s2,rfl⟩:∃s2,s2=t:=⟨t,rfl⟩
   have HS2:Hid (s2.size<=1048576):=X3.out.2.1.2.2.2.2
   clear HS1 HL HBO
   have HS1:Hid (s2.size<=1048576):=HS2.out
   clear HS2
   have X2:Hid (di H v (Sl none 0 0) k L [] wr/\bp wr p s2/\ba wr/\an p w wr):=X3.out
   clear X3
   go_wp2_with (go_at_call 60;refine A'.mono ?_;rintro e w9 ⟨rfl,hw9⟩;subst w9)
   clear A'
   go_loopg [17] s2.size (fun g _ wx=>∃(t:ByteArray) (O:List am) (u:Value),t.size=g/\Hid (kK bK.data.toList 7 1048577 s2.data.toList (O.map dz) t.data.toList)/\Hid (di H v u k L O wx/\bp wx p t/\ba wx/\an p w wx))
   case atStart=>exact ⟨s2,[],Sl none 0 0,rfl,kK.start _ _ _ _ (by omega),X2⟩
   case round=>
    clear X2
    obtain ⟨t,O,u,hg,HL,X3⟩:=hrel
    have A:=nc p t ⟨#[111,114,100,101,114]⟩ wr X3.out.2.1
    obtain ⟨bo,hbo⟩:∃bo,Lib.hasPrefix t.data.toList bK.data.toList=bo:=⟨_,rfl⟩
    have HBO:Hid (Lib.hasPrefix t.data.toList bK.data.toList=bo):=hbo
    have A':Calls Tryz.prog 60 #[.pointer (some ⟨p,0,none⟩),.string ⟨#[111,114,100,101,114]⟩] wr fun e w'=>e=.returned (.bool bo)/\w'=wr:=by rw[←hbo];exact A
    clear A hbo
    cases bo with
    | true=>
     obtain ⟨aa,cc,hv⟩:∃aa cc,u=Sl aa O.length cc:=(by obtain ⟨a',c',hv,_⟩:=X3.out.1.2.2.2.shape;exact ⟨a',c',hv⟩)
     subst hv
     have hll:O.length<=1048576:=by have h1:=HL.out.2.1;have h2:=HS1.out;rw[dB,dB] at h1;simp only[List.length_map] at h1;omega
     have SS:wr.drew.cell? ⟨H+1,2,none⟩=some (Sl aa O.length cc):=X3.out.1.2.1.1.2.2.1
     have XD:Hid (di H v (Sl aa O.length cc) k L O wr.drew/\bp wr.drew p t/\ba wr.drew/\an p w wr.drew):=⟨X3.out.1.stp (p:=p) (an.drewd (an.refl _ _)) hpH,X3.out.2.1,ba.drewd X3.out.2.2.1,an.drewd X3.out.2.2.2⟩
     clear X3
     go_wp2_with (go_at_call 60;refine A'.mono ?_;rintro e w9 ⟨rfl,hw9⟩;subst w9)
     clear A'
     refine wp_region_held_drew (S:=fun _=>True) (by kernel_rfl) trivial (fun hHeld=>?_)
     refine wpAnyH_take (i:=0) (v:=?_) rfl (by kernel_rfl) (by kernel_rfl) (by kernel_rfl) (fun _ _ _ h=>h) (Or.inl ⟨by rfl,?_⟩) trivial ?_
     rotate_left
     ·intro wq hSw
      go_simp
      all_goals (with_reducible rfl)
     (try simp only[Act.put,La,Lz,Lc])
     refine wpAnyH_take (i:=2) (v:=?_) rfl (by kernel_rfl) (by kernel_rfl) (by kernel_rfl) (fun _ _ _ h=>h) (Or.inl ⟨by rfl,?_⟩) trivial ?_
     rotate_left
     ·intro wq hSw
      go_simp
      all_goals (with_reducible rfl)
     (try simp only[Act.put,La,Lz,Lc])
     refine wpAnyH_ready (rs:=[1,3]) (by kernel_rfl) (by simp) ?_
     refine AllReadyH.cons rfl (fun K hK=>?_) ?_
     ·skip
      go_simp
      refine hK.out _ _ trivial (fun hHeld=>?_)
      clear hK
      (try simp only[Act.put,La,Lz,Lc])
      refine wpAnyH_ready (rs:=[3]) (by kernel_rfl) (by simp) ?_
      refine AllReadyH.cons rfl (fun K hK=>?_) AllReadyH.nil
      go_simp
      refine (qU p t _ XD.out.2.1 XD.out.2.2.1).mono ?_
      rintro e w4 ⟨S4,hor⟩
      rcases hor with ⟨x,t',hx,rfl,R4,G4⟩|⟨hx,t9,p9,rfl⟩
      rotate_left
      ·exact ⟨rfl,XD.out.2.2.2.trans S4,Or.inr ⟨uv HB1.out HB2.out HL.out HBO.out hx,t9,p9,rfl⟩⟩
      have X4:Hid (di H v (Sl aa O.length cc) k L O w4/\bp w4 p t'/\ba w4/\an p w w4):=⟨XD.out.1.stp S4 hpH,R4,G4,XD.out.2.2.2.trans S4⟩
      have HL2:Hid (kK bK.data.toList 7 1048577 s2.data.toList ((O++[x]).map dz) t'.data.toList/\t'.size<t.size):=by
       have h1:=HL.out.step (by have:=HS1.out;rw[dB];omega) HBO.out hx
       refine ⟨by simpa using h1,?_⟩
       have h3:=congrArg List.length (bM hx).1
       rw[dB] at h3
       simp[cy] at h3
       omega
      clear S4 R4 G4 hx
      have SS4:w4.cell? ⟨H+1,2,none⟩=some (Sl aa O.length cc):=X4.out.1.2.1.1.2.2.1
      refine hK.out _ _ trivial (fun hHeld=>?_)
      clear hK SS
      (try simp only[Act.put,La,Lz,Lc])
      simp only[au]
      refine wpAnyH_ready (rs:=[4]) (by kernel_rfl) (by simp) ?_
      refine AllReadyH.cons rfl (fun K hK=>?_) AllReadyH.nil
      go_simp
      obtain ⟨V5,hV5,X5⟩:∃V,V=w4.alloc (.cells (au x).toArray 35)/\Hid (di H v (Sl aa O.length cc) k L O V/\bp V p t'/\ba V/\an p w V/\ah V w4.heap.size (au x)/\H+1+1<=V.heap.size):=by
       have hb:Below w4.heap.size w4 (w4.alloc (.cells (au x).toArray 35)):=(Bf _ _).alloc (Nf _) _
       exact ⟨_,rfl,X4.out.1.alloc _,X4.out.2.1.below hb,X4.out.2.2.1.below hb,X4.out.2.2.2.trans (an.ofBelow hb),ah.new _ _ _,by have:=X4.out.1.2.1.2.2;simp;omega⟩
      have SS5:V5.cell? ⟨H+1,2,none⟩=some (Sl aa O.length cc):=X5.out.1.2.1.1.2.2.1
      have HV5:Hid (V5=w4.alloc (.cells #[Ii Jj x.id,Ii Jj x.src,Ii Jj x.dst,Ii Jj x.amount,Ii Jj x.first,Ii Jj x.every,Ii Jj x.times] 35)):=hV5
      clear hV5 SS4
      refine hK.out _ _ trivial (fun hHeld=>?_)
      rw[←HV5.out]
      clear hK
      obtain ⟨r5,hr5⟩:∃r,w4.heap.size=r:=⟨_,rfl⟩
      try rw[hr5]
      rw[hr5] at X5
      clear X4 HV5 hr5
      have hbv:Hid (∀q,(Value.slice aa O.length cc).ownBlock=some q->H+1+1<=q):=fun q hq=>(X5.out.1.blk.2 q hq).1
      have NW:Hid (∀j y,(au x)[j]? =some y->V5.cell? ((⟨r5,0,none⟩:Addr).add j)=some y):=fun j y hj=>by
       have e:(⟨r5,0,none⟩:Addr).add j=⟨r5,j,none⟩:=by cases j <;>simp[Addr.add]
       rw[e]
       exact X5.out.2.2.2.2.1.1 j y hj
      have ONE:Hid (∀y ∈ au x,y.oneCell'=true):=fun y hy=>by
       simp only[au,List.mem_cons,List.not_mem_nil,or_false] at hy
       rcases hy with e|e|e|e|e|e|e <;>subst e <;>rfl
      (try simp only[Act.put,La,Lz,Lc])
      refine wpAnyH_ready (rs:=[5]) (by kernel_rfl) (by simp) ?_
      refine AllReadyH.cons rfl (fun K hK=>?_) AllReadyH.nil
      refine az _ (by rfl) _ _ 25 (by rfl) (H+1+1) 35 iB _ 7 56 Tryz.underlying25 hB zB0 zB1 zB2 rfl (by decide) _ _ _ (by rfl) X5.out.1.2.2.2 ⟨r5,0,none⟩ 1 1 (au x) (by rfl) rfl NW.out ONE.out (by unfold maxLen;omega) (by omega) X5.out.2.2.2.2.2 ?_
      intro v6 w6 hown hgrow
      have X6:Hid (di H v v6 k L (O++[x]) (w6.setCell ⟨H+1,2,none⟩ v6)):=X5.out.1.addO hown hgrow
      have S6:Hid (an p w w6/\bp w6 p t'/\ba w6):=by
       have hh:w.heap.size<=H+1+1:=by rw[HH.out];omega
       have hbk:∀q,q<V5.heap.size->q<H+1+1->w6.heap[q]? =V5.heap[q]? :=fun q hq hq2=>hgrow.block q hq (fun e=>by have:=hbv.out q e.symm;omega)
       have s1:an p w w6:=⟨hgrow.os.trans X5.out.2.2.2.1.os,hgrow.tape.trans X5.out.2.2.2.1.tape,hgrow.output.trans X5.out.2.2.2.1.output,Nat.le_trans X5.out.2.2.2.1.size hgrow.size,fun q hq hqp=>(hbk q (Nat.lt_of_lt_of_le hq X5.out.2.2.2.1.size) (by omega)).trans (X5.out.2.2.2.1.block q hq hqp)⟩
       have ep:=hbk p (by have:=X5.out.2.1.2.2.2.1;omega) (by omega)
       exact ⟨s1,⟨(World.cell?_of_block (w:=V5) ep).trans X5.out.2.1.1,(World.frozen?_of_block (w:=V5) ep).trans X5.out.2.1.2.1,h7,Nat.lt_of_lt_of_le X5.out.2.1.2.2.2.1 hgrow.size,X5.out.2.1.2.2.2.2⟩,G0.out.stp s1 h7⟩
      have hz6:w6.cell? ⟨H+1,2,none⟩=some (Sl aa O.length cc):=(World.cell?_of_block (w:=V5) (hgrow.block (H+1) X5.out.1.2.1.2.2 (fun e=>by have:=hbv.out _ e.symm;omega))).trans SS5
      have hf6:w6.frozen? ⟨H+1,2,none⟩=false:=(World.frozen?_of_block (w:=V5) (hgrow.block (H+1) X5.out.1.2.1.2.2 (fun e=>by have:=hbv.out _ e.symm;omega))).trans (X5.out.1.2.1.2.1 2)
      clear hown hgrow
      refine hK.out _ _ trivial (fun hHeld=>?_)
      clear hK X5 SS5 hbv NW ONE
      (try simp only[Act.put,La,Lz,Lc])
      refine wpAnyH_take (i:=6) (v:=?_) rfl (by kernel_rfl) (by kernel_rfl) (by kernel_rfl) (fun _ _ _ h=>h) (Or.inl ⟨by rfl,?_⟩) trivial ?_
      rotate_left
      ·intro wq hSw
       go_simp
       all_goals (with_reducible rfl)
      (try simp only[Act.put,La,Lz,Lc])
      refine wpAnyH_ready (rs:=[7]) (by kernel_rfl) (by simp) ?_
      refine AllReadyH.cons rfl (fun K hK=>?_) AllReadyH.nil
      obtain ⟨a6,c6,hv6⟩:∃a6 c6,v6=Sl a6 (O++[x]).length c6:=(by obtain ⟨a',c',hv,_⟩:=X6.out.2.2.2.shape;exact ⟨a',c',hv⟩)
      subst hv6
      obtain ⟨m6,hm6⟩:∃m,(O++[x]).length=m:=⟨_,rfl⟩
      rw[hm6] at X6
      simp only[hm6]
      clear hm6
      go_simp
      refine hK.out _ _ trivial (fun hHeld=>?_)
      clear hK
      (try simp only[Act.put,La,Lz,Lc])
      refine wpAnyH_done (by kernel_rfl) ?_ _
      have X7:Hid (di H v (Sl a6 m6 c6) k L (O++[x]) (w6.setCell ⟨H+1,2,none⟩ (Sl a6 m6 c6))/\bp (w6.setCell ⟨H+1,2,none⟩ (Sl a6 m6 c6)) p t'/\ba (w6.setCell ⟨H+1,2,none⟩ (Sl a6 m6 c6))/\an p w (w6.setCell ⟨H+1,2,none⟩ (Sl a6 m6 c6))):=⟨X6.out,S6.out.2.1.far (by omega) _ _,S6.out.2.2.far (by omega) _ _,S6.out.1.setNew (p:=⟨H+1,2,none⟩) (by show w.heap.size<=H+1;rw[HH.out];omega) _⟩
      clear X6 S6 hz6 hf6
      go_wp2
      go_roundg t'.size
      case measure=>have:=HL2.out.2;omega
      case rel=>exact ⟨t',O++[x],_,rfl,HL2.out.1,X7⟩
     refine AllReadyH.cons rfl (fun K hK=>?_) AllReadyH.nil
     go_simp
     refine (qU p t _ XD.out.2.1 XD.out.2.2.1).mono ?_
     rintro e w4 ⟨S4,hor⟩
     rcases hor with ⟨x,t',hx,rfl,R4,G4⟩|⟨hx,t9,p9,rfl⟩
     rotate_left
     ·exact ⟨rfl,XD.out.2.2.2.trans S4,Or.inr ⟨uv HB1.out HB2.out HL.out HBO.out hx,t9,p9,rfl⟩⟩
     have X4:Hid (di H v (Sl aa O.length cc) k L O w4/\bp w4 p t'/\ba w4/\an p w w4):=⟨XD.out.1.stp S4 hpH,R4,G4,XD.out.2.2.2.trans S4⟩
     have HL2:Hid (kK bK.data.toList 7 1048577 s2.data.toList ((O++[x]).map dz) t'.data.toList/\t'.size<t.size):=by
      have h1:=HL.out.step (by have:=HS1.out;rw[dB];omega) HBO.out hx
      refine ⟨by simpa using h1,?_⟩
      have h3:=congrArg List.length (bM hx).1
      rw[dB] at h3
      simp[cy] at h3
      omega
     clear S4 R4 G4 hx
     have SS4:w4.cell? ⟨H+1,2,none⟩=some (Sl aa O.length cc):=X4.out.1.2.1.1.2.2.1
     refine hK.out _ _ trivial (fun hHeld=>?_)
     clear hK SS
     (try simp only[Act.put,La,Lz,Lc])
     simp only[au]
     refine wpAnyH_ready (rs:=[1,4]) (by kernel_rfl) (by simp) ?_
     refine AllReadyH.cons rfl (fun K hK=>?_) ?_
     ·skip
      go_simp
      refine hK.out _ _ trivial (fun hHeld=>?_)
      clear hK
      (try simp only[Act.put,La,Lz,Lc])
      refine wpAnyH_ready (rs:=[4]) (by kernel_rfl) (by simp) ?_
      refine AllReadyH.cons rfl (fun K hK=>?_) AllReadyH.nil
      go_simp
      obtain ⟨V5,hV5,X5⟩:∃V,V=w4.alloc (.cells (au x).toArray 35)/\Hid (di H v (Sl aa O.length cc) k L O V/\bp V p t'/\ba V/\an p w V/\ah V w4.heap.size (au x)/\H+1+1<=V.heap.size):=by
       have hb:Below w4.heap.size w4 (w4.alloc (.cells (au x).toArray 35)):=(Bf _ _).alloc (Nf _) _
       exact ⟨_,rfl,X4.out.1.alloc _,X4.out.2.1.below hb,X4.out.2.2.1.below hb,X4.out.2.2.2.trans (an.ofBelow hb),ah.new _ _ _,by have:=X4.out.1.2.1.2.2;simp;omega⟩
      have SS5:V5.cell? ⟨H+1,2,none⟩=some (Sl aa O.length cc):=X5.out.1.2.1.1.2.2.1
      have HV5:Hid (V5=w4.alloc (.cells #[Ii Jj x.id,Ii Jj x.src,Ii Jj x.dst,Ii Jj x.amount,Ii Jj x.first,Ii Jj x.every,Ii Jj x.times] 35)):=hV5
      clear hV5 SS4
      refine hK.out _ _ trivial (fun hHeld=>?_)
      rw[←HV5.out]
      clear hK
      obtain ⟨r5,hr5⟩:∃r,w4.heap.size=r:=⟨_,rfl⟩
      try rw[hr5]
      rw[hr5] at X5
      clear X4 HV5 hr5
      have hbv:Hid (∀q,(Value.slice aa O.length cc).ownBlock=some q->H+1+1<=q):=fun q hq=>(X5.out.1.blk.2 q hq).1
      have NW:Hid (∀j y,(au x)[j]? =some y->V5.cell? ((⟨r5,0,none⟩:Addr).add j)=some y):=fun j y hj=>by
       have e:(⟨r5,0,none⟩:Addr).add j=⟨r5,j,none⟩:=by cases j <;>simp[Addr.add]
       rw[e]
       exact X5.out.2.2.2.2.1.1 j y hj
      have ONE:Hid (∀y ∈ au x,y.oneCell'=true):=fun y hy=>by
       simp only[au,List.mem_cons,List.not_mem_nil,or_false] at hy
       rcases hy with e|e|e|e|e|e|e <;>subst e <;>rfl
      (try simp only[Act.put,La,Lz,Lc])
      refine wpAnyH_ready (rs:=[5]) (by kernel_rfl) (by simp) ?_
      refine AllReadyH.cons rfl (fun K hK=>?_) AllReadyH.nil
      refine az _ (by rfl) _ _ 25 (by rfl) (H+1+1) 35 iB _ 7 56 Tryz.underlying25 hB zB0 zB1 zB2 rfl (by decide) _ _ _ (by rfl) X5.out.1.2.2.2 ⟨r5,0,none⟩ 1 1 (au x) (by rfl) rfl NW.out ONE.out (by unfold maxLen;omega) (by omega) X5.out.2.2.2.2.2 ?_
      intro v6 w6 hown hgrow
      have X6:Hid (di H v v6 k L (O++[x]) (w6.setCell ⟨H+1,2,none⟩ v6)):=X5.out.1.addO hown hgrow
      have S6:Hid (an p w w6/\bp w6 p t'/\ba w6):=by
       have hh:w.heap.size<=H+1+1:=by rw[HH.out];omega
       have hbk:∀q,q<V5.heap.size->q<H+1+1->w6.heap[q]? =V5.heap[q]? :=fun q hq hq2=>hgrow.block q hq (fun e=>by have:=hbv.out q e.symm;omega)
       have s1:an p w w6:=⟨hgrow.os.trans X5.out.2.2.2.1.os,hgrow.tape.trans X5.out.2.2.2.1.tape,hgrow.output.trans X5.out.2.2.2.1.output,Nat.le_trans X5.out.2.2.2.1.size hgrow.size,fun q hq hqp=>(hbk q (Nat.lt_of_lt_of_le hq X5.out.2.2.2.1.size) (by omega)).trans (X5.out.2.2.2.1.block q hq hqp)⟩
       have ep:=hbk p (by have:=X5.out.2.1.2.2.2.1;omega) (by omega)
       exact ⟨s1,⟨(World.cell?_of_block (w:=V5) ep).trans X5.out.2.1.1,(World.frozen?_of_block (w:=V5) ep).trans X5.out.2.1.2.1,h7,Nat.lt_of_lt_of_le X5.out.2.1.2.2.2.1 hgrow.size,X5.out.2.1.2.2.2.2⟩,G0.out.stp s1 h7⟩
      have hz6:w6.cell? ⟨H+1,2,none⟩=some (Sl aa O.length cc):=(World.cell?_of_block (w:=V5) (hgrow.block (H+1) X5.out.1.2.1.2.2 (fun e=>by have:=hbv.out _ e.symm;omega))).trans SS5
      have hf6:w6.frozen? ⟨H+1,2,none⟩=false:=(World.frozen?_of_block (w:=V5) (hgrow.block (H+1) X5.out.1.2.1.2.2 (fun e=>by have:=hbv.out _ e.symm;omega))).trans (X5.out.1.2.1.2.1 2)
      clear hown hgrow
      refine hK.out _ _ trivial (fun hHeld=>?_)
      clear hK X5 SS5 hbv NW ONE
      (try simp only[Act.put,La,Lz,Lc])
      refine wpAnyH_take (i:=6) (v:=?_) rfl (by kernel_rfl) (by kernel_rfl) (by kernel_rfl) (fun _ _ _ h=>h) (Or.inl ⟨by rfl,?_⟩) trivial ?_
      rotate_left
      ·intro wq hSw
       go_simp
       all_goals (with_reducible rfl)
      (try simp only[Act.put,La,Lz,Lc])
      refine wpAnyH_ready (rs:=[7]) (by kernel_rfl) (by simp) ?_
      refine AllReadyH.cons rfl (fun K hK=>?_) AllReadyH.nil
      obtain ⟨a6,c6,hv6⟩:∃a6 c6,v6=Sl a6 (O++[x]).length c6:=(by obtain ⟨a',c',hv,_⟩:=X6.out.2.2.2.shape;exact ⟨a',c',hv⟩)
      subst hv6
      obtain ⟨m6,hm6⟩:∃m,(O++[x]).length=m:=⟨_,rfl⟩
      rw[hm6] at X6
      simp only[hm6]
      clear hm6
      go_simp
      refine hK.out _ _ trivial (fun hHeld=>?_)
      clear hK
      (try simp only[Act.put,La,Lz,Lc])
      refine wpAnyH_done (by kernel_rfl) ?_ _
      have X7:Hid (di H v (Sl a6 m6 c6) k L (O++[x]) (w6.setCell ⟨H+1,2,none⟩ (Sl a6 m6 c6))/\bp (w6.setCell ⟨H+1,2,none⟩ (Sl a6 m6 c6)) p t'/\ba (w6.setCell ⟨H+1,2,none⟩ (Sl a6 m6 c6))/\an p w (w6.setCell ⟨H+1,2,none⟩ (Sl a6 m6 c6))):=⟨X6.out,S6.out.2.1.far (by omega) _ _,S6.out.2.2.far (by omega) _ _,S6.out.1.setNew (p:=⟨H+1,2,none⟩) (by show w.heap.size<=H+1;rw[HH.out];omega) _⟩
      clear X6 S6 hz6 hf6
      go_wp2
      go_roundg t'.size
      case measure=>have:=HL2.out.2;omega
      case rel=>exact ⟨t',O++[x],_,rfl,HL2.out.1,X7⟩
     refine AllReadyH.cons rfl (fun K hK=>?_) AllReadyH.nil
     go_simp
     obtain ⟨V5,hV5,X5⟩:∃V,V=w4.alloc (.cells (au x).toArray 35)/\Hid (di H v (Sl aa O.length cc) k L O V/\bp V p t'/\ba V/\an p w V/\ah V w4.heap.size (au x)/\H+1+1<=V.heap.size):=by
      have hb:Below w4.heap.size w4 (w4.alloc (.cells (au x).toArray 35)):=(Bf _ _).alloc (Nf _) _
      exact ⟨_,rfl,X4.out.1.alloc _,X4.out.2.1.below hb,X4.out.2.2.1.below hb,X4.out.2.2.2.trans (an.ofBelow hb),ah.new _ _ _,by have:=X4.out.1.2.1.2.2;simp;omega⟩
     have SS5:V5.cell? ⟨H+1,2,none⟩=some (Sl aa O.length cc):=X5.out.1.2.1.1.2.2.1
     have HV5:Hid (V5=w4.alloc (.cells #[Ii Jj x.id,Ii Jj x.src,Ii Jj x.dst,Ii Jj x.amount,Ii Jj x.first,Ii Jj x.every,Ii Jj x.times] 35)):=hV5
     clear hV5 SS4
     refine hK.out _ _ trivial (fun hHeld=>?_)
     rw[←HV5.out]
     clear hK
     obtain ⟨r5,hr5⟩:∃r,w4.heap.size=r:=⟨_,rfl⟩
     try rw[hr5]
     rw[hr5] at X5
     clear X4 HV5 hr5
     have hbv:Hid (∀q,(Value.slice aa O.length cc).ownBlock=some q->H+1+1<=q):=fun q hq=>(X5.out.1.blk.2 q hq).1
     have NW:Hid (∀j y,(au x)[j]? =some y->V5.cell? ((⟨r5,0,none⟩:Addr).add j)=some y):=fun j y hj=>by
      have e:(⟨r5,0,none⟩:Addr).add j=⟨r5,j,none⟩:=by cases j <;>simp[Addr.add]
      rw[e]
      exact X5.out.2.2.2.2.1.1 j y hj
     have ONE:Hid (∀y ∈ au x,y.oneCell'=true):=fun y hy=>by
      simp only[au,List.mem_cons,List.not_mem_nil,or_false] at hy
      rcases hy with e|e|e|e|e|e|e <;>subst e <;>rfl
     (try simp only[Act.put,La,Lz,Lc])
     refine wpAnyH_ready (rs:=[1]) (by kernel_rfl) (by simp) ?_
     refine AllReadyH.cons rfl (fun K hK=>?_) AllReadyH.nil
     go_simp
     refine hK.out _ _ trivial (fun hHeld=>?_)
     clear hK
     (try simp only[Act.put,La,Lz,Lc])
     refine wpAnyH_ready (rs:=[5]) (by kernel_rfl) (by simp) ?_
     refine AllReadyH.cons rfl (fun K hK=>?_) AllReadyH.nil
     refine az _ (by rfl) _ _ 25 (by rfl) (H+1+1) 35 iB _ 7 56 Tryz.underlying25 hB zB0 zB1 zB2 rfl (by decide) _ _ _ (by rfl) X5.out.1.2.2.2 ⟨r5,0,none⟩ 1 1 (au x) (by rfl) rfl NW.out ONE.out (by unfold maxLen;omega) (by omega) X5.out.2.2.2.2.2 ?_
     intro v6 w6 hown hgrow
     have X6:Hid (di H v v6 k L (O++[x]) (w6.setCell ⟨H+1,2,none⟩ v6)):=X5.out.1.addO hown hgrow
     have S6:Hid (an p w w6/\bp w6 p t'/\ba w6):=by
      have hh:w.heap.size<=H+1+1:=by rw[HH.out];omega
      have hbk:∀q,q<V5.heap.size->q<H+1+1->w6.heap[q]? =V5.heap[q]? :=fun q hq hq2=>hgrow.block q hq (fun e=>by have:=hbv.out q e.symm;omega)
      have s1:an p w w6:=⟨hgrow.os.trans X5.out.2.2.2.1.os,hgrow.tape.trans X5.out.2.2.2.1.tape,hgrow.output.trans X5.out.2.2.2.1.output,Nat.le_trans X5.out.2.2.2.1.size hgrow.size,fun q hq hqp=>(hbk q (Nat.lt_of_lt_of_le hq X5.out.2.2.2.1.size) (by omega)).trans (X5.out.2.2.2.1.block q hq hqp)⟩
      have ep:=hbk p (by have:=X5.out.2.1.2.2.2.1;omega) (by omega)
      exact ⟨s1,⟨(World.cell?_of_block (w:=V5) ep).trans X5.out.2.1.1,(World.frozen?_of_block (w:=V5) ep).trans X5.out.2.1.2.1,h7,Nat.lt_of_lt_of_le X5.out.2.1.2.2.2.1 hgrow.size,X5.out.2.1.2.2.2.2⟩,G0.out.stp s1 h7⟩
     have hz6:w6.cell? ⟨H+1,2,none⟩=some (Sl aa O.length cc):=(World.cell?_of_block (w:=V5) (hgrow.block (H+1) X5.out.1.2.1.2.2 (fun e=>by have:=hbv.out _ e.symm;omega))).trans SS5
     have hf6:w6.frozen? ⟨H+1,2,none⟩=false:=(World.frozen?_of_block (w:=V5) (hgrow.block (H+1) X5.out.1.2.1.2.2 (fun e=>by have:=hbv.out _ e.symm;omega))).trans (X5.out.1.2.1.2.1 2)
     clear hown hgrow
     refine hK.out _ _ trivial (fun hHeld=>?_)
     clear hK X5 SS5 hbv NW ONE
     (try simp only[Act.put,La,Lz,Lc])
     refine wpAnyH_take (i:=6) (v:=?_) rfl (by kernel_rfl) (by kernel_rfl) (by kernel_rfl) (fun _ _ _ h=>h) (Or.inl ⟨by rfl,?_⟩) trivial ?_
     rotate_left
     ·intro wq hSw
      go_simp
      all_goals (with_reducible rfl)
     (try simp only[Act.put,La,Lz,Lc])
     refine wpAnyH_ready (rs:=[7]) (by kernel_rfl) (by simp) ?_
     refine AllReadyH.cons rfl (fun K hK=>?_) AllReadyH.nil
     obtain ⟨a6,c6,hv6⟩:∃a6 c6,v6=Sl a6 (O++[x]).length c6:=(by obtain ⟨a',c',hv,_⟩:=X6.out.2.2.2.shape;exact ⟨a',c',hv⟩)
     subst hv6
     obtain ⟨m6,hm6⟩:∃m,(O++[x]).length=m:=⟨_,rfl⟩
     rw[hm6] at X6
     simp only[hm6]
     clear hm6
     go_simp
     refine hK.out _ _ trivial (fun hHeld=>?_)
     clear hK
     (try simp only[Act.put,La,Lz,Lc])
     refine wpAnyH_done (by kernel_rfl) ?_ _
     have X7:Hid (di H v (Sl a6 m6 c6) k L (O++[x]) (w6.setCell ⟨H+1,2,none⟩ (Sl a6 m6 c6))/\bp (w6.setCell ⟨H+1,2,none⟩ (Sl a6 m6 c6)) p t'/\ba (w6.setCell ⟨H+1,2,none⟩ (Sl a6 m6 c6))/\an p w (w6.setCell ⟨H+1,2,none⟩ (Sl a6 m6 c6))):=⟨X6.out,S6.out.2.1.far (by omega) _ _,S6.out.2.2.far (by omega) _ _,S6.out.1.setNew (p:=⟨H+1,2,none⟩) (by show w.heap.size<=H+1;rw[HH.out];omega) _⟩
     clear X6 S6 hz6 hf6
     go_wp2
     go_roundg t'.size
     case measure=>have:=HL2.out.2;omega
     case rel=>exact ⟨t',O++[x],_,rfl,HL2.out.1,X7⟩
    | false=>
     have HB3:Hid (aP bK.data.toList 7 1048577 s2.data.toList=some (O.map dz,t.data.toList)):=HL.out.over HBO.out
     have hL1:L.length<=1048576:=HLL.out
     have hO1:O.length<=1048576:=by have h1:=HL.out.2.1;have h2:=HS1.out;rw[dB,dB] at h1;simp only[List.length_map] at h1;omega
     obtain ⟨a1,c1,hv⟩:=X3.out.1.2.2.1.len
     obtain ⟨a2,c2,hu,_⟩:=X3.out.1.2.2.2.shape
     subst hv
     subst hu
     have HF:Hid (∀W,di H (Sl a1 L.length c1) (Sl a2 O.length c2) k L O W->Fo W a1 L.length (FL L)/\aJ W a2 O.length (ai O)):=fun W hb=>⟨(hb.2.2.1.fo hL1).2,(hb.2.2.2.list hO1).2⟩
     have HR:Hid ((aj (FL L) L.length (ai O) O.length k->f8 s.data.toList k L O t.data.toList)/\(∀k' L' O' t',f8 s.data.toList k' L' O' t'->aj (FL L) L.length (ai O) O.length k)):=by
      refine ⟨fun hb=>⟨_,_,HB1.out,HB2.out,HB3.out,hb⟩,?_⟩
      rintro k' L' O' t' ⟨q1,q2,e1,e2,e3,e4⟩
      rw[HB1.out] at e1
      obtain ⟨f1,f2⟩:=Prod.ext_iff.1 (Option.some.inj e1)
      simp only at f1 f2
      subst f2
      rw[HB2.out] at e2
      obtain ⟨f3,f4⟩:=Prod.ext_iff.1 (Option.some.inj e2)
      simp only at f3 f4
      subst f4
      rw[HB3.out] at e3
      obtain ⟨f5,_⟩:=Prod.ext_iff.1 (Option.some.inj e3)
      simp only at f5
      obtain rfl:=oc f1
      obtain rfl:=gH o8 f3
      obtain rfl:=gH oC f5
      exact e4
     have XB0:Hid (di H (Sl a1 L.length c1) (Sl a2 O.length c2) k L O wr/\bp wr p t/\ba wr/\an p w wr):=X3.out
     clear X3 HL HBO HB1 HB2 HB3 HS1 HLL
     obtain ⟨⟨s0,s1',s2',s3,s4,s5,s6⟩,sf,sz⟩:=XB0.out.1.2.1
     obtain ⟨mL,hmL⟩:∃m,L.length=m:=⟨_,rfl⟩
     obtain ⟨mO,hmO⟩:∃m,O.length=m:=⟨_,rfl⟩
     rw[hmL,hmO] at XB0 HF HR
     rw[hmL] at s1'
     rw[hmO] at s2'
     go_wp2_with (go_at_call 60;refine A'.mono ?_;rintro e w9 ⟨rfl,hw9⟩;subst w9)
     clear A'
     refine (gG a1 a2 mL c1 mO c2 (FL L) (ai O) k wr (HF.out wr XB0.out.1).1 (HF.out wr XB0.out.1).2).mono ?_
     rintro e w5 ⟨⟨bb,rfl,hb1,hb2⟩,B5⟩
     have X5:Hid (di H (Sl a1 mL c1) (Sl a2 mO c2) k L O w5/\bp w5 p t/\ba w5/\an p w w5):=⟨XB0.out.1.stp (p:=p) (an.ofBelow B5) hpH,XB0.out.2.1.below B5,XB0.out.2.2.1.below B5,XB0.out.2.2.2.trans (an.ofBelow B5)⟩
     clear B5 XB0 s0 s1' s2' s3 s4 s5 s6 sf sz
     cases bb with
     | true=>
      have HRT:Hid (f8 s.data.toList k L O t.data.toList):=HR.out.1 (hb1 rfl)
      clear hb1 hb2 HR HF
      obtain ⟨⟨s0,s1',s2',s3,s4,s5,s6⟩,sf,sz⟩:=X5.out.1.2.1
      have r0:=X5.out.1.1.1 0 _ rfl
      have r1:=X5.out.1.1.1 1 _ rfl
      have r2:=X5.out.1.1.1 2 _ rfl
      have r3:=X5.out.1.1.1 3 _ rfl
      have r4:=X5.out.1.1.1 4 _ rfl
      have r5:=X5.out.1.1.1 5 _ rfl
      have r6:=X5.out.1.1.1 6 _ rfl
      have fz:=X5.out.1.1.2.1
      have nh:¬H=H+1:=by omega
      have FI:Hid (ur w p s (.returned (.agg #[Ii Jj k.day,Sl a1 mL c1,Sl a2 mO c2,Ii Jj k.inn,Ii Jj k.out,Ii Jj k.posted,Ii Jj k.missed])) ((((((((w5).setCell ⟨H,0,none⟩ (Ii Jj k.day)).setCell ⟨H,1,none⟩ (Sl a1 mL c1)).setCell ⟨H,2,none⟩ (Sl a2 mO c2)).setCell ⟨H,3,none⟩ (Ii Jj k.inn)).setCell ⟨H,4,none⟩ (Ii Jj k.out)).setCell ⟨H,5,none⟩ (Ii Jj k.posted)).setCell ⟨H,6,none⟩ (Ii Jj k.missed))):=by
       have gs:∀{W:World} (o:Nat) (y:Value),(AL W (H+1+1) (Sl a1 mL c1) L/\ag W (H+1+1) (Sl a2 mO c2) O/\bp W p t/\ba W/\an p w W)->(AL (W.setCell ⟨H,o,none⟩ y) (H+1+1) (Sl a1 mL c1) L/\ag (W.setCell ⟨H,o,none⟩ y) (H+1+1) (Sl a2 mO c2) O/\bp (W.setCell ⟨H,o,none⟩ y) p t/\ba (W.setCell ⟨H,o,none⟩ y)/\an p w (W.setCell ⟨H,o,none⟩ y)):=fun o y hh=>
        ⟨World.ownsRow.kept hh.1 (aS _ H o y) (Or.inr (fun e=>by have:=(World.ownsRow.lt hh.1 _ e).1;omega)),World.ownsRow.kept hh.2.1 (aS _ H o y) (Or.inr (fun e=>by have:=(World.ownsRow.lt hh.2.1 _ e).1;omega)),hh.2.2.1.far (by omega) _ _,hh.2.2.2.1.far (by omega) _ _,hh.2.2.2.2.setNew (p:=⟨H,o,none⟩) (by show w.heap.size<=H;rw[HH.out];exact Nf _) _⟩
       have kk:=gs 6 (Ii Jj k.missed) (gs 5 (Ii Jj k.posted) (gs 4 (Ii Jj k.out) (gs 3 (Ii Jj k.inn) (gs 2 (Sl a2 mO c2) (gs 1 (Sl a1 mL c1) (gs 0 (Ii Jj k.day) ((⟨X5.out.1.2.2.1,X5.out.1.2.2.2,X5.out.2.1,X5.out.2.2.1,X5.out.2.2.2⟩:AL w5 (H+1+1) (Sl a1 mL c1) L/\ag w5 (H+1+1) (Sl a2 mO c2) O/\bp w5 p t/\ba w5/\an p w w5))))))))
       have h2:w.heap.size<=H+1+1:=by rw[HH.out];omega
       exact ⟨kk.2.2.2.2,Or.inl ⟨k,L,O,_,_,t,HRT.out,rfl,AL.mono kk.1 h2,ag.mono kk.2.1 h2,kk.2.2.1,kk.2.2.2.1⟩⟩
      go_wp2_with (go_at_call 58;refine (dY _ _).mono ?_;rintro e w3 ⟨rfl,hw3⟩;subst w3)
      refine bodyPost_ret (v:=.agg #[Ii Jj k.day,Sl a1 mL c1,Sl a2 mO c2,Ii Jj k.inn,Ii Jj k.out,Ii Jj k.posted,Ii Jj k.missed]) (by simp[results,Tryz.results27,go_sem,r0,r1,r2,r3,r4,r5,r6]) rfl ?_
      exact FI.out
     | false=>
      have HNO:Hid (∀k' L' O' t',¬f8 s.data.toList k' L' O' t'):=fun k' L' O' t' hh=>hb2 rfl (HR.out.2 k' L' O' t' hh)
      clear hb1 hb2 HR HF
      go_wp2_with (go_at_call 58;refine (dO _ _ X5.out.2.2.1).mono ?_;rintro e w3 ⟨⟨t9,p9,rfl⟩,hw3⟩;subst w3)
      exact ⟨rfl,X5.out.2.2.2,Or.inr ⟨HNO.out,t9,p9,rfl⟩⟩
end
section
open Value renaming int → Ii,slice → Sl
open IntKind renaming i64 → Jj
open Go.RowKit
set_option maxRecDepth 8000
theorem ne (p q:Addr) (w:World):
  CallsD Tryz.prog 57 #[.pointer (some p),.pointer (some q)] .returning w fun e u' w'=>e=.returned (.tuple #[])/\u'=.returning/\w'=w:=by
 refine callsD_of_wpS Tryz.func57 rfl fun c₀ cs hu=>?_
 apply wpS_seq
 apply wpS_region
 simp[wpOpsS,go_sem,recoverD,hu,Tryz.ntmps57,Exit.thenS]
 refine wpS_cond (t:=false) (by simp[Act.eval,Array.replicate]) ?_
 simp only[Bool.false_eq_true,if_false]
 refine wpS_of_wp (wp_skip ?_)
 cases c₀
 simp_all[bodyPostS,results,Tryz.results57]
theorem ua {vs:List Value} (h:vs.length=7):∃a0 a1 a2 a3 a4 a5 a6,vs=[a0,a1,a2,a3,a4,a5,a6]:=by
 match vs,h with
 | [a0,a1,a2,a3,a4,a5,a6],_=>exact ⟨a0,a1,a2,a3,a4,a5,a6,rfl⟩
set_option maxHeartbeats 4000000 in
theorem fj (p q:Nat) (u:TypeId) (pv:Value) (older:List PanicEntry) (vs:List Value) (b:Bool) (w:World) (hp:ah w p vs) (hv:vs.length=7) (hq:ah w q [.bool b]) (hpq:p≠q):
  CallsD Tryz.prog 57 #[.pointer (some ⟨p,0,none⟩),.pointer (some ⟨q,0,none⟩)] (.panicking ({v:=.iface u pv,recovered:=false}::older)) w fun e u' w'=>
   e=.returned (.tuple #[])/\u'=.panicking ({v:=.iface u pv,recovered:=true}::older)/\ah w' p cQ/\ah w' q [.bool false]/\(∀n,n<=p->n<=q->n<=w.heap.size->Below n w w'):=by
 obtain ⟨a0,a1,a2,a3,a4,a5,a6,rfl⟩:=ua hv
 have hc:=hq.1 0 _ rfl
 have hz:=hq.2.1
 have hz2:=hp.2.1
 refine callsD_of_wpS Tryz.func57 rfl fun c₀ cs hu=>?_
 apply wpS_seq
 apply wpS_region
 simp[wpOpsS,go_sem,recoverD,hu,Tryz.ntmps57,Exit.thenS]
 refine wpS_cond (t:=true) (by simp[Act.eval,Array.replicate]) ?_
 simp only[if_true]
 obtain ⟨V,hV,XV⟩:∃V,V=w.alloc (.cells cQ.toArray 27)/\Hid (ah V w.heap.size cQ/\ah V p [a0,a1,a2,a3,a4,a5,a6]/\ah V q [.bool b]/\∀n,n<=w.heap.size->Below n w V):=by
  have hb:Below w.heap.size w (w.alloc (.cells cQ.toArray 27)):=(Below.refl _ _).alloc (Nat.le_refl _) _
  exact ⟨_,rfl,ah.new _ _ _,hp.kept hb hp.2.2,hq.kept hb hq.2.2,fun n hn=>hb.mono hn⟩
 have hV':V=w.alloc (.cells #[Ii Jj 0,Sl none 0 0,Sl none 0 0,Ii Jj 0,Ii Jj 0,Ii Jj 0,Ii Jj 0] 27):=hV
 clear hV
 refine wpS_of_wp ?_
 have ea:(#[Value.pointer (some ⟨p,0,none⟩),Value.pointer (some ⟨q,0,none⟩)]++((Array.replicate 4 undef).setIfInBounds 1 (Value.iface u pv)).setIfInBounds 2 (Value.bool true))=#[Value.pointer (some ⟨p,0,none⟩),Value.pointer (some ⟨q,0,none⟩),undef,.iface u pv,.bool true,undef]:=rfl
 rw[ea]
 clear hc hz hz2
 go_upto_region 2 with fail
 rw[←hV']
 clear hV'
 have z0:=XV.out.1.1 0 _ rfl
 have z1:=XV.out.1.1 1 _ rfl
 have z2:=XV.out.1.1 2 _ rfl
 have z3:=XV.out.1.1 3 _ rfl
 have z4:=XV.out.1.1 4 _ rfl
 have z5:=XV.out.1.1 5 _ rfl
 have z6:=XV.out.1.1 6 _ rfl
 have r0:=XV.out.2.1.1 0 _ rfl
 have r1:=XV.out.2.1.1 1 _ rfl
 have r2:=XV.out.2.1.1 2 _ rfl
 have r3:=XV.out.2.1.1 3 _ rfl
 have r4:=XV.out.2.1.1 4 _ rfl
 have r5:=XV.out.2.1.1 5 _ rfl
 have r6:=XV.out.2.1.1 6 _ rfl
 have fp:=XV.out.2.1.2.1
 have fq:=XV.out.2.2.1.2.1
 have cq:=XV.out.2.2.1.1 0 _ rfl
 have hpq':¬q=p:=fun e=>hpq e.symm
 have hnp:¬w.heap.size=p:=by have:=hp.2.2;omega
 have hnq:¬w.heap.size=q:=by have:=hq.2.2;omega
 clear hp hq hv
 obtain ⟨W,hW,FIN⟩:∃W,W=((((((((V).setCell ⟨p,0,none⟩ (Ii Jj 0)).setCell ⟨p,1,none⟩ (Sl none 0 0)).setCell ⟨p,2,none⟩ (Sl none 0 0)).setCell ⟨p,3,none⟩ (Ii Jj 0)).setCell ⟨p,4,none⟩ (Ii Jj 0)).setCell ⟨p,5,none⟩ (Ii Jj 0)).setCell ⟨p,6,none⟩ (Ii Jj 0)).setCell ⟨q,0,none⟩ (.bool false)/\Hid (ah W p cQ/\ah W q [.bool false]/\∀n,n<=p->n<=q->n<=w.heap.size->Below n w W):=
  ⟨_,rfl,((((((((XV.out.2.1).set 0 (Ii Jj 0)).set 1 (Sl none 0 0)).set 2 (Sl none 0 0)).set 3 (Ii Jj 0)).set 4 (Ii Jj 0)).set 5 (Ii Jj 0)).set 6 (Ii Jj 0)).far hpq' 0 (.bool false),((((((((XV.out.2.2.1).far hpq 0 (Ii Jj 0)).far hpq 1 (Sl none 0 0)).far hpq 2 (Sl none 0 0)).far hpq 3 (Ii Jj 0)).far hpq 4 (Ii Jj 0)).far hpq 5 (Ii Jj 0)).far hpq 6 (Ii Jj 0)).set 0 (.bool false),fun n hp' hq' hn=>((((((((XV.out.2.2.2 n hn).setCell (p:=⟨p,0,none⟩) hp' (Ii Jj 0)).setCell (p:=⟨p,1,none⟩) hp' (Sl none 0 0)).setCell (p:=⟨p,2,none⟩) hp' (Sl none 0 0)).setCell (p:=⟨p,3,none⟩) hp' (Ii Jj 0)).setCell (p:=⟨p,4,none⟩) hp' (Ii Jj 0)).setCell (p:=⟨p,5,none⟩) hp' (Ii Jj 0)).setCell (p:=⟨p,6,none⟩) hp' (Ii Jj 0)).setCell (p:=⟨q,0,none⟩) hq' (.bool false)⟩
 go_wp2
 rw[←hW]
 clear hW
 simp[bodyPostS,results,Tryz.results57]
 exact FIN.out
end
section
open Value renaming int → Ii,slice → Sl
open IntKind renaming i64 → Jj
open Nat renaming le_refl → Nf
open Go.RowKit Go.Shelf
set_option maxRecDepth 8000
def mX (k:Bk) (v u:Value):List Value:=[Ii Jj k.day,v,u,Ii Jj k.inn,Ii Jj k.out,Ii Jj k.posted,Ii Jj k.missed]
theorem AL.put {w:World} {B:Nat} {v:Value} {L:List al} (h:AL w B v L) {q:Nat} (hq:q<B) (o:Nat) (y:Value):AL (w.setCell ⟨q,o,none⟩ y) B v L:=World.ownsRow.kept h (aS _ q o y) (Or.inr (fun e=>by have:=(World.ownsRow.lt h _ e).1;omega))
theorem ag.put {w:World} {B:Nat} {v:Value} {L:List am} (h:ag w B v L) {q:Nat} (hq:q<B) (o:Nat) (y:Value):ag (w.setCell ⟨q,o,none⟩ y) B v L:=World.ownsRow.kept h (aS _ q o y) (Or.inr (fun e=>by have:=(World.ownsRow.lt h _ e).1;omega))
theorem f8.same {s t t':List UInt8} {k k':Bk} {L L':List al} {O O':List am} (h:f8 s k L O t) (h':f8 s k' L' O' t'):t=t':=by
 obtain ⟨p1,p2,d1,d2,d3,_⟩:=h
 obtain ⟨q1,q2,e1,e2,e3,_⟩:=h'
 rw[d1] at e1
 have f1:p1=q1:=congrArg Prod.snd (Option.some.inj e1)
 rw[←f1,d2] at e2
 have f2:p2=q2:=congrArg Prod.snd (Option.some.inj e2)
 rw[←f2,d3] at e3
 exact congrArg Prod.snd (Option.some.inj e3)
def dA (w:World) (s:ByteArray) (e:Ending) (w':World):Prop:=Below w.heap.size w w'/\((∃(k:Bk) (L:List al) (O:List am) (v u:Value),f8 s.data.toList k L O []/\e=.returned (.tuple #[.agg (mX k v u).toArray,.bool true])/\AL w' w.heap.size v L/\ag w' w.heap.size u O)\/((∀k L O,¬f8 s.data.toList k L O [])/\e=.returned (.tuple #[.agg cQ.toArray,.bool false])))
set_option maxHeartbeats 4000000 in
theorem tN (s:ByteArray) (hs:s.size<=1048576) (w:World) (g:ba w):Calls Tryz.prog 26 #[.string s,.func (.func 27) #[] #[]] w fun e w'=>dA w s e w':=by
 have hmf:∀(fn:Fn) (first cap:Array Value) (w:World),(Instr.makeFunc fn first cap).run Tryz.prog w=.ok (.func fn first cap) w:=fun _ _ _ _=>rfl
 obtain ⟨h,hh⟩:∃h,w.heap.size=h:=⟨_,rfl⟩
 have HH:Hid (w.heap.size=h):=hh
 obtain ⟨W0,hW0,X0⟩:∃W0,W0=((w.alloc (.cells cQ.toArray 27)).alloc (.cells #[.bool false] 4)).alloc (.cells #[.string s] 98)/\Hid (ah W0 h cQ/\ah W0 (h+1) [.bool false]/\Below h w W0/\bp W0 (h+2) s/\ba W0/\W0.heap.size=h+3):=by
  have b1:∀(V:World) (o:Obj),Below V.heap.size V (V.alloc o):=fun V o=>(Below.refl _ _).alloc (Nf _) _
  have h7:7<=w.heap.size:=g.2.2.2.2
  have v0:=((ah.new w cQ 27).kept (b1 _ (.cells #[.bool false] 4)) (by simp)).kept (b1 _ (.cells #[.string s] 98)) (by simp;omega)
  have v1:=(ah.new (w.alloc (.cells cQ.toArray 27)) [.bool false] 4).kept (b1 _ (.cells #[.string s] 98)) (by simp)
  have v2:=ah.new ((w.alloc (.cells cQ.toArray 27)).alloc (.cells #[.bool false] 4)) [.string s] 98
  simp only[World.size_alloc] at v0 v1 v2
  rw[hh] at v0 v1 v2 h7
  have bb:Below h w (((w.alloc (.cells cQ.toArray 27)).alloc (.cells #[.bool false] 4)).alloc (.cells #[.string s] 98)):=by
   rw[←hh]
   exact (((Below.refl _ _).alloc (Nf _) _).alloc (by simp) _).alloc (by simp;omega) _
  exact ⟨_,rfl,v0,v1,bb,⟨v2.1 0 _ rfl,v2.2.1 0,by omega,v2.2.2,hs⟩,g.below (by rw[hh];exact bb),by simp[hh]⟩
 have HW0:Hid (W0=((w.alloc (.cells #[Ii Jj 0,Sl none 0 0,Sl none 0 0,Ii Jj 0,Ii Jj 0,Ii Jj 0,Ii Jj 0] 27)).alloc (.cells #[.bool false] 4)).alloc (.cells #[.string s] 98)):=hW0
 have FNO:Hid ((∀k L O,¬f8 s.data.toList k L O [])->∀W w9,Below h w W->Below h W w9->dA w s (.returned (.tuple #[.agg cQ.toArray,.bool false])) w9):=fun hn W w9 b1 b2=>⟨by rw[HH.out];exact b1.trans b2,Or.inr ⟨hn,rfl⟩⟩
 have HG7:Hid (7<=h):=by have:=g.2.2.2.2;rw[hh] at this;exact this
 clear hW0 g
 go_enter_defers Tryz.func26,Tryz.ntmps26
 go_wp2_with fail
 rw[←HW0.out]
 clear HW0 hh
 refine (tS (h+2) s W0 X0.out.2.2.2.1 X0.out.2.2.2.2.1).mono ?_
 rintro e w1 ⟨S1,hor⟩
 rw[X0.out.2.2.2.2.2] at hor
 have X1:Hid (ah w1 h cQ/\ah w1 (h+1) [.bool false]/\Below h w w1):=⟨X0.out.1.stp S1 (by omega),X0.out.2.1.stp S1 (by omega),X0.out.2.2.1.trans ((S1.below (by have:=X0.out.2.2.2.1.2.2.2.1;omega)).mono (by omega))⟩
 clear S1 X0
 rcases hor with ⟨k,L,O,v,u,t,hR,rfl,A1,O1,R1,G1⟩|⟨hR,t9,p9,rfl⟩
 ·have h7:7<=h:=HG7.out
  obtain ⟨a1,c1,hv⟩:=A1.len
  obtain ⟨a2,c2,hu,_⟩:=O1.shape
  subst hv
  subst hu
  obtain ⟨m1,hm1⟩:∃m,L.length=m:=⟨_,rfl⟩
  obtain ⟨m2,hm2⟩:∃m,O.length=m:=⟨_,rfl⟩
  rw[hm1] at A1
  rw[hm2] at O1
  simp only[hm1,hm2]
  clear hm1 hm2
  obtain ⟨W2,hW2,X2⟩:∃W2,W2=(((((((w1).setCell ⟨h,0,none⟩ (Ii Jj k.day)).setCell ⟨h,1,none⟩ (Sl a1 m1 c1)).setCell ⟨h,2,none⟩ (Sl a2 m2 c2)).setCell ⟨h,3,none⟩ (Ii Jj k.inn)).setCell ⟨h,4,none⟩ (Ii Jj k.out)).setCell ⟨h,5,none⟩ (Ii Jj k.posted)).setCell ⟨h,6,none⟩ (Ii Jj k.missed)/\Hid (ah W2 h (mX k (Sl a1 m1 c1) (Sl a2 m2 c2))/\ah W2 (h+1) [.bool false]/\Below h w W2/\bp W2 (h+2) t/\ba W2/\AL W2 (h+3) (Sl a1 m1 c1) L/\ag W2 (h+3) (Sl a2 m2 c2) O):=
   ⟨_,rfl,(((((((X1.out.1).set 0 (Ii Jj k.day)).set 1 (Sl a1 m1 c1)).set 2 (Sl a2 m2 c2)).set 3 (Ii Jj k.inn)).set 4 (Ii Jj k.out)).set 5 (Ii Jj k.posted)).set 6 (Ii Jj k.missed),(((((((X1.out.2.1).far (by omega) 0 (Ii Jj k.day)).far (by omega) 1 (Sl a1 m1 c1)).far (by omega) 2 (Sl a2 m2 c2)).far (by omega) 3 (Ii Jj k.inn)).far (by omega) 4 (Ii Jj k.out)).far (by omega) 5 (Ii Jj k.posted)).far (by omega) 6 (Ii Jj k.missed),(((((((X1.out.2.2).setCell (p:=⟨h,0,none⟩) (Nf _) (Ii Jj k.day)).setCell (p:=⟨h,1,none⟩) (Nf _) (Sl a1 m1 c1)).setCell (p:=⟨h,2,none⟩) (Nf _) (Sl a2 m2 c2)).setCell (p:=⟨h,3,none⟩) (Nf _) (Ii Jj k.inn)).setCell (p:=⟨h,4,none⟩) (Nf _) (Ii Jj k.out)).setCell (p:=⟨h,5,none⟩) (Nf _) (Ii Jj k.posted)).setCell (p:=⟨h,6,none⟩) (Nf _) (Ii Jj k.missed),(((((((R1).far (by omega) 0 (Ii Jj k.day)).far (by omega) 1 (Sl a1 m1 c1)).far (by omega) 2 (Sl a2 m2 c2)).far (by omega) 3 (Ii Jj k.inn)).far (by omega) 4 (Ii Jj k.out)).far (by omega) 5 (Ii Jj k.posted)).far (by omega) 6 (Ii Jj k.missed),(((((((G1).far h7 0 (Ii Jj k.day)).far h7 1 (Sl a1 m1 c1)).far h7 2 (Sl a2 m2 c2)).far h7 3 (Ii Jj k.inn)).far h7 4 (Ii Jj k.out)).far h7 5 (Ii Jj k.posted)).far h7 6 (Ii Jj k.missed),(((((((A1).put (q:=h) (by omega) 0 (Ii Jj k.day)).put (q:=h) (by omega) 1 (Sl a1 m1 c1)).put (q:=h) (by omega) 2 (Sl a2 m2 c2)).put (q:=h) (by omega) 3 (Ii Jj k.inn)).put (q:=h) (by omega) 4 (Ii Jj k.out)).put (q:=h) (by omega) 5 (Ii Jj k.posted)).put (q:=h) (by omega) 6 (Ii Jj k.missed),(((((((O1).put (q:=h) (by omega) 0 (Ii Jj k.day)).put (q:=h) (by omega) 1 (Sl a1 m1 c1)).put (q:=h) (by omega) 2 (Sl a2 m2 c2)).put (q:=h) (by omega) 3 (Ii Jj k.inn)).put (q:=h) (by omega) 4 (Ii Jj k.out)).put (q:=h) (by omega) 5 (Ii Jj k.posted)).put (q:=h) (by omega) 6 (Ii Jj k.missed)⟩
  have HW2:Hid (W2=_):=hW2
  have HRT:Hid (f8 s.data.toList k L O t.data.toList):=hR
  have y0:=X1.out.1.1 0 _ rfl
  have y1:=X1.out.1.1 1 _ rfl
  have y2:=X1.out.1.1 2 _ rfl
  have y3:=X1.out.1.1 3 _ rfl
  have y4:=X1.out.1.1 4 _ rfl
  have y5:=X1.out.1.1 5 _ rfl
  have y6:=X1.out.1.1 6 _ rfl
  have fz:=X1.out.1.2.1
  clear hW2 R1 G1 hR A1 O1
  go_upto_region 4 with fail
  rw[←HW2.out]
  clear HW2 X1 fz y0 y1 y2 y3 y4 y5 y6
  have tc:=X2.out.2.2.2.1.1
  by_cases ht:t.toList.isEmpty=true
  ·have FYES:Hid (∀W,Below h W2 W->AL W (h+3) (Sl a1 m1 c1) L->ag W (h+3) (Sl a2 m2 c2) O->dA w s (.returned (.tuple #[.agg (mX k (Sl a1 m1 c1) (Sl a2 m2 c2)).toArray,.bool true])) W):=fun W hb hA hO=>⟨by rw[HH.out];exact X2.out.2.2.1.trans hb,Or.inl ⟨k,L,O,_,_,by have:=HRT.out;rwa [show t.data.toList=[] by rw[Lib.toList_data] at ht;exact List.isEmpty_iff.1 ht] at this,rfl,AL.mono hA (by rw[HH.out];omega),ag.mono hO (by rw[HH.out];omega)⟩⟩
   clear FNO HRT
   have r0:=X2.out.1.1 0 _ rfl
   have r1:=X2.out.1.1 1 _ rfl
   have r2:=X2.out.1.1 2 _ rfl
   have r3:=X2.out.1.1 3 _ rfl
   have r4:=X2.out.1.1 4 _ rfl
   have r5:=X2.out.1.1 5 _ rfl
   have r6:=X2.out.1.1 6 _ rfl
   have fz:=X2.out.1.2.1
   have q0:=X2.out.2.1.1 0 _ rfl
   have fq:=X2.out.2.1.2.1
   have nh:¬h=h+1:=by omega
   obtain ⟨W9,hW9,X9⟩:∃W9,W9=((((((((W2).setCell ⟨h,0,none⟩ (Ii Jj k.day)).setCell ⟨h,1,none⟩ (Sl a1 m1 c1)).setCell ⟨h,2,none⟩ (Sl a2 m2 c2)).setCell ⟨h,3,none⟩ (Ii Jj k.inn)).setCell ⟨h,4,none⟩ (Ii Jj k.out)).setCell ⟨h,5,none⟩ (Ii Jj k.posted)).setCell ⟨h,6,none⟩ (Ii Jj k.missed)).setCell ⟨h+1,0,none⟩ (.bool true)/\Hid (ah W9 h (mX k (Sl a1 m1 c1) (Sl a2 m2 c2))/\ah W9 (h+1) [.bool true]/\Below h W2 W9/\AL W9 (h+3) (Sl a1 m1 c1) L/\ag W9 (h+3) (Sl a2 m2 c2) O):=⟨_,rfl,((((((((X2.out.1).set 0 (Ii Jj k.day)).set 1 (Sl a1 m1 c1)).set 2 (Sl a2 m2 c2)).set 3 (Ii Jj k.inn)).set 4 (Ii Jj k.out)).set 5 (Ii Jj k.posted)).set 6 (Ii Jj k.missed)).far (by omega) 0 (.bool true),((((((((X2.out.2.1).far (by omega) 0 (Ii Jj k.day)).far (by omega) 1 (Sl a1 m1 c1)).far (by omega) 2 (Sl a2 m2 c2)).far (by omega) 3 (Ii Jj k.inn)).far (by omega) 4 (Ii Jj k.out)).far (by omega) 5 (Ii Jj k.posted)).far (by omega) 6 (Ii Jj k.missed)).set 0 (.bool true),(((((((((Below.refl h W2)).setCell (p:=⟨h,0,none⟩) (Nf _) (Ii Jj k.day)).setCell (p:=⟨h,1,none⟩) (Nf _) (Sl a1 m1 c1)).setCell (p:=⟨h,2,none⟩) (Nf _) (Sl a2 m2 c2)).setCell (p:=⟨h,3,none⟩) (Nf _) (Ii Jj k.inn)).setCell (p:=⟨h,4,none⟩) (Nf _) (Ii Jj k.out)).setCell (p:=⟨h,5,none⟩) (Nf _) (Ii Jj k.posted)).setCell (p:=⟨h,6,none⟩) (Nf _) (Ii Jj k.missed)).setCell (p:=⟨h+1,0,none⟩) (by show h<=h+1;omega) (.bool true),((((((((X2.out.2.2.2.2.2.1).put (q:=h) (by omega) 0 (Ii Jj k.day)).put (q:=h) (by omega) 1 (Sl a1 m1 c1)).put (q:=h) (by omega) 2 (Sl a2 m2 c2)).put (q:=h) (by omega) 3 (Ii Jj k.inn)).put (q:=h) (by omega) 4 (Ii Jj k.out)).put (q:=h) (by omega) 5 (Ii Jj k.posted)).put (q:=h) (by omega) 6 (Ii Jj k.missed)).put (q:=h+1) (by omega) 0 (.bool true),((((((((X2.out.2.2.2.2.2.2).put (q:=h) (by omega) 0 (Ii Jj k.day)).put (q:=h) (by omega) 1 (Sl a1 m1 c1)).put (q:=h) (by omega) 2 (Sl a2 m2 c2)).put (q:=h) (by omega) 3 (Ii Jj k.inn)).put (q:=h) (by omega) 4 (Ii Jj k.out)).put (q:=h) (by omega) 5 (Ii Jj k.posted)).put (q:=h) (by omega) 6 (Ii Jj k.missed)).put (q:=h+1) (by omega) 0 (.bool true)⟩
   have HW9:Hid (W9=_):=hW9
   clear hW9
   go_wp2_with (go_at_call 58;refine (dY _ _).mono ?_;rintro e w3 ⟨rfl,hw3⟩;subst w3)
   rw[←HW9.out]
   clear HW9 fz q0 fq nh r0 r1 r2 r3 r4 r5 r6
   refine leaves_cons (f:=57) (args:=#[.pointer (some ⟨h,0,none⟩),.pointer (some ⟨h+1,0,none⟩)]) (by simp) (by simp[go_sem]) ?_
   refine (ne ⟨h,0,none⟩ ⟨h+1,0,none⟩ _).mono ?_
   rintro e u' w9 ⟨rfl,rfl,hw9⟩
   subst w9
   have FJ:Hid (dA w s (.returned (.tuple #[.agg (mX k (Sl a1 m1 c1) (Sl a2 m2 c2)).toArray,.bool true])) W9):=FYES.out W9 X9.out.2.2.1 X9.out.2.2.2.1 X9.out.2.2.2.2
   have r0:=X9.out.1.1 0 _ rfl
   have r1:=X9.out.1.1 1 _ rfl
   have r2:=X9.out.1.1 2 _ rfl
   have r3:=X9.out.1.1 3 _ rfl
   have r4:=X9.out.1.1 4 _ rfl
   have r5:=X9.out.1.1 5 _ rfl
   have r6:=X9.out.1.1 6 _ rfl
   have q0:=X9.out.2.1.1 0 _ rfl
   simp[Leaves,settle,results,Tryz.results26,go_sem,r0,r1,r2,r3,r4,r5,r6,q0]
   exact FJ.out
  ·have hto:t.toList.isEmpty=false:=by simpa using ht
   have FI:Hid (∀w9,Below h W2 w9->dA w s (.returned (.tuple #[.agg cQ.toArray,.bool false])) w9):=fun w9 hb=>FNO.out (fun k' L' O' hh=>by
    have:=HRT.out.same hh
    rw[Lib.toList_data,this] at hto
    simp at hto) W2 w9 X2.out.2.2.1 hb
   clear FNO HRT ht
   go_wp2_with (go_at_call 58;refine (dO _ _ X2.out.2.2.2.2.1).mono ?_;rintro e w3 ⟨⟨t9,p9,rfl⟩,rfl⟩)
   refine leaves_cons (f:=57) (args:=#[.pointer (some ⟨h,0,none⟩),.pointer (some ⟨h+1,0,none⟩)]) (by simp) (by simp[go_sem]) ?_
   refine (fj h (h+1) t9 p9 [] _ false _ X2.out.1 rfl X2.out.2.1 (by omega)).mono ?_
   rintro e u' w9 ⟨rfl,rfl,V9,Q9,B9⟩
   have FJ:Hid (dA w s (.returned (.tuple #[.agg cQ.toArray,.bool false])) w9):=FI.out w9 (B9 h (Nf _) (by omega) (by have:=X2.out.1.2.2;omega))
   have r0:=V9.1 0 _ rfl
   have r1:=V9.1 1 _ rfl
   have r2:=V9.1 2 _ rfl
   have r3:=V9.1 3 _ rfl
   have r4:=V9.1 4 _ rfl
   have r5:=V9.1 5 _ rfl
   have r6:=V9.1 6 _ rfl
   have q0:=Q9.1 0 _ rfl
   clear V9 Q9 B9
   simp[Leaves,settle,results,Tryz.results26,go_sem,r0,r1,r2,r3,r4,r5,r6,q0]
   exact FJ.out
 ·have FI:Hid (∀w9,Below h w1 w9->dA w s (.returned (.tuple #[.agg cQ.toArray,.bool false])) w9):=fun w9 hb=>FNO.out (fun k L O=>hR k L O []) w1 w9 X1.out.2.2 hb
  clear FNO hR
  refine leaves_cons (f:=57) (args:=#[.pointer (some ⟨h,0,none⟩),.pointer (some ⟨h+1,0,none⟩)]) (by simp) (by simp[go_sem]) ?_
  refine (fj h (h+1) t9 p9 [] _ false _ X1.out.1 rfl X1.out.2.1 (by omega)).mono ?_
  rintro e u' w9 ⟨rfl,rfl,V9,Q9,B9⟩
  have FJ:Hid (dA w s (.returned (.tuple #[.agg cQ.toArray,.bool false])) w9):=FI.out w9 (B9 h (Nf _) (by omega) (by have:=X1.out.1.2.2;omega))
  have r0:=V9.1 0 _ rfl
  have r1:=V9.1 1 _ rfl
  have r2:=V9.1 2 _ rfl
  have r3:=V9.1 3 _ rfl
  have r4:=V9.1 4 _ rfl
  have r5:=V9.1 5 _ rfl
  have r6:=V9.1 6 _ rfl
  have q0:=Q9.1 0 _ rfl
  clear V9 Q9 B9
  simp[Leaves,settle,results,Tryz.results26,go_sem,r0,r1,r2,r3,r4,r5,r6,q0]
  exact FJ.out
end
section
open Nat renaming le_refl → Nf
open Go.RowKit Go.Shelf
set_option maxRecDepth 8000
set_option maxHeartbeats 4000000 in
theorem kh (s:ByteArray) (hs:s.size<=1048576) (w:World) (g:ba w):Calls Tryz.prog 7 #[.string s] w fun e w'=>dA w s e w':=by
 obtain ⟨h,hh⟩:∃h,w.heap.size=h:=⟨_,rfl⟩
 have HH:Hid (w.heap.size=h):=hh
 obtain ⟨W0,hW0,X0⟩:∃W0,W0=w.alloc (.cells cQ.toArray 27)/\Hid (ah W0 h cQ/\Below h w W0/\ba W0/\W0.heap.size=h+1):=by
  have bb:Below w.heap.size w (w.alloc (.cells cQ.toArray 27)):=(Below.refl _ _).alloc (Nf _) _
  exact ⟨_,rfl,by rw[←hh];exact ah.new _ _ _,by rw[←hh];exact bb,g.below bb,by simp[hh]⟩
 have HW0:Hid (W0=w.alloc (.cells #[.int .i64 0,.slice none 0 0,.slice none 0 0,.int .i64 0,.int .i64 0,.int .i64 0,.int .i64 0] 27)):=hW0
 clear hW0 g
 go_enter Tryz.func7,Tryz.ntmps7
 go_wp2_with fail
 rw[←HW0.out]
 clear HW0 hh
 refine (tN s hs W0 X0.out.2.2.1).mono ?_
 rintro e w1 ⟨B1,hor⟩
 rw[X0.out.2.2.2] at hor
 have X1:Hid (ah w1 h cQ/\Below h w w1):=⟨X0.out.1.kept B1 X0.out.1.2.2,X0.out.2.1.trans (B1.mono (by have:=X0.out.1.2.2;omega))⟩
 clear B1 X0
 obtain ⟨k,a1,m1,c1,a2,m2,c2,b,rfl,HF⟩:∃(k:Bk) (a1:Option Addr) (m1 c1:Nat) (a2:Option Addr) (m2 c2:Nat) (b:Bool),e=.returned (.tuple #[.agg (mX k (.slice a1 m1 c1) (.slice a2 m2 c2)).toArray,.bool b])/\Hid (dA w s e ((((((((w1).setCell ⟨h,0,none⟩ (.int .i64 k.day)).setCell ⟨h,1,none⟩ (.slice a1 m1 c1)).setCell ⟨h,2,none⟩ (.slice a2 m2 c2)).setCell ⟨h,3,none⟩ (.int .i64 k.inn)).setCell ⟨h,4,none⟩ (.int .i64 k.out)).setCell ⟨h,5,none⟩ (.int .i64 k.posted)).setCell ⟨h,6,none⟩ (.int .i64 k.missed))):=by
  rcases hor with ⟨k,L,O,v,u,hr,rfl,A1,O1⟩|⟨hr,rfl⟩
  ·obtain ⟨a1,c1,hv⟩:=A1.len
   obtain ⟨a2,c2,hu,_⟩:=O1.shape
   subst hv
   subst hu
   exact ⟨k,a1,L.length,c1,a2,O.length,c2,true,rfl,by rw[HH.out];exact (((((((X1.out.2).setCell (p:=⟨h,0,none⟩) (Nf _) _).setCell (p:=⟨h,1,none⟩) (Nf _) _).setCell (p:=⟨h,2,none⟩) (Nf _) _).setCell (p:=⟨h,3,none⟩) (Nf _) _).setCell (p:=⟨h,4,none⟩) (Nf _) _).setCell (p:=⟨h,5,none⟩) (Nf _) _).setCell (p:=⟨h,6,none⟩) (Nf _) _,Or.inl ⟨k,L,O,_,_,hr,rfl,AL.mono ((((((((A1).put (q:=h) (by omega) 0 _).put (q:=h) (by omega) 1 _).put (q:=h) (by omega) 2 _).put (q:=h) (by omega) 3 _).put (q:=h) (by omega) 4 _).put (q:=h) (by omega) 5 _).put (q:=h) (by omega) 6 _) (by rw[HH.out];omega),ag.mono ((((((((O1).put (q:=h) (by omega) 0 _).put (q:=h) (by omega) 1 _).put (q:=h) (by omega) 2 _).put (q:=h) (by omega) 3 _).put (q:=h) (by omega) 4 _).put (q:=h) (by omega) 5 _).put (q:=h) (by omega) 6 _) (by rw[HH.out];omega)⟩⟩
  ·exact ⟨⟨0,0,0,0,0⟩,none,0,0,none,0,0,false,rfl,by rw[HH.out];exact (((((((X1.out.2).setCell (p:=⟨h,0,none⟩) (Nf _) _).setCell (p:=⟨h,1,none⟩) (Nf _) _).setCell (p:=⟨h,2,none⟩) (Nf _) _).setCell (p:=⟨h,3,none⟩) (Nf _) _).setCell (p:=⟨h,4,none⟩) (Nf _) _).setCell (p:=⟨h,5,none⟩) (Nf _) _).setCell (p:=⟨h,6,none⟩) (Nf _) _,Or.inr ⟨hr,rfl⟩⟩
 clear hor
 have r0:=X1.out.1.1 0 _ rfl
 have r1:=X1.out.1.1 1 _ rfl
 have r2:=X1.out.1.1 2 _ rfl
 have r3:=X1.out.1.1 3 _ rfl
 have r4:=X1.out.1.1 4 _ rfl
 have r5:=X1.out.1.1 5 _ rfl
 have r6:=X1.out.1.1 6 _ rfl
 have fz:=X1.out.1.2.1
 simp only[mX]
 simp only[mX] at HF
 go_wp2
 refine bodyPost_ret (v:=.tuple #[.agg (mX k (.slice a1 m1 c1) (.slice a2 m2 c2)).toArray,.bool b]) (by simp[results,Tryz.results7,go_sem,mX,r0,r1,r2,r3,r4,r5,r6]) rfl ?_
 exact HF.out
end
end Go.Proofs.YtjhgchlfpolkcaaGreatDoor
