/- A ledger's payments. -/
import Derived.Test.YtghkbhggopiajaaGreatDoorLets2r
import Derived.Test.YtghkbhggopiajaaGreatDoorMthsr
import Derived.StillTailTactics
namespace Go.Proofs.YtghkbhggopiajaaGreatDoor
open Value renaming int → Ii,slice → Sl
open IntKind renaming i64 → Jj
open Nat renaming le_refl → Nf
open Go.RowKit.Below renaming refl → Bf
open Go.Proofs.Tryz renaming prog → Pg
set_option maxHeartbeats 4000000
open Go.RowKit
set_option maxRecDepth 8000
theorem eL.cong {F F':Nat->aj} {n:Nat} (h:eL F n) (e:∀i,i<n->(F' i).id=(F i).id):eL F' n:=fun i j hij hj=>by rw[e i (by omega),e j hj];exact h i j hij hj
structure bS (v w:World) (n:Nat) (G:Nat->Nat):Prop where
 os:w.os=v.os
 tape:w.tape=v.tape
 output:w.output=v.output
 size:v.heap.size<=w.heap.size
 block:∀j,j<v.heap.size->(∀i,i<n->G i≠j)->w.heap[j]? =v.heap[j]?
theorem bS.refl (v:World) (n:Nat) (G:Nat->Nat):bS v v n G:=⟨rfl,rfl,rfl,Nf _,fun _ _ _=>rfl⟩
theorem bS.step {v w w':World} {n k:Nat} {G:Nat->Nat} (h:bS v w n G) (hk:k<n) (hg:w.grownBy w' (some (G k))):bS v w' n G:=
 ⟨hg.os.trans h.os,hg.tape.trans h.tape,hg.output.trans h.output,Nat.le_trans h.size hg.size,fun j hj hn=>(hg.block j (Nat.lt_of_lt_of_le hj h.size) (by simp;exact fun e=>hn k hk e.symm)).trans (h.block j hj hn)⟩
theorem bS.below {v w w':World} {n:Nat} {G:Nat->Nat} (h:bS v w n G) (hb:Below w.heap.size w w'):bS v w' n G:=
 ⟨hb.os.trans h.os,hb.tape.trans h.tape,hb.output.trans h.output,Nat.le_trans h.size hb.size,fun j hj hn=>(hb.block j (Nat.lt_of_lt_of_le hj h.size)).trans (h.block j hj hn)⟩
theorem bS.trans {u v w:World} {n:Nat} {G:Nat->Nat} (h:bS u v n G) (k:bS v w n G):bS u w n G:=
 ⟨k.os.trans h.os,k.tape.trans h.tape,k.output.trans h.output,Nat.le_trans h.size k.size,fun j hj hn=>(k.block j (Nat.lt_of_lt_of_le hj h.size) hn).trans (h.block j hj hn)⟩
theorem bS.to_below {v w:World} {n B:Nat} {G:Nat->Nat} (h:bS v w n G) (hB:B<=v.heap.size) (hG:∀i,i<n->B<=G i):Below B v w:=
 ⟨h.os,h.tape,h.output,h.size,fun j hj=>h.block j (by omega) (fun i hi e=>by have:=hG i hi;omega)⟩
theorem bS.cell {v w:World} {n:Nat} {G:Nat->Nat} (h:bS v w n G) {q:Nat} (hq:q<v.heap.size) (hn:∀i,i<n->G i≠q) (o:Nat):w.cell? ⟨q,o,none⟩=v.cell? ⟨q,o,none⟩:=by
 unfold World.cell?
 simp only[h.block q hq hn]
noncomputable def ce (L:List aj) (i t m:Int):List aj:=(am L 7 i t m 0).2
theorem dM {L:List aj} (hR:al (FL L) L.length) (i t m:Int):(ce L i t m).length=L.length/\(∀z,z<L.length->(FL (ce L i t m) z).id=(FL L z).id)/\al (FL (ce L i t m)) (ce L i t m).length:=by
 unfold ce
 by_cases h0:(am L 7 i t m 0).1=0
 ·have h:am L 7 i t m 0=(0,(am L 7 i t m 0).2):=Prod.ext h0 rfl
  obtain ⟨ho,hp,hr⟩:=oU h
  have hm:=qx hR ho (vz ho hp)
  exact ⟨hm.1,fun z hz=>(hm.2 z hz).1,hr⟩
 ·rw[nZ h0];exact ⟨rfl,fun _ _=>rfl,hR⟩
theorem pL (i t m:Int) (w:World):Calls Pg 116 #[Ii Jj i,Ii Jj t,Ii Jj m] w fun e w'=>e=.returned (.agg #[Ii Jj 7,Ii Jj i,Ii Jj t,Ii Jj m,Ii Jj 0])/\Below w.heap.size w w':=by
 go_enter Tryz.func116,Tryz.ntmps116
 go_wp2
 exact bodyPost_ret (v:=.agg #[Ii Jj 7,Ii Jj i,Ii Jj t,Ii Jj m,Ii Jj 0]) (by simp[results,Tryz.results116,go_sem]) rfl ⟨rfl,by first|exact Bf _ _|exact (Bf _ _).alloc (Nf _) _|exact ((Bf _ _).alloc (Nf _) _).alloc (by simp) _⟩
def qM (F F':Nat->aj) (k:Nat):Nat->aj:=fun i=>if i<k then F' i else F i
theorem rP (F F':Nat->aj):qM F F' 0=F:=by funext i;simp[qM]
theorem lM (F F':Nat->aj) (k:Nat):qM F F' k k=F k:=by simp[qM]
theorem rQ (F F':Nat->aj) (k:Nat):qM F F' (k+1)=fun i=>if i=k then F' k else qM F F' k i:=by
 funext i
 unfold qM
 by_cases h:i=k
 ·subst h;simp
 ·by_cases h':i<k
  ·rw[if_pos (by omega),if_neg h,if_pos h']
  ·rw[if_neg (by omega),if_neg h,if_neg h']
theorem sC (B b:Nat) (L:List aj) (G:Nat->Nat) (i t m:Int) (p:Nat->Addr) (w:World) (hR:al (FL L) L.length) (hL:gC w B b L.length (FL L) G) (hG:GE w p):
  Calls Pg 106 #[.map (some b),Ii Jj i,Ii Jj t,Ii Jj m] w fun e w'=>e=.returned (.tuple #[])/\gC w' B b L.length (FL (ce L i t m)) G/\bS w w' L.length G:=by
 have H:=aa hL
 have HR:=aa hR
 have HG:=aa hG
 have hn:=hR.1
 have HF:=dM hR i t m
 have HPL:Hid ((ce L i t m).length=L.length):=HF.1
 have HPI:Hid (∀z,z<L.length->(FL (ce L i t m) z).id=(FL L z).id):=HF.2.1
 have HD:Hid (cC L 7 i t m 0=((am L 7 i t m 0).1,ce L i t m)):=(by unfold cC;rw[if_pos hR];rfl:cC L 7 i t m 0=((am L 7 i t m 0).1,ce L i t m))
 have HGl:Hid (∀j,j<L.length->G j<w.heap.size):=fun j hj=>(hL.acc j hj).2.2.2.2
 clear hL hR hG HF
 go_enter Tryz.func106,Tryz.ntmps106
 go_wp2_with fail
 refine (ij B b L.length (FL L) G _ HR.out.rises hn HR.out.idwf H.out).mono ?_
 rintro e w1 ⟨v1,rfl,A1,B1⟩
 rw[show ex (FL L) L.length=L from qR L] at A1
 obtain ⟨a1,c1,hv⟩:=A1.len
 subst hv
 have F1:Hid (Fo w1 a1 L.length (FL L)):=(A1.fo (by omega)).2
 have BB1:=aa B1
 clear A1 B1
 go_wp2_with fail
 refine (pL i t m _).mono ?_
 rintro e w2 ⟨rfl,B2⟩
 have F2:=aa (F1.out.below B2)
 have BB2:=aa (BB1.out.trans (B2.mono BB1.out.size))
 clear F1 BB1 B2
 go_wp2_with fail
 refine (fO a1 c1 L 7 i t m 0 p _ F2.out (HG.out.below BB2.out)).mono ?_
 rintro e w3 ⟨v3,rfl,A3,B3⟩
 rw[HD.out] at A3 ⊢
 simp only at A3 ⊢
 obtain ⟨a3,c3,hv⟩:=A3.len
 have hs3:=BB2.out.size
 have sh:∀j,j<L.length->∃g,a3=some ⟨g,0,none⟩/\w2.heap.size<=g/\g<w3.heap.size/\dS w3 g (j*8) (FL (ce L i t m) j):=fun j hj=>by
  obtain ⟨a',c',hv',_,hs⟩:=A3.shape
  rw[hv] at hv'
  have ea:a3=a':=by simpa using congrArg (fun v=>match v with| Sl a _ _=>a|_=>none) hv'
  obtain ⟨g,e1,e2,e3,e4⟩:=hs j (by rw[HPL.out];exact hj)
  exact ⟨g,ea.trans e1,e2,e3,by rw[dC (by rw[HPL.out];exact hj)];exact e4⟩
 subst hv
 rw[HPL.out]
 have SH:=aa sh
 have BB3:=aa (BB2.out.trans (B3.mono BB2.out.size))
 have HL3:=aa (H.out.below BB3.out (Nf _))
 clear A3 B3 sh F2 BB2 HD
 generalize (am L 7 i t m 0).1=code at*
 generalize hPP:ce L i t m=P at*
 have HPP:=aa hPP
 clear hPP
 go_wp2
 go_loopw[24] (fun q wr=>∃k:Nat,k<=L.length/\q=Ii Jj k/\Hid (gC wr B b L.length (qM (FL L) (FL P) k) G)/\Hid (bS w3 wr L.length G)) (fun q _=>L.length-(eH q).toNat)
 case atStart=>exact ⟨0,Nat.zero_le _,rfl,by rw[rP];exact HL3,bS.refl _ _ _⟩
 case round=>
  obtain ⟨k,hk,rfl,hL,hK⟩:=hrel
  by_cases hlt:k<L.length
  ·obtain ⟨g,rfl,hg1,hg2,hA⟩:=SH.out k hlt
   have hne:∀j,j<L.length->G j≠g:=fun j hj e=>by have:=HGl.out j hj;omega
   obtain ⟨c0,c1,c2,c3',c4,c5,c6,c7⟩:dS wr g (k*8) (FL P k):=hA.of_cells (fun o=>hK.out.cell hg2 hne o)
   have hid:=HPI.out k hlt
   have hgl:g<wr.heap.size:=Nat.lt_of_lt_of_le hg2 hK.out.size
   obtain ⟨W,hW⟩:∃W,W=wr.alloc (.cells #[Ii Jj (FL P k).id,Ii Jj (FL P k).up,Ii Jj (FL P k).limit,Ii Jj (FL P k).rate,Ii Jj (FL P k).target,.bool (FL P k).frozen,Ii Jj (FL P k).balance,Ii Jj (FL P k).carry] 30):=⟨_,rfl⟩
   have hBW:Below wr.heap.size wr W:=by rw[hW];exact (Bf _ _).alloc (Nf _) _
   have hXW:Hid (bV W wr.heap.size (FL P k)):=by rw[hW];exact bV.new wr (FL P k) 30
   have hLW:gC W B b L.length (qM (FL L) (FL P) k) G:=hL.out.below hBW (Nf _)
   have hlook:=hLW.look (HR.out.rises.cong (fun j hj=>by unfold qM;split;exact HPI.out j hj;rfl)) hlt (by rw[lM];exact HR.out.idwf k hlt)
   rw[lM,←hid] at hlook
   have hGX:Hid (bV W (G k) (FL L k)):=by have:=(hLW.acc k hlt).2.2;rw[lM] at this;exact this
   obtain ⟨V,hV,hBV,hGV⟩:∃V,Hid (V=dT W (G k) 0 (FL P k))/\Hid (bV V (G k) (FL P k))/\Hid (wr.grownBy V (some (G k))):=⟨_,rfl,hGX.out.set _,jA hBW (G k) _⟩
   have hLV:Hid (gC V B b L.length (qM (FL L) (FL P) (k+1)) G):=by
    rw[rQ]
    exact hL.out.upd hlt hGV.out hBV.out (by rw[lM];exact hid)
   have hKV:Hid (bS w3 V L.length G):=hK.out.step hlt hGV.out
   clear hBW hLW hid hne hA hg1 hg2
   go_upto_region 4 with fail
   rw[←hW]
   clear hW c0 c1 c2 c3' c4 c5 c6 c7
   obtain ⟨n0,n1,n2,n3,n4,n5,n6,n7⟩:=hXW.out.1
   obtain ⟨c0,c1,c2,c3',c4,c5,c6,c7⟩:=hGX.out.1
   have hf:=hGX.out.2.1
   have hgG:=hGX.out.2.2
   have hgN:=hXW.out.2.2
   go_wp2
   have hV:=hV.out
   simp only[dT,Nat.zero_add] at hV
   rw[←hV]
   go_roundw
   case rel=>exact ⟨k+1,by omega,by go_num,hLV,hKV⟩
   case measure=>simp[eH];omega
  ·obtain rfl:k=L.length:=by omega
   have hLE:Hid (gC wr B b L.length (FL P) G):=hL.out.congr (fun i hi=>by simp[qM,hi])
   have hKE:=aa (bS.trans ((bS.refl _ _ _).below BB3.out) hK.out)
   go_wp2
   refine bodyPost_end (results_none rfl _ _ _) rfl ?_
   exact ⟨rfl,by rw[HPP.out];exact hLE.out,hKE.out⟩
open Go.RowKit
set_option maxRecDepth 8000
noncomputable def iE (L:List aj) (k:Nat):List aj:=
 if (FL L k).target<0\/(FL L k).balance=(FL L k).target then L
 else if (FL L k).target<(FL L k).balance then ce L (FL L k).id (FL L k).up ((FL L k).balance-(FL L k).target)
 else ce L (FL L k).up (FL L k).id ((FL L k).target-(FL L k).balance)
noncomputable def cx (L:List aj):Nat->List aj
 | 0=>L
 | k+1=>iE (cx L k) k
theorem qy {L:List aj} (hR:al (FL L) L.length) (k:Nat):(iE L k).length=L.length/\(∀z,z<L.length->(FL (iE L k) z).id=(FL L z).id)/\al (FL (iE L k)) (iE L k).length:=by
 unfold iE
 split
 ·exact ⟨rfl,fun _ _=>rfl,hR⟩
 ·split
  ·exact dM hR _ _ _
  ·exact dM hR _ _ _
theorem eQ {L:List aj} (hR:al (FL L) L.length):∀k,(cx L k).length=L.length/\(∀z,z<L.length->(FL (cx L k) z).id=(FL L z).id)/\al (FL (cx L k)) (cx L k).length
 | 0=>⟨rfl,fun _ _=>rfl,hR⟩
 | k+1=>by
  obtain ⟨h1,h2,h3⟩:=eQ hR k
  obtain ⟨g1,g2,g3⟩:=qy h3 k
  exact ⟨g1.trans h1,fun z hz=>(g2 z (by rw[h1];exact hz)).trans (h2 z hz),g3⟩
theorem qA (B b:Nat) (L:List aj) (G:Nat->Nat) (k:Nat) (p:Nat->Addr) (w:World) (hk:k<L.length) (hR:al (FL L) L.length) (hL:gC w B b L.length (FL L) G) (hG:GE w p):
  Calls Pg 58 #[.map (some b),.pointer (some ⟨G k,0,none⟩)] w fun e w'=>e=.returned (.tuple #[])/\gC w' B b L.length (FL (iE L k)) G/\bS w w' L.length G:=by
 have H:=aa hL
 have HR:=aa hR
 have HG:=aa hG
 have hO:=hR.2.1 k hk
 obtain ⟨_,_,_,_,⟨t1,t2⟩,⟨b1,b2⟩,_⟩:=hO
 have hX:=(hL.acc k hk).2.2
 obtain ⟨c0,c1,c2,c3,c4,c5,c6,c7⟩:=hX.1
 have hgG:=hX.2.2
 have hsw:Hid (iE L k=if (FL L k).target<0\/(FL L k).balance=(FL L k).target then L else if (FL L k).target<(FL L k).balance then ce L (FL L k).id (FL L k).up ((FL L k).balance-(FL L k).target) else ce L (FL L k).up (FL L k).id ((FL L k).target-(FL L k).balance)):=rfl
 clear hL hR hG hX c2 c3 c5 c7
 generalize hA:FL L k=A at*
 have HK0:Hid (bS w w L.length G):=bS.refl _ _ _
 have PAY:Hid (∀i t m (W:World),Below w.heap.size w W->Calls Pg 106 #[.map (some b),Ii Jj i,Ii Jj t,Ii Jj m] W fun e w'=>e=.returned (.tuple #[])/\gC w' B b L.length (FL (ce L i t m)) G/\bS w w' L.length G):=fun i t m W hW=>
  (sC B b L G i t m p _ HR.out (H.out.below hW (Nf _)) (HG.out.below hW)).mono fun e w' ⟨h1,h2,h3⟩=>⟨h1,h2,bS.trans ((bS.refl _ _ _).below hW) h3⟩
 go_enter Tryz.func58,Tryz.ntmps58
 by_cases ht:A.target= -1
 ·have e1:(A.target == -1)=true:=by simp[ht]
  have HS:Hid (iE L k=L):=(by rw[hsw.out,if_pos (Or.inl (by omega))]:iE L k=L)
  clear ht hsw
  go_wp2
  refine bodyPost_ret (results_none rfl _ _ _) rfl ?_
  exact ⟨rfl,by rw[HS.out];exact H.out,HK0.out⟩
 ·have e1:(A.target == -1)=false:=by simp[ht]
  by_cases hb:A.target<A.balance
  ·have e2:decide (A.target<A.balance)=true:=by simp[hb]
   have HS:Hid (iE L k=ce L A.id A.up (A.balance-A.target)):=(by rw[hsw.out,if_neg (by omega),if_pos hb]:iE L k=ce L A.id A.up (A.balance-A.target))
   clear ht hsw
   go_wp2_with fail
   go_quiet (fail)
   go_upto_region 2 with fail
   obtain ⟨W,hW⟩:∃W,W=w.drewN nq:=⟨_,rfl⟩
   have BW:Below w.heap.size w W:=by rw[hW];exact below_drewN (Bf _ _) _
   have BD:Hid (Below w.heap.size w W.drew):=⟨BW.os,BW.tape,BW.output,BW.size,BW.block⟩
   have d0:W.cell? ⟨G k,0,none⟩=some (Ii Jj A.id):=(BW.cell (p:=⟨G k,0,none⟩) hgG).trans c0
   have d1:W.cell? ⟨G k,1,none⟩=some (Ii Jj A.up):=(BW.cell (p:=⟨G k,1,none⟩) hgG).trans c1
   have d4:W.cell? ⟨G k,4,none⟩=some (Ii Jj A.target):=(BW.cell (p:=⟨G k,4,none⟩) hgG).trans c4
   have d6:W.cell? ⟨G k,6,none⟩=some (Ii Jj A.balance):=(BW.cell (p:=⟨G k,6,none⟩) hgG).trans c6
   have hgW:G k<W.heap.size:=Nat.lt_of_lt_of_le hgG BW.size
   rw[←hW]
   clear hW c0 c1 c4 c6 BW hgG
   have hw:IntKind.i64.wrap (A.balance-A.target)=A.balance-A.target:=by rw[IntKind.wrap_i64];omega
   refine wp_region_still_tail 18 (by kernel_rfl) (by kernel_rfl) ?_
   simp only[List.take_succ_cons,List.take_zero,List.drop_succ_cons,List.drop_zero]
   repeat still_step
   refine wpStill_nil ?_
   go_wp2_with (go_at_call 106;refine (PAY.out A.id A.up (A.balance-A.target) W.drew BD.out).mono ?_;rintro e w' ⟨rfl,L1,K1⟩)
   rw[←HS.out] at L1
   refine bodyPost_end (results_none rfl _ _ _) rfl ?_
   exact ⟨rfl,L1,K1⟩
  ·have e2:decide (A.target<A.balance)=false:=by simp[hb]
   by_cases hb2:A.balance<A.target
   ·have e3:decide (A.balance<A.target)=true:=by simp[hb2]
    have HS:Hid (iE L k=ce L A.up A.id (A.target-A.balance)):=(by rw[hsw.out,if_neg (by omega),if_neg hb]:iE L k=ce L A.up A.id (A.target-A.balance))
    clear ht hsw
    go_wp2_with fail
    go_quiet (fail)
    generalize nq=q1
    go_wp2_with fail
    go_quiet (fail)
    go_upto_region 4 with fail
    obtain ⟨W,hW⟩:∃W,W=(w.drewN q1).drewN nq:=⟨_,rfl⟩
    have BW:Below w.heap.size w W:=by rw[hW];exact below_drewN (below_drewN (Bf _ _) _) _
    have BD:Hid (Below w.heap.size w W.drew):=⟨BW.os,BW.tape,BW.output,BW.size,BW.block⟩
    have d0:W.cell? ⟨G k,0,none⟩=some (Ii Jj A.id):=(BW.cell (p:=⟨G k,0,none⟩) hgG).trans c0
    have d1:W.cell? ⟨G k,1,none⟩=some (Ii Jj A.up):=(BW.cell (p:=⟨G k,1,none⟩) hgG).trans c1
    have d4:W.cell? ⟨G k,4,none⟩=some (Ii Jj A.target):=(BW.cell (p:=⟨G k,4,none⟩) hgG).trans c4
    have d6:W.cell? ⟨G k,6,none⟩=some (Ii Jj A.balance):=(BW.cell (p:=⟨G k,6,none⟩) hgG).trans c6
    have hgW:G k<W.heap.size:=Nat.lt_of_lt_of_le hgG BW.size
    rw[←hW]
    clear hW c0 c1 c4 c6 BW hgG
    have hw:IntKind.i64.wrap (A.target-A.balance)=A.target-A.balance:=by rw[IntKind.wrap_i64];omega
    refine wp_region_still_tail 18 (by kernel_rfl) (by kernel_rfl) ?_
    simp only[List.take_succ_cons,List.take_zero,List.drop_succ_cons,List.drop_zero]
    repeat still_step
    refine wpStill_nil ?_
    go_wp2_with (go_at_call 106;refine (PAY.out A.up A.id (A.target-A.balance) W.drew BD.out).mono ?_;rintro e w' ⟨rfl,L1,K1⟩)
    rw[←HS.out] at L1
    refine bodyPost_end (results_none rfl _ _ _) rfl ?_
    exact ⟨rfl,L1,K1⟩
   ·have e3:decide (A.balance<A.target)=false:=by simp[hb2]
    have HS:Hid (iE L k=L):=(by rw[hsw.out,if_pos (Or.inr (by omega))]:iE L k=L)
    clear ht hsw
    go_wp2_with fail
    go_quiet (fail)
    go_wp2_with fail
    go_quiet (fail)
    go_wp2
    refine bodyPost_end (results_none rfl _ _ _) rfl ?_
    exact ⟨rfl,by rw[HS.out];exact H.out.below (show Below w.heap.size w _ from ⟨rfl,rfl,rfl,Nf _,fun _ _=>rfl⟩) (Nf _),(bS.refl _ _ _).below ⟨rfl,rfl,rfl,Nf _,fun _ _=>rfl⟩⟩
open Go.RowKit
set_option maxRecDepth 8000
theorem oV (a:Option Addr) (c:Nat) (L:List aj) (w:World) (h:Fo w a L.length (FL L)) (hR:al (FL L) L.length):
  Calls Pg 60 #[Sl a L.length c] w fun e w'=>∃v,e=.returned v/\AL w' w.heap.size v (cx L L.length)/\Below w.heap.size w w':=by
 have H:=aa h
 have HR:=aa hR
 have hn:=hR.1
 clear h hR
 go_enter Tryz.func60,Tryz.ntmps60
 go_wp2_with (go_at_call 107;refine (dU a L.length c L w rfl H.out).mono ?_;rintro e w1 ⟨v1,rfl,A1,B1⟩)
 have HA1:=aa A1
 have HB1:=aa B1
 clear A1 B1
 go_loopw[4,3] (fun q v wr=>∃k:Nat,k<=L.length/\q=Ii Jj k/\Hid (AL wr w.heap.size v (cx L k))/\Hid (Below w.heap.size w wr)) (fun q _ _=>L.length-(eH q).toNat)
 case atStart=>exact ⟨0,Nat.zero_le _,rfl,HA1,HB1⟩
 case round=>
  obtain ⟨k,hk,rfl,hA,hB⟩:=hrel
  by_cases hlt:k<L.length
  ·obtain ⟨f1,f2,f3⟩:=eQ HR.out k
   have HR2:=aa f3
   have HL2:=aa f1
   obtain ⟨va,vc,hv⟩:=hA.out.len
   obtain ⟨va',vc',hv',_,sh⟩:=hA.out.shape
   obtain ⟨g,e1,e2,e3,e4⟩:=sh k (by rw[f1];exact hlt)
   rw[hv] at hv'
   have ea:va=va':=by simpa using congrArg (fun v=>match v with| Sl a _ _=>a|_=>none) hv'
   rw[←ea] at e1
   subst hv e1
   rw[←dC (by rw[f1];exact hlt)] at e4
   have hO:=f3.2.1 k (by rw[f1];exact hlt)
   obtain ⟨_,_,_,_,⟨t1,t2⟩,⟨b1,b2⟩,_⟩:=hO
   have HF2:Hid (Fo wr (some ⟨g,0,none⟩) (cx L k).length (FL (cx L k))):=(hA.out.fo (by rw[f1];omega)).2
   have hstep:Hid (cx L (k+1)=iE (cx L k) k):=rfl
   have hlen0:=f1
   rw[f1]
   clear f1 f2 f3 sh ea hv'
   generalize hM:cx L k=M at*
   have hsw:Hid (iE M k=if (FL M k).target<0\/(FL M k).balance=(FL M k).target then M else if (FL M k).target<(FL M k).balance then ce M (FL M k).id (FL M k).up ((FL M k).balance-(FL M k).target) else ce M (FL M k).up (FL M k).id ((FL M k).target-(FL M k).balance)):=rfl
   generalize hAA:FL M k=A at*
   obtain ⟨c0,c1,c2,c3,c4,c5,c6,c7⟩:=e4
   have DONE:Hid (∀i t m (W:World),Below w.heap.size w W->Below wr.heap.size wr W->Calls Pg 108 #[Sl (some ⟨g,0,none⟩) L.length vc,.agg #[Ii Jj 7,Ii Jj i,Ii Jj t,Ii Jj m,Ii Jj 0]] W fun e w'=>∃v c,e=.returned (.tuple #[v,Ii Jj c])/\AL w' w.heap.size v (ce M i t m)/\Below w.heap.size w w'):=fun i t m W h1 h2=>by
    have h3:=eY (some ⟨g,0,none⟩) vc M 7 i t m 0 W (HF2.out.below h2) HR2.out
    rw[HL2.out] at h3
    exact h3.mono fun e w' ⟨v,he,hA',hB'⟩=>⟨v,_,he,hA'.mono h1.size,h1.trans (hB'.mono h1.size)⟩
   clear hAA hM hlen0
   by_cases ht:A.target<0
   ·have q1:decide (A.target<0)=true:=by simp[ht]
    have HS:Hid (iE M k=M):=(by rw[hsw.out,if_pos (Or.inl ht)]:iE M k=M)
    clear hsw
    go_wp2
    go_roundw
    case rel=>exact ⟨k+1,by omega,by go_num,by rw[hstep.out,HS.out];exact (show AL wr w.heap.size _ M by rw[HL2.out] at hA;exact hA.out).kept ((Bf _ _).alloc (Nf _) _),hB.out.alloc hB.out.size _⟩
    case measure=>simp[eH];omega
   ·have q1:decide (A.target<0)=false:=by simp[ht]
    by_cases hq:A.balance=A.target
    ·have q2:(A.balance == A.target)=true:=by simp[hq]
     have HS:Hid (iE M k=M):=(by rw[hsw.out,if_pos (Or.inr hq)]:iE M k=M)
     clear hsw hq
     go_wp2
     go_roundw
     case rel=>exact ⟨k+1,by omega,by go_num,by rw[hstep.out,HS.out];exact (show AL wr w.heap.size _ M by rw[HL2.out] at hA;exact hA.out).kept ((Bf _ _).alloc (Nf _) _),hB.out.alloc hB.out.size _⟩
     case measure=>simp[eH];omega
    ·have q2:(A.balance == A.target)=false:=by simp[hq]
     by_cases hb:A.target<A.balance
     ·have q3:decide (A.balance-A.target<0)=false:=by simp;omega
      have HS:Hid (iE M k=ce M A.id A.up (A.balance-A.target)):=(by rw[hsw.out,if_neg (by omega),if_pos hb]:iE M k=ce M A.id A.up (A.balance-A.target))
      clear hsw hq
      go_wp2_with fail
      refine (DONE.out _ _ _ _ ((hB.out.alloc hB.out.size _).alloc (Nat.le_trans hB.out.size (by simp)) _) (((Bf _ _).alloc (Nf _) _).alloc (by simp) _)).mono ?_
      rintro e w2 ⟨v2,cc,rfl,A2,B2⟩
      have A2':Hid (AL w2 w.heap.size v2 (cx L (k+1))):=by rw[hstep.out,HS.out];exact A2
      have B2':=aa B2
      clear A2 B2 c0 c1 c2 c3 c4 c5 c6 c7
      go_wp2
      go_roundw
      case rel=>exact ⟨k+1,by omega,by go_num,A2',B2'⟩
      case measure=>simp[eH];omega
     ·have q3:decide (A.balance-A.target<0)=true:=by simp;omega
      have HS:Hid (iE M k=ce M A.up A.id (A.target-A.balance)):=(by rw[hsw.out,if_neg (by omega),if_neg hb]:iE M k=ce M A.up A.id (A.target-A.balance))
      have em:Hid (-(A.balance-A.target)=A.target-A.balance):=(by omega: -(A.balance-A.target)=A.target-A.balance)
      clear hsw hq
      go_wp2_with fail
      refine (DONE.out _ _ _ _ ?_ ?_).mono ?_
      ·first|exact (hB.out.alloc hB.out.size _).alloc (Nat.le_trans hB.out.size (by simp)) _|trace_state
      ·first|exact ((Bf _ _).alloc (Nf _) _).alloc (by simp) _|trace_state
      rintro e w2 ⟨v2,cc,rfl,A2,B2⟩
      have A2':Hid (AL w2 w.heap.size v2 (cx L (k+1))):=by rw[hstep.out,HS.out];first|exact A2|(rw[←em.out];exact A2)
      have B2':=aa B2
      clear A2 B2 c0 c1 c2 c3 c4 c5 c6 c7
      go_wp2
      go_roundw
      case rel=>exact ⟨k+1,by omega,by go_num,A2',B2'⟩
      case measure=>simp[eH];omega
  ·obtain rfl:k=L.length:=by omega
   go_wp2
   go_ret
   exact ⟨_,rfl,hA.out,hB.out⟩
open Go.RowKit
set_option maxRecDepth 8000
theorem kl (a:Option Addr) (c:Nat) (L:List aj) (p:Nat->Addr) (w:World) (h:Fo w a L.length (FL L)) (hR:al (FL L) L.length) (hG:GE w p):
  Calls Pg 13 #[Sl a L.length c] w fun e w'=>∃v,e=.returned v/\AL w' w.heap.size v (cx L L.length)/\Below w.heap.size w w':=by
 have H:=aa h
 have HR:=aa hR
 have HG:=aa hG
 have hn:=hR.1
 clear h hR hG
 go_enter Tryz.func13,Tryz.ntmps13
 go_wp2_with (first
  | (go_at_call 19;refine (dt a L.length c (FL L) w H.out HR.out).mono ?_;rintro e w0 ⟨rfl,B0⟩)
  | (go_at_call 56;refine (ng a L.length c (FL L) w0 (H.out.below B0) HR.out.rises hn HR.out.idwf).mono ?_;rintro e w1 ⟨rfl,⟨G,L1⟩,B1⟩)
  | (go_at_call 57;refine (vx _ _ L.length (FL L) G w1 HR.out.rises hn L1).mono ?_;rintro e w2 ⟨a2,c2,rfl,I2,B2⟩))
 have hs01:=B0.size
 have hs12:=B1.size
 have HI:=aa I2
 have HL:=aa (L1.below B2 (Nf _))
 have HG1:Hid (∀i,i<L.length->G i<w1.heap.size):=fun i hi=>(L1.acc i hi).2.2.2.2
 have HGB:Hid (∀i,i<L.length->w.heap.size<=G i):=fun i hi=>Nat.le_trans hs01 (L1.acc i hi).1
 have HB2:=aa (B0.trans ((B1.trans (B2.mono hs12)).mono hs01))
 clear I2 L1 B0 B1 B2 hs12
 go_loopw[14] (fun q wr=>∃k:Nat,k<=L.length/\q=Ii Jj k/\Hid (gC wr w0.heap.size w0.heap.size L.length (FL (cx L k)) G)/\Hid (bS w2 wr L.length G)) (fun q _=>L.length-(eH q).toNat)
 case atStart=>exact ⟨0,Nat.zero_le _,rfl,HL,bS.refl _ _ _⟩
 case round=>
  obtain ⟨k,hk,rfl,hL,hK⟩:=hrel
  obtain ⟨f1,f2,f3⟩:=eQ HR.out k
  have HF1:=aa f1
  have HF2:=aa f2
  have HF3:=aa f3
  have hBr:=aa (HB2.out.trans (hK.out.to_below HB2.out.size HGB.out))
  have hri:Hid (eL (FL (cx L k)) L.length):=by have:=f3.rises;rw[f1] at this;exact this
  have hiw:Hid (∀i,i<L.length->(Lit.int .i64 (FL (cx L k) i).id).wf=true):=by have:=f3.idwf;rw[f1] at this;exact this
  clear f1 f2 f3
  by_cases hlt:k<L.length
  ·obtain ⟨g,rfl,hg1,hg2,hc⟩:=HI.out k hlt
   have hc':wr.cell? ⟨g,k,none⟩=some (Ii Jj (FL L k).id):=by
    rw[←hc]
    exact hK.out.cell hg2 (fun i hi e=>by have:=HG1.out i hi;omega) k
   have hlook:=hL.out.look hri.out hlt (hiw.out k hlt)
   rw[HF2.out k hlt] at hlook
   have SW:Hid (Calls Pg 58 #[.map (some w0.heap.size),.pointer (some ⟨G k,0,none⟩)] wr fun e w'=>e=.returned (.tuple #[])/\gC w' w0.heap.size w0.heap.size L.length (FL (cx L (k+1))) G/\bS wr w' L.length G):=by
    have:=qA w0.heap.size w0.heap.size (cx L k) G k p wr (by rw[HF1.out];exact hlt) HF3.out (by rw[HF1.out];exact hL.out) (HG.out.below hBr.out)
    rw[HF1.out] at this
    exact this
   clear hc hg1 hg2
   go_wp2_with (go_at_call 58;refine SW.out.mono ?_;rintro e w3 ⟨rfl,L3,K3⟩)
   go_roundw
   case rel=>exact ⟨k+1,by omega,by go_num,L3,hK.out.trans K3⟩
   case measure=>simp[eH];omega
  ·obtain rfl:k=L.length:=by omega
   have hs:=hBr.out.size
   have FO:Hid (Calls Pg 59 #[.map (some w0.heap.size)] wr fun e w'=>∃v,e=.returned v/\AL w' wr.heap.size v (cx L L.length)/\Below wr.heap.size wr w'):=by
    have:=ij w0.heap.size w0.heap.size L.length (FL (cx L L.length)) G wr hri.out hn hiw.out hL.out
    have e:ex (FL (cx L L.length)) L.length=cx L L.length:=by
     have e2:=qR (cx L L.length)
     rw[HF1.out] at e2
     exact e2
    rw[e] at this
    exact this
   go_wp2_with (go_at_call 59;refine FO.out.mono ?_;rintro e w3 ⟨v,rfl,A3,B3⟩)
   go_ret
   exact ⟨v,rfl,A3.mono hs,hBr.out.trans (B3.mono hs)⟩
end Go.Proofs.YtghkbhggopiajaaGreatDoor
