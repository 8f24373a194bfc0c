/- payOrders. -/
import Derived.Test.YtghkbhggopiajaaGreatDoorCpOr
import Derived.Test.YtghkbhggopiajaaGreatDoorSwpsr
namespace Go.Proofs.YtghkbhggopiajaaGreatDoor
open Value renaming int → Ii,slice → Sl
open IntKind renaming i64 → Jj
open Go.RowKit
set_option maxRecDepth 8000
open Classical in
noncomputable def bn (L:List aj) (D:List au):Nat->List aj×Int
 | 0=>(L,0)
 | k+1=>((am (bn L D k).1 7 (ae D k).src (ae D k).dst (ae D k).amount 0).2,(bn L D k).2+if (am (bn L D k).1 7 (ae D k).src (ae D k).dst (ae D k).amount 0).1=0 then 0 else 1)
theorem dX {L:List aj} {D:List au} (hR:al (FL L) L.length):∀k,(bn L D k).1.length=L.length/\al (FL (bn L D k).1) (bn L D k).1.length/\0<=(bn L D k).2/\(bn L D k).2<=k
 | 0=>⟨rfl,hR,by simp[bn],by simp[bn]⟩
 | k+1=>by
  obtain ⟨h1,h2,h3,h4⟩:=dX (D:=D) hR k
  obtain ⟨g1,_,g3⟩:=dM h2 (ae D k).src (ae D k).dst (ae D k).amount
  refine ⟨g1.trans h1,g3,?_,?_⟩
  ·simp only[bn];split <;>omega
  ·simp only[bn];split <;>omega
set_option maxHeartbeats 8000000 in
theorem km (R:Nat) (a b:Option Addr) (c d:Nat) (L:List aj) (O:List au) (k:Bk) (p:Nat->Addr) (w0 w:World) (hX:bW w R (Sl a L.length c) (Sl b O.length d) k)
  (hF:Fo w a L.length (FL L)) (hO:aG w b O.length (ae O)) (hR:al (FL L) L.length) (hG:GE w0 p) (hB0:Below w0.heap.size w0 w) (hR0:w0.heap.size<=R) (haR:∀x,a=some x->x.block≠R) (hm:0<=k.missed/\k.missed<=2000000000000000):
  Calls Tryz.prog 68 #[.pointer (some ⟨R,0,none⟩)] w fun e w'=>e=.returned (.tuple #[])/\∃a' c',ak w' R (Ii Jj k.day) (Sl a' L.length c') (Sl b O.length d) (Ii Jj k.inn) (Ii Jj k.out) (Ii Jj k.posted) (Ii Jj (k.missed+(bn L (fG (ae O) O.length k.day) (fG (ae O) O.length k.day).length).2))/\Fo w' a' L.length (FL (bn L (fG (ae O) O.length k.day) (fG (ae O) O.length k.day).length).1)/\(∀x,a'=some x->x.block≠R)/\w.grownBy w' (some R):=by
 have HX:=aa hX
 have HF:=aa hF
 have HO:=aa hO
 have HR:=aa hR
 have HG:=aa hG
 have HB0:=aa hB0
 have HAR:=aa haR
 have hdl:Hid ((fG (ae O) O.length k.day).length<=O.length):=mX _ _ _
 have hol:=hO.1
 obtain ⟨⟨s0,s1,s2,s3,s4,s5,s6⟩,sf,sz⟩:=hX
 clear hF hO hR hG hB0 haR
 go_enter Tryz.func68,Tryz.ntmps68
 have HOd:Hid (aG w.drew b O.length (ae O)):=HO.out
 go_upto_region 0 with fail
 go_region_held3 (fun V=>V.cell? ⟨R,2,none⟩=some (Sl b O.length d)/\V.cell? ⟨R,0,none⟩=some (Ii Jj k.day)) (first|exact ⟨s2,s0⟩|exact ⟨(B1.cell (p:=⟨R,2,none⟩) sz).trans s2,(B1.cell (p:=⟨R,0,none⟩) sz).trans s0⟩) (first|(go_at_call 26;refine (qn b O.length d (ae O) k.day w.drew HOd.out).mono ?_;rintro e w1 ⟨v1,rfl,D1,B1⟩;obtain ⟨a1,c1,hv1,_,_⟩:=D1.shape;subst hv1))
 obtain ⟨D,hD⟩:∃D,D=fG (ae O) O.length k.day:=⟨_,rfl⟩
 rw[←hD] at D1 hdl ⊢
 have HD:=aa hD
 have hdn:D.length<=1048576:=Nat.le_trans hdl.out hol
 have HDL:=aa D1
 have HDO:Hid (aG w1 a1 D.length (ae D)):=(D1.list hdn).2
 have hge1:Hid (∀x,a1=some x->w.heap.size<=x.block/\x.block<w1.heap.size):=fun x hx=>by
  obtain ⟨a',c',hv',hlt,sh⟩:=D1.shape
  have ea:a1=a':=by simpa using congrArg (fun v=>match v with| Sl a _ _=>a|_=>none) hv'
  subst hx
  cases x with
  | mk bl of sp=>
   rcases D1.2 with ⟨hv2,_⟩|⟨g,cap,cur,hv2,hg,hcur,_⟩
   ·simp at hv2
   ·simp at hv2
    obtain ⟨⟨rfl,_⟩,_⟩:=hv2
    exact ⟨hg,(Array.getElem?_eq_some_iff.1 hcur).1⟩
 have G1:Hid (w.grownBy w1 (some R)):=⟨B1.os,B1.tape,B1.output,B1.size,fun i hi _=>B1.block i hi⟩
 have B1w:Below w.heap.size w w1:=⟨B1.os,B1.tape,B1.output,B1.size,B1.block⟩
 have X1:=aa (HX.out.kept B1w sz)
 have F1:=aa (HF.out.below B1w)
 clear s0 s1 s2 s3 s4 s5 s6 sf hD D1 B1 B1w HOd HO HF HX
 obtain ⟨m1,m2⟩:=hm
 go_wp2
 go_loopw[16] (fun q wr=>∃j:Nat,j<=D.length/\q=Ii Jj j/\Hid (∃a' c',ak wr R (Ii Jj k.day) (Sl a' L.length c') (Sl b O.length d) (Ii Jj k.inn) (Ii Jj k.out) (Ii Jj k.posted) (Ii Jj (k.missed+(bn L D j).2))/\Fo wr a' L.length (FL (bn L D j).1)/\(∀x,a'=some x->x.block≠R))/\Hid (w1.grownBy wr (some R))) (fun q _=>D.length-(eH q).toNat)
 case atStart=>exact ⟨0,Nat.zero_le _,rfl,⟨a,c,by simpa [bn] using X1.out,F1.out,HAR.out⟩,World.grownBy.refl _ _⟩
 case round=>
  obtain ⟨j,hj,rfl,hS,hG⟩:=hrel
  obtain ⟨a',c',hX,hF,haR⟩:=hS.out
  obtain ⟨f1,f2,f3,f4⟩:=dX (D:=D) HR.out j
  by_cases hlt:j<D.length
  ·obtain ⟨ob,oo,ea1,hob,hA⟩:=HDO.out.acc hlt
   subst ea1
   have hobR:ob≠R:=by have:=(hge1.out _ rfl).1;simp at this;omega
   have hA2:gn wr ob (oo+j*7) (ae D j):=hA.of_cells (fun o=>by
    unfold World.cell?
    simp only[hG.out.block ob hob (by simp;exact hobR)])
   obtain ⟨q0,q1,q2,q3,q4,q5,q6⟩:=hA2
   have hobw:ob<wr.heap.size:=Nat.lt_of_lt_of_le hob hG.out.size
   obtain ⟨M,hM⟩:∃M,M=(bn L D j).1:=⟨_,rfl⟩
   obtain ⟨mi,hmi⟩:∃mi,mi=(bn L D j).2:=⟨_,rfl⟩
   rw[←hM] at hF f1 f2
   rw[←hmi] at hX f3 f4
   have HN:Hid (bn L D (j+1)=((am M 7 (ae D j).src (ae D j).dst (ae D j).amount 0).2,mi+if (am M 7 (ae D j).src (ae D j).dst (ae D j).amount 0).1=0 then 0 else 1)):=by
    show bn L D (j+1)=_
    rw[hM,hmi];rfl
   have hBw:Hid (Below w0.heap.size w0 wr):=by
    have h1:w.grownBy wr (some R):=G1.out.trans hG.out
    exact HB0.out.grown h1 HB0.out.size (fun x hx=>by simp at hx;omega)
   have DN:Hid (∀W,Below wr.heap.size wr W->Calls Tryz.prog 115 #[Sl a' L.length c',.agg #[Ii Jj 7,Ii Jj (ae D j).src,Ii Jj (ae D j).dst,Ii Jj (ae D j).amount,Ii Jj 0]] W fun e w'=>∃v,e=.returned (.tuple #[v,Ii Jj (am M 7 (ae D j).src (ae D j).dst (ae D j).amount 0).1])/\AL w' W.heap.size v (am M 7 (ae D j).src (ae D j).dst (ae D j).amount 0).2/\Below W.heap.size W w'):=fun W hW=>by
    have h3:=fO a' c' M 7 (ae D j).src (ae D j).dst (ae D j).amount 0 p W (by rw[f1];exact hF.below hW) (HG.out.below (hBw.out.trans (hW.mono hBw.out.size)))
    rw[f1] at h3
    have e:cC M 7 (ae D j).src (ae D j).dst (ae D j).amount 0=am M 7 (ae D j).src (ae D j).dst (ae D j).amount 0:=by unfold cC;rw[if_pos f2]
    rw[e] at h3
    exact h3
   have hP:=dM f2 (ae D j).src (ae D j).dst (ae D j).amount
   unfold ce at hP
   have HPL:=aa (hP.1.trans f1)
   have hn12:Hid ((am M 7 (ae D j).src (ae D j).dst (ae D j).amount 0).2.length<=12):=hP.2.2.1
   have hXX:=aa hX
   have hmi2:mi<=1048576:=by omega
   have hRw:R<wr.heap.size:=hX.2.2
   clear hM hmi hP f1 f2 hX hF hA hS haR HAR f4
   generalize am M 7 (ae D j).src (ae D j).dst (ae D j).amount 0=DR at*
   generalize ae D j=o at*
   obtain ⟨W,hW⟩:∃W,W=wr.alloc (.cells #[Ii Jj o.id,Ii Jj o.src,Ii Jj o.dst,Ii Jj o.amount,Ii Jj o.first,Ii Jj o.every,Ii Jj o.times] 45):=⟨_,rfl⟩
   have BW:Below wr.heap.size wr W:=by rw[hW];exact (Below.refl _ _).alloc (Nat.le_refl _) _
   have hws:W.heap.size=wr.heap.size+1:=by rw[hW];simp
   obtain ⟨n1,n2,n3⟩:W.cell? ⟨wr.heap.size,1,none⟩=some (Ii Jj o.src)/\W.cell? ⟨wr.heap.size,2,none⟩=some (Ii Jj o.dst)/\W.cell? ⟨wr.heap.size,3,none⟩=some (Ii Jj o.amount):=by
    rw[hW];refine ⟨?_,?_,?_⟩ <;>simp[go_sem]
   have x1:W.cell? ⟨R,1,none⟩=some (Sl a' L.length c'):=(BW.cell (p:=⟨R,1,none⟩) hRw).trans hXX.out.1.2.1
   have hbx:wr.heap.size<W.heap.size:=by omega
   have hRW:R<W.heap.size:=by omega
   have BWH:=aa BW
   have BWD:Hid (Below wr.heap.size wr W.drew):=⟨BW.os,BW.tape,BW.output,BW.size,BW.block⟩
   go_upto_region 3 with fail
   rw[←hW]
   clear hW q0 q1 q2 q3 q4 q5 q6 BW hws
   go_region_held3 (fun V=>V.cell? ⟨R,1,none⟩=some (Sl a' L.length c')/\V.cell? ⟨wr.heap.size,1,none⟩=some (Ii Jj o.src)/\V.cell? ⟨wr.heap.size,2,none⟩=some (Ii Jj o.dst)/\V.cell? ⟨wr.heap.size,3,none⟩=some (Ii Jj o.amount)) (first|exact ⟨x1,n1,n2,n3⟩|exact ⟨(B2.cell (p:=⟨R,1,none⟩) hRW).trans x1,(B2.cell (p:=⟨wr.heap.size,1,none⟩) hbx).trans n1,(B2.cell (p:=⟨wr.heap.size,2,none⟩) hbx).trans n2,(B2.cell (p:=⟨wr.heap.size,3,none⟩) hbx).trans n3⟩|exact ⟨(B3.cell (p:=⟨R,1,none⟩) (Nat.lt_of_lt_of_le hRW B2.size)).trans ((B2.cell (p:=⟨R,1,none⟩) hRW).trans x1),(B3.cell (p:=⟨wr.heap.size,1,none⟩) (Nat.lt_of_lt_of_le hbx B2.size)).trans ((B2.cell (p:=⟨wr.heap.size,1,none⟩) hbx).trans n1),(B3.cell (p:=⟨wr.heap.size,2,none⟩) (Nat.lt_of_lt_of_le hbx B2.size)).trans ((B2.cell (p:=⟨wr.heap.size,2,none⟩) hbx).trans n2),(B3.cell (p:=⟨wr.heap.size,3,none⟩) (Nat.lt_of_lt_of_le hbx B2.size)).trans ((B2.cell (p:=⟨wr.heap.size,3,none⟩) hbx).trans n3)⟩)
    (first
     | (go_at_call 116;refine (pL o.src o.dst o.amount W.drew).mono ?_;rintro e w2 ⟨rfl,B2⟩)
     | (go_at_call 115;refine (DN.out w2 (BWD.out.trans (B2.mono BWD.out.size))).mono ?_;rintro e w3 ⟨v3,rfl,A3,B3⟩;obtain ⟨a3,c3,hv3⟩:=A3.len;subst hv3))
   have B23:Below wr.heap.size wr w3:=BWD.out.trans ((B2.trans (B3.mono B2.size)).mono BWD.out.size)
   have X3:ak w3 R (Ii Jj k.day) (Sl a' L.length c') (Sl b O.length d) (Ii Jj k.inn) (Ii Jj k.out) (Ii Jj k.posted) (Ii Jj (k.missed+mi)):=hXX.out.kept B23 hRw
   have hRB:R<w2.heap.size:=Nat.lt_of_lt_of_le hRW B2.size
   rw[HPL.out] at A3 ⊢
   obtain ⟨V4,hV4⟩:∃V4,V4=w3.setCell ⟨R,1,none⟩ (Sl a3 L.length c3):=⟨_,rfl⟩
   have X4:ak V4 R (Ii Jj k.day) (Sl a3 L.length c3) (Sl b O.length d) (Ii Jj k.inn) (Ii Jj k.out) (Ii Jj k.posted) (Ii Jj (k.missed+mi)):=by rw[hV4];exact X3.set1 _
   have A4:AL V4 w2.heap.size (Sl a3 L.length c3) DR.2:=by rw[hV4];exact A3.far hRB _ _
   have G4:w1.grownBy V4 (some R):=by
    rw[hV4]
    exact aV (hG.out.trans ⟨B23.os,B23.tape,B23.output,B23.size,fun i hi _=>B23.block i hi⟩) 1 _
   have hneR:∀x,a3=some x->x.block≠R:=fun x hx=>by
    subst hx
    rcases A4.2 with ⟨hv2,_⟩|⟨g,cap,cur,hv2,hg,_⟩
    ·simp at hv2
    ·simp at hv2
     obtain ⟨rfl,_⟩:=hv2
     simp;omega
   have HNE:=aa hneR
   have HX4:=aa X4
   have HA4:=aa A4
   have HG4:=aa G4
   have HV4:=aa hV4
   obtain ⟨⟨s0,s1,s2,s3,s4,s5,s6⟩,sf,sz⟩:=X3
   clear A3 B2 B3 B23 DN x1 n1 n2 n3 BWH BWD hV4 X4 A4 G4 hneR hXX
   go_upto_region 5 with fail
   rw[←HV4.out]
   clear HV4 s0 s1 s2 s3 s4 s5 s6 sf sz
   by_cases hc:DR.1=0
   ·have hcb:(DR.1 != 0)=false:=by simp[hc]
    have HN2:Hid (bn L D (j+1)=(DR.2,mi)):=by
     show bn L D (j+1)=_
     rw[HN.out,if_pos hc,Int.add_zero]
    clear hc HN
    go_wp2
    go_roundw
    case rel=>
     refine ⟨j+1,by omega,by go_num,⟨a3,c3,?_,?_,HNE.out⟩,HG4⟩
     ·rw[HN2.out];exact HX4.out
     ·rw[HN2.out]
      have:=(HA4.out.fo (Nat.le_trans hn12.out (by omega))).2
      exact this
    case measure=>simp[eH];omega
   ·have hcb:(DR.1 != 0)=true:=by simp[hc]
    have HN2:Hid (bn L D (j+1)=(DR.2,mi+1)):=by
     show bn L D (j+1)=_
     rw[HN.out,if_neg hc]
    obtain ⟨⟨s0,s1,s2,s3,s4,s5,s6⟩,sf,sz⟩:=HX4.out
    have HX5:Hid (ak (V4.setCell ⟨R,6,none⟩ (Ii Jj (k.missed+mi+1))) R (Ii Jj k.day) (Sl a3 L.length c3) (Sl b O.length d) (Ii Jj k.inn) (Ii Jj k.out) (Ii Jj k.posted) (Ii Jj (k.missed+mi+1))):=HX4.out.set6 _
    have HA5:Hid (AL (V4.setCell ⟨R,6,none⟩ (Ii Jj (k.missed+mi+1))) w2.heap.size (Sl a3 L.length c3) DR.2):=HA4.out.far hRB _ _
    have HG5:Hid (w1.grownBy (V4.setCell ⟨R,6,none⟩ (Ii Jj (k.missed+mi+1))) (some R)):=aV HG4.out 6 _
    clear hc HN
    go_wp2
    go_roundw
    case rel=>
     refine ⟨j+1,by omega,by go_num,⟨a3,c3,?_,?_,HNE.out⟩,HG5⟩
     ·rw[HN2.out,←Int.add_assoc];exact HX5.out
     ·rw[HN2.out]
      have:=(HA5.out.fo (Nat.le_trans hn12.out (by omega))).2
      exact this
    case measure=>simp[eH];omega
  ·have hjd:j=D.length:=by omega
   subst hjd
   have HE:=aa (G1.out.trans hG.out)
   have HS:=aa hS
   clear hX hF haR f1 f2 f3 f4 hS hG
   go_wp2
   refine bodyPost_end (results_none rfl _ _ _) rfl ?_
   obtain ⟨a',c',h1,h2,h3⟩:=HS.out
   refine ⟨rfl,a',c',?_,?_,h3,HE.out⟩
   ·rw[←HD.out];exact h1
   ·rw[←HD.out];exact h2
end Go.Proofs.YtghkbhggopiajaaGreatDoor
