/- Ended of the program. -/
import Derived.Test.YtghkbhggopiajaaGreatDoorPyor
import Derived.Test.YtghkbhggopiajaaGreatDoorDelFr
namespace Go.Proofs.YtghkbhggopiajaaGreatDoor
open Value renaming int → Ii,slice → Sl
open IntKind renaming i64 → Jj
open Nat renaming le_refl → Nf
open Go.RowKit.Below renaming refl → Bf
open Go.Proofs.Tryz renaming prog → Pg
set_option maxHeartbeats 8000000
open Go.RowKit
set_option maxRecDepth 8000
noncomputable def bN (day:Int) (o:au):Bool:=decide (aU o day<0)
noncomputable def gF (O:List au) (k:Bk):List au:=fG (ae O) O.length k.day
noncomputable def er (L:List aj) (O:List au) (k:Bk):List aj:=cx (bn L (gF O k) (gF O k).length).1 L.length
noncomputable def ct (L:List aj) (O:List au) (k:Bk):List aj:=iH (ed (FL (er L O k)) L.length L.length) L.length
noncomputable def bU (O:List au) (k:Bk):List au:=bP (bN (k.day+1)) O
noncomputable def bh (L:List aj) (O:List au) (k:Bk):Bk:=⟨k.day+1,k.inn,k.out,k.posted+di (FL (er L O k)) L.length L.length,k.missed+(bn L (gF O k) (gF O k).length).2⟩
noncomputable def cU (L:List aj) (O:List au) (k:Bk):Prop:=aq (FL (ct L O k)) L.length (ae (bU O k)) (bU O k).length (bh L O k)
theorem jF {L:List aj} (O:List au) (k:Bk) (hR:al (FL L) L.length):(er L O k).length=L.length/\al (FL (er L O k)) L.length:=by
 obtain ⟨h1,h2,_⟩:=dX (D:=gF O k) hR (gF O k).length
 have:=eQ h2 L.length
 unfold er
 refine ⟨this.1.trans h1,?_⟩
 have h3:=this.2.2
 rw[this.1,h1] at h3
 exact h3
theorem nC (R:Nat) (x:au) (day:Int) (W:World) (hR:R<W.heap.size) (hc:W.cell? ⟨R,0,none⟩=some (Ii Jj day)):
  Calls Pg 71 (#[.agg #[Ii Jj x.id,Ii Jj x.src,Ii Jj x.dst,Ii Jj x.amount,Ii Jj x.first,Ii Jj x.every,Ii Jj x.times]]++#[.pointer (some ⟨R,0,none⟩)]) W fun e w'=>e=.returned (.bool (bN day x))/\Below W.heap.size W w':=by
 have CN:Hid (∀w,Calls Pg 25 #[.agg #[Ii Jj x.id,Ii Jj x.src,Ii Jj x.dst,Ii Jj x.amount,Ii Jj x.first,Ii Jj x.every,Ii Jj x.times],Ii Jj day] w fun e w'=>e=.returned (Ii Jj (aU x day))/\Below w.heap.size w w'):=fun w=>mT x day w
 have HI:Hid (bN day x=decide (aU x day<0)):=rfl
 generalize aU x day=nd at*
 cases hb:decide (nd<0) with
 | true=>
  rw[hb] at HI
  show Calls Pg 71 #[.agg #[Ii Jj x.id,Ii Jj x.src,Ii Jj x.dst,Ii Jj x.amount,Ii Jj x.first,Ii Jj x.every,Ii Jj x.times],.pointer (some ⟨R,0,none⟩)] W _
  go_enter Tryz.func71,Tryz.ntmps71
  go_wp2_with (go_at_call 25;refine (CN.out _).mono ?_;rintro e w1 ⟨rfl,B1⟩)
  go_ret
  rw[HI.out]
  exact ⟨rfl,((Bf _ _).alloc (Nf _) _).trans (B1.mono (by simp))⟩
 | false=>
  rw[hb] at HI
  show Calls Pg 71 #[.agg #[Ii Jj x.id,Ii Jj x.src,Ii Jj x.dst,Ii Jj x.amount,Ii Jj x.first,Ii Jj x.every,Ii Jj x.times],.pointer (some ⟨R,0,none⟩)] W _
  go_enter Tryz.func71,Tryz.ntmps71
  go_wp2_with (go_at_call 25;refine (CN.out _).mono ?_;rintro e w1 ⟨rfl,B1⟩)
  go_ret
  rw[HI.out]
  exact ⟨rfl,((Bf _ _).alloc (Nf _) _).trans (B1.mono (by simp))⟩
theorem oY (R:Nat) (B:Nat) (u:Value) (O:List au) (day:Int) (w:World) (hR:R<w.heap.size) (hc:w.cell? ⟨R,0,none⟩=some (Ii Jj day)) (h:ah w B u O) (hne:∀q,u.ownBlock=some q->q≠R) (hl:O.length<=1048576):
  Calls Pg 70 #[u,.func (.func 71) #[] #[.pointer (some ⟨R,0,none⟩)]] w fun e w'=>∃u',e=.returned u'/\ah w' B u' (bP (bN day) O)/\(∀q,u'.ownBlock=some q->q≠R)/\(∃g,g≠R/\w.grownBy w' (some g)/\(u.ownBlock=some g\/w.heap.size<=g)):=by
 have ent:∀args w,(callFunc 71 args).run Pg w=.ok (.enter 71 args) w:=enters_of Tryz.func71 (by kernel_rfl) rfl
 rcases h.2 with ⟨hv,hn⟩|⟨g,cap,cur,hv,hg,hcur,_⟩
 ·have hO:O=[]:=List.length_eq_zero_iff.1 hn
  subst hO hv
  have hnl:bP (bN day) []=[]:=rfl
  rw[hnl]
  have key:=jE none 0 [] 71 #[.pointer (some ⟨R,0,none⟩)] (bN day) w ⟨by simp,Or.inl rfl⟩ ent (fun x W hW=>nC R x day W (Nat.lt_of_lt_of_le hR hW.size) ((hW.cell (p:=⟨R,0,none⟩) hR).trans hc))
  have E:gg (bN day) []= -1:=eZ (fun j hj=>by simp at hj)
  rw[E] at key
  simp only[List.length_nil] at key
  have IXX:Hid (Calls Pg 119 #[Sl none 0 0,.func (.func 71) #[] #[.pointer (some ⟨R,0,none⟩)]] w fun e w'=>e=.returned (Ii Jj (-1))/\Below w.heap.size w w'):=key
  have HH:Hid (ah w B (Sl none 0 0) []):=h
  clear key E h hn hnl
  go_enter Tryz.func70,Tryz.ntmps70
  go_wp2_with (go_at_call 119;refine IXX.out.mono ?_;rintro e w1 ⟨rfl,B1⟩)
  go_ret
  exact ⟨_,rfl,ah.nil _ _,fun q hq=>by simp[Value.ownBlock] at hq,w.heap.size,by omega,⟨B1.os,B1.tape,B1.output,B1.size,fun i hi _=>B1.block i hi⟩,Or.inr (Nf _)⟩
 ·subst hv
  refine (oX B g cap O 71 #[.pointer (some ⟨R,0,none⟩)] (bN day) w h hl ent (fun x W hW=>nC R x day W (Nat.lt_of_lt_of_le hR hW.size) ?_)).mono fun e w' ⟨he,ho,hgr⟩=>⟨_,he,ho,fun q hq=>by (have hq':some g=some q:=hq);obtain rfl:=Option.some.inj hq';exact hne g rfl,g,hne g rfl,hgr,Or.inl rfl⟩
  rw[←hc]
  unfold World.cell?
  simp only[hW.block R hR (by simp;exact fun e=>hne g rfl e.symm)]
theorem ak.same {w w':World} {R:Nat} {v0 v1 v2 v3 v4 v5 v6:Value} (h:ak w R v0 v1 v2 v3 v4 v5 v6) (e:w'.heap[R]? =w.heap[R]?):ak w' R v0 v1 v2 v3 v4 v5 v6:=by
 obtain ⟨⟨h0,h1,h2,h3,h4,h5,h6⟩,hf,hz⟩:=h
 have hc:∀o,w'.cell? ⟨R,o,none⟩=w.cell? ⟨R,o,none⟩:=fun o=>by unfold World.cell?;simp only[e]
 refine ⟨⟨(hc 0).trans h0,(hc 1).trans h1,(hc 2).trans h2,(hc 3).trans h3,(hc 4).trans h4,(hc 5).trans h5,(hc 6).trans h6⟩,?_,?_⟩
 ·intro o
  have:=hf o
  unfold World.frozen? at this ⊢
  simp only[e]
  exact this
 ·have h4:w.heap[R]? =some w.heap[R]:=Array.getElem?_eq_getElem hz
  exact (Array.getElem?_eq_some_iff.1 (e.trans h4)).1
theorem pM {w:World} {B e size n:Nat} {v:Value} {xs:List Value} (h:w.ownsRow B e size v n xs) {Q:Nat} (hQ:∀q,v.ownBlock=some q->q≠Q) (o:Nat) (u:Value):(w.setCell ⟨Q,o,none⟩ u).ownsRow B e size v n xs:=
 World.ownsRow.kept h (bD w Q o u) (by
  cases hb:v.ownBlock with
  | none=>exact Or.inl rfl
  | some g=>right;intro e';exact hQ g hb (by simpa using e'))
theorem ah.off {w:World} {B:Nat} {v:Value} {L:List au} (h:ah w B v L) {Q:Nat} (hQ:∀q,v.ownBlock=some q->q≠Q) (o:Nat) (u:Value):ah (w.setCell ⟨Q,o,none⟩ u) B v L:=pM h hQ o u
theorem kn (a b:Option Addr) (c d:Nat) (L:List aj) (O:List au) (k:Bk) (w:World) (hF:Fo w a L.length (FL L)) (hO:aG w b O.length (ae O)) (hb:¬aq (FL L) L.length (ae O) O.length k):
  Calls Pg 22 #[.agg #[Ii Jj k.day,Sl a L.length c,Sl b O.length d,Ii Jj k.inn,Ii Jj k.out,Ii Jj k.posted,Ii Jj k.missed]] w fun e w'=>e=.returned (.tuple #[.agg #[Ii Jj 0,Sl none 0 0,Sl none 0 0,Ii Jj 0,Ii Jj 0,Ii Jj 0,Ii Jj 0],.bool false])/\Below w.heap.size w w':=by
 have HF:Hid (Fo w a L.length (FL L)):=hF
 have HO:Hid (aG w b O.length (ae O)):=hO
 have HBad:Hid (¬aq (FL L) L.length (ae O) O.length k):=hb
 clear hF hO hb
 obtain ⟨W0,hW0⟩:∃W0,W0=(w.alloc (.cells #[Ii Jj k.day,Sl a L.length c,Sl b O.length d,Ii Jj k.inn,Ii Jj k.out,Ii Jj k.posted,Ii Jj k.missed] 38)).alloc (.cells #[Ii Jj 0,Sl none 0 0,Sl none 0 0,Ii Jj 0,Ii Jj 0,Ii Jj 0,Ii Jj 0] 38):=⟨_,rfl⟩
 have b0:Below w.heap.size w W0:=by rw[hW0];exact ((Bf _ _).alloc (Nf _) _).alloc (by simp) _
 have z2:fu W0 (w.heap.size+1):=by
  rw[hW0]
  have:=ak.new (w.alloc (.cells #[Ii Jj k.day,Sl a L.length c,Sl b O.length d,Ii Jj k.inn,Ii Jj k.out,Ii Jj k.posted,Ii Jj k.missed] 38)) (Ii Jj 0) (Sl none 0 0) (Sl none 0 0) (Ii Jj 0) (Ii Jj 0) (Ii Jj 0) (Ii Jj 0) 38
  rw[World.size_alloc] at this
  exact this
 have hs0:W0.heap.size=w.heap.size+1+1:=by rw[hW0];simp
 have HW0:Hid (W0=_):=hW0
 have HB0:Hid (Below w.heap.size w W0):=b0
 have Z2:Hid (fu W0 (w.heap.size+1)):=z2
 clear hW0 b0 z2
 go_enter Tryz.func22,Tryz.ntmps22
 go_wp2_with fail
 rw[←HW0.out]
 clear HW0
 refine (cZ a b L.length c O.length d (FL L) (ae O) k _ (HF.out.below HB0.out) (HO.out.below HB0.out)).mono ?_
 rintro e w1 ⟨⟨bb,rfl,hb1,hb2⟩,B1⟩
 obtain rfl:bb=false:=by cases bb with|true=>exact absurd (hb1 rfl) HBad.out|false=>rfl
 obtain ⟨⟨r0,r1,r2,r3,r4,r5,r6⟩,rf,rz⟩:=Z2.out.kept B1 (by omega)
 have HB1:Hid (Below w.heap.size w w1):=HB0.out.trans (B1.mono (by omega))
 clear hb1 hb2 B1 HB0 Z2 hs0
 go_wp2
 refine bodyPost_ret (v:=.tuple #[.agg #[Ii Jj 0,Sl none 0 0,Sl none 0 0,Ii Jj 0,Ii Jj 0,Ii Jj 0,Ii Jj 0],.bool false]) (by simp[results,Tryz.results22,go_sem,r0,r1,r2,r3,r4,r5,r6]) rfl ⟨rfl,?_⟩
 repeat (refine ai ?_ (by omega) _ _)
 exact HB1.out
theorem lN (a b:Option Addr) (c d:Nat) (L:List aj) (O:List au) (k:Bk) (p:Nat->Addr) (w:World) (hF:Fo w a L.length (FL L)) (hO:aG w b O.length (ae O)) (hG:GE w p) (hb:aq (FL L) L.length (ae O) O.length k):
  Calls Pg 22 #[.agg #[Ii Jj k.day,Sl a L.length c,Sl b O.length d,Ii Jj k.inn,Ii Jj k.out,Ii Jj k.posted,Ii Jj k.missed]] w fun e w'=>(cU L O k/\∃v u,e=.returned (.tuple #[.agg #[Ii Jj (bh L O k).day,v,u,Ii Jj (bh L O k).inn,Ii Jj (bh L O k).out,Ii Jj (bh L O k).posted,Ii Jj (bh L O k).missed],.bool true])/\AL w' w.heap.size v (ct L O k)/\ah w' w.heap.size u (bU O k)/\Below w.heap.size w w')\/(¬cU L O k/\e=.returned (.tuple #[.agg #[Ii Jj 0,Sl none 0 0,Sl none 0 0,Ii Jj 0,Ii Jj 0,Ii Jj 0,Ii Jj 0],.bool false])/\Below w.heap.size w w'):=by
 have HF:Hid (Fo w a L.length (FL L)):=hF
 have HO:Hid (aG w b O.length (ae O)):=hO
 have HG:Hid (GE w p):=hG
 have HOK:Hid (aq (FL L) L.length (ae O) O.length k):=hb
 have HR:Hid (al (FL L) L.length):=hb.2.1
 have hn12:=hb.2.1.1
 have hol:=hO.1
 obtain ⟨⟨dy1,dy2⟩,_,_,_,_,⟨po1,po2⟩,⟨mi1,mi2⟩,_⟩:=hb
 clear hF hO hG
 obtain ⟨W0,hW0⟩:∃W0,W0=(w.alloc (.cells #[Ii Jj k.day,Sl a L.length c,Sl b O.length d,Ii Jj k.inn,Ii Jj k.out,Ii Jj k.posted,Ii Jj k.missed] 38)).alloc (.cells #[Ii Jj 0,Sl none 0 0,Sl none 0 0,Ii Jj 0,Ii Jj 0,Ii Jj 0,Ii Jj 0] 38):=⟨_,rfl⟩
 have b0:Below w.heap.size w W0:=by rw[hW0];exact ((Bf _ _).alloc (Nf _) _).alloc (by simp) _
 have z1:bW W0 w.heap.size (Sl a L.length c) (Sl b O.length d) k:=by
  rw[hW0];exact (ak.new w _ _ _ _ _ _ _ 38).kept ((Bf _ _).alloc (Nf _) _) (by simp)
 have z2:fu W0 (w.heap.size+1):=by
  rw[hW0]
  have:=ak.new (w.alloc (.cells #[Ii Jj k.day,Sl a L.length c,Sl b O.length d,Ii Jj k.inn,Ii Jj k.out,Ii Jj k.posted,Ii Jj k.missed] 38)) (Ii Jj 0) (Sl none 0 0) (Sl none 0 0) (Ii Jj 0) (Ii Jj 0) (Ii Jj 0) (Ii Jj 0) 38
  rw[World.size_alloc] at this
  exact this
 have hs0:W0.heap.size=w.heap.size+1+1:=by rw[hW0];simp
 have HW0:Hid (W0=_):=hW0
 have HB0:Hid (Below w.heap.size w W0):=b0
 have Z1:Hid (bW W0 w.heap.size (Sl a L.length c) (Sl b O.length d) k):=z1
 have Z2:Hid (fu W0 (w.heap.size+1)):=z2
 clear hW0 b0 z1 z2
 go_enter Tryz.func22,Tryz.ntmps22
 go_wp2_with fail
 rw[←HW0.out]
 clear HW0
 refine (cZ a b L.length c O.length d (FL L) (ae O) k _ (HF.out.below HB0.out) (HO.out.below HB0.out)).mono ?_
 rintro e w1 ⟨⟨bb,rfl,hb1,hb2⟩,B1⟩
 obtain rfl:bb=true:=by cases bb with|false=>exact absurd HOK.out (hb2 rfl)|true=>rfl
 have hs1:=B1.size
 have Y1:=Z1.out.kept B1 (by omega)
 have Y2:Hid (fu w1 (w.heap.size+1)):=Z2.out.kept B1 (by omega)
 have HB1:Hid (Below w.heap.size w w1):=HB0.out.trans (B1.mono (by omega))
 have hs1':w.heap.size+1+1<=w1.heap.size:=by omega
 obtain ⟨⟨s0,s1,s2,s3,s4,s5,s6⟩,sf,sz⟩:=Y1
 clear hb1 hb2 B1 HB0 Z1 Z2 hs0 hs1
 go_wp2_with fail
 refine (dF a b c d L O k _ (HF.out.below HB1.out) (HO.out.below HB1.out)).mono ?_
 rintro e w2 ⟨v2,u2,rfl,A2,O2,B2⟩
 obtain ⟨a2,c2,hv⟩:=A2.len
 subst hv
 obtain ⟨b2,d2,hv,_⟩:=O2.shape
 subst hv
 clear s0 s1 s2 s3 s4 s5 s6 sf sz
 obtain ⟨W3,hW3⟩:∃W3,W3=w2.alloc (.cells #[Ii Jj k.day,Sl a2 L.length c2,Sl b2 O.length d2,Ii Jj k.inn,Ii Jj k.out,Ii Jj k.posted,Ii Jj k.missed] 38):=⟨_,rfl⟩
 have D3:Below w2.heap.size w2 W3:=by rw[hW3];exact (Bf _ _).alloc (Nf _) _
 have B3:Below w.heap.size w W3:=HB1.out.trans ((B2.trans (D3.mono B2.size)).mono HB1.out.size)
 have X3:Hid (bW W3 w2.heap.size (Sl a2 L.length c2) (Sl b2 O.length d2) k):=by
  show ak _ _ _ _ _ _ _ _ _;rw[hW3];exact ak.new w2 _ _ _ _ _ _ _ 38
 have A3:Hid (AL W3 w1.heap.size (Sl a2 L.length c2) L):=A2.kept D3
 have O3:Hid (ah W3 w1.heap.size (Sl b2 O.length d2) O):=O2.kept D3
 have Y3:Hid (fu W3 (w.heap.size+1)):=(Y2.out.kept B2 (by omega)).kept D3 (by have:=B2.size;omega)
 have HB3:Hid (Below w.heap.size w W3):=B3
 have hal:∀x,a2=some x->x.block<w2.heap.size:=fun x hx=>by
  subst hx
  rcases A2.2 with ⟨hv2,_⟩|⟨g,cap,cur,hv2,hg,hcur,_⟩
  ·simp at hv2
  ·simp at hv2
   obtain ⟨rfl,_⟩:=hv2
   exact (Array.getElem?_eq_some_iff.1 hcur).1
 have hbl:Hid (∀q,(Value.slice b2 O.length d2).ownBlock=some q->w1.heap.size<=q/\q<w2.heap.size):=fun q hq=>World.ownsRow.lt O2 q hq
 have hRs:w.heap.size+1+1<=w2.heap.size:=by have:=B2.size;omega
 have hRs1:w1.heap.size<=w2.heap.size:=B2.size
 have PO:=km w2.heap.size a2 b2 c2 d2 L O k p w W3 X3.out (A3.out.fo (by omega)).2 (O3.out.list hol).2 HR.out HG.out B3 (by omega) (fun x hx=>by have:=hal x hx;omega) (by omega)
 have PO2:Hid (Calls Pg 68 #[.pointer (some ⟨w2.heap.size,0,none⟩)] W3 fun e w'=>e=.returned (.tuple #[])/\∃a' c',ak w' w2.heap.size (Ii Jj k.day) (Sl a' L.length c') (Sl b2 O.length d2) (Ii Jj k.inn) (Ii Jj k.out) (Ii Jj k.posted) (Ii Jj (bh L O k).missed)/\Fo w' a' L.length (FL (bn L (gF O k) (gF O k).length).1)/\(∀x,a'=some x->x.block≠w2.heap.size)/\W3.grownBy w' (some w2.heap.size)):=PO
 have HW3:Hid (W3=_):=hW3
 clear hW3 D3 B3 A2 O2 B2 PO hal
 go_upto_region 4 with fail
 rw[←HW3.out]
 clear HW3
 go_wp2_with fail
 refine PO2.out.mono ?_
 rintro e w4 ⟨rfl,a4,c4,X4,F4,_,G4⟩
 obtain ⟨pm1,pm2,pm3,pm4⟩:=dX (D:=gF O k) HR.out (gF O k).length
 obtain ⟨es1,es2⟩:=jF O k HR.out
 have D4:Below w2.heap.size W3 w4:=(Bf _ _).grown G4 (by have:=X3.out.2.2;omega) (fun j hj=>by simp at hj;omega)
 have HB4:Hid (Below w.heap.size w w4):=HB3.out.trans (D4.mono (by omega))
 have Y4:Hid (fu w4 (w.heap.size+1)):=Y3.out.kept D4 (by omega)
 have O4:Hid (ah w4 w1.heap.size (Sl b2 O.length d2) O):=World.ownsRow.kept O3.out G4 (by
  cases hbk:(Value.slice b2 O.length d2).ownBlock with
  | none=>exact Or.inl rfl
  | some q=>right;intro e';have:=(hbl.out q hbk).2;simp at e';omega)
 have HX4:Hid (ak w4 w2.heap.size (Ii Jj k.day) (Sl a4 L.length c4) (Sl b2 O.length d2) (Ii Jj k.inn) (Ii Jj k.out) (Ii Jj k.posted) (Ii Jj (bh L O k).missed)):=X4
 have hs4:w2.heap.size<w4.heap.size:=X4.2.2
 have SWP:Hid (Calls Pg 13 #[Sl a4 L.length c4] w4 fun e w'=>∃v,e=.returned v/\AL w' w4.heap.size v (er L O k)/\Below w4.heap.size w4 w'):=by
  have:=kl a4 c4 (bn L (gF O k) (gF O k).length).1 p w4 (by rw[pm1];exact F4) pm2 (HG.out.below HB4.out)
  rw[pm1] at this
  exact this
 have HES:Hid (al (FL (er L O k)) L.length):=es2
 have HEL:Hid ((er L O k).length=L.length):=es1
 obtain ⟨⟨s0,s1,s2,s3,s4,s5,s6⟩,sf,sz⟩:=X4
 clear F4 G4 D4 X3 Y3 O3 HB3 PO2 A3 pm1 pm2 pm3 pm4 es1 es2 Y2
 go_wp2_with fail
 refine SWP.out.mono ?_
 rintro e w5 ⟨v5,rfl,A5,B5⟩
 obtain ⟨a5,c5,hv5⟩:=A5.len
 subst hv5
 have F5:Hid (Fo w5 a5 L.length (FL (er L O k))):=by
  have:=(A5.fo (by rw[HEL.out];omega)).2
  rw[HEL.out] at this
  exact this
 rw[HEL.out]
 have B5':Hid (Below w4.heap.size w4 w5):=B5
 have hs5:=B5.size
 clear A5 B5 SWP s0 s1 s2 s3 s4 s5 s6 sf sz
 go_wp2_with fail
 refine (ik a5 L.length c5 (FL (er L O k)) _ F5.out HES.out).mono ?_
 rintro e w6 ⟨v6,rfl,A6,B6⟩
 obtain ⟨a6,c6,hv6⟩:=A6.len
 rw[jx] at hv6
 subst hv6
 obtain ⟨is1,is2⟩:=gT HES.out L.length (Nf _)
 have is3: -36000000000<=di (FL (er L O k)) L.length L.length:=by omega
 have is4:di (FL (er L O k)) L.length L.length<=36000000000:=by omega
 have HPO:Hid ((bh L O k).posted=k.posted+di (FL (er L O k)) L.length L.length):=rfl
 have A6':AL w6 w5.heap.size (Sl a6 L.length c6) (ct L O k):=A6
 have B46:Below w4.heap.size w4 w6:=B5'.out.trans (B6.mono B5'.out.size)
 have X6:=HX4.out.kept B46 hs4
 have hs6:=B6.size
 generalize di (FL (er L O k)) L.length L.length=iS at*
 obtain ⟨V7,hV7⟩:∃V7,V7=((w6.setCell ⟨w2.heap.size,1,none⟩ (Sl a6 L.length c6)).setCell ⟨w2.heap.size,5,none⟩ (Ii Jj (k.posted+iS))).setCell ⟨w2.heap.size,0,none⟩ (Ii Jj (k.day+1)):=⟨_,rfl⟩
 have X7:Hid (ak V7 w2.heap.size (Ii Jj (k.day+1)) (Sl a6 L.length c6) (Sl b2 O.length d2) (Ii Jj k.inn) (Ii Jj k.out) (Ii Jj (k.posted+iS)) (Ii Jj (bh L O k).missed)):=by
  show ak _ _ _ _ _ _ _ _ _;rw[hV7];exact ((X6.set1 _).set5 _).set0 _
 have A7:Hid (AL V7 w5.heap.size (Sl a6 L.length c6) (ct L O k)):=by
  show AL _ _ _ _;rw[hV7];exact ((A6'.far (by omega) _ _).far (by omega) _ _).far (by omega) _ _
 have hoff:∀q,(Value.slice b2 O.length d2).ownBlock=some q->q≠w2.heap.size:=fun q hq=>by have:=(hbl.out q hq).2;omega
 have O7:Hid (ah V7 w1.heap.size (Sl b2 O.length d2) O):=by
  show ah _ _ _ _;rw[hV7];exact (((O4.out.kept B46).off hoff _ _).off hoff _ _).off hoff _ _
 have Y7:Hid (fu V7 (w.heap.size+1)):=by
  show ak _ _ _ _ _ _ _ _ _;rw[hV7];exact (((Y4.out.kept B46 (by omega)).far (by omega) _ _).far (by omega) _ _).far (by omega) _ _
 have HB7:Hid (Below w.heap.size w V7):=by
  show Below _ _ _;rw[hV7];exact ai (ai (ai (HB4.out.trans (B46.mono HB4.out.size)) (by omega) _ _) (by omega) _ _) (by omega) _ _
 have hs7:w6.heap.size=V7.heap.size:=by rw[hV7];simp[World.setCell]
 have HS7:Hid (w5.heap.size<=V7.heap.size):=by show w5.heap.size<=_;omega
 have DEL:=oY w2.heap.size w1.heap.size (Sl b2 O.length d2) O (k.day+1) V7 X7.out.2.2 X7.out.1.1 O7.out hoff hol
 have DEL2:Hid (Calls Pg 70 #[Sl b2 O.length d2,.func (.func 71) #[] #[.pointer (some ⟨w2.heap.size,0,none⟩)]] V7 fun e w'=>∃u',e=.returned u'/\ah w' w1.heap.size u' (bU O k)/\(∀q,u'.ownBlock=some q->q≠w2.heap.size)/\(∃g,g≠w2.heap.size/\V7.grownBy w' (some g)/\((Value.slice b2 O.length d2).ownBlock=some g\/V7.heap.size<=g))):=DEL
 obtain ⟨⟨s0,s1,s2,s3,s4,s5,s6⟩,sf,sz⟩:=X6
 have HV7:Hid (V7=_):=hV7
 have hmf:∀(fn:Fn) (first cap:Array Value) (w:World),(Instr.makeFunc fn first cap).run Pg w=.ok (.func fn first cap) w:=fun _ _ _ _=>rfl
 clear DEL A6 A6' B6 B46 hV7 hoff O7 Y4 O4 HX4 F5 B5' HB4 is1 is2 hs7
 go_upto_region 9 with fail
 rw[←HV7.out]
 clear HV7 s0 s1 s2 s3 s4 s5 s6 sf sz
 obtain ⟨⟨s0,s1,s2,s3,s4,s5,s6⟩,sf,sz⟩:=X7.out
 go_wp2_with fail
 refine DEL2.out.mono ?_
 rintro e w8 ⟨u8,rfl,O8,hu8,g,hgR,G8,hg8⟩
 obtain ⟨b8,d8,hv8,_⟩:=O8.shape
 subst hv8
 have hgl:g<w2.heap.size\/V7.heap.size<=g:=hg8.imp (fun h=>(hbl.out g h).2) id
 have hgw:w1.heap.size<=g:=by
  rcases hg8 with h|h
  ·exact (hbl.out g h).1
  ·omega
 have X8:ak w8 w2.heap.size (Ii Jj (k.day+1)) (Sl a6 L.length c6) (Sl b2 O.length d2) (Ii Jj k.inn) (Ii Jj k.out) (Ii Jj (k.posted+iS)) (Ii Jj (bh L O k).missed):=X7.out.same (G8.block _ sz (by simp;omega))
 have Y8:=Y7.out.same (G8.block _ Y7.out.2.2 (by simp;omega))
 have A8:AL w8 w5.heap.size (Sl a6 L.length c6) (ct L O k):=World.ownsRow.kept A7.out G8 (by
  cases hbk:(Value.slice a6 L.length c6).ownBlock with
  | none=>exact Or.inl rfl
  | some q=>right;intro e';have:=World.ownsRow.lt A7.out q hbk;simp at e';omega)
 have B8:Below w.heap.size w w8:=HB7.out.grown G8 HB7.out.size (fun x hx=>by simp at hx;omega)
 clear s0 s1 s2 s3 s4 s5 s6 sf sz DEL2 G8 hg8 X7 Y7 A7 HB7
 have hla:(ct L O k).length=L.length:=db _ _
 have hlo:(bU O k).length<=1048576:=Nat.le_trans (List.length_filter_le _ _) hol
 obtain ⟨V9,hV9⟩:∃V9,V9=w8.setCell ⟨w2.heap.size,2,none⟩ (Sl b8 (bU O k).length d8):=⟨_,rfl⟩
 have X9:Hid (ak V9 w2.heap.size (Ii Jj (k.day+1)) (Sl a6 L.length c6) (Sl b8 (bU O k).length d8) (Ii Jj k.inn) (Ii Jj k.out) (Ii Jj (k.posted+iS)) (Ii Jj (bh L O k).missed)):=by
  show ak _ _ _ _ _ _ _ _ _;rw[hV9];exact X8.set2 _
 have A9:Hid (AL V9 w5.heap.size (Sl a6 L.length c6) (ct L O k)):=by
  show AL _ _ _ _;rw[hV9];exact A8.far (by omega) _ _
 have O9:Hid (ah V9 w1.heap.size (Sl b8 (bU O k).length d8) (bU O k)):=by
  show ah _ _ _ _;rw[hV9];exact O8.off hu8 _ _
 have Y9:Hid (fu V9 (w.heap.size+1)):=by
  show ak _ _ _ _ _ _ _ _ _;rw[hV9];exact Y8.far (by omega) _ _
 have HB9:Hid (Below w.heap.size w V9):=by
  show Below _ _ _;rw[hV9];exact ai B8 (by omega) _ _
 have BNK:Hid (Calls Pg 27 #[.agg #[Ii Jj (k.day+1),Sl a6 L.length c6,Sl b8 (bU O k).length d8,Ii Jj k.inn,Ii Jj k.out,Ii Jj (k.posted+iS),Ii Jj (bh L O k).missed]] V9 fun e w'=>af e (cU L O k)/\Below V9.heap.size V9 w'):=by
  have:=cZ a6 b8 L.length c6 (bU O k).length d8 (FL (ct L O k)) (ae (bU O k)) (bh L O k) V9 (A9.out.fo (by rw[hla];omega)).2 (O9.out.list hlo).2
  rw[HPO.out] at this
  exact this
 have HV9:Hid (V9=_):=hV9
 obtain ⟨⟨s0,s1,s2,s3,s4,s5,s6⟩,sf,sz⟩:=X8
 clear hV9 Y8 A8 O8 B8 hu8 hgR hgl hgw hmf
 go_wp2_with fail
 rw[←HV9.out]
 clear HV9 s0 s1 s2 s3 s4 s5 s6 sf sz
 refine BNK.out.mono ?_
 rintro e w10 ⟨⟨bb,rfl,hb1,hb2⟩,B10⟩
 have hsV:=HB9.out.size
 have X10:=X9.out.kept B10 X9.out.2.2
 have Y10:=Y9.out.kept B10 Y9.out.2.2
 have A10:Hid (AL w10 w5.heap.size (Sl a6 L.length c6) (ct L O k)):=A9.out.kept B10
 have O10:Hid (ah w10 w1.heap.size (Sl b8 (bU O k).length d8) (bU O k)):=O9.out.kept B10
 have HB10:Hid (Below w.heap.size w w10):=HB9.out.trans (B10.mono hsV)
 obtain ⟨⟨s0,s1,s2,s3,s4,s5,s6⟩,sf,sz⟩:=X10
 obtain ⟨⟨r0,r1,r2,r3,r4,r5,r6⟩,rf,rz⟩:=Y10
 clear X9 Y9 A9 O9 HB9 B10 BNK
 cases bb with
 | false=>
  have HN:Hid (¬cU L O k):=hb2 rfl
  clear hb1 hb2 s0 s1 s2 s3 s4 s5 s6 sf sz
  go_wp2
  refine bodyPost_ret (v:=.tuple #[.agg #[Ii Jj 0,Sl none 0 0,Sl none 0 0,Ii Jj 0,Ii Jj 0,Ii Jj 0,Ii Jj 0],.bool false]) (by simp[results,Tryz.results22,go_sem,r0,r1,r2,r3,r4,r5,r6]) rfl (Or.inr ⟨HN.out,rfl,?_⟩)
  repeat (refine ai ?_ (by omega) _ _)
  exact HB10.out
 | true=>
  have HN:Hid (cU L O k):=hb1 rfl
  clear hb1 hb2
  go_wp2
  refine bodyPost_ret (v:=.tuple #[.agg #[Ii Jj (k.day+1),Sl a6 L.length c6,Sl b8 (bU O k).length d8,Ii Jj k.inn,Ii Jj k.out,Ii Jj (k.posted+iS),Ii Jj (bh L O k).missed],.bool true]) (by simp[results,Tryz.results22,go_sem,r0,r1,r2,r3,r4,r5,r6]) rfl (Or.inl ⟨HN.out,Sl a6 L.length c6,Sl b8 (bU O k).length d8,?_,?_,?_,?_⟩)
  ·rw[HPO.out];rfl
  ·refine AL.mono (B:=w5.heap.size) ?_ (by omega)
   repeat (refine AL.far ?_ (by omega) _ _)
   exact A10.out
  ·refine ah.mono (B:=w1.heap.size) ?_ (by omega)
   repeat (refine ah.far ?_ (by omega) _ _)
   exact O10.out
  ·repeat (refine ai ?_ (by omega) _ _)
   exact HB10.out
end Go.Proofs.YtghkbhggopiajaaGreatDoor
