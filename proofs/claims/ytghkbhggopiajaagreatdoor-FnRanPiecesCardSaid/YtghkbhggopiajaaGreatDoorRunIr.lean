/- The ops of the program's run. -/
import Derived.Test.YtghkbhggopiajaaGreatDoorOPlr
namespace Go.Proofs.YtghkbhggopiajaaGreatDoor
open Value renaming int → Ii,slice → Sl
open IntKind renaming i64 → Jj
open Nat renaming le_refl → Nf
open Go.Proofs.Tryz renaming prog → Pg
set_option maxHeartbeats 4000000
open Go.RowKit
set_option maxRecDepth 8000
theorem fZ (L:List aj) (k i t m r:Int):(am L k i t m r).2.length<=L.length+1:=by
 have:=bC L k i t m r
 unfold am bm
 split
 ·split
  ·split
   ·exact this
   ·simp
  ·simp
 ·simp
theorem jQ {w:World} {B C q:Nat} {v u:Value} {L:List aj} {O:List au} (h:AL w B v L) (k:ah w C u O) (h1:v.ownBlock=some q) (h2:u.ownBlock=some q):False:=by
 rcases h.2 with ⟨e,_⟩|⟨g,cap,cur,e,_,hc,_⟩
 ·subst e;simp[Value.ownBlock] at h1
 ·subst e
  simp[Value.ownBlock] at h1
  subst h1
  rcases k.2 with ⟨e,_⟩|⟨g2,cap2,cur2,e,_,hc2,_⟩
  ·subst e;simp[Value.ownBlock] at h2
  ·subst e
   simp[Value.ownBlock] at h2
   subst h2
   rw[hc] at hc2
   simp at hc2
theorem qF {w:World} {R B n c:Nat} {a:Option Addr} {u:Value} {O:List au} (hb:w.cell? ⟨R,1,none⟩=some (Sl a n c)) (h:ah w B u O) (hne:O≠[]):∀q,u.ownBlock=some q->q≠R:=by
 intro q hq e
 subst e
 rcases h.2 with ⟨e,_⟩|⟨g,cap,cur,e,_,hc,_⟩
 ·subst e;simp[Value.ownBlock] at hq
 ·subst e
  simp[Value.ownBlock] at hq
  subst hq
  cases O with
  | nil=>exact hne rfl
  | cons x r=>
   have:=World.ownsRow.cellAt h 1 (by simp;omega)
   rw[hb] at this
   simp[an] at this
theorem AL.by {w w':World} {B:Nat} {v:Value} {l:List aj} {row:Option Nat} (h:AL w B v l) (g:w.grownBy w' row) (hne:∀q,v.ownBlock=some q->row=some q->False):AL w' B v l:=World.ownsRow.kept h g (by
 cases hb:v.ownBlock with
 | none=>exact Or.inl rfl
 | some q=>right;intro e;exact hne q hb e.symm)
theorem AL.off {w:World} {B:Nat} {v:Value} {L:List aj} (h:AL w B v L) {Q:Nat} (hQ:∀q,v.ownBlock=some q->q≠Q) (o:Nat) (u:Value):AL (w.setCell ⟨Q,o,none⟩ u) B v L:=pM h hQ o u
theorem gq (a:Option Addr) (c:Nat) (P:List au) (n:Int) (w:World) (h:aG w a P.length (ae P)) (hR:bB (ae P) P.length) (ht:bv P n):
  Calls Pg 157 #[Sl a P.length c,Ii Jj n] w fun e w'=>e=.returned (.tuple #[Ii Jj (jW P n:Nat),.bool true])/\Below w.heap.size w w':=by
 have BS:Hid (Calls Pg 172 #[Sl a P.length c,Ii Jj n,.func (.func 173) #[] #[]] w fun e w'=>e=.returned (.tuple #[Ii Jj (jW P n:Nat),.bool true])/\Below w.heap.size w w'):=(kS a c P n w h (dB hR)).mono (by
  rintro e w' ⟨r,hr,hH,rfl,hB⟩
  rw[jJ hr hH,decide_eq_true ((kT hR hH).2 ht)]
  exact ⟨rfl,hB⟩)
 have hn:=h.1
 clear h hR ht
 generalize jW P n=r at*
 go_enter Tryz.func157,Tryz.ntmps157
 go_wp2_with (go_at_call 172;refine BS.out.mono ?_;rintro e w1 ⟨rfl,B1⟩)
 go_ret2
 exact ⟨rfl,B1⟩
theorem gX (a:Option Addr) (c:Nat) (P:List au) (n:Int) (w:World) (h:aG w a P.length (ae P)) (hR:bB (ae P) P.length) (ht:¬bv P n):
  Calls Pg 157 #[Sl a P.length c,Ii Jj n] w fun e w'=>e=.returned (.tuple #[Ii Jj (jW P n:Nat),.bool false])/\Below w.heap.size w w':=by
 have BS:Hid (Calls Pg 172 #[Sl a P.length c,Ii Jj n,.func (.func 173) #[] #[]] w fun e w'=>e=.returned (.tuple #[Ii Jj (jW P n:Nat),.bool false])/\Below w.heap.size w w'):=(kS a c P n w h (dB hR)).mono (by
  rintro e w' ⟨r,hr,hH,rfl,hB⟩
  rw[jJ hr hH,decide_eq_false (fun hh=>ht ((kT hR hH).1 hh))]
  exact ⟨rfl,hB⟩)
 have hn:=h.1
 clear h hR ht
 generalize jW P n=r at*
 go_enter Tryz.func157,Tryz.ntmps157
 go_wp2_with (go_at_call 172;refine BS.out.mono ?_;rintro e w1 ⟨rfl,B1⟩)
 go_ret2
 exact ⟨rfl,B1⟩
theorem kp (R:Nat) (a b:Option Addr) (c d:Nat) (L:List aj) (O:List au) (k:Bk) (o:au) (w:World) (hX:bW w R (Sl a L.length c) (Sl b O.length d) k) (hO:aG w b O.length (ae O)) (hR:bB (ae O) O.length) (ht:bv O o.id):
  Calls Pg 130 #[.pointer (some ⟨R,0,none⟩),.agg #[Ii Jj o.id,Ii Jj o.src,Ii Jj o.dst,Ii Jj o.amount,Ii Jj o.first,Ii Jj o.every,Ii Jj o.times]] w fun e w'=>e=.returned (Ii Jj 4)/\Below w.heap.size w w':=by
 obtain ⟨W0,hW0⟩:∃W0,W0=w.alloc (.cells #[Ii Jj o.id,Ii Jj o.src,Ii Jj o.dst,Ii Jj o.amount,Ii Jj o.first,Ii Jj o.every,Ii Jj o.times] 45):=⟨_,rfl⟩
 have b0:Below w.heap.size w W0:=by rw[hW0];exact (Below.refl _ _).alloc (Nf _) _
 have hz0:W0.heap.size=w.heap.size+1:=by rw[hW0];simp
 have hRw:=hX.2.2
 have X0:=aa (hX.kept b0 hRw)
 have Q0:Hid (ak W0 w.heap.size (Ii Jj o.id) (Ii Jj o.src) (Ii Jj o.dst) (Ii Jj o.amount) (Ii Jj o.first) (Ii Jj o.every) (Ii Jj o.times)):=by
  show ak _ _ _ _ _ _ _ _ _;rw[hW0];exact ak.new w _ _ _ _ _ _ _ 45
 have HB0:=aa b0
 have HW0:=aa hW0
 have PL:Hid (Calls Pg 157 #[Sl b O.length d,Ii Jj o.id] W0.drew fun e w'=>e=.returned (.tuple #[Ii Jj (jW O o.id:Nat),.bool true])/\Below W0.drew.heap.size W0.drew w'):=gq b d O o.id W0.drew (show aG W0 b O.length (ae O) from hO.below b0) hR ht
 clear hW0 b0 hX hO hR ht
 generalize jW O o.id=r at*
 obtain ⟨⟨s0,s1,s2,s3,s4,s5,s6⟩,sf,sz⟩:=X0.out
 obtain ⟨⟨t0,t1,t2,t3,t4,t5,t6⟩,tf,tz⟩:=Q0.out
 have hsl:R<W0.drew.heap.size:=sz
 have htl:w.heap.size<W0.drew.heap.size:=tz
 go_enter Tryz.func130,Tryz.ntmps130
 go_upto_region 1 with fail
 rw[←HW0.out]
 clear HW0
 go_region_held3 (fun V=>V.cell? ⟨R,2,none⟩=some (Sl b O.length d)/\V.cell? ⟨w.heap.size,0,none⟩=some (Ii Jj o.id)) (first|exact ⟨s2,t0⟩|exact ⟨(B1.cell (p:=⟨R,2,none⟩) hsl).trans s2,(B1.cell (p:=⟨w.heap.size,0,none⟩) htl).trans t0⟩) (first|(go_at_call 157;refine PL.out.mono ?_;rintro e w1 ⟨rfl,B1⟩))
 have HB1:Hid (Below w.heap.size w w1):=HB0.out.trans ((show Below W0.heap.size W0 w1 from ⟨B1.os,B1.tape,B1.output,B1.size,B1.block⟩).mono HB0.out.size)
 clear B1 PL X0 Q0 s0 s1 s2 s3 s4 s5 s6 sf sz t0 t1 t2 t3 t4 t5 t6 tf tz
 go_wp2
 go_ret
 exact ⟨rfl,HB1.out⟩
theorem nK (B R:Nat) (a b:Option Addr) (c d:Nat) (L:List aj) (O:List au) (k:Bk) (o:au) (w:World) (hX:bW w R (Sl a L.length c) (Sl b O.length d) k) (hA:AL w B (Sl a L.length c) L) (hO:ah w B (Sl b O.length d) O) (haR:∀q,(Value.slice a L.length c).ownBlock=some q->q≠R) (hbR:∀q,(Value.slice b O.length d).ownBlock=some q->q≠R) (hBR:B<=R) (hR:bB (ae O) O.length) (ht:¬bv O o.id):
  Calls Pg 130 #[.pointer (some ⟨R,0,none⟩),.agg #[Ii Jj o.id,Ii Jj o.src,Ii Jj o.dst,Ii Jj o.amount,Ii Jj o.first,Ii Jj o.every,Ii Jj o.times]] w fun e w'=>e=.returned (Ii Jj 0)/\Below B w w'/\∃u,bW w' R (Sl a L.length c) (u) k/\AL w' B (Sl a L.length c) L/\ah w' B u (bd O o):=by
 have hol:O.length<=8:=hR.1
 obtain ⟨W0,hW0⟩:∃W0,W0=w.alloc (.cells #[Ii Jj o.id,Ii Jj o.src,Ii Jj o.dst,Ii Jj o.amount,Ii Jj o.first,Ii Jj o.every,Ii Jj o.times] 45):=⟨_,rfl⟩
 have b0:Below w.heap.size w W0:=by rw[hW0];exact (Below.refl _ _).alloc (Nf _) _
 have hz0:W0.heap.size=w.heap.size+1:=by rw[hW0];simp
 have hRw:=hX.2.2
 have X0:=aa (hX.kept b0 hRw)
 have Q0:Hid (ak W0 w.heap.size (Ii Jj o.id) (Ii Jj o.src) (Ii Jj o.dst) (Ii Jj o.amount) (Ii Jj o.first) (Ii Jj o.every) (Ii Jj o.times)):=by
  show ak _ _ _ _ _ _ _ _ _;rw[hW0];exact ak.new w _ _ _ _ _ _ _ 45
 have HB0:=aa b0
 have HW0:=aa hW0
 have PL:Hid (Calls Pg 157 #[Sl b O.length d,Ii Jj o.id] W0.drew fun e w'=>e=.returned (.tuple #[Ii Jj (jW O o.id:Nat),.bool false])/\Below W0.drew.heap.size W0.drew w'):=gX b d O o.id W0.drew (show aG W0 b O.length (ae O) from ((hO.list (by omega)).2).below b0) hR ht
 have A0:=aa (hA.kept b0)
 have O0:=aa (hO.kept b0)
 have HAR:=aa haR
 have HBR:Hid (∀q,(Value.slice b O.length d).ownBlock=some q->q≠R/\q<w.heap.size):=fun q hq=>⟨hbR q hq,(World.ownsRow.lt hO q hq).2⟩
 obtain ⟨r,hr⟩:∃r,r=jW O o.id:=⟨_,rfl⟩
 have HR:Hid (bd O o=O.take r++o::O.drop r):=by rw[hr];rfl
 have hrl:r<=O.length:=by rw[hr];exact pd O o.id
 rw[←hr] at PL
 clear hW0 b0 hX hO hR ht hA haR hbR hr
 obtain ⟨⟨s0,s1,s2,s3,s4,s5,s6⟩,sf,sz⟩:=X0.out
 obtain ⟨⟨t0,t1,t2,t3,t4,t5,t6⟩,tf,tz⟩:=Q0.out
 have hsl:R<W0.drew.heap.size:=sz
 have htl:w.heap.size<W0.drew.heap.size:=tz
 go_enter Tryz.func130,Tryz.ntmps130
 go_upto_region 1 with fail
 rw[←HW0.out]
 clear HW0
 go_region_held3 (fun V=>V.cell? ⟨R,2,none⟩=some (Sl b O.length d)/\V.cell? ⟨w.heap.size,0,none⟩=some (Ii Jj o.id)) (first|exact ⟨s2,t0⟩|exact ⟨(B1.cell (p:=⟨R,2,none⟩) hsl).trans s2,(B1.cell (p:=⟨w.heap.size,0,none⟩) htl).trans t0⟩) (first|(go_at_call 157;refine PL.out.mono ?_;rintro e w1 ⟨rfl,B1⟩))
 have B1':Below W0.heap.size W0 w1:=⟨B1.os,B1.tape,B1.output,B1.size,B1.block⟩
 have hs1:=B1'.size
 have X1:=aa (X0.out.kept B1' sz)
 have Q1:=aa (Q0.out.kept B1' tz)
 have A1:AL w1 B (Sl a L.length c) L:=A0.out.kept B1'
 have O1:ah w1 B (Sl b O.length d) O:=O0.out.kept B1'
 have HB1:Below w.heap.size w w1:=HB0.out.trans (B1'.mono HB0.out.size)
 obtain ⟨W3,hW3⟩:∃W3,W3=w1.drew.alloc (.cells #[Ii Jj o.id,Ii Jj o.src,Ii Jj o.dst,Ii Jj o.amount,Ii Jj o.first,Ii Jj o.every,Ii Jj o.times] 45):=⟨_,rfl⟩
 have D3:Below w1.heap.size w1 W3:=by
  rw[hW3]
  exact (show Below w1.heap.size w1 w1.drew from ⟨rfl,rfl,rfl,Nf _,fun _ _=>rfl⟩).alloc (Nf _) _
 have hs3:W3.heap.size=w1.heap.size+1:=by rw[hW3];simp
 have one3:ee W3 w1.heap.size o:=by
  unfold ee
  rw[hW3]
  show (w1.heap.push _)[w1.heap.size]? =_
  simp
  rfl
 have hown:∀q,(Value.slice b O.length d).ownBlock=some q->q<w1.heap.size:=fun q hq=>by have:=(HBR.out q hq).2;omega
 have X3:bW W3 R (Sl a L.length c) (Sl b O.length d) k:=X1.out.kept D3 X1.out.2.2
 have A3:AL W3 B (Sl a L.length c) L:=A1.kept D3
 have O3:ah W3 B (Sl b O.length d) O:=O1.kept D3
 have INS:Hid (∀V,V=W3->Calls Pg 158 #[Sl b O.length d,Ii Jj r,Sl (some ⟨w1.heap.size,0,none⟩) 1 1] V fun e w'=>∃b' d',e=.returned (Sl b' (bd O o).length d')/\bW w' R (Sl a L.length c) (Sl b O.length d) k/\AL w' B (Sl a L.length c) L/\ah w' B (Sl b' (bd O o).length d') (bd O o)/\Below B w w'/\(∀q,(Value.slice b' (bd O o).length d').ownBlock=some q->q≠R)):=fun V hV=>by
  subst hV
  refine (nI B (Sl b O.length d) O r o w1.heap.size V O3 (by have:=X3.2.2;omega) hrl (by omega) one3 (by omega) (fun e=>by have:=hown _ e;omega)).mono ?_
  rintro e w' ⟨u,rfl,O4,B4,G4⟩
  rw[←HR.out] at O4
  obtain ⟨b',d',rfl⟩:=O4.len
  have X4:bW w' R (Sl a L.length c) (Sl b O.length d) k:=X3.same (G4.block _ X3.2.2 (fun e=>(HBR.out R e.symm).1 rfl))
  refine ⟨b',d',rfl,X4,A3.by G4 (fun q h1 h2=>jQ A3 O3 h1 h2),O4,?_,?_⟩
  ·have hbw:B<=w.heap.size:=by omega
   exact ((HB1.trans (D3.mono HB1.size)).mono hbw).trans B4
  ·exact qF X4.1.2.1 O4 (by intro e;have:=jL O o;rw[e] at this;simp at this)
 have HW3:=aa hW3
 clear B1 B1' PL X0 Q0 A0 O0 s0 s1 s2 s3 s4 s5 s6 sf sz t0 t1 t2 t3 t4 t5 t6 tf tz hsl htl hW3 one3 X3 A3 O3 A1 O1 HB1 D3 hown HB0
 obtain ⟨⟨s0,s1,s2,s3,s4,s5,s6⟩,sf,sz⟩:=X1.out
 obtain ⟨⟨t0,t1,t2,t3,t4,t5,t6⟩,tf,tz⟩:=Q1.out
 go_wp2
 go_region_with (
  go_at_call 158
  refine (INS.out _ HW3.out.symm).mono ?_
  rintro e w4 ⟨b',d',rfl,X4,A4,O4,B4,hu4⟩
  obtain ⟨⟨y0,y1,y2,y3,y4,y5,y6⟩,yf,yz⟩:=X4)
 all_goals go_wp2
 all_goals go_ret
 all_goals exact ⟨rfl,ai B4 hBR _ _,Sl b' (bd O o).length d',ak.set2 ⟨⟨y0,y1,y2,y3,y4,y5,y6⟩,yf,yz⟩ _,A4.off HAR.out _ _,O4.off hu4 _ _⟩
theorem lR (R:Nat) (a b:Option Addr) (c d:Nat) (L:List aj) (O:List au) (k:Bk) (n:Int) (w:World) (hX:bW w R (Sl a L.length c) (Sl b O.length d) k) (hO:aG w b O.length (ae O)) (hR:bB (ae O) O.length) (ht:¬bv O n):
  Calls Pg 131 #[.pointer (some ⟨R,0,none⟩),Ii Jj n] w fun e w'=>e=.returned (Ii Jj 3)/\Below w.heap.size w w':=by
 have PL:Hid (Calls Pg 157 #[Sl b O.length d,Ii Jj n] w fun e w'=>e=.returned (.tuple #[Ii Jj (jW O n:Nat),.bool false])/\Below w.heap.size w w'):=gX b d O n w hO hR ht
 obtain ⟨⟨s0,s1,s2,s3,s4,s5,s6⟩,sf,sz⟩:=hX
 clear hO hR ht
 generalize jW O n=r at*
 go_enter Tryz.func131,Tryz.ntmps131
 go_wp2_with fail
 refine PL.out.mono ?_
 rintro e w1 ⟨rfl,B1⟩
 clear PL s0 s1 s2 s3 s4 s5 s6 sf sz
 go_wp2
 go_ret
 exact ⟨rfl,B1⟩
theorem nL (B R:Nat) (a b:Option Addr) (c d:Nat) (L:List aj) (O:List au) (k:Bk) (n:Int) (w:World) (hX:bW w R (Sl a L.length c) (Sl b O.length d) k) (hA:AL w B (Sl a L.length c) L) (hO:ah w B (Sl b O.length d) O) (haR:∀q,(Value.slice a L.length c).ownBlock=some q->q≠R) (hbR:∀q,(Value.slice b O.length d).ownBlock=some q->q≠R) (hBR:B<=R) (hR:bB (ae O) O.length) (ht:bv O n):
  Calls Pg 131 #[.pointer (some ⟨R,0,none⟩),Ii Jj n] w fun e w'=>e=.returned (Ii Jj 0)/\Below B w w'/\∃u,bW w' R (Sl a L.length c) (u) k/\AL w' B (Sl a L.length c) L/\ah w' B u (cQ O n):=by
 have hol:O.length<=8:=hR.1
 have PL:Hid (Calls Pg 157 #[Sl b O.length d,Ii Jj n] w fun e w'=>e=.returned (.tuple #[Ii Jj (jW O n:Nat),.bool true])/\Below w.heap.size w w'):=gq b d O n w (hO.list (by omega)).2 hR ht
 obtain ⟨r,hrl,_,hr,_⟩:=fM hR ht
 have HR:Hid (cQ O n=O.take r++O.drop (r+1)):=by rw[←hr];rfl
 rw[hr] at PL
 have hOn:Value.slice b O.length d≠ Sl none 0 0:=by intro e;injection e with _ e2 _;omega
 obtain ⟨g,cg,hg⟩:=hO.own hOn
 obtain ⟨rfl,rfl⟩:b=some ⟨g,0,none⟩/\d=cg:=by simpa using hg
 have hgR:g≠R:=hbR g rfl
 have HA:=aa hA
 have HO:=aa hO
 have HAR:=aa haR
 have HX:=aa hX
 obtain ⟨⟨s0,s1,s2,s3,s4,s5,s6⟩,sf,sz⟩:=hX
 clear hO hR ht hA haR hbR hOn hg hr
 go_enter Tryz.func131,Tryz.ntmps131
 go_wp2_with fail
 refine PL.out.mono ?_
 rintro e w1 ⟨rfl,B1⟩
 have X1:=HX.out.kept B1 sz
 have A1:AL w1 B (Sl a L.length c) L:=HA.out.kept B1
 have O1:ah w1 B (Sl (some ⟨g,0,none⟩) O.length d) O:=HO.out.kept B1
 have DEL:Hid (Calls Pg 159 #[Sl (some ⟨g,0,none⟩) O.length d,Ii Jj r,Ii Jj ((r:Int)+1)] w1 fun e w'=>e=.returned (Sl (some ⟨g,0,none⟩) (O.length-1) d)/\bW w' R (Sl a L.length c) (Sl (some ⟨g,0,none⟩) O.length d) k/\AL w' B (Sl a L.length c) L/\ah w' B (Sl (some ⟨g,0,none⟩) (O.length-1) d) (cQ O n)/\Below B w w'):=
  (nH B g d O r w1 O1 hrl (by omega)).mono (by
   rintro e w' ⟨rfl,O4,B4,G4⟩
   rw[←HR.out] at O4
   exact ⟨rfl,X1.same (G4.block _ X1.2.2 (by simp;exact fun e=>hgR e.symm)),A1.by G4 (fun q h1 h2=>jQ A1 O1 h1 h2),O4,(B1.mono (by omega)).trans B4⟩)
 clear s0 s1 s2 s3 s4 s5 s6 sf sz PL HX HA HO A1 O1 B1
 obtain ⟨⟨s0,s1,s2,s3,s4,s5,s6⟩,sf,sz⟩:=X1
 go_wp2_with fail
 refine DEL.out.mono ?_
 rintro e w4 ⟨rfl,X4,A4,O4,B4⟩
 clear s0 s1 s2 s3 s4 s5 s6 sf sz DEL
 obtain ⟨⟨y0,y1,y2,y3,y4,y5,y6⟩,yf,yz⟩:=X4
 have HA4:=aa A4
 have HO4:=aa O4
 have HB4:=aa B4
 clear A4 O4 B4
 go_wp2
 go_ret
 exact ⟨rfl,ai HB4.out hBR _ _,Sl (some ⟨g,0,none⟩) (O.length-1) d,ak.set2 ⟨⟨y0,y1,y2,y3,y4,y5,y6⟩,yf,yz⟩ _,HA4.out.off HAR.out _ _,HO4.out.off (fun q hq=>by simp[Value.ownBlock] at hq;omega) _ _⟩
theorem pg (R:Nat) (a b:Option Addr) (c d:Nat) (L:List aj) (O:List au) (k:Bk) (p:Nat->Addr) (w:World) (hX:bW w R (Sl a L.length c) (Sl b O.length d) k) (hF:Fo w a L.length (FL L)) (hO:aG w b O.length (ae O)) (hG:GE w p) (hn:¬cU L O k):
  Calls Pg 132 #[.pointer (some ⟨R,0,none⟩)] w fun e w'=>e=.returned (Ii Jj 7)/\Below w.heap.size w w':=by
 have ED:Hid (Calls Pg 22 #[.agg #[Ii Jj k.day,Sl a L.length c,Sl b O.length d,Ii Jj k.inn,Ii Jj k.out,Ii Jj k.posted,Ii Jj k.missed]] w fun e w'=>e=.returned (.tuple #[.agg #[Ii Jj 0,Sl none 0 0,Sl none 0 0,Ii Jj 0,Ii Jj 0,Ii Jj 0,Ii Jj 0],.bool false])/\Below w.heap.size w w'):=(kQ a b c d L O k p w hF hO hG).mono (by
  rintro e w' (⟨⟨_,h⟩,_⟩|⟨_,h⟩)
  ·exact absurd h hn
  ·exact h)
 obtain ⟨⟨s0,s1,s2,s3,s4,s5,s6⟩,sf,sz⟩:=hX
 clear hF hO hG hn
 go_enter Tryz.func132,Tryz.ntmps132
 go_wp2_with fail
 refine ED.out.mono ?_
 rintro e w1 ⟨rfl,B1⟩
 have HB1:=aa B1
 clear ED s0 s1 s2 s3 s4 s5 s6 sf B1
 go_wp2
 go_ret
 exact ⟨rfl,HB1.out.alloc HB1.out.size _⟩
theorem nM (B R:Nat) (a b:Option Addr) (c d:Nat) (L:List aj) (O:List au) (k:Bk) (p:Nat->Addr) (w:World) (hX:bW w R (Sl a L.length c) (Sl b O.length d) k) (hF:Fo w a L.length (FL L)) (hO:aG w b O.length (ae O)) (hG:GE w p) (hBR:B<=R) (hb:aq (FL L) L.length (ae O) O.length k) (hn:cU L O k):
  Calls Pg 132 #[.pointer (some ⟨R,0,none⟩)] w fun e w'=>e=.returned (Ii Jj 0)/\Below B w w'/\∃v u,bW w' R (v) (u) (bh L O k)/\AL w' B v (ct L O k)/\ah w' B u (bU O k):=by
 have ED:Hid (Calls Pg 22 #[.agg #[Ii Jj k.day,Sl a L.length c,Sl b O.length d,Ii Jj k.inn,Ii Jj k.out,Ii Jj k.posted,Ii Jj k.missed]] w fun e w'=>∃v u,e=.returned (.tuple #[.agg #[Ii Jj (bh L O k).day,v,u,Ii Jj (bh L O k).inn,Ii Jj (bh L O k).out,Ii Jj (bh L O k).posted,Ii Jj (bh L O k).missed],.bool true])/\AL w' w.heap.size v (ct L O k)/\ah w' w.heap.size u (bU O k)/\Below w.heap.size w w'):=(kQ a b c d L O k p w hF hO hG).mono (by
  rintro e w' (⟨_,h⟩|⟨h,_⟩)
  ·exact h
  ·exact absurd ⟨hb,hn⟩ h)
 have HX:=aa hX
 obtain ⟨⟨s0,s1,s2,s3,s4,s5,s6⟩,sf,sz⟩:=hX
 clear hF hO hG hn hb
 generalize bh L O k=K2 at*
 generalize ct L O k=A2 at*
 generalize bU O k=O2 at*
 go_enter Tryz.func132,Tryz.ntmps132
 go_wp2_with fail
 refine ED.out.mono ?_
 rintro e w1 ⟨v1,u1,rfl,A1,U1,B1⟩
 obtain ⟨a1,c1,hv⟩:=A1.len
 subst hv
 obtain ⟨b1,d1,hv,_⟩:=U1.shape
 subst hv
 obtain ⟨W2,hW2⟩:∃W2,W2=w1.alloc (.cells #[Ii Jj K2.day,Sl a1 A2.length c1,Sl b1 O2.length d1,Ii Jj K2.inn,Ii Jj K2.out,Ii Jj K2.posted,Ii Jj K2.missed] 38):=⟨_,rfl⟩
 have D2:Below w1.heap.size w1 W2:=by rw[hW2];exact (Below.refl _ _).alloc (Nf _) _
 have hs1:=B1.size
 have X1:=HX.out.kept B1 sz
 have X2:=X1.kept D2 X1.2.2
 have Y2:bW W2 w1.heap.size (Sl a1 A2.length c1) (Sl b1 O2.length d1) K2:=by rw[hW2];exact ak.new w1 _ _ _ _ _ _ _ 38
 have HA2:=aa (A1.kept D2)
 have HO2:=aa (U1.kept D2)
 have HB2:=aa (B1.trans (D2.mono B1.size))
 have HW2:=aa hW2
 clear ED s0 s1 s2 s3 s4 s5 s6 sf A1 U1 B1 D2 hW2 X1 HX
 obtain ⟨⟨s0,s1,s2,s3,s4,s5,s6⟩,sf,sz2⟩:=X2
 obtain ⟨⟨t0,t1,t2,t3,t4,t5,t6⟩,tf,tz⟩:=Y2
 have hne1:¬R=w1.heap.size:=by omega
 have hne2:¬w1.heap.size=R:=by omega
 go_upto_region 2 with fail
 rw[←HW2.out]
 clear HW2
 go_wp2
 go_ret
 refine ⟨rfl,?_,Sl a1 A2.length c1,Sl b1 O2.length d1,((((((ak.set0 ⟨⟨s0,s1,s2,s3,s4,s5,s6⟩,sf,sz2⟩ _).set1 _).set2 _).set3 _).set4 _).set5 _).set6 _,?_,?_⟩
 ·repeat (refine ai ?_ hBR _ _)
  exact HB2.out.mono (by omega)
 ·refine AL.mono (B:=w.heap.size) ?_ (by omega)
  repeat (refine AL.far ?_ sz _ _)
  exact HA2.out
 ·refine ah.mono (B:=w.heap.size) ?_ (by omega)
  repeat (refine ah.far ?_ sz _ _)
  exact HO2.out
end Go.Proofs.YtghkbhggopiajaaGreatDoor
