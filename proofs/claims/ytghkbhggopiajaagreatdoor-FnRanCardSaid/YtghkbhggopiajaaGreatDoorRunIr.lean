/- The ops of the program's run. -/
import Derived.Test.YtghkbhggopiajaaGreatDoorOPlr
set_option maxHeartbeats 4000000
namespace Go.Proofs.YtghkbhggopiajaaGreatDoor
open Go.RowKit
set_option maxRecDepth 8000
theorem doneS_len (L:List Acc) (k i t m r:Int):(doneS L k i t m r).2.length<=L.length+1:=by
 have:=partS_len L k i t m r
 unfold doneS finS
 split
 ·split
  ·split
   ·exact this
   ·simp
  ·simp
 ·simp
theorem rows_apart {w:World} {B C q:Nat} {v u:Value} {L:List Acc} {O:List Ord} (h:AL w B v L) (k:OrdL w C u O) (h1:v.ownBlock=some q) (h2:u.ownBlock=some q):False:=by
 rcases h.2 with ⟨e,_⟩|⟨g,cap,cur,e,_,hc,_⟩
 ·subst e;simp[Value.ownBlock] at h1
 ·subst e
  simp[Value.ownBlock] at h1
  subst h1
  rcases k.2 with ⟨e,_⟩|⟨g2,cap2,cur2,e,_,hc2,_⟩
  ·subst e;simp[Value.ownBlock] at h2
  ·subst e
   simp[Value.ownBlock] at h2
   subst h2
   rw[hc] at hc2
   simp at hc2
theorem box_apart {w:World} {R B n c:Nat} {a:Option Addr} {u:Value} {O:List Ord} (hb:w.cell? ⟨R,1,none⟩=some (.slice a n c)) (h:OrdL w B u O) (hne:O≠[]):∀q,u.ownBlock=some q->q≠R:=by
 intro q hq e
 subst e
 rcases h.2 with ⟨e,_⟩|⟨g,cap,cur,e,_,hc,_⟩
 ·subst e;simp[Value.ownBlock] at hq
 ·subst e
  simp[Value.ownBlock] at hq
  subst hq
  cases O with
  | nil=>exact hne rfl
  | cons x r=>
   have:=World.ownsRow.cellAt h 1 (by simp;omega)
   rw[hb] at this
   simp[OrdC] at this
theorem AL.by {w w':World} {B:Nat} {v:Value} {l:List Acc} {row:Option Nat} (h:AL w B v l) (g:w.grownBy w' row) (hne:∀q,v.ownBlock=some q->row=some q->False):AL w' B v l:=World.ownsRow.kept h g (by
 cases hb:v.ownBlock with
 | none=>exact Or.inl rfl
 | some q=>right;intro e;exact hne q hb e.symm)
theorem AL.off {w:World} {B:Nat} {v:Value} {L:List Acc} (h:AL w B v L) {Q:Nat} (hQ:∀q,v.ownBlock=some q->q≠Q) (o:Nat) (u:Value):AL (w.setCell ⟨Q,o,none⟩ u) B v L:=row_off h hQ o u
theorem implPlace_yes (a:Option Addr) (c:Nat) (P:List Ord) (n:Int) (w:World) (h:Ords w a P.length (OrdF P)) (hR:RightO (OrdF P) P.length) (ht:thereO P n):
  Calls Tryz.prog 157 #[.slice a P.length c,.int .i64 n] w fun e w'=>e=.returned (.tuple #[.int .i64 (plc P n:Nat),.bool true])/\Below w.heap.size w w':=by
 have BS:Hid (Calls Tryz.prog 172 #[.slice a P.length c,.int .i64 n,.func (.func 173) #[] #[]] w fun e w'=>e=.returned (.tuple #[.int .i64 (plc P n:Nat),.bool true])/\Below w.heap.size w w'):=(binSearch a c P n w h (rightO_rise hR)).mono (by
  rintro e w' ⟨r,hr,hH,rfl,hB⟩
  rw[plc_eq hr hH,decide_eq_true ((there_iff hR hH).2 ht)]
  exact ⟨rfl,hB⟩)
 have hn:=h.1
 clear h hR ht
 generalize plc P n=r at*
 go_enter Tryz.func157,Tryz.ntmps157
 go_wp2_with (go_at_call 172;refine BS.out.mono ?_;rintro e w1 ⟨rfl,B1⟩)
 go_ret2
 exact ⟨rfl,B1⟩
theorem implPlace_no (a:Option Addr) (c:Nat) (P:List Ord) (n:Int) (w:World) (h:Ords w a P.length (OrdF P)) (hR:RightO (OrdF P) P.length) (ht:¬thereO P n):
  Calls Tryz.prog 157 #[.slice a P.length c,.int .i64 n] w fun e w'=>e=.returned (.tuple #[.int .i64 (plc P n:Nat),.bool false])/\Below w.heap.size w w':=by
 have BS:Hid (Calls Tryz.prog 172 #[.slice a P.length c,.int .i64 n,.func (.func 173) #[] #[]] w fun e w'=>e=.returned (.tuple #[.int .i64 (plc P n:Nat),.bool false])/\Below w.heap.size w w'):=(binSearch a c P n w h (rightO_rise hR)).mono (by
  rintro e w' ⟨r,hr,hH,rfl,hB⟩
  rw[plc_eq hr hH,decide_eq_false (fun hh=>ht ((there_iff hR hH).1 hh))]
  exact ⟨rfl,hB⟩)
 have hn:=h.1
 clear h hR ht
 generalize plc P n=r at*
 go_enter Tryz.func157,Tryz.ntmps157
 go_wp2_with (go_at_call 172;refine BS.out.mono ?_;rintro e w1 ⟨rfl,B1⟩)
 go_ret2
 exact ⟨rfl,B1⟩
theorem implAdd_there (R:Nat) (a b:Option Addr) (c d:Nat) (L:List Acc) (O:List Ord) (k:Bk) (o:Ord) (w:World) (hX:BxK w R (.slice a L.length c) (.slice b O.length d) k) (hO:Ords w b O.length (OrdF O)) (hR:RightO (OrdF O) O.length) (ht:thereO O o.id):
  Calls Tryz.prog 130 #[.pointer (some ⟨R,0,none⟩),.agg #[.int .i64 o.id,.int .i64 o.src,.int .i64 o.dst,.int .i64 o.amount,.int .i64 o.first,.int .i64 o.every,.int .i64 o.times]] w fun e w'=>e=.returned (.int .i64 4)/\Below w.heap.size w w':=by
 obtain ⟨W0,hW0⟩:∃W0,W0=w.alloc (.cells #[.int .i64 o.id,.int .i64 o.src,.int .i64 o.dst,.int .i64 o.amount,.int .i64 o.first,.int .i64 o.every,.int .i64 o.times] 45):=⟨_,rfl⟩
 have b0:Below w.heap.size w W0:=by rw[hW0];exact (Below.refl _ _).alloc (Nat.le_refl _) _
 have hz0:W0.heap.size=w.heap.size+1:=by rw[hW0];simp
 have hRw:=hX.2.2
 have X0:=hidOf (hX.kept b0 hRw)
 have Q0:Hid (Box7 W0 w.heap.size (.int .i64 o.id) (.int .i64 o.src) (.int .i64 o.dst) (.int .i64 o.amount) (.int .i64 o.first) (.int .i64 o.every) (.int .i64 o.times)):=by
  show Box7 _ _ _ _ _ _ _ _ _;rw[hW0];exact Box7.new w _ _ _ _ _ _ _ 45
 have HB0:=hidOf b0
 have HW0:=hidOf hW0
 have PL:Hid (Calls Tryz.prog 157 #[.slice b O.length d,.int .i64 o.id] W0.drew fun e w'=>e=.returned (.tuple #[.int .i64 (plc O o.id:Nat),.bool true])/\Below W0.drew.heap.size W0.drew w'):=implPlace_yes b d O o.id W0.drew (show Ords W0 b O.length (OrdF O) from hO.below b0) hR ht
 clear hW0 b0 hX hO hR ht
 generalize plc O o.id=r at*
 obtain ⟨⟨s0,s1,s2,s3,s4,s5,s6⟩,sf,sz⟩:=X0.out
 obtain ⟨⟨t0,t1,t2,t3,t4,t5,t6⟩,tf,tz⟩:=Q0.out
 have hsl:R<W0.drew.heap.size:=sz
 have htl:w.heap.size<W0.drew.heap.size:=tz
 go_enter Tryz.func130,Tryz.ntmps130
 go_upto_region 1 with fail
 rw[←HW0.out]
 clear HW0
 go_region_held3 (fun V=>V.cell? ⟨R,2,none⟩=some (.slice b O.length d)/\V.cell? ⟨w.heap.size,0,none⟩=some (.int .i64 o.id)) (first|exact ⟨s2,t0⟩|exact ⟨(B1.cell (p:=⟨R,2,none⟩) hsl).trans s2,(B1.cell (p:=⟨w.heap.size,0,none⟩) htl).trans t0⟩) (first|(go_at_call 157;refine PL.out.mono ?_;rintro e w1 ⟨rfl,B1⟩))
 have HB1:Hid (Below w.heap.size w w1):=HB0.out.trans ((show Below W0.heap.size W0 w1 from ⟨B1.os,B1.tape,B1.output,B1.size,B1.block⟩).mono HB0.out.size)
 clear B1 PL X0 Q0 s0 s1 s2 s3 s4 s5 s6 sf sz t0 t1 t2 t3 t4 t5 t6 tf tz
 go_wp2
 go_ret
 exact ⟨rfl,HB1.out⟩
theorem implAdd_new (B R:Nat) (a b:Option Addr) (c d:Nat) (L:List Acc) (O:List Ord) (k:Bk) (o:Ord) (w:World) (hX:BxK w R (.slice a L.length c) (.slice b O.length d) k) (hA:AL w B (.slice a L.length c) L) (hO:OrdL w B (.slice b O.length d) O) (haR:∀q,(Value.slice a L.length c).ownBlock=some q->q≠R) (hbR:∀q,(Value.slice b O.length d).ownBlock=some q->q≠R) (hBR:B<=R) (hR:RightO (OrdF O) O.length) (ht:¬thereO O o.id):
  Calls Tryz.prog 130 #[.pointer (some ⟨R,0,none⟩),.agg #[.int .i64 o.id,.int .i64 o.src,.int .i64 o.dst,.int .i64 o.amount,.int .i64 o.first,.int .i64 o.every,.int .i64 o.times]] w fun e w'=>e=.returned (.int .i64 0)/\Below B w w'/\∃u,BxK w' R (.slice a L.length c) (u) k/\AL w' B (.slice a L.length c) L/\OrdL w' B u (newO O o):=by
 have hol:O.length<=8:=hR.1
 obtain ⟨W0,hW0⟩:∃W0,W0=w.alloc (.cells #[.int .i64 o.id,.int .i64 o.src,.int .i64 o.dst,.int .i64 o.amount,.int .i64 o.first,.int .i64 o.every,.int .i64 o.times] 45):=⟨_,rfl⟩
 have b0:Below w.heap.size w W0:=by rw[hW0];exact (Below.refl _ _).alloc (Nat.le_refl _) _
 have hz0:W0.heap.size=w.heap.size+1:=by rw[hW0];simp
 have hRw:=hX.2.2
 have X0:=hidOf (hX.kept b0 hRw)
 have Q0:Hid (Box7 W0 w.heap.size (.int .i64 o.id) (.int .i64 o.src) (.int .i64 o.dst) (.int .i64 o.amount) (.int .i64 o.first) (.int .i64 o.every) (.int .i64 o.times)):=by
  show Box7 _ _ _ _ _ _ _ _ _;rw[hW0];exact Box7.new w _ _ _ _ _ _ _ 45
 have HB0:=hidOf b0
 have HW0:=hidOf hW0
 have PL:Hid (Calls Tryz.prog 157 #[.slice b O.length d,.int .i64 o.id] W0.drew fun e w'=>e=.returned (.tuple #[.int .i64 (plc O o.id:Nat),.bool false])/\Below W0.drew.heap.size W0.drew w'):=implPlace_no b d O o.id W0.drew (show Ords W0 b O.length (OrdF O) from ((hO.list (by omega)).2).below b0) hR ht
 have A0:=hidOf (hA.kept b0)
 have O0:=hidOf (hO.kept b0)
 have HAR:=hidOf haR
 have HBR:Hid (∀q,(Value.slice b O.length d).ownBlock=some q->q≠R/\q<w.heap.size):=fun q hq=>⟨hbR q hq,(World.ownsRow.lt hO q hq).2⟩
 obtain ⟨r,hr⟩:∃r,r=plc O o.id:=⟨_,rfl⟩
 have HR:Hid (newO O o=O.take r++o::O.drop r):=by rw[hr];rfl
 have hrl:r<=O.length:=by rw[hr];exact plc_le O o.id
 rw[←hr] at PL
 clear hW0 b0 hX hO hR ht hA haR hbR hr
 obtain ⟨⟨s0,s1,s2,s3,s4,s5,s6⟩,sf,sz⟩:=X0.out
 obtain ⟨⟨t0,t1,t2,t3,t4,t5,t6⟩,tf,tz⟩:=Q0.out
 have hsl:R<W0.drew.heap.size:=sz
 have htl:w.heap.size<W0.drew.heap.size:=tz
 go_enter Tryz.func130,Tryz.ntmps130
 go_upto_region 1 with fail
 rw[←HW0.out]
 clear HW0
 go_region_held3 (fun V=>V.cell? ⟨R,2,none⟩=some (.slice b O.length d)/\V.cell? ⟨w.heap.size,0,none⟩=some (.int .i64 o.id)) (first|exact ⟨s2,t0⟩|exact ⟨(B1.cell (p:=⟨R,2,none⟩) hsl).trans s2,(B1.cell (p:=⟨w.heap.size,0,none⟩) htl).trans t0⟩) (first|(go_at_call 157;refine PL.out.mono ?_;rintro e w1 ⟨rfl,B1⟩))
 have B1':Below W0.heap.size W0 w1:=⟨B1.os,B1.tape,B1.output,B1.size,B1.block⟩
 have hs1:=B1'.size
 have X1:=hidOf (X0.out.kept B1' sz)
 have Q1:=hidOf (Q0.out.kept B1' tz)
 have A1:AL w1 B (.slice a L.length c) L:=A0.out.kept B1'
 have O1:OrdL w1 B (.slice b O.length d) O:=O0.out.kept B1'
 have HB1:Below w.heap.size w w1:=HB0.out.trans (B1'.mono HB0.out.size)
 obtain ⟨W3,hW3⟩:∃W3,W3=w1.drew.alloc (.cells #[.int .i64 o.id,.int .i64 o.src,.int .i64 o.dst,.int .i64 o.amount,.int .i64 o.first,.int .i64 o.every,.int .i64 o.times] 45):=⟨_,rfl⟩
 have D3:Below w1.heap.size w1 W3:=by
  rw[hW3]
  exact (show Below w1.heap.size w1 w1.drew from ⟨rfl,rfl,rfl,Nat.le_refl _,fun _ _=>rfl⟩).alloc (Nat.le_refl _) _
 have hs3:W3.heap.size=w1.heap.size+1:=by rw[hW3];simp
 have one3:OneO W3 w1.heap.size o:=by
  unfold OneO
  rw[hW3]
  show (w1.heap.push _)[w1.heap.size]? =_
  simp
  rfl
 have hown:∀q,(Value.slice b O.length d).ownBlock=some q->q<w1.heap.size:=fun q hq=>by have:=(HBR.out q hq).2;omega
 have X3:BxK W3 R (.slice a L.length c) (.slice b O.length d) k:=X1.out.kept D3 X1.out.2.2
 have A3:AL W3 B (.slice a L.length c) L:=A1.kept D3
 have O3:OrdL W3 B (.slice b O.length d) O:=O1.kept D3
 have INS:Hid (∀V,V=W3->Calls Tryz.prog 158 #[.slice b O.length d,.int .i64 r,.slice (some ⟨w1.heap.size,0,none⟩) 1 1] V fun e w'=>∃b' d',e=.returned (.slice b' (newO O o).length d')/\BxK w' R (.slice a L.length c) (.slice b O.length d) k/\AL w' B (.slice a L.length c) L/\OrdL w' B (.slice b' (newO O o).length d') (newO O o)/\Below B w w'/\(∀q,(Value.slice b' (newO O o).length d').ownBlock=some q->q≠R)):=fun V hV=>by
  subst hV
  refine (implInsertO B (.slice b O.length d) O r o w1.heap.size V O3 (by have:=X3.2.2;omega) hrl (by omega) one3 (by omega) (fun e=>by have:=hown _ e;omega)).mono ?_
  rintro e w' ⟨u,rfl,O4,B4,G4⟩
  rw[←HR.out] at O4
  obtain ⟨b',d',rfl⟩:=O4.len
  have X4:BxK w' R (.slice a L.length c) (.slice b O.length d) k:=X3.same (G4.block _ X3.2.2 (fun e=>(HBR.out R e.symm).1 rfl))
  refine ⟨b',d',rfl,X4,A3.by G4 (fun q h1 h2=>rows_apart A3 O3 h1 h2),O4,?_,?_⟩
  ·have hbw:B<=w.heap.size:=by omega
   exact ((HB1.trans (D3.mono HB1.size)).mono hbw).trans B4
  ·exact box_apart X4.1.2.1 O4 (by intro e;have:=newO_len O o;rw[e] at this;simp at this)
 have HW3:=hidOf hW3
 clear B1 B1' PL X0 Q0 A0 O0 s0 s1 s2 s3 s4 s5 s6 sf sz t0 t1 t2 t3 t4 t5 t6 tf tz hsl htl hW3 one3 X3 A3 O3 A1 O1 HB1 D3 hown HB0
 obtain ⟨⟨s0,s1,s2,s3,s4,s5,s6⟩,sf,sz⟩:=X1.out
 obtain ⟨⟨t0,t1,t2,t3,t4,t5,t6⟩,tf,tz⟩:=Q1.out
 go_wp2
 go_region_with (
  go_at_call 158
  refine (INS.out _ HW3.out.symm).mono ?_
  rintro e w4 ⟨b',d',rfl,X4,A4,O4,B4,hu4⟩
  obtain ⟨⟨y0,y1,y2,y3,y4,y5,y6⟩,yf,yz⟩:=X4)
 all_goals go_wp2
 all_goals go_ret
 all_goals exact ⟨rfl,below_far B4 hBR _ _,.slice b' (newO O o).length d',Box7.set2 ⟨⟨y0,y1,y2,y3,y4,y5,y6⟩,yf,yz⟩ _,A4.off HAR.out _ _,O4.off hu4 _ _⟩
theorem implCut_none (R:Nat) (a b:Option Addr) (c d:Nat) (L:List Acc) (O:List Ord) (k:Bk) (n:Int) (w:World) (hX:BxK w R (.slice a L.length c) (.slice b O.length d) k) (hO:Ords w b O.length (OrdF O)) (hR:RightO (OrdF O) O.length) (ht:¬thereO O n):
  Calls Tryz.prog 131 #[.pointer (some ⟨R,0,none⟩),.int .i64 n] w fun e w'=>e=.returned (.int .i64 3)/\Below w.heap.size w w':=by
 have PL:Hid (Calls Tryz.prog 157 #[.slice b O.length d,.int .i64 n] w fun e w'=>e=.returned (.tuple #[.int .i64 (plc O n:Nat),.bool false])/\Below w.heap.size w w'):=implPlace_no b d O n w hO hR ht
 obtain ⟨⟨s0,s1,s2,s3,s4,s5,s6⟩,sf,sz⟩:=hX
 clear hO hR ht
 generalize plc O n=r at*
 go_enter Tryz.func131,Tryz.ntmps131
 go_wp2_with fail
 refine PL.out.mono ?_
 rintro e w1 ⟨rfl,B1⟩
 clear PL s0 s1 s2 s3 s4 s5 s6 sf sz
 go_wp2
 go_ret
 exact ⟨rfl,B1⟩
theorem implCut_yes (B R:Nat) (a b:Option Addr) (c d:Nat) (L:List Acc) (O:List Ord) (k:Bk) (n:Int) (w:World) (hX:BxK w R (.slice a L.length c) (.slice b O.length d) k) (hA:AL w B (.slice a L.length c) L) (hO:OrdL w B (.slice b O.length d) O) (haR:∀q,(Value.slice a L.length c).ownBlock=some q->q≠R) (hbR:∀q,(Value.slice b O.length d).ownBlock=some q->q≠R) (hBR:B<=R) (hR:RightO (OrdF O) O.length) (ht:thereO O n):
  Calls Tryz.prog 131 #[.pointer (some ⟨R,0,none⟩),.int .i64 n] w fun e w'=>e=.returned (.int .i64 0)/\Below B w w'/\∃u,BxK w' R (.slice a L.length c) (u) k/\AL w' B (.slice a L.length c) L/\OrdL w' B u (cutO O n):=by
 have hol:O.length<=8:=hR.1
 have PL:Hid (Calls Tryz.prog 157 #[.slice b O.length d,.int .i64 n] w fun e w'=>e=.returned (.tuple #[.int .i64 (plc O n:Nat),.bool true])/\Below w.heap.size w w'):=implPlace_yes b d O n w (hO.list (by omega)).2 hR ht
 obtain ⟨r,hrl,_,hr,_⟩:=there_place hR ht
 have HR:Hid (cutO O n=O.take r++O.drop (r+1)):=by rw[←hr];rfl
 rw[hr] at PL
 have hOn:Value.slice b O.length d≠ .slice none 0 0:=by intro e;injection e with _ e2 _;omega
 obtain ⟨g,cg,hg⟩:=hO.own hOn
 obtain ⟨rfl,rfl⟩:b=some ⟨g,0,none⟩/\d=cg:=by simpa using hg
 have hgR:g≠R:=hbR g rfl
 have HA:=hidOf hA
 have HO:=hidOf hO
 have HAR:=hidOf haR
 have HX:=hidOf hX
 obtain ⟨⟨s0,s1,s2,s3,s4,s5,s6⟩,sf,sz⟩:=hX
 clear hO hR ht hA haR hbR hOn hg hr
 go_enter Tryz.func131,Tryz.ntmps131
 go_wp2_with fail
 refine PL.out.mono ?_
 rintro e w1 ⟨rfl,B1⟩
 have X1:=HX.out.kept B1 sz
 have A1:AL w1 B (.slice a L.length c) L:=HA.out.kept B1
 have O1:OrdL w1 B (.slice (some ⟨g,0,none⟩) O.length d) O:=HO.out.kept B1
 have DEL:Hid (Calls Tryz.prog 159 #[.slice (some ⟨g,0,none⟩) O.length d,.int .i64 r,.int .i64 ((r:Int)+1)] w1 fun e w'=>e=.returned (.slice (some ⟨g,0,none⟩) (O.length-1) d)/\BxK w' R (.slice a L.length c) (.slice (some ⟨g,0,none⟩) O.length d) k/\AL w' B (.slice a L.length c) L/\OrdL w' B (.slice (some ⟨g,0,none⟩) (O.length-1) d) (cutO O n)/\Below B w w'):=
  (implDeleteO B g d O r w1 O1 hrl (by omega)).mono (by
   rintro e w' ⟨rfl,O4,B4,G4⟩
   rw[←HR.out] at O4
   exact ⟨rfl,X1.same (G4.block _ X1.2.2 (by simp;exact fun e=>hgR e.symm)),A1.by G4 (fun q h1 h2=>rows_apart A1 O1 h1 h2),O4,(B1.mono (by omega)).trans B4⟩)
 clear s0 s1 s2 s3 s4 s5 s6 sf sz PL HX HA HO A1 O1 B1
 obtain ⟨⟨s0,s1,s2,s3,s4,s5,s6⟩,sf,sz⟩:=X1
 go_wp2_with fail
 refine DEL.out.mono ?_
 rintro e w4 ⟨rfl,X4,A4,O4,B4⟩
 clear s0 s1 s2 s3 s4 s5 s6 sf sz DEL
 obtain ⟨⟨y0,y1,y2,y3,y4,y5,y6⟩,yf,yz⟩:=X4
 have HA4:=hidOf A4
 have HO4:=hidOf O4
 have HB4:=hidOf B4
 clear A4 O4 B4
 go_wp2
 go_ret
 exact ⟨rfl,below_far HB4.out hBR _ _,.slice (some ⟨g,0,none⟩) (O.length-1) d,Box7.set2 ⟨⟨y0,y1,y2,y3,y4,y5,y6⟩,yf,yz⟩ _,HA4.out.off HAR.out _ _,HO4.out.off (fun q hq=>by simp[Value.ownBlock] at hq;omega) _ _⟩
theorem implDay_no (R:Nat) (a b:Option Addr) (c d:Nat) (L:List Acc) (O:List Ord) (k:Bk) (p:Nat->Addr) (w:World) (hX:BxK w R (.slice a L.length c) (.slice b O.length d) k) (hF:Fo w a L.length (FL L)) (hO:Ords w b O.length (OrdF O)) (hG:GE w p) (hn:¬endOk L O k):
  Calls Tryz.prog 132 #[.pointer (some ⟨R,0,none⟩)] w fun e w'=>e=.returned (.int .i64 7)/\Below w.heap.size w w':=by
 have ED:Hid (Calls Tryz.prog 22 #[.agg #[.int .i64 k.day,.slice a L.length c,.slice b O.length d,.int .i64 k.inn,.int .i64 k.out,.int .i64 k.posted,.int .i64 k.missed]] w fun e w'=>e=.returned (.tuple #[.agg #[.int .i64 0,.slice none 0 0,.slice none 0 0,.int .i64 0,.int .i64 0,.int .i64 0,.int .i64 0],.bool false])/\Below w.heap.size w w'):=(implEnded a b c d L O k p w hF hO hG).mono (by
  rintro e w' (⟨⟨_,h⟩,_⟩|⟨_,h⟩)
  ·exact absurd h hn
  ·exact h)
 obtain ⟨⟨s0,s1,s2,s3,s4,s5,s6⟩,sf,sz⟩:=hX
 clear hF hO hG hn
 go_enter Tryz.func132,Tryz.ntmps132
 go_wp2_with fail
 refine ED.out.mono ?_
 rintro e w1 ⟨rfl,B1⟩
 have HB1:=hidOf B1
 clear ED s0 s1 s2 s3 s4 s5 s6 sf B1
 go_wp2
 go_ret
 exact ⟨rfl,HB1.out.alloc HB1.out.size _⟩
theorem implDay_yes (B R:Nat) (a b:Option Addr) (c d:Nat) (L:List Acc) (O:List Ord) (k:Bk) (p:Nat->Addr) (w:World) (hX:BxK w R (.slice a L.length c) (.slice b O.length d) k) (hF:Fo w a L.length (FL L)) (hO:Ords w b O.length (OrdF O)) (hG:GE w p) (hBR:B<=R) (hb:bankOk (FL L) L.length (OrdF O) O.length k) (hn:endOk L O k):
  Calls Tryz.prog 132 #[.pointer (some ⟨R,0,none⟩)] w fun e w'=>e=.returned (.int .i64 0)/\Below B w w'/\∃v u,BxK w' R (v) (u) (endK L O k)/\AL w' B v (endA L O k)/\OrdL w' B u (endO O k):=by
 have ED:Hid (Calls Tryz.prog 22 #[.agg #[.int .i64 k.day,.slice a L.length c,.slice b O.length d,.int .i64 k.inn,.int .i64 k.out,.int .i64 k.posted,.int .i64 k.missed]] w fun e w'=>∃v u,e=.returned (.tuple #[.agg #[.int .i64 (endK L O k).day,v,u,.int .i64 (endK L O k).inn,.int .i64 (endK L O k).out,.int .i64 (endK L O k).posted,.int .i64 (endK L O k).missed],.bool true])/\AL w' w.heap.size v (endA L O k)/\OrdL w' w.heap.size u (endO O k)/\Below w.heap.size w w'):=(implEnded a b c d L O k p w hF hO hG).mono (by
  rintro e w' (⟨_,h⟩|⟨h,_⟩)
  ·exact h
  ·exact absurd ⟨hb,hn⟩ h)
 have HX:=hidOf hX
 obtain ⟨⟨s0,s1,s2,s3,s4,s5,s6⟩,sf,sz⟩:=hX
 clear hF hO hG hn hb
 generalize endK L O k=K2 at*
 generalize endA L O k=A2 at*
 generalize endO O k=O2 at*
 go_enter Tryz.func132,Tryz.ntmps132
 go_wp2_with fail
 refine ED.out.mono ?_
 rintro e w1 ⟨v1,u1,rfl,A1,U1,B1⟩
 obtain ⟨a1,c1,hv⟩:=A1.len
 subst hv
 obtain ⟨b1,d1,hv,_⟩:=U1.shape
 subst hv
 obtain ⟨W2,hW2⟩:∃W2,W2=w1.alloc (.cells #[.int .i64 K2.day,.slice a1 A2.length c1,.slice b1 O2.length d1,.int .i64 K2.inn,.int .i64 K2.out,.int .i64 K2.posted,.int .i64 K2.missed] 38):=⟨_,rfl⟩
 have D2:Below w1.heap.size w1 W2:=by rw[hW2];exact (Below.refl _ _).alloc (Nat.le_refl _) _
 have hs1:=B1.size
 have X1:=HX.out.kept B1 sz
 have X2:=X1.kept D2 X1.2.2
 have Y2:BxK W2 w1.heap.size (.slice a1 A2.length c1) (.slice b1 O2.length d1) K2:=by rw[hW2];exact Box7.new w1 _ _ _ _ _ _ _ 38
 have HA2:=hidOf (A1.kept D2)
 have HO2:=hidOf (U1.kept D2)
 have HB2:=hidOf (B1.trans (D2.mono B1.size))
 have HW2:=hidOf hW2
 clear ED s0 s1 s2 s3 s4 s5 s6 sf A1 U1 B1 D2 hW2 X1 HX
 obtain ⟨⟨s0,s1,s2,s3,s4,s5,s6⟩,sf,sz2⟩:=X2
 obtain ⟨⟨t0,t1,t2,t3,t4,t5,t6⟩,tf,tz⟩:=Y2
 have hne1:¬R=w1.heap.size:=by omega
 have hne2:¬w1.heap.size=R:=by omega
 go_upto_region 2 with fail
 rw[←HW2.out]
 clear HW2
 go_wp2
 go_ret
 refine ⟨rfl,?_,.slice a1 A2.length c1,.slice b1 O2.length d1,((((((Box7.set0 ⟨⟨s0,s1,s2,s3,s4,s5,s6⟩,sf,sz2⟩ _).set1 _).set2 _).set3 _).set4 _).set5 _).set6 _,?_,?_⟩
 ·repeat (refine below_far ?_ hBR _ _)
  exact HB2.out.mono (by omega)
 ·refine AL.mono (B:=w.heap.size) ?_ (by omega)
  repeat (refine AL.far ?_ sz _ _)
  exact HA2.out
 ·refine OrdL.mono (B:=w.heap.size) ?_ (by omega)
  repeat (refine OrdL.far ?_ sz _ _)
  exact HO2.out
end Go.Proofs.YtghkbhggopiajaaGreatDoor
