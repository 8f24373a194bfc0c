/- The draw of a bank. -/
import Derived.Test.YtjhgchlfpolkcaaGreatDoorRdox
namespace Go.Proofs.YtjhgchlfpolkcaaGreatDoor
open Value renaming int → Ii,slice → Sl
open IntKind renaming i64 → Jj
open Nat renaming le_refl → Nf
open List renaming setIfInBounds_toArray → La,set_cons_zero → Lz,set_cons_succ → Lc
set_option linter.unusedSimpArgs false
open Go.RowKit
set_option maxRecDepth 8000
theorem mu (L:List al) (O:List am) (k:Bk) (K n:Int) (x:bB) (o:am):(jt L O k K x o n).L.length<=12/\(jt L O k K x o n).O.length<=8:=by
 unfold jt
 split
 ·rename_i hb
  have:=px K n x o hb
  exact ⟨this.2.1.1,this.2.2.1.1⟩
 ·simp
theorem es (a b:Option Addr) (c d m1 m2 D:Nat) (k:Bk) (L:List al) (O:List am) (z0 z1 z2 z3 z4 z5 z6 z7 z8 z9 z10 z11 z12 z13:Int) (X:World) (hA:AL X D (Sl a m1 c) L) (hQ:ag X D (Sl b m2 d) O) (hl:L.length<=12) (ho:O.length<=8):
  Calls Tryz.prog 55 #[.agg #[Ii Jj k.day,Sl a m1 c,Sl b m2 d,Ii Jj k.inn,Ii Jj k.out,Ii Jj k.posted,Ii Jj k.missed],.agg #[Ii Jj z0,Ii Jj z1,Ii Jj z2,Ii Jj z3,Ii Jj z4,Ii Jj z5,Ii Jj z6,Ii Jj z7,Ii Jj z8,Ii Jj z9,Ii Jj z10,Ii Jj z11,Ii Jj z12,Ii Jj z13]] X fun e w'=>∃(cd:Int) (v u:Value) (k':Bk) (L':List al) (O':List am),e=.returned (.tuple #[.agg #[Ii Jj k'.day,v,u,Ii Jj k'.inn,Ii Jj k'.out,Ii Jj k'.posted,Ii Jj k'.missed],Ii Jj cd])/\AL w' X.heap.size v L'/\ag w' X.heap.size u O'/\L'.length<=12/\O'.length<=8/\Below X.heap.size X w':=by
 obtain ⟨e1,f1⟩:=hA.fo (by omega)
 obtain ⟨e2,f2⟩:=hQ.list (by omega)
 obtain ⟨r1,r2⟩:=hQ.room
 subst e1 e2
 refine (rD a b c d L O k z0 z13 ⟨z1,z2,z3,z4,z5⟩ ⟨z6,z7,z8,z9,z10,z11,z12⟩ X f1 f2 r1 r2).mono ?_
 rintro e w' ⟨v,u,rfl,h1,h2,h3⟩
 have hl:=mu L O k z0 z13 ⟨z1,z2,z3,z4,z5⟩ ⟨z6,z7,z8,z9,z10,z11,z12⟩
 exact ⟨_,v,u,_,_,_,rfl,h1,h2,hl.1,hl.2,h3⟩
theorem ag.stp {B Bs:Nat} {w w':World} {v:Value} {L:List am} (h:ag w Bs v L) (hs:an B w w') (hB:B<Bs):ag w' Bs v L:=
 World.ownsRow.kept (row:=some B) h ⟨hs.os,hs.tape,hs.output,hs.size,fun k hk hn=>hs.block k hk (fun e=>hn (by rw[e]))⟩ (Or.inr (fun e=>by have:=(World.ownsRow.lt h B e).1;omega))
def eu (h R:Nat) (v u:Value) (k:Bk) (L:List al) (O:List am) (W:World):Prop:=af W R (Ii Jj k.day) v u (Ii Jj k.inn) (Ii Jj k.out) (Ii Jj k.posted) (Ii Jj k.missed)/\af W h (Ii Jj 0) (Sl none 0 0) (Sl none 0 0) (Ii Jj 0) (Ii Jj 0) (Ii Jj 0) (Ii Jj 0)/\AL W (R+1) v L/\ag W (R+1) u O/\L.length<=12/\O.length<=8
theorem eu.stp {B h R:Nat} {v u:Value} {k:Bk} {L:List al} {O:List am} {W W':World} (x:eu h R v u k L O W) (hs:an B W W') (h1:B<h) (h2:h<R):eu h R v u k L O W':=⟨x.1.stp hs (by omega),x.2.1.stp hs (by omega),x.2.2.1.stp hs (by omega),x.2.2.2.1.stp hs (by omega),x.2.2.2.2⟩
theorem eu.turn {h R X:Nat} {v u v' u':Value} {k k':Bk} {L L':List al} {O O':List am} {W:World} (x:eu h R v u k L O W) (hA:AL W X v' L') (hQ:ag W X u' O') (hX:R+1<=X) (h2:h<R) (h3:L'.length<=12) (h4:O'.length<=8):eu h R v' u' k' L' O' (iD W R k' v' u'):=by
 have g:=tu W R k' v' u'
 have a1:=hA.mono hX
 have a2:=hQ.mono hX
 refine ⟨?_,x.2.1.same (g.block h x.2.1.2.2 (fun e=>by have:=Option.some.inj e;omega)),mv a1 g (fun q hq=>by have:=(World.ownsRow.lt a1 q hq).1;omega),mv a2 g (fun q hq=>by have:=(World.ownsRow.lt a2 q hq).1;omega),h3,h4⟩
 exact (((((((x.1.set0 _).set1 _).set2 _).set3 _).set4 _).set5 _).set6 _)
theorem Rd.set7 {B R len cap:Nat} {a:Option Addr} {W:World} {k:Bk} {v u:Value} (h:Rd W B a len cap) (hR:B<R):Rd (iD W R k v u) B a len cap:=by
 unfold Go.Proofs.YtjhgchlfpolkcaaGreatDoor.iD
 repeat (refine Rd.setFar ?_ hR _)
 exact h
theorem an.set7 {B R:Nat} {w W:World} {k:Bk} {v u:Value} (h:an B w W) (hR:w.heap.size<=R):an B w (iD W R k v u):=by
 unfold Go.Proofs.YtjhgchlfpolkcaaGreatDoor.iD
 repeat (refine an.far ?_ hR _ _)
 exact h
set_option maxHeartbeats 16000000 in
theorem oF (B:Nat) (a:Option Addr) (len cap:Nat) (most:Int) (w:World) (hp:Rd w B a len cap) (q1:0<=most) (q2:most<=100):
  Calls Tryz.prog 20 #[.pointer (some ⟨B,0,none⟩),Ii Jj most] w fun e w'=>∃(k:Bk) (L:List al) (O:List am) (v u:Value),e=.returned (.agg #[Ii Jj k.day,v,u,Ii Jj k.inn,Ii Jj k.out,Ii Jj k.posted,Ii Jj k.missed])/\L.length<=12/\O.length<=8/\AL w' w.heap.size v L/\ag w' w.heap.size u O/\Rd w' B a len cap/\an B w w':=by
 have hBw:B<w.heap.size:=hp.2.2.2.1
 obtain ⟨h,hh⟩:∃h,w.heap.size=h:=⟨_,rfl⟩
 have HH:Hid (w.heap.size=h):=hh
 obtain ⟨W0,hW0,X0⟩:∃W0,W0=w.alloc (.cells #[Ii Jj 0,Sl none 0 0,Sl none 0 0,Ii Jj 0,Ii Jj 0,Ii Jj 0,Ii Jj 0] 27)/\Hid (af W0 h (Ii Jj 0) (Sl none 0 0) (Sl none 0 0) (Ii Jj 0) (Ii Jj 0) (Ii Jj 0) (Ii Jj 0)/\Rd W0 B a len cap/\an B w W0):=⟨_,rfl,by rw[←hh];exact af.new w _ _ _ _ _ _ _ 27,hp.alloc _,(an.refl B w).alloc _⟩
 have HW0:Hid (W0=_):=hW0
 have hBh:B<h:=by omega
 have hwh:w.heap.size<=h:=by omega
 clear hW0 hp
 go_enter Tryz.func20,Tryz.ntmps20
 go_upto_region 1 with fail
 rw[←HW0.out]
 try rw[hh]
 clear HW0 hh hBw
 go_wp2_with fail
 refine (aq B a len cap 3 _ X0.out.2.1 (by omega) (by omega)).mono ?_
 rintro e w1 ⟨x,rfl,x1,x2,RN,SN⟩
 have X1:Hid (af w1 h (Ii Jj 0) (Sl none 0 0) (Sl none 0 0) (Ii Jj 0) (Ii Jj 0) (Ii Jj 0) (Ii Jj 0)/\Rd w1 B a len cap/\an B w w1):=⟨X0.out.1.stp SN (by omega),RN,X0.out.2.2.trans SN⟩
 clear RN SN X0
 go_wp2_with fail
 refine (sD x x1 (by omega) _).mono ?_
 rintro e w2 ⟨rfl,B2⟩
 obtain ⟨V2,hV2,X2⟩:∃V,V=w2.alloc (.cells #[Ii Jj x,Sl none 0 0,Sl none 0 0,Ii Jj 0,Ii Jj 0,Ii Jj 0,Ii Jj 0] 27)/\Hid ((eu h w2.heap.size (Sl none 0 0) (Sl none 0 0) ⟨x,0,0,0,0⟩ [] [] V/\Rd V B a len cap/\an B w V)/\h<w2.heap.size):=by
  have hb:Below w2.heap.size w2 (w2.alloc (.cells #[Ii Jj x,Sl none 0 0,Sl none 0 0,Ii Jj 0,Ii Jj 0,Ii Jj 0,Ii Jj 0] 27)):=(Below.refl _ _).alloc (Nf _) _
  have z1:=X1.out.1.2.2
  have z2:=B2.size
  exact ⟨_,rfl,⟨⟨af.new w2 _ _ _ _ _ _ _ 27,(X1.out.1.kept B2 z1).kept hb (by omega),AL.nil' _ _,ag.nil _ _,by simp,by simp⟩,(X1.out.2.1.same (B2.mono (by omega))).alloc _,(X1.out.2.2.trans (an.ofBelow B2)).alloc _⟩,by omega⟩
 have HV2:Hid (V2=_):=hV2
 clear hV2 B2 X1
 go_upto_region 2 with fail
 rw[←HV2.out]
 obtain ⟨R,hR⟩:∃r,w2.heap.size=r:=⟨_,rfl⟩
 rw[hR] at X2 ⊢
 clear HV2 hR
 have hhR:h<R:=X2.out.2
 obtain ⟨a1,c1,m1,b1,d1,m2,k,L,O,XV2⟩:∃a1 c1 m1 b1 d1 m2 k L O,Hid ((a1=none/\c1=0/\m1=0/\b1=none/\d1=0/\m2=0)/\eu h R (Sl a1 m1 c1) (Sl b1 m2 d1) k L O V2/\Rd V2 B a len cap/\an B w V2):=⟨none,0,0,none,0,0,⟨x,0,0,0,0⟩,[],[],⟨rfl,rfl,rfl,rfl,rfl,rfl⟩,X2.out.1⟩
 have XV2b:Hid (eu h R (Sl a1 m1 c1) (Sl b1 m2 d1) k L O V2/\Rd V2 B a len cap/\an B w V2):=XV2.out.2
 clear X2 XV2
 have XV2:Hid (eu h R (Sl a1 m1 c1) (Sl b1 m2 d1) k L O V2/\Rd V2 B a len cap/\an B w V2):=XV2b.out
 clear XV2b
 go_cut[5] (fun s wx=>s=.pointer (some ⟨R,0,none⟩)/\Hid (∃(a1:Option Addr) (c1 m1:Nat) (b1:Option Addr) (d1 m2:Nat) (k:Bk) (L:List al) (O:List am),eu h R (Sl a1 m1 c1) (Sl b1 m2 d1) k L O wx/\Rd wx B a len cap/\an B w wx))
 case first=>
  have Yd:Hid (eu h R (Sl a1 m1 c1) (Sl b1 m2 d1) k L O V2.drew/\Rd V2.drew B a len cap/\an B w V2.drew):=⟨XV2.out.1,XV2.out.2.1,XV2.out.2.2.drewN 1⟩
  refine wp_region_held_drew (S:=fun _=>True) (by kernel_rfl) trivial (fun _=>?_)
  clear XV2
  generalize V2.drew=wd at Yd ⊢
  refine wpAnyH_take (i:=1) (v:=?_) rfl (by kernel_rfl) (by kernel_rfl) (by kernel_rfl) (fun _ _ _ h=>h) (Or.inl ⟨by rfl,?_⟩) trivial ?_
  rotate_left
  ·intro wq hSw
   go_simp
   all_goals (with_reducible rfl)
  (try simp only[Act.put,La,Lz,Lc])
  refine wpAnyH_take (i:=3) (v:=?_) rfl (by kernel_rfl) (by kernel_rfl) (by kernel_rfl) (fun _ _ _ h=>h) (Or.inl ⟨by rfl,?_⟩) trivial ?_
  rotate_left
  ·intro wq hSw
   go_simp
   all_goals (with_reducible rfl)
  (try simp only[Act.put,La,Lz,Lc])
  refine wpAnyH_ready (rs:=[0,2]) (by kernel_rfl) (by simp) ?_
  refine AllReadyH.cons rfl (fun K' hK=>?_) ?_
  ·skip
   obtain ⟨⟨s0,s1,s2,s3,s4,s5,s6⟩,sf,sz⟩:=Yd.out.1.1
   go_simp
   clear s0 s1 s2 s3 s4 s5 s6 sf sz
   refine hK.out _ _ trivial (fun _=>?_)
   clear hK
   (try simp only[Act.put,La,Lz,Lc])
   refine wpAnyH_ready (rs:=[2]) (by kernel_rfl) (by simp) ?_
   refine AllReadyH.cons rfl (fun K' hK=>?_) AllReadyH.nil
   go_simp
   refine (aq B a len cap 200 _ Yd.out.2.1 (by omega) (by omega)).mono ?_
   rintro e wt1 ⟨p1,rfl,p11,p12,RN,SN⟩
   have Yt1:Hid (eu h R (Sl a1 m1 c1) (Sl b1 m2 d1) k L O wt1/\Rd wt1 B a len cap/\an B w wt1):=⟨Yd.out.1.stp SN hBh hhR,RN,Yd.out.2.2.trans SN⟩
   clear RN SN Yd
   refine hK.out _ _ trivial (fun _=>?_)
   clear hK
   (try simp only[Act.put,La,Lz,Lc])
   refine wpAnyH_ready (rs:=[4]) (by kernel_rfl) (by simp) ?_
   refine AllReadyH.cons rfl (fun K' hK=>?_) AllReadyH.nil
   go_simp
   refine (aq B a len cap 9000 _ Yt1.out.2.1 (by omega) (by omega)).mono ?_
   rintro e wt2 ⟨p2,rfl,p21,p22,RN,SN⟩
   have Yt2:Hid (eu h R (Sl a1 m1 c1) (Sl b1 m2 d1) k L O wt2/\Rd wt2 B a len cap/\an B w wt2):=⟨Yt1.out.1.stp SN hBh hhR,RN,Yt1.out.2.2.trans SN⟩
   clear RN SN Yt1
   refine hK.out _ _ trivial (fun _=>?_)
   clear hK
   (try simp only[Act.put,La,Lz,Lc])
   refine wpAnyH_take (i:=5) (v:=?_) rfl (by kernel_rfl) (by kernel_rfl) (by kernel_rfl) (fun _ _ _ h=>h) (Or.inl ⟨by rfl,?_⟩) trivial ?_
   rotate_left
   ·intro wq hSw
    go_simp
    all_goals (with_reducible rfl)
   (try simp only[Act.put,La,Lz,Lc])
   refine wpAnyH_take (i:=6) (v:=?_) rfl (by kernel_rfl) (by kernel_rfl) (by kernel_rfl) (fun _ _ _ h=>h) (Or.inl ⟨by rfl,?_⟩) trivial ?_
   rotate_left
   ·intro wq hSw
    go_simp
    all_goals (with_reducible rfl)
   (try simp only[Act.put,La,Lz,Lc])
   refine wpAnyH_ready (rs:=[7]) (by kernel_rfl) (by simp) ?_
   refine AllReadyH.cons rfl (fun K' hK=>?_) AllReadyH.nil
   go_simp
   refine (es a1 b1 c1 d1 m1 m2 (R+1) k L O 19 1 1 0 p1 p2 0 0 0 0 0 0 0 0 _ Yt2.out.1.2.2.1 Yt2.out.1.2.2.2.1 Yt2.out.1.2.2.2.2.1 Yt2.out.1.2.2.2.2.2).mono ?_
   rintro e w9 ⟨cd,v9,u9,k9,L9,O9,rfl,A9,Q9,l9,o9,B9⟩
   obtain ⟨a9,c9,hv⟩:=A9.len
   subst hv
   obtain ⟨b9,d9,hv⟩:=Q9.len
   subst hv
   obtain ⟨m3,hm3⟩:∃m,L9.length=m:=⟨_,rfl⟩
   obtain ⟨m4,hm4⟩:∃m,O9.length=m:=⟨_,rfl⟩
   have Y9:Hid ((eu h R (Sl a1 m1 c1) (Sl b1 m2 d1) k L O w9/\Rd w9 B a len cap/\an B w w9)/\AL w9 (R+1) (Sl a9 m3 c9) L9/\ag w9 (R+1) (Sl b9 m4 d9) O9/\L9.length<=12/\O9.length<=8):=by
    have hsz:=Yt2.out.1.1.2.2
    have s9:=an.ofBelow (B:=B) B9
    rw[←hm3,←hm4]
    exact ⟨⟨Yt2.out.1.stp s9 hBh hhR,Yt2.out.2.1.same (B9.mono (by omega)),Yt2.out.2.2.trans s9⟩,A9.mono (by omega),Q9.mono (by omega),l9,o9⟩
   simp only[hm3,hm4]
   clear A9 Q9 l9 o9 B9 Yt2 hm3 hm4
   refine hK.out _ _ trivial (fun _=>?_)
   clear hK
   (try simp only[Act.put,La,Lz,Lc])
   refine wpAnyH_take (i:=8) (v:=?_) rfl (by kernel_rfl) (by kernel_rfl) (by kernel_rfl) (fun _ _ _ h=>h) (Or.inl ⟨by rfl,?_⟩) trivial ?_
   rotate_left
   ·intro wq hSw
    go_simp
    all_goals (with_reducible rfl)
   (try simp only[Act.put,La,Lz,Lc])
   refine wpAnyH_take (i:=9) (v:=?_) rfl (by kernel_rfl) (by kernel_rfl) (by kernel_rfl) (fun _ _ _ h=>h) (Or.inl ⟨by rfl,?_⟩) trivial ?_
   rotate_left
   ·intro wq hSw
    go_simp
    all_goals (with_reducible rfl)
   (try simp only[Act.put,La,Lz,Lc])
   refine wpAnyH_take (i:=10) (v:=?_) rfl (by kernel_rfl) (by kernel_rfl) (by kernel_rfl) (fun _ _ _ h=>h) (Or.inl ⟨by rfl,?_⟩) trivial ?_
   rotate_left
   ·intro wq hSw
    go_simp
    all_goals (with_reducible rfl)
   (try simp only[Act.put,La,Lz,Lc])
   refine wpAnyH_ready (rs:=[11]) (by kernel_rfl) (by simp) ?_
   refine AllReadyH.cons rfl (fun K' hK=>?_) AllReadyH.nil
   obtain ⟨⟨s0,s1,s2,s3,s4,s5,s6⟩,sf,sz⟩:=Y9.out.1.1.1
   go_simp
   obtain ⟨V9,hV9,X9⟩:∃V,V=iD w9 R k9 (Sl a9 m3 c9) (Sl b9 m4 d9)/\Hid (eu h R (Sl a9 m3 c9) (Sl b9 m4 d9) k9 L9 O9 V/\Rd V B a len cap/\an B w V):=⟨_,rfl,Y9.out.1.1.turn Y9.out.2.1 Y9.out.2.2.1 (Nf _) hhR Y9.out.2.2.2.1 Y9.out.2.2.2.2,Y9.out.1.2.1.set7 (by omega),Y9.out.1.2.2.set7 (by omega)⟩
   have HV9:Hid (V9=((((((w9.setCell ⟨R,0,none⟩ (Ii Jj k9.day)).setCell ⟨R,1,none⟩ (Sl a9 m3 c9)).setCell ⟨R,2,none⟩ (Sl b9 m4 d9)).setCell ⟨R,3,none⟩ (Ii Jj k9.inn)).setCell ⟨R,4,none⟩ (Ii Jj k9.out)).setCell ⟨R,5,none⟩ (Ii Jj k9.posted)).setCell ⟨R,6,none⟩ (Ii Jj k9.missed)):=hV9
   clear hV9
   refine hK.out _ _ trivial (fun _=>?_)
   clear hK Y9
   clear s0 s1 s2 s3 s4 s5 s6 sf sz
   rw[←HV9.out]
   clear HV9
   (try simp only[Act.put,La,Lz,Lc])
   refine wpAnyH_done (by kernel_rfl) ?_ _
   go_wp2_with fail
   go_meet
   exact ⟨rfl,ac ⟨_,_,_,_,_,_,_,_,_,X9.out⟩⟩
  refine AllReadyH.cons rfl (fun K' hK=>?_) AllReadyH.nil
  go_simp
  refine (aq B a len cap 200 _ Yd.out.2.1 (by omega) (by omega)).mono ?_
  rintro e wt1 ⟨p1,rfl,p11,p12,RN,SN⟩
  have Yt1:Hid (eu h R (Sl a1 m1 c1) (Sl b1 m2 d1) k L O wt1/\Rd wt1 B a len cap/\an B w wt1):=⟨Yd.out.1.stp SN hBh hhR,RN,Yd.out.2.2.trans SN⟩
  clear RN SN Yd
  refine hK.out _ _ trivial (fun _=>?_)
  clear hK
  (try simp only[Act.put,La,Lz,Lc])
  refine wpAnyH_ready (rs:=[0,4]) (by kernel_rfl) (by simp) ?_
  refine AllReadyH.cons rfl (fun K' hK=>?_) ?_
  ·skip
   obtain ⟨⟨s0,s1,s2,s3,s4,s5,s6⟩,sf,sz⟩:=Yt1.out.1.1
   go_simp
   clear s0 s1 s2 s3 s4 s5 s6 sf sz
   refine hK.out _ _ trivial (fun _=>?_)
   clear hK
   (try simp only[Act.put,La,Lz,Lc])
   refine wpAnyH_ready (rs:=[4]) (by kernel_rfl) (by simp) ?_
   refine AllReadyH.cons rfl (fun K' hK=>?_) AllReadyH.nil
   go_simp
   refine (aq B a len cap 9000 _ Yt1.out.2.1 (by omega) (by omega)).mono ?_
   rintro e wt2 ⟨p2,rfl,p21,p22,RN,SN⟩
   have Yt2:Hid (eu h R (Sl a1 m1 c1) (Sl b1 m2 d1) k L O wt2/\Rd wt2 B a len cap/\an B w wt2):=⟨Yt1.out.1.stp SN hBh hhR,RN,Yt1.out.2.2.trans SN⟩
   clear RN SN Yt1
   refine hK.out _ _ trivial (fun _=>?_)
   clear hK
   (try simp only[Act.put,La,Lz,Lc])
   refine wpAnyH_take (i:=5) (v:=?_) rfl (by kernel_rfl) (by kernel_rfl) (by kernel_rfl) (fun _ _ _ h=>h) (Or.inl ⟨by rfl,?_⟩) trivial ?_
   rotate_left
   ·intro wq hSw
    go_simp
    all_goals (with_reducible rfl)
   (try simp only[Act.put,La,Lz,Lc])
   refine wpAnyH_take (i:=6) (v:=?_) rfl (by kernel_rfl) (by kernel_rfl) (by kernel_rfl) (fun _ _ _ h=>h) (Or.inl ⟨by rfl,?_⟩) trivial ?_
   rotate_left
   ·intro wq hSw
    go_simp
    all_goals (with_reducible rfl)
   (try simp only[Act.put,La,Lz,Lc])
   refine wpAnyH_ready (rs:=[7]) (by kernel_rfl) (by simp) ?_
   refine AllReadyH.cons rfl (fun K' hK=>?_) AllReadyH.nil
   go_simp
   refine (es a1 b1 c1 d1 m1 m2 (R+1) k L O 19 1 1 0 p1 p2 0 0 0 0 0 0 0 0 _ Yt2.out.1.2.2.1 Yt2.out.1.2.2.2.1 Yt2.out.1.2.2.2.2.1 Yt2.out.1.2.2.2.2.2).mono ?_
   rintro e w9 ⟨cd,v9,u9,k9,L9,O9,rfl,A9,Q9,l9,o9,B9⟩
   obtain ⟨a9,c9,hv⟩:=A9.len
   subst hv
   obtain ⟨b9,d9,hv⟩:=Q9.len
   subst hv
   obtain ⟨m3,hm3⟩:∃m,L9.length=m:=⟨_,rfl⟩
   obtain ⟨m4,hm4⟩:∃m,O9.length=m:=⟨_,rfl⟩
   have Y9:Hid ((eu h R (Sl a1 m1 c1) (Sl b1 m2 d1) k L O w9/\Rd w9 B a len cap/\an B w w9)/\AL w9 (R+1) (Sl a9 m3 c9) L9/\ag w9 (R+1) (Sl b9 m4 d9) O9/\L9.length<=12/\O9.length<=8):=by
    have hsz:=Yt2.out.1.1.2.2
    have s9:=an.ofBelow (B:=B) B9
    rw[←hm3,←hm4]
    exact ⟨⟨Yt2.out.1.stp s9 hBh hhR,Yt2.out.2.1.same (B9.mono (by omega)),Yt2.out.2.2.trans s9⟩,A9.mono (by omega),Q9.mono (by omega),l9,o9⟩
   simp only[hm3,hm4]
   clear A9 Q9 l9 o9 B9 Yt2 hm3 hm4
   refine hK.out _ _ trivial (fun _=>?_)
   clear hK
   (try simp only[Act.put,La,Lz,Lc])
   refine wpAnyH_take (i:=8) (v:=?_) rfl (by kernel_rfl) (by kernel_rfl) (by kernel_rfl) (fun _ _ _ h=>h) (Or.inl ⟨by rfl,?_⟩) trivial ?_
   rotate_left
   ·intro wq hSw
    go_simp
    all_goals (with_reducible rfl)
   (try simp only[Act.put,La,Lz,Lc])
   refine wpAnyH_take (i:=9) (v:=?_) rfl (by kernel_rfl) (by kernel_rfl) (by kernel_rfl) (fun _ _ _ h=>h) (Or.inl ⟨by rfl,?_⟩) trivial ?_
   rotate_left
   ·intro wq hSw
    go_simp
    all_goals (with_reducible rfl)
   (try simp only[Act.put,La,Lz,Lc])
   refine wpAnyH_take (i:=10) (v:=?_) rfl (by kernel_rfl) (by kernel_rfl) (by kernel_rfl) (fun _ _ _ h=>h) (Or.inl ⟨by rfl,?_⟩) trivial ?_
   rotate_left
   ·intro wq hSw
    go_simp
    all_goals (with_reducible rfl)
   (try simp only[Act.put,La,Lz,Lc])
   refine wpAnyH_ready (rs:=[11]) (by kernel_rfl) (by simp) ?_
   refine AllReadyH.cons rfl (fun K' hK=>?_) AllReadyH.nil
   obtain ⟨⟨s0,s1,s2,s3,s4,s5,s6⟩,sf,sz⟩:=Y9.out.1.1.1
   go_simp
   obtain ⟨V9,hV9,X9⟩:∃V,V=iD w9 R k9 (Sl a9 m3 c9) (Sl b9 m4 d9)/\Hid (eu h R (Sl a9 m3 c9) (Sl b9 m4 d9) k9 L9 O9 V/\Rd V B a len cap/\an B w V):=⟨_,rfl,Y9.out.1.1.turn Y9.out.2.1 Y9.out.2.2.1 (Nf _) hhR Y9.out.2.2.2.1 Y9.out.2.2.2.2,Y9.out.1.2.1.set7 (by omega),Y9.out.1.2.2.set7 (by omega)⟩
   have HV9:Hid (V9=((((((w9.setCell ⟨R,0,none⟩ (Ii Jj k9.day)).setCell ⟨R,1,none⟩ (Sl a9 m3 c9)).setCell ⟨R,2,none⟩ (Sl b9 m4 d9)).setCell ⟨R,3,none⟩ (Ii Jj k9.inn)).setCell ⟨R,4,none⟩ (Ii Jj k9.out)).setCell ⟨R,5,none⟩ (Ii Jj k9.posted)).setCell ⟨R,6,none⟩ (Ii Jj k9.missed)):=hV9
   clear hV9
   refine hK.out _ _ trivial (fun _=>?_)
   clear hK Y9
   clear s0 s1 s2 s3 s4 s5 s6 sf sz
   rw[←HV9.out]
   clear HV9
   (try simp only[Act.put,La,Lz,Lc])
   refine wpAnyH_done (by kernel_rfl) ?_ _
   go_wp2_with fail
   go_meet
   exact ⟨rfl,ac ⟨_,_,_,_,_,_,_,_,_,X9.out⟩⟩
  refine AllReadyH.cons rfl (fun K' hK=>?_) AllReadyH.nil
  go_simp
  refine (aq B a len cap 9000 _ Yt1.out.2.1 (by omega) (by omega)).mono ?_
  rintro e wt2 ⟨p2,rfl,p21,p22,RN,SN⟩
  have Yt2:Hid (eu h R (Sl a1 m1 c1) (Sl b1 m2 d1) k L O wt2/\Rd wt2 B a len cap/\an B w wt2):=⟨Yt1.out.1.stp SN hBh hhR,RN,Yt1.out.2.2.trans SN⟩
  clear RN SN Yt1
  refine hK.out _ _ trivial (fun _=>?_)
  clear hK
  (try simp only[Act.put,La,Lz,Lc])
  refine wpAnyH_take (i:=5) (v:=?_) rfl (by kernel_rfl) (by kernel_rfl) (by kernel_rfl) (fun _ _ _ h=>h) (Or.inl ⟨by rfl,?_⟩) trivial ?_
  rotate_left
  ·intro wq hSw
   go_simp
   all_goals (with_reducible rfl)
  (try simp only[Act.put,La,Lz,Lc])
  refine wpAnyH_take (i:=6) (v:=?_) rfl (by kernel_rfl) (by kernel_rfl) (by kernel_rfl) (fun _ _ _ h=>h) (Or.inl ⟨by rfl,?_⟩) trivial ?_
  rotate_left
  ·intro wq hSw
   go_simp
   all_goals (with_reducible rfl)
  (try simp only[Act.put,La,Lz,Lc])
  refine wpAnyH_ready (rs:=[0]) (by kernel_rfl) (by simp) ?_
  refine AllReadyH.cons rfl (fun K' hK=>?_) AllReadyH.nil
  obtain ⟨⟨s0,s1,s2,s3,s4,s5,s6⟩,sf,sz⟩:=Yt2.out.1.1
  go_simp
  clear s0 s1 s2 s3 s4 s5 s6 sf sz
  refine hK.out _ _ trivial (fun _=>?_)
  clear hK
  (try simp only[Act.put,La,Lz,Lc])
  refine wpAnyH_ready (rs:=[7]) (by kernel_rfl) (by simp) ?_
  refine AllReadyH.cons rfl (fun K' hK=>?_) AllReadyH.nil
  go_simp
  refine (es a1 b1 c1 d1 m1 m2 (R+1) k L O 19 1 1 0 p1 p2 0 0 0 0 0 0 0 0 _ Yt2.out.1.2.2.1 Yt2.out.1.2.2.2.1 Yt2.out.1.2.2.2.2.1 Yt2.out.1.2.2.2.2.2).mono ?_
  rintro e w9 ⟨cd,v9,u9,k9,L9,O9,rfl,A9,Q9,l9,o9,B9⟩
  obtain ⟨a9,c9,hv⟩:=A9.len
  subst hv
  obtain ⟨b9,d9,hv⟩:=Q9.len
  subst hv
  obtain ⟨m3,hm3⟩:∃m,L9.length=m:=⟨_,rfl⟩
  obtain ⟨m4,hm4⟩:∃m,O9.length=m:=⟨_,rfl⟩
  have Y9:Hid ((eu h R (Sl a1 m1 c1) (Sl b1 m2 d1) k L O w9/\Rd w9 B a len cap/\an B w w9)/\AL w9 (R+1) (Sl a9 m3 c9) L9/\ag w9 (R+1) (Sl b9 m4 d9) O9/\L9.length<=12/\O9.length<=8):=by
   have hsz:=Yt2.out.1.1.2.2
   have s9:=an.ofBelow (B:=B) B9
   rw[←hm3,←hm4]
   exact ⟨⟨Yt2.out.1.stp s9 hBh hhR,Yt2.out.2.1.same (B9.mono (by omega)),Yt2.out.2.2.trans s9⟩,A9.mono (by omega),Q9.mono (by omega),l9,o9⟩
  simp only[hm3,hm4]
  clear A9 Q9 l9 o9 B9 Yt2 hm3 hm4
  refine hK.out _ _ trivial (fun _=>?_)
  clear hK
  (try simp only[Act.put,La,Lz,Lc])
  refine wpAnyH_take (i:=8) (v:=?_) rfl (by kernel_rfl) (by kernel_rfl) (by kernel_rfl) (fun _ _ _ h=>h) (Or.inl ⟨by rfl,?_⟩) trivial ?_
  rotate_left
  ·intro wq hSw
   go_simp
   all_goals (with_reducible rfl)
  (try simp only[Act.put,La,Lz,Lc])
  refine wpAnyH_take (i:=9) (v:=?_) rfl (by kernel_rfl) (by kernel_rfl) (by kernel_rfl) (fun _ _ _ h=>h) (Or.inl ⟨by rfl,?_⟩) trivial ?_
  rotate_left
  ·intro wq hSw
   go_simp
   all_goals (with_reducible rfl)
  (try simp only[Act.put,La,Lz,Lc])
  refine wpAnyH_take (i:=10) (v:=?_) rfl (by kernel_rfl) (by kernel_rfl) (by kernel_rfl) (fun _ _ _ h=>h) (Or.inl ⟨by rfl,?_⟩) trivial ?_
  rotate_left
  ·intro wq hSw
   go_simp
   all_goals (with_reducible rfl)
  (try simp only[Act.put,La,Lz,Lc])
  refine wpAnyH_ready (rs:=[11]) (by kernel_rfl) (by simp) ?_
  refine AllReadyH.cons rfl (fun K' hK=>?_) AllReadyH.nil
  obtain ⟨⟨s0,s1,s2,s3,s4,s5,s6⟩,sf,sz⟩:=Y9.out.1.1.1
  go_simp
  obtain ⟨V9,hV9,X9⟩:∃V,V=iD w9 R k9 (Sl a9 m3 c9) (Sl b9 m4 d9)/\Hid (eu h R (Sl a9 m3 c9) (Sl b9 m4 d9) k9 L9 O9 V/\Rd V B a len cap/\an B w V):=⟨_,rfl,Y9.out.1.1.turn Y9.out.2.1 Y9.out.2.2.1 (Nf _) hhR Y9.out.2.2.2.1 Y9.out.2.2.2.2,Y9.out.1.2.1.set7 (by omega),Y9.out.1.2.2.set7 (by omega)⟩
  have HV9:Hid (V9=((((((w9.setCell ⟨R,0,none⟩ (Ii Jj k9.day)).setCell ⟨R,1,none⟩ (Sl a9 m3 c9)).setCell ⟨R,2,none⟩ (Sl b9 m4 d9)).setCell ⟨R,3,none⟩ (Ii Jj k9.inn)).setCell ⟨R,4,none⟩ (Ii Jj k9.out)).setCell ⟨R,5,none⟩ (Ii Jj k9.posted)).setCell ⟨R,6,none⟩ (Ii Jj k9.missed)):=hV9
  clear hV9
  refine hK.out _ _ trivial (fun _=>?_)
  clear hK Y9
  clear s0 s1 s2 s3 s4 s5 s6 sf sz
  rw[←HV9.out]
  clear HV9
  (try simp only[Act.put,La,Lz,Lc])
  refine wpAnyH_done (by kernel_rfl) ?_ _
  go_wp2_with fail
  go_meet
  exact ⟨rfl,ac ⟨_,_,_,_,_,_,_,_,_,X9.out⟩⟩
 clear XV2
 obtain ⟨V3,hV3⟩:∃V,V=wc:=⟨_,rfl⟩
 subst hV3
 obtain ⟨rfl,hcx⟩:=hcut
 obtain ⟨a1,c1,m1,b1,d1,m2,k,L,O,hX⟩:=hcx.out
 have XV3:Hid (eu h R (Sl a1 m1 c1) (Sl b1 m2 d1) k L O V3/\Rd V3 B a len cap/\an B w V3):=hX
 clear hcx hX
 go_upto_region 3 with fail
 go_cut[5] (fun s wx=>s=.pointer (some ⟨R,0,none⟩)/\Hid (∃(a1:Option Addr) (c1 m1:Nat) (b1:Option Addr) (d1 m2:Nat) (k:Bk) (L:List al) (O:List am),eu h R (Sl a1 m1 c1) (Sl b1 m2 d1) k L O wx/\Rd wx B a len cap/\an B w wx))
 case first=>
  have Yd:Hid (eu h R (Sl a1 m1 c1) (Sl b1 m2 d1) k L O V3.drew/\Rd V3.drew B a len cap/\an B w V3.drew):=⟨XV3.out.1,XV3.out.2.1,XV3.out.2.2.drewN 1⟩
  refine wp_region_held_drew (S:=fun _=>True) (by kernel_rfl) trivial (fun _=>?_)
  clear XV3
  generalize V3.drew=wd at Yd ⊢
  refine wpAnyH_take (i:=1) (v:=?_) rfl (by kernel_rfl) (by kernel_rfl) (by kernel_rfl) (fun _ _ _ h=>h) (Or.inl ⟨by rfl,?_⟩) trivial ?_
  rotate_left
  ·intro wq hSw
   go_simp
   all_goals (with_reducible rfl)
  (try simp only[Act.put,La,Lz,Lc])
  refine wpAnyH_ready (rs:=[0,2]) (by kernel_rfl) (by simp) ?_
  refine AllReadyH.cons rfl (fun K' hK=>?_) ?_
  ·skip
   obtain ⟨⟨s0,s1,s2,s3,s4,s5,s6⟩,sf,sz⟩:=Yd.out.1.1
   go_simp
   clear s0 s1 s2 s3 s4 s5 s6 sf sz
   refine hK.out _ _ trivial (fun _=>?_)
   clear hK
   (try simp only[Act.put,La,Lz,Lc])
   refine wpAnyH_ready (rs:=[2]) (by kernel_rfl) (by simp) ?_
   refine AllReadyH.cons rfl (fun K' hK=>?_) AllReadyH.nil
   go_simp
   refine (gM B a len cap _ Yd.out.2.1).mono ?_
   rintro e wt1 ⟨p1,rfl,p11,p12,RN,SN⟩
   have Yt1:Hid (eu h R (Sl a1 m1 c1) (Sl b1 m2 d1) k L O wt1/\Rd wt1 B a len cap/\an B w wt1):=⟨Yd.out.1.stp SN hBh hhR,RN,Yd.out.2.2.trans SN⟩
   clear RN SN Yd
   have hwr:IntKind.i64.wrap (1+p1)=1+p1:=by rw[IntKind.wrap_i64];omega
   refine hK.out _ _ trivial (fun _=>?_)
   clear hK
   (try simp only[Act.put,La,Lz,Lc])
   refine wpAnyH_take (i:=3) (v:=?_) rfl (by kernel_rfl) (by kernel_rfl) (by kernel_rfl) (fun _ _ _ h=>h) (Or.inl ⟨by rfl,?_⟩) trivial ?_
   rotate_left
   ·intro wq hSw
    go_simp
    all_goals (with_reducible rfl)
   (try simp only[Act.put,La,Lz,Lc])
   refine wpAnyH_take (i:=4) (v:=?_) rfl (by kernel_rfl) (by kernel_rfl) (by kernel_rfl) (fun _ _ _ h=>h) (Or.inl ⟨by rfl,?_⟩) trivial ?_
   rotate_left
   ·intro wq hSw
    go_simp
    all_goals (with_reducible rfl)
   (try simp only[Act.put,La,Lz,Lc])
   refine wpAnyH_take (i:=5) (v:=?_) rfl (by kernel_rfl) (by kernel_rfl) (by kernel_rfl) (fun _ _ _ h=>h) (Or.inl ⟨by rfl,?_⟩) trivial ?_
   rotate_left
   ·intro wq hSw
    go_simp
    all_goals (with_reducible rfl)
   (try simp only[Act.put,La,Lz,Lc])
   refine wpAnyH_ready (rs:=[6]) (by kernel_rfl) (by simp) ?_
   refine AllReadyH.cons rfl (fun K' hK=>?_) AllReadyH.nil
   go_simp
   refine (es a1 b1 c1 d1 m1 m2 (R+1) k L O 19 5 1 0 (1+p1) 0 0 0 0 0 0 0 0 0 _ Yt1.out.1.2.2.1 Yt1.out.1.2.2.2.1 Yt1.out.1.2.2.2.2.1 Yt1.out.1.2.2.2.2.2).mono ?_
   rintro e w9 ⟨cd,v9,u9,k9,L9,O9,rfl,A9,Q9,l9,o9,B9⟩
   obtain ⟨a9,c9,hv⟩:=A9.len
   subst hv
   obtain ⟨b9,d9,hv⟩:=Q9.len
   subst hv
   obtain ⟨m3,hm3⟩:∃m,L9.length=m:=⟨_,rfl⟩
   obtain ⟨m4,hm4⟩:∃m,O9.length=m:=⟨_,rfl⟩
   have Y9:Hid ((eu h R (Sl a1 m1 c1) (Sl b1 m2 d1) k L O w9/\Rd w9 B a len cap/\an B w w9)/\AL w9 (R+1) (Sl a9 m3 c9) L9/\ag w9 (R+1) (Sl b9 m4 d9) O9/\L9.length<=12/\O9.length<=8):=by
    have hsz:=Yt1.out.1.1.2.2
    have s9:=an.ofBelow (B:=B) B9
    rw[←hm3,←hm4]
    exact ⟨⟨Yt1.out.1.stp s9 hBh hhR,Yt1.out.2.1.same (B9.mono (by omega)),Yt1.out.2.2.trans s9⟩,A9.mono (by omega),Q9.mono (by omega),l9,o9⟩
   simp only[hm3,hm4]
   clear A9 Q9 l9 o9 B9 Yt1 hm3 hm4
   refine hK.out _ _ trivial (fun _=>?_)
   clear hK
   (try simp only[Act.put,La,Lz,Lc])
   refine wpAnyH_take (i:=7) (v:=?_) rfl (by kernel_rfl) (by kernel_rfl) (by kernel_rfl) (fun _ _ _ h=>h) (Or.inl ⟨by rfl,?_⟩) trivial ?_
   rotate_left
   ·intro wq hSw
    go_simp
    all_goals (with_reducible rfl)
   (try simp only[Act.put,La,Lz,Lc])
   refine wpAnyH_take (i:=8) (v:=?_) rfl (by kernel_rfl) (by kernel_rfl) (by kernel_rfl) (fun _ _ _ h=>h) (Or.inl ⟨by rfl,?_⟩) trivial ?_
   rotate_left
   ·intro wq hSw
    go_simp
    all_goals (with_reducible rfl)
   (try simp only[Act.put,La,Lz,Lc])
   refine wpAnyH_take (i:=9) (v:=?_) rfl (by kernel_rfl) (by kernel_rfl) (by kernel_rfl) (fun _ _ _ h=>h) (Or.inl ⟨by rfl,?_⟩) trivial ?_
   rotate_left
   ·intro wq hSw
    go_simp
    all_goals (with_reducible rfl)
   (try simp only[Act.put,La,Lz,Lc])
   refine wpAnyH_ready (rs:=[10]) (by kernel_rfl) (by simp) ?_
   refine AllReadyH.cons rfl (fun K' hK=>?_) AllReadyH.nil
   obtain ⟨⟨s0,s1,s2,s3,s4,s5,s6⟩,sf,sz⟩:=Y9.out.1.1.1
   go_simp
   obtain ⟨V9,hV9,X9⟩:∃V,V=iD w9 R k9 (Sl a9 m3 c9) (Sl b9 m4 d9)/\Hid (eu h R (Sl a9 m3 c9) (Sl b9 m4 d9) k9 L9 O9 V/\Rd V B a len cap/\an B w V):=⟨_,rfl,Y9.out.1.1.turn Y9.out.2.1 Y9.out.2.2.1 (Nf _) hhR Y9.out.2.2.2.1 Y9.out.2.2.2.2,Y9.out.1.2.1.set7 (by omega),Y9.out.1.2.2.set7 (by omega)⟩
   have HV9:Hid (V9=((((((w9.setCell ⟨R,0,none⟩ (Ii Jj k9.day)).setCell ⟨R,1,none⟩ (Sl a9 m3 c9)).setCell ⟨R,2,none⟩ (Sl b9 m4 d9)).setCell ⟨R,3,none⟩ (Ii Jj k9.inn)).setCell ⟨R,4,none⟩ (Ii Jj k9.out)).setCell ⟨R,5,none⟩ (Ii Jj k9.posted)).setCell ⟨R,6,none⟩ (Ii Jj k9.missed)):=hV9
   clear hV9
   refine hK.out _ _ trivial (fun _=>?_)
   clear hK Y9
   clear s0 s1 s2 s3 s4 s5 s6 sf sz
   rw[←HV9.out]
   clear HV9
   (try simp only[Act.put,La,Lz,Lc])
   refine wpAnyH_done (by kernel_rfl) ?_ _
   go_wp2_with fail
   go_meet
   exact ⟨rfl,ac ⟨_,_,_,_,_,_,_,_,_,X9.out⟩⟩
  refine AllReadyH.cons rfl (fun K' hK=>?_) AllReadyH.nil
  go_simp
  refine (gM B a len cap _ Yd.out.2.1).mono ?_
  rintro e wt1 ⟨p1,rfl,p11,p12,RN,SN⟩
  have Yt1:Hid (eu h R (Sl a1 m1 c1) (Sl b1 m2 d1) k L O wt1/\Rd wt1 B a len cap/\an B w wt1):=⟨Yd.out.1.stp SN hBh hhR,RN,Yd.out.2.2.trans SN⟩
  clear RN SN Yd
  have hwr:IntKind.i64.wrap (1+p1)=1+p1:=by rw[IntKind.wrap_i64];omega
  refine hK.out _ _ trivial (fun _=>?_)
  clear hK
  (try simp only[Act.put,La,Lz,Lc])
  refine wpAnyH_take (i:=3) (v:=?_) rfl (by kernel_rfl) (by kernel_rfl) (by kernel_rfl) (fun _ _ _ h=>h) (Or.inl ⟨by rfl,?_⟩) trivial ?_
  rotate_left
  ·intro wq hSw
   go_simp
   all_goals (with_reducible rfl)
  (try simp only[Act.put,La,Lz,Lc])
  refine wpAnyH_take (i:=4) (v:=?_) rfl (by kernel_rfl) (by kernel_rfl) (by kernel_rfl) (fun _ _ _ h=>h) (Or.inl ⟨by rfl,?_⟩) trivial ?_
  rotate_left
  ·intro wq hSw
   go_simp
   all_goals (with_reducible rfl)
  (try simp only[Act.put,La,Lz,Lc])
  refine wpAnyH_take (i:=5) (v:=?_) rfl (by kernel_rfl) (by kernel_rfl) (by kernel_rfl) (fun _ _ _ h=>h) (Or.inl ⟨by rfl,?_⟩) trivial ?_
  rotate_left
  ·intro wq hSw
   go_simp
   all_goals (with_reducible rfl)
  (try simp only[Act.put,La,Lz,Lc])
  refine wpAnyH_ready (rs:=[0]) (by kernel_rfl) (by simp) ?_
  refine AllReadyH.cons rfl (fun K' hK=>?_) AllReadyH.nil
  obtain ⟨⟨s0,s1,s2,s3,s4,s5,s6⟩,sf,sz⟩:=Yt1.out.1.1
  go_simp
  clear s0 s1 s2 s3 s4 s5 s6 sf sz
  refine hK.out _ _ trivial (fun _=>?_)
  clear hK
  (try simp only[Act.put,La,Lz,Lc])
  refine wpAnyH_ready (rs:=[6]) (by kernel_rfl) (by simp) ?_
  refine AllReadyH.cons rfl (fun K' hK=>?_) AllReadyH.nil
  go_simp
  refine (es a1 b1 c1 d1 m1 m2 (R+1) k L O 19 5 1 0 (1+p1) 0 0 0 0 0 0 0 0 0 _ Yt1.out.1.2.2.1 Yt1.out.1.2.2.2.1 Yt1.out.1.2.2.2.2.1 Yt1.out.1.2.2.2.2.2).mono ?_
  rintro e w9 ⟨cd,v9,u9,k9,L9,O9,rfl,A9,Q9,l9,o9,B9⟩
  obtain ⟨a9,c9,hv⟩:=A9.len
  subst hv
  obtain ⟨b9,d9,hv⟩:=Q9.len
  subst hv
  obtain ⟨m3,hm3⟩:∃m,L9.length=m:=⟨_,rfl⟩
  obtain ⟨m4,hm4⟩:∃m,O9.length=m:=⟨_,rfl⟩
  have Y9:Hid ((eu h R (Sl a1 m1 c1) (Sl b1 m2 d1) k L O w9/\Rd w9 B a len cap/\an B w w9)/\AL w9 (R+1) (Sl a9 m3 c9) L9/\ag w9 (R+1) (Sl b9 m4 d9) O9/\L9.length<=12/\O9.length<=8):=by
   have hsz:=Yt1.out.1.1.2.2
   have s9:=an.ofBelow (B:=B) B9
   rw[←hm3,←hm4]
   exact ⟨⟨Yt1.out.1.stp s9 hBh hhR,Yt1.out.2.1.same (B9.mono (by omega)),Yt1.out.2.2.trans s9⟩,A9.mono (by omega),Q9.mono (by omega),l9,o9⟩
  simp only[hm3,hm4]
  clear A9 Q9 l9 o9 B9 Yt1 hm3 hm4
  refine hK.out _ _ trivial (fun _=>?_)
  clear hK
  (try simp only[Act.put,La,Lz,Lc])
  refine wpAnyH_take (i:=7) (v:=?_) rfl (by kernel_rfl) (by kernel_rfl) (by kernel_rfl) (fun _ _ _ h=>h) (Or.inl ⟨by rfl,?_⟩) trivial ?_
  rotate_left
  ·intro wq hSw
   go_simp
   all_goals (with_reducible rfl)
  (try simp only[Act.put,La,Lz,Lc])
  refine wpAnyH_take (i:=8) (v:=?_) rfl (by kernel_rfl) (by kernel_rfl) (by kernel_rfl) (fun _ _ _ h=>h) (Or.inl ⟨by rfl,?_⟩) trivial ?_
  rotate_left
  ·intro wq hSw
   go_simp
   all_goals (with_reducible rfl)
  (try simp only[Act.put,La,Lz,Lc])
  refine wpAnyH_take (i:=9) (v:=?_) rfl (by kernel_rfl) (by kernel_rfl) (by kernel_rfl) (fun _ _ _ h=>h) (Or.inl ⟨by rfl,?_⟩) trivial ?_
  rotate_left
  ·intro wq hSw
   go_simp
   all_goals (with_reducible rfl)
  (try simp only[Act.put,La,Lz,Lc])
  refine wpAnyH_ready (rs:=[10]) (by kernel_rfl) (by simp) ?_
  refine AllReadyH.cons rfl (fun K' hK=>?_) AllReadyH.nil
  obtain ⟨⟨s0,s1,s2,s3,s4,s5,s6⟩,sf,sz⟩:=Y9.out.1.1.1
  go_simp
  obtain ⟨V9,hV9,X9⟩:∃V,V=iD w9 R k9 (Sl a9 m3 c9) (Sl b9 m4 d9)/\Hid (eu h R (Sl a9 m3 c9) (Sl b9 m4 d9) k9 L9 O9 V/\Rd V B a len cap/\an B w V):=⟨_,rfl,Y9.out.1.1.turn Y9.out.2.1 Y9.out.2.2.1 (Nf _) hhR Y9.out.2.2.2.1 Y9.out.2.2.2.2,Y9.out.1.2.1.set7 (by omega),Y9.out.1.2.2.set7 (by omega)⟩
  have HV9:Hid (V9=((((((w9.setCell ⟨R,0,none⟩ (Ii Jj k9.day)).setCell ⟨R,1,none⟩ (Sl a9 m3 c9)).setCell ⟨R,2,none⟩ (Sl b9 m4 d9)).setCell ⟨R,3,none⟩ (Ii Jj k9.inn)).setCell ⟨R,4,none⟩ (Ii Jj k9.out)).setCell ⟨R,5,none⟩ (Ii Jj k9.posted)).setCell ⟨R,6,none⟩ (Ii Jj k9.missed)):=hV9
  clear hV9
  refine hK.out _ _ trivial (fun _=>?_)
  clear hK Y9
  clear s0 s1 s2 s3 s4 s5 s6 sf sz
  rw[←HV9.out]
  clear HV9
  (try simp only[Act.put,La,Lz,Lc])
  refine wpAnyH_done (by kernel_rfl) ?_ _
  go_wp2_with fail
  go_meet
  exact ⟨rfl,ac ⟨_,_,_,_,_,_,_,_,_,X9.out⟩⟩
 clear XV3
 obtain ⟨V4,hV4⟩:∃V,V=wc:=⟨_,rfl⟩
 subst hV4
 obtain ⟨rfl,hcx⟩:=hcut
 obtain ⟨a1,c1,m1,b1,d1,m2,k,L,O,hX⟩:=hcx.out
 have XV4:Hid (eu h R (Sl a1 m1 c1) (Sl b1 m2 d1) k L O V4/\Rd V4 B a len cap/\an B w V4):=hX
 clear hcx hX
 go_wp2_with fail
 refine (aq B a len cap (most+1) _ XV4.out.2.1 (by omega) (by omega)).mono ?_
 rintro e w5 ⟨y,rfl,y1,y2,RN,SN⟩
 have X5:Hid (eu h R (Sl a1 m1 c1) (Sl b1 m2 d1) k L O w5/\Rd w5 B a len cap/\an B w w5):=⟨XV4.out.1.stp SN hBh hhR,RN,XV4.out.2.2.trans SN⟩
 clear RN SN XV4
 obtain ⟨i0,rfl⟩:=Int.eq_ofNat_of_zero_le y1
 go_wp2
 go_loopw[7] (fun q wr=>∃(i:Nat) (v u:Value) (k:Bk) (L:List al) (O:List am),i<=101/\q=Ii Jj i/\Hid (eu h R v u k L O wr/\Rd wr B a len cap/\an B w wr)) (fun q _=>(intOf q).toNat)
 case atStart=>exact ⟨i0,_,_,_,_,_,by omega,rfl,X5⟩
 case round=>
  obtain ⟨i,v,u,k,L,O,hi,rfl,X0⟩:=hrel
  clear X5
  obtain ⟨a1,c1,hv⟩:=X0.out.1.2.2.1.len
  subst hv
  obtain ⟨b1,d1,hv⟩:=X0.out.1.2.2.2.1.len
  subst hv
  obtain ⟨m1,hm1⟩:∃m,L.length=m:=⟨_,rfl⟩
  obtain ⟨m2,hm2⟩:∃m,O.length=m:=⟨_,rfl⟩
  have Xwr:Hid (eu h R (Sl a1 m1 c1) (Sl b1 m2 d1) k L O wr/\Rd wr B a len cap/\an B w wr):=by rw[←hm1,←hm2];exact X0.out
  clear X0 hm1 hm2
  by_cases h0:0<i
  ·have h0':(0:Int)<(i:Int):=by omega
   go_upto_region 7 with fail
   have Yd:Hid (eu h R (Sl a1 m1 c1) (Sl b1 m2 d1) k L O wr.drew/\Rd wr.drew B a len cap/\an B w wr.drew):=⟨Xwr.out.1,Xwr.out.2.1,Xwr.out.2.2.drewN 1⟩
   refine wp_region_held_drew (S:=fun _=>True) (by kernel_rfl) trivial (fun _=>?_)
   clear Xwr
   generalize wr.drew=wd at Yd ⊢
   refine wpAnyH_take (i:=1) (v:=?_) rfl (by kernel_rfl) (by kernel_rfl) (by kernel_rfl) (fun _ _ _ h=>h) (Or.inl ⟨by rfl,?_⟩) trivial ?_
   rotate_left
   ·intro wq hSw
    go_simp
    all_goals (with_reducible rfl)
   (try simp only[Act.put,La,Lz,Lc])
   refine wpAnyH_ready (rs:=[0,2]) (by kernel_rfl) (by simp) ?_
   refine AllReadyH.cons rfl (fun K' hK=>?_) ?_
   ·skip
    obtain ⟨⟨s0,s1,s2,s3,s4,s5,s6⟩,sf,sz⟩:=Yd.out.1.1
    go_simp
    clear s0 s1 s2 s3 s4 s5 s6 sf sz
    refine hK.out _ _ trivial (fun _=>?_)
    clear hK
    (try simp only[Act.put,La,Lz,Lc])
    refine wpAnyH_ready (rs:=[2]) (by kernel_rfl) (by simp) ?_
    refine AllReadyH.cons rfl (fun K' hK=>?_) AllReadyH.nil
    go_simp
    refine (lf B a len cap _ Yd.out.2.1).mono ?_
    rintro e wt1 ⟨K5,n5,x5,o5,rfl,RN,SN⟩
    have Yt1:Hid (eu h R (Sl a1 m1 c1) (Sl b1 m2 d1) k L O wt1/\Rd wt1 B a len cap/\an B w wt1):=⟨Yd.out.1.stp SN hBh hhR,RN,Yd.out.2.2.trans SN⟩
    clear RN SN Yd
    refine hK.out _ _ trivial (fun _=>?_)
    clear hK
    (try simp only[Act.put,La,Lz,Lc])
    refine wpAnyH_ready (rs:=[3]) (by kernel_rfl) (by simp) ?_
    refine AllReadyH.cons rfl (fun K' hK=>?_) AllReadyH.nil
    go_simp
    refine (es a1 b1 c1 d1 m1 m2 (R+1) k L O K5 x5.k x5.i x5.t x5.m x5.r o5.id o5.src o5.dst o5.amount o5.first o5.every o5.times n5 _ Yt1.out.1.2.2.1 Yt1.out.1.2.2.2.1 Yt1.out.1.2.2.2.2.1 Yt1.out.1.2.2.2.2.2).mono ?_
    rintro e w9 ⟨cd,v9,u9,k9,L9,O9,rfl,A9,Q9,l9,o9,B9⟩
    obtain ⟨a9,c9,hv⟩:=A9.len
    subst hv
    obtain ⟨b9,d9,hv⟩:=Q9.len
    subst hv
    obtain ⟨m3,hm3⟩:∃m,L9.length=m:=⟨_,rfl⟩
    obtain ⟨m4,hm4⟩:∃m,O9.length=m:=⟨_,rfl⟩
    have Y9:Hid ((eu h R (Sl a1 m1 c1) (Sl b1 m2 d1) k L O w9/\Rd w9 B a len cap/\an B w w9)/\AL w9 (R+1) (Sl a9 m3 c9) L9/\ag w9 (R+1) (Sl b9 m4 d9) O9/\L9.length<=12/\O9.length<=8):=by
     have hsz:=Yt1.out.1.1.2.2
     have s9:=an.ofBelow (B:=B) B9
     rw[←hm3,←hm4]
     exact ⟨⟨Yt1.out.1.stp s9 hBh hhR,Yt1.out.2.1.same (B9.mono (by omega)),Yt1.out.2.2.trans s9⟩,A9.mono (by omega),Q9.mono (by omega),l9,o9⟩
    simp only[hm3,hm4]
    clear A9 Q9 l9 o9 B9 Yt1 hm3 hm4
    refine hK.out _ _ trivial (fun _=>?_)
    clear hK
    (try simp only[Act.put,La,Lz,Lc])
    refine wpAnyH_take (i:=4) (v:=?_) rfl (by kernel_rfl) (by kernel_rfl) (by kernel_rfl) (fun _ _ _ h=>h) (Or.inl ⟨by rfl,?_⟩) trivial ?_
    rotate_left
    ·intro wq hSw
     go_simp
     all_goals (with_reducible rfl)
    (try simp only[Act.put,La,Lz,Lc])
    refine wpAnyH_take (i:=5) (v:=?_) rfl (by kernel_rfl) (by kernel_rfl) (by kernel_rfl) (fun _ _ _ h=>h) (Or.inl ⟨by rfl,?_⟩) trivial ?_
    rotate_left
    ·intro wq hSw
     go_simp
     all_goals (with_reducible rfl)
    (try simp only[Act.put,La,Lz,Lc])
    refine wpAnyH_take (i:=6) (v:=?_) rfl (by kernel_rfl) (by kernel_rfl) (by kernel_rfl) (fun _ _ _ h=>h) (Or.inl ⟨by rfl,?_⟩) trivial ?_
    rotate_left
    ·intro wq hSw
     go_simp
     all_goals (with_reducible rfl)
    (try simp only[Act.put,La,Lz,Lc])
    refine wpAnyH_ready (rs:=[7]) (by kernel_rfl) (by simp) ?_
    refine AllReadyH.cons rfl (fun K' hK=>?_) AllReadyH.nil
    obtain ⟨⟨s0,s1,s2,s3,s4,s5,s6⟩,sf,sz⟩:=Y9.out.1.1.1
    go_simp
    obtain ⟨V9,hV9,X9⟩:∃V,V=iD w9 R k9 (Sl a9 m3 c9) (Sl b9 m4 d9)/\Hid (eu h R (Sl a9 m3 c9) (Sl b9 m4 d9) k9 L9 O9 V/\Rd V B a len cap/\an B w V):=⟨_,rfl,Y9.out.1.1.turn Y9.out.2.1 Y9.out.2.2.1 (Nf _) hhR Y9.out.2.2.2.1 Y9.out.2.2.2.2,Y9.out.1.2.1.set7 (by omega),Y9.out.1.2.2.set7 (by omega)⟩
    have HV9:Hid (V9=((((((w9.setCell ⟨R,0,none⟩ (Ii Jj k9.day)).setCell ⟨R,1,none⟩ (Sl a9 m3 c9)).setCell ⟨R,2,none⟩ (Sl b9 m4 d9)).setCell ⟨R,3,none⟩ (Ii Jj k9.inn)).setCell ⟨R,4,none⟩ (Ii Jj k9.out)).setCell ⟨R,5,none⟩ (Ii Jj k9.posted)).setCell ⟨R,6,none⟩ (Ii Jj k9.missed)):=hV9
    clear hV9
    refine hK.out _ _ trivial (fun _=>?_)
    clear hK Y9
    clear s0 s1 s2 s3 s4 s5 s6 sf sz
    rw[←HV9.out]
    clear HV9
    (try simp only[Act.put,La,Lz,Lc])
    refine wpAnyH_done (by kernel_rfl) ?_ _
    go_wp2
    go_roundw
    case rel=>exact ⟨i-1,_,_,_,_,_,by omega,by go_num,X9⟩
    case measure=>simp[intOf];omega
   refine AllReadyH.cons rfl (fun K' hK=>?_) AllReadyH.nil
   go_simp
   refine (lf B a len cap _ Yd.out.2.1).mono ?_
   rintro e wt1 ⟨K5,n5,x5,o5,rfl,RN,SN⟩
   have Yt1:Hid (eu h R (Sl a1 m1 c1) (Sl b1 m2 d1) k L O wt1/\Rd wt1 B a len cap/\an B w wt1):=⟨Yd.out.1.stp SN hBh hhR,RN,Yd.out.2.2.trans SN⟩
   clear RN SN Yd
   refine hK.out _ _ trivial (fun _=>?_)
   clear hK
   (try simp only[Act.put,La,Lz,Lc])
   refine wpAnyH_ready (rs:=[0]) (by kernel_rfl) (by simp) ?_
   refine AllReadyH.cons rfl (fun K' hK=>?_) AllReadyH.nil
   obtain ⟨⟨s0,s1,s2,s3,s4,s5,s6⟩,sf,sz⟩:=Yt1.out.1.1
   go_simp
   clear s0 s1 s2 s3 s4 s5 s6 sf sz
   refine hK.out _ _ trivial (fun _=>?_)
   clear hK
   (try simp only[Act.put,La,Lz,Lc])
   refine wpAnyH_ready (rs:=[3]) (by kernel_rfl) (by simp) ?_
   refine AllReadyH.cons rfl (fun K' hK=>?_) AllReadyH.nil
   go_simp
   refine (es a1 b1 c1 d1 m1 m2 (R+1) k L O K5 x5.k x5.i x5.t x5.m x5.r o5.id o5.src o5.dst o5.amount o5.first o5.every o5.times n5 _ Yt1.out.1.2.2.1 Yt1.out.1.2.2.2.1 Yt1.out.1.2.2.2.2.1 Yt1.out.1.2.2.2.2.2).mono ?_
   rintro e w9 ⟨cd,v9,u9,k9,L9,O9,rfl,A9,Q9,l9,o9,B9⟩
   obtain ⟨a9,c9,hv⟩:=A9.len
   subst hv
   obtain ⟨b9,d9,hv⟩:=Q9.len
   subst hv
   obtain ⟨m3,hm3⟩:∃m,L9.length=m:=⟨_,rfl⟩
   obtain ⟨m4,hm4⟩:∃m,O9.length=m:=⟨_,rfl⟩
   have Y9:Hid ((eu h R (Sl a1 m1 c1) (Sl b1 m2 d1) k L O w9/\Rd w9 B a len cap/\an B w w9)/\AL w9 (R+1) (Sl a9 m3 c9) L9/\ag w9 (R+1) (Sl b9 m4 d9) O9/\L9.length<=12/\O9.length<=8):=by
    have hsz:=Yt1.out.1.1.2.2
    have s9:=an.ofBelow (B:=B) B9
    rw[←hm3,←hm4]
    exact ⟨⟨Yt1.out.1.stp s9 hBh hhR,Yt1.out.2.1.same (B9.mono (by omega)),Yt1.out.2.2.trans s9⟩,A9.mono (by omega),Q9.mono (by omega),l9,o9⟩
   simp only[hm3,hm4]
   clear A9 Q9 l9 o9 B9 Yt1 hm3 hm4
   refine hK.out _ _ trivial (fun _=>?_)
   clear hK
   (try simp only[Act.put,La,Lz,Lc])
   refine wpAnyH_take (i:=4) (v:=?_) rfl (by kernel_rfl) (by kernel_rfl) (by kernel_rfl) (fun _ _ _ h=>h) (Or.inl ⟨by rfl,?_⟩) trivial ?_
   rotate_left
   ·intro wq hSw
    go_simp
    all_goals (with_reducible rfl)
   (try simp only[Act.put,La,Lz,Lc])
   refine wpAnyH_take (i:=5) (v:=?_) rfl (by kernel_rfl) (by kernel_rfl) (by kernel_rfl) (fun _ _ _ h=>h) (Or.inl ⟨by rfl,?_⟩) trivial ?_
   rotate_left
   ·intro wq hSw
    go_simp
    all_goals (with_reducible rfl)
   (try simp only[Act.put,La,Lz,Lc])
   refine wpAnyH_take (i:=6) (v:=?_) rfl (by kernel_rfl) (by kernel_rfl) (by kernel_rfl) (fun _ _ _ h=>h) (Or.inl ⟨by rfl,?_⟩) trivial ?_
   rotate_left
   ·intro wq hSw
    go_simp
    all_goals (with_reducible rfl)
   (try simp only[Act.put,La,Lz,Lc])
   refine wpAnyH_ready (rs:=[7]) (by kernel_rfl) (by simp) ?_
   refine AllReadyH.cons rfl (fun K' hK=>?_) AllReadyH.nil
   obtain ⟨⟨s0,s1,s2,s3,s4,s5,s6⟩,sf,sz⟩:=Y9.out.1.1.1
   go_simp
   obtain ⟨V9,hV9,X9⟩:∃V,V=iD w9 R k9 (Sl a9 m3 c9) (Sl b9 m4 d9)/\Hid (eu h R (Sl a9 m3 c9) (Sl b9 m4 d9) k9 L9 O9 V/\Rd V B a len cap/\an B w V):=⟨_,rfl,Y9.out.1.1.turn Y9.out.2.1 Y9.out.2.2.1 (Nf _) hhR Y9.out.2.2.2.1 Y9.out.2.2.2.2,Y9.out.1.2.1.set7 (by omega),Y9.out.1.2.2.set7 (by omega)⟩
   have HV9:Hid (V9=((((((w9.setCell ⟨R,0,none⟩ (Ii Jj k9.day)).setCell ⟨R,1,none⟩ (Sl a9 m3 c9)).setCell ⟨R,2,none⟩ (Sl b9 m4 d9)).setCell ⟨R,3,none⟩ (Ii Jj k9.inn)).setCell ⟨R,4,none⟩ (Ii Jj k9.out)).setCell ⟨R,5,none⟩ (Ii Jj k9.posted)).setCell ⟨R,6,none⟩ (Ii Jj k9.missed)):=hV9
   clear hV9
   refine hK.out _ _ trivial (fun _=>?_)
   clear hK Y9
   clear s0 s1 s2 s3 s4 s5 s6 sf sz
   rw[←HV9.out]
   clear HV9
   (try simp only[Act.put,La,Lz,Lc])
   refine wpAnyH_done (by kernel_rfl) ?_ _
   go_wp2
   go_roundw
   case rel=>exact ⟨i-1,_,_,_,_,_,by omega,by go_num,X9⟩
   case measure=>simp[intOf];omega
  ·have hi0:i=0:=by omega
   subst hi0
   go_wp2_with fail
   refine (aq B a len cap 40 _ Xwr.out.2.1 (by omega) (by omega)).mono ?_
   rintro e w7 ⟨y,rfl,y1,y2,RN,SN⟩
   have Xe:Hid (eu h R (Sl a1 m1 c1) (Sl b1 m2 d1) k L O w7/\Rd w7 B a len cap/\an B w w7):=⟨Xwr.out.1.stp SN hBh hhR,RN,Xwr.out.2.2.trans SN⟩
   clear RN SN Xwr
   by_cases y38:y=38
   ·skip
    subst y38
    go_wp2_with fail
    refine (aV B a len cap 0 90 _ Xe.out.2.1 (by omega) (by omega) (by omega)).mono ?_
    rintro e w8 ⟨z,rfl,RN,SN⟩
    have Xf:Hid (eu h R (Sl a1 m1 c1) (Sl b1 m2 d1) k L O w8/\Rd w8 B a len cap/\an B w w8):=⟨Xe.out.1.stp SN hBh hhR,RN,Xe.out.2.2.trans SN⟩
    clear RN SN Xe
    obtain ⟨⟨s0,s1,s2,s3,s4,s5,s6⟩,sf,sz⟩:=Xf.out.1.1
    obtain ⟨⟨r0,r1,r2,r3,r4,r5,r6⟩,rf,rz⟩:=Xf.out.1.2.1
    have nhR:¬h=R:=by omega
    have nhR':¬R=h:=by omega
    go_wp2
    refine bodyPost_ret (v:=.agg #[Ii Jj k.day,Sl a1 m1 c1,Sl b1 m2 d1,Ii Jj z,Ii Jj k.out,Ii Jj k.posted,Ii Jj k.missed]) (by simp[results,Tryz.results20,go_sem,r0,r1,r2,r3,r4,r5,r6]) rfl ⟨⟨k.day,z,k.out,k.posted,k.missed⟩,L,O,_,_,rfl,Xf.out.1.2.2.2.2.1,Xf.out.1.2.2.2.2.2,?_,?_,?_,?_⟩
    ·refine AL.mono (B:=R+1) ?_ (by rw[HH.out];omega)
     repeat (refine AL.far ?_ (by omega) _ _)
     exact Xf.out.1.2.2.1
    ·refine ag.mono (B:=R+1) ?_ (by rw[HH.out];omega)
     repeat (refine ag.far ?_ (by omega) _ _)
     exact Xf.out.1.2.2.2.1
    ·repeat (refine Rd.setFar ?_ (by omega) _)
     exact Xf.out.2.1
    ·repeat (refine an.far ?_ (by omega) _ _)
     exact Xf.out.2.2
   have b38:(y == 38)=false:=by simp[y38]
   by_cases y39:y=39
   ·skip
    subst y39
    go_wp2_with fail
    refine (aV B a len cap 0 3000000 _ Xe.out.2.1 (by omega) (by omega) (by omega)).mono ?_
    rintro e w8 ⟨z,rfl,RN,SN⟩
    have Xf:Hid (eu h R (Sl a1 m1 c1) (Sl b1 m2 d1) k L O w8/\Rd w8 B a len cap/\an B w w8):=⟨Xe.out.1.stp SN hBh hhR,RN,Xe.out.2.2.trans SN⟩
    clear RN SN Xe
    obtain ⟨⟨s0,s1,s2,s3,s4,s5,s6⟩,sf,sz⟩:=Xf.out.1.1
    obtain ⟨⟨r0,r1,r2,r3,r4,r5,r6⟩,rf,rz⟩:=Xf.out.1.2.1
    have nhR:¬h=R:=by omega
    have nhR':¬R=h:=by omega
    go_wp2
    refine bodyPost_ret (v:=.agg #[Ii Jj z,Sl a1 m1 c1,Sl b1 m2 d1,Ii Jj k.inn,Ii Jj k.out,Ii Jj k.posted,Ii Jj k.missed]) (by simp[results,Tryz.results20,go_sem,r0,r1,r2,r3,r4,r5,r6]) rfl ⟨⟨z,k.inn,k.out,k.posted,k.missed⟩,L,O,_,_,rfl,Xf.out.1.2.2.2.2.1,Xf.out.1.2.2.2.2.2,?_,?_,?_,?_⟩
    ·refine AL.mono (B:=R+1) ?_ (by rw[HH.out];omega)
     repeat (refine AL.far ?_ (by omega) _ _)
     exact Xf.out.1.2.2.1
    ·refine ag.mono (B:=R+1) ?_ (by rw[HH.out];omega)
     repeat (refine ag.far ?_ (by omega) _ _)
     exact Xf.out.1.2.2.2.1
    ·repeat (refine Rd.setFar ?_ (by omega) _)
     exact Xf.out.2.1
    ·repeat (refine an.far ?_ (by omega) _ _)
     exact Xf.out.2.2
   have b39:(y == 39)=false:=by simp[y39]
   obtain ⟨⟨s0,s1,s2,s3,s4,s5,s6⟩,sf,sz⟩:=Xe.out.1.1
   obtain ⟨⟨r0,r1,r2,r3,r4,r5,r6⟩,rf,rz⟩:=Xe.out.1.2.1
   have nhR:¬h=R:=by omega
   have nhR':¬R=h:=by omega
   go_wp2
   refine bodyPost_ret (v:=.agg #[Ii Jj k.day,Sl a1 m1 c1,Sl b1 m2 d1,Ii Jj k.inn,Ii Jj k.out,Ii Jj k.posted,Ii Jj k.missed]) (by simp[results,Tryz.results20,go_sem,r0,r1,r2,r3,r4,r5,r6]) rfl ⟨k,L,O,_,_,rfl,Xe.out.1.2.2.2.2.1,Xe.out.1.2.2.2.2.2,?_,?_,?_,?_⟩
   ·refine AL.mono (B:=R+1) ?_ (by rw[HH.out];omega)
    repeat (refine AL.far ?_ (by omega) _ _)
    exact Xe.out.1.2.2.1
   ·refine ag.mono (B:=R+1) ?_ (by rw[HH.out];omega)
    repeat (refine ag.far ?_ (by omega) _ _)
    exact Xe.out.1.2.2.2.1
   ·repeat (refine Rd.setFar ?_ (by omega) _)
    exact Xe.out.2.1
   ·repeat (refine an.far ?_ (by omega) _ _)
    exact Xe.out.2.2
end Go.Proofs.YtjhgchlfpolkcaaGreatDoor
