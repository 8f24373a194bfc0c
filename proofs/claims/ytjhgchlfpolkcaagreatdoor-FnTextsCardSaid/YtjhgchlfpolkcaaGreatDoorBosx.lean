/- Ops of a bank. -/
import Derived.Test.YtjhgchlfpolkcaaGreatDoorBopx
namespace Go.Proofs.YtjhgchlfpolkcaaGreatDoor
section
open Go.RowKit
set_option maxRecDepth 8000
theorem ae.iff {e:Ending} {P Q:Prop} (h:ae e P) (k:P↔Q):ae e Q:=by
 obtain ⟨b,he,h1,h2⟩:=h
 exact ⟨b,he,fun hb=>k.1 (h1 hb),fun hb hq=>h2 hb (k.2 hq)⟩
theorem kX (K n:Int) (x:bB) (o:am) (w:World):
  Calls Tryz.prog 31 #[.agg #[.int .i64 K,.int .i64 x.k,.int .i64 x.i,.int .i64 x.t,.int .i64 x.m,.int .i64 x.r,.int .i64 o.id,.int .i64 o.src,.int .i64 o.dst,.int .i64 o.amount,.int .i64 o.first,.int .i64 o.every,.int .i64 o.times,.int .i64 n]] w fun e w'=>ae e (aA K x o n)/\Below w.heap.size w w':=by
 by_cases h19:K=19
 ·subst h19
  refine (nz n x o w).mono fun e w' h=>⟨h.1.iff ?_,h.2⟩
  unfold aA dc db
  constructor
  ·rintro ⟨h1,h2,h3⟩;exact Or.inl ⟨rfl,h1,h2,h3⟩
  ·rintro (⟨_,h1,h2,h3⟩|⟨h1,_⟩|⟨h1,_⟩|⟨h1,_⟩)
   ·exact ⟨h1,h2,h3⟩
   all_goals omega
 by_cases h20:K=20
 ·subst h20
  refine (jL n x o w).mono fun e w' h=>⟨h.1.iff ?_,h.2⟩
  unfold aA dc db
  constructor
  ·rintro ⟨h1,h2,h3⟩;exact Or.inr (Or.inl ⟨rfl,h2,h1,h3⟩)
  ·rintro (⟨h1,_⟩|⟨_,h1,h2,h3⟩|⟨h1,_⟩|⟨h1,_⟩)
   ·omega
   ·exact ⟨h2,h1,h3⟩
   all_goals omega
 by_cases h21:K=21
 ·subst h21
  refine (jf n x o w).mono fun e w' h=>⟨h.1.iff ?_,h.2⟩
  unfold aA dc db
  constructor
  ·rintro ⟨h1,h2,h3⟩;exact Or.inr (Or.inr (Or.inl ⟨rfl,h2,h3,h1⟩))
  ·rintro (⟨h1,_⟩|⟨h1,_⟩|⟨_,h1,h2,h3⟩|⟨h1,_⟩)
   ·omega
   ·omega
   ·exact ⟨h3,h1,h2⟩
   ·omega
 refine (lY K n x o w h19 h20 h21).mono fun e w' h=>⟨h.1.iff ?_,h.2⟩
 unfold aA dc db
 constructor
 ·rintro ⟨h1,h2,h3,h4⟩;exact Or.inr (Or.inr (Or.inr ⟨h1,h2,h3,h4⟩))
 ·rintro (⟨h1,_⟩|⟨h1,_⟩|⟨h1,_⟩|h1)
  ·exact absurd h1 h19
  ·exact absurd h1 h20
  ·exact absurd h1 h21
  ·exact h1
end
section
open Value renaming int → Ii,slice → Sl
open IntKind renaming i64 → Jj
open Go.RowKit
set_option maxRecDepth 8000
theorem ac {p:Prop} (h:p):Hid p:=h
theorem tj (n:Int) (x:bB) (o:am):aA 19 x o n↔(ax x.k x.i x.t x.m x.r/\db o/\n=0):=by
 unfold aA
 constructor
 ·rintro (⟨_,h⟩|⟨h,_⟩|⟨h,_⟩|⟨h,_⟩)
  ·exact h
  all_goals omega
 ·intro h;exact Or.inl ⟨rfl,h⟩
theorem ue (n:Int) (x:bB) (o:am):aA 20 x o n↔(dc x/\aE o/\n=0):=by
 unfold aA
 constructor
 ·rintro (⟨h,_⟩|⟨_,h⟩|⟨h,_⟩|⟨h,_⟩)
  ·omega
  ·exact h
  all_goals omega
 ·intro h;exact Or.inr (Or.inl ⟨rfl,h⟩)
theorem uf (n:Int) (x:bB) (o:am):aA 21 x o n↔(dc x/\db o/\1<=n/\n<=1000000):=by
 unfold aA
 constructor
 ·rintro (⟨h,_⟩|⟨h,_⟩|⟨_,h⟩|⟨h,_⟩)
  ·omega
  ·omega
  ·exact h
  ·omega
 ·intro h;exact Or.inr (Or.inr (Or.inl ⟨rfl,h⟩))
theorem tO (K n:Int) (x:bB) (o:am) (h19:K≠19) (h20:K≠20) (h21:K≠21):aA K x o n↔(K=22/\dc x/\db o/\n=0):=by
 unfold aA
 constructor
 ·rintro (⟨h,_⟩|⟨h,_⟩|⟨h,_⟩|h)
  ·exact absurd h h19
  ·exact absurd h h20
  ·exact absurd h h21
  ·exact h
 ·intro h;exact Or.inr (Or.inr (Or.inr h))
set_option maxHeartbeats 8000000 in
theorem bG (K n:Int) (x:bB) (o:am) (w:World):
  Calls Tryz.prog 45 #[.agg #[Ii Jj K,Ii Jj x.k,Ii Jj x.i,Ii Jj x.t,Ii Jj x.m,Ii Jj x.r,Ii Jj o.id,Ii Jj o.src,Ii Jj o.dst,Ii Jj o.amount,Ii Jj o.first,Ii Jj o.every,Ii Jj o.times,Ii Jj n]] w fun e w'=>ae e (aA K x o n)/\Below w.heap.size w w':=by
 obtain ⟨bX,hbX⟩:∃bX:Bool,bX=decide (x.k=0/\x.i=0/\x.t=0/\x.m=0/\x.r=0):=⟨_,rfl⟩
 obtain ⟨bO,hbO⟩:∃bO:Bool,bO=decide (o.id=0/\o.src=0/\o.dst=0/\o.amount=0/\o.first=0/\o.every=0/\o.times=0):=⟨_,rfl⟩
 have HX:Hid (bX=decide (x.k=0/\x.i=0/\x.t=0/\x.m=0/\x.r=0)):=hbX
 have HO:Hid (bO=decide (o.id=0/\o.src=0/\o.dst=0/\o.amount=0/\o.first=0/\o.every=0/\o.times=0)):=hbO
 clear hbX hbO
 go_enter Tryz.func45,Tryz.ntmps45
 go_upto_region 1 with fail
 go_cut[0,3] (fun _ s3 wx=>s3=.bool bX/\wx=w.alloc (.cells #[Ii Jj K,Ii Jj x.k,Ii Jj x.i,Ii Jj x.t,Ii Jj x.m,Ii Jj x.r,Ii Jj o.id,Ii Jj o.src,Ii Jj o.dst,Ii Jj o.amount,Ii Jj o.first,Ii Jj o.every,Ii Jj o.times,Ii Jj n] 37))
 case first=>
  go_wp2_with fail
  all_goals (go_meet;exact ⟨by rw[HX.out];simp[*],by simp[*]⟩)
 case rest=>
  obtain ⟨rfl,rfl⟩:=hcut
  go_upto_region 2 with fail
  go_cut[0,4] (fun _ s4 wx=>s4=.bool bO/\wx=w.alloc (.cells #[Ii Jj K,Ii Jj x.k,Ii Jj x.i,Ii Jj x.t,Ii Jj x.m,Ii Jj x.r,Ii Jj o.id,Ii Jj o.src,Ii Jj o.dst,Ii Jj o.amount,Ii Jj o.first,Ii Jj o.every,Ii Jj o.times,Ii Jj n] 37))
  case first=>
   go_wp2_with fail
   all_goals (go_meet;exact ⟨by rw[HO.out];simp[*],by simp[*]⟩)
  case rest=>
   obtain ⟨rfl,rfl⟩:=hcut
   obtain ⟨W0,hW0⟩:∃W0,W0=w.alloc (.cells #[Ii Jj K,Ii Jj x.k,Ii Jj x.i,Ii Jj x.t,Ii Jj x.m,Ii Jj x.r,Ii Jj o.id,Ii Jj o.src,Ii Jj o.dst,Ii Jj o.amount,Ii Jj o.first,Ii Jj o.every,Ii Jj o.times,Ii Jj n] 37):=⟨_,rfl⟩
   have X0:Hid (aG W0 w.heap.size K x o n):=by rw[hW0];exact aG.new w K x o n 37
   have B0:Hid (Below w.heap.size w W0):=by rw[hW0];exact (Below.refl _ _).alloc (Nat.le_refl _) _
   rw[←hW0]
   clear hW0
   have HXd:Hid ((bX=true/\dc x)\/(bX=false/\¬dc x)):=by
    show (bX=true/\dc x)\/(bX=false/\¬dc x)
    unfold dc;rw[HX.out];simp only[decide_eq_true_eq,decide_eq_false_iff_not];exact (Classical.em _).imp (fun h=>⟨h,h⟩) (fun h=>⟨h,h⟩)
   have HOd:Hid ((bO=true/\db o)\/(bO=false/\¬db o)):=by
    show (bO=true/\db o)\/(bO=false/\¬db o)
    unfold db;rw[HO.out];simp only[decide_eq_true_eq,decide_eq_false_iff_not];exact (Classical.em _).imp (fun h=>⟨h,h⟩) (fun h=>⟨h,h⟩)
   clear HX HO
   by_cases h19:K=19
   ·subst h19
    obtain ⟨⟨c0,c1,c2,c3,c4,c5,c6,c7,c8,c9,c10,c11,c12,c13⟩,hz⟩:=X0.out
    go_wp2_with fail
    refine (gt x.k x.i x.t x.m x.r _).mono ?_
    rintro e w1 ⟨⟨bb,rfl,h1,h2⟩,B1⟩
    clear c0 c1 c2 c3 c4 c5 c6 c7 c8 c9 c10 c11 c12 c13 hz
    obtain ⟨⟨c0,c1,c2,c3,c4,c5,c6,c7,c8,c9,c10,c11,c12,c13⟩,hz⟩:=X0.out.kept B1 X0.out.2
    have BB:Hid (Below w.heap.size w w1):=B0.out.trans (B1.mono B0.out.size)
    have HBd:Hid ((bb=true/\ax x.k x.i x.t x.m x.r)\/(bb=false/\¬ax x.k x.i x.t x.m x.r)):=by cases bb with|true=>exact Or.inl ⟨rfl,h1 rfl⟩|false=>exact Or.inr ⟨rfl,h2 rfl⟩
    clear X0 B0 B1 h1 h2
    rcases (show ((n == 0)=true/\n=0)\/((n == 0)=false/\¬n=0) from by by_cases h:n=0 <;>simp[h]) with ⟨e0,hnz⟩|⟨e0,hnz⟩
    all_goals rcases HBd.out with ⟨rfl,hb'⟩|⟨rfl,hb'⟩
    all_goals rcases HOd.out with ⟨rfl,ho'⟩|⟨rfl,ho'⟩
    all_goals (have hb:=ac hb';have ho:=ac ho';have hn:=ac hnz;clear hnz hb' ho' HBd HOd HXd)
    all_goals go_wp2
    all_goals (go_ret;first|exact ⟨ae.yes ((tj n x o).2 ⟨hb.out,ho.out,hn.out⟩),BB.out⟩|exact ⟨ae.no (fun h=>hb.out ((tj n x o).1 h).1),BB.out⟩|exact ⟨ae.no (fun h=>ho.out ((tj n x o).1 h).2.1),BB.out⟩|exact ⟨ae.no (fun h=>hn.out ((tj n x o).1 h).2.2),BB.out⟩)
   by_cases h20:K=20
   ·subst h20
    obtain ⟨⟨c0,c1,c2,c3,c4,c5,c6,c7,c8,c9,c10,c11,c12,c13⟩,hz⟩:=X0.out
    rcases HXd.out with ⟨rfl,hx'⟩|⟨rfl,hx'⟩
    rotate_left
    ·have hx:=ac hx'
     clear hx' HXd HOd
     go_wp2
     all_goals (go_ret;exact ⟨ae.no (fun h=>hx.out ((ue n x o).1 h).1),B0.out⟩)
    ·have hx:=ac hx'
     clear hx' HXd HOd
     go_wp2_with fail
     refine (lA o _).mono ?_
     rintro e w1 ⟨⟨bb,rfl,h1,h2⟩,B1⟩
     clear c0 c1 c2 c3 c4 c5 c6 c7 c8 c9 c10 c11 c12 c13 hz
     obtain ⟨⟨c0,c1,c2,c3,c4,c5,c6,c7,c8,c9,c10,c11,c12,c13⟩,hz⟩:=X0.out.kept B1 X0.out.2
     have BB:Hid (Below w.heap.size w w1):=B0.out.trans (B1.mono B0.out.size)
     have HBd:Hid ((bb=true/\aE o)\/(bb=false/\¬aE o)):=by cases bb with|true=>exact Or.inl ⟨rfl,h1 rfl⟩|false=>exact Or.inr ⟨rfl,h2 rfl⟩
     clear X0 B0 B1 h1 h2
     rcases (show ((n == 0)=true/\n=0)\/((n == 0)=false/\¬n=0) from by by_cases h:n=0 <;>simp[h]) with ⟨e0,hnz⟩|⟨e0,hnz⟩
     all_goals rcases HBd.out with ⟨rfl,hb'⟩|⟨rfl,hb'⟩
     all_goals (have hb:=ac hb';have hn:=ac hnz;clear hnz hb' HBd)
     all_goals go_wp2
     all_goals (go_ret;first|exact ⟨ae.yes ((ue n x o).2 ⟨hx.out,hb.out,hn.out⟩),BB.out⟩|exact ⟨ae.no (fun h=>hb.out ((ue n x o).1 h).2.1),BB.out⟩|exact ⟨ae.no (fun h=>hn.out ((ue n x o).1 h).2.2),BB.out⟩)
   by_cases h21:K=21
   ·subst h21
    obtain ⟨⟨c0,c1,c2,c3,c4,c5,c6,c7,c8,c9,c10,c11,c12,c13⟩,hz⟩:=X0.out
    have IN:Hid (∀w,Calls Tryz.prog 75 #[Ii Jj n,Ii Jj 1,Ii Jj 1000000] w fun e w'=>e=.returned (.bool (qx n 1 1000000))/\w'=w):=fun w=>dw n 1 1000000 w
    have HId:Hid ((qx n 1 1000000=true/\(1<=n/\n<=1000000))\/(qx n 1 1000000=false/\¬(1<=n/\n<=1000000))):=(Classical.em (1<=n/\n<=1000000)).imp (fun h=>⟨eG h,h⟩) (fun h=>⟨gd h,h⟩)
    generalize qx n 1 1000000=bi at*
    all_goals rcases HId.out with ⟨rfl,hn'⟩|⟨rfl,hn'⟩
    all_goals rcases HXd.out with ⟨rfl,hx'⟩|⟨rfl,hx'⟩
    all_goals rcases HOd.out with ⟨rfl,ho'⟩|⟨rfl,ho'⟩
    all_goals (have hx:=ac hx';have ho:=ac ho';have hn:=ac hn';clear hx' ho' hn' HId HXd HOd)
    all_goals go_wp2_with (go_at_call 75;refine (IN.out _).mono ?_;rintro e wz ⟨rfl,hwz⟩;subst wz)
    all_goals (go_ret;first|exact ⟨ae.yes ((uf n x o).2 ⟨hx.out,ho.out,hn.out⟩),B0.out⟩|exact ⟨ae.no (fun h=>hx.out ((uf n x o).1 h).1),B0.out⟩|exact ⟨ae.no (fun h=>ho.out ((uf n x o).1 h).2.1),B0.out⟩|exact ⟨ae.no (fun h=>hn.out ((uf n x o).1 h).2.2),B0.out⟩)
   obtain ⟨⟨c0,c1,c2,c3,c4,c5,c6,c7,c8,c9,c10,c11,c12,c13⟩,hz⟩:=X0.out
   by_cases h22:K=22
   ·subst h22
    rcases (show ((n == 0)=true/\n=0)\/((n == 0)=false/\¬n=0) from by by_cases h:n=0 <;>simp[h]) with ⟨e0,hnz⟩|⟨e0,hnz⟩
    all_goals rcases HXd.out with ⟨rfl,hx'⟩|⟨rfl,hx'⟩
    all_goals rcases HOd.out with ⟨rfl,ho'⟩|⟨rfl,ho'⟩
    all_goals (have hx:=ac hx';have ho:=ac ho';have hn:=ac hnz;clear hnz hx' ho' HXd HOd)
    all_goals go_wp2
    all_goals (go_ret;first|exact ⟨ae.yes ((tO 22 n x o h19 h20 h21).2 ⟨rfl,hx.out,ho.out,hn.out⟩),B0.out⟩|exact ⟨ae.no (fun h=>hx.out ((tO 22 n x o h19 h20 h21).1 h).2.1),B0.out⟩|exact ⟨ae.no (fun h=>ho.out ((tO 22 n x o h19 h20 h21).1 h).2.2.1),B0.out⟩|exact ⟨ae.no (fun h=>hn.out ((tO 22 n x o h19 h20 h21).1 h).2.2.2),B0.out⟩)
   ·have hK:Hid (¬K=22):=h22
    go_wp2
    all_goals (go_ret;exact ⟨ae.no (fun h=>hK.out ((tO K n x o h19 h20 h21).1 h).1),B0.out⟩)
end
end Go.Proofs.YtjhgchlfpolkcaaGreatDoor
