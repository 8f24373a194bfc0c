/- Ops of a bank. -/
import Derived.Test.YtghkbhggopiajaaGreatDoorBopr
namespace Go.Proofs.YtghkbhggopiajaaGreatDoor
open Value renaming int → Ii,slice → Sl
open IntKind renaming i64 → Jj
set_option maxHeartbeats 8000000
open Go.RowKit
set_option maxRecDepth 8000
theorem af.iff {e:Ending} {P Q:Prop} (h:af e P) (k:P↔Q):af e Q:=by
 obtain ⟨b,he,h1,h2⟩:=h
 exact ⟨b,he,fun hb=>k.1 (h1 hb),fun hb hq=>h2 hb (k.2 hq)⟩
theorem pN (K n:Int) (x:cV) (o:au) (w:World):
  Calls Tryz.prog 128 #[.agg #[Ii Jj K,Ii Jj x.k,Ii Jj x.i,Ii Jj x.t,Ii Jj x.m,Ii Jj x.r,Ii Jj o.id,Ii Jj o.src,Ii Jj o.dst,Ii Jj o.amount,Ii Jj o.first,Ii Jj o.every,Ii Jj o.times,Ii Jj n]] w fun e w'=>af e (ba K x o n)/\Below w.heap.size w w':=by
 by_cases h19:K=19
 ·subst h19
  refine (oZ n x o w).mono fun e w' h=>⟨h.1.iff ?_,h.2⟩
  unfold ba eA eB
  constructor
  ·rintro ⟨h1,h2,h3⟩;exact Or.inl ⟨rfl,h1,h2,h3⟩
  ·rintro (⟨_,h1,h2,h3⟩|⟨h1,_⟩|⟨h1,_⟩|⟨h1,_⟩)
   ·exact ⟨h1,h2,h3⟩
   all_goals omega
 by_cases h20:K=20
 ·subst h20
  refine (ko n x o w).mono fun e w' h=>⟨h.1.iff ?_,h.2⟩
  unfold ba eA eB
  constructor
  ·rintro ⟨h1,h2,h3⟩;exact Or.inr (Or.inl ⟨rfl,h2,h1,h3⟩)
  ·rintro (⟨h1,_⟩|⟨_,h1,h2,h3⟩|⟨h1,_⟩|⟨h1,_⟩)
   ·omega
   ·exact ⟨h2,h1,h3⟩
   all_goals omega
 by_cases h21:K=21
 ·subst h21
  refine (jH n x o w).mono fun e w' h=>⟨h.1.iff ?_,h.2⟩
  unfold ba eA eB
  constructor
  ·rintro ⟨h1,h2,h3⟩;exact Or.inr (Or.inr (Or.inl ⟨rfl,h2,h3,h1⟩))
  ·rintro (⟨h1,_⟩|⟨h1,_⟩|⟨_,h1,h2,h3⟩|⟨h1,_⟩)
   ·omega
   ·omega
   ·exact ⟨h3,h1,h2⟩
   ·omega
 refine (nD K n x o w h19 h20 h21).mono fun e w' h=>⟨h.1.iff ?_,h.2⟩
 unfold ba eA eB
 constructor
 ·rintro ⟨h1,h2,h3,h4⟩;exact Or.inr (Or.inr (Or.inr ⟨h1,h2,h3,h4⟩))
 ·rintro (⟨h1,_⟩|⟨h1,_⟩|⟨h1,_⟩|h1)
  ·exact absurd h1 h19
  ·exact absurd h1 h20
  ·exact absurd h1 h21
  ·exact h1
open Go.RowKit
set_option maxRecDepth 8000
theorem sE (n:Int) (x:cV) (o:au):ba 19 x o n↔(az x.k x.i x.t x.m x.r/\eB o/\n=0):=by
 unfold ba
 constructor
 ·rintro (⟨_,h⟩|⟨h,_⟩|⟨h,_⟩|⟨h,_⟩)
  ·exact h
  all_goals omega
 ·intro h;exact Or.inl ⟨rfl,h⟩
theorem vt (n:Int) (x:cV) (o:au):ba 20 x o n↔(eA x/\aL o/\n=0):=by
 unfold ba
 constructor
 ·rintro (⟨h,_⟩|⟨_,h⟩|⟨h,_⟩|⟨h,_⟩)
  ·omega
  ·exact h
  all_goals omega
 ·intro h;exact Or.inr (Or.inl ⟨rfl,h⟩)
theorem vu (n:Int) (x:cV) (o:au):ba 21 x o n↔(eA x/\eB o/\1<=n/\n<=1000000):=by
 unfold ba
 constructor
 ·rintro (⟨h,_⟩|⟨h,_⟩|⟨_,h⟩|⟨h,_⟩)
  ·omega
  ·omega
  ·exact h
  ·omega
 ·intro h;exact Or.inr (Or.inr (Or.inl ⟨rfl,h⟩))
theorem tK (K n:Int) (x:cV) (o:au) (h19:K≠19) (h20:K≠20) (h21:K≠21):ba K x o n↔(K=22/\eA x/\eB o/\n=0):=by
 unfold ba
 constructor
 ·rintro (⟨h,_⟩|⟨h,_⟩|⟨h,_⟩|h)
  ·exact absurd h h19
  ·exact absurd h h20
  ·exact absurd h h21
  ·exact h
 ·intro h;exact Or.inr (Or.inr (Or.inr h))
theorem nF (K n:Int) (x:cV) (o:au) (w:World):
  Calls Tryz.prog 133 #[.agg #[Ii Jj K,Ii Jj x.k,Ii Jj x.i,Ii Jj x.t,Ii Jj x.m,Ii Jj x.r,Ii Jj o.id,Ii Jj o.src,Ii Jj o.dst,Ii Jj o.amount,Ii Jj o.first,Ii Jj o.every,Ii Jj o.times,Ii Jj n]] w fun e w'=>af e (ba K x o n)/\Below w.heap.size w w':=by
 obtain ⟨bX,hbX⟩:∃bX:Bool,bX=decide (x.k=0/\x.i=0/\x.t=0/\x.m=0/\x.r=0):=⟨_,rfl⟩
 obtain ⟨bO,hbO⟩:∃bO:Bool,bO=decide (o.id=0/\o.src=0/\o.dst=0/\o.amount=0/\o.first=0/\o.every=0/\o.times=0):=⟨_,rfl⟩
 have HX:=aa hbX
 have HO:=aa hbO
 clear hbX hbO
 go_enter Tryz.func133,Tryz.ntmps133
 go_upto_region 1 with fail
 go_cut[0,3] (fun _ s3 wx=>s3=.bool bX/\wx=w.alloc (.cells #[Ii Jj K,Ii Jj x.k,Ii Jj x.i,Ii Jj x.t,Ii Jj x.m,Ii Jj x.r,Ii Jj o.id,Ii Jj o.src,Ii Jj o.dst,Ii Jj o.amount,Ii Jj o.first,Ii Jj o.every,Ii Jj o.times,Ii Jj n] 51))
 case first=>
  go_wp2_with fail
  all_goals (go_meet;exact ⟨by rw[HX.out];simp[*],by simp[*]⟩)
 case rest=>
  obtain ⟨rfl,rfl⟩:=hcut
  go_upto_region 2 with fail
  go_cut[0,4] (fun _ s4 wx=>s4=.bool bO/\wx=w.alloc (.cells #[Ii Jj K,Ii Jj x.k,Ii Jj x.i,Ii Jj x.t,Ii Jj x.m,Ii Jj x.r,Ii Jj o.id,Ii Jj o.src,Ii Jj o.dst,Ii Jj o.amount,Ii Jj o.first,Ii Jj o.every,Ii Jj o.times,Ii Jj n] 51))
  case first=>
   go_wp2_with fail
   all_goals (go_meet;exact ⟨by rw[HO.out];simp[*],by simp[*]⟩)
  case rest=>
   obtain ⟨rfl,rfl⟩:=hcut
   obtain ⟨W0,hW0⟩:∃W0,W0=w.alloc (.cells #[Ii Jj K,Ii Jj x.k,Ii Jj x.i,Ii Jj x.t,Ii Jj x.m,Ii Jj x.r,Ii Jj o.id,Ii Jj o.src,Ii Jj o.dst,Ii Jj o.amount,Ii Jj o.first,Ii Jj o.every,Ii Jj o.times,Ii Jj n] 51):=⟨_,rfl⟩
   have X0:Hid (fk W0 w.heap.size K x o n):=by rw[hW0];exact fk.new w K x o n 51
   have B0:Hid (Below w.heap.size w W0):=by rw[hW0];exact (Below.refl _ _).alloc (Nat.le_refl _) _
   rw[←hW0]
   clear hW0
   have HXd:Hid ((bX=true/\eA x)\/(bX=false/\¬eA x)):=by
    show (bX=true/\eA x)\/(bX=false/\¬eA x)
    unfold eA;rw[HX.out];simp only[decide_eq_true_eq,decide_eq_false_iff_not];exact (Classical.em _).imp (fun h=>⟨h,h⟩) (fun h=>⟨h,h⟩)
   have HOd:Hid ((bO=true/\eB o)\/(bO=false/\¬eB o)):=by
    show (bO=true/\eB o)\/(bO=false/\¬eB o)
    unfold eB;rw[HO.out];simp only[decide_eq_true_eq,decide_eq_false_iff_not];exact (Classical.em _).imp (fun h=>⟨h,h⟩) (fun h=>⟨h,h⟩)
   clear HX HO
   by_cases h19:K=19
   ·subst h19
    obtain ⟨⟨c0,c1,c2,c3,c4,c5,c6,c7,c8,c9,c10,c11,c12,c13⟩,hz⟩:=X0.out
    go_wp2_with fail
    refine (gu x.k x.i x.t x.m x.r _).mono ?_
    rintro e w1 ⟨⟨bb,rfl,h1,h2⟩,B1⟩
    clear c0 c1 c2 c3 c4 c5 c6 c7 c8 c9 c10 c11 c12 c13 hz
    obtain ⟨⟨c0,c1,c2,c3,c4,c5,c6,c7,c8,c9,c10,c11,c12,c13⟩,hz⟩:=X0.out.kept B1 X0.out.2
    have BB:=aa (B0.out.trans (B1.mono B0.out.size))
    have HBd:Hid ((bb=true/\az x.k x.i x.t x.m x.r)\/(bb=false/\¬az x.k x.i x.t x.m x.r)):=by cases bb with|true=>exact Or.inl ⟨rfl,h1 rfl⟩|false=>exact Or.inr ⟨rfl,h2 rfl⟩
    clear X0 B0 B1 h1 h2
    rcases (show ((n == 0)=true/\n=0)\/((n == 0)=false/\¬n=0) from by by_cases h:n=0 <;>simp[h]) with ⟨e0,hnz⟩|⟨e0,hnz⟩
    all_goals rcases HBd.out with ⟨rfl,hb'⟩|⟨rfl,hb'⟩
    all_goals rcases HOd.out with ⟨rfl,ho'⟩|⟨rfl,ho'⟩
    all_goals (have hb:=aa hb';have ho:=aa ho';have hn:=aa hnz;clear hnz hb' ho' HBd HOd HXd)
    all_goals go_wp2
    all_goals (go_ret;first|exact ⟨af.yes ((sE n x o).2 ⟨hb.out,ho.out,hn.out⟩),BB.out⟩|exact ⟨af.no (fun h=>hb.out ((sE n x o).1 h).1),BB.out⟩|exact ⟨af.no (fun h=>ho.out ((sE n x o).1 h).2.1),BB.out⟩|exact ⟨af.no (fun h=>hn.out ((sE n x o).1 h).2.2),BB.out⟩)
   by_cases h20:K=20
   ·subst h20
    obtain ⟨⟨c0,c1,c2,c3,c4,c5,c6,c7,c8,c9,c10,c11,c12,c13⟩,hz⟩:=X0.out
    rcases HXd.out with ⟨rfl,hx'⟩|⟨rfl,hx'⟩
    rotate_left
    ·have hx:=aa hx'
     clear hx' HXd HOd
     go_wp2
     all_goals (go_ret;exact ⟨af.no (fun h=>hx.out ((vt n x o).1 h).1),B0.out⟩)
    ·have hx:=aa hx'
     clear hx' HXd HOd
     go_wp2_with fail
     refine (ly o _).mono ?_
     rintro e w1 ⟨⟨bb,rfl,h1,h2⟩,B1⟩
     clear c0 c1 c2 c3 c4 c5 c6 c7 c8 c9 c10 c11 c12 c13 hz
     obtain ⟨⟨c0,c1,c2,c3,c4,c5,c6,c7,c8,c9,c10,c11,c12,c13⟩,hz⟩:=X0.out.kept B1 X0.out.2
     have BB:=aa (B0.out.trans (B1.mono B0.out.size))
     have HBd:Hid ((bb=true/\aL o)\/(bb=false/\¬aL o)):=by cases bb with|true=>exact Or.inl ⟨rfl,h1 rfl⟩|false=>exact Or.inr ⟨rfl,h2 rfl⟩
     clear X0 B0 B1 h1 h2
     rcases (show ((n == 0)=true/\n=0)\/((n == 0)=false/\¬n=0) from by by_cases h:n=0 <;>simp[h]) with ⟨e0,hnz⟩|⟨e0,hnz⟩
     all_goals rcases HBd.out with ⟨rfl,hb'⟩|⟨rfl,hb'⟩
     all_goals (have hb:=aa hb';have hn:=aa hnz;clear hnz hb' HBd)
     all_goals go_wp2
     all_goals (go_ret;first|exact ⟨af.yes ((vt n x o).2 ⟨hx.out,hb.out,hn.out⟩),BB.out⟩|exact ⟨af.no (fun h=>hb.out ((vt n x o).1 h).2.1),BB.out⟩|exact ⟨af.no (fun h=>hn.out ((vt n x o).1 h).2.2),BB.out⟩)
   by_cases h21:K=21
   ·subst h21
    obtain ⟨⟨c0,c1,c2,c3,c4,c5,c6,c7,c8,c9,c10,c11,c12,c13⟩,hz⟩:=X0.out
    have IN:Hid (∀w,Calls Tryz.prog 85 #[Ii Jj n,Ii Jj 1,Ii Jj 1000000] w fun e w'=>e=.returned (.bool (qK n 1 1000000))/\w'=w):=fun w=>dG n 1 1000000 w
    have HId:Hid ((qK n 1 1000000=true/\(1<=n/\n<=1000000))\/(qK n 1 1000000=false/\¬(1<=n/\n<=1000000))):=(Classical.em (1<=n/\n<=1000000)).imp (fun h=>⟨eM h,h⟩) (fun h=>⟨gD h,h⟩)
    generalize qK n 1 1000000=bi at*
    all_goals rcases HId.out with ⟨rfl,hn'⟩|⟨rfl,hn'⟩
    all_goals rcases HXd.out with ⟨rfl,hx'⟩|⟨rfl,hx'⟩
    all_goals rcases HOd.out with ⟨rfl,ho'⟩|⟨rfl,ho'⟩
    all_goals (have hx:=aa hx';have ho:=aa ho';have hn:=aa hn';clear hx' ho' hn' HId HXd HOd)
    all_goals go_wp2_with (go_at_call 85;refine (IN.out _).mono ?_;rintro e wz ⟨rfl,hwz⟩;subst wz)
    all_goals (go_ret;first|exact ⟨af.yes ((vu n x o).2 ⟨hx.out,ho.out,hn.out⟩),B0.out⟩|exact ⟨af.no (fun h=>hx.out ((vu n x o).1 h).1),B0.out⟩|exact ⟨af.no (fun h=>ho.out ((vu n x o).1 h).2.1),B0.out⟩|exact ⟨af.no (fun h=>hn.out ((vu n x o).1 h).2.2),B0.out⟩)
   obtain ⟨⟨c0,c1,c2,c3,c4,c5,c6,c7,c8,c9,c10,c11,c12,c13⟩,hz⟩:=X0.out
   by_cases h22:K=22
   ·subst h22
    rcases (show ((n == 0)=true/\n=0)\/((n == 0)=false/\¬n=0) from by by_cases h:n=0 <;>simp[h]) with ⟨e0,hnz⟩|⟨e0,hnz⟩
    all_goals rcases HXd.out with ⟨rfl,hx'⟩|⟨rfl,hx'⟩
    all_goals rcases HOd.out with ⟨rfl,ho'⟩|⟨rfl,ho'⟩
    all_goals (have hx:=aa hx';have ho:=aa ho';have hn:=aa hnz;clear hnz hx' ho' HXd HOd)
    all_goals go_wp2
    all_goals (go_ret;first|exact ⟨af.yes ((tK 22 n x o h19 h20 h21).2 ⟨rfl,hx.out,ho.out,hn.out⟩),B0.out⟩|exact ⟨af.no (fun h=>hx.out ((tK 22 n x o h19 h20 h21).1 h).2.1),B0.out⟩|exact ⟨af.no (fun h=>ho.out ((tK 22 n x o h19 h20 h21).1 h).2.2.1),B0.out⟩|exact ⟨af.no (fun h=>hn.out ((tK 22 n x o h19 h20 h21).1 h).2.2.2),B0.out⟩)
   ·have hK:Hid (¬K=22):=h22
    go_wp2
    all_goals (go_ret;exact ⟨af.no (fun h=>hK.out ((tK K n x o h19 h20 h21).1 h).1),B0.out⟩)
open Go.RowKit
set_option maxRecDepth 8000
def jI (n:Int) (o:au):Bool:=o.id == n
theorem f7 (a:Option Addr) (c:Nat) (P:List au) (n:Int) (w:World) (h:aG w a P.length (ae P)):
  Calls Tryz.prog 134 #[Sl a P.length c,Ii Jj n] w fun e w'=>e=.returned (Ii Jj (gg (jI n) P))/\Below w.heap.size w w':=by
 have H:=aa h
 have hn:=h.1
 clear h
 go_enter Tryz.func134,Tryz.ntmps134
 go_wp2
 go_loopw[5] (fun i wr=>∃k:Nat,k<=P.length/\i=Ii Jj k/\Hid (∀j,j<k->jI n (ae P j)=false)/\Hid (Below w.heap.size w wr)) (fun i _=>P.length-(eH i).toNat)
 case atStart=>exact ⟨0,Nat.zero_le _,rfl,fun j hj=>absurd hj (Nat.not_lt_zero _),Below.refl _ _⟩
 case round=>
  obtain ⟨k,hk,rfl,hno,hB⟩:=hrel
  by_cases hlt:k<P.length
  ·obtain ⟨b,q,rfl,hb,hA⟩:=(H.out.below hB.out).acc hlt
   obtain ⟨c0,c1,c2,c3,c4,c5,c6⟩:=hA
   cases hpr:jI n (ae P k) with
   | true=>
    have E:Hid (gg (jI n) P=(k:Int)):=gW hlt hpr hno.out
    have e0:((ae P k).id == n)=true:=hpr
    clear hpr
    generalize ae P k=o at*
    go_wp2
    go_ret
    rw[E.out]
    exact ⟨rfl,hB.out⟩
   | false=>
    have HN:Hid (∀j,j<k+1->jI n (ae P j)=false):=fun j hj=>by
     by_cases e:j=k
     ·subst e;exact hpr
     ·exact hno.out j (by omega)
    have e0:((ae P k).id == n)=false:=hpr
    clear hpr
    go_wp2
    go_roundw
    case rel=>exact ⟨k+1,by omega,by go_num,HN,hB⟩
    case measure=>simp[eH];omega
  ·have hkn:k=P.length:=by omega
   have E:Hid (gg (jI n) P= -1):=eZ (fun j hj=>hno.out j (by omega))
   go_wp2
   go_ret
   rw[E.out]
   exact ⟨rfl,hB.out⟩
end Go.Proofs.YtghkbhggopiajaaGreatDoor
