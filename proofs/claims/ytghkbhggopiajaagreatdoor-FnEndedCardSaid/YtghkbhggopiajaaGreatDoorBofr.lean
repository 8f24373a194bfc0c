/- Ops of a bank. -/
import Derived.Test.YtghkbhggopiajaaGreatDoorBopr
set_option maxHeartbeats 8000000
namespace Go.Proofs.YtghkbhggopiajaaGreatDoor
open Go.RowKit
set_option maxRecDepth 8000
theorem Tells.iff {e:Ending} {P Q:Prop} (h:Tells e P) (k:P↔Q):Tells e Q:=by
 obtain ⟨b,he,h1,h2⟩:=h
 exact ⟨b,he,fun hb=>k.1 (h1 hb),fun hb hq=>h2 hb (k.2 hq)⟩
theorem implBop (K n:Int) (x:OpF) (o:Ord) (w:World):
  Calls Tryz.prog 128 #[.agg #[.int .i64 K,.int .i64 x.k,.int .i64 x.i,.int .i64 x.t,.int .i64 x.m,.int .i64 x.r,.int .i64 o.id,.int .i64 o.src,.int .i64 o.dst,.int .i64 o.amount,.int .i64 o.first,.int .i64 o.every,.int .i64 o.times,.int .i64 n]] w fun e w'=>Tells e (bopOk K x o n)/\Below w.heap.size w w':=by
 by_cases h19:K=19
 ·subst h19
  refine (implBop_op n x o w).mono fun e w' h=>⟨h.1.iff ?_,h.2⟩
  unfold bopOk zeroX zeroO
  constructor
  ·rintro ⟨h1,h2,h3⟩;exact Or.inl ⟨rfl,h1,h2,h3⟩
  ·rintro (⟨_,h1,h2,h3⟩|⟨h1,_⟩|⟨h1,_⟩|⟨h1,_⟩)
   ·exact ⟨h1,h2,h3⟩
   all_goals omega
 by_cases h20:K=20
 ·subst h20
  refine (implBop_order n x o w).mono fun e w' h=>⟨h.1.iff ?_,h.2⟩
  unfold bopOk zeroX zeroO
  constructor
  ·rintro ⟨h1,h2,h3⟩;exact Or.inr (Or.inl ⟨rfl,h2,h1,h3⟩)
  ·rintro (⟨h1,_⟩|⟨_,h1,h2,h3⟩|⟨h1,_⟩|⟨h1,_⟩)
   ·omega
   ·exact ⟨h2,h1,h3⟩
   all_goals omega
 by_cases h21:K=21
 ·subst h21
  refine (implBop_cancel n x o w).mono fun e w' h=>⟨h.1.iff ?_,h.2⟩
  unfold bopOk zeroX zeroO
  constructor
  ·rintro ⟨h1,h2,h3⟩;exact Or.inr (Or.inr (Or.inl ⟨rfl,h2,h3,h1⟩))
  ·rintro (⟨h1,_⟩|⟨h1,_⟩|⟨_,h1,h2,h3⟩|⟨h1,_⟩)
   ·omega
   ·omega
   ·exact ⟨h3,h1,h2⟩
   ·omega
 refine (implBop_day K n x o w h19 h20 h21).mono fun e w' h=>⟨h.1.iff ?_,h.2⟩
 unfold bopOk zeroX zeroO
 constructor
 ·rintro ⟨h1,h2,h3,h4⟩;exact Or.inr (Or.inr (Or.inr ⟨h1,h2,h3,h4⟩))
 ·rintro (⟨h1,_⟩|⟨h1,_⟩|⟨h1,_⟩|h1)
  ·exact absurd h1 h19
  ·exact absurd h1 h20
  ·exact absurd h1 h21
  ·exact h1
open Go.RowKit
set_option maxRecDepth 8000
theorem b19 (n:Int) (x:OpF) (o:Ord):bopOk 19 x o n↔(opOk x.k x.i x.t x.m x.r/\zeroO o/\n=0):=by
 unfold bopOk
 constructor
 ·rintro (⟨_,h⟩|⟨h,_⟩|⟨h,_⟩|⟨h,_⟩)
  ·exact h
  all_goals omega
 ·intro h;exact Or.inl ⟨rfl,h⟩
theorem b20 (n:Int) (x:OpF) (o:Ord):bopOk 20 x o n↔(zeroX x/\ordOk o/\n=0):=by
 unfold bopOk
 constructor
 ·rintro (⟨h,_⟩|⟨_,h⟩|⟨h,_⟩|⟨h,_⟩)
  ·omega
  ·exact h
  all_goals omega
 ·intro h;exact Or.inr (Or.inl ⟨rfl,h⟩)
theorem b21 (n:Int) (x:OpF) (o:Ord):bopOk 21 x o n↔(zeroX x/\zeroO o/\1<=n/\n<=1000000):=by
 unfold bopOk
 constructor
 ·rintro (⟨h,_⟩|⟨h,_⟩|⟨_,h⟩|⟨h,_⟩)
  ·omega
  ·omega
  ·exact h
  ·omega
 ·intro h;exact Or.inr (Or.inr (Or.inl ⟨rfl,h⟩))
theorem b22 (K n:Int) (x:OpF) (o:Ord) (h19:K≠19) (h20:K≠20) (h21:K≠21):bopOk K x o n↔(K=22/\zeroX x/\zeroO o/\n=0):=by
 unfold bopOk
 constructor
 ·rintro (⟨h,_⟩|⟨h,_⟩|⟨h,_⟩|h)
  ·exact absurd h h19
  ·exact absurd h h20
  ·exact absurd h h21
  ·exact h
 ·intro h;exact Or.inr (Or.inr (Or.inr h))
theorem specForm (K n:Int) (x:OpF) (o:Ord) (w:World):
  Calls Tryz.prog 133 #[.agg #[.int .i64 K,.int .i64 x.k,.int .i64 x.i,.int .i64 x.t,.int .i64 x.m,.int .i64 x.r,.int .i64 o.id,.int .i64 o.src,.int .i64 o.dst,.int .i64 o.amount,.int .i64 o.first,.int .i64 o.every,.int .i64 o.times,.int .i64 n]] w fun e w'=>Tells e (bopOk K x o n)/\Below w.heap.size w w':=by
 obtain ⟨bX,hbX⟩:∃bX:Bool,bX=decide (x.k=0/\x.i=0/\x.t=0/\x.m=0/\x.r=0):=⟨_,rfl⟩
 obtain ⟨bO,hbO⟩:∃bO:Bool,bO=decide (o.id=0/\o.src=0/\o.dst=0/\o.amount=0/\o.first=0/\o.every=0/\o.times=0):=⟨_,rfl⟩
 have HX:=hidOf hbX
 have HO:=hidOf hbO
 clear hbX hbO
 go_enter Tryz.func133,Tryz.ntmps133
 go_upto_region 1 with fail
 go_cut[0,3] (fun _ s3 wx=>s3=.bool bX/\wx=w.alloc (.cells #[.int .i64 K,.int .i64 x.k,.int .i64 x.i,.int .i64 x.t,.int .i64 x.m,.int .i64 x.r,.int .i64 o.id,.int .i64 o.src,.int .i64 o.dst,.int .i64 o.amount,.int .i64 o.first,.int .i64 o.every,.int .i64 o.times,.int .i64 n] 51))
 case first=>
  go_wp2_with fail
  all_goals (go_meet;exact ⟨by rw[HX.out];simp[*],by simp[*]⟩)
 case rest=>
  obtain ⟨rfl,rfl⟩:=hcut
  go_upto_region 2 with fail
  go_cut[0,4] (fun _ s4 wx=>s4=.bool bO/\wx=w.alloc (.cells #[.int .i64 K,.int .i64 x.k,.int .i64 x.i,.int .i64 x.t,.int .i64 x.m,.int .i64 x.r,.int .i64 o.id,.int .i64 o.src,.int .i64 o.dst,.int .i64 o.amount,.int .i64 o.first,.int .i64 o.every,.int .i64 o.times,.int .i64 n] 51))
  case first=>
   go_wp2_with fail
   all_goals (go_meet;exact ⟨by rw[HO.out];simp[*],by simp[*]⟩)
  case rest=>
   obtain ⟨rfl,rfl⟩:=hcut
   obtain ⟨W0,hW0⟩:∃W0,W0=w.alloc (.cells #[.int .i64 K,.int .i64 x.k,.int .i64 x.i,.int .i64 x.t,.int .i64 x.m,.int .i64 x.r,.int .i64 o.id,.int .i64 o.src,.int .i64 o.dst,.int .i64 o.amount,.int .i64 o.first,.int .i64 o.every,.int .i64 o.times,.int .i64 n] 51):=⟨_,rfl⟩
   have X0:Hid (Bx14 W0 w.heap.size K x o n):=by rw[hW0];exact Bx14.new w K x o n 51
   have B0:Hid (Below w.heap.size w W0):=by rw[hW0];exact (Below.refl _ _).alloc (Nat.le_refl _) _
   rw[←hW0]
   clear hW0
   have HXd:Hid ((bX=true/\zeroX x)\/(bX=false/\¬zeroX x)):=by
    show (bX=true/\zeroX x)\/(bX=false/\¬zeroX x)
    unfold zeroX;rw[HX.out];simp only[decide_eq_true_eq,decide_eq_false_iff_not];exact (Classical.em _).imp (fun h=>⟨h,h⟩) (fun h=>⟨h,h⟩)
   have HOd:Hid ((bO=true/\zeroO o)\/(bO=false/\¬zeroO o)):=by
    show (bO=true/\zeroO o)\/(bO=false/\¬zeroO o)
    unfold zeroO;rw[HO.out];simp only[decide_eq_true_eq,decide_eq_false_iff_not];exact (Classical.em _).imp (fun h=>⟨h,h⟩) (fun h=>⟨h,h⟩)
   clear HX HO
   by_cases h19:K=19
   ·subst h19
    obtain ⟨⟨c0,c1,c2,c3,c4,c5,c6,c7,c8,c9,c10,c11,c12,c13⟩,hz⟩:=X0.out
    go_wp2_with fail
    refine (specOpOk_b x.k x.i x.t x.m x.r _).mono ?_
    rintro e w1 ⟨⟨bb,rfl,h1,h2⟩,B1⟩
    clear c0 c1 c2 c3 c4 c5 c6 c7 c8 c9 c10 c11 c12 c13 hz
    obtain ⟨⟨c0,c1,c2,c3,c4,c5,c6,c7,c8,c9,c10,c11,c12,c13⟩,hz⟩:=X0.out.kept B1 X0.out.2
    have BB:=hidOf (B0.out.trans (B1.mono B0.out.size))
    have HBd:Hid ((bb=true/\opOk x.k x.i x.t x.m x.r)\/(bb=false/\¬opOk x.k x.i x.t x.m x.r)):=by cases bb with|true=>exact Or.inl ⟨rfl,h1 rfl⟩|false=>exact Or.inr ⟨rfl,h2 rfl⟩
    clear X0 B0 B1 h1 h2
    rcases (show ((n == 0)=true/\n=0)\/((n == 0)=false/\¬n=0) from by by_cases h:n=0 <;>simp[h]) with ⟨e0,hnz⟩|⟨e0,hnz⟩
    all_goals rcases HBd.out with ⟨rfl,hb'⟩|⟨rfl,hb'⟩
    all_goals rcases HOd.out with ⟨rfl,ho'⟩|⟨rfl,ho'⟩
    all_goals (have hb:=hidOf hb';have ho:=hidOf ho';have hn:=hidOf hnz;clear hnz hb' ho' HBd HOd HXd)
    all_goals go_wp2
    all_goals (go_ret;first|exact ⟨Tells.yes ((b19 n x o).2 ⟨hb.out,ho.out,hn.out⟩),BB.out⟩|exact ⟨Tells.no (fun h=>hb.out ((b19 n x o).1 h).1),BB.out⟩|exact ⟨Tells.no (fun h=>ho.out ((b19 n x o).1 h).2.1),BB.out⟩|exact ⟨Tells.no (fun h=>hn.out ((b19 n x o).1 h).2.2),BB.out⟩)
   by_cases h20:K=20
   ·subst h20
    obtain ⟨⟨c0,c1,c2,c3,c4,c5,c6,c7,c8,c9,c10,c11,c12,c13⟩,hz⟩:=X0.out
    rcases HXd.out with ⟨rfl,hx'⟩|⟨rfl,hx'⟩
    rotate_left
    ·have hx:=hidOf hx'
     clear hx' HXd HOd
     go_wp2
     all_goals (go_ret;exact ⟨Tells.no (fun h=>hx.out ((b20 n x o).1 h).1),B0.out⟩)
    ·have hx:=hidOf hx'
     clear hx' HXd HOd
     go_wp2_with fail
     refine (specOrd o _).mono ?_
     rintro e w1 ⟨⟨bb,rfl,h1,h2⟩,B1⟩
     clear c0 c1 c2 c3 c4 c5 c6 c7 c8 c9 c10 c11 c12 c13 hz
     obtain ⟨⟨c0,c1,c2,c3,c4,c5,c6,c7,c8,c9,c10,c11,c12,c13⟩,hz⟩:=X0.out.kept B1 X0.out.2
     have BB:=hidOf (B0.out.trans (B1.mono B0.out.size))
     have HBd:Hid ((bb=true/\ordOk o)\/(bb=false/\¬ordOk o)):=by cases bb with|true=>exact Or.inl ⟨rfl,h1 rfl⟩|false=>exact Or.inr ⟨rfl,h2 rfl⟩
     clear X0 B0 B1 h1 h2
     rcases (show ((n == 0)=true/\n=0)\/((n == 0)=false/\¬n=0) from by by_cases h:n=0 <;>simp[h]) with ⟨e0,hnz⟩|⟨e0,hnz⟩
     all_goals rcases HBd.out with ⟨rfl,hb'⟩|⟨rfl,hb'⟩
     all_goals (have hb:=hidOf hb';have hn:=hidOf hnz;clear hnz hb' HBd)
     all_goals go_wp2
     all_goals (go_ret;first|exact ⟨Tells.yes ((b20 n x o).2 ⟨hx.out,hb.out,hn.out⟩),BB.out⟩|exact ⟨Tells.no (fun h=>hb.out ((b20 n x o).1 h).2.1),BB.out⟩|exact ⟨Tells.no (fun h=>hn.out ((b20 n x o).1 h).2.2),BB.out⟩)
   by_cases h21:K=21
   ·subst h21
    obtain ⟨⟨c0,c1,c2,c3,c4,c5,c6,c7,c8,c9,c10,c11,c12,c13⟩,hz⟩:=X0.out
    have IN:Hid (∀w,Calls Tryz.prog 85 #[.int .i64 n,.int .i64 1,.int .i64 1000000] w fun e w'=>e=.returned (.bool (inB n 1 1000000))/\w'=w):=fun w=>l1In_any n 1 1000000 w
    have HId:Hid ((inB n 1 1000000=true/\(1<=n/\n<=1000000))\/(inB n 1 1000000=false/\¬(1<=n/\n<=1000000))):=(Classical.em (1<=n/\n<=1000000)).imp (fun h=>⟨inB_yes h,h⟩) (fun h=>⟨inB_no h,h⟩)
    generalize inB n 1 1000000=bi at*
    all_goals rcases HId.out with ⟨rfl,hn'⟩|⟨rfl,hn'⟩
    all_goals rcases HXd.out with ⟨rfl,hx'⟩|⟨rfl,hx'⟩
    all_goals rcases HOd.out with ⟨rfl,ho'⟩|⟨rfl,ho'⟩
    all_goals (have hx:=hidOf hx';have ho:=hidOf ho';have hn:=hidOf hn';clear hx' ho' hn' HId HXd HOd)
    all_goals go_wp2_with (go_at_call 85;refine (IN.out _).mono ?_;rintro e wz ⟨rfl,hwz⟩;subst wz)
    all_goals (go_ret;first|exact ⟨Tells.yes ((b21 n x o).2 ⟨hx.out,ho.out,hn.out⟩),B0.out⟩|exact ⟨Tells.no (fun h=>hx.out ((b21 n x o).1 h).1),B0.out⟩|exact ⟨Tells.no (fun h=>ho.out ((b21 n x o).1 h).2.1),B0.out⟩|exact ⟨Tells.no (fun h=>hn.out ((b21 n x o).1 h).2.2),B0.out⟩)
   obtain ⟨⟨c0,c1,c2,c3,c4,c5,c6,c7,c8,c9,c10,c11,c12,c13⟩,hz⟩:=X0.out
   by_cases h22:K=22
   ·subst h22
    rcases (show ((n == 0)=true/\n=0)\/((n == 0)=false/\¬n=0) from by by_cases h:n=0 <;>simp[h]) with ⟨e0,hnz⟩|⟨e0,hnz⟩
    all_goals rcases HXd.out with ⟨rfl,hx'⟩|⟨rfl,hx'⟩
    all_goals rcases HOd.out with ⟨rfl,ho'⟩|⟨rfl,ho'⟩
    all_goals (have hx:=hidOf hx';have ho:=hidOf ho';have hn:=hidOf hnz;clear hnz hx' ho' HXd HOd)
    all_goals go_wp2
    all_goals (go_ret;first|exact ⟨Tells.yes ((b22 22 n x o h19 h20 h21).2 ⟨rfl,hx.out,ho.out,hn.out⟩),B0.out⟩|exact ⟨Tells.no (fun h=>hx.out ((b22 22 n x o h19 h20 h21).1 h).2.1),B0.out⟩|exact ⟨Tells.no (fun h=>ho.out ((b22 22 n x o h19 h20 h21).1 h).2.2.1),B0.out⟩|exact ⟨Tells.no (fun h=>hn.out ((b22 22 n x o h19 h20 h21).1 h).2.2.2),B0.out⟩)
   ·have hK:Hid (¬K=22):=h22
    go_wp2
    all_goals (go_ret;exact ⟨Tells.no (fun h=>hK.out ((b22 K n x o h19 h20 h21).1 h).1),B0.out⟩)
open Go.RowKit
set_option maxRecDepth 8000
def isId (n:Int) (o:Ord):Bool:=o.id == n
theorem specOrder (a:Option Addr) (c:Nat) (P:List Ord) (n:Int) (w:World) (h:Ords w a P.length (OrdF P)):
  Calls Tryz.prog 134 #[.slice a P.length c,.int .i64 n] w fun e w'=>e=.returned (.int .i64 (idxO (isId n) P))/\Below w.heap.size w w':=by
 have H:=hidOf h
 have hn:=h.1
 clear h
 go_enter Tryz.func134,Tryz.ntmps134
 go_wp2
 go_loopw[5] (fun i wr=>∃k:Nat,k<=P.length/\i=.int .i64 k/\Hid (∀j,j<k->isId n (OrdF P j)=false)/\Hid (Below w.heap.size w wr)) (fun i _=>P.length-(ctr i).toNat)
 case atStart=>exact ⟨0,Nat.zero_le _,rfl,fun j hj=>absurd hj (Nat.not_lt_zero _),Below.refl _ _⟩
 case round=>
  obtain ⟨k,hk,rfl,hno,hB⟩:=hrel
  by_cases hlt:k<P.length
  ·obtain ⟨b,q,rfl,hb,hA⟩:=(H.out.below hB.out).acc hlt
   obtain ⟨c0,c1,c2,c3,c4,c5,c6⟩:=hA
   cases hpr:isId n (OrdF P k) with
   | true=>
    have E:Hid (idxO (isId n) P=(k:Int)):=idxO_hit hlt hpr hno.out
    have e0:((OrdF P k).id == n)=true:=hpr
    clear hpr
    generalize OrdF P k=o at*
    go_wp2
    go_ret
    rw[E.out]
    exact ⟨rfl,hB.out⟩
   | false=>
    have HN:Hid (∀j,j<k+1->isId n (OrdF P j)=false):=fun j hj=>by
     by_cases e:j=k
     ·subst e;exact hpr
     ·exact hno.out j (by omega)
    have e0:((OrdF P k).id == n)=false:=hpr
    clear hpr
    go_wp2
    go_roundw
    case rel=>exact ⟨k+1,by omega,by go_num,HN,hB⟩
    case measure=>simp[ctr];omega
  ·have hkn:k=P.length:=by omega
   have E:Hid (idxO (isId n) P= -1):=idxO_miss (fun j hj=>hno.out j (by omega))
   go_wp2
   go_ret
   rw[E.out]
   exact ⟨rfl,hB.out⟩
end Go.Proofs.YtghkbhggopiajaaGreatDoor
