/- OrderOk, of the program and of the specification. -/
import Derived.Test.YtjhgchlfpolkcaaGreatDoorOpssx
import Derived.ProofKit
import Derived.OpenShut
import Derived.RangeFuncFrom
import Derived.RangeFuncLeaves
import Derived.Shelf.Abstract
import Derived.WalkKit
import Derived.OwnWalkIn
import Derived.TacticsInMore
import Derived.LoopNIn
import Derived.LoopIn
import Derived.BigQuiet
namespace Go.Proofs.YtjhgchlfpolkcaaGreatDoor
open Value renaming int → Ii,slice → Sl
open IntKind renaming i64 → Jj
open Nat renaming le_refl → Nf
open Go.RowKit.Below renaming refl → Bf
open Go.Proofs.Tryz renaming prog → Pg
set_option maxRecDepth 8000
set_option maxHeartbeats 4000000
open Go.ChangeShapes Go.WideShapes Go.ChangeAt Go.RowKit
structure am where
 id:Int
 src:Int
 dst:Int
 amount:Int
 first:Int
 every:Int
 times:Int
def aE (o:am):Prop:=(1<=o.id/\o.id<=1000000)/\(1<=o.src/\o.src<=1000000)/\(1<=o.dst/\o.dst<=1000000)/\o.src≠o.dst/\(1<=o.amount/\o.amount<=1000000000000)/\(0<=o.first/\o.first<=3000000)/\(1<=o.every/\o.every<=366)/\(1<=o.times/\o.times<=1000)
theorem oU (n:Int) (w:World) (h:0<=n/\n<=3000000):
  Calls Pg 38 #[Ii Jj n] w fun e w'=>e=.returned (.bool true)/\w'=w:=by
 obtain ⟨h1,h2⟩:=h
 go_enter Tryz.func38,Tryz.ntmps38
 go_wp2
 go_ret
 exact ⟨rfl,rfl⟩
theorem qh (n:Int) (w:World) (h:¬(0<=n/\n<=3000000)):
  Calls Pg 38 #[Ii Jj n] w fun e w'=>e=.returned (.bool false)/\w'=w:=by
 by_cases h1:0<=n
 ·have h2:¬n<=3000000:=by omega
  have h3:3000000<n:=by omega
  clear h
  go_enter Tryz.func38,Tryz.ntmps38
  go_wp2
  go_ret
  exact ⟨rfl,rfl⟩
 ·have h2:n<0:=by omega
  clear h
  go_enter Tryz.func38,Tryz.ntmps38
  go_wp2
  go_ret
  exact ⟨rfl,rfl⟩
theorem oh (n:Int) (w:World):
  Calls Pg 38 #[Ii Jj n] w fun e w'=>ae e (0<=n/\n<=3000000)/\w'=w:=by
 by_cases h:0<=n/\n<=3000000
 ·exact (oU n w h).mono fun e w' ⟨he,hw⟩=>⟨⟨true,he,fun _=>h,fun e=>(by cases e)⟩,hw⟩
 ·exact (qh n w h).mono fun e w' ⟨he,hw⟩=>⟨⟨false,he,fun e=>(by cases e),fun _=>h⟩,hw⟩
theorem lA (o:am) (w:World):
  Calls Pg 83 #[.agg #[Ii Jj o.id,Ii Jj o.src,Ii Jj o.dst,Ii Jj o.amount,Ii Jj o.first,Ii Jj o.every,Ii Jj o.times]] w fun e w'=>ae e (aE o)/\Below w.heap.size w w':=by
 go_enter Tryz.func83,Tryz.ntmps83
 go_wp2_with fail
 refine (ck o.id 1 1000000 _).mono ?_
 rintro e w8 ⟨⟨b8,rfl,hb8⟩,hw8⟩
 subst hw8
 cases b8 with
 | false=>
  have Hb8:=hb8.2 rfl
  clear hb8
  go_wp2
  go_ret
  exact ⟨ae.no (by unfold aE;omega),by first|exact Bf _ _|exact ((Bf _ _).alloc (Nf _) _)⟩
 | true=>
  have Hb8:=hb8.1 rfl
  clear hb8
  go_wp2_with fail
  refine (ck o.src 1 1000000 _).mono ?_
  rintro e w7 ⟨⟨b7,rfl,hb7⟩,hw7⟩
  subst hw7
  cases b7 with
  | false=>
   have Hb7:=hb7.2 rfl
   clear hb7
   go_wp2
   go_ret
   exact ⟨ae.no (by unfold aE;omega),by first|exact Bf _ _|exact ((Bf _ _).alloc (Nf _) _)⟩
  | true=>
   have Hb7:=hb7.1 rfl
   clear hb7
   go_wp2_with fail
   refine (ck o.dst 1 1000000 _).mono ?_
   rintro e w6 ⟨⟨b6,rfl,hb6⟩,hw6⟩
   subst hw6
   cases b6 with
   | false=>
    have Hb6:=hb6.2 rfl
    clear hb6
    go_wp2
    go_ret
    exact ⟨ae.no (by unfold aE;omega),by first|exact Bf _ _|exact ((Bf _ _).alloc (Nf _) _)⟩
   | true=>
    have Hb6:=hb6.1 rfl
    clear hb6
    by_cases q5:o.src=o.dst
    ·have q5b:(o.src != o.dst)=false:=by simp[q5]
     go_wp2
     go_ret
     exact ⟨ae.no (by unfold aE;omega),by first|exact Bf _ _|exact ((Bf _ _).alloc (Nf _) _)⟩
    have q5b:(o.src != o.dst)=true:=by simp[q5]
    go_wp2_with fail
    refine (ck o.amount 1 1000000000000 _).mono ?_
    rintro e w4 ⟨⟨b4,rfl,hb4⟩,hw4⟩
    subst hw4
    cases b4 with
    | false=>
     have Hb4:=hb4.2 rfl
     clear hb4
     go_wp2
     go_ret
     exact ⟨ae.no (by unfold aE;omega),by first|exact Bf _ _|exact ((Bf _ _).alloc (Nf _) _)⟩
    | true=>
     have Hb4:=hb4.1 rfl
     clear hb4
     go_wp2_with fail
     refine (ck o.first 0 3000000 _).mono ?_
     rintro e w3 ⟨⟨b3,rfl,hb3⟩,hw3⟩
     subst hw3
     cases b3 with
     | false=>
      have Hb3:=hb3.2 rfl
      clear hb3
      go_wp2
      go_ret
      exact ⟨ae.no (by unfold aE;omega),by first|exact Bf _ _|exact ((Bf _ _).alloc (Nf _) _)⟩
     | true=>
      have Hb3:=hb3.1 rfl
      clear hb3
      go_wp2_with fail
      refine (ck o.every 1 366 _).mono ?_
      rintro e w2 ⟨⟨b2,rfl,hb2⟩,hw2⟩
      subst hw2
      cases b2 with
      | false=>
       have Hb2:=hb2.2 rfl
       clear hb2
       go_wp2
       go_ret
       exact ⟨ae.no (by unfold aE;omega),by first|exact Bf _ _|exact ((Bf _ _).alloc (Nf _) _)⟩
      | true=>
       have Hb2:=hb2.1 rfl
       clear hb2
       go_wp2_with fail
       refine (ck o.times 1 1000 _).mono ?_
       rintro e w1 ⟨⟨b1,rfl,hb1⟩,hw1⟩
       subst hw1
       cases b1 with
       | false=>
        have Hb1:=hb1.2 rfl
        clear hb1
        go_wp2
        go_ret
        exact ⟨ae.no (by unfold aE;omega),by first|exact Bf _ _|exact ((Bf _ _).alloc (Nf _) _)⟩
       | true=>
        have Hb1:=hb1.1 rfl
        clear hb1
        go_wp2
        go_ret
        exact ⟨ae.yes (by unfold aE;omega),by first|exact Bf _ _|exact ((Bf _ _).alloc (Nf _) _)⟩
theorem l0 (o:am) (w:World):
  Calls Pg 67 #[.agg #[Ii Jj o.id,Ii Jj o.src,Ii Jj o.dst,Ii Jj o.amount,Ii Jj o.first,Ii Jj o.every,Ii Jj o.times]] w fun e w'=>ae e (aE o)/\Below w.heap.size w w':=by
 go_enter Tryz.func67,Tryz.ntmps67
 go_wp2_with fail
 refine (kT o.id _).mono ?_
 rintro e w9 ⟨⟨b9,rfl,hb9⟩,hw9⟩
 subst hw9
 cases b9 with
 | false=>
  have Hb9:=hb9.2 rfl
  clear hb9
  go_wp2
  go_ret
  exact ⟨ae.no (by unfold aE;omega),by first|exact Bf _ _|exact ((Bf _ _).alloc (Nf _) _)⟩
 | true=>
  have Hb9:=hb9.1 rfl
  clear hb9
  go_wp2_with fail
  refine (kT o.src _).mono ?_
  rintro e w8 ⟨⟨b8,rfl,hb8⟩,hw8⟩
  subst hw8
  cases b8 with
  | false=>
   have Hb8:=hb8.2 rfl
   clear hb8
   go_wp2
   go_ret
   exact ⟨ae.no (by unfold aE;omega),by first|exact Bf _ _|exact ((Bf _ _).alloc (Nf _) _)⟩
  | true=>
   have Hb8:=hb8.1 rfl
   clear hb8
   go_wp2_with fail
   refine (fU o.src o.dst _).mono ?_
   rintro e w7 ⟨⟨b7,rfl,hb7⟩,hw7⟩
   subst hw7
   cases b7 with
   | false=>
    have Hb7:=hb7.2 rfl
    clear hb7
    go_wp2
    go_ret
    exact ⟨ae.no (by unfold aE;omega),by first|exact Bf _ _|exact ((Bf _ _).alloc (Nf _) _)⟩
   | true=>
    have Hb7:=hb7.1 rfl
    clear hb7
    go_wp2_with fail
    refine (gO o.amount _).mono ?_
    rintro e w6 ⟨⟨b6,rfl,hb6⟩,hw6⟩
    subst hw6
    cases b6 with
    | false=>
     have Hb6:=hb6.2 rfl
     clear hb6
     go_wp2
     go_ret
     exact ⟨ae.no (by unfold aE;omega),by first|exact Bf _ _|exact ((Bf _ _).alloc (Nf _) _)⟩
    | true=>
     have Hb6:=hb6.1 rfl
     clear hb6
     go_wp2_with fail
     refine (oh o.first _).mono ?_
     rintro e w5 ⟨⟨b5,rfl,hb5⟩,hw5⟩
     subst hw5
     cases b5 with
     | false=>
      have Hb5:=hb5.2 rfl
      clear hb5
      go_wp2
      go_ret
      exact ⟨ae.no (by unfold aE;omega),by first|exact Bf _ _|exact ((Bf _ _).alloc (Nf _) _)⟩
     | true=>
      have Hb5:=hb5.1 rfl
      clear hb5
      by_cases q4:1<=o.every
      rotate_left
      ·have q4b:o.every<1:=by omega
       have q4d:decide (1<=o.every)=false:=decide_eq_false q4
       go_wp2
       go_ret
       exact ⟨ae.no (by unfold aE;omega),by first|exact Bf _ _|exact ((Bf _ _).alloc (Nf _) _)⟩
      by_cases q3:o.every<=366
      rotate_left
      ·have q3b:366<o.every:=by omega
       have q3d:decide (o.every<=366)=false:=decide_eq_false q3
       go_wp2
       go_ret
       exact ⟨ae.no (by unfold aE;omega),by first|exact Bf _ _|exact ((Bf _ _).alloc (Nf _) _)⟩
      by_cases q2:1<=o.times
      rotate_left
      ·have q2b:o.times<1:=by omega
       have q2d:decide (1<=o.times)=false:=decide_eq_false q2
       go_wp2
       go_ret
       exact ⟨ae.no (by unfold aE;omega),by first|exact Bf _ _|exact ((Bf _ _).alloc (Nf _) _)⟩
      by_cases q1:o.times<=1000
      rotate_left
      ·have q1b:1000<o.times:=by omega
       have q1d:decide (o.times<=1000)=false:=decide_eq_false q1
       go_wp2
       go_ret
       exact ⟨ae.no (by unfold aE;omega),by first|exact Bf _ _|exact ((Bf _ _).alloc (Nf _) _)⟩
      go_wp2
      go_ret
      exact ⟨ae.yes (by unfold aE;omega),by first|exact Bf _ _|exact ((Bf _ _).alloc (Nf _) _)⟩
def dG (w:World) (R:Nat) (o:am):Prop:=w.cell? ⟨R,0,none⟩=some (Ii Jj o.id)/\w.cell? ⟨R,1,none⟩=some (Ii Jj o.src)/\w.cell? ⟨R,2,none⟩=some (Ii Jj o.dst)/\w.cell? ⟨R,3,none⟩=some (Ii Jj o.amount)/\w.cell? ⟨R,4,none⟩=some (Ii Jj o.first)/\w.cell? ⟨R,5,none⟩=some (Ii Jj o.every)/\w.cell? ⟨R,6,none⟩=some (Ii Jj o.times)/\R<w.heap.size
theorem dG.new (w:World) (o:am) (T:Nat):dG (w.alloc (.cells #[Ii Jj o.id,Ii Jj o.src,Ii Jj o.dst,Ii Jj o.amount,Ii Jj o.first,Ii Jj o.every,Ii Jj o.times] T)) w.heap.size o:=by
 unfold dG
 simp[go_sem]
theorem dG.below {w w':World} {R:Nat} {o:am} (h:dG w R o) (hb:Below w.heap.size w w'):dG w' R o:=by
 obtain ⟨h0,h1,h2,h3,h4,h5,h6,h7⟩:=h
 exact ⟨by rw[hb.cell (p:=⟨R,0,none⟩) h7];exact h0,by rw[hb.cell (p:=⟨R,1,none⟩) h7];exact h1,by rw[hb.cell (p:=⟨R,2,none⟩) h7];exact h2,by rw[hb.cell (p:=⟨R,3,none⟩) h7];exact h3,by rw[hb.cell (p:=⟨R,4,none⟩) h7];exact h4,by rw[hb.cell (p:=⟨R,5,none⟩) h7];exact h5,by rw[hb.cell (p:=⟨R,6,none⟩) h7];exact h6,Nat.lt_of_lt_of_le h7 hb.size⟩
def gw (o:am) (d:Int):Int:=if o.first<d then (d-o.first+o.every-1) / o.every else 0
noncomputable def ce (o:am) (d:Int):Int:=open Classical in
 if aE o/\0<=d/\d<=3000000 then (if o.times<=gw o d\/3000000<o.first+gw o d*o.every then -1 else o.first+gw o d*o.every) else -1
theorem ow (o:am) (d:Int) (he:1<=o.every):0<=gw o d:=by
 unfold gw
 split
 ·exact Int.ediv_nonneg (by omega) (by omega)
 ·omega
theorem tC (o:am) (d:Int) (he:1<=o.every):d<=o.first+gw o d*o.every:=by
 unfold gw
 split
 ·have h1:=Int.emod_add_mul_ediv (d-o.first+o.every-1) o.every
  have h2:=Int.emod_lt_of_pos (d-o.first+o.every-1) (show 0<o.every by omega)
  rw[Int.mul_comm o.every] at h1
  omega
 ·omega
theorem kn (o:am) (d:Int) (he:1<=o.every) (i:Int) (hi:0<=i) (h:d<=o.first+i*o.every):gw o d<=i:=by
 unfold gw
 split
 ·have e:(d-o.first+o.every-1)<(i+1)*o.every:=by rw[Int.add_mul];omega
  have:=Int.ediv_lt_of_lt_mul (show 0<o.every by omega) e
  omega
 ·omega
theorem tD (o:am) (d:Int) (hd:d<=3000000) (hf:0<=o.first) (he:1<=o.every):gw o d<=3000000:=by
 refine kn o d he 3000000 (by omega) ?_
 have:(3000000:Int)*1<=3000000*o.every:=Int.mul_le_mul_of_nonneg_left he (by omega)
 omega
theorem sa (k e:Int) (hk:0<=k) (hk2:k<=3000000) (he:1<=e) (he2:e<=366):0<=k*e/\k*e<=1098000000:=by
 have a:k*e<=k*366:=Int.mul_le_mul_of_nonneg_left he2 hk
 have b:0<=k*e:=Int.mul_nonneg hk (by omega)
 omega
theorem fD {o:am} {d:Int} (ho:aE o) (h1:0<=d) (h2:d<=3000000) (hk:gw o d<o.times) (hm:o.first+gw o d*o.every<=3000000):ce o d=o.first+gw o d*o.every:=by
 unfold ce
 rw[if_pos ⟨ho,h1,h2⟩,if_neg (by omega)]
theorem im {o:am} {d:Int} (ho:aE o) (h1:0<=d) (h2:d<=3000000) (hk:o.times<=gw o d\/3000000<o.first+gw o d*o.every):ce o d= -1:=by
 unfold ce
 rw[if_pos ⟨ho,h1,h2⟩,if_pos hk]
theorem gj {o:am} {d:Int} (h:¬(aE o/\0<=d/\d<=3000000)):ce o d= -1:=by
 unfold ce
 rw[if_neg h]
open Go.RowKit
theorem ri {a b:Int} (h:a=b):Ending.returned (Ii Jj a)=.returned (Ii Jj b):=by rw[h]
theorem cO (o:am) (w:World) (h:aE o):
  Calls Pg 83 #[.agg #[Ii Jj o.id,Ii Jj o.src,Ii Jj o.dst,Ii Jj o.amount,Ii Jj o.first,Ii Jj o.every,Ii Jj o.times]] w fun e w'=>e=.returned (.bool true)/\Below w.heap.size w w':=
 (lA o w).mono fun e w' ⟨⟨b,he,_,h2⟩,hB⟩=>⟨by cases b with|true=>exact he|false=>exact absurd h (h2 rfl),hB⟩
theorem gu (o:am) (w:World) (h:¬aE o):
  Calls Pg 83 #[.agg #[Ii Jj o.id,Ii Jj o.src,Ii Jj o.dst,Ii Jj o.amount,Ii Jj o.first,Ii Jj o.every,Ii Jj o.times]] w fun e w'=>e=.returned (.bool false)/\Below w.heap.size w w':=
 (lA o w).mono fun e w' ⟨⟨b,he,h1,_⟩,hB⟩=>⟨by cases b with|false=>exact he|true=>exact absurd (h1 rfl) h,hB⟩
theorem fB (o:am) (w:World) (h:aE o):
  Calls Pg 67 #[.agg #[Ii Jj o.id,Ii Jj o.src,Ii Jj o.dst,Ii Jj o.amount,Ii Jj o.first,Ii Jj o.every,Ii Jj o.times]] w fun e w'=>e=.returned (.bool true)/\Below w.heap.size w w':=
 (l0 o w).mono fun e w' ⟨⟨b,he,_,h2⟩,hB⟩=>⟨by cases b with|true=>exact he|false=>exact absurd h (h2 rfl),hB⟩
theorem nB (o:am) (w:World) (h:¬aE o):
  Calls Pg 67 #[.agg #[Ii Jj o.id,Ii Jj o.src,Ii Jj o.dst,Ii Jj o.amount,Ii Jj o.first,Ii Jj o.every,Ii Jj o.times]] w fun e w'=>e=.returned (.bool false)/\Below w.heap.size w w':=
 (l0 o w).mono fun e w' ⟨⟨b,he,h1,_⟩,hB⟩=>⟨by cases b with|false=>exact he|true=>exact absurd (h1 rfl) h,hB⟩
theorem rq (o:am) (d:Int) (w:World):
  Calls Pg 126 #[.agg #[Ii Jj o.id,Ii Jj o.src,Ii Jj o.dst,Ii Jj o.amount,Ii Jj o.first,Ii Jj o.every,Ii Jj o.times],Ii Jj d] w fun e w'=>e=.returned (Ii Jj (ce o d))/\Below w.heap.size w w':=by
 have X0:Hid (dG (w.alloc (.cells #[Ii Jj o.id,Ii Jj o.src,Ii Jj o.dst,Ii Jj o.amount,Ii Jj o.first,Ii Jj o.every,Ii Jj o.times] 35)) w.heap.size o):=dG.new w o 35
 by_cases ho:aE o
 rotate_left
 ·have E:Hid (ce o d= -1):=gj (fun h=>ho h.1)
  have HO:Hid (¬aE o):=ho
  clear ho
  go_enter Tryz.func126,Tryz.ntmps126
  go_wp2_with fail
  refine (gu o _ HO.out).mono ?_
  rintro e w1 ⟨rfl,B1⟩
  have B1':Hid (Below w.heap.size w w1):=((Bf _ _).alloc (Nf _) _).trans (B1.mono (by simp))
  clear B1 X0
  go_wp2
  go_ret
  rw[E.out]
  exact ⟨rfl,B1'.out⟩
 have HO:Hid (aE o):=ho
 obtain ⟨_,_,_,_,_,⟨f1,f2⟩,⟨e1,e2⟩,t1,t2⟩:=ho
 by_cases hd:0<=d/\d<=3000000
 rotate_left
 ·have E:Hid (ce o d= -1):=gj (fun h=>hd h.2)
  have HD:Hid (¬(0<=d/\d<=3000000)):=hd
  clear hd f1 f2 e1 e2 t1 t2
  go_enter Tryz.func126,Tryz.ntmps126
  go_wp2_with fail
  refine (cO o _ HO.out).mono ?_
  rintro e w1 ⟨rfl,B1⟩
  have B1':Hid (Below w.heap.size w w1):=((Bf _ _).alloc (Nf _) _).trans (B1.mono (by simp))
  clear B1 X0
  go_wp2_with fail
  refine (cb d 0 3000000 _ HD.out).mono ?_
  rintro e w2 ⟨rfl,hw⟩
  subst hw
  go_wp2
  go_ret
  rw[E.out]
  exact ⟨rfl,B1'.out⟩
 obtain ⟨d1,d2⟩:=hd
 have k1:=ow o d e1
 have k2:=tD o d d2 f1 e1
 obtain ⟨m1,m2⟩:=sa (gw o d) o.every k1 k2 e1 e2
 have KY:Hid (o.times<=gw o d\/3000000<o.first+gw o d*o.every->ce o d= -1):=im HO.out d1 d2
 have KN:Hid (gw o d<o.times->o.first+gw o d*o.every<=3000000->ce o d=o.first+gw o d*o.every):=fD HO.out d1 d2
 have KK:Hid (gw o d=if o.first<d then (d-o.first+o.every-1) / o.every else 0):=rfl
 obtain ⟨kk,hkk⟩:∃kk,kk=gw o d:=⟨_,rfl⟩
 rw[←hkk] at k1 k2 m1 m2 KY KN KK
 clear hkk
 go_enter Tryz.func126,Tryz.ntmps126
 go_wp2_with fail
 refine (cO o _ HO.out).mono ?_
 rintro e w1 ⟨rfl,B1⟩
 have X1:Hid (dG w1 w.heap.size o):=X0.out.below B1
 have B1':Hid (Below w.heap.size w w1):=((Bf _ _).alloc (Nf _) _).trans (B1.mono (by simp))
 clear B1 X0
 obtain ⟨c0,c1,c2,c3,c4,c5,c6,_⟩:=X1.out
 go_wp2_with fail
 refine (bw d 0 3000000 _ ⟨d1,d2⟩).mono ?_
 rintro e w2 ⟨rfl,hw⟩
 subst hw
 by_cases hf:o.first<d
 ·have ek:Hid (kk=(d-o.first+o.every-1) / o.every):=by have:=KK.out;rw[if_pos hf] at this;exact this
  have ez:¬o.every=0:=by omega
  have eq:(d-o.first+o.every-1).tdiv o.every=kk:=by rw[ek.out,Int.tdiv_eq_ediv_of_nonneg (by omega)]
  clear KK
  by_cases hk:o.times<=kk
  ·go_wp2
   go_ret
   rw[KY.out (.inl hk)]
   exact ⟨rfl,B1'.out⟩
  ·by_cases hm:3000000<o.first+kk*o.every
   ·go_wp2
    go_ret
    rw[KY.out (.inr hm)]
    exact ⟨rfl,B1'.out⟩
   ·go_wp2
    go_ret
    rw[KN.out (by omega) (by omega)]
    exact ⟨rfl,B1'.out⟩
 ·have ek:kk=0:=by have:=KK.out;rw[if_neg hf] at this;exact this
  subst ek
  clear KK
  have et:¬o.times<=0:=by omega
  have em:¬3000000<o.first:=by omega
  go_wp2
  go_ret
  rw[KN.out (by omega) (by omega)]
  exact ⟨ri (by omega),B1'.out⟩
open Go.RowKit Go.Shelf
attribute [local go_sem] Oper.semAt_some
open Go.RowKit Go.Shelf
attribute [local go_sem] Oper.semAt_some
open Go.RowKit
def fk (o:am) (d:Int):Prop:=(0<=d/\d<=3000000)/\ce o d=d
theorem lZ {o:am} {d:Int} (h:fk o d):aE o:=by
 by_cases e:aE o/\0<=d/\d<=3000000
 ·exact e.1
 ·have:=gj e
  have h2:=h.2
  have h1:=h.1.1
  exfalso
  omega
theorem il {o:am} {d:Int} (h:fk o d):o.first<=d/\(d-o.first) % o.every=0/\(d-o.first) / o.every<o.times:=by
 have ho:=lZ h
 obtain ⟨⟨h1,h2⟩,h3⟩:=h
 have he:=ho.2.2.2.2.2.2.1.1
 have k:=ow o d he
 by_cases hk:o.times<=gw o d\/3000000<o.first+gw o d*o.every
 ·rw[im ho h1 h2 hk] at h3;omega
 ·rw[fD ho h1 h2 (by omega) (by omega)] at h3
  have e:d-o.first=gw o d*o.every:=by omega
  rw[e,Int.mul_emod_left,Int.mul_ediv_cancel _ (by omega)]
  have:=Int.mul_nonneg k (show 0<=o.every by omega)
  exact ⟨by omega,rfl,by omega⟩
theorem qA {o:am} {d:Int} (ho:aE o) (h1:o.first<=d) (h2:d<=3000000) (hm:(d-o.first) % o.every=0) (hq:(d-o.first) / o.every<o.times):fk o d:=by
 have hf:=ho.2.2.2.2.2.1.1
 have he:=ho.2.2.2.2.2.2.1.1
 refine ⟨⟨by omega,h2⟩,?_⟩
 have e:=Int.emod_add_mul_ediv (d-o.first) o.every
 obtain ⟨q,hq'⟩:∃q,q=(d-o.first) / o.every:=⟨_,rfl⟩
 rw[←hq'] at e hq
 rw[hm,Int.mul_comm] at e
 have q0:0<=q:=by rw[hq'];exact Int.ediv_nonneg (by omega) (by omega)
 have a:=kn o d he q q0 (by omega)
 have b:=tC o d he
 have c:q<=gw o d:=by
  by_cases hlt:gw o d<q
  ·have:=Int.mul_le_mul_of_nonneg_right (show gw o d<=q-1 by omega) (show 0<=o.every by omega)
   rw[Int.sub_mul] at this
   omega
  ·omega
 have ek:gw o d=q:=by omega
 rw[fD ho (by omega) h2 (by omega) (by rw[ek];omega),ek]
 omega
theorem tL (o:am) (d:Int) (w:World):
  Calls Pg 142 #[.agg #[Ii Jj o.id,Ii Jj o.src,Ii Jj o.dst,Ii Jj o.amount,Ii Jj o.first,Ii Jj o.every,Ii Jj o.times],Ii Jj d] w fun e w'=>ae e (fk o d)/\Below w.heap.size w w':=by
 have X0:Hid (dG (w.alloc (.cells #[Ii Jj o.id,Ii Jj o.src,Ii Jj o.dst,Ii Jj o.amount,Ii Jj o.first,Ii Jj o.every,Ii Jj o.times] 35)) w.heap.size o):=dG.new w o 35
 by_cases ho:aE o
 rotate_left
 ·have E:Hid (¬fk o d):=fun h=>ho (lZ h)
  have HO:Hid (¬aE o):=ho
  clear ho
  go_enter Tryz.func142,Tryz.ntmps142
  go_wp2_with fail
  refine (gu o _ HO.out).mono ?_
  rintro e w1 ⟨rfl,B1⟩
  have B1':Hid (Below w.heap.size w w1):=((Bf _ _).alloc (Nf _) _).trans (B1.mono (by simp))
  clear B1 X0
  go_wp2
  go_ret
  exact ⟨ae.no E.out,B1'.out⟩
 have HO:Hid (aE o):=ho
 obtain ⟨_,_,_,_,_,⟨f1,f2⟩,⟨e1,e2⟩,t1,t2⟩:=ho
 have ST:∀{Q:Ending->World->Prop},True:=trivial
 clear ST
 by_cases hd:o.first<=d/\d<=3000000
 rotate_left
 ·have E:Hid (¬fk o d):=fun h=>hd ⟨(il h).1,h.1.2⟩
  have HD:Hid (¬(o.first<=d/\d<=3000000)):=hd
  clear hd e1 e2 t1 t2
  go_enter Tryz.func142,Tryz.ntmps142
  go_wp2_with fail
  refine (cO o _ HO.out).mono ?_
  rintro e w1 ⟨rfl,B1⟩
  have X1:Hid (dG w1 w.heap.size o):=X0.out.below B1
  have B1':Hid (Below w.heap.size w w1):=((Bf _ _).alloc (Nf _) _).trans (B1.mono (by simp))
  clear B1 X0
  obtain ⟨c0,c1,c2,c3,c4,c5,c6,_⟩:=X1.out
  go_wp2_with fail
  refine (cb d o.first 3000000 _ HD.out).mono ?_
  rintro e w2 ⟨rfl,hw⟩
  subst hw
  go_wp2
  go_ret
  exact ⟨ae.no E.out,B1'.out⟩
 obtain ⟨d1,d2⟩:=hd
 have em:(d-o.first).tmod o.every=(d-o.first) % o.every:=Int.tmod_eq_emod_of_nonneg (by omega)
 have eq:(d-o.first).tdiv o.every=(d-o.first) / o.every:=Int.tdiv_eq_ediv_of_nonneg (by omega)
 have KY:Hid ((d-o.first) % o.every=0->(d-o.first) / o.every<o.times->fk o d):=qA HO.out d1 d2
 have KN:Hid (fk o d->(d-o.first) % o.every=0/\(d-o.first) / o.every<o.times):=fun h=>(il h).2
 have ez:¬o.every=0:=by omega
 go_enter Tryz.func142,Tryz.ntmps142
 go_wp2_with fail
 refine (cO o _ HO.out).mono ?_
 rintro e w1 ⟨rfl,B1⟩
 have X1:Hid (dG w1 w.heap.size o):=X0.out.below B1
 have B1':Hid (Below w.heap.size w w1):=((Bf _ _).alloc (Nf _) _).trans (B1.mono (by simp))
 clear B1 X0
 obtain ⟨c0,c1,c2,c3,c4,c5,c6,_⟩:=X1.out
 go_wp2_with fail
 refine (bw d o.first 3000000 _ ⟨d1,d2⟩).mono ?_
 rintro e w2 ⟨rfl,hw⟩
 subst hw
 have q0:0<=(d-o.first) / o.every:=Int.ediv_nonneg (by omega) (by omega)
 have q9:(d-o.first) / o.every<=3000000:=Int.le_trans (Int.ediv_le_self _ (by omega)) (by omega)
 obtain ⟨m,hm⟩:∃m,(d-o.first) % o.every=m:=⟨_,rfl⟩
 obtain ⟨q,hq⟩:∃q,(d-o.first) / o.every=q:=⟨_,rfl⟩
 rw[hm] at em KY KN
 rw[hq] at eq KY KN q0 q9
 by_cases hz:m=0
 ·have hb:(m == 0)=true:=by simp[hz]
  by_cases ht:q<o.times
  ·have htd:decide (q<o.times)=true:=decide_eq_true ht
   go_wp2
   go_quiet (fail)
   go_wp2
   go_ret
   exact ⟨ae.yes (KY.out hz ht),B1'.out.trans ⟨rfl,rfl,rfl,Nf _,fun _ _=>rfl⟩⟩
  ·have htd:decide (q<o.times)=false:=decide_eq_false ht
   go_wp2
   go_quiet (fail)
   go_wp2
   go_ret
   exact ⟨ae.no (fun h=>by have:=(KN.out h).2;omega),B1'.out.trans ⟨rfl,rfl,rfl,Nf _,fun _ _=>rfl⟩⟩
 ·have hb:(m == 0)=false:=by simp[hz]
  go_wp2
  go_quiet (fail)
  go_wp2
  go_ret
  exact ⟨ae.no (fun h=>hz (KN.out h).1),B1'.out.trans ⟨rfl,rfl,rfl,Nf _,fun _ _=>rfl⟩⟩
end Go.Proofs.YtjhgchlfpolkcaaGreatDoor
