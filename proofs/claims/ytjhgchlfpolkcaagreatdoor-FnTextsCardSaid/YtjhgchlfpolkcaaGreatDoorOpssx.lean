/- OpOk, of the program and of the specification. -/
import Derived.Test.YtjhgchlfpolkcaaGreatDoorChAx
import Derived.ProofKit
import Derived.OpenShut
namespace Go.Proofs.YtjhgchlfpolkcaaGreatDoor
open Value renaming int → Ii,slice → Sl
open IntKind renaming i64 → Jj
open Nat renaming le_refl → Nf
open Go.RowKit.Below renaming refl → Bf
open Go.Proofs.Tryz renaming prog → Pg
set_option maxRecDepth 8000
set_option maxHeartbeats 4000000
open Go.RowKit
def ae (e:Ending) (P:Prop):Prop:=∃b:Bool,e=.returned (.bool b)/\(b=true->P)/\(b=false->¬P)
theorem ae.yes {P:Prop} (h:P):ae (.returned (.bool true)) P:=⟨true,rfl,fun _=>h,fun e=>(by cases e)⟩
theorem ae.no {P:Prop} (h:¬P):ae (.returned (.bool false)) P:=⟨false,rfl,fun e=>(by cases e),fun _=>h⟩
def ax (k i t m r:Int):Prop:=(1<=i/\i<=1000000)/\
  ((k=1/\t=0/\(0<=m/\m<=1000000000000)/\(0<=r/\r<=10000))\/
   (k=1/\t≠0/\(1<=t/\t<=1000000)/\i≠t/\(-1<=m/\m<=1000000000000)/\r=0)\/
   ((k=2\/k=3\/k=4)/\t=0/\m=0/\r=0)\/
   ((k=5\/k=6)/\t=0/\(1<=m/\m<=1000000000000)/\r=0)\/
   (k=7/\(1<=t/\t<=1000000)/\i≠t/\(1<=m/\m<=1000000000000)/\r=0)\/
   ((k=8\/k=10)/\t=0/\(-1<=m/\m<=1000000000000)/\r=0)\/
   (k=9/\(1<=t/\t<=1000000)/\i≠t/\m=0/\r=0))
theorem ck (n lo hi:Int) (w:World):
  Calls Pg 75 #[Ii Jj n,Ii Jj lo,Ii Jj hi] w fun e w'=>ae e (lo<=n/\n<=hi)/\w'=w:=by
 by_cases h:lo<=n/\n<=hi
 ·exact (bw n lo hi w h).mono fun e w' ⟨he,hw⟩=>⟨⟨true,he,fun _=>h,fun e=>(by cases e)⟩,hw⟩
 ·exact (cb n lo hi w h).mono fun e w' ⟨he,hw⟩=>⟨⟨false,he,fun e=>(by cases e),fun _=>h⟩,hw⟩
theorem kT (n:Int) (w:World):
  Calls Pg 68 #[Ii Jj n] w fun e w'=>ae e (1<=n/\n<=1000000)/\w'=w:=by
 by_cases h:1<=n/\n<=1000000
 ·exact (bv n w h).mono fun e w' ⟨he,hw⟩=>⟨⟨true,he,fun _=>h,fun e=>(by cases e)⟩,hw⟩
 ·exact (bT n w h).mono fun e w' ⟨he,hw⟩=>⟨⟨false,he,fun e=>(by cases e),fun _=>h⟩,hw⟩
theorem jr (n:Int) (w:World):
  Calls Pg 96 #[Ii Jj n] w fun e w'=>ae e (-1<=n/\n<=1000000000000)/\w'=w:=by
 by_cases h: -1<=n/\n<=1000000000000
 ·exact (aW n w h).mono fun e w' ⟨he,hw⟩=>⟨⟨true,he,fun _=>h,fun e=>(by cases e)⟩,hw⟩
 ·exact (bh n w h).mono fun e w' ⟨he,hw⟩=>⟨⟨false,he,fun e=>(by cases e),fun _=>h⟩,hw⟩
theorem nR (n:Int) (w:World) (h:1<=n/\n<=1000000000000):
  Calls Pg 94 #[Ii Jj n] w fun e w'=>e=.returned (.bool true)/\w'=w:=by
 obtain ⟨h1,h2⟩:=h
 go_enter Tryz.func94,Tryz.ntmps94
 go_wp2
 go_ret
 exact ⟨rfl,rfl⟩
theorem pB (n:Int) (w:World) (h:¬(1<=n/\n<=1000000000000)):
  Calls Pg 94 #[Ii Jj n] w fun e w'=>e=.returned (.bool false)/\w'=w:=by
 by_cases h1:1<=n
 ·have h2:¬n<=1000000000000:=by omega
  have h3:1000000000000<n:=by omega
  clear h
  go_enter Tryz.func94,Tryz.ntmps94
  go_wp2
  go_ret
  exact ⟨rfl,rfl⟩
 ·have h2:n<1:=by omega
  clear h
  go_enter Tryz.func94,Tryz.ntmps94
  go_wp2
  go_ret
  exact ⟨rfl,rfl⟩
theorem gO (n:Int) (w:World):
  Calls Pg 94 #[Ii Jj n] w fun e w'=>ae e (1<=n/\n<=1000000000000)/\w'=w:=by
 by_cases h:1<=n/\n<=1000000000000
 ·exact (nR n w h).mono fun e w' ⟨he,hw⟩=>⟨⟨true,he,fun _=>h,fun e=>(by cases e)⟩,hw⟩
 ·exact (pB n w h).mono fun e w' ⟨he,hw⟩=>⟨⟨false,he,fun e=>(by cases e),fun _=>h⟩,hw⟩
theorem fU (i t:Int) (w:World):
  Calls Pg 95 #[Ii Jj i,Ii Jj t] w fun e w'=>ae e ((1<=t/\t<=1000000)/\i≠t)/\w'=w:=by
 go_enter Tryz.func95,Tryz.ntmps95
 go_wp2_with fail
 refine (kT t w).mono ?_
 rintro e w1 ⟨⟨b,rfl,h1,h2⟩,hw⟩
 subst hw
 cases b with
 | false=>
  have H:=h2 rfl
  clear h1 h2
  go_wp2
  go_ret
  exact ⟨ae.no (by omega),rfl⟩
 | true=>
  have H:=h1 rfl
  clear h1 h2
  by_cases e:t=i
  ·have eb:(t != i)=false:=by simp[e]
   go_wp2
   go_ret
   exact ⟨ae.no (by omega),rfl⟩
  ·have eb:(t != i)=true:=by simp[e]
   go_wp2
   go_ret
   exact ⟨ae.yes (by omega),rfl⟩
open Go.RowKit
theorem gt (k i t m r:Int) (w:World):
  Calls Pg 82 #[.agg #[Ii Jj k,Ii Jj i,Ii Jj t,Ii Jj m,Ii Jj r]] w fun e w'=>ae e (ax k i t m r)/\Below w.heap.size w w':=by
 go_enter Tryz.func82,Tryz.ntmps82
 go_wp2_with fail
 refine (ck i 1 1000000 _).mono ?_
 rintro e wx ⟨⟨x,rfl,hx⟩,hwx⟩
 subst hwx
 go_wp2_with fail
 refine (ck t 1 1000000 _).mono ?_
 rintro e wy ⟨⟨y,rfl,hy⟩,hwy⟩
 subst hwy
 go_wp2_with fail
 refine (ck m 1 1000000000000 _).mono ?_
 rintro e wz ⟨⟨z,rfl,hz⟩,hwz⟩
 subst hwz
 by_cases k1:k=1
 ·subst k1
  by_cases qt:t=0
  ·have qtb:(t == 0)=true:=by simp[qt]
   cases x with
   | false=>
    have Hx:=hx.2 rfl
    go_wp2
    go_ret
    exact ⟨ae.no (by unfold ax;omega),by first|exact Bf _ _|exact ((Bf _ _).alloc (Nf _) _)⟩
   | true=>
    have Hx:=hx.1 rfl
    go_wp2_with fail
    refine (ck m 0 1000000000000 _).mono ?_
    rintro e w2 ⟨⟨b2,rfl,hb2⟩,hw2⟩
    subst hw2
    cases b2 with
    | false=>
     have Hb2:=hb2.2 rfl
     go_wp2
     go_ret
     exact ⟨ae.no (by unfold ax;omega),by first|exact Bf _ _|exact ((Bf _ _).alloc (Nf _) _)⟩
    | true=>
     have Hb2:=hb2.1 rfl
     go_wp2_with fail
     refine (ck r 0 10000 _).mono ?_
     rintro e w1 ⟨⟨b1,rfl,hb1⟩,hw1⟩
     subst hw1
     cases b1 with
     | false=>
      have Hb1:=hb1.2 rfl
      go_wp2
      go_ret
      exact ⟨ae.no (by unfold ax;omega),by first|exact Bf _ _|exact ((Bf _ _).alloc (Nf _) _)⟩
     | true=>
      have Hb1:=hb1.1 rfl
      go_wp2
      go_ret
      exact ⟨ae.yes (by unfold ax;omega),by first|exact Bf _ _|exact ((Bf _ _).alloc (Nf _) _)⟩
  ·have qtb:(t == 0)=false:=by simp[qt]
   cases x with
   | false=>
    have Hx:=hx.2 rfl
    go_wp2
    go_ret
    exact ⟨ae.no (by unfold ax;omega),by first|exact Bf _ _|exact ((Bf _ _).alloc (Nf _) _)⟩
   | true=>
    have Hx:=hx.1 rfl
    cases y with
    | false=>
     have Hy:=hy.2 rfl
     go_wp2
     go_ret
     exact ⟨ae.no (by unfold ax;omega),by first|exact Bf _ _|exact ((Bf _ _).alloc (Nf _) _)⟩
    | true=>
     have Hy:=hy.1 rfl
     by_cases q3:i=t
     ·have q3b:(i != t)=false:=by simp[q3]
      go_wp2
      go_ret
      exact ⟨ae.no (by unfold ax;omega),by first|exact Bf _ _|exact ((Bf _ _).alloc (Nf _) _)⟩
     ·have q3b:(i != t)=true:=by simp[q3]
      go_wp2_with fail
      refine (ck m (-1) 1000000000000 _).mono ?_
      rintro e w2 ⟨⟨b2,rfl,hb2⟩,hw2⟩
      subst hw2
      cases b2 with
      | false=>
       have Hb2:=hb2.2 rfl
       go_wp2
       go_ret
       exact ⟨ae.no (by unfold ax;omega),by first|exact Bf _ _|exact ((Bf _ _).alloc (Nf _) _)⟩
      | true=>
       have Hb2:=hb2.1 rfl
       by_cases q1:r=0
       ·have q1b:(r == 0)=true:=by simp[q1]
        go_wp2
        go_ret
        exact ⟨ae.yes (by unfold ax;omega),by first|exact Bf _ _|exact ((Bf _ _).alloc (Nf _) _)⟩
       ·have q1b:(r == 0)=false:=by simp[q1]
        go_wp2
        go_ret
        exact ⟨ae.no (by unfold ax;omega),by first|exact Bf _ _|exact ((Bf _ _).alloc (Nf _) _)⟩
 by_cases k2:k=2
 ·subst k2
  cases x with
  | false=>
   have Hx:=hx.2 rfl
   go_wp2
   go_ret
   exact ⟨ae.no (by unfold ax;omega),by first|exact Bf _ _|exact ((Bf _ _).alloc (Nf _) _)⟩
  | true=>
   have Hx:=hx.1 rfl
   by_cases q3:t=0
   ·have q3b:(t == 0)=true:=by simp[q3]
    by_cases q2:m=0
    ·have q2b:(m == 0)=true:=by simp[q2]
     by_cases q1:r=0
     ·have q1b:(r == 0)=true:=by simp[q1]
      go_wp2
      go_ret
      exact ⟨ae.yes (by unfold ax;omega),by first|exact Bf _ _|exact ((Bf _ _).alloc (Nf _) _)⟩
     ·have q1b:(r == 0)=false:=by simp[q1]
      go_wp2
      go_ret
      exact ⟨ae.no (by unfold ax;omega),by first|exact Bf _ _|exact ((Bf _ _).alloc (Nf _) _)⟩
    ·have q2b:(m == 0)=false:=by simp[q2]
     go_wp2
     go_ret
     exact ⟨ae.no (by unfold ax;omega),by first|exact Bf _ _|exact ((Bf _ _).alloc (Nf _) _)⟩
   ·have q3b:(t == 0)=false:=by simp[q3]
    go_wp2
    go_ret
    exact ⟨ae.no (by unfold ax;omega),by first|exact Bf _ _|exact ((Bf _ _).alloc (Nf _) _)⟩
 by_cases k3:k=3
 ·subst k3
  cases x with
  | false=>
   have Hx:=hx.2 rfl
   go_wp2
   go_ret
   exact ⟨ae.no (by unfold ax;omega),by first|exact Bf _ _|exact ((Bf _ _).alloc (Nf _) _)⟩
  | true=>
   have Hx:=hx.1 rfl
   by_cases q3:t=0
   ·have q3b:(t == 0)=true:=by simp[q3]
    by_cases q2:m=0
    ·have q2b:(m == 0)=true:=by simp[q2]
     by_cases q1:r=0
     ·have q1b:(r == 0)=true:=by simp[q1]
      go_wp2
      go_ret
      exact ⟨ae.yes (by unfold ax;omega),by first|exact Bf _ _|exact ((Bf _ _).alloc (Nf _) _)⟩
     ·have q1b:(r == 0)=false:=by simp[q1]
      go_wp2
      go_ret
      exact ⟨ae.no (by unfold ax;omega),by first|exact Bf _ _|exact ((Bf _ _).alloc (Nf _) _)⟩
    ·have q2b:(m == 0)=false:=by simp[q2]
     go_wp2
     go_ret
     exact ⟨ae.no (by unfold ax;omega),by first|exact Bf _ _|exact ((Bf _ _).alloc (Nf _) _)⟩
   ·have q3b:(t == 0)=false:=by simp[q3]
    go_wp2
    go_ret
    exact ⟨ae.no (by unfold ax;omega),by first|exact Bf _ _|exact ((Bf _ _).alloc (Nf _) _)⟩
 by_cases k4:k=4
 ·subst k4
  cases x with
  | false=>
   have Hx:=hx.2 rfl
   go_wp2
   go_ret
   exact ⟨ae.no (by unfold ax;omega),by first|exact Bf _ _|exact ((Bf _ _).alloc (Nf _) _)⟩
  | true=>
   have Hx:=hx.1 rfl
   by_cases q3:t=0
   ·have q3b:(t == 0)=true:=by simp[q3]
    by_cases q2:m=0
    ·have q2b:(m == 0)=true:=by simp[q2]
     by_cases q1:r=0
     ·have q1b:(r == 0)=true:=by simp[q1]
      go_wp2
      go_ret
      exact ⟨ae.yes (by unfold ax;omega),by first|exact Bf _ _|exact ((Bf _ _).alloc (Nf _) _)⟩
     ·have q1b:(r == 0)=false:=by simp[q1]
      go_wp2
      go_ret
      exact ⟨ae.no (by unfold ax;omega),by first|exact Bf _ _|exact ((Bf _ _).alloc (Nf _) _)⟩
    ·have q2b:(m == 0)=false:=by simp[q2]
     go_wp2
     go_ret
     exact ⟨ae.no (by unfold ax;omega),by first|exact Bf _ _|exact ((Bf _ _).alloc (Nf _) _)⟩
   ·have q3b:(t == 0)=false:=by simp[q3]
    go_wp2
    go_ret
    exact ⟨ae.no (by unfold ax;omega),by first|exact Bf _ _|exact ((Bf _ _).alloc (Nf _) _)⟩
 by_cases k5:k=5
 ·subst k5
  cases x with
  | false=>
   have Hx:=hx.2 rfl
   go_wp2
   go_ret
   exact ⟨ae.no (by unfold ax;omega),by first|exact Bf _ _|exact ((Bf _ _).alloc (Nf _) _)⟩
  | true=>
   have Hx:=hx.1 rfl
   by_cases q3:t=0
   ·have q3b:(t == 0)=true:=by simp[q3]
    cases z with
    | false=>
     have Hz:=hz.2 rfl
     go_wp2
     go_ret
     exact ⟨ae.no (by unfold ax;omega),by first|exact Bf _ _|exact ((Bf _ _).alloc (Nf _) _)⟩
    | true=>
     have Hz:=hz.1 rfl
     by_cases q1:r=0
     ·have q1b:(r == 0)=true:=by simp[q1]
      go_wp2
      go_ret
      exact ⟨ae.yes (by unfold ax;omega),by first|exact Bf _ _|exact ((Bf _ _).alloc (Nf _) _)⟩
     ·have q1b:(r == 0)=false:=by simp[q1]
      go_wp2
      go_ret
      exact ⟨ae.no (by unfold ax;omega),by first|exact Bf _ _|exact ((Bf _ _).alloc (Nf _) _)⟩
   ·have q3b:(t == 0)=false:=by simp[q3]
    go_wp2
    go_ret
    exact ⟨ae.no (by unfold ax;omega),by first|exact Bf _ _|exact ((Bf _ _).alloc (Nf _) _)⟩
 by_cases k6:k=6
 ·subst k6
  cases x with
  | false=>
   have Hx:=hx.2 rfl
   go_wp2
   go_ret
   exact ⟨ae.no (by unfold ax;omega),by first|exact Bf _ _|exact ((Bf _ _).alloc (Nf _) _)⟩
  | true=>
   have Hx:=hx.1 rfl
   by_cases q3:t=0
   ·have q3b:(t == 0)=true:=by simp[q3]
    cases z with
    | false=>
     have Hz:=hz.2 rfl
     go_wp2
     go_ret
     exact ⟨ae.no (by unfold ax;omega),by first|exact Bf _ _|exact ((Bf _ _).alloc (Nf _) _)⟩
    | true=>
     have Hz:=hz.1 rfl
     by_cases q1:r=0
     ·have q1b:(r == 0)=true:=by simp[q1]
      go_wp2
      go_ret
      exact ⟨ae.yes (by unfold ax;omega),by first|exact Bf _ _|exact ((Bf _ _).alloc (Nf _) _)⟩
     ·have q1b:(r == 0)=false:=by simp[q1]
      go_wp2
      go_ret
      exact ⟨ae.no (by unfold ax;omega),by first|exact Bf _ _|exact ((Bf _ _).alloc (Nf _) _)⟩
   ·have q3b:(t == 0)=false:=by simp[q3]
    go_wp2
    go_ret
    exact ⟨ae.no (by unfold ax;omega),by first|exact Bf _ _|exact ((Bf _ _).alloc (Nf _) _)⟩
 by_cases k7:k=7
 ·subst k7
  cases x with
  | false=>
   have Hx:=hx.2 rfl
   go_wp2
   go_ret
   exact ⟨ae.no (by unfold ax;omega),by first|exact Bf _ _|exact ((Bf _ _).alloc (Nf _) _)⟩
  | true=>
   have Hx:=hx.1 rfl
   cases y with
   | false=>
    have Hy:=hy.2 rfl
    go_wp2
    go_ret
    exact ⟨ae.no (by unfold ax;omega),by first|exact Bf _ _|exact ((Bf _ _).alloc (Nf _) _)⟩
   | true=>
    have Hy:=hy.1 rfl
    by_cases q3:i=t
    ·have q3b:(i != t)=false:=by simp[q3]
     go_wp2
     go_ret
     exact ⟨ae.no (by unfold ax;omega),by first|exact Bf _ _|exact ((Bf _ _).alloc (Nf _) _)⟩
    ·have q3b:(i != t)=true:=by simp[q3]
     cases z with
     | false=>
      have Hz:=hz.2 rfl
      go_wp2
      go_ret
      exact ⟨ae.no (by unfold ax;omega),by first|exact Bf _ _|exact ((Bf _ _).alloc (Nf _) _)⟩
     | true=>
      have Hz:=hz.1 rfl
      by_cases q1:r=0
      ·have q1b:(r == 0)=true:=by simp[q1]
       go_wp2
       go_ret
       exact ⟨ae.yes (by unfold ax;omega),by first|exact Bf _ _|exact ((Bf _ _).alloc (Nf _) _)⟩
      ·have q1b:(r == 0)=false:=by simp[q1]
       go_wp2
       go_ret
       exact ⟨ae.no (by unfold ax;omega),by first|exact Bf _ _|exact ((Bf _ _).alloc (Nf _) _)⟩
 by_cases k8:k=8
 ·subst k8
  cases x with
  | false=>
   have Hx:=hx.2 rfl
   go_wp2
   go_ret
   exact ⟨ae.no (by unfold ax;omega),by first|exact Bf _ _|exact ((Bf _ _).alloc (Nf _) _)⟩
  | true=>
   have Hx:=hx.1 rfl
   by_cases q3:t=0
   ·have q3b:(t == 0)=true:=by simp[q3]
    go_wp2_with fail
    refine (ck m (-1) 1000000000000 _).mono ?_
    rintro e w2 ⟨⟨b2,rfl,hb2⟩,hw2⟩
    subst hw2
    cases b2 with
    | false=>
     have Hb2:=hb2.2 rfl
     go_wp2
     go_ret
     exact ⟨ae.no (by unfold ax;omega),by first|exact Bf _ _|exact ((Bf _ _).alloc (Nf _) _)⟩
    | true=>
     have Hb2:=hb2.1 rfl
     by_cases q1:r=0
     ·have q1b:(r == 0)=true:=by simp[q1]
      go_wp2
      go_ret
      exact ⟨ae.yes (by unfold ax;omega),by first|exact Bf _ _|exact ((Bf _ _).alloc (Nf _) _)⟩
     ·have q1b:(r == 0)=false:=by simp[q1]
      go_wp2
      go_ret
      exact ⟨ae.no (by unfold ax;omega),by first|exact Bf _ _|exact ((Bf _ _).alloc (Nf _) _)⟩
   ·have q3b:(t == 0)=false:=by simp[q3]
    go_wp2
    go_ret
    exact ⟨ae.no (by unfold ax;omega),by first|exact Bf _ _|exact ((Bf _ _).alloc (Nf _) _)⟩
 by_cases k10:k=10
 ·subst k10
  cases x with
  | false=>
   have Hx:=hx.2 rfl
   go_wp2
   go_ret
   exact ⟨ae.no (by unfold ax;omega),by first|exact Bf _ _|exact ((Bf _ _).alloc (Nf _) _)⟩
  | true=>
   have Hx:=hx.1 rfl
   by_cases q3:t=0
   ·have q3b:(t == 0)=true:=by simp[q3]
    go_wp2_with fail
    refine (ck m (-1) 1000000000000 _).mono ?_
    rintro e w2 ⟨⟨b2,rfl,hb2⟩,hw2⟩
    subst hw2
    cases b2 with
    | false=>
     have Hb2:=hb2.2 rfl
     go_wp2
     go_ret
     exact ⟨ae.no (by unfold ax;omega),by first|exact Bf _ _|exact ((Bf _ _).alloc (Nf _) _)⟩
    | true=>
     have Hb2:=hb2.1 rfl
     by_cases q1:r=0
     ·have q1b:(r == 0)=true:=by simp[q1]
      go_wp2
      go_ret
      exact ⟨ae.yes (by unfold ax;omega),by first|exact Bf _ _|exact ((Bf _ _).alloc (Nf _) _)⟩
     ·have q1b:(r == 0)=false:=by simp[q1]
      go_wp2
      go_ret
      exact ⟨ae.no (by unfold ax;omega),by first|exact Bf _ _|exact ((Bf _ _).alloc (Nf _) _)⟩
   ·have q3b:(t == 0)=false:=by simp[q3]
    go_wp2
    go_ret
    exact ⟨ae.no (by unfold ax;omega),by first|exact Bf _ _|exact ((Bf _ _).alloc (Nf _) _)⟩
 by_cases k9:k=9
 ·subst k9
  cases x with
  | false=>
   have Hx:=hx.2 rfl
   go_wp2
   go_ret
   exact ⟨ae.no (by unfold ax;omega),by first|exact Bf _ _|exact ((Bf _ _).alloc (Nf _) _)⟩
  | true=>
   have Hx:=hx.1 rfl
   cases y with
   | false=>
    have Hy:=hy.2 rfl
    go_wp2
    go_ret
    exact ⟨ae.no (by unfold ax;omega),by first|exact Bf _ _|exact ((Bf _ _).alloc (Nf _) _)⟩
   | true=>
    have Hy:=hy.1 rfl
    by_cases q3:i=t
    ·have q3b:(i != t)=false:=by simp[q3]
     go_wp2
     go_ret
     exact ⟨ae.no (by unfold ax;omega),by first|exact Bf _ _|exact ((Bf _ _).alloc (Nf _) _)⟩
    ·have q3b:(i != t)=true:=by simp[q3]
     by_cases q2:m=0
     ·have q2b:(m == 0)=true:=by simp[q2]
      by_cases q1:r=0
      ·have q1b:(r == 0)=true:=by simp[q1]
       go_wp2
       go_ret
       exact ⟨ae.yes (by unfold ax;omega),by first|exact Bf _ _|exact ((Bf _ _).alloc (Nf _) _)⟩
      ·have q1b:(r == 0)=false:=by simp[q1]
       go_wp2
       go_ret
       exact ⟨ae.no (by unfold ax;omega),by first|exact Bf _ _|exact ((Bf _ _).alloc (Nf _) _)⟩
     ·have q2b:(m == 0)=false:=by simp[q2]
      go_wp2
      go_ret
      exact ⟨ae.no (by unfold ax;omega),by first|exact Bf _ _|exact ((Bf _ _).alloc (Nf _) _)⟩
 have j1:(k == 1)=false:=by simp[k1]
 have j2:(k == 2)=false:=by simp[k2]
 have j3:(k == 3)=false:=by simp[k3]
 have j4:(k == 4)=false:=by simp[k4]
 have j5:(k == 5)=false:=by simp[k5]
 have j6:(k == 6)=false:=by simp[k6]
 have j7:(k == 7)=false:=by simp[k7]
 have j8:(k == 8)=false:=by simp[k8]
 have j9:(k == 9)=false:=by simp[k9]
 have j10:(k == 10)=false:=by simp[k10]
 go_wp2
 go_ret
 exact ⟨ae.no (by unfold ax;omega),by first|exact Bf _ _|exact ((Bf _ _).alloc (Nf _) _)⟩
open Go.RowKit
theorem qS (i t m r:Int) (w:World) (hi:1<=i/\i<=1000000):
  Calls Pg 93 #[.agg #[Ii Jj 1,Ii Jj i,Ii Jj t,Ii Jj m,Ii Jj r]] w fun e w'=>ae e (ax 1 i t m r)/\Below w.heap.size w w':=by
 go_enter Tryz.func93,Tryz.ntmps93
 by_cases qt:t=0
 ·have qtb:(t == 0)=true:=by simp[qt]
  by_cases q4:0<=m
  ·skip
   by_cases q3:m<=1000000000000
   ·skip
    by_cases q2:0<=r
    ·skip
     by_cases q1:r<=10000
     ·skip
      go_wp2
      go_ret
      exact ⟨ae.yes (by unfold ax;omega),by first|exact Bf _ _|exact ((Bf _ _).alloc (Nf _) _)⟩
     ·have q1b:10000<r:=by omega
      go_wp2
      go_ret
      exact ⟨ae.no (by unfold ax;omega),by first|exact Bf _ _|exact ((Bf _ _).alloc (Nf _) _)⟩
    ·have q2b:r<0:=by omega
     go_wp2
     go_ret
     exact ⟨ae.no (by unfold ax;omega),by first|exact Bf _ _|exact ((Bf _ _).alloc (Nf _) _)⟩
   ·have q3b:1000000000000<m:=by omega
    go_wp2
    go_ret
    exact ⟨ae.no (by unfold ax;omega),by first|exact Bf _ _|exact ((Bf _ _).alloc (Nf _) _)⟩
  ·have q4b:m<0:=by omega
   go_wp2
   go_ret
   exact ⟨ae.no (by unfold ax;omega),by first|exact Bf _ _|exact ((Bf _ _).alloc (Nf _) _)⟩
 ·have qtb:(t == 0)=false:=by simp[qt]
  go_wp2_with fail
  refine (fU i t _).mono ?_
  rintro e w3 ⟨⟨b3,rfl,hb3⟩,hw3⟩
  subst hw3
  cases b3 with
  | false=>
   have Hb3:=hb3.2 rfl
   go_wp2
   go_ret
   exact ⟨ae.no (by unfold ax;omega),by first|exact Bf _ _|exact ((Bf _ _).alloc (Nf _) _)⟩
  | true=>
   have Hb3:=hb3.1 rfl
   go_wp2_with fail
   refine (jr m _).mono ?_
   rintro e w2 ⟨⟨b2,rfl,hb2⟩,hw2⟩
   subst hw2
   cases b2 with
   | false=>
    have Hb2:=hb2.2 rfl
    go_wp2
    go_ret
    exact ⟨ae.no (by unfold ax;omega),by first|exact Bf _ _|exact ((Bf _ _).alloc (Nf _) _)⟩
   | true=>
    have Hb2:=hb2.1 rfl
    by_cases q1:r=0
    ·have q1b:(r == 0)=true:=by simp[q1]
     go_wp2
     go_ret
     exact ⟨ae.yes (by unfold ax;omega),by first|exact Bf _ _|exact ((Bf _ _).alloc (Nf _) _)⟩
    ·have q1b:(r == 0)=false:=by simp[q1]
     go_wp2
     go_ret
     exact ⟨ae.no (by unfold ax;omega),by first|exact Bf _ _|exact ((Bf _ _).alloc (Nf _) _)⟩
theorem nA (k i t m r:Int) (w:World):
  Calls Pg 66 #[.agg #[Ii Jj k,Ii Jj i,Ii Jj t,Ii Jj m,Ii Jj r]] w fun e w'=>ae e (ax k i t m r)/\Below w.heap.size w w':=by
 go_enter Tryz.func66,Tryz.ntmps66
 go_wp2_with fail
 refine (kT i _).mono ?_
 rintro e wx ⟨⟨x,rfl,hx⟩,hwx⟩
 subst hwx
 cases x with
 | false=>
  have Hx:=hx.2 rfl
  go_wp2
  go_ret
  exact ⟨ae.no (by unfold ax;omega),by first|exact Bf _ _|exact ((Bf _ _).alloc (Nf _) _)⟩
 | true=>
  have Hx:=hx.1 rfl
  by_cases k1:k=1
  ·subst k1
   go_wp2_with fail
   refine (qS i t m r _ Hx).mono ?_
   rintro e w1 ⟨⟨b,rfl,hb⟩,B1⟩
   have hb:ae (.returned (.bool b)) (ax 1 i t m r):=⟨b,rfl,hb⟩
   have B1':Hid (Below w.heap.size w w1):=((Bf _ _).alloc (Nf _) _).trans (B1.mono (by simp))
   clear B1
   go_wp2
   go_ret
   exact ⟨hb,B1'.out⟩
  have j1:(k == 1)=false:=by simp[k1]
  by_cases qr:r=0
  ·have qrb:(r != 0)=false:=by simp[qr]
   by_cases k2:k=2
   ·subst k2
    by_cases q2:t=0
    ·have q2b:(t == 0)=true:=by simp[q2]
     by_cases q1:m=0
     ·have q1b:(m == 0)=true:=by simp[q1]
      go_wp2
      go_ret
      exact ⟨ae.yes (by unfold ax;omega),by first|exact Bf _ _|exact ((Bf _ _).alloc (Nf _) _)⟩
     ·have q1b:(m == 0)=false:=by simp[q1]
      go_wp2
      go_ret
      exact ⟨ae.no (by unfold ax;omega),by first|exact Bf _ _|exact ((Bf _ _).alloc (Nf _) _)⟩
    ·have q2b:(t == 0)=false:=by simp[q2]
     go_wp2
     go_ret
     exact ⟨ae.no (by unfold ax;omega),by first|exact Bf _ _|exact ((Bf _ _).alloc (Nf _) _)⟩
   by_cases k3:k=3
   ·subst k3
    by_cases q2:t=0
    ·have q2b:(t == 0)=true:=by simp[q2]
     by_cases q1:m=0
     ·have q1b:(m == 0)=true:=by simp[q1]
      go_wp2
      go_ret
      exact ⟨ae.yes (by unfold ax;omega),by first|exact Bf _ _|exact ((Bf _ _).alloc (Nf _) _)⟩
     ·have q1b:(m == 0)=false:=by simp[q1]
      go_wp2
      go_ret
      exact ⟨ae.no (by unfold ax;omega),by first|exact Bf _ _|exact ((Bf _ _).alloc (Nf _) _)⟩
    ·have q2b:(t == 0)=false:=by simp[q2]
     go_wp2
     go_ret
     exact ⟨ae.no (by unfold ax;omega),by first|exact Bf _ _|exact ((Bf _ _).alloc (Nf _) _)⟩
   by_cases k4:k=4
   ·subst k4
    by_cases q2:t=0
    ·have q2b:(t == 0)=true:=by simp[q2]
     by_cases q1:m=0
     ·have q1b:(m == 0)=true:=by simp[q1]
      go_wp2
      go_ret
      exact ⟨ae.yes (by unfold ax;omega),by first|exact Bf _ _|exact ((Bf _ _).alloc (Nf _) _)⟩
     ·have q1b:(m == 0)=false:=by simp[q1]
      go_wp2
      go_ret
      exact ⟨ae.no (by unfold ax;omega),by first|exact Bf _ _|exact ((Bf _ _).alloc (Nf _) _)⟩
    ·have q2b:(t == 0)=false:=by simp[q2]
     go_wp2
     go_ret
     exact ⟨ae.no (by unfold ax;omega),by first|exact Bf _ _|exact ((Bf _ _).alloc (Nf _) _)⟩
   by_cases k5:k=5
   ·subst k5
    by_cases q2:t=0
    ·have q2b:(t == 0)=true:=by simp[q2]
     go_wp2_with fail
     refine (gO m _).mono ?_
     rintro e w1 ⟨⟨b1,rfl,hb1⟩,hw1⟩
     subst hw1
     cases b1 with
     | false=>
      have Hb1:=hb1.2 rfl
      go_wp2
      go_ret
      exact ⟨ae.no (by unfold ax;omega),by first|exact Bf _ _|exact ((Bf _ _).alloc (Nf _) _)⟩
     | true=>
      have Hb1:=hb1.1 rfl
      go_wp2
      go_ret
      exact ⟨ae.yes (by unfold ax;omega),by first|exact Bf _ _|exact ((Bf _ _).alloc (Nf _) _)⟩
    ·have q2b:(t == 0)=false:=by simp[q2]
     go_wp2
     go_ret
     exact ⟨ae.no (by unfold ax;omega),by first|exact Bf _ _|exact ((Bf _ _).alloc (Nf _) _)⟩
   by_cases k6:k=6
   ·subst k6
    by_cases q2:t=0
    ·have q2b:(t == 0)=true:=by simp[q2]
     go_wp2_with fail
     refine (gO m _).mono ?_
     rintro e w1 ⟨⟨b1,rfl,hb1⟩,hw1⟩
     subst hw1
     cases b1 with
     | false=>
      have Hb1:=hb1.2 rfl
      go_wp2
      go_ret
      exact ⟨ae.no (by unfold ax;omega),by first|exact Bf _ _|exact ((Bf _ _).alloc (Nf _) _)⟩
     | true=>
      have Hb1:=hb1.1 rfl
      go_wp2
      go_ret
      exact ⟨ae.yes (by unfold ax;omega),by first|exact Bf _ _|exact ((Bf _ _).alloc (Nf _) _)⟩
    ·have q2b:(t == 0)=false:=by simp[q2]
     go_wp2
     go_ret
     exact ⟨ae.no (by unfold ax;omega),by first|exact Bf _ _|exact ((Bf _ _).alloc (Nf _) _)⟩
   by_cases k7:k=7
   ·subst k7
    go_wp2_with fail
    refine (fU i t _).mono ?_
    rintro e w2 ⟨⟨b2,rfl,hb2⟩,hw2⟩
    subst hw2
    cases b2 with
    | false=>
     have Hb2:=hb2.2 rfl
     go_wp2
     go_ret
     exact ⟨ae.no (by unfold ax;omega),by first|exact Bf _ _|exact ((Bf _ _).alloc (Nf _) _)⟩
    | true=>
     have Hb2:=hb2.1 rfl
     go_wp2_with fail
     refine (gO m _).mono ?_
     rintro e w1 ⟨⟨b1,rfl,hb1⟩,hw1⟩
     subst hw1
     cases b1 with
     | false=>
      have Hb1:=hb1.2 rfl
      go_wp2
      go_ret
      exact ⟨ae.no (by unfold ax;omega),by first|exact Bf _ _|exact ((Bf _ _).alloc (Nf _) _)⟩
     | true=>
      have Hb1:=hb1.1 rfl
      go_wp2
      go_ret
      exact ⟨ae.yes (by unfold ax;omega),by first|exact Bf _ _|exact ((Bf _ _).alloc (Nf _) _)⟩
   by_cases k8:k=8
   ·subst k8
    by_cases q2:t=0
    ·have q2b:(t == 0)=true:=by simp[q2]
     go_wp2_with fail
     refine (jr m _).mono ?_
     rintro e w1 ⟨⟨b1,rfl,hb1⟩,hw1⟩
     subst hw1
     cases b1 with
     | false=>
      have Hb1:=hb1.2 rfl
      go_wp2
      go_ret
      exact ⟨ae.no (by unfold ax;omega),by first|exact Bf _ _|exact ((Bf _ _).alloc (Nf _) _)⟩
     | true=>
      have Hb1:=hb1.1 rfl
      go_wp2
      go_ret
      exact ⟨ae.yes (by unfold ax;omega),by first|exact Bf _ _|exact ((Bf _ _).alloc (Nf _) _)⟩
    ·have q2b:(t == 0)=false:=by simp[q2]
     go_wp2
     go_ret
     exact ⟨ae.no (by unfold ax;omega),by first|exact Bf _ _|exact ((Bf _ _).alloc (Nf _) _)⟩
   by_cases k10:k=10
   ·subst k10
    by_cases q2:t=0
    ·have q2b:(t == 0)=true:=by simp[q2]
     go_wp2_with fail
     refine (jr m _).mono ?_
     rintro e w1 ⟨⟨b1,rfl,hb1⟩,hw1⟩
     subst hw1
     cases b1 with
     | false=>
      have Hb1:=hb1.2 rfl
      go_wp2
      go_ret
      exact ⟨ae.no (by unfold ax;omega),by first|exact Bf _ _|exact ((Bf _ _).alloc (Nf _) _)⟩
     | true=>
      have Hb1:=hb1.1 rfl
      go_wp2
      go_ret
      exact ⟨ae.yes (by unfold ax;omega),by first|exact Bf _ _|exact ((Bf _ _).alloc (Nf _) _)⟩
    ·have q2b:(t == 0)=false:=by simp[q2]
     go_wp2
     go_ret
     exact ⟨ae.no (by unfold ax;omega),by first|exact Bf _ _|exact ((Bf _ _).alloc (Nf _) _)⟩
   by_cases k9:k=9
   ·subst k9
    go_wp2_with fail
    refine (fU i t _).mono ?_
    rintro e w2 ⟨⟨b2,rfl,hb2⟩,hw2⟩
    subst hw2
    cases b2 with
    | false=>
     have Hb2:=hb2.2 rfl
     go_wp2
     go_ret
     exact ⟨ae.no (by unfold ax;omega),by first|exact Bf _ _|exact ((Bf _ _).alloc (Nf _) _)⟩
    | true=>
     have Hb2:=hb2.1 rfl
     by_cases q1:m=0
     ·have q1b:(m == 0)=true:=by simp[q1]
      go_wp2
      go_ret
      exact ⟨ae.yes (by unfold ax;omega),by first|exact Bf _ _|exact ((Bf _ _).alloc (Nf _) _)⟩
     ·have q1b:(m == 0)=false:=by simp[q1]
      go_wp2
      go_ret
      exact ⟨ae.no (by unfold ax;omega),by first|exact Bf _ _|exact ((Bf _ _).alloc (Nf _) _)⟩
   have j2:(k == 2)=false:=by simp[k2]
   have j3:(k == 3)=false:=by simp[k3]
   have j4:(k == 4)=false:=by simp[k4]
   have j5:(k == 5)=false:=by simp[k5]
   have j6:(k == 6)=false:=by simp[k6]
   have j7:(k == 7)=false:=by simp[k7]
   have j8:(k == 8)=false:=by simp[k8]
   have j9:(k == 9)=false:=by simp[k9]
   have j10:(k == 10)=false:=by simp[k10]
   go_wp2
   go_ret
   exact ⟨ae.no (by unfold ax;omega),by first|exact Bf _ _|exact ((Bf _ _).alloc (Nf _) _)⟩
  ·have qrb:(r != 0)=true:=by simp[qr]
   go_wp2
   go_ret
   exact ⟨ae.no (by unfold ax;omega),by first|exact Bf _ _|exact ((Bf _ _).alloc (Nf _) _)⟩
open Go.ChangeShapes Go.WideShapes Go.ChangeAt Go.RowKit
def aN (w:World) (R:Nat) (k i t m r:Int):Prop:=w.cell? ⟨R,0,none⟩=some (Ii Jj k)/\w.cell? ⟨R,1,none⟩=some (Ii Jj i)/\w.cell? ⟨R,2,none⟩=some (Ii Jj t)/\w.cell? ⟨R,3,none⟩=some (Ii Jj m)/\w.cell? ⟨R,4,none⟩=some (Ii Jj r)/\R<w.heap.size
theorem aN.new (w:World) (k i t m r:Int) (T:Nat):aN (w.alloc (.cells #[Ii Jj k,Ii Jj i,Ii Jj t,Ii Jj m,Ii Jj r] T)) w.heap.size k i t m r:=by
 unfold aN
 simp[go_sem]
theorem aN.below {w w':World} {R:Nat} {k i t m r:Int} (h:aN w R k i t m r) (hb:Below w.heap.size w w'):aN w' R k i t m r:=by
 obtain ⟨h0,h1,h2,h3,h4,h5⟩:=h
 exact ⟨by rw[hb.cell (p:=⟨R,0,none⟩) h5];exact h0,by rw[hb.cell (p:=⟨R,1,none⟩) h5];exact h1,by rw[hb.cell (p:=⟨R,2,none⟩) h5];exact h2,by rw[hb.cell (p:=⟨R,3,none⟩) h5];exact h3,by rw[hb.cell (p:=⟨R,4,none⟩) h5];exact h4,Nat.lt_of_lt_of_le h5 hb.size⟩
end Go.Proofs.YtjhgchlfpolkcaaGreatDoor
