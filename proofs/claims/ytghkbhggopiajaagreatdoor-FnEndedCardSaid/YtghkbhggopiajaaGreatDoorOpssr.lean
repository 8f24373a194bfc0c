/- OpOk. -/
import Derived.Test.YtghkbhggopiajaaGreatDoorChAr
import Derived.ProofKit
import Derived.OpenShut
set_option maxHeartbeats 4000000
set_option maxRecDepth 8000
namespace Go.Proofs.YtghkbhggopiajaaGreatDoor
open Go.RowKit
def Tells (e:Ending) (P:Prop):Prop:=∃b:Bool,e=.returned (.bool b)/\(b=true->P)/\(b=false->¬P)
theorem Tells.yes {P:Prop} (h:P):Tells (.returned (.bool true)) P:=⟨true,rfl,fun _=>h,fun e=>(by cases e)⟩
theorem Tells.no {P:Prop} (h:¬P):Tells (.returned (.bool false)) P:=⟨false,rfl,fun e=>(by cases e),fun _=>h⟩
def opOk (k i t m r:Int):Prop:=(1<=i/\i<=1000000)/\
  ((k=1/\t=0/\(0<=m/\m<=1000000000000)/\(0<=r/\r<=10000))\/
   (k=1/\t≠0/\(1<=t/\t<=1000000)/\i≠t/\(-1<=m/\m<=1000000000000)/\r=0)\/
   ((k=2\/k=3\/k=4)/\t=0/\m=0/\r=0)\/
   ((k=5\/k=6)/\t=0/\(1<=m/\m<=1000000000000)/\r=0)\/
   (k=7/\(1<=t/\t<=1000000)/\i≠t/\(1<=m/\m<=1000000000000)/\r=0)\/
   ((k=8\/k=10)/\t=0/\(-1<=m/\m<=1000000000000)/\r=0)\/
   (k=9/\(1<=t/\t<=1000000)/\i≠t/\m=0/\r=0))
theorem l1In_b (n lo hi:Int) (w:World):
  Calls Tryz.prog 85 #[.int .i64 n,.int .i64 lo,.int .i64 hi] w fun e w'=>Tells e (lo<=n/\n<=hi)/\w'=w:=by
 by_cases h:lo<=n/\n<=hi
 ·exact (l1In_yes n lo hi w h).mono fun e w' ⟨he,hw⟩=>⟨⟨true,he,fun _=>h,fun e=>(by cases e)⟩,hw⟩
 ·exact (l1In_no n lo hi w h).mono fun e w' ⟨he,hw⟩=>⟨⟨false,he,fun e=>(by cases e),fun _=>h⟩,hw⟩
theorem idOk_b (n:Int) (w:World):
  Calls Tryz.prog 110 #[.int .i64 n] w fun e w'=>Tells e (1<=n/\n<=1000000)/\w'=w:=by
 by_cases h:1<=n/\n<=1000000
 ·exact (idOk_yes n w h).mono fun e w' ⟨he,hw⟩=>⟨⟨true,he,fun _=>h,fun e=>(by cases e)⟩,hw⟩
 ·exact (idOk_no n w h).mono fun e w' ⟨he,hw⟩=>⟨⟨false,he,fun e=>(by cases e),fun _=>h⟩,hw⟩
theorem noneOk_b (n:Int) (w:World):
  Calls Tryz.prog 111 #[.int .i64 n] w fun e w'=>Tells e (-1<=n/\n<=1000000000000)/\w'=w:=by
 by_cases h: -1<=n/\n<=1000000000000
 ·exact (amount_yes n w h).mono fun e w' ⟨he,hw⟩=>⟨⟨true,he,fun _=>h,fun e=>(by cases e)⟩,hw⟩
 ·exact (amount_no n w h).mono fun e w' ⟨he,hw⟩=>⟨⟨false,he,fun e=>(by cases e),fun _=>h⟩,hw⟩
theorem someOk_yes (n:Int) (w:World) (h:1<=n/\n<=1000000000000):
  Calls Tryz.prog 124 #[.int .i64 n] w fun e w'=>e=.returned (.bool true)/\w'=w:=by
 obtain ⟨h1,h2⟩:=h
 go_enter Tryz.func124,Tryz.ntmps124
 go_wp2
 go_ret
 exact ⟨rfl,rfl⟩
theorem someOk_no (n:Int) (w:World) (h:¬(1<=n/\n<=1000000000000)):
  Calls Tryz.prog 124 #[.int .i64 n] w fun e w'=>e=.returned (.bool false)/\w'=w:=by
 by_cases h1:1<=n
 ·have h2:¬n<=1000000000000:=by omega
  have h3:1000000000000<n:=by omega
  clear h
  go_enter Tryz.func124,Tryz.ntmps124
  go_wp2
  go_ret
  exact ⟨rfl,rfl⟩
 ·have h2:n<1:=by omega
  clear h
  go_enter Tryz.func124,Tryz.ntmps124
  go_wp2
  go_ret
  exact ⟨rfl,rfl⟩
theorem someOk_b (n:Int) (w:World):
  Calls Tryz.prog 124 #[.int .i64 n] w fun e w'=>Tells e (1<=n/\n<=1000000000000)/\w'=w:=by
 by_cases h:1<=n/\n<=1000000000000
 ·exact (someOk_yes n w h).mono fun e w' ⟨he,hw⟩=>⟨⟨true,he,fun _=>h,fun e=>(by cases e)⟩,hw⟩
 ·exact (someOk_no n w h).mono fun e w' ⟨he,hw⟩=>⟨⟨false,he,fun e=>(by cases e),fun _=>h⟩,hw⟩
theorem otherOk_b (i t:Int) (w:World):
  Calls Tryz.prog 123 #[.int .i64 i,.int .i64 t] w fun e w'=>Tells e ((1<=t/\t<=1000000)/\i≠t)/\w'=w:=by
 go_enter Tryz.func123,Tryz.ntmps123
 go_wp2_with fail
 refine (idOk_b t w).mono ?_
 rintro e w1 ⟨⟨b,rfl,h1,h2⟩,hw⟩
 subst hw
 cases b with
 | false=>
  have H:=h2 rfl
  clear h1 h2
  go_wp2
  go_ret
  exact ⟨Tells.no (by omega),rfl⟩
 | true=>
  have H:=h1 rfl
  clear h1 h2
  by_cases e:t=i
  ·have eb:(t != i)=false:=by simp[e]
   go_wp2
   go_ret
   exact ⟨Tells.no (by omega),rfl⟩
  ·have eb:(t != i)=true:=by simp[e]
   go_wp2
   go_ret
   exact ⟨Tells.yes (by omega),rfl⟩
open Go.RowKit
theorem specOpOk_b (k i t m r:Int) (w:World):
  Calls Tryz.prog 144 #[.agg #[.int .i64 k,.int .i64 i,.int .i64 t,.int .i64 m,.int .i64 r]] w fun e w'=>Tells e (opOk k i t m r)/\Below w.heap.size w w':=by
 go_enter Tryz.func144,Tryz.ntmps144
 go_wp2_with fail
 refine (l1In_b i 1 1000000 _).mono ?_
 rintro e wx ⟨⟨x,rfl,hx⟩,hwx⟩
 subst hwx
 go_wp2_with fail
 refine (l1In_b t 1 1000000 _).mono ?_
 rintro e wy ⟨⟨y,rfl,hy⟩,hwy⟩
 subst hwy
 go_wp2_with fail
 refine (l1In_b m 1 1000000000000 _).mono ?_
 rintro e wz ⟨⟨z,rfl,hz⟩,hwz⟩
 subst hwz
 by_cases k1:k=1
 ·subst k1
  by_cases qt:t=0
  ·have qtb:(t == 0)=true:=by simp[qt]
   cases x with
   | false=>
    have Hx:=hx.2 rfl
    go_wp2
    go_ret
    exact ⟨Tells.no (by unfold opOk;omega),by first|exact Below.refl _ _|exact ((Below.refl _ _).alloc (Nat.le_refl _) _)⟩
   | true=>
    have Hx:=hx.1 rfl
    go_wp2_with fail
    refine (l1In_b m 0 1000000000000 _).mono ?_
    rintro e w2 ⟨⟨b2,rfl,hb2⟩,hw2⟩
    subst hw2
    cases b2 with
    | false=>
     have Hb2:=hb2.2 rfl
     go_wp2
     go_ret
     exact ⟨Tells.no (by unfold opOk;omega),by first|exact Below.refl _ _|exact ((Below.refl _ _).alloc (Nat.le_refl _) _)⟩
    | true=>
     have Hb2:=hb2.1 rfl
     go_wp2_with fail
     refine (l1In_b r 0 10000 _).mono ?_
     rintro e w1 ⟨⟨b1,rfl,hb1⟩,hw1⟩
     subst hw1
     cases b1 with
     | false=>
      have Hb1:=hb1.2 rfl
      go_wp2
      go_ret
      exact ⟨Tells.no (by unfold opOk;omega),by first|exact Below.refl _ _|exact ((Below.refl _ _).alloc (Nat.le_refl _) _)⟩
     | true=>
      have Hb1:=hb1.1 rfl
      go_wp2
      go_ret
      exact ⟨Tells.yes (by unfold opOk;omega),by first|exact Below.refl _ _|exact ((Below.refl _ _).alloc (Nat.le_refl _) _)⟩
  ·have qtb:(t == 0)=false:=by simp[qt]
   cases x with
   | false=>
    have Hx:=hx.2 rfl
    go_wp2
    go_ret
    exact ⟨Tells.no (by unfold opOk;omega),by first|exact Below.refl _ _|exact ((Below.refl _ _).alloc (Nat.le_refl _) _)⟩
   | true=>
    have Hx:=hx.1 rfl
    cases y with
    | false=>
     have Hy:=hy.2 rfl
     go_wp2
     go_ret
     exact ⟨Tells.no (by unfold opOk;omega),by first|exact Below.refl _ _|exact ((Below.refl _ _).alloc (Nat.le_refl _) _)⟩
    | true=>
     have Hy:=hy.1 rfl
     by_cases q3:i=t
     ·have q3b:(i != t)=false:=by simp[q3]
      go_wp2
      go_ret
      exact ⟨Tells.no (by unfold opOk;omega),by first|exact Below.refl _ _|exact ((Below.refl _ _).alloc (Nat.le_refl _) _)⟩
     ·have q3b:(i != t)=true:=by simp[q3]
      go_wp2_with fail
      refine (l1In_b m (-1) 1000000000000 _).mono ?_
      rintro e w2 ⟨⟨b2,rfl,hb2⟩,hw2⟩
      subst hw2
      cases b2 with
      | false=>
       have Hb2:=hb2.2 rfl
       go_wp2
       go_ret
       exact ⟨Tells.no (by unfold opOk;omega),by first|exact Below.refl _ _|exact ((Below.refl _ _).alloc (Nat.le_refl _) _)⟩
      | true=>
       have Hb2:=hb2.1 rfl
       by_cases q1:r=0
       ·have q1b:(r == 0)=true:=by simp[q1]
        go_wp2
        go_ret
        exact ⟨Tells.yes (by unfold opOk;omega),by first|exact Below.refl _ _|exact ((Below.refl _ _).alloc (Nat.le_refl _) _)⟩
       ·have q1b:(r == 0)=false:=by simp[q1]
        go_wp2
        go_ret
        exact ⟨Tells.no (by unfold opOk;omega),by first|exact Below.refl _ _|exact ((Below.refl _ _).alloc (Nat.le_refl _) _)⟩
 by_cases k2:k=2
 ·subst k2
  cases x with
  | false=>
   have Hx:=hx.2 rfl
   go_wp2
   go_ret
   exact ⟨Tells.no (by unfold opOk;omega),by first|exact Below.refl _ _|exact ((Below.refl _ _).alloc (Nat.le_refl _) _)⟩
  | true=>
   have Hx:=hx.1 rfl
   by_cases q3:t=0
   ·have q3b:(t == 0)=true:=by simp[q3]
    by_cases q2:m=0
    ·have q2b:(m == 0)=true:=by simp[q2]
     by_cases q1:r=0
     ·have q1b:(r == 0)=true:=by simp[q1]
      go_wp2
      go_ret
      exact ⟨Tells.yes (by unfold opOk;omega),by first|exact Below.refl _ _|exact ((Below.refl _ _).alloc (Nat.le_refl _) _)⟩
     ·have q1b:(r == 0)=false:=by simp[q1]
      go_wp2
      go_ret
      exact ⟨Tells.no (by unfold opOk;omega),by first|exact Below.refl _ _|exact ((Below.refl _ _).alloc (Nat.le_refl _) _)⟩
    ·have q2b:(m == 0)=false:=by simp[q2]
     go_wp2
     go_ret
     exact ⟨Tells.no (by unfold opOk;omega),by first|exact Below.refl _ _|exact ((Below.refl _ _).alloc (Nat.le_refl _) _)⟩
   ·have q3b:(t == 0)=false:=by simp[q3]
    go_wp2
    go_ret
    exact ⟨Tells.no (by unfold opOk;omega),by first|exact Below.refl _ _|exact ((Below.refl _ _).alloc (Nat.le_refl _) _)⟩
 by_cases k3:k=3
 ·subst k3
  cases x with
  | false=>
   have Hx:=hx.2 rfl
   go_wp2
   go_ret
   exact ⟨Tells.no (by unfold opOk;omega),by first|exact Below.refl _ _|exact ((Below.refl _ _).alloc (Nat.le_refl _) _)⟩
  | true=>
   have Hx:=hx.1 rfl
   by_cases q3:t=0
   ·have q3b:(t == 0)=true:=by simp[q3]
    by_cases q2:m=0
    ·have q2b:(m == 0)=true:=by simp[q2]
     by_cases q1:r=0
     ·have q1b:(r == 0)=true:=by simp[q1]
      go_wp2
      go_ret
      exact ⟨Tells.yes (by unfold opOk;omega),by first|exact Below.refl _ _|exact ((Below.refl _ _).alloc (Nat.le_refl _) _)⟩
     ·have q1b:(r == 0)=false:=by simp[q1]
      go_wp2
      go_ret
      exact ⟨Tells.no (by unfold opOk;omega),by first|exact Below.refl _ _|exact ((Below.refl _ _).alloc (Nat.le_refl _) _)⟩
    ·have q2b:(m == 0)=false:=by simp[q2]
     go_wp2
     go_ret
     exact ⟨Tells.no (by unfold opOk;omega),by first|exact Below.refl _ _|exact ((Below.refl _ _).alloc (Nat.le_refl _) _)⟩
   ·have q3b:(t == 0)=false:=by simp[q3]
    go_wp2
    go_ret
    exact ⟨Tells.no (by unfold opOk;omega),by first|exact Below.refl _ _|exact ((Below.refl _ _).alloc (Nat.le_refl _) _)⟩
 by_cases k4:k=4
 ·subst k4
  cases x with
  | false=>
   have Hx:=hx.2 rfl
   go_wp2
   go_ret
   exact ⟨Tells.no (by unfold opOk;omega),by first|exact Below.refl _ _|exact ((Below.refl _ _).alloc (Nat.le_refl _) _)⟩
  | true=>
   have Hx:=hx.1 rfl
   by_cases q3:t=0
   ·have q3b:(t == 0)=true:=by simp[q3]
    by_cases q2:m=0
    ·have q2b:(m == 0)=true:=by simp[q2]
     by_cases q1:r=0
     ·have q1b:(r == 0)=true:=by simp[q1]
      go_wp2
      go_ret
      exact ⟨Tells.yes (by unfold opOk;omega),by first|exact Below.refl _ _|exact ((Below.refl _ _).alloc (Nat.le_refl _) _)⟩
     ·have q1b:(r == 0)=false:=by simp[q1]
      go_wp2
      go_ret
      exact ⟨Tells.no (by unfold opOk;omega),by first|exact Below.refl _ _|exact ((Below.refl _ _).alloc (Nat.le_refl _) _)⟩
    ·have q2b:(m == 0)=false:=by simp[q2]
     go_wp2
     go_ret
     exact ⟨Tells.no (by unfold opOk;omega),by first|exact Below.refl _ _|exact ((Below.refl _ _).alloc (Nat.le_refl _) _)⟩
   ·have q3b:(t == 0)=false:=by simp[q3]
    go_wp2
    go_ret
    exact ⟨Tells.no (by unfold opOk;omega),by first|exact Below.refl _ _|exact ((Below.refl _ _).alloc (Nat.le_refl _) _)⟩
 by_cases k5:k=5
 ·subst k5
  cases x with
  | false=>
   have Hx:=hx.2 rfl
   go_wp2
   go_ret
   exact ⟨Tells.no (by unfold opOk;omega),by first|exact Below.refl _ _|exact ((Below.refl _ _).alloc (Nat.le_refl _) _)⟩
  | true=>
   have Hx:=hx.1 rfl
   by_cases q3:t=0
   ·have q3b:(t == 0)=true:=by simp[q3]
    cases z with
    | false=>
     have Hz:=hz.2 rfl
     go_wp2
     go_ret
     exact ⟨Tells.no (by unfold opOk;omega),by first|exact Below.refl _ _|exact ((Below.refl _ _).alloc (Nat.le_refl _) _)⟩
    | true=>
     have Hz:=hz.1 rfl
     by_cases q1:r=0
     ·have q1b:(r == 0)=true:=by simp[q1]
      go_wp2
      go_ret
      exact ⟨Tells.yes (by unfold opOk;omega),by first|exact Below.refl _ _|exact ((Below.refl _ _).alloc (Nat.le_refl _) _)⟩
     ·have q1b:(r == 0)=false:=by simp[q1]
      go_wp2
      go_ret
      exact ⟨Tells.no (by unfold opOk;omega),by first|exact Below.refl _ _|exact ((Below.refl _ _).alloc (Nat.le_refl _) _)⟩
   ·have q3b:(t == 0)=false:=by simp[q3]
    go_wp2
    go_ret
    exact ⟨Tells.no (by unfold opOk;omega),by first|exact Below.refl _ _|exact ((Below.refl _ _).alloc (Nat.le_refl _) _)⟩
 by_cases k6:k=6
 ·subst k6
  cases x with
  | false=>
   have Hx:=hx.2 rfl
   go_wp2
   go_ret
   exact ⟨Tells.no (by unfold opOk;omega),by first|exact Below.refl _ _|exact ((Below.refl _ _).alloc (Nat.le_refl _) _)⟩
  | true=>
   have Hx:=hx.1 rfl
   by_cases q3:t=0
   ·have q3b:(t == 0)=true:=by simp[q3]
    cases z with
    | false=>
     have Hz:=hz.2 rfl
     go_wp2
     go_ret
     exact ⟨Tells.no (by unfold opOk;omega),by first|exact Below.refl _ _|exact ((Below.refl _ _).alloc (Nat.le_refl _) _)⟩
    | true=>
     have Hz:=hz.1 rfl
     by_cases q1:r=0
     ·have q1b:(r == 0)=true:=by simp[q1]
      go_wp2
      go_ret
      exact ⟨Tells.yes (by unfold opOk;omega),by first|exact Below.refl _ _|exact ((Below.refl _ _).alloc (Nat.le_refl _) _)⟩
     ·have q1b:(r == 0)=false:=by simp[q1]
      go_wp2
      go_ret
      exact ⟨Tells.no (by unfold opOk;omega),by first|exact Below.refl _ _|exact ((Below.refl _ _).alloc (Nat.le_refl _) _)⟩
   ·have q3b:(t == 0)=false:=by simp[q3]
    go_wp2
    go_ret
    exact ⟨Tells.no (by unfold opOk;omega),by first|exact Below.refl _ _|exact ((Below.refl _ _).alloc (Nat.le_refl _) _)⟩
 by_cases k7:k=7
 ·subst k7
  cases x with
  | false=>
   have Hx:=hx.2 rfl
   go_wp2
   go_ret
   exact ⟨Tells.no (by unfold opOk;omega),by first|exact Below.refl _ _|exact ((Below.refl _ _).alloc (Nat.le_refl _) _)⟩
  | true=>
   have Hx:=hx.1 rfl
   cases y with
   | false=>
    have Hy:=hy.2 rfl
    go_wp2
    go_ret
    exact ⟨Tells.no (by unfold opOk;omega),by first|exact Below.refl _ _|exact ((Below.refl _ _).alloc (Nat.le_refl _) _)⟩
   | true=>
    have Hy:=hy.1 rfl
    by_cases q3:i=t
    ·have q3b:(i != t)=false:=by simp[q3]
     go_wp2
     go_ret
     exact ⟨Tells.no (by unfold opOk;omega),by first|exact Below.refl _ _|exact ((Below.refl _ _).alloc (Nat.le_refl _) _)⟩
    ·have q3b:(i != t)=true:=by simp[q3]
     cases z with
     | false=>
      have Hz:=hz.2 rfl
      go_wp2
      go_ret
      exact ⟨Tells.no (by unfold opOk;omega),by first|exact Below.refl _ _|exact ((Below.refl _ _).alloc (Nat.le_refl _) _)⟩
     | true=>
      have Hz:=hz.1 rfl
      by_cases q1:r=0
      ·have q1b:(r == 0)=true:=by simp[q1]
       go_wp2
       go_ret
       exact ⟨Tells.yes (by unfold opOk;omega),by first|exact Below.refl _ _|exact ((Below.refl _ _).alloc (Nat.le_refl _) _)⟩
      ·have q1b:(r == 0)=false:=by simp[q1]
       go_wp2
       go_ret
       exact ⟨Tells.no (by unfold opOk;omega),by first|exact Below.refl _ _|exact ((Below.refl _ _).alloc (Nat.le_refl _) _)⟩
 by_cases k8:k=8
 ·subst k8
  cases x with
  | false=>
   have Hx:=hx.2 rfl
   go_wp2
   go_ret
   exact ⟨Tells.no (by unfold opOk;omega),by first|exact Below.refl _ _|exact ((Below.refl _ _).alloc (Nat.le_refl _) _)⟩
  | true=>
   have Hx:=hx.1 rfl
   by_cases q3:t=0
   ·have q3b:(t == 0)=true:=by simp[q3]
    go_wp2_with fail
    refine (l1In_b m (-1) 1000000000000 _).mono ?_
    rintro e w2 ⟨⟨b2,rfl,hb2⟩,hw2⟩
    subst hw2
    cases b2 with
    | false=>
     have Hb2:=hb2.2 rfl
     go_wp2
     go_ret
     exact ⟨Tells.no (by unfold opOk;omega),by first|exact Below.refl _ _|exact ((Below.refl _ _).alloc (Nat.le_refl _) _)⟩
    | true=>
     have Hb2:=hb2.1 rfl
     by_cases q1:r=0
     ·have q1b:(r == 0)=true:=by simp[q1]
      go_wp2
      go_ret
      exact ⟨Tells.yes (by unfold opOk;omega),by first|exact Below.refl _ _|exact ((Below.refl _ _).alloc (Nat.le_refl _) _)⟩
     ·have q1b:(r == 0)=false:=by simp[q1]
      go_wp2
      go_ret
      exact ⟨Tells.no (by unfold opOk;omega),by first|exact Below.refl _ _|exact ((Below.refl _ _).alloc (Nat.le_refl _) _)⟩
   ·have q3b:(t == 0)=false:=by simp[q3]
    go_wp2
    go_ret
    exact ⟨Tells.no (by unfold opOk;omega),by first|exact Below.refl _ _|exact ((Below.refl _ _).alloc (Nat.le_refl _) _)⟩
 by_cases k10:k=10
 ·subst k10
  cases x with
  | false=>
   have Hx:=hx.2 rfl
   go_wp2
   go_ret
   exact ⟨Tells.no (by unfold opOk;omega),by first|exact Below.refl _ _|exact ((Below.refl _ _).alloc (Nat.le_refl _) _)⟩
  | true=>
   have Hx:=hx.1 rfl
   by_cases q3:t=0
   ·have q3b:(t == 0)=true:=by simp[q3]
    go_wp2_with fail
    refine (l1In_b m (-1) 1000000000000 _).mono ?_
    rintro e w2 ⟨⟨b2,rfl,hb2⟩,hw2⟩
    subst hw2
    cases b2 with
    | false=>
     have Hb2:=hb2.2 rfl
     go_wp2
     go_ret
     exact ⟨Tells.no (by unfold opOk;omega),by first|exact Below.refl _ _|exact ((Below.refl _ _).alloc (Nat.le_refl _) _)⟩
    | true=>
     have Hb2:=hb2.1 rfl
     by_cases q1:r=0
     ·have q1b:(r == 0)=true:=by simp[q1]
      go_wp2
      go_ret
      exact ⟨Tells.yes (by unfold opOk;omega),by first|exact Below.refl _ _|exact ((Below.refl _ _).alloc (Nat.le_refl _) _)⟩
     ·have q1b:(r == 0)=false:=by simp[q1]
      go_wp2
      go_ret
      exact ⟨Tells.no (by unfold opOk;omega),by first|exact Below.refl _ _|exact ((Below.refl _ _).alloc (Nat.le_refl _) _)⟩
   ·have q3b:(t == 0)=false:=by simp[q3]
    go_wp2
    go_ret
    exact ⟨Tells.no (by unfold opOk;omega),by first|exact Below.refl _ _|exact ((Below.refl _ _).alloc (Nat.le_refl _) _)⟩
 by_cases k9:k=9
 ·subst k9
  cases x with
  | false=>
   have Hx:=hx.2 rfl
   go_wp2
   go_ret
   exact ⟨Tells.no (by unfold opOk;omega),by first|exact Below.refl _ _|exact ((Below.refl _ _).alloc (Nat.le_refl _) _)⟩
  | true=>
   have Hx:=hx.1 rfl
   cases y with
   | false=>
    have Hy:=hy.2 rfl
    go_wp2
    go_ret
    exact ⟨Tells.no (by unfold opOk;omega),by first|exact Below.refl _ _|exact ((Below.refl _ _).alloc (Nat.le_refl _) _)⟩
   | true=>
    have Hy:=hy.1 rfl
    by_cases q3:i=t
    ·have q3b:(i != t)=false:=by simp[q3]
     go_wp2
     go_ret
     exact ⟨Tells.no (by unfold opOk;omega),by first|exact Below.refl _ _|exact ((Below.refl _ _).alloc (Nat.le_refl _) _)⟩
    ·have q3b:(i != t)=true:=by simp[q3]
     by_cases q2:m=0
     ·have q2b:(m == 0)=true:=by simp[q2]
      by_cases q1:r=0
      ·have q1b:(r == 0)=true:=by simp[q1]
       go_wp2
       go_ret
       exact ⟨Tells.yes (by unfold opOk;omega),by first|exact Below.refl _ _|exact ((Below.refl _ _).alloc (Nat.le_refl _) _)⟩
      ·have q1b:(r == 0)=false:=by simp[q1]
       go_wp2
       go_ret
       exact ⟨Tells.no (by unfold opOk;omega),by first|exact Below.refl _ _|exact ((Below.refl _ _).alloc (Nat.le_refl _) _)⟩
     ·have q2b:(m == 0)=false:=by simp[q2]
      go_wp2
      go_ret
      exact ⟨Tells.no (by unfold opOk;omega),by first|exact Below.refl _ _|exact ((Below.refl _ _).alloc (Nat.le_refl _) _)⟩
 have j1:(k == 1)=false:=by simp[k1]
 have j2:(k == 2)=false:=by simp[k2]
 have j3:(k == 3)=false:=by simp[k3]
 have j4:(k == 4)=false:=by simp[k4]
 have j5:(k == 5)=false:=by simp[k5]
 have j6:(k == 6)=false:=by simp[k6]
 have j7:(k == 7)=false:=by simp[k7]
 have j8:(k == 8)=false:=by simp[k8]
 have j9:(k == 9)=false:=by simp[k9]
 have j10:(k == 10)=false:=by simp[k10]
 go_wp2
 go_ret
 exact ⟨Tells.no (by unfold opOk;omega),by first|exact Below.refl _ _|exact ((Below.refl _ _).alloc (Nat.le_refl _) _)⟩
open Go.RowKit
theorem openOk_b (i t m r:Int) (w:World) (hi:1<=i/\i<=1000000):
  Calls Tryz.prog 171 #[.agg #[.int .i64 1,.int .i64 i,.int .i64 t,.int .i64 m,.int .i64 r]] w fun e w'=>Tells e (opOk 1 i t m r)/\Below w.heap.size w w':=by
 go_enter Tryz.func171,Tryz.ntmps171
 by_cases qt:t=0
 ·have qtb:(t == 0)=true:=by simp[qt]
  by_cases q4:0<=m
  ·skip
   by_cases q3:m<=1000000000000
   ·skip
    by_cases q2:0<=r
    ·skip
     by_cases q1:r<=10000
     ·skip
      go_wp2
      go_ret
      exact ⟨Tells.yes (by unfold opOk;omega),by first|exact Below.refl _ _|exact ((Below.refl _ _).alloc (Nat.le_refl _) _)⟩
     ·have q1b:10000<r:=by omega
      go_wp2
      go_ret
      exact ⟨Tells.no (by unfold opOk;omega),by first|exact Below.refl _ _|exact ((Below.refl _ _).alloc (Nat.le_refl _) _)⟩
    ·have q2b:r<0:=by omega
     go_wp2
     go_ret
     exact ⟨Tells.no (by unfold opOk;omega),by first|exact Below.refl _ _|exact ((Below.refl _ _).alloc (Nat.le_refl _) _)⟩
   ·have q3b:1000000000000<m:=by omega
    go_wp2
    go_ret
    exact ⟨Tells.no (by unfold opOk;omega),by first|exact Below.refl _ _|exact ((Below.refl _ _).alloc (Nat.le_refl _) _)⟩
  ·have q4b:m<0:=by omega
   go_wp2
   go_ret
   exact ⟨Tells.no (by unfold opOk;omega),by first|exact Below.refl _ _|exact ((Below.refl _ _).alloc (Nat.le_refl _) _)⟩
 ·have qtb:(t == 0)=false:=by simp[qt]
  go_wp2_with fail
  refine (otherOk_b i t _).mono ?_
  rintro e w3 ⟨⟨b3,rfl,hb3⟩,hw3⟩
  subst hw3
  cases b3 with
  | false=>
   have Hb3:=hb3.2 rfl
   go_wp2
   go_ret
   exact ⟨Tells.no (by unfold opOk;omega),by first|exact Below.refl _ _|exact ((Below.refl _ _).alloc (Nat.le_refl _) _)⟩
  | true=>
   have Hb3:=hb3.1 rfl
   go_wp2_with fail
   refine (noneOk_b m _).mono ?_
   rintro e w2 ⟨⟨b2,rfl,hb2⟩,hw2⟩
   subst hw2
   cases b2 with
   | false=>
    have Hb2:=hb2.2 rfl
    go_wp2
    go_ret
    exact ⟨Tells.no (by unfold opOk;omega),by first|exact Below.refl _ _|exact ((Below.refl _ _).alloc (Nat.le_refl _) _)⟩
   | true=>
    have Hb2:=hb2.1 rfl
    by_cases q1:r=0
    ·have q1b:(r == 0)=true:=by simp[q1]
     go_wp2
     go_ret
     exact ⟨Tells.yes (by unfold opOk;omega),by first|exact Below.refl _ _|exact ((Below.refl _ _).alloc (Nat.le_refl _) _)⟩
    ·have q1b:(r == 0)=false:=by simp[q1]
     go_wp2
     go_ret
     exact ⟨Tells.no (by unfold opOk;omega),by first|exact Below.refl _ _|exact ((Below.refl _ _).alloc (Nat.le_refl _) _)⟩
theorem implOpOk_b (k i t m r:Int) (w:World):
  Calls Tryz.prog 156 #[.agg #[.int .i64 k,.int .i64 i,.int .i64 t,.int .i64 m,.int .i64 r]] w fun e w'=>Tells e (opOk k i t m r)/\Below w.heap.size w w':=by
 go_enter Tryz.func156,Tryz.ntmps156
 go_wp2_with fail
 refine (idOk_b i _).mono ?_
 rintro e wx ⟨⟨x,rfl,hx⟩,hwx⟩
 subst hwx
 cases x with
 | false=>
  have Hx:=hx.2 rfl
  go_wp2
  go_ret
  exact ⟨Tells.no (by unfold opOk;omega),by first|exact Below.refl _ _|exact ((Below.refl _ _).alloc (Nat.le_refl _) _)⟩
 | true=>
  have Hx:=hx.1 rfl
  by_cases k1:k=1
  ·subst k1
   go_wp2_with fail
   refine (openOk_b i t m r _ Hx).mono ?_
   rintro e w1 ⟨⟨b,rfl,hb⟩,B1⟩
   have hb:Tells (.returned (.bool b)) (opOk 1 i t m r):=⟨b,rfl,hb⟩
   have B1':Hid (Below w.heap.size w w1):=((Below.refl _ _).alloc (Nat.le_refl _) _).trans (B1.mono (by simp))
   clear B1
   go_wp2
   go_ret
   exact ⟨hb,B1'.out⟩
  have j1:(k == 1)=false:=by simp[k1]
  by_cases qr:r=0
  ·have qrb:(r != 0)=false:=by simp[qr]
   by_cases k2:k=2
   ·subst k2
    by_cases q2:t=0
    ·have q2b:(t == 0)=true:=by simp[q2]
     by_cases q1:m=0
     ·have q1b:(m == 0)=true:=by simp[q1]
      go_wp2
      go_ret
      exact ⟨Tells.yes (by unfold opOk;omega),by first|exact Below.refl _ _|exact ((Below.refl _ _).alloc (Nat.le_refl _) _)⟩
     ·have q1b:(m == 0)=false:=by simp[q1]
      go_wp2
      go_ret
      exact ⟨Tells.no (by unfold opOk;omega),by first|exact Below.refl _ _|exact ((Below.refl _ _).alloc (Nat.le_refl _) _)⟩
    ·have q2b:(t == 0)=false:=by simp[q2]
     go_wp2
     go_ret
     exact ⟨Tells.no (by unfold opOk;omega),by first|exact Below.refl _ _|exact ((Below.refl _ _).alloc (Nat.le_refl _) _)⟩
   by_cases k3:k=3
   ·subst k3
    by_cases q2:t=0
    ·have q2b:(t == 0)=true:=by simp[q2]
     by_cases q1:m=0
     ·have q1b:(m == 0)=true:=by simp[q1]
      go_wp2
      go_ret
      exact ⟨Tells.yes (by unfold opOk;omega),by first|exact Below.refl _ _|exact ((Below.refl _ _).alloc (Nat.le_refl _) _)⟩
     ·have q1b:(m == 0)=false:=by simp[q1]
      go_wp2
      go_ret
      exact ⟨Tells.no (by unfold opOk;omega),by first|exact Below.refl _ _|exact ((Below.refl _ _).alloc (Nat.le_refl _) _)⟩
    ·have q2b:(t == 0)=false:=by simp[q2]
     go_wp2
     go_ret
     exact ⟨Tells.no (by unfold opOk;omega),by first|exact Below.refl _ _|exact ((Below.refl _ _).alloc (Nat.le_refl _) _)⟩
   by_cases k4:k=4
   ·subst k4
    by_cases q2:t=0
    ·have q2b:(t == 0)=true:=by simp[q2]
     by_cases q1:m=0
     ·have q1b:(m == 0)=true:=by simp[q1]
      go_wp2
      go_ret
      exact ⟨Tells.yes (by unfold opOk;omega),by first|exact Below.refl _ _|exact ((Below.refl _ _).alloc (Nat.le_refl _) _)⟩
     ·have q1b:(m == 0)=false:=by simp[q1]
      go_wp2
      go_ret
      exact ⟨Tells.no (by unfold opOk;omega),by first|exact Below.refl _ _|exact ((Below.refl _ _).alloc (Nat.le_refl _) _)⟩
    ·have q2b:(t == 0)=false:=by simp[q2]
     go_wp2
     go_ret
     exact ⟨Tells.no (by unfold opOk;omega),by first|exact Below.refl _ _|exact ((Below.refl _ _).alloc (Nat.le_refl _) _)⟩
   by_cases k5:k=5
   ·subst k5
    by_cases q2:t=0
    ·have q2b:(t == 0)=true:=by simp[q2]
     go_wp2_with fail
     refine (someOk_b m _).mono ?_
     rintro e w1 ⟨⟨b1,rfl,hb1⟩,hw1⟩
     subst hw1
     cases b1 with
     | false=>
      have Hb1:=hb1.2 rfl
      go_wp2
      go_ret
      exact ⟨Tells.no (by unfold opOk;omega),by first|exact Below.refl _ _|exact ((Below.refl _ _).alloc (Nat.le_refl _) _)⟩
     | true=>
      have Hb1:=hb1.1 rfl
      go_wp2
      go_ret
      exact ⟨Tells.yes (by unfold opOk;omega),by first|exact Below.refl _ _|exact ((Below.refl _ _).alloc (Nat.le_refl _) _)⟩
    ·have q2b:(t == 0)=false:=by simp[q2]
     go_wp2
     go_ret
     exact ⟨Tells.no (by unfold opOk;omega),by first|exact Below.refl _ _|exact ((Below.refl _ _).alloc (Nat.le_refl _) _)⟩
   by_cases k6:k=6
   ·subst k6
    by_cases q2:t=0
    ·have q2b:(t == 0)=true:=by simp[q2]
     go_wp2_with fail
     refine (someOk_b m _).mono ?_
     rintro e w1 ⟨⟨b1,rfl,hb1⟩,hw1⟩
     subst hw1
     cases b1 with
     | false=>
      have Hb1:=hb1.2 rfl
      go_wp2
      go_ret
      exact ⟨Tells.no (by unfold opOk;omega),by first|exact Below.refl _ _|exact ((Below.refl _ _).alloc (Nat.le_refl _) _)⟩
     | true=>
      have Hb1:=hb1.1 rfl
      go_wp2
      go_ret
      exact ⟨Tells.yes (by unfold opOk;omega),by first|exact Below.refl _ _|exact ((Below.refl _ _).alloc (Nat.le_refl _) _)⟩
    ·have q2b:(t == 0)=false:=by simp[q2]
     go_wp2
     go_ret
     exact ⟨Tells.no (by unfold opOk;omega),by first|exact Below.refl _ _|exact ((Below.refl _ _).alloc (Nat.le_refl _) _)⟩
   by_cases k7:k=7
   ·subst k7
    go_wp2_with fail
    refine (otherOk_b i t _).mono ?_
    rintro e w2 ⟨⟨b2,rfl,hb2⟩,hw2⟩
    subst hw2
    cases b2 with
    | false=>
     have Hb2:=hb2.2 rfl
     go_wp2
     go_ret
     exact ⟨Tells.no (by unfold opOk;omega),by first|exact Below.refl _ _|exact ((Below.refl _ _).alloc (Nat.le_refl _) _)⟩
    | true=>
     have Hb2:=hb2.1 rfl
     go_wp2_with fail
     refine (someOk_b m _).mono ?_
     rintro e w1 ⟨⟨b1,rfl,hb1⟩,hw1⟩
     subst hw1
     cases b1 with
     | false=>
      have Hb1:=hb1.2 rfl
      go_wp2
      go_ret
      exact ⟨Tells.no (by unfold opOk;omega),by first|exact Below.refl _ _|exact ((Below.refl _ _).alloc (Nat.le_refl _) _)⟩
     | true=>
      have Hb1:=hb1.1 rfl
      go_wp2
      go_ret
      exact ⟨Tells.yes (by unfold opOk;omega),by first|exact Below.refl _ _|exact ((Below.refl _ _).alloc (Nat.le_refl _) _)⟩
   by_cases k8:k=8
   ·subst k8
    by_cases q2:t=0
    ·have q2b:(t == 0)=true:=by simp[q2]
     go_wp2_with fail
     refine (noneOk_b m _).mono ?_
     rintro e w1 ⟨⟨b1,rfl,hb1⟩,hw1⟩
     subst hw1
     cases b1 with
     | false=>
      have Hb1:=hb1.2 rfl
      go_wp2
      go_ret
      exact ⟨Tells.no (by unfold opOk;omega),by first|exact Below.refl _ _|exact ((Below.refl _ _).alloc (Nat.le_refl _) _)⟩
     | true=>
      have Hb1:=hb1.1 rfl
      go_wp2
      go_ret
      exact ⟨Tells.yes (by unfold opOk;omega),by first|exact Below.refl _ _|exact ((Below.refl _ _).alloc (Nat.le_refl _) _)⟩
    ·have q2b:(t == 0)=false:=by simp[q2]
     go_wp2
     go_ret
     exact ⟨Tells.no (by unfold opOk;omega),by first|exact Below.refl _ _|exact ((Below.refl _ _).alloc (Nat.le_refl _) _)⟩
   by_cases k10:k=10
   ·subst k10
    by_cases q2:t=0
    ·have q2b:(t == 0)=true:=by simp[q2]
     go_wp2_with fail
     refine (noneOk_b m _).mono ?_
     rintro e w1 ⟨⟨b1,rfl,hb1⟩,hw1⟩
     subst hw1
     cases b1 with
     | false=>
      have Hb1:=hb1.2 rfl
      go_wp2
      go_ret
      exact ⟨Tells.no (by unfold opOk;omega),by first|exact Below.refl _ _|exact ((Below.refl _ _).alloc (Nat.le_refl _) _)⟩
     | true=>
      have Hb1:=hb1.1 rfl
      go_wp2
      go_ret
      exact ⟨Tells.yes (by unfold opOk;omega),by first|exact Below.refl _ _|exact ((Below.refl _ _).alloc (Nat.le_refl _) _)⟩
    ·have q2b:(t == 0)=false:=by simp[q2]
     go_wp2
     go_ret
     exact ⟨Tells.no (by unfold opOk;omega),by first|exact Below.refl _ _|exact ((Below.refl _ _).alloc (Nat.le_refl _) _)⟩
   by_cases k9:k=9
   ·subst k9
    go_wp2_with fail
    refine (otherOk_b i t _).mono ?_
    rintro e w2 ⟨⟨b2,rfl,hb2⟩,hw2⟩
    subst hw2
    cases b2 with
    | false=>
     have Hb2:=hb2.2 rfl
     go_wp2
     go_ret
     exact ⟨Tells.no (by unfold opOk;omega),by first|exact Below.refl _ _|exact ((Below.refl _ _).alloc (Nat.le_refl _) _)⟩
    | true=>
     have Hb2:=hb2.1 rfl
     by_cases q1:m=0
     ·have q1b:(m == 0)=true:=by simp[q1]
      go_wp2
      go_ret
      exact ⟨Tells.yes (by unfold opOk;omega),by first|exact Below.refl _ _|exact ((Below.refl _ _).alloc (Nat.le_refl _) _)⟩
     ·have q1b:(m == 0)=false:=by simp[q1]
      go_wp2
      go_ret
      exact ⟨Tells.no (by unfold opOk;omega),by first|exact Below.refl _ _|exact ((Below.refl _ _).alloc (Nat.le_refl _) _)⟩
   have j2:(k == 2)=false:=by simp[k2]
   have j3:(k == 3)=false:=by simp[k3]
   have j4:(k == 4)=false:=by simp[k4]
   have j5:(k == 5)=false:=by simp[k5]
   have j6:(k == 6)=false:=by simp[k6]
   have j7:(k == 7)=false:=by simp[k7]
   have j8:(k == 8)=false:=by simp[k8]
   have j9:(k == 9)=false:=by simp[k9]
   have j10:(k == 10)=false:=by simp[k10]
   go_wp2
   go_ret
   exact ⟨Tells.no (by unfold opOk;omega),by first|exact Below.refl _ _|exact ((Below.refl _ _).alloc (Nat.le_refl _) _)⟩
  ·have qrb:(r != 0)=true:=by simp[qr]
   go_wp2
   go_ret
   exact ⟨Tells.no (by unfold opOk;omega),by first|exact Below.refl _ _|exact ((Below.refl _ _).alloc (Nat.le_refl _) _)⟩
open Go.ChangeShapes Go.WideShapes Go.ChangeAt Go.RowKit
def OpBox (w:World) (R:Nat) (k i t m r:Int):Prop:=w.cell? ⟨R,0,none⟩=some (.int .i64 k)/\w.cell? ⟨R,1,none⟩=some (.int .i64 i)/\w.cell? ⟨R,2,none⟩=some (.int .i64 t)/\w.cell? ⟨R,3,none⟩=some (.int .i64 m)/\w.cell? ⟨R,4,none⟩=some (.int .i64 r)/\R<w.heap.size
theorem OpBox.new (w:World) (k i t m r:Int) (T:Nat):OpBox (w.alloc (.cells #[.int .i64 k,.int .i64 i,.int .i64 t,.int .i64 m,.int .i64 r] T)) w.heap.size k i t m r:=by
 unfold OpBox
 simp[go_sem]
theorem OpBox.below {w w':World} {R:Nat} {k i t m r:Int} (h:OpBox w R k i t m r) (hb:Below w.heap.size w w'):OpBox w' R k i t m r:=by
 obtain ⟨h0,h1,h2,h3,h4,h5⟩:=h
 exact ⟨by rw[hb.cell (p:=⟨R,0,none⟩) h5];exact h0,by rw[hb.cell (p:=⟨R,1,none⟩) h5];exact h1,by rw[hb.cell (p:=⟨R,2,none⟩) h5];exact h2,by rw[hb.cell (p:=⟨R,3,none⟩) h5];exact h3,by rw[hb.cell (p:=⟨R,4,none⟩) h5];exact h4,Nat.lt_of_lt_of_le h5 hb.size⟩
end Go.Proofs.YtghkbhggopiajaaGreatDoor
