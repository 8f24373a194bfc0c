/- OrderOk. -/
import Derived.Test.YtghkbhggopiajaaGreatDoorOpssr
import Derived.RangeFuncFrom
import Derived.RangeFuncLeaves
import Derived.Shelf.Abstract
import Derived.OwnWalkIn
import Derived.TacticsInMore
import Derived.LoopNIn
import Derived.LoopIn
namespace Go.Proofs.YtghkbhggopiajaaGreatDoor
open Value renaming int → Ii,slice → Sl
open IntKind renaming i64 → Jj
open Nat renaming le_refl → Nf
open Go.RowKit.Below renaming refl → Bf
open Go.Proofs.Tryz renaming prog → Pg
set_option maxHeartbeats 4000000
set_option maxRecDepth 100000
open Go.ChangeShapes Go.WideShapes Go.ChangeAt Go.RowKit
structure au where
 id:Int
 src:Int
 dst:Int
 amount:Int
 first:Int
 every:Int
 times:Int
def aL (o:au):Prop:=(1<=o.id/\o.id<=1000000)/\(1<=o.src/\o.src<=1000000)/\(1<=o.dst/\o.dst<=1000000)/\o.src≠o.dst/\(1<=o.amount/\o.amount<=1000000000000)/\(0<=o.first/\o.first<=3000000)/\(1<=o.every/\o.every<=366)/\(1<=o.times/\o.times<=1000)
theorem ia (n:Int) (w:World) (h:0<=n/\n<=3000000):
  Calls Pg 75 #[Ii Jj n] w fun e w'=>e=.returned (.bool true)/\w'=w:=by
 obtain ⟨h1,h2⟩:=h
 go_enter Tryz.func75,Tryz.ntmps75
 go_wp2
 go_ret
 exact ⟨rfl,rfl⟩
theorem jq (n:Int) (w:World) (h:¬(0<=n/\n<=3000000)):
  Calls Pg 75 #[Ii Jj n] w fun e w'=>e=.returned (.bool false)/\w'=w:=by
 by_cases h1:0<=n
 ·have h2:¬n<=3000000:=by omega
  have h3:3000000<n:=by omega
  clear h
  go_enter Tryz.func75,Tryz.ntmps75
  go_wp2
  go_ret
  exact ⟨rfl,rfl⟩
 ·have h2:n<0:=by omega
  clear h
  go_enter Tryz.func75,Tryz.ntmps75
  go_wp2
  go_ret
  exact ⟨rfl,rfl⟩
theorem pF (n:Int) (w:World):
  Calls Pg 75 #[Ii Jj n] w fun e w'=>af e (0<=n/\n<=3000000)/\w'=w:=by
 by_cases h:0<=n/\n<=3000000
 ·exact (ia n w h).mono fun e w' ⟨he,hw⟩=>⟨⟨true,he,fun _=>h,fun e=>(by cases e)⟩,hw⟩
 ·exact (jq n w h).mono fun e w' ⟨he,hw⟩=>⟨⟨false,he,fun e=>(by cases e),fun _=>h⟩,hw⟩
theorem ly (o:au) (w:World):
  Calls Pg 135 #[.agg #[Ii Jj o.id,Ii Jj o.src,Ii Jj o.dst,Ii Jj o.amount,Ii Jj o.first,Ii Jj o.every,Ii Jj o.times]] w fun e w'=>af e (aL o)/\Below w.heap.size w w':=by
 go_enter Tryz.func135,Tryz.ntmps135
 go_wp2_with fail
 refine (cp o.id 1 1000000 _).mono ?_
 rintro e w8 ⟨⟨b8,rfl,hb8⟩,hw8⟩
 subst hw8
 cases b8 with
 | false=>
  have Hb8:=hb8.2 rfl
  clear hb8
  go_wp2
  go_ret
  exact ⟨af.no (by unfold aL;omega),by first|exact Bf _ _|exact ((Bf _ _).alloc (Nf _) _)⟩
 | true=>
  have Hb8:=hb8.1 rfl
  clear hb8
  go_wp2_with fail
  refine (cp o.src 1 1000000 _).mono ?_
  rintro e w7 ⟨⟨b7,rfl,hb7⟩,hw7⟩
  subst hw7
  cases b7 with
  | false=>
   have Hb7:=hb7.2 rfl
   clear hb7
   go_wp2
   go_ret
   exact ⟨af.no (by unfold aL;omega),by first|exact Bf _ _|exact ((Bf _ _).alloc (Nf _) _)⟩
  | true=>
   have Hb7:=hb7.1 rfl
   clear hb7
   go_wp2_with fail
   refine (cp o.dst 1 1000000 _).mono ?_
   rintro e w6 ⟨⟨b6,rfl,hb6⟩,hw6⟩
   subst hw6
   cases b6 with
   | false=>
    have Hb6:=hb6.2 rfl
    clear hb6
    go_wp2
    go_ret
    exact ⟨af.no (by unfold aL;omega),by first|exact Bf _ _|exact ((Bf _ _).alloc (Nf _) _)⟩
   | true=>
    have Hb6:=hb6.1 rfl
    clear hb6
    by_cases q5:o.src=o.dst
    ·have q5b:(o.src != o.dst)=false:=by simp[q5]
     go_wp2
     go_ret
     exact ⟨af.no (by unfold aL;omega),by first|exact Bf _ _|exact ((Bf _ _).alloc (Nf _) _)⟩
    have q5b:(o.src != o.dst)=true:=by simp[q5]
    go_wp2_with fail
    refine (cp o.amount 1 1000000000000 _).mono ?_
    rintro e w4 ⟨⟨b4,rfl,hb4⟩,hw4⟩
    subst hw4
    cases b4 with
    | false=>
     have Hb4:=hb4.2 rfl
     clear hb4
     go_wp2
     go_ret
     exact ⟨af.no (by unfold aL;omega),by first|exact Bf _ _|exact ((Bf _ _).alloc (Nf _) _)⟩
    | true=>
     have Hb4:=hb4.1 rfl
     clear hb4
     go_wp2_with fail
     refine (cp o.first 0 3000000 _).mono ?_
     rintro e w3 ⟨⟨b3,rfl,hb3⟩,hw3⟩
     subst hw3
     cases b3 with
     | false=>
      have Hb3:=hb3.2 rfl
      clear hb3
      go_wp2
      go_ret
      exact ⟨af.no (by unfold aL;omega),by first|exact Bf _ _|exact ((Bf _ _).alloc (Nf _) _)⟩
     | true=>
      have Hb3:=hb3.1 rfl
      clear hb3
      go_wp2_with fail
      refine (cp o.every 1 366 _).mono ?_
      rintro e w2 ⟨⟨b2,rfl,hb2⟩,hw2⟩
      subst hw2
      cases b2 with
      | false=>
       have Hb2:=hb2.2 rfl
       clear hb2
       go_wp2
       go_ret
       exact ⟨af.no (by unfold aL;omega),by first|exact Bf _ _|exact ((Bf _ _).alloc (Nf _) _)⟩
      | true=>
       have Hb2:=hb2.1 rfl
       clear hb2
       go_wp2_with fail
       refine (cp o.times 1 1000 _).mono ?_
       rintro e w1 ⟨⟨b1,rfl,hb1⟩,hw1⟩
       subst hw1
       cases b1 with
       | false=>
        have Hb1:=hb1.2 rfl
        clear hb1
        go_wp2
        go_ret
        exact ⟨af.no (by unfold aL;omega),by first|exact Bf _ _|exact ((Bf _ _).alloc (Nf _) _)⟩
       | true=>
        have Hb1:=hb1.1 rfl
        clear hb1
        go_wp2
        go_ret
        exact ⟨af.yes (by unfold aL;omega),by first|exact Bf _ _|exact ((Bf _ _).alloc (Nf _) _)⟩
theorem lz (o:au) (w:World):
  Calls Pg 74 #[.agg #[Ii Jj o.id,Ii Jj o.src,Ii Jj o.dst,Ii Jj o.amount,Ii Jj o.first,Ii Jj o.every,Ii Jj o.times]] w fun e w'=>af e (aL o)/\Below w.heap.size w w':=by
 go_enter Tryz.func74,Tryz.ntmps74
 go_wp2_with fail
 refine (lh o.id _).mono ?_
 rintro e w9 ⟨⟨b9,rfl,hb9⟩,hw9⟩
 subst hw9
 cases b9 with
 | false=>
  have Hb9:=hb9.2 rfl
  clear hb9
  go_wp2
  go_ret
  exact ⟨af.no (by unfold aL;omega),by first|exact Bf _ _|exact ((Bf _ _).alloc (Nf _) _)⟩
 | true=>
  have Hb9:=hb9.1 rfl
  clear hb9
  go_wp2_with fail
  refine (lh o.src _).mono ?_
  rintro e w8 ⟨⟨b8,rfl,hb8⟩,hw8⟩
  subst hw8
  cases b8 with
  | false=>
   have Hb8:=hb8.2 rfl
   clear hb8
   go_wp2
   go_ret
   exact ⟨af.no (by unfold aL;omega),by first|exact Bf _ _|exact ((Bf _ _).alloc (Nf _) _)⟩
  | true=>
   have Hb8:=hb8.1 rfl
   clear hb8
   go_wp2_with fail
   refine (fR o.src o.dst _).mono ?_
   rintro e w7 ⟨⟨b7,rfl,hb7⟩,hw7⟩
   subst hw7
   cases b7 with
   | false=>
    have Hb7:=hb7.2 rfl
    clear hb7
    go_wp2
    go_ret
    exact ⟨af.no (by unfold aL;omega),by first|exact Bf _ _|exact ((Bf _ _).alloc (Nf _) _)⟩
   | true=>
    have Hb7:=hb7.1 rfl
    clear hb7
    go_wp2_with fail
    refine (gK o.amount _).mono ?_
    rintro e w6 ⟨⟨b6,rfl,hb6⟩,hw6⟩
    subst hw6
    cases b6 with
    | false=>
     have Hb6:=hb6.2 rfl
     clear hb6
     go_wp2
     go_ret
     exact ⟨af.no (by unfold aL;omega),by first|exact Bf _ _|exact ((Bf _ _).alloc (Nf _) _)⟩
    | true=>
     have Hb6:=hb6.1 rfl
     clear hb6
     go_wp2_with fail
     refine (pF o.first _).mono ?_
     rintro e w5 ⟨⟨b5,rfl,hb5⟩,hw5⟩
     subst hw5
     cases b5 with
     | false=>
      have Hb5:=hb5.2 rfl
      clear hb5
      go_wp2
      go_ret
      exact ⟨af.no (by unfold aL;omega),by first|exact Bf _ _|exact ((Bf _ _).alloc (Nf _) _)⟩
     | true=>
      have Hb5:=hb5.1 rfl
      clear hb5
      by_cases q4:1<=o.every
      rotate_left
      ·have q4b:o.every<1:=by omega
       have q4d:decide (1<=o.every)=false:=decide_eq_false q4
       go_wp2
       go_ret
       exact ⟨af.no (by unfold aL;omega),by first|exact Bf _ _|exact ((Bf _ _).alloc (Nf _) _)⟩
      by_cases q3:o.every<=366
      rotate_left
      ·have q3b:366<o.every:=by omega
       have q3d:decide (o.every<=366)=false:=decide_eq_false q3
       go_wp2
       go_ret
       exact ⟨af.no (by unfold aL;omega),by first|exact Bf _ _|exact ((Bf _ _).alloc (Nf _) _)⟩
      by_cases q2:1<=o.times
      rotate_left
      ·have q2b:o.times<1:=by omega
       have q2d:decide (1<=o.times)=false:=decide_eq_false q2
       go_wp2
       go_ret
       exact ⟨af.no (by unfold aL;omega),by first|exact Bf _ _|exact ((Bf _ _).alloc (Nf _) _)⟩
      by_cases q1:o.times<=1000
      rotate_left
      ·have q1b:1000<o.times:=by omega
       have q1d:decide (o.times<=1000)=false:=decide_eq_false q1
       go_wp2
       go_ret
       exact ⟨af.no (by unfold aL;omega),by first|exact Bf _ _|exact ((Bf _ _).alloc (Nf _) _)⟩
      go_wp2
      go_ret
      exact ⟨af.yes (by unfold aL;omega),by first|exact Bf _ _|exact ((Bf _ _).alloc (Nf _) _)⟩
theorem vO (o:au) (w:World):
  Calls Pg 99 #[.agg #[Ii Jj o.id,Ii Jj o.src,Ii Jj o.dst,Ii Jj o.amount,Ii Jj o.first,Ii Jj o.every,Ii Jj o.times]] w fun e w'=>e=.returned (.agg #[Ii Jj o.id,Ii Jj o.src,Ii Jj o.dst,Ii Jj o.amount,Ii Jj o.first,Ii Jj o.every,Ii Jj o.times])/\Below w.heap.size w w':=by
 go_enter Tryz.func99,Tryz.ntmps99
 go_wp2
 refine bodyPost_ret (v:=.agg #[Ii Jj o.id,Ii Jj o.src,Ii Jj o.dst,Ii Jj o.amount,Ii Jj o.first,Ii Jj o.every,Ii Jj o.times]) (by simp[results,Tryz.results99,go_sem]) rfl ⟨rfl,?_⟩
 exact (((Bf _ _).alloc (Nf _) _).alloc (by simp) _).alloc (by simp;omega) _
def bz (w:World) (R:Nat) (o:au):Prop:=w.cell? ⟨R,0,none⟩=some (Ii Jj o.id)/\w.cell? ⟨R,1,none⟩=some (Ii Jj o.src)/\w.cell? ⟨R,2,none⟩=some (Ii Jj o.dst)/\w.cell? ⟨R,3,none⟩=some (Ii Jj o.amount)/\w.cell? ⟨R,4,none⟩=some (Ii Jj o.first)/\w.cell? ⟨R,5,none⟩=some (Ii Jj o.every)/\w.cell? ⟨R,6,none⟩=some (Ii Jj o.times)/\R<w.heap.size
theorem bz.new (w:World) (o:au) (T:Nat):bz (w.alloc (.cells #[Ii Jj o.id,Ii Jj o.src,Ii Jj o.dst,Ii Jj o.amount,Ii Jj o.first,Ii Jj o.every,Ii Jj o.times] T)) w.heap.size o:=by
 unfold bz
 simp[go_sem]
theorem bz.below {w w':World} {R:Nat} {o:au} (h:bz w R o) (hb:Below w.heap.size w w'):bz w' R o:=by
 obtain ⟨h0,h1,h2,h3,h4,h5,h6,h7⟩:=h
 exact ⟨by rw[hb.cell (p:=⟨R,0,none⟩) h7];exact h0,by rw[hb.cell (p:=⟨R,1,none⟩) h7];exact h1,by rw[hb.cell (p:=⟨R,2,none⟩) h7];exact h2,by rw[hb.cell (p:=⟨R,3,none⟩) h7];exact h3,by rw[hb.cell (p:=⟨R,4,none⟩) h7];exact h4,by rw[hb.cell (p:=⟨R,5,none⟩) h7];exact h5,by rw[hb.cell (p:=⟨R,6,none⟩) h7];exact h6,Nat.lt_of_lt_of_le h7 hb.size⟩
def iI (o:au) (k:Nat):List Int:=(List.range k).map fun i:Nat=>o.first+(i:Int)*o.every
theorem ib (o:au) (k:Nat):iI o (k+1)=iI o k++[o.first+(k:Int)*o.every]:=by simp[iI,List.range_succ]
theorem rt (o:au) (k:Nat):(iI o k).length=k:=by simp[iI]
theorem mM {o:au} {k i:Nat} (h:i<k):o.first+(i:Int)*o.every ∈ iI o k:=List.mem_map.2 ⟨i,List.mem_range.2 h,rfl⟩
def ge (o:au) (d:Int):Int:=if o.first<d then (d-o.first+o.every-1) / o.every else 0
noncomputable def aU (o:au) (d:Int):Int:=open Classical in
 if aL o/\0<=d/\d<=3000000 then (if o.times<=ge o d\/3000000<o.first+ge o d*o.every then -1 else o.first+ge o d*o.every) else -1
theorem iW (o:au) (d:Int) (he:1<=o.every):0<=ge o d:=by
 unfold ge
 split
 ·exact Int.ediv_nonneg (by omega) (by omega)
 ·omega
theorem oK (o:au) (d:Int) (he:1<=o.every):d<=o.first+ge o d*o.every:=by
 unfold ge
 split
 ·have h1:=Int.emod_add_mul_ediv (d-o.first+o.every-1) o.every
  have h2:=Int.emod_lt_of_pos (d-o.first+o.every-1) (show 0<o.every by omega)
  rw[Int.mul_comm o.every] at h1
  omega
 ·omega
theorem ic (o:au) (d:Int) (he:1<=o.every) (i:Int) (hi:0<=i) (h:d<=o.first+i*o.every):ge o d<=i:=by
 unfold ge
 split
 ·have e:(d-o.first+o.every-1)<(i+1)*o.every:=by rw[Int.add_mul];omega
  have:=Int.ediv_lt_of_lt_mul (show 0<o.every by omega) e
  omega
 ·omega
theorem t8 (o:au) (d:Int) (hd:d<=3000000) (hf:0<=o.first) (he:1<=o.every):ge o d<=3000000:=by
 refine ic o d he 3000000 (by omega) ?_
 have:(3000000:Int)*1<=3000000*o.every:=Int.mul_le_mul_of_nonneg_left he (by omega)
 omega
theorem pG (k e:Int) (hk:0<=k) (hk2:k<=3000000) (he:1<=e) (he2:e<=366):0<=k*e/\k*e<=1098000000:=by
 have a:k*e<=k*366:=Int.mul_le_mul_of_nonneg_left he2 hk
 have b:0<=k*e:=Int.mul_nonneg hk (by omega)
 omega
theorem eK {o:au} {d:Int} (ho:aL o) (h1:0<=d) (h2:d<=3000000) (hk:ge o d<o.times) (hm:o.first+ge o d*o.every<=3000000):aU o d=o.first+ge o d*o.every:=by
 unfold aU
 rw[if_pos ⟨ho,h1,h2⟩,if_neg (by omega)]
theorem fD {o:au} {d:Int} (ho:aL o) (h1:0<=d) (h2:d<=3000000) (hk:o.times<=ge o d\/3000000<o.first+ge o d*o.every):aU o d= -1:=by
 unfold aU
 rw[if_pos ⟨ho,h1,h2⟩,if_pos hk]
theorem fh {o:au} {d:Int} (h:¬(aL o/\0<=d/\d<=3000000)):aU o d= -1:=by
 unfold aU
 rw[if_neg h]
theorem mN {o:au} {d:Int} (ho:aL o) (h1:0<=d) (h2:d<=3000000) {k:Nat} (hk:(k:Int)<o.times) (hm:o.first+(k:Int)*o.every<=3000000) (hd:d<=o.first+(k:Int)*o.every) (hlow:∀y ∈ iI o k,y<d):aU o d=o.first+(k:Int)*o.every:=by
 have he:=ho.2.2.2.2.2.2.1.1
 have a:=ic o d he k (by omega) hd
 have b:=iW o d he
 have c:=oK o d he
 have e:ge o d=k:=by
  by_cases e:ge o d=k
  ·exact e
  ·obtain ⟨m,hm⟩:=Int.eq_ofNat_of_zero_le b
   have:=hlow _ (mM (o:=o) (show m<k by omega))
   rw[hm] at c
   omega
 rw[eK ho h1 h2 (by omega) (by rw[e];exact hm),e]
theorem lA {o:au} {d:Int} (ho:aL o) (h1:0<=d) (h2:d<=3000000) {k:Nat} (hk:(k:Int)=o.times\/3000000<o.first+(k:Int)*o.every) (hlow:∀y ∈ iI o k,y<d):aU o d= -1:=by
 have he:=ho.2.2.2.2.2.2.1.1
 have b:=iW o d he
 have c:=oK o d he
 have g:(k:Int)<=ge o d:=by
  obtain ⟨m,hm⟩:=Int.eq_ofNat_of_zero_le b
  rw[hm] at c ⊢
  by_cases e:m<k
  ·have:=hlow _ (mM (o:=o) e)
   omega
  ·omega
 refine fD ho h1 h2 ?_
 rcases hk with hk|hk
 ·left;omega
 ·right
  have:=Int.mul_le_mul_of_nonneg_right g (show 0<=o.every by omega)
  omega
open Go.RowKit
theorem ru {a b:Int} (h:a=b):Ending.returned (Ii Jj a)=.returned (Ii Jj b):=by rw[h]
theorem cY (o:au) (w:World) (h:aL o):
  Calls Pg 135 #[.agg #[Ii Jj o.id,Ii Jj o.src,Ii Jj o.dst,Ii Jj o.amount,Ii Jj o.first,Ii Jj o.every,Ii Jj o.times]] w fun e w'=>e=.returned (.bool true)/\Below w.heap.size w w':=
 (ly o w).mono fun e w' ⟨⟨b,he,_,h2⟩,hB⟩=>⟨by cases b with|true=>exact he|false=>exact absurd h (h2 rfl),hB⟩
theorem gy (o:au) (w:World) (h:¬aL o):
  Calls Pg 135 #[.agg #[Ii Jj o.id,Ii Jj o.src,Ii Jj o.dst,Ii Jj o.amount,Ii Jj o.first,Ii Jj o.every,Ii Jj o.times]] w fun e w'=>e=.returned (.bool false)/\Below w.heap.size w w':=
 (ly o w).mono fun e w' ⟨⟨b,he,h1,_⟩,hB⟩=>⟨by cases b with|false=>exact he|true=>exact absurd (h1 rfl) h,hB⟩
theorem dV (o:au) (w:World) (h:aL o):
  Calls Pg 74 #[.agg #[Ii Jj o.id,Ii Jj o.src,Ii Jj o.dst,Ii Jj o.amount,Ii Jj o.first,Ii Jj o.every,Ii Jj o.times]] w fun e w'=>e=.returned (.bool true)/\Below w.heap.size w w':=
 (lz o w).mono fun e w' ⟨⟨b,he,_,h2⟩,hB⟩=>⟨by cases b with|true=>exact he|false=>exact absurd h (h2 rfl),hB⟩
theorem jr (o:au) (w:World) (h:¬aL o):
  Calls Pg 74 #[.agg #[Ii Jj o.id,Ii Jj o.src,Ii Jj o.dst,Ii Jj o.amount,Ii Jj o.first,Ii Jj o.every,Ii Jj o.times]] w fun e w'=>e=.returned (.bool false)/\Below w.heap.size w w':=
 (lz o w).mono fun e w' ⟨⟨b,he,h1,_⟩,hB⟩=>⟨by cases b with|false=>exact he|true=>exact absurd (h1 rfl) h,hB⟩
theorem rv (o:au) (d:Int) (w:World):
  Calls Pg 122 #[.agg #[Ii Jj o.id,Ii Jj o.src,Ii Jj o.dst,Ii Jj o.amount,Ii Jj o.first,Ii Jj o.every,Ii Jj o.times],Ii Jj d] w fun e w'=>e=.returned (Ii Jj (aU o d))/\Below w.heap.size w w':=by
 have X0:Hid (bz (w.alloc (.cells #[Ii Jj o.id,Ii Jj o.src,Ii Jj o.dst,Ii Jj o.amount,Ii Jj o.first,Ii Jj o.every,Ii Jj o.times] 45)) w.heap.size o):=bz.new w o 45
 by_cases ho:aL o
 rotate_left
 ·have E:Hid (aU o d= -1):=fh (fun h=>ho h.1)
  have HO:=aa ho
  clear ho
  go_enter Tryz.func122,Tryz.ntmps122
  go_wp2_with fail
  refine (gy o _ HO.out).mono ?_
  rintro e w1 ⟨rfl,B1⟩
  have B1':Hid (Below w.heap.size w w1):=((Bf _ _).alloc (Nf _) _).trans (B1.mono (by simp))
  clear B1 X0
  go_wp2
  go_ret
  rw[E.out]
  exact ⟨rfl,B1'.out⟩
 have HO:=aa ho
 obtain ⟨_,_,_,_,_,⟨f1,f2⟩,⟨e1,e2⟩,t1,t2⟩:=ho
 by_cases hd:0<=d/\d<=3000000
 rotate_left
 ·have E:Hid (aU o d= -1):=fh (fun h=>hd h.2)
  have HD:=aa hd
  clear hd f1 f2 e1 e2 t1 t2
  go_enter Tryz.func122,Tryz.ntmps122
  go_wp2_with fail
  refine (cY o _ HO.out).mono ?_
  rintro e w1 ⟨rfl,B1⟩
  have B1':Hid (Below w.heap.size w w1):=((Bf _ _).alloc (Nf _) _).trans (B1.mono (by simp))
  clear B1 X0
  go_wp2_with fail
  refine (co d 0 3000000 _ HD.out).mono ?_
  rintro e w2 ⟨rfl,hw⟩
  subst hw
  go_wp2
  go_ret
  rw[E.out]
  exact ⟨rfl,B1'.out⟩
 obtain ⟨d1,d2⟩:=hd
 have k1:=iW o d e1
 have k2:=t8 o d d2 f1 e1
 obtain ⟨m1,m2⟩:=pG (ge o d) o.every k1 k2 e1 e2
 have KY:Hid (o.times<=ge o d\/3000000<o.first+ge o d*o.every->aU o d= -1):=fD HO.out d1 d2
 have KN:Hid (ge o d<o.times->o.first+ge o d*o.every<=3000000->aU o d=o.first+ge o d*o.every):=eK HO.out d1 d2
 have KK:Hid (ge o d=if o.first<d then (d-o.first+o.every-1) / o.every else 0):=rfl
 obtain ⟨kk,hkk⟩:∃kk,kk=ge o d:=⟨_,rfl⟩
 rw[←hkk] at k1 k2 m1 m2 KY KN KK
 clear hkk
 go_enter Tryz.func122,Tryz.ntmps122
 go_wp2_with fail
 refine (cY o _ HO.out).mono ?_
 rintro e w1 ⟨rfl,B1⟩
 have X1:=aa (X0.out.below B1)
 have B1':Hid (Below w.heap.size w w1):=((Bf _ _).alloc (Nf _) _).trans (B1.mono (by simp))
 clear B1 X0
 obtain ⟨c0,c1,c2,c3,c4,c5,c6,_⟩:=X1.out
 go_wp2_with fail
 refine (bF d 0 3000000 _ ⟨d1,d2⟩).mono ?_
 rintro e w2 ⟨rfl,hw⟩
 subst hw
 by_cases hf:o.first<d
 ·have ek:Hid (kk=(d-o.first+o.every-1) / o.every):=by have:=KK.out;rw[if_pos hf] at this;exact this
  have ez:¬o.every=0:=by omega
  have eq:(d-o.first+o.every-1).tdiv o.every=kk:=by rw[ek.out,Int.tdiv_eq_ediv_of_nonneg (by omega)]
  clear KK
  by_cases hk:o.times<=kk
  ·go_wp2
   go_ret
   rw[KY.out (.inl hk)]
   exact ⟨rfl,B1'.out⟩
  ·by_cases hm:3000000<o.first+kk*o.every
   ·go_wp2
    go_ret
    rw[KY.out (.inr hm)]
    exact ⟨rfl,B1'.out⟩
   ·go_wp2
    go_ret
    rw[KN.out (by omega) (by omega)]
    exact ⟨rfl,B1'.out⟩
 ·have ek:kk=0:=by have:=KK.out;rw[if_neg hf] at this;exact this
  subst ek
  clear KK
  have et:¬o.times<=0:=by omega
  have em:¬3000000<o.first:=by omega
  go_wp2
  go_ret
  rw[KN.out (by omega) (by omega)]
  exact ⟨ru (by omega),B1'.out⟩
open Go.RowKit Go.Shelf
attribute [local go_sem] Oper.semAt_some
theorem bz.kept {n₀:Nat} {w w':World} {R:Nat} {o:au} (h:bz w R o) (hb:Below n₀ w w') (hR:R<n₀):bz w' R o:=by
 obtain ⟨h0,h1,h2,h3,h4,h5,h6,h7⟩:=h
 exact ⟨by rw[hb.cell (p:=⟨R,0,none⟩) hR];exact h0,by rw[hb.cell (p:=⟨R,1,none⟩) hR];exact h1,by rw[hb.cell (p:=⟨R,2,none⟩) hR];exact h2,by rw[hb.cell (p:=⟨R,3,none⟩) hR];exact h3,by rw[hb.cell (p:=⟨R,4,none⟩) hR];exact h4,by rw[hb.cell (p:=⟨R,5,none⟩) hR];exact h5,by rw[hb.cell (p:=⟨R,6,none⟩) hR];exact h6,Nat.lt_of_lt_of_le h7 hb.size⟩
def pH (o:au) (ys:List Int):Prop:=∃k:Nat,(k:Int)<=o.times/\ys=iI o k/\((k:Int)=o.times\/3000000<o.first+(k:Int)*o.every)
def mO (o:au) (ys:List Int):Prop:=∃k:Nat,(k:Int)<o.times/\ys=iI o (k+1)/\o.first+(k:Int)*o.every<=3000000
theorem rx (F:Fence) (n:Nat) (hf:F.fn 125) (hro:F.round=none) (hn:1<=n) (l Bo n₀:Nat) (o:au) (ho:aL o) (J Jx:List Int->World->Prop)
  (hY:∀pre x W,J pre W->pre.length<1000->YieldAt F (n-1) Pg l #[Ii Jj x] W fun e W'=>
   (e=.returned (.bool true)/\J (pre++[x]) W'/\Below n₀ W W')\/(e=.returned (.bool false)/\Jx (pre++[x]) W'))
  (W:World) (hBo:Bo<n₀) (hL:bz W Bo o) (h0:J [] W):
  CallsIn F n Pg 125 #[.func (.yield l) #[] #[],.pointer (some ⟨Bo,0,none⟩)] W fun e W'=>(∃v,e=.returned v)/\
   ((∃ys,pH o ys/\J ys W')\/(∃pre,mO o pre/\Jx pre W')):=by
 obtain ⟨_,_,_,_,_,⟨f1,f2⟩,⟨e1,e2⟩,t1,t2⟩:=ho
 have HL:=aa hL
 obtain ⟨c0,c1,c2,c3,c4,c5,c6,_⟩:=hL
 refine callsIn_of_wp Tryz.func125 rfl hf ?_ hro
 simp only[Tryz.ntmps125,List.size_toArray,List.length_cons,List.length_nil,Nat.reduceAdd,Nat.reduceSub,Array.replicate_succ,Array.replicate_zero,List.push_toArray,List.append_toArray,List.nil_append,List.cons_append]
 gi_wp2
 clear c0 c1 c2 c3 c4 c5 c6
 gi_loopw [7] (fun i wr=>∃k:Nat,i=Ii Jj k/\(k:Int)<=o.times/\Hid (bz wr Bo o)/\J (iI o k) wr) (fun i _=>o.times.toNat-(intOf i).toNat)
 case atStart=>exact ⟨0,rfl,by omega,HL,h0⟩
 case round=>
  obtain ⟨k,rfl,hk,hB,hJs⟩:=hrel
  by_cases hlt:(k:Int)<o.times
  ·obtain ⟨m1,m2⟩:=pG (k:Int) o.every (by omega) (by omega) e1 e2
   obtain ⟨c0,c1,c2,c3,c4,c5,c6,_⟩:=hB.out
   by_cases hgt:3000000<o.first+(k:Int)*o.every
   ·gi_wp2
    refine ⟨fun _ h=>(by cases h),?_⟩
    gi_wp2
    refine bodyPost_ret (results_none rfl _ _ _) rfl ?_
    exact ⟨⟨_,rfl⟩,.inl ⟨_,⟨k,hk,rfl,.inr hgt⟩,hJs⟩⟩
   ·obtain ⟨fn,tmps,assign,body,hy,hR⟩:=hY (iI o k) (o.first+(k:Int)*o.every) wr hJs (by rw[rt];omega)
    gi_wp2
    refine hR.mono ?_
    rintro e W3 (⟨rfl,hJ3,hk3⟩|⟨rfl,hJx3⟩)
    ·have hB3:Hid (bz W3 Bo o):=hB.out.kept hk3 hBo
     rw[←ib] at hJ3
     gi_wp2
     go_roundw
     case rel=>exact ⟨k+1,by go_num,by omega,hB3,hJ3⟩
     case measure=>simp[intOf];omega
    ·rw[←ib] at hJx3
     gi_wp2
     refine bodyPost_ret (results_none rfl _ _ _) rfl ?_
     exact ⟨⟨_,rfl⟩,.inr ⟨_,⟨k,hlt,rfl,by omega⟩,hJx3⟩⟩
  ·gi_wp2
   go_end0
   exact ⟨⟨_,rfl⟩,.inl ⟨_,⟨k,hk,rfl,.inl (by omega)⟩,hJs⟩⟩
theorem oL (F:Fence) (n:Nat) (hf:F.fn 125) (hro:F.round=none) (hn:1<=n) (Bo n₀:Nat) (o:au) (ho:aL o) (w:World) (hBo:Bo<n₀) (hn₀:n₀<=w.heap.size) (hL:bz w Bo o):
  SeqStopsK F n Pg 125 #[.pointer (some ⟨Bo,0,none⟩)] (fun x:Int=>#[Value.int .i64 x]) (Below n₀) (pH o) (mO o) 1000 w:=fun l J Jx W hW _ _ hY h0=>
 rx F n hf hro hn l Bo n₀ o ho J Jx hY W hBo (hL.kept (hW.mono hn₀) hBo) h0
theorem sq (o:au) (w:World):
  Calls Pg 76 #[.agg #[Ii Jj o.id,Ii Jj o.src,Ii Jj o.dst,Ii Jj o.amount,Ii Jj o.first,Ii Jj o.every,Ii Jj o.times]] w fun e w'=>e=.returned (.func (.func 125) #[] #[.pointer (some ⟨w.heap.size,0,none⟩)])/\w'=w.alloc (.cells #[Ii Jj o.id,Ii Jj o.src,Ii Jj o.dst,Ii Jj o.amount,Ii Jj o.first,Ii Jj o.every,Ii Jj o.times] 45):=by
 go_enter Tryz.func76,Tryz.ntmps76
 go_wp2
 go_ret
 exact ⟨rfl,rfl⟩
theorem mP {W:World} {B:Nat} {v:Value} {t:TypeId} (h:W.heap[B]? =some (.cells #[v] t (0,0))):W.cell? ⟨B,0,none⟩=some v/\W.frozen? ⟨B,0,none⟩=false:=by
 constructor <;>simp[World.cell?,World.frozen?,h]
theorem mQ (W:World) (v:Value) (t:TypeId):(W.alloc (.cells #[v] t)).cell? ⟨W.heap.size,0,none⟩=some v/\(W.alloc (.cells #[v] t)).frozen? ⟨W.heap.size,0,none⟩=false:=
 mP (World.alloc_heap_new W _)
theorem iA {W:World} {a:Addr} {v:Value} (o:Obj) (h:W.cell? a=some v):(W.alloc o).cell? a=some v:=cell_kept h (World.grownBy_alloc W o none) (fun r e=>by cases e)
theorem ki {W:World} {a:Addr} {v:Value} (o:Obj) (h:W.cell? a=some v) (hf:W.frozen? a=false):(W.alloc o).frozen? a=false:=(frozen_kept h (World.grownBy_alloc W o none) (fun r e=>by cases e)).trans hf
def cD (w:World) (R:Nat) (v:Value):Prop:=w.cell? ⟨R,0,none⟩=some v/\w.frozen? ⟨R,0,none⟩=false/\R<w.heap.size
theorem cD.new (w:World) (v:Value) (t:TypeId):cD (w.alloc (.cells #[v] t)) w.heap.size v:=⟨(mQ w v t).1,(mQ w v t).2,by simp⟩
theorem cD.kept {n₀:Nat} {w w':World} {R:Nat} {v:Value} (h:cD w R v) (hb:Below n₀ w w') (hR:R<n₀):cD w' R v:=
 ⟨by rw[hb.cell (p:=⟨R,0,none⟩) hR];exact h.1,by rw[hb.frozen (p:=⟨R,0,none⟩) hR];exact h.2.1,Nat.lt_of_lt_of_le h.2.2 hb.size⟩
open Go.RowKit Go.Shelf
attribute [local go_sem] Oper.semAt_some
theorem mS (o:au) (d:Int) (w:World) (h:¬(aL o/\0<=d/\d<=3000000)):
  Calls Pg 25 #[.agg #[Ii Jj o.id,Ii Jj o.src,Ii Jj o.dst,Ii Jj o.amount,Ii Jj o.first,Ii Jj o.every,Ii Jj o.times],Ii Jj d] w fun e w'=>e=.returned (Ii Jj (aU o d))/\Below w.heap.size w w':=by
 have E:Hid (aU o d= -1):=fh h
 have X0:Hid (bz (((w.alloc (.cells #[Ii Jj o.id,Ii Jj o.src,Ii Jj o.dst,Ii Jj o.amount,Ii Jj o.first,Ii Jj o.every,Ii Jj o.times] 45)).alloc (.cells #[Ii Jj d] 2)).alloc (.cells #[Ii Jj 0] 2)) w.heap.size o/\cD (((w.alloc (.cells #[Ii Jj o.id,Ii Jj o.src,Ii Jj o.dst,Ii Jj o.amount,Ii Jj o.first,Ii Jj o.every,Ii Jj o.times] 45)).alloc (.cells #[Ii Jj d] 2)).alloc (.cells #[Ii Jj 0] 2)) (w.heap.size+1) (Ii Jj d)/\cD (((w.alloc (.cells #[Ii Jj o.id,Ii Jj o.src,Ii Jj o.dst,Ii Jj o.amount,Ii Jj o.first,Ii Jj o.every,Ii Jj o.times] 45)).alloc (.cells #[Ii Jj d] 2)).alloc (.cells #[Ii Jj 0] 2)) (w.heap.size+1+1) (Ii Jj 0)/\Below w.heap.size w (((w.alloc (.cells #[Ii Jj o.id,Ii Jj o.src,Ii Jj o.dst,Ii Jj o.amount,Ii Jj o.first,Ii Jj o.every,Ii Jj o.times] 45)).alloc (.cells #[Ii Jj d] 2)).alloc (.cells #[Ii Jj 0] 2))):=by
  refine ⟨((bz.new w o 45).below ((Bf _ _).alloc (Nf _) _)).below ((Bf _ _).alloc (Nf _) _),?_,?_,(((Bf _ _).alloc (Nf _) _).alloc (by simp) _).alloc (by simp;omega) _⟩
  ·have:=cD.new (w.alloc (.cells #[Ii Jj o.id,Ii Jj o.src,Ii Jj o.dst,Ii Jj o.amount,Ii Jj o.first,Ii Jj o.every,Ii Jj o.times] 45)) (Ii Jj d) 2
   rw[World.size_alloc] at this
   exact this.kept ((Bf _ _).alloc (Nf _) _) (by simp)
  ·have:=cD.new ((w.alloc (.cells #[Ii Jj o.id,Ii Jj o.src,Ii Jj o.dst,Ii Jj o.amount,Ii Jj o.first,Ii Jj o.every,Ii Jj o.times] 45)).alloc (.cells #[Ii Jj d] 2)) (Ii Jj 0) 2
   simp only[World.size_alloc] at this
   exact this
 by_cases ho:aL o
 ·have HO:Hid (aL o):=ho
  have HD:Hid (¬(0<=d/\d<=3000000)):=fun k=>h ⟨ho,k⟩
  clear ho h
  go_enter Tryz.func25,Tryz.ntmps25
  go_wp2_with fail
  refine (dV o _ HO.out).mono ?_
  rintro e w1 ⟨rfl,B1⟩
  have X1:Hid (bz w1 w.heap.size o/\cD w1 (w.heap.size+1) (Ii Jj d)/\cD w1 (w.heap.size+1+1) (Ii Jj 0)/\Below w.heap.size w w1):=by
   simp only[World.size_alloc] at B1
   obtain ⟨x1,x2,x3,x4⟩:=X0.out
   exact ⟨x1.kept B1 (by omega),x2.kept B1 (by omega),x3.kept B1 (by omega),x4.trans (B1.mono (by omega))⟩
  clear B1 X0
  obtain ⟨⟨c0,c1,c2,c3,c4,c5,c6,hz1⟩,⟨cd,fd,hz2⟩,⟨cr,fr,hz3⟩,hB⟩:=X1.out
  go_wp2_with fail
  refine (jq d _ HD.out).mono ?_
  rintro e w2 ⟨rfl,hw⟩
  subst hw
  go_wp2
  have hs:=World.cell?_setCell_same' w2 ⟨w.heap.size+1+1,0,none⟩ (Ii Jj (-1)) (by rw[cr];rfl)
  refine bodyPost_ret (v:=Ii Jj (-1)) (by simp[results,Tryz.results25,go_sem,hs]) rfl ⟨?_,?_⟩
  ·rw[E.out]
  ·exact hB.setCell (p:=⟨w.heap.size+1+1,0,none⟩) (by simp;omega) _
 ·have HO:Hid (¬aL o):=ho
  clear ho h
  go_enter Tryz.func25,Tryz.ntmps25
  go_wp2_with fail
  refine (jr o _ HO.out).mono ?_
  rintro e w1 ⟨rfl,B1⟩
  have X1:Hid (bz w1 w.heap.size o/\cD w1 (w.heap.size+1) (Ii Jj d)/\cD w1 (w.heap.size+1+1) (Ii Jj 0)/\Below w.heap.size w w1):=by
   simp only[World.size_alloc] at B1
   obtain ⟨x1,x2,x3,x4⟩:=X0.out
   exact ⟨x1.kept B1 (by omega),x2.kept B1 (by omega),x3.kept B1 (by omega),x4.trans (B1.mono (by omega))⟩
  clear B1 X0
  obtain ⟨⟨c0,c1,c2,c3,c4,c5,c6,hz1⟩,⟨cd,fd,hz2⟩,⟨cr,fr,hz3⟩,hB⟩:=X1.out
  go_wp2
  have hs:=World.cell?_setCell_same' w1 ⟨w.heap.size+1+1,0,none⟩ (Ii Jj (-1)) (by rw[cr];rfl)
  refine bodyPost_ret (v:=Ii Jj (-1)) (by simp[results,Tryz.results25,go_sem,hs]) rfl ⟨?_,?_⟩
  ·rw[E.out]
  ·exact hB.setCell (p:=⟨w.heap.size+1+1,0,none⟩) (by simp;omega) _
theorem lB (o : au) (d : Int) (w : World) (ho : aL o) (d1 : 0 <= d) (d2 : d <= 3000000) :
    Calls Pg 25 #[.agg #[Ii Jj o.id,Ii Jj o.src,Ii Jj o.dst,Ii Jj o.amount,Ii Jj o.first,Ii Jj o.every,Ii Jj o.times],Ii Jj d] w fun e w'=>e=.returned (Ii Jj (aU o d))/\Below w.heap.size w w':=by
  have X0:Hid (bz (((w.alloc (.cells #[Ii Jj o.id,Ii Jj o.src,Ii Jj o.dst,Ii Jj o.amount,Ii Jj o.first,Ii Jj o.every,Ii Jj o.times] 45)).alloc (.cells #[Ii Jj d] 2)).alloc (.cells #[Ii Jj 0] 2)) w.heap.size o/\cD (((w.alloc (.cells #[Ii Jj o.id,Ii Jj o.src,Ii Jj o.dst,Ii Jj o.amount,Ii Jj o.first,Ii Jj o.every,Ii Jj o.times] 45)).alloc (.cells #[Ii Jj d] 2)).alloc (.cells #[Ii Jj 0] 2)) (w.heap.size+1) (Ii Jj d)/\cD (((w.alloc (.cells #[Ii Jj o.id,Ii Jj o.src,Ii Jj o.dst,Ii Jj o.amount,Ii Jj o.first,Ii Jj o.every,Ii Jj o.times] 45)).alloc (.cells #[Ii Jj d] 2)).alloc (.cells #[Ii Jj 0] 2)) (w.heap.size+1+1) (Ii Jj 0)/\Below w.heap.size w (((w.alloc (.cells #[Ii Jj o.id,Ii Jj o.src,Ii Jj o.dst,Ii Jj o.amount,Ii Jj o.first,Ii Jj o.every,Ii Jj o.times] 45)).alloc (.cells #[Ii Jj d] 2)).alloc (.cells #[Ii Jj 0] 2))):=by
    refine ⟨((bz.new w o 45).below ((Bf _ _).alloc (Nf _) _)).below ((Bf _ _).alloc (Nf _) _),?_,?_,(((Bf _ _).alloc (Nf _) _).alloc (by simp) _).alloc (by simp;omega) _⟩
    · have:=cD.new (w.alloc (.cells #[Ii Jj o.id,Ii Jj o.src,Ii Jj o.dst,Ii Jj o.amount,Ii Jj o.first,Ii Jj o.every,Ii Jj o.times] 45)) (Ii Jj d) 2
      rw[World.size_alloc] at this
      exact this.kept ((Bf _ _).alloc (Nf _) _) (by simp)
    · have:=cD.new ((w.alloc (.cells #[Ii Jj o.id,Ii Jj o.src,Ii Jj o.dst,Ii Jj o.amount,Ii Jj o.first,Ii Jj o.every,Ii Jj o.times] 45)).alloc (.cells #[Ii Jj d] 2)) (Ii Jj 0) 2
      simp only[World.size_alloc] at this
      exact this
  have HO:=aa ho
  clear ho
  refine (callsIn_wide (n:=6)).1 ?_
  refine callsIn_of_wp_marks Tryz.func25 rfl trivial ?_ rfl
  simp only[Tryz.ntmps25,List.size_toArray,List.length_cons,List.length_nil,Nat.reduceAdd,Nat.reduceSub,Array.replicate_succ,Array.replicate_zero,List.push_toArray,List.append_toArray,List.nil_append,List.cons_append]
  gi_wp2_with (first
    | (refine ⟨trivial, ?_⟩; gi_at_call 74; refine (callsIn_wide.2 (dV o _ HO.out)).mono ?_
       rintro e w1 ⟨rfl,B1⟩
       have X1:Hid (bz w1 w.heap.size o/\cD w1 (w.heap.size+1) (Ii Jj d)/\cD w1 (w.heap.size+1+1) (Ii Jj 0)/\Below w.heap.size w w1):=by
         simp only[World.size_alloc] at B1
         obtain ⟨x1,x2,x3,x4⟩:=X0.out
         exact ⟨x1.kept B1 (by omega),x2.kept B1 (by omega),x3.kept B1 (by omega),x4.trans (B1.mono (by omega))⟩
       clear B1 X0
       obtain ⟨⟨c0,c1,c2,c3,c4,c5,c6,hz1⟩,⟨cd,fd,hz2⟩,⟨cr,fr,hz3⟩,hB⟩:=X1.out)
    | (refine ⟨trivial,?_⟩;gi_at_call 75;refine (callsIn_wide.2 (ia d _ ⟨d1,d2⟩)).mono ?_;rintro e w2 ⟨rfl,hw⟩;subst hw)
    | (refine ⟨trivial,?_⟩;gi_at_call 76;refine (callsIn_wide.2 (sq o _)).mono ?_;rintro e w3 ⟨rfl,hw⟩;subst hw))
  have XB:bz (w2.alloc (.cells #[Ii Jj o.id,Ii Jj o.src,Ii Jj o.dst,Ii Jj o.amount,Ii Jj o.first,Ii Jj o.every,Ii Jj o.times] 45)) w2.heap.size o:=bz.new w2 o 45
  have hB0:Below w.heap.size w (w2.alloc (.cells #[Ii Jj o.id,Ii Jj o.src,Ii Jj o.dst,Ii Jj o.amount,Ii Jj o.first,Ii Jj o.every,Ii Jj o.times] 45)):=hB.alloc hB.size _
  refine wpIn_rangeFunc_ownF rfl (by omega) (gf:=125) (lb:=#[.pointer (some ⟨w2.heap.size,0,none⟩)]) rfl trivial (enters_of Tryz.func125 (by kernel_rfl) rfl)
    (oL Fence.wide 5 trivial rfl (by omega) w2.heap.size (w2.heap.size+1) o HO.out _ (by omega) (by simp) XB) belowK_t (belowK_b (by simp)) (Bf _ _) (fun _=>rfl)
    (fun pre W=>((∀y ∈ pre,y<d)/\W.cell? ⟨w.heap.size+1,0,none⟩=some (Ii Jj d)/\W.cell? ⟨w.heap.size+1+1,0,none⟩=some (Ii Jj 0)/\W.frozen? ⟨w.heap.size+1+1,0,none⟩=false)/\Below w.heap.size w W)
    (fun c pre W=>(c=.ret/\∃p x,pre=p++[x]/\(∀y ∈ p,y<d)/\d<=x/\W.cell? ⟨w.heap.size+1+1,0,none⟩=some (Ii Jj x))/\Below w.heap.size w W)
    (OwnFrom.and (Own.from (fun s A B row hs hg hr=>⟨hs.1,cell_kept hs.2.1 hg hr,cell_kept hs.2.2.1 hg hr,(frozen_kept hs.2.2.1 hg hr).trans hs.2.2.2⟩) _) (ownFrom_below (Nf _) (by simp;omega)))
    (fun c=>OwnFrom.and (Own.from (fun s A B row hs hg hr=>⟨hs.1,hs.2.choose,hs.2.choose_spec.choose,hs.2.choose_spec.choose_spec.1,hs.2.choose_spec.choose_spec.2.1,hs.2.choose_spec.choose_spec.2.2.1,cell_kept hs.2.choose_spec.choose_spec.2.2.2 hg hr⟩) _) (ownFrom_below (Nf _) (by simp;omega)))
    ⟨⟨by simp,iA _ cd,iA _ cr,ki _ cr fr⟩,hB0⟩
    (fun x=>{tmps:=#[.agg #[Ii Jj o.id,Ii Jj o.src,Ii Jj o.dst,Ii Jj o.amount,Ii Jj o.first,Ii Jj o.every,Ii Jj o.times],Ii Jj d,.pointer (some ⟨w.heap.size,0,none⟩),.pointer (some ⟨w.heap.size+1,0,none⟩),.pointer (some ⟨w.heap.size+1+1,0,none⟩),Ii Jj x,.agg #[Ii Jj o.id,Ii Jj o.src,Ii Jj o.dst,Ii Jj o.amount,Ii Jj o.first,Ii Jj o.every,Ii Jj o.times],.bool true,.bool false,.bool false,Ii Jj d,.bool true,.bool false,.bool false,.agg #[Ii Jj o.id,Ii Jj o.src,Ii Jj o.dst,Ii Jj o.amount,Ii Jj o.first,Ii Jj o.every,Ii Jj o.times],.func (.func 125) #[] #[.pointer (some ⟨w2.heap.size,0,none⟩)],Ii Jj x,undef,undef,undef,undef],defers:=[]}) ?assign ?body ?done ?stop
  case assign=>
    intro l x W K hK
    gi_wp2
    exact hK
  case body=>
    rintro l pre x W ⟨⟨hp,hcd,hcr,hfr⟩,hBW⟩ _
    clear c0 c1 c2 c3 c4 c5 c6 cd cr fd fr X1 XB
    by_cases hx:d<=x
    · gi_wp2
      exact ⟨KeepsOthers.setCell _ _ _,⟨rfl,pre,x,rfl,hp,hx,World.cell?_setCell_same' _ _ _ (by rw[hcr];rfl)⟩,hBW.setCell (p:=⟨w.heap.size+1+1,0,none⟩) (by simp;omega) _⟩
    · gi_wp2
      exact ⟨KeepsOthers.refl _,Bf _ _,⟨fun y hy=>(List.mem_append.1 hy).elim (hp y) (fun e=>by simp at e;subst e;omega),hcd,hcr,hfr⟩,hBW⟩
  case done=>
    rintro D ys W hD ⟨k,hk1,rfl,hk2⟩ ⟨⟨hp,hcd,hcr,hfr⟩,hBW⟩ hK
    have E:Hid (aU o d= -1):=lA HO.out d1 d2 hk2 hp
    clear c0 c1 c2 c3 c4 c5 c6 cd cr fd fr X1 XB hk1 hk2 hp
    gi_wp2
    have hK':=(KeepsOthers.setCell W ⟨w.heap.size+1+1,0,none⟩ (Ii Jj (-1))).same D _ hK rfl
    refine ⟨by simp,.inl ⟨_,_,rfl,run_takeDeferred hK',?_⟩⟩
    have hc5:=cell_kept (World.cell?_setCell_same' W ⟨w.heap.size+1+1,0,none⟩ (Ii Jj (-1)) (by rw[hcr];rfl)) (grownBy_putObj' _ D (.deferred none)) (fun r e=>by cases e;exact ⟨_,hK',rfl⟩)
    refine ⟨Ii Jj (-1),?_,by rw[E.out],(hBW.setCell (p:=⟨w.heap.size+1+1,0,none⟩) (by simp;omega) _).trans (belowK_b (w:=w) (Nf _) _ D _ _ (by simp at hD;omega) hK' rfl rfl)⟩
    simp[results,Tryz.results25,go_sem,hc5]
  case stop=>
    rintro D c pre W hD ⟨k,hk1,rfl,hk2⟩ ⟨⟨rfl,p,x,hpx,hp,hx,hcr⟩,hBW⟩ hK
    rw[ib] at hpx
    obtain ⟨rfl,e2⟩:=List.append_inj' hpx rfl
    obtain rfl:o.first+(k:Int)*o.every=x:=by simpa using e2
    have E:Hid (aU o d=o.first+(k:Int)*o.every):=mN HO.out d1 d2 hk1 hk2 hx hp
    clear c0 c1 c2 c3 c4 c5 c6 cd cr fd fr X1 XB hk1 hk2 hp hx hpx e2
    gi_wp2
    refine ⟨by simp,.inl ⟨_,_,rfl,run_takeDeferred hK,?_⟩⟩
    have hc5:=cell_kept hcr (grownBy_putObj' _ D (.deferred none)) (fun r e=>by cases e;exact ⟨_,hK,rfl⟩)
    refine ⟨Ii Jj (o.first+(k:Int)*o.every),?_,by rw[E.out],hBW.trans (belowK_b (w:=w) (Nf _) W D _ _ (by simp at hD;omega) hK rfl rfl)⟩
    simp[results,Tryz.results25,go_sem,hc5]
theorem mT (o:au) (d:Int) (w:World):
  Calls Pg 25 #[.agg #[Ii Jj o.id,Ii Jj o.src,Ii Jj o.dst,Ii Jj o.amount,Ii Jj o.first,Ii Jj o.every,Ii Jj o.times],Ii Jj d] w fun e w'=>e=.returned (Ii Jj (aU o d))/\Below w.heap.size w w':=by
 by_cases h:aL o/\0<=d/\d<=3000000
 ·exact lB o d w h.1 h.2.1 h.2.2
 ·exact mS o d w h
open Go.RowKit
def eh (o:au) (d:Int):Prop:=(0<=d/\d<=3000000)/\aU o d=d
theorem mV {o:au} {d:Int} (h:eh o d):aL o:=by
 by_cases e:aL o/\0<=d/\d<=3000000
 ·exact e.1
 ·have:=fh e
  have h2:=h.2
  have h1:=h.1.1
  exfalso
  omega
theorem iB {o:au} {d:Int} (h:eh o d):o.first<=d/\(d-o.first) % o.every=0/\(d-o.first) / o.every<o.times:=by
 have ho:=mV h
 obtain ⟨⟨h1,h2⟩,h3⟩:=h
 have he:=ho.2.2.2.2.2.2.1.1
 have k:=iW o d he
 by_cases hk:o.times<=ge o d\/3000000<o.first+ge o d*o.every
 ·rw[fD ho h1 h2 hk] at h3;omega
 ·rw[eK ho h1 h2 (by omega) (by omega)] at h3
  have e:d-o.first=ge o d*o.every:=by omega
  rw[e,Int.mul_emod_left,Int.mul_ediv_cancel _ (by omega)]
  have:=Int.mul_nonneg k (show 0<=o.every by omega)
  exact ⟨by omega,rfl,by omega⟩
theorem ry {o:au} {d:Int} (ho:aL o) (h1:o.first<=d) (h2:d<=3000000) (hm:(d-o.first) % o.every=0) (hq:(d-o.first) / o.every<o.times):eh o d:=by
 have hf:=ho.2.2.2.2.2.1.1
 have he:=ho.2.2.2.2.2.2.1.1
 refine ⟨⟨by omega,h2⟩,?_⟩
 have e:=Int.emod_add_mul_ediv (d-o.first) o.every
 obtain ⟨q,hq'⟩:∃q,q=(d-o.first) / o.every:=⟨_,rfl⟩
 rw[←hq'] at e hq
 rw[hm,Int.mul_comm] at e
 have q0:0<=q:=by rw[hq'];exact Int.ediv_nonneg (by omega) (by omega)
 have a:=ic o d he q q0 (by omega)
 have b:=oK o d he
 have c:q<=ge o d:=by
  by_cases hlt:ge o d<q
  ·have:=Int.mul_le_mul_of_nonneg_right (show ge o d<=q-1 by omega) (show 0<=o.every by omega)
   rw[Int.sub_mul] at this
   omega
  ·omega
 have ek:ge o d=q:=by omega
 rw[eK ho (by omega) h2 (by omega) (by rw[ek];omega),ek]
 omega
theorem t9 (o:au) (d:Int) (w:World):
  Calls Pg 153 #[.agg #[Ii Jj o.id,Ii Jj o.src,Ii Jj o.dst,Ii Jj o.amount,Ii Jj o.first,Ii Jj o.every,Ii Jj o.times],Ii Jj d] w fun e w'=>af e (eh o d)/\Below w.heap.size w w':=by
 have X0:Hid (bz (w.alloc (.cells #[Ii Jj o.id,Ii Jj o.src,Ii Jj o.dst,Ii Jj o.amount,Ii Jj o.first,Ii Jj o.every,Ii Jj o.times] 45)) w.heap.size o):=bz.new w o 45
 by_cases ho:aL o
 rotate_left
 ·have E:Hid (¬eh o d):=fun h=>ho (mV h)
  have HO:=aa ho
  clear ho
  go_enter Tryz.func153,Tryz.ntmps153
  go_wp2_with fail
  refine (gy o _ HO.out).mono ?_
  rintro e w1 ⟨rfl,B1⟩
  have B1':Hid (Below w.heap.size w w1):=((Bf _ _).alloc (Nf _) _).trans (B1.mono (by simp))
  clear B1 X0
  go_wp2
  go_ret
  exact ⟨af.no E.out,B1'.out⟩
 have HO:=aa ho
 obtain ⟨_,_,_,_,_,⟨f1,f2⟩,⟨e1,e2⟩,t1,t2⟩:=ho
 have ST:∀{Q:Ending->World->Prop},True:=trivial
 clear ST
 by_cases hd:o.first<=d/\d<=3000000
 rotate_left
 ·have E:Hid (¬eh o d):=fun h=>hd ⟨(iB h).1,h.1.2⟩
  have HD:=aa hd
  clear hd e1 e2 t1 t2
  go_enter Tryz.func153,Tryz.ntmps153
  go_wp2_with fail
  refine (cY o _ HO.out).mono ?_
  rintro e w1 ⟨rfl,B1⟩
  have X1:=aa (X0.out.below B1)
  have B1':Hid (Below w.heap.size w w1):=((Bf _ _).alloc (Nf _) _).trans (B1.mono (by simp))
  clear B1 X0
  obtain ⟨c0,c1,c2,c3,c4,c5,c6,_⟩:=X1.out
  go_wp2_with fail
  refine (co d o.first 3000000 _ HD.out).mono ?_
  rintro e w2 ⟨rfl,hw⟩
  subst hw
  go_wp2
  go_ret
  exact ⟨af.no E.out,B1'.out⟩
 obtain ⟨d1,d2⟩:=hd
 have em:(d-o.first).tmod o.every=(d-o.first) % o.every:=Int.tmod_eq_emod_of_nonneg (by omega)
 have eq:(d-o.first).tdiv o.every=(d-o.first) / o.every:=Int.tdiv_eq_ediv_of_nonneg (by omega)
 have KY:Hid ((d-o.first) % o.every=0->(d-o.first) / o.every<o.times->eh o d):=ry HO.out d1 d2
 have KN:Hid (eh o d->(d-o.first) % o.every=0/\(d-o.first) / o.every<o.times):=fun h=>(iB h).2
 have ez:¬o.every=0:=by omega
 go_enter Tryz.func153,Tryz.ntmps153
 go_wp2_with fail
 refine (cY o _ HO.out).mono ?_
 rintro e w1 ⟨rfl,B1⟩
 have X1:=aa (X0.out.below B1)
 have B1':Hid (Below w.heap.size w w1):=((Bf _ _).alloc (Nf _) _).trans (B1.mono (by simp))
 clear B1 X0
 obtain ⟨c0,c1,c2,c3,c4,c5,c6,_⟩:=X1.out
 go_wp2_with fail
 refine (bF d o.first 3000000 _ ⟨d1,d2⟩).mono ?_
 rintro e w2 ⟨rfl,hw⟩
 subst hw
 have q0:0<=(d-o.first) / o.every:=Int.ediv_nonneg (by omega) (by omega)
 have q9:(d-o.first) / o.every<=3000000:=Int.le_trans (Int.ediv_le_self _ (by omega)) (by omega)
 obtain ⟨m,hm⟩:∃m,(d-o.first) % o.every=m:=⟨_,rfl⟩
 obtain ⟨q,hq⟩:∃q,(d-o.first) / o.every=q:=⟨_,rfl⟩
 rw[hm] at em KY KN
 rw[hq] at eq KY KN q0 q9
 by_cases hz:m=0
 ·have hb:(m == 0)=true:=by simp[hz]
  by_cases ht:q<o.times
  ·have htd:decide (q<o.times)=true:=decide_eq_true ht
   go_wp2
   go_quiet (fail)
   go_wp2
   go_ret
   exact ⟨af.yes (KY.out hz ht),B1'.out.trans ⟨rfl,rfl,rfl,Nf _,fun _ _=>rfl⟩⟩
  ·have htd:decide (q<o.times)=false:=decide_eq_false ht
   go_wp2
   go_quiet (fail)
   go_wp2
   go_ret
   exact ⟨af.no (fun h=>by have:=(KN.out h).2;omega),B1'.out.trans ⟨rfl,rfl,rfl,Nf _,fun _ _=>rfl⟩⟩
 ·have hb:(m == 0)=false:=by simp[hz]
  go_wp2
  go_quiet (fail)
  go_wp2
  go_ret
  exact ⟨af.no (fun h=>hz (KN.out h).1),B1'.out.trans ⟨rfl,rfl,rfl,Nf _,fun _ _=>rfl⟩⟩
theorem tc (o:au) (d:Int) (w:World):
  Calls Pg 78 #[.agg #[Ii Jj o.id,Ii Jj o.src,Ii Jj o.dst,Ii Jj o.amount,Ii Jj o.first,Ii Jj o.every,Ii Jj o.times],Ii Jj d] w fun e w'=>af e (eh o d)/\Below w.heap.size w w':=by
 by_cases hd:0<=d/\d<=3000000
 rotate_left
 ·have E:Hid (¬eh o d):=fun h=>hd h.1
  have HD:=aa hd
  clear hd
  go_enter Tryz.func78,Tryz.ntmps78
  go_wp2_with fail
  refine (jq d _ HD.out).mono ?_
  rintro e w2 ⟨rfl,hw⟩
  subst hw
  go_wp2
  go_ret
  exact ⟨af.no E.out,(Bf _ _).alloc (Nf _) _⟩
 have HD:=aa hd
 clear hd
 go_enter Tryz.func78,Tryz.ntmps78
 go_wp2_with fail
 refine (ia d _ HD.out).mono ?_
 rintro e w2 ⟨rfl,hw⟩
 subst hw
 go_wp2_with fail
 refine (mT o d _).mono ?_
 rintro e w1 ⟨rfl,B1⟩
 have B1':Hid (Below w.heap.size w w1):=((Bf _ _).alloc (Nf _) _).trans (B1.mono (by simp))
 clear B1
 have IY:Hid (aU o d=d->eh o d):=fun h=>⟨HD.out,h⟩
 have IN:Hid (eh o d->aU o d=d):=fun h=>h.2
 obtain ⟨v,hv⟩:∃v,aU o d=v:=⟨_,rfl⟩
 rw[hv] at IY IN ⊢
 by_cases e:v=d
 ·have eb:(v == d)=true:=by simp[e]
  go_wp2
  go_ret
  exact ⟨af.yes (IY.out e),B1'.out⟩
 ·have eb:(v == d)=false:=by simp[e]
  go_wp2
  go_ret
  exact ⟨af.no (fun h=>e (IN.out h)),B1'.out⟩
end Go.Proofs.YtghkbhggopiajaaGreatDoor
