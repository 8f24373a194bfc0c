/- OrderOk. -/
import Derived.Test.YtghkbhggopiajaaGreatDoorOpssr
import Derived.RangeFuncFrom
import Derived.RangeFuncLeaves
import Derived.Shelf.Abstract
import Derived.OwnWalkIn
import Derived.TacticsInMore
import Derived.LoopNIn
import Derived.LoopIn
set_option maxHeartbeats 4000000
set_option maxRecDepth 100000
namespace Go.Proofs.YtghkbhggopiajaaGreatDoor
open Go.ChangeShapes Go.WideShapes Go.ChangeAt Go.RowKit
structure Ord where
 id:Int
 src:Int
 dst:Int
 amount:Int
 first:Int
 every:Int
 times:Int
def ordOk (o:Ord):Prop:=(1<=o.id/\o.id<=1000000)/\(1<=o.src/\o.src<=1000000)/\(1<=o.dst/\o.dst<=1000000)/\o.src≠o.dst/\(1<=o.amount/\o.amount<=1000000000000)/\(0<=o.first/\o.first<=3000000)/\(1<=o.every/\o.every<=366)/\(1<=o.times/\o.times<=1000)
theorem dayOk_yes (n:Int) (w:World) (h:0<=n/\n<=3000000):
  Calls Tryz.prog 75 #[.int .i64 n] w fun e w'=>e=.returned (.bool true)/\w'=w:=by
 obtain ⟨h1,h2⟩:=h
 go_enter Tryz.func75,Tryz.ntmps75
 go_wp2
 go_ret
 exact ⟨rfl,rfl⟩
theorem dayOk_no (n:Int) (w:World) (h:¬(0<=n/\n<=3000000)):
  Calls Tryz.prog 75 #[.int .i64 n] w fun e w'=>e=.returned (.bool false)/\w'=w:=by
 by_cases h1:0<=n
 ·have h2:¬n<=3000000:=by omega
  have h3:3000000<n:=by omega
  clear h
  go_enter Tryz.func75,Tryz.ntmps75
  go_wp2
  go_ret
  exact ⟨rfl,rfl⟩
 ·have h2:n<0:=by omega
  clear h
  go_enter Tryz.func75,Tryz.ntmps75
  go_wp2
  go_ret
  exact ⟨rfl,rfl⟩
theorem dayOk_b (n:Int) (w:World):
  Calls Tryz.prog 75 #[.int .i64 n] w fun e w'=>Tells e (0<=n/\n<=3000000)/\w'=w:=by
 by_cases h:0<=n/\n<=3000000
 ·exact (dayOk_yes n w h).mono fun e w' ⟨he,hw⟩=>⟨⟨true,he,fun _=>h,fun e=>(by cases e)⟩,hw⟩
 ·exact (dayOk_no n w h).mono fun e w' ⟨he,hw⟩=>⟨⟨false,he,fun e=>(by cases e),fun _=>h⟩,hw⟩
theorem specOrd (o:Ord) (w:World):
  Calls Tryz.prog 135 #[.agg #[.int .i64 o.id,.int .i64 o.src,.int .i64 o.dst,.int .i64 o.amount,.int .i64 o.first,.int .i64 o.every,.int .i64 o.times]] w fun e w'=>Tells e (ordOk o)/\Below w.heap.size w w':=by
 go_enter Tryz.func135,Tryz.ntmps135
 go_wp2_with fail
 refine (l1In_b o.id 1 1000000 _).mono ?_
 rintro e w8 ⟨⟨b8,rfl,hb8⟩,hw8⟩
 subst hw8
 cases b8 with
 | false=>
  have Hb8:=hb8.2 rfl
  clear hb8
  go_wp2
  go_ret
  exact ⟨Tells.no (by unfold ordOk;omega),by first|exact Below.refl _ _|exact ((Below.refl _ _).alloc (Nat.le_refl _) _)⟩
 | true=>
  have Hb8:=hb8.1 rfl
  clear hb8
  go_wp2_with fail
  refine (l1In_b o.src 1 1000000 _).mono ?_
  rintro e w7 ⟨⟨b7,rfl,hb7⟩,hw7⟩
  subst hw7
  cases b7 with
  | false=>
   have Hb7:=hb7.2 rfl
   clear hb7
   go_wp2
   go_ret
   exact ⟨Tells.no (by unfold ordOk;omega),by first|exact Below.refl _ _|exact ((Below.refl _ _).alloc (Nat.le_refl _) _)⟩
  | true=>
   have Hb7:=hb7.1 rfl
   clear hb7
   go_wp2_with fail
   refine (l1In_b o.dst 1 1000000 _).mono ?_
   rintro e w6 ⟨⟨b6,rfl,hb6⟩,hw6⟩
   subst hw6
   cases b6 with
   | false=>
    have Hb6:=hb6.2 rfl
    clear hb6
    go_wp2
    go_ret
    exact ⟨Tells.no (by unfold ordOk;omega),by first|exact Below.refl _ _|exact ((Below.refl _ _).alloc (Nat.le_refl _) _)⟩
   | true=>
    have Hb6:=hb6.1 rfl
    clear hb6
    by_cases q5:o.src=o.dst
    ·have q5b:(o.src != o.dst)=false:=by simp[q5]
     go_wp2
     go_ret
     exact ⟨Tells.no (by unfold ordOk;omega),by first|exact Below.refl _ _|exact ((Below.refl _ _).alloc (Nat.le_refl _) _)⟩
    have q5b:(o.src != o.dst)=true:=by simp[q5]
    go_wp2_with fail
    refine (l1In_b o.amount 1 1000000000000 _).mono ?_
    rintro e w4 ⟨⟨b4,rfl,hb4⟩,hw4⟩
    subst hw4
    cases b4 with
    | false=>
     have Hb4:=hb4.2 rfl
     clear hb4
     go_wp2
     go_ret
     exact ⟨Tells.no (by unfold ordOk;omega),by first|exact Below.refl _ _|exact ((Below.refl _ _).alloc (Nat.le_refl _) _)⟩
    | true=>
     have Hb4:=hb4.1 rfl
     clear hb4
     go_wp2_with fail
     refine (l1In_b o.first 0 3000000 _).mono ?_
     rintro e w3 ⟨⟨b3,rfl,hb3⟩,hw3⟩
     subst hw3
     cases b3 with
     | false=>
      have Hb3:=hb3.2 rfl
      clear hb3
      go_wp2
      go_ret
      exact ⟨Tells.no (by unfold ordOk;omega),by first|exact Below.refl _ _|exact ((Below.refl _ _).alloc (Nat.le_refl _) _)⟩
     | true=>
      have Hb3:=hb3.1 rfl
      clear hb3
      go_wp2_with fail
      refine (l1In_b o.every 1 366 _).mono ?_
      rintro e w2 ⟨⟨b2,rfl,hb2⟩,hw2⟩
      subst hw2
      cases b2 with
      | false=>
       have Hb2:=hb2.2 rfl
       clear hb2
       go_wp2
       go_ret
       exact ⟨Tells.no (by unfold ordOk;omega),by first|exact Below.refl _ _|exact ((Below.refl _ _).alloc (Nat.le_refl _) _)⟩
      | true=>
       have Hb2:=hb2.1 rfl
       clear hb2
       go_wp2_with fail
       refine (l1In_b o.times 1 1000 _).mono ?_
       rintro e w1 ⟨⟨b1,rfl,hb1⟩,hw1⟩
       subst hw1
       cases b1 with
       | false=>
        have Hb1:=hb1.2 rfl
        clear hb1
        go_wp2
        go_ret
        exact ⟨Tells.no (by unfold ordOk;omega),by first|exact Below.refl _ _|exact ((Below.refl _ _).alloc (Nat.le_refl _) _)⟩
       | true=>
        have Hb1:=hb1.1 rfl
        clear hb1
        go_wp2
        go_ret
        exact ⟨Tells.yes (by unfold ordOk;omega),by first|exact Below.refl _ _|exact ((Below.refl _ _).alloc (Nat.le_refl _) _)⟩
theorem implOrd (o:Ord) (w:World):
  Calls Tryz.prog 74 #[.agg #[.int .i64 o.id,.int .i64 o.src,.int .i64 o.dst,.int .i64 o.amount,.int .i64 o.first,.int .i64 o.every,.int .i64 o.times]] w fun e w'=>Tells e (ordOk o)/\Below w.heap.size w w':=by
 go_enter Tryz.func74,Tryz.ntmps74
 go_wp2_with fail
 refine (idOk_b o.id _).mono ?_
 rintro e w9 ⟨⟨b9,rfl,hb9⟩,hw9⟩
 subst hw9
 cases b9 with
 | false=>
  have Hb9:=hb9.2 rfl
  clear hb9
  go_wp2
  go_ret
  exact ⟨Tells.no (by unfold ordOk;omega),by first|exact Below.refl _ _|exact ((Below.refl _ _).alloc (Nat.le_refl _) _)⟩
 | true=>
  have Hb9:=hb9.1 rfl
  clear hb9
  go_wp2_with fail
  refine (idOk_b o.src _).mono ?_
  rintro e w8 ⟨⟨b8,rfl,hb8⟩,hw8⟩
  subst hw8
  cases b8 with
  | false=>
   have Hb8:=hb8.2 rfl
   clear hb8
   go_wp2
   go_ret
   exact ⟨Tells.no (by unfold ordOk;omega),by first|exact Below.refl _ _|exact ((Below.refl _ _).alloc (Nat.le_refl _) _)⟩
  | true=>
   have Hb8:=hb8.1 rfl
   clear hb8
   go_wp2_with fail
   refine (otherOk_b o.src o.dst _).mono ?_
   rintro e w7 ⟨⟨b7,rfl,hb7⟩,hw7⟩
   subst hw7
   cases b7 with
   | false=>
    have Hb7:=hb7.2 rfl
    clear hb7
    go_wp2
    go_ret
    exact ⟨Tells.no (by unfold ordOk;omega),by first|exact Below.refl _ _|exact ((Below.refl _ _).alloc (Nat.le_refl _) _)⟩
   | true=>
    have Hb7:=hb7.1 rfl
    clear hb7
    go_wp2_with fail
    refine (someOk_b o.amount _).mono ?_
    rintro e w6 ⟨⟨b6,rfl,hb6⟩,hw6⟩
    subst hw6
    cases b6 with
    | false=>
     have Hb6:=hb6.2 rfl
     clear hb6
     go_wp2
     go_ret
     exact ⟨Tells.no (by unfold ordOk;omega),by first|exact Below.refl _ _|exact ((Below.refl _ _).alloc (Nat.le_refl _) _)⟩
    | true=>
     have Hb6:=hb6.1 rfl
     clear hb6
     go_wp2_with fail
     refine (dayOk_b o.first _).mono ?_
     rintro e w5 ⟨⟨b5,rfl,hb5⟩,hw5⟩
     subst hw5
     cases b5 with
     | false=>
      have Hb5:=hb5.2 rfl
      clear hb5
      go_wp2
      go_ret
      exact ⟨Tells.no (by unfold ordOk;omega),by first|exact Below.refl _ _|exact ((Below.refl _ _).alloc (Nat.le_refl _) _)⟩
     | true=>
      have Hb5:=hb5.1 rfl
      clear hb5
      by_cases q4:1<=o.every
      rotate_left
      ·have q4b:o.every<1:=by omega
       have q4d:decide (1<=o.every)=false:=decide_eq_false q4
       go_wp2
       go_ret
       exact ⟨Tells.no (by unfold ordOk;omega),by first|exact Below.refl _ _|exact ((Below.refl _ _).alloc (Nat.le_refl _) _)⟩
      by_cases q3:o.every<=366
      rotate_left
      ·have q3b:366<o.every:=by omega
       have q3d:decide (o.every<=366)=false:=decide_eq_false q3
       go_wp2
       go_ret
       exact ⟨Tells.no (by unfold ordOk;omega),by first|exact Below.refl _ _|exact ((Below.refl _ _).alloc (Nat.le_refl _) _)⟩
      by_cases q2:1<=o.times
      rotate_left
      ·have q2b:o.times<1:=by omega
       have q2d:decide (1<=o.times)=false:=decide_eq_false q2
       go_wp2
       go_ret
       exact ⟨Tells.no (by unfold ordOk;omega),by first|exact Below.refl _ _|exact ((Below.refl _ _).alloc (Nat.le_refl _) _)⟩
      by_cases q1:o.times<=1000
      rotate_left
      ·have q1b:1000<o.times:=by omega
       have q1d:decide (o.times<=1000)=false:=decide_eq_false q1
       go_wp2
       go_ret
       exact ⟨Tells.no (by unfold ordOk;omega),by first|exact Below.refl _ _|exact ((Below.refl _ _).alloc (Nat.le_refl _) _)⟩
      go_wp2
      go_ret
      exact ⟨Tells.yes (by unfold ordOk;omega),by first|exact Below.refl _ _|exact ((Below.refl _ _).alloc (Nat.le_refl _) _)⟩
theorem toOrd (o:Ord) (w:World):
  Calls Tryz.prog 99 #[.agg #[.int .i64 o.id,.int .i64 o.src,.int .i64 o.dst,.int .i64 o.amount,.int .i64 o.first,.int .i64 o.every,.int .i64 o.times]] w fun e w'=>e=.returned (.agg #[.int .i64 o.id,.int .i64 o.src,.int .i64 o.dst,.int .i64 o.amount,.int .i64 o.first,.int .i64 o.every,.int .i64 o.times])/\Below w.heap.size w w':=by
 go_enter Tryz.func99,Tryz.ntmps99
 go_wp2
 refine bodyPost_ret (v:=.agg #[.int .i64 o.id,.int .i64 o.src,.int .i64 o.dst,.int .i64 o.amount,.int .i64 o.first,.int .i64 o.every,.int .i64 o.times]) (by simp[results,Tryz.results99,go_sem]) rfl ⟨rfl,?_⟩
 exact (((Below.refl _ _).alloc (Nat.le_refl _) _).alloc (by simp) _).alloc (by simp;omega) _
def OrdBox (w:World) (R:Nat) (o:Ord):Prop:=w.cell? ⟨R,0,none⟩=some (.int .i64 o.id)/\w.cell? ⟨R,1,none⟩=some (.int .i64 o.src)/\w.cell? ⟨R,2,none⟩=some (.int .i64 o.dst)/\w.cell? ⟨R,3,none⟩=some (.int .i64 o.amount)/\w.cell? ⟨R,4,none⟩=some (.int .i64 o.first)/\w.cell? ⟨R,5,none⟩=some (.int .i64 o.every)/\w.cell? ⟨R,6,none⟩=some (.int .i64 o.times)/\R<w.heap.size
theorem OrdBox.new (w:World) (o:Ord) (T:Nat):OrdBox (w.alloc (.cells #[.int .i64 o.id,.int .i64 o.src,.int .i64 o.dst,.int .i64 o.amount,.int .i64 o.first,.int .i64 o.every,.int .i64 o.times] T)) w.heap.size o:=by
 unfold OrdBox
 simp[go_sem]
theorem OrdBox.below {w w':World} {R:Nat} {o:Ord} (h:OrdBox w R o) (hb:Below w.heap.size w w'):OrdBox w' R o:=by
 obtain ⟨h0,h1,h2,h3,h4,h5,h6,h7⟩:=h
 exact ⟨by rw[hb.cell (p:=⟨R,0,none⟩) h7];exact h0,by rw[hb.cell (p:=⟨R,1,none⟩) h7];exact h1,by rw[hb.cell (p:=⟨R,2,none⟩) h7];exact h2,by rw[hb.cell (p:=⟨R,3,none⟩) h7];exact h3,by rw[hb.cell (p:=⟨R,4,none⟩) h7];exact h4,by rw[hb.cell (p:=⟨R,5,none⟩) h7];exact h5,by rw[hb.cell (p:=⟨R,6,none⟩) h7];exact h6,Nat.lt_of_lt_of_le h7 hb.size⟩
def upto (o:Ord) (k:Nat):List Int:=(List.range k).map fun i:Nat=>o.first+(i:Int)*o.every
theorem upto_succ (o:Ord) (k:Nat):upto o (k+1)=upto o k++[o.first+(k:Int)*o.every]:=by simp[upto,List.range_succ]
theorem upto_len (o:Ord) (k:Nat):(upto o k).length=k:=by simp[upto]
theorem mem_upto {o:Ord} {k i:Nat} (h:i<k):o.first+(i:Int)*o.every ∈ upto o k:=List.mem_map.2 ⟨i,List.mem_range.2 h,rfl⟩
def kth (o:Ord) (d:Int):Int:=if o.first<d then (d-o.first+o.every-1) / o.every else 0
noncomputable def nextDue (o:Ord) (d:Int):Int:=open Classical in
 if ordOk o/\0<=d/\d<=3000000 then (if o.times<=kth o d\/3000000<o.first+kth o d*o.every then -1 else o.first+kth o d*o.every) else -1
theorem kth_pos (o:Ord) (d:Int) (he:1<=o.every):0<=kth o d:=by
 unfold kth
 split
 ·exact Int.ediv_nonneg (by omega) (by omega)
 ·omega
theorem kth_at (o:Ord) (d:Int) (he:1<=o.every):d<=o.first+kth o d*o.every:=by
 unfold kth
 split
 ·have h1:=Int.emod_add_mul_ediv (d-o.first+o.every-1) o.every
  have h2:=Int.emod_lt_of_pos (d-o.first+o.every-1) (show 0<o.every by omega)
  rw[Int.mul_comm o.every] at h1
  omega
 ·omega
theorem kth_least (o:Ord) (d:Int) (he:1<=o.every) (i:Int) (hi:0<=i) (h:d<=o.first+i*o.every):kth o d<=i:=by
 unfold kth
 split
 ·have e:(d-o.first+o.every-1)<(i+1)*o.every:=by rw[Int.add_mul];omega
  have:=Int.ediv_lt_of_lt_mul (show 0<o.every by omega) e
  omega
 ·omega
theorem kth_le (o:Ord) (d:Int) (hd:d<=3000000) (hf:0<=o.first) (he:1<=o.every):kth o d<=3000000:=by
 refine kth_least o d he 3000000 (by omega) ?_
 have:(3000000:Int)*1<=3000000*o.every:=Int.mul_le_mul_of_nonneg_left he (by omega)
 omega
theorem mul_bdo (k e:Int) (hk:0<=k) (hk2:k<=3000000) (he:1<=e) (he2:e<=366):0<=k*e/\k*e<=1098000000:=by
 have a:k*e<=k*366:=Int.mul_le_mul_of_nonneg_left he2 hk
 have b:0<=k*e:=Int.mul_nonneg hk (by omega)
 omega
theorem nextDue_yes {o:Ord} {d:Int} (ho:ordOk o) (h1:0<=d) (h2:d<=3000000) (hk:kth o d<o.times) (hm:o.first+kth o d*o.every<=3000000):nextDue o d=o.first+kth o d*o.every:=by
 unfold nextDue
 rw[if_pos ⟨ho,h1,h2⟩,if_neg (by omega)]
theorem nextDue_out {o:Ord} {d:Int} (ho:ordOk o) (h1:0<=d) (h2:d<=3000000) (hk:o.times<=kth o d\/3000000<o.first+kth o d*o.every):nextDue o d= -1:=by
 unfold nextDue
 rw[if_pos ⟨ho,h1,h2⟩,if_pos hk]
theorem nextDue_no {o:Ord} {d:Int} (h:¬(ordOk o/\0<=d/\d<=3000000)):nextDue o d= -1:=by
 unfold nextDue
 rw[if_neg h]
theorem nextDue_hit {o:Ord} {d:Int} (ho:ordOk o) (h1:0<=d) (h2:d<=3000000) {k:Nat} (hk:(k:Int)<o.times) (hm:o.first+(k:Int)*o.every<=3000000) (hd:d<=o.first+(k:Int)*o.every) (hlow:∀y ∈ upto o k,y<d):nextDue o d=o.first+(k:Int)*o.every:=by
 have he:=ho.2.2.2.2.2.2.1.1
 have a:=kth_least o d he k (by omega) hd
 have b:=kth_pos o d he
 have c:=kth_at o d he
 have e:kth o d=k:=by
  by_cases e:kth o d=k
  ·exact e
  ·obtain ⟨m,hm⟩:=Int.eq_ofNat_of_zero_le b
   have:=hlow _ (mem_upto (o:=o) (show m<k by omega))
   rw[hm] at c
   omega
 rw[nextDue_yes ho h1 h2 (by omega) (by rw[e];exact hm),e]
theorem nextDue_miss {o:Ord} {d:Int} (ho:ordOk o) (h1:0<=d) (h2:d<=3000000) {k:Nat} (hk:(k:Int)=o.times\/3000000<o.first+(k:Int)*o.every) (hlow:∀y ∈ upto o k,y<d):nextDue o d= -1:=by
 have he:=ho.2.2.2.2.2.2.1.1
 have b:=kth_pos o d he
 have c:=kth_at o d he
 have g:(k:Int)<=kth o d:=by
  obtain ⟨m,hm⟩:=Int.eq_ofNat_of_zero_le b
  rw[hm] at c ⊢
  by_cases e:m<k
  ·have:=hlow _ (mem_upto (o:=o) e)
   omega
  ·omega
 refine nextDue_out ho h1 h2 ?_
 rcases hk with hk|hk
 ·left;omega
 ·right
  have:=Int.mul_le_mul_of_nonneg_right g (show 0<=o.every by omega)
  omega
open Go.RowKit
theorem ret_into {a b:Int} (h:a=b):Ending.returned (.int .i64 a)=.returned (.int .i64 b):=by rw[h]
theorem specOrd_yes (o:Ord) (w:World) (h:ordOk o):
  Calls Tryz.prog 135 #[.agg #[.int .i64 o.id,.int .i64 o.src,.int .i64 o.dst,.int .i64 o.amount,.int .i64 o.first,.int .i64 o.every,.int .i64 o.times]] w fun e w'=>e=.returned (.bool true)/\Below w.heap.size w w':=
 (specOrd o w).mono fun e w' ⟨⟨b,he,_,h2⟩,hB⟩=>⟨by cases b with|true=>exact he|false=>exact absurd h (h2 rfl),hB⟩
theorem specOrd_no (o:Ord) (w:World) (h:¬ordOk o):
  Calls Tryz.prog 135 #[.agg #[.int .i64 o.id,.int .i64 o.src,.int .i64 o.dst,.int .i64 o.amount,.int .i64 o.first,.int .i64 o.every,.int .i64 o.times]] w fun e w'=>e=.returned (.bool false)/\Below w.heap.size w w':=
 (specOrd o w).mono fun e w' ⟨⟨b,he,h1,_⟩,hB⟩=>⟨by cases b with|false=>exact he|true=>exact absurd (h1 rfl) h,hB⟩
theorem implOrd_yes (o:Ord) (w:World) (h:ordOk o):
  Calls Tryz.prog 74 #[.agg #[.int .i64 o.id,.int .i64 o.src,.int .i64 o.dst,.int .i64 o.amount,.int .i64 o.first,.int .i64 o.every,.int .i64 o.times]] w fun e w'=>e=.returned (.bool true)/\Below w.heap.size w w':=
 (implOrd o w).mono fun e w' ⟨⟨b,he,_,h2⟩,hB⟩=>⟨by cases b with|true=>exact he|false=>exact absurd h (h2 rfl),hB⟩
theorem implOrd_no (o:Ord) (w:World) (h:¬ordOk o):
  Calls Tryz.prog 74 #[.agg #[.int .i64 o.id,.int .i64 o.src,.int .i64 o.dst,.int .i64 o.amount,.int .i64 o.first,.int .i64 o.every,.int .i64 o.times]] w fun e w'=>e=.returned (.bool false)/\Below w.heap.size w w':=
 (implOrd o w).mono fun e w' ⟨⟨b,he,h1,_⟩,hB⟩=>⟨by cases b with|false=>exact he|true=>exact absurd (h1 rfl) h,hB⟩
theorem specNext (o:Ord) (d:Int) (w:World):
  Calls Tryz.prog 122 #[.agg #[.int .i64 o.id,.int .i64 o.src,.int .i64 o.dst,.int .i64 o.amount,.int .i64 o.first,.int .i64 o.every,.int .i64 o.times],.int .i64 d] w fun e w'=>e=.returned (.int .i64 (nextDue o d))/\Below w.heap.size w w':=by
 have X0:Hid (OrdBox (w.alloc (.cells #[.int .i64 o.id,.int .i64 o.src,.int .i64 o.dst,.int .i64 o.amount,.int .i64 o.first,.int .i64 o.every,.int .i64 o.times] 45)) w.heap.size o):=OrdBox.new w o 45
 by_cases ho:ordOk o
 rotate_left
 ·have E:Hid (nextDue o d= -1):=nextDue_no (fun h=>ho h.1)
  have HO:=hidOf ho
  clear ho
  go_enter Tryz.func122,Tryz.ntmps122
  go_wp2_with fail
  refine (specOrd_no o _ HO.out).mono ?_
  rintro e w1 ⟨rfl,B1⟩
  have B1':Hid (Below w.heap.size w w1):=((Below.refl _ _).alloc (Nat.le_refl _) _).trans (B1.mono (by simp))
  clear B1 X0
  go_wp2
  go_ret
  rw[E.out]
  exact ⟨rfl,B1'.out⟩
 have HO:=hidOf ho
 obtain ⟨_,_,_,_,_,⟨f1,f2⟩,⟨e1,e2⟩,t1,t2⟩:=ho
 by_cases hd:0<=d/\d<=3000000
 rotate_left
 ·have E:Hid (nextDue o d= -1):=nextDue_no (fun h=>hd h.2)
  have HD:=hidOf hd
  clear hd f1 f2 e1 e2 t1 t2
  go_enter Tryz.func122,Tryz.ntmps122
  go_wp2_with fail
  refine (specOrd_yes o _ HO.out).mono ?_
  rintro e w1 ⟨rfl,B1⟩
  have B1':Hid (Below w.heap.size w w1):=((Below.refl _ _).alloc (Nat.le_refl _) _).trans (B1.mono (by simp))
  clear B1 X0
  go_wp2_with fail
  refine (l1In_no d 0 3000000 _ HD.out).mono ?_
  rintro e w2 ⟨rfl,hw⟩
  subst hw
  go_wp2
  go_ret
  rw[E.out]
  exact ⟨rfl,B1'.out⟩
 obtain ⟨d1,d2⟩:=hd
 have k1:=kth_pos o d e1
 have k2:=kth_le o d d2 f1 e1
 obtain ⟨m1,m2⟩:=mul_bdo (kth o d) o.every k1 k2 e1 e2
 have KY:Hid (o.times<=kth o d\/3000000<o.first+kth o d*o.every->nextDue o d= -1):=nextDue_out HO.out d1 d2
 have KN:Hid (kth o d<o.times->o.first+kth o d*o.every<=3000000->nextDue o d=o.first+kth o d*o.every):=nextDue_yes HO.out d1 d2
 have KK:Hid (kth o d=if o.first<d then (d-o.first+o.every-1) / o.every else 0):=rfl
 obtain ⟨kk,hkk⟩:∃kk,kk=kth o d:=⟨_,rfl⟩
 rw[←hkk] at k1 k2 m1 m2 KY KN KK
 clear hkk
 go_enter Tryz.func122,Tryz.ntmps122
 go_wp2_with fail
 refine (specOrd_yes o _ HO.out).mono ?_
 rintro e w1 ⟨rfl,B1⟩
 have X1:=hidOf (X0.out.below B1)
 have B1':Hid (Below w.heap.size w w1):=((Below.refl _ _).alloc (Nat.le_refl _) _).trans (B1.mono (by simp))
 clear B1 X0
 obtain ⟨c0,c1,c2,c3,c4,c5,c6,_⟩:=X1.out
 go_wp2_with fail
 refine (l1In_yes d 0 3000000 _ ⟨d1,d2⟩).mono ?_
 rintro e w2 ⟨rfl,hw⟩
 subst hw
 by_cases hf:o.first<d
 ·have ek:Hid (kk=(d-o.first+o.every-1) / o.every):=by have:=KK.out;rw[if_pos hf] at this;exact this
  have ez:¬o.every=0:=by omega
  have eq:(d-o.first+o.every-1).tdiv o.every=kk:=by rw[ek.out,Int.tdiv_eq_ediv_of_nonneg (by omega)]
  clear KK
  by_cases hk:o.times<=kk
  ·go_wp2
   go_ret
   rw[KY.out (.inl hk)]
   exact ⟨rfl,B1'.out⟩
  ·by_cases hm:3000000<o.first+kk*o.every
   ·go_wp2
    go_ret
    rw[KY.out (.inr hm)]
    exact ⟨rfl,B1'.out⟩
   ·go_wp2
    go_ret
    rw[KN.out (by omega) (by omega)]
    exact ⟨rfl,B1'.out⟩
 ·have ek:kk=0:=by have:=KK.out;rw[if_neg hf] at this;exact this
  subst ek
  clear KK
  have et:¬o.times<=0:=by omega
  have em:¬3000000<o.first:=by omega
  go_wp2
  go_ret
  rw[KN.out (by omega) (by omega)]
  exact ⟨ret_into (by omega),B1'.out⟩
open Go.RowKit Go.Shelf
attribute [local go_sem] Oper.semAt_some
theorem OrdBox.kept {n₀:Nat} {w w':World} {R:Nat} {o:Ord} (h:OrdBox w R o) (hb:Below n₀ w w') (hR:R<n₀):OrdBox w' R o:=by
 obtain ⟨h0,h1,h2,h3,h4,h5,h6,h7⟩:=h
 exact ⟨by rw[hb.cell (p:=⟨R,0,none⟩) hR];exact h0,by rw[hb.cell (p:=⟨R,1,none⟩) hR];exact h1,by rw[hb.cell (p:=⟨R,2,none⟩) hR];exact h2,by rw[hb.cell (p:=⟨R,3,none⟩) hR];exact h3,by rw[hb.cell (p:=⟨R,4,none⟩) hR];exact h4,by rw[hb.cell (p:=⟨R,5,none⟩) hR];exact h5,by rw[hb.cell (p:=⟨R,6,none⟩) hR];exact h6,Nat.lt_of_lt_of_le h7 hb.size⟩
def AllDays (o:Ord) (ys:List Int):Prop:=∃k:Nat,(k:Int)<=o.times/\ys=upto o k/\((k:Int)=o.times\/3000000<o.first+(k:Int)*o.every)
def SomeDays (o:Ord) (ys:List Int):Prop:=∃k:Nat,(k:Int)<o.times/\ys=upto o (k+1)/\o.first+(k:Int)*o.every<=3000000
theorem days1_in (F:Fence) (n:Nat) (hf:F.fn 125) (hro:F.round=none) (hn:1<=n) (l Bo n₀:Nat) (o:Ord) (ho:ordOk o) (J Jx:List Int->World->Prop)
  (hY:∀pre x W,J pre W->pre.length<1000->YieldAt F (n-1) Tryz.prog l #[.int .i64 x] W fun e W'=>
   (e=.returned (.bool true)/\J (pre++[x]) W'/\Below n₀ W W')\/(e=.returned (.bool false)/\Jx (pre++[x]) W'))
  (W:World) (hBo:Bo<n₀) (hL:OrdBox W Bo o) (h0:J [] W):
  CallsIn F n Tryz.prog 125 #[.func (.yield l) #[] #[],.pointer (some ⟨Bo,0,none⟩)] W fun e W'=>(∃v,e=.returned v)/\
   ((∃ys,AllDays o ys/\J ys W')\/(∃pre,SomeDays o pre/\Jx pre W')):=by
 obtain ⟨_,_,_,_,_,⟨f1,f2⟩,⟨e1,e2⟩,t1,t2⟩:=ho
 have HL:=hidOf hL
 obtain ⟨c0,c1,c2,c3,c4,c5,c6,_⟩:=hL
 refine callsIn_of_wp Tryz.func125 rfl hf ?_ hro
 simp only[Tryz.ntmps125,List.size_toArray,List.length_cons,List.length_nil,Nat.reduceAdd,Nat.reduceSub,Array.replicate_succ,Array.replicate_zero,List.push_toArray,List.append_toArray,List.nil_append,List.cons_append]
 gi_wp2
 clear c0 c1 c2 c3 c4 c5 c6
 gi_loopw [7] (fun i wr=>∃k:Nat,i=.int .i64 k/\(k:Int)<=o.times/\Hid (OrdBox wr Bo o)/\J (upto o k) wr) (fun i _=>o.times.toNat-(intOf i).toNat)
 case atStart=>exact ⟨0,rfl,by omega,HL,h0⟩
 case round=>
  obtain ⟨k,rfl,hk,hB,hJs⟩:=hrel
  by_cases hlt:(k:Int)<o.times
  ·obtain ⟨m1,m2⟩:=mul_bdo (k:Int) o.every (by omega) (by omega) e1 e2
   obtain ⟨c0,c1,c2,c3,c4,c5,c6,_⟩:=hB.out
   by_cases hgt:3000000<o.first+(k:Int)*o.every
   ·gi_wp2
    refine ⟨fun _ h=>(by cases h),?_⟩
    gi_wp2
    refine bodyPost_ret (results_none rfl _ _ _) rfl ?_
    exact ⟨⟨_,rfl⟩,.inl ⟨_,⟨k,hk,rfl,.inr hgt⟩,hJs⟩⟩
   ·obtain ⟨fn,tmps,assign,body,hy,hR⟩:=hY (upto o k) (o.first+(k:Int)*o.every) wr hJs (by rw[upto_len];omega)
    gi_wp2
    refine hR.mono ?_
    rintro e W3 (⟨rfl,hJ3,hk3⟩|⟨rfl,hJx3⟩)
    ·have hB3:Hid (OrdBox W3 Bo o):=hB.out.kept hk3 hBo
     rw[←upto_succ] at hJ3
     gi_wp2
     go_roundw
     case rel=>exact ⟨k+1,by go_num,by omega,hB3,hJ3⟩
     case measure=>simp[intOf];omega
    ·rw[←upto_succ] at hJx3
     gi_wp2
     refine bodyPost_ret (results_none rfl _ _ _) rfl ?_
     exact ⟨⟨_,rfl⟩,.inr ⟨_,⟨k,hlt,rfl,by omega⟩,hJx3⟩⟩
  ·gi_wp2
   go_end0
   exact ⟨⟨_,rfl⟩,.inl ⟨_,⟨k,hk,rfl,.inl (by omega)⟩,hJs⟩⟩
theorem days_stops (F:Fence) (n:Nat) (hf:F.fn 125) (hro:F.round=none) (hn:1<=n) (Bo n₀:Nat) (o:Ord) (ho:ordOk o) (w:World) (hBo:Bo<n₀) (hn₀:n₀<=w.heap.size) (hL:OrdBox w Bo o):
  SeqStopsK F n Tryz.prog 125 #[.pointer (some ⟨Bo,0,none⟩)] (fun x:Int=>#[Value.int .i64 x]) (Below n₀) (AllDays o) (SomeDays o) 1000 w:=fun l J Jx W hW _ _ hY h0=>
 days1_in F n hf hro hn l Bo n₀ o ho J Jx hY W hBo (hL.kept (hW.mono hn₀) hBo) h0
theorem dueDays (o:Ord) (w:World):
  Calls Tryz.prog 76 #[.agg #[.int .i64 o.id,.int .i64 o.src,.int .i64 o.dst,.int .i64 o.amount,.int .i64 o.first,.int .i64 o.every,.int .i64 o.times]] w fun e w'=>e=.returned (.func (.func 125) #[] #[.pointer (some ⟨w.heap.size,0,none⟩)])/\w'=w.alloc (.cells #[.int .i64 o.id,.int .i64 o.src,.int .i64 o.dst,.int .i64 o.amount,.int .i64 o.first,.int .i64 o.every,.int .i64 o.times] 45):=by
 go_enter Tryz.func76,Tryz.ntmps76
 go_wp2
 go_ret
 exact ⟨rfl,rfl⟩
theorem cell_of_box {W:World} {B:Nat} {v:Value} {t:TypeId} (h:W.heap[B]? =some (.cells #[v] t (0,0))):W.cell? ⟨B,0,none⟩=some v/\W.frozen? ⟨B,0,none⟩=false:=by
 constructor <;>simp[World.cell?,World.frozen?,h]
theorem cell_new (W:World) (v:Value) (t:TypeId):(W.alloc (.cells #[v] t)).cell? ⟨W.heap.size,0,none⟩=some v/\(W.alloc (.cells #[v] t)).frozen? ⟨W.heap.size,0,none⟩=false:=
 cell_of_box (World.alloc_heap_new W _)
theorem cell_alloc' {W:World} {a:Addr} {v:Value} (o:Obj) (h:W.cell? a=some v):(W.alloc o).cell? a=some v:=cell_kept h (World.grownBy_alloc W o none) (fun r e=>by cases e)
theorem frozen_alloc' {W:World} {a:Addr} {v:Value} (o:Obj) (h:W.cell? a=some v) (hf:W.frozen? a=false):(W.alloc o).frozen? a=false:=(frozen_kept h (World.grownBy_alloc W o none) (fun r e=>by cases e)).trans hf
def OneBox (w:World) (R:Nat) (v:Value):Prop:=w.cell? ⟨R,0,none⟩=some v/\w.frozen? ⟨R,0,none⟩=false/\R<w.heap.size
theorem OneBox.new (w:World) (v:Value) (t:TypeId):OneBox (w.alloc (.cells #[v] t)) w.heap.size v:=⟨(cell_new w v t).1,(cell_new w v t).2,by simp⟩
theorem OneBox.kept {n₀:Nat} {w w':World} {R:Nat} {v:Value} (h:OneBox w R v) (hb:Below n₀ w w') (hR:R<n₀):OneBox w' R v:=
 ⟨by rw[hb.cell (p:=⟨R,0,none⟩) hR];exact h.1,by rw[hb.frozen (p:=⟨R,0,none⟩) hR];exact h.2.1,Nat.lt_of_lt_of_le h.2.2 hb.size⟩
open Go.RowKit Go.Shelf
attribute [local go_sem] Oper.semAt_some
theorem implNext_no (o:Ord) (d:Int) (w:World) (h:¬(ordOk o/\0<=d/\d<=3000000)):
  Calls Tryz.prog 25 #[.agg #[.int .i64 o.id,.int .i64 o.src,.int .i64 o.dst,.int .i64 o.amount,.int .i64 o.first,.int .i64 o.every,.int .i64 o.times],.int .i64 d] w fun e w'=>e=.returned (.int .i64 (nextDue o d))/\Below w.heap.size w w':=by
 have E:Hid (nextDue o d= -1):=nextDue_no h
 have X0:Hid (OrdBox (((w.alloc (.cells #[.int .i64 o.id,.int .i64 o.src,.int .i64 o.dst,.int .i64 o.amount,.int .i64 o.first,.int .i64 o.every,.int .i64 o.times] 45)).alloc (.cells #[.int .i64 d] 2)).alloc (.cells #[.int .i64 0] 2)) w.heap.size o/\OneBox (((w.alloc (.cells #[.int .i64 o.id,.int .i64 o.src,.int .i64 o.dst,.int .i64 o.amount,.int .i64 o.first,.int .i64 o.every,.int .i64 o.times] 45)).alloc (.cells #[.int .i64 d] 2)).alloc (.cells #[.int .i64 0] 2)) (w.heap.size+1) (.int .i64 d)/\OneBox (((w.alloc (.cells #[.int .i64 o.id,.int .i64 o.src,.int .i64 o.dst,.int .i64 o.amount,.int .i64 o.first,.int .i64 o.every,.int .i64 o.times] 45)).alloc (.cells #[.int .i64 d] 2)).alloc (.cells #[.int .i64 0] 2)) (w.heap.size+1+1) (.int .i64 0)/\Below w.heap.size w (((w.alloc (.cells #[.int .i64 o.id,.int .i64 o.src,.int .i64 o.dst,.int .i64 o.amount,.int .i64 o.first,.int .i64 o.every,.int .i64 o.times] 45)).alloc (.cells #[.int .i64 d] 2)).alloc (.cells #[.int .i64 0] 2))):=by
  refine ⟨((OrdBox.new w o 45).below ((Below.refl _ _).alloc (Nat.le_refl _) _)).below ((Below.refl _ _).alloc (Nat.le_refl _) _),?_,?_,(((Below.refl _ _).alloc (Nat.le_refl _) _).alloc (by simp) _).alloc (by simp;omega) _⟩
  ·have:=OneBox.new (w.alloc (.cells #[.int .i64 o.id,.int .i64 o.src,.int .i64 o.dst,.int .i64 o.amount,.int .i64 o.first,.int .i64 o.every,.int .i64 o.times] 45)) (.int .i64 d) 2
   rw[World.size_alloc] at this
   exact this.kept ((Below.refl _ _).alloc (Nat.le_refl _) _) (by simp)
  ·have:=OneBox.new ((w.alloc (.cells #[.int .i64 o.id,.int .i64 o.src,.int .i64 o.dst,.int .i64 o.amount,.int .i64 o.first,.int .i64 o.every,.int .i64 o.times] 45)).alloc (.cells #[.int .i64 d] 2)) (.int .i64 0) 2
   simp only[World.size_alloc] at this
   exact this
 by_cases ho:ordOk o
 ·have HO:Hid (ordOk o):=ho
  have HD:Hid (¬(0<=d/\d<=3000000)):=fun k=>h ⟨ho,k⟩
  clear ho h
  go_enter Tryz.func25,Tryz.ntmps25
  go_wp2_with fail
  refine (implOrd_yes o _ HO.out).mono ?_
  rintro e w1 ⟨rfl,B1⟩
  have X1:Hid (OrdBox w1 w.heap.size o/\OneBox w1 (w.heap.size+1) (.int .i64 d)/\OneBox w1 (w.heap.size+1+1) (.int .i64 0)/\Below w.heap.size w w1):=by
   simp only[World.size_alloc] at B1
   obtain ⟨x1,x2,x3,x4⟩:=X0.out
   exact ⟨x1.kept B1 (by omega),x2.kept B1 (by omega),x3.kept B1 (by omega),x4.trans (B1.mono (by omega))⟩
  clear B1 X0
  obtain ⟨⟨c0,c1,c2,c3,c4,c5,c6,hz1⟩,⟨cd,fd,hz2⟩,⟨cr,fr,hz3⟩,hB⟩:=X1.out
  go_wp2_with fail
  refine (dayOk_no d _ HD.out).mono ?_
  rintro e w2 ⟨rfl,hw⟩
  subst hw
  go_wp2
  have hs:=World.cell?_setCell_same' w2 ⟨w.heap.size+1+1,0,none⟩ (.int .i64 (-1)) (by rw[cr];rfl)
  refine bodyPost_ret (v:=.int .i64 (-1)) (by simp[results,Tryz.results25,go_sem,hs]) rfl ⟨?_,?_⟩
  ·rw[E.out]
  ·exact hB.setCell (p:=⟨w.heap.size+1+1,0,none⟩) (by simp;omega) _
 ·have HO:Hid (¬ordOk o):=ho
  clear ho h
  go_enter Tryz.func25,Tryz.ntmps25
  go_wp2_with fail
  refine (implOrd_no o _ HO.out).mono ?_
  rintro e w1 ⟨rfl,B1⟩
  have X1:Hid (OrdBox w1 w.heap.size o/\OneBox w1 (w.heap.size+1) (.int .i64 d)/\OneBox w1 (w.heap.size+1+1) (.int .i64 0)/\Below w.heap.size w w1):=by
   simp only[World.size_alloc] at B1
   obtain ⟨x1,x2,x3,x4⟩:=X0.out
   exact ⟨x1.kept B1 (by omega),x2.kept B1 (by omega),x3.kept B1 (by omega),x4.trans (B1.mono (by omega))⟩
  clear B1 X0
  obtain ⟨⟨c0,c1,c2,c3,c4,c5,c6,hz1⟩,⟨cd,fd,hz2⟩,⟨cr,fr,hz3⟩,hB⟩:=X1.out
  go_wp2
  have hs:=World.cell?_setCell_same' w1 ⟨w.heap.size+1+1,0,none⟩ (.int .i64 (-1)) (by rw[cr];rfl)
  refine bodyPost_ret (v:=.int .i64 (-1)) (by simp[results,Tryz.results25,go_sem,hs]) rfl ⟨?_,?_⟩
  ·rw[E.out]
  ·exact hB.setCell (p:=⟨w.heap.size+1+1,0,none⟩) (by simp;omega) _
theorem implNext_yes (o : Ord) (d : Int) (w : World) (ho : ordOk o) (d1 : 0 <= d) (d2 : d <= 3000000) :
    Calls Tryz.prog 25 #[.agg #[.int .i64 o.id,.int .i64 o.src,.int .i64 o.dst,.int .i64 o.amount,.int .i64 o.first,.int .i64 o.every,.int .i64 o.times],.int .i64 d] w fun e w'=>e=.returned (.int .i64 (nextDue o d))/\Below w.heap.size w w':=by
  have X0:Hid (OrdBox (((w.alloc (.cells #[.int .i64 o.id,.int .i64 o.src,.int .i64 o.dst,.int .i64 o.amount,.int .i64 o.first,.int .i64 o.every,.int .i64 o.times] 45)).alloc (.cells #[.int .i64 d] 2)).alloc (.cells #[.int .i64 0] 2)) w.heap.size o/\OneBox (((w.alloc (.cells #[.int .i64 o.id,.int .i64 o.src,.int .i64 o.dst,.int .i64 o.amount,.int .i64 o.first,.int .i64 o.every,.int .i64 o.times] 45)).alloc (.cells #[.int .i64 d] 2)).alloc (.cells #[.int .i64 0] 2)) (w.heap.size+1) (.int .i64 d)/\OneBox (((w.alloc (.cells #[.int .i64 o.id,.int .i64 o.src,.int .i64 o.dst,.int .i64 o.amount,.int .i64 o.first,.int .i64 o.every,.int .i64 o.times] 45)).alloc (.cells #[.int .i64 d] 2)).alloc (.cells #[.int .i64 0] 2)) (w.heap.size+1+1) (.int .i64 0)/\Below w.heap.size w (((w.alloc (.cells #[.int .i64 o.id,.int .i64 o.src,.int .i64 o.dst,.int .i64 o.amount,.int .i64 o.first,.int .i64 o.every,.int .i64 o.times] 45)).alloc (.cells #[.int .i64 d] 2)).alloc (.cells #[.int .i64 0] 2))):=by
    refine ⟨((OrdBox.new w o 45).below ((Below.refl _ _).alloc (Nat.le_refl _) _)).below ((Below.refl _ _).alloc (Nat.le_refl _) _),?_,?_,(((Below.refl _ _).alloc (Nat.le_refl _) _).alloc (by simp) _).alloc (by simp;omega) _⟩
    · have:=OneBox.new (w.alloc (.cells #[.int .i64 o.id,.int .i64 o.src,.int .i64 o.dst,.int .i64 o.amount,.int .i64 o.first,.int .i64 o.every,.int .i64 o.times] 45)) (.int .i64 d) 2
      rw[World.size_alloc] at this
      exact this.kept ((Below.refl _ _).alloc (Nat.le_refl _) _) (by simp)
    · have:=OneBox.new ((w.alloc (.cells #[.int .i64 o.id,.int .i64 o.src,.int .i64 o.dst,.int .i64 o.amount,.int .i64 o.first,.int .i64 o.every,.int .i64 o.times] 45)).alloc (.cells #[.int .i64 d] 2)) (.int .i64 0) 2
      simp only[World.size_alloc] at this
      exact this
  have HO:=hidOf ho
  clear ho
  refine (callsIn_wide (n:=6)).1 ?_
  refine callsIn_of_wp_marks Tryz.func25 rfl trivial ?_ rfl
  simp only[Tryz.ntmps25,List.size_toArray,List.length_cons,List.length_nil,Nat.reduceAdd,Nat.reduceSub,Array.replicate_succ,Array.replicate_zero,List.push_toArray,List.append_toArray,List.nil_append,List.cons_append]
  gi_wp2_with (first
    | (refine ⟨trivial, ?_⟩; gi_at_call 74; refine (callsIn_wide.2 (implOrd_yes o _ HO.out)).mono ?_
       rintro e w1 ⟨rfl,B1⟩
       have X1:Hid (OrdBox w1 w.heap.size o/\OneBox w1 (w.heap.size+1) (.int .i64 d)/\OneBox w1 (w.heap.size+1+1) (.int .i64 0)/\Below w.heap.size w w1):=by
         simp only[World.size_alloc] at B1
         obtain ⟨x1,x2,x3,x4⟩:=X0.out
         exact ⟨x1.kept B1 (by omega),x2.kept B1 (by omega),x3.kept B1 (by omega),x4.trans (B1.mono (by omega))⟩
       clear B1 X0
       obtain ⟨⟨c0,c1,c2,c3,c4,c5,c6,hz1⟩,⟨cd,fd,hz2⟩,⟨cr,fr,hz3⟩,hB⟩:=X1.out)
    | (refine ⟨trivial,?_⟩;gi_at_call 75;refine (callsIn_wide.2 (dayOk_yes d _ ⟨d1,d2⟩)).mono ?_;rintro e w2 ⟨rfl,hw⟩;subst hw)
    | (refine ⟨trivial,?_⟩;gi_at_call 76;refine (callsIn_wide.2 (dueDays o _)).mono ?_;rintro e w3 ⟨rfl,hw⟩;subst hw))
  have XB:OrdBox (w2.alloc (.cells #[.int .i64 o.id,.int .i64 o.src,.int .i64 o.dst,.int .i64 o.amount,.int .i64 o.first,.int .i64 o.every,.int .i64 o.times] 45)) w2.heap.size o:=OrdBox.new w2 o 45
  have hB0:Below w.heap.size w (w2.alloc (.cells #[.int .i64 o.id,.int .i64 o.src,.int .i64 o.dst,.int .i64 o.amount,.int .i64 o.first,.int .i64 o.every,.int .i64 o.times] 45)):=hB.alloc hB.size _
  refine wpIn_rangeFunc_ownF rfl (by omega) (gf:=125) (lb:=#[.pointer (some ⟨w2.heap.size,0,none⟩)]) rfl trivial (enters_of Tryz.func125 (by kernel_rfl) rfl)
    (days_stops Fence.wide 5 trivial rfl (by omega) w2.heap.size (w2.heap.size+1) o HO.out _ (by omega) (by simp) XB) belowK_t (belowK_b (by simp)) (Below.refl _ _) (fun _=>rfl)
    (fun pre W=>((∀y ∈ pre,y<d)/\W.cell? ⟨w.heap.size+1,0,none⟩=some (.int .i64 d)/\W.cell? ⟨w.heap.size+1+1,0,none⟩=some (.int .i64 0)/\W.frozen? ⟨w.heap.size+1+1,0,none⟩=false)/\Below w.heap.size w W)
    (fun c pre W=>(c=.ret/\∃p x,pre=p++[x]/\(∀y ∈ p,y<d)/\d<=x/\W.cell? ⟨w.heap.size+1+1,0,none⟩=some (.int .i64 x))/\Below w.heap.size w W)
    (OwnFrom.and (Own.from (fun s A B row hs hg hr=>⟨hs.1,cell_kept hs.2.1 hg hr,cell_kept hs.2.2.1 hg hr,(frozen_kept hs.2.2.1 hg hr).trans hs.2.2.2⟩) _) (ownFrom_below (Nat.le_refl _) (by simp;omega)))
    (fun c=>OwnFrom.and (Own.from (fun s A B row hs hg hr=>⟨hs.1,hs.2.choose,hs.2.choose_spec.choose,hs.2.choose_spec.choose_spec.1,hs.2.choose_spec.choose_spec.2.1,hs.2.choose_spec.choose_spec.2.2.1,cell_kept hs.2.choose_spec.choose_spec.2.2.2 hg hr⟩) _) (ownFrom_below (Nat.le_refl _) (by simp;omega)))
    ⟨⟨by simp,cell_alloc' _ cd,cell_alloc' _ cr,frozen_alloc' _ cr fr⟩,hB0⟩
    (fun x=>{tmps:=#[.agg #[.int .i64 o.id,.int .i64 o.src,.int .i64 o.dst,.int .i64 o.amount,.int .i64 o.first,.int .i64 o.every,.int .i64 o.times],.int .i64 d,.pointer (some ⟨w.heap.size,0,none⟩),.pointer (some ⟨w.heap.size+1,0,none⟩),.pointer (some ⟨w.heap.size+1+1,0,none⟩),.int .i64 x,.agg #[.int .i64 o.id,.int .i64 o.src,.int .i64 o.dst,.int .i64 o.amount,.int .i64 o.first,.int .i64 o.every,.int .i64 o.times],.bool true,.bool false,.bool false,.int .i64 d,.bool true,.bool false,.bool false,.agg #[.int .i64 o.id,.int .i64 o.src,.int .i64 o.dst,.int .i64 o.amount,.int .i64 o.first,.int .i64 o.every,.int .i64 o.times],.func (.func 125) #[] #[.pointer (some ⟨w2.heap.size,0,none⟩)],.int .i64 x,undef,undef,undef,undef],defers:=[]}) ?assign ?body ?done ?stop
  case assign=>
    intro l x W K hK
    gi_wp2
    exact hK
  case body=>
    rintro l pre x W ⟨⟨hp,hcd,hcr,hfr⟩,hBW⟩ _
    clear c0 c1 c2 c3 c4 c5 c6 cd cr fd fr X1 XB
    by_cases hx:d<=x
    · gi_wp2
      exact ⟨KeepsOthers.setCell _ _ _,⟨rfl,pre,x,rfl,hp,hx,World.cell?_setCell_same' _ _ _ (by rw[hcr];rfl)⟩,hBW.setCell (p:=⟨w.heap.size+1+1,0,none⟩) (by simp;omega) _⟩
    · gi_wp2
      exact ⟨KeepsOthers.refl _,Below.refl _ _,⟨fun y hy=>(List.mem_append.1 hy).elim (hp y) (fun e=>by simp at e;subst e;omega),hcd,hcr,hfr⟩,hBW⟩
  case done=>
    rintro D ys W hD ⟨k,hk1,rfl,hk2⟩ ⟨⟨hp,hcd,hcr,hfr⟩,hBW⟩ hK
    have E:Hid (nextDue o d= -1):=nextDue_miss HO.out d1 d2 hk2 hp
    clear c0 c1 c2 c3 c4 c5 c6 cd cr fd fr X1 XB hk1 hk2 hp
    gi_wp2
    have hK':=(KeepsOthers.setCell W ⟨w.heap.size+1+1,0,none⟩ (.int .i64 (-1))).same D _ hK rfl
    refine ⟨by simp,.inl ⟨_,_,rfl,run_takeDeferred hK',?_⟩⟩
    have hc5:=cell_kept (World.cell?_setCell_same' W ⟨w.heap.size+1+1,0,none⟩ (.int .i64 (-1)) (by rw[hcr];rfl)) (grownBy_putObj' _ D (.deferred none)) (fun r e=>by cases e;exact ⟨_,hK',rfl⟩)
    refine ⟨.int .i64 (-1),?_,by rw[E.out],(hBW.setCell (p:=⟨w.heap.size+1+1,0,none⟩) (by simp;omega) _).trans (belowK_b (w:=w) (Nat.le_refl _) _ D _ _ (by simp at hD;omega) hK' rfl rfl)⟩
    simp[results,Tryz.results25,go_sem,hc5]
  case stop=>
    rintro D c pre W hD ⟨k,hk1,rfl,hk2⟩ ⟨⟨rfl,p,x,hpx,hp,hx,hcr⟩,hBW⟩ hK
    rw[upto_succ] at hpx
    obtain ⟨rfl,e2⟩:=List.append_inj' hpx rfl
    obtain rfl:o.first+(k:Int)*o.every=x:=by simpa using e2
    have E:Hid (nextDue o d=o.first+(k:Int)*o.every):=nextDue_hit HO.out d1 d2 hk1 hk2 hx hp
    clear c0 c1 c2 c3 c4 c5 c6 cd cr fd fr X1 XB hk1 hk2 hp hx hpx e2
    gi_wp2
    refine ⟨by simp,.inl ⟨_,_,rfl,run_takeDeferred hK,?_⟩⟩
    have hc5:=cell_kept hcr (grownBy_putObj' _ D (.deferred none)) (fun r e=>by cases e;exact ⟨_,hK,rfl⟩)
    refine ⟨.int .i64 (o.first+(k:Int)*o.every),?_,by rw[E.out],hBW.trans (belowK_b (w:=w) (Nat.le_refl _) W D _ _ (by simp at hD;omega) hK rfl rfl)⟩
    simp[results,Tryz.results25,go_sem,hc5]
theorem implNext (o:Ord) (d:Int) (w:World):
  Calls Tryz.prog 25 #[.agg #[.int .i64 o.id,.int .i64 o.src,.int .i64 o.dst,.int .i64 o.amount,.int .i64 o.first,.int .i64 o.every,.int .i64 o.times],.int .i64 d] w fun e w'=>e=.returned (.int .i64 (nextDue o d))/\Below w.heap.size w w':=by
 by_cases h:ordOk o/\0<=d/\d<=3000000
 ·exact implNext_yes o d w h.1 h.2.1 h.2.2
 ·exact implNext_no o d w h
open Go.RowKit
def isDue (o:Ord) (d:Int):Prop:=(0<=d/\d<=3000000)/\nextDue o d=d
theorem isDue_ok {o:Ord} {d:Int} (h:isDue o d):ordOk o:=by
 by_cases e:ordOk o/\0<=d/\d<=3000000
 ·exact e.1
 ·have:=nextDue_no e
  have h2:=h.2
  have h1:=h.1.1
  exfalso
  omega
theorem isDue_first {o:Ord} {d:Int} (h:isDue o d):o.first<=d/\(d-o.first) % o.every=0/\(d-o.first) / o.every<o.times:=by
 have ho:=isDue_ok h
 obtain ⟨⟨h1,h2⟩,h3⟩:=h
 have he:=ho.2.2.2.2.2.2.1.1
 have k:=kth_pos o d he
 by_cases hk:o.times<=kth o d\/3000000<o.first+kth o d*o.every
 ·rw[nextDue_out ho h1 h2 hk] at h3;omega
 ·rw[nextDue_yes ho h1 h2 (by omega) (by omega)] at h3
  have e:d-o.first=kth o d*o.every:=by omega
  rw[e,Int.mul_emod_left,Int.mul_ediv_cancel _ (by omega)]
  have:=Int.mul_nonneg k (show 0<=o.every by omega)
  exact ⟨by omega,rfl,by omega⟩
theorem isDue_of {o:Ord} {d:Int} (ho:ordOk o) (h1:o.first<=d) (h2:d<=3000000) (hm:(d-o.first) % o.every=0) (hq:(d-o.first) / o.every<o.times):isDue o d:=by
 have hf:=ho.2.2.2.2.2.1.1
 have he:=ho.2.2.2.2.2.2.1.1
 refine ⟨⟨by omega,h2⟩,?_⟩
 have e:=Int.emod_add_mul_ediv (d-o.first) o.every
 obtain ⟨q,hq'⟩:∃q,q=(d-o.first) / o.every:=⟨_,rfl⟩
 rw[←hq'] at e hq
 rw[hm,Int.mul_comm] at e
 have q0:0<=q:=by rw[hq'];exact Int.ediv_nonneg (by omega) (by omega)
 have a:=kth_least o d he q q0 (by omega)
 have b:=kth_at o d he
 have c:q<=kth o d:=by
  by_cases hlt:kth o d<q
  ·have:=Int.mul_le_mul_of_nonneg_right (show kth o d<=q-1 by omega) (show 0<=o.every by omega)
   rw[Int.sub_mul] at this
   omega
  ·omega
 have ek:kth o d=q:=by omega
 rw[nextDue_yes ho (by omega) h2 (by omega) (by rw[ek];omega),ek]
 omega
theorem specIs (o:Ord) (d:Int) (w:World):
  Calls Tryz.prog 153 #[.agg #[.int .i64 o.id,.int .i64 o.src,.int .i64 o.dst,.int .i64 o.amount,.int .i64 o.first,.int .i64 o.every,.int .i64 o.times],.int .i64 d] w fun e w'=>Tells e (isDue o d)/\Below w.heap.size w w':=by
 have X0:Hid (OrdBox (w.alloc (.cells #[.int .i64 o.id,.int .i64 o.src,.int .i64 o.dst,.int .i64 o.amount,.int .i64 o.first,.int .i64 o.every,.int .i64 o.times] 45)) w.heap.size o):=OrdBox.new w o 45
 by_cases ho:ordOk o
 rotate_left
 ·have E:Hid (¬isDue o d):=fun h=>ho (isDue_ok h)
  have HO:=hidOf ho
  clear ho
  go_enter Tryz.func153,Tryz.ntmps153
  go_wp2_with fail
  refine (specOrd_no o _ HO.out).mono ?_
  rintro e w1 ⟨rfl,B1⟩
  have B1':Hid (Below w.heap.size w w1):=((Below.refl _ _).alloc (Nat.le_refl _) _).trans (B1.mono (by simp))
  clear B1 X0
  go_wp2
  go_ret
  exact ⟨Tells.no E.out,B1'.out⟩
 have HO:=hidOf ho
 obtain ⟨_,_,_,_,_,⟨f1,f2⟩,⟨e1,e2⟩,t1,t2⟩:=ho
 have ST:∀{Q:Ending->World->Prop},True:=trivial
 clear ST
 by_cases hd:o.first<=d/\d<=3000000
 rotate_left
 ·have E:Hid (¬isDue o d):=fun h=>hd ⟨(isDue_first h).1,h.1.2⟩
  have HD:=hidOf hd
  clear hd e1 e2 t1 t2
  go_enter Tryz.func153,Tryz.ntmps153
  go_wp2_with fail
  refine (specOrd_yes o _ HO.out).mono ?_
  rintro e w1 ⟨rfl,B1⟩
  have X1:=hidOf (X0.out.below B1)
  have B1':Hid (Below w.heap.size w w1):=((Below.refl _ _).alloc (Nat.le_refl _) _).trans (B1.mono (by simp))
  clear B1 X0
  obtain ⟨c0,c1,c2,c3,c4,c5,c6,_⟩:=X1.out
  go_wp2_with fail
  refine (l1In_no d o.first 3000000 _ HD.out).mono ?_
  rintro e w2 ⟨rfl,hw⟩
  subst hw
  go_wp2
  go_ret
  exact ⟨Tells.no E.out,B1'.out⟩
 obtain ⟨d1,d2⟩:=hd
 have em:(d-o.first).tmod o.every=(d-o.first) % o.every:=Int.tmod_eq_emod_of_nonneg (by omega)
 have eq:(d-o.first).tdiv o.every=(d-o.first) / o.every:=Int.tdiv_eq_ediv_of_nonneg (by omega)
 have KY:Hid ((d-o.first) % o.every=0->(d-o.first) / o.every<o.times->isDue o d):=isDue_of HO.out d1 d2
 have KN:Hid (isDue o d->(d-o.first) % o.every=0/\(d-o.first) / o.every<o.times):=fun h=>(isDue_first h).2
 have ez:¬o.every=0:=by omega
 go_enter Tryz.func153,Tryz.ntmps153
 go_wp2_with fail
 refine (specOrd_yes o _ HO.out).mono ?_
 rintro e w1 ⟨rfl,B1⟩
 have X1:=hidOf (X0.out.below B1)
 have B1':Hid (Below w.heap.size w w1):=((Below.refl _ _).alloc (Nat.le_refl _) _).trans (B1.mono (by simp))
 clear B1 X0
 obtain ⟨c0,c1,c2,c3,c4,c5,c6,_⟩:=X1.out
 go_wp2_with fail
 refine (l1In_yes d o.first 3000000 _ ⟨d1,d2⟩).mono ?_
 rintro e w2 ⟨rfl,hw⟩
 subst hw
 have q0:0<=(d-o.first) / o.every:=Int.ediv_nonneg (by omega) (by omega)
 have q9:(d-o.first) / o.every<=3000000:=Int.le_trans (Int.ediv_le_self _ (by omega)) (by omega)
 obtain ⟨m,hm⟩:∃m,(d-o.first) % o.every=m:=⟨_,rfl⟩
 obtain ⟨q,hq⟩:∃q,(d-o.first) / o.every=q:=⟨_,rfl⟩
 rw[hm] at em KY KN
 rw[hq] at eq KY KN q0 q9
 by_cases hz:m=0
 ·have hb:(m == 0)=true:=by simp[hz]
  by_cases ht:q<o.times
  ·have htd:decide (q<o.times)=true:=decide_eq_true ht
   go_wp2
   go_quiet (fail)
   go_wp2
   go_ret
   exact ⟨Tells.yes (KY.out hz ht),B1'.out.trans ⟨rfl,rfl,rfl,Nat.le_refl _,fun _ _=>rfl⟩⟩
  ·have htd:decide (q<o.times)=false:=decide_eq_false ht
   go_wp2
   go_quiet (fail)
   go_wp2
   go_ret
   exact ⟨Tells.no (fun h=>by have:=(KN.out h).2;omega),B1'.out.trans ⟨rfl,rfl,rfl,Nat.le_refl _,fun _ _=>rfl⟩⟩
 ·have hb:(m == 0)=false:=by simp[hz]
  go_wp2
  go_quiet (fail)
  go_wp2
  go_ret
  exact ⟨Tells.no (fun h=>hz (KN.out h).1),B1'.out.trans ⟨rfl,rfl,rfl,Nat.le_refl _,fun _ _=>rfl⟩⟩
theorem implIs (o:Ord) (d:Int) (w:World):
  Calls Tryz.prog 78 #[.agg #[.int .i64 o.id,.int .i64 o.src,.int .i64 o.dst,.int .i64 o.amount,.int .i64 o.first,.int .i64 o.every,.int .i64 o.times],.int .i64 d] w fun e w'=>Tells e (isDue o d)/\Below w.heap.size w w':=by
 by_cases hd:0<=d/\d<=3000000
 rotate_left
 ·have E:Hid (¬isDue o d):=fun h=>hd h.1
  have HD:=hidOf hd
  clear hd
  go_enter Tryz.func78,Tryz.ntmps78
  go_wp2_with fail
  refine (dayOk_no d _ HD.out).mono ?_
  rintro e w2 ⟨rfl,hw⟩
  subst hw
  go_wp2
  go_ret
  exact ⟨Tells.no E.out,(Below.refl _ _).alloc (Nat.le_refl _) _⟩
 have HD:=hidOf hd
 clear hd
 go_enter Tryz.func78,Tryz.ntmps78
 go_wp2_with fail
 refine (dayOk_yes d _ HD.out).mono ?_
 rintro e w2 ⟨rfl,hw⟩
 subst hw
 go_wp2_with fail
 refine (implNext o d _).mono ?_
 rintro e w1 ⟨rfl,B1⟩
 have B1':Hid (Below w.heap.size w w1):=((Below.refl _ _).alloc (Nat.le_refl _) _).trans (B1.mono (by simp))
 clear B1
 have IY:Hid (nextDue o d=d->isDue o d):=fun h=>⟨HD.out,h⟩
 have IN:Hid (isDue o d->nextDue o d=d):=fun h=>h.2
 obtain ⟨v,hv⟩:∃v,nextDue o d=v:=⟨_,rfl⟩
 rw[hv] at IY IN ⊢
 by_cases e:v=d
 ·have eb:(v == d)=true:=by simp[e]
  go_wp2
  go_ret
  exact ⟨Tells.yes (IY.out e),B1'.out⟩
 ·have eb:(v == d)=false:=by simp[e]
  go_wp2
  go_ret
  exact ⟨Tells.no (fun h=>e (IN.out h)),B1'.out⟩
end Go.Proofs.YtghkbhggopiajaaGreatDoor
