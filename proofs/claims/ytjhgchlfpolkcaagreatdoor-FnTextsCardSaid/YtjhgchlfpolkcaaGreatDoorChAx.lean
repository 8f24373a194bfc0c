/- Accounts and forests as plain data. -/
import Derived.Test.YtjhgchlfpolkcaaGreatDoorRows
import Derived.WalkKit
import Derived.WalkLawsBesides
import Derived.Below
import Derived.Deep.QuietTactic
import Derived.BigQuiet
import Derived.OwnWalk
namespace Go.Proofs.YtjhgchlfpolkcaaGreatDoor
open Value renaming int → Ii,slice → Sl
open IntKind renaming i64 → Jj
open Nat renaming le_refl → Nf
open Go.RowKit.Below renaming refl → Bf
open Go.Proofs.Tryz renaming prog → Pg
set_option maxRecDepth 8000
set_option maxHeartbeats 2000000
structure al where
 id:Int
 up:Int
 limit:Int
 rate:Int
 target:Int
 frozen:Bool
 balance:Int
 carry:Int
def fb (F:Nat->al) (id:Int):Nat->Nat->Option Nat
 | 0,_=>none
 | m+1,k=>if (F k).id=id then some k else fb F id m (k+1)
def aB (F:Nat->al) (n:Nat) (id:Int):Option Nat:=fb F id n 0
theorem ij {F:Nat->al} {id:Int}:∀{m k i:Nat},fb F id m k=some i->k<=i/\i<k+m/\(F i).id=id/\∀j,k<=j->j<i->(F j).id≠id
 | 0,k,i,h=>by simp[fb] at h
 | m+1,k,i,h=>by
  unfold fb at h
  split at h
  ·rename_i hk
   obtain rfl:=Option.some.inj h
   exact ⟨Nf _,by omega,hk,fun j h1 h2=>by omega⟩
  ·rename_i hk
   obtain ⟨a,b,c,d⟩:=ij h
   refine ⟨by omega,by omega,c,fun j h1 h2=>?_⟩
   by_cases e:j=k
   ·subst e;exact hk
   ·exact d j (by omega) h2
theorem ja {F:Nat->al} {id:Int}:∀{m k i:Nat},k<=i->i<k+m->(F i).id=id->(∀j,k<=j->j<i->(F j).id≠id)->fb F id m k=some i
 | 0,k,i,h1,h2,_,_=>by omega
 | m+1,k,i,h1,h2,h3,h4=>by
  unfold fb
  by_cases e:k=i
  ·subst e;simp[h3]
  ·rw[if_neg (h4 k (Nf _) (by omega))]
   exact ja (by omega) (by omega) h3 (fun j a b=>h4 j (by omega) b)
theorem ii {F:Nat->al} {id:Int}:∀{m k:Nat},(∀j,k<=j->j<k+m->(F j).id≠id)->fb F id m k=none
 | 0,k,_=>rfl
 | m+1,k,h=>by
  unfold fb
  rw[if_neg (h k (Nf _) (by omega))]
  exact ii (fun j a b=>h j (by omega) (by omega))
theorem bD {F:Nat->al} {n:Nat} {id:Int} {i:Nat} (h:aB F n id=some i):i<n/\(F i).id=id:=by
 obtain ⟨_,b,c,_⟩:=ij h
 exact ⟨by omega,c⟩
theorem i6 {F:Nat->al} {n:Nat} {id:Int} {i:Nat} (h1:i<n) (h2:(F i).id=id) (h3:∀j,j<i->(F j).id≠id):aB F n id=some i:=
 ja (Nat.zero_le _) (by omega) h2 (fun j _ b=>h3 j b)
theorem js {F:Nat->al} {n:Nat} {id:Int} (h:∀j,j<n->(F j).id≠id):aB F n id=none:=
 ii (fun j _ b=>h j (by omega))
def aT (F:Nat->al) (n:Nat) (id:Int):Int:=match aB F n id with|some i=>i|none=> -1
theorem aX {F:Nat->al} {n:Nat} {id:Int} {i:Nat} (h:aB F n id=some i):aT F n id=i:=by simp[aT,h]
theorem bL {F:Nat->al} {n:Nat} {id:Int} (h:aB F n id=none):aT F n id= -1:=by simp[aT,h]
def aR (F:Nat->al) (n:Nat):Nat->Int->Option (List Int)
 | 0,id=>if id=0 then some [] else none
 | m+1,id=>if id=0 then some [] else match aB F n id with|none=>none|some i=>(aR F n m (F i).up).map (id:: ·)
def bU (F:Nat->al) (n:Nat):Nat->al->Bool
 | 0,_=>false
 | m+1,a=>if a.up=0 then true else match aB F n a.up with|none=>false|some i=>bU F n m (F i)
theorem fv (F:Nat->al) (n:Nat):∀(m:Nat) (id:Int) (i:Nat),id≠0->aB F n id=some i->(aR F n m id).isSome=bU F n m (F i)
 | 0,id,i,h0,_=>by simp[aR,bU,h0]
 | m+1,id,i,h0,hp=>by
  simp only[aR,bU,if_neg h0,hp,Option.isSome_map]
  by_cases hu:(F i).up=0
  ·cases m <;>simp[aR,hu]
  ·rw[if_neg hu]
   cases hq:aB F n (F i).up with
   | none=>cases m <;>simp[aR,hu,hq]
   | some j=>exact fv F n m _ j hu hq
def ey (a:al):Prop:=(1<=a.id/\a.id<=1000000)/\(0<=a.up/\a.up<=1000000)/\(-1<=a.limit/\a.limit<=1000000000000)/\(0<=a.rate/\a.rate<=10000)/\(-1<=a.target/\a.target<=1000000000000)/\(-1000000000000<=a.balance/\a.balance<=1000000000000)/\(0<=a.carry/\a.carry<=3649999)/\
 (a.up=0->0<=a.limit/\a.target<0)/\(a.up≠0->a.rate=0/\a.carry=0)
def gx (a:al):Prop:=(1<=a.id/\a.id<=1000000)/\(-1<=a.limit/\a.limit<=1000000000000)/\(-1<=a.target/\a.target<=1000000000000)/\(-1000000000000<=a.balance/\a.balance<=1000000000000)/\
 (a.up≠0->a.rate=0/\a.carry=0)/\(a.up=0->a.limit≠ -1/\a.target= -1/\(0<=a.rate/\a.rate<=10000)/\(0<=a.carry/\a.carry<3650000))
theorem oA (a:al):ey a↔gx a/\0<=a.up/\a.up<=1000000:=by
 constructor
 ·rintro ⟨h1,h2,h3,h4,h5,h6,h7,h8,h9⟩
  refine ⟨⟨h1,h3,h5,h6,h9,fun hu=>?_⟩,h2⟩
  have:=h8 hu
  exact ⟨by omega,by omega,h4,by omega⟩
 ·rintro ⟨⟨h1,h3,h5,h6,h9,h8⟩,h2⟩
  by_cases hu:a.up=0
  ·have:=h8 hu
   exact ⟨h1,h2,h3,this.2.2.1,h5,h6,by omega,fun _=>by omega,h9⟩
  ·have:=h9 hu
   exact ⟨h1,h2,h3,by omega,h5,h6,by omega,fun e=>absurd e hu,h9⟩
def lh (F:Nat->al) (n:Nat):Prop:=∀i,0<i->i<n->(F (i-1)).id<(F i).id
def ap (F:Nat->al) (n:Nat):Prop:=n<=12/\(∀i,i<n->ey (F i))/\lh F n/\∀i,i<n->(aR F n n (F i).id).isSome=true
theorem py {F:Nat->al} {n:Nat} (h:lh F n):∀{i j:Nat},i<j->j<n->(F i).id<(F j).id:=by
 intro i j hij hj
 induction j with
 | zero=>omega
 | succ j ih=>
  have s:=h (j+1) (by omega) hj
  simp only[Nat.add_sub_cancel] at s
  by_cases e:i=j
  ·subst e;exact s
  ·exact Int.lt_trans (ih (by omega) (by omega)) s
theorem dK {F:Nat->al} {n:Nat} (h:lh F n) {i:Nat} (hi:i<n):aB F n (F i).id=some i:=
 i6 hi rfl (fun j hj e=>by have:=py h hj hi;omega)
theorem i7 (F:Nat->al) (n:Nat):ap F n↔n<=12/\(∀i,i<n->gx (F i))/\lh F n/\∀i,i<n->bU F n n (F i)=true:=by
 constructor
 ·rintro ⟨h1,h2,h3,h4⟩
  refine ⟨h1,fun i hi=>((oA _).1 (h2 i hi)).1,h3,fun i hi=>?_⟩
  rw[←fv F n n (F i).id i (by have:=(h2 i hi).1;omega) (dK h3 hi)]
  exact h4 i hi
 ·rintro ⟨h1,h2,h3,h4⟩
  refine ⟨h1,fun i hi=>(oA _).2 ⟨h2 i hi,?_⟩,h3,fun i hi=>?_⟩
  ·have hl:=h4 i hi
   cases n with
   | zero=>omega
   | succ m=>
    unfold bU at hl
    by_cases hu:(F i).up=0
    ·omega
    ·rw[if_neg hu] at hl
     cases hp:aB F (m+1) (F i).up with
     | none=>rw[hp] at hl;simp at hl
     | some j=>
      obtain ⟨hj,hid⟩:=bD hp
      have:=(h2 j hj).1
      omega
  ·rw[fv F n n (F i).id i (by have:=(h2 i hi).1;omega) (dK h3 hi)]
   exact h4 i hi
open Go.RowKit
def eA (w:World) (b p:Nat) (a:al):Prop:=
 w.cell? ⟨b,p,none⟩=some (Ii Jj a.id)/\w.cell? ⟨b,p+1,none⟩=some (Ii Jj a.up)/\w.cell? ⟨b,p+2,none⟩=some (Ii Jj a.limit)/\w.cell? ⟨b,p+3,none⟩=some (Ii Jj a.rate)/\
 w.cell? ⟨b,p+4,none⟩=some (Ii Jj a.target)/\w.cell? ⟨b,p+5,none⟩=some (.bool a.frozen)/\w.cell? ⟨b,p+6,none⟩=some (Ii Jj a.balance)/\w.cell? ⟨b,p+7,none⟩=some (Ii Jj a.carry)
def Fo (w:World) (a:Option Addr) (n:Nat) (F:Nat->al):Prop:=
 n<=1048576/\(n=0\/∃b o,a=some ⟨b,o,none⟩/\b<w.heap.size/\∀i,i<n->eA w b (o+i*8) (F i))
theorem eA.of_cells {w w':World} {b p:Nat} {a:al} (h:eA w b p a) (hc:∀o,w'.cell? ⟨b,o,none⟩=w.cell? ⟨b,o,none⟩):eA w' b p a:=by
 unfold eA at h ⊢
 simp only[hc]
 exact h
theorem Fo.below {w w':World} {a:Option Addr} {n:Nat} {F:Nat->al} (h:Fo w a n F) (hb:Below w.heap.size w w'):Fo w' a n F:=by
 refine ⟨h.1,?_⟩
 rcases h.2 with h0|⟨b,o,ha,hlt,hall⟩
 ·exact Or.inl h0
 ·exact Or.inr ⟨b,o,ha,Nat.lt_of_lt_of_le hlt hb.size,fun i hi=>(hall i hi).of_cells (fun q=>hb.cell (p:=⟨b,q,none⟩) hlt)⟩
theorem Fo.alloc {w:World} {a:Option Addr} {n:Nat} {F:Nat->al} (h:Fo w a n F) (x:Obj):Fo (w.alloc x) a n F:=h.below ((Bf _ _).alloc (Nf _) x)
theorem Fo.acc {w:World} {a:Option Addr} {n:Nat} {F:Nat->al} (h:Fo w a n F) {i:Nat} (hi:i<n):∃b o,a=some ⟨b,o,none⟩/\b<w.heap.size/\eA w b (o+i*8) (F i):=by
 rcases h.2 with h0|⟨b,o,ha,hlt,hall⟩
 ·omega
 ·exact ⟨b,o,ha,hlt,hall i hi⟩
theorem bE (a:Option Addr) (n c:Nat) (F:Nat->al) (id:Int) (w:World) (h:Fo w a n F):
  Calls Pg 117 #[Sl a n c,Ii Jj id] w fun e w'=>e=.returned (Ii Jj (aT F n id))/\w'=w:=by
 have H:Hid (Fo w a n F):=h
 have hn:=h.1
 clear h
 go_enter Tryz.func117,Tryz.ntmps117
 go_wp2
 go_loop [5] (fun i=>∃k:Nat,k<=n/\i=Ii Jj k/\Hid (∀j,j<k->(F j).id≠id)) (fun i=>n-(intOf i).toNat)
 case atStart=>exact ⟨0,Nat.zero_le _,rfl,fun j hj=>absurd hj (Nat.not_lt_zero _)⟩
 case round=>
  obtain ⟨k,hk,rfl,hno⟩:=hrel
  by_cases hlt:k<n
  ·obtain ⟨b,o,rfl,hb,hA⟩:=H.out.acc hlt
   have c0:=hA.1
   clear hA
   by_cases hid:(F k).id=id
   ·have e:Hid (aT F n id=k):=aX (i6 hlt hid hno.out)
    have hid':((F k).id == id)=true:=by simp[hid]
    clear hid
    go_wp2
    go_ret
    rw[e.out]
    exact ⟨rfl,rfl⟩
   ·have hid':((F k).id == id)=false:=by simp[hid]
    have HN:Hid (∀j,j<k+1->(F j).id≠id):=fun j hj=>by
     by_cases e:j=k
     ·subst e;exact hid
     ·exact hno.out j (by omega)
    clear hid
    go_wp2
    go_round
    case rel=>exact ⟨k+1,by omega,by go_num,HN⟩
    case measure=>simp[intOf];omega
  ·have e:Hid (aT F n id= -1):=bL (js (fun j hj=>hno.out j (by omega)))
   go_wp2
   go_ret
   rw[e.out]
   exact ⟨rfl,rfl⟩
theorem tw (a:Option Addr) (n c:Nat) (F:Nat->al) (id:Int) (w:World) (h:Fo w a n F):
  Calls Pg 102 #[Sl a n c,Ii Jj id] w fun e w'=>e=.returned (Ii Jj (aT F n id))/\Below w.heap.size w w':=by
 have H:Hid (Fo w a n F):=h
 have hn:=h.1
 clear h
 go_enter Tryz.func102,Tryz.ntmps102
 go_wp2
 go_loopw[9] (fun i wr=>∃k:Nat,k<=n/\i=Ii Jj k/\Hid (∀j,j<k->(F j).id≠id)/\Hid (Below w.heap.size w wr)) (fun i _=>n-(intOf i).toNat)
 case atStart=>exact ⟨0,Nat.zero_le _,rfl,fun j hj=>absurd hj (Nat.not_lt_zero _),Bf _ _⟩
 case round=>
  obtain ⟨k,hk,rfl,hno,hB⟩:=hrel
  by_cases hlt:k<n
  ·obtain ⟨b,o,rfl,hb,hA⟩:=(H.out.below hB.out).acc hlt
   obtain ⟨c0,c1,c2,c3,c4,c5,c6,c7⟩:=hA
   by_cases hid:(F k).id=id
   ·have e:Hid (aT F n id=k):=aX (i6 hlt hid hno.out)
    have hid':((F k).id == id)=true:=by simp[hid]
    clear hid
    go_wp2
    go_ret
    rw[e.out]
    exact ⟨rfl,hB.out.alloc hB.out.size _⟩
   ·have hid':((F k).id == id)=false:=by simp[hid]
    have HN:Hid (∀j,j<k+1->(F j).id≠id):=fun j hj=>by
     by_cases e:j=k
     ·subst e;exact hid
     ·exact hno.out j (by omega)
    clear hid
    go_wp2
    go_roundw
    case rel=>exact ⟨k+1,by omega,by go_num,HN,hB.out.alloc hB.out.size _⟩
    case measure=>simp[intOf];omega
  ·have e:Hid (aT F n id= -1):=bL (js (fun j hj=>hno.out j (by omega)))
   go_wp2
   go_ret
   rw[e.out]
   exact ⟨rfl,hB.out⟩
open Go.RowKit
theorem bw (n lo hi:Int) (w:World) (h:lo<=n/\n<=hi):
  Calls Pg 75 #[Ii Jj n,Ii Jj lo,Ii Jj hi] w fun e w'=>e=.returned (.bool true)/\w'=w:=by
 obtain ⟨h1,h2⟩:=h
 go_enter Tryz.func75,Tryz.ntmps75
 go_wp2
 go_ret
 exact ⟨rfl,rfl⟩
theorem cb (n lo hi:Int) (w:World) (h:¬(lo<=n/\n<=hi)):
  Calls Pg 75 #[Ii Jj n,Ii Jj lo,Ii Jj hi] w fun e w'=>e=.returned (.bool false)/\w'=w:=by
 by_cases h1:lo<=n
 ·have h2:¬n<=hi:=by omega
  have h3:hi<n:=by omega
  clear h
  go_enter Tryz.func75,Tryz.ntmps75
  go_wp2
  go_ret
  exact ⟨rfl,rfl⟩
 ·have h2:n<lo:=by omega
  clear h
  go_enter Tryz.func75,Tryz.ntmps75
  go_wp2
  go_ret
  exact ⟨rfl,rfl⟩
theorem bv (n:Int) (w:World) (h:1<=n/\n<=1000000):
  Calls Pg 68 #[Ii Jj n] w fun e w'=>e=.returned (.bool true)/\w'=w:=by
 obtain ⟨h1,h2⟩:=h
 go_enter Tryz.func68,Tryz.ntmps68
 go_wp2
 go_ret
 exact ⟨rfl,rfl⟩
theorem bT (n:Int) (w:World) (h:¬(1<=n/\n<=1000000)):
  Calls Pg 68 #[Ii Jj n] w fun e w'=>e=.returned (.bool false)/\w'=w:=by
 by_cases h1:1<=n
 ·have h2:¬n<=1000000:=by omega
  have h3:1000000<n:=by omega
  clear h
  go_enter Tryz.func68,Tryz.ntmps68
  go_wp2
  go_ret
  exact ⟨rfl,rfl⟩
 ·have h2:n<1:=by omega
  clear h
  go_enter Tryz.func68,Tryz.ntmps68
  go_wp2
  go_ret
  exact ⟨rfl,rfl⟩
theorem aW (n:Int) (w:World) (h: -1<=n/\n<=1000000000000):
  Calls Pg 96 #[Ii Jj n] w fun e w'=>e=.returned (.bool true)/\w'=w:=by
 obtain ⟨h1,h2⟩:=h
 go_enter Tryz.func96,Tryz.ntmps96
 go_wp2
 go_ret
 exact ⟨rfl,rfl⟩
theorem bh (n:Int) (w:World) (h:¬(-1<=n/\n<=1000000000000)):
  Calls Pg 96 #[Ii Jj n] w fun e w'=>e=.returned (.bool false)/\w'=w:=by
 by_cases h1: -1<=n
 ·have h2:¬n<=1000000000000:=by omega
  have h3:1000000000000<n:=by omega
  clear h
  go_enter Tryz.func96,Tryz.ntmps96
  go_wp2
  go_ret
  exact ⟨rfl,rfl⟩
 ·have h2:n< -1:=by omega
  clear h
  go_enter Tryz.func96,Tryz.ntmps96
  go_wp2
  go_ret
  exact ⟨rfl,rfl⟩
theorem oN (a:al) (w:World):
  Calls Pg 100 #[.agg #[Ii Jj a.id,Ii Jj a.up,Ii Jj a.limit,Ii Jj a.rate,Ii Jj a.target,.bool a.frozen,Ii Jj a.balance,Ii Jj a.carry]] w fun e w'=>∃b:Bool,e=.returned (.bool b)/\(b=true↔ey a)/\Below w.heap.size w w':=by
 by_cases h0:1<=a.id/\a.id<=1000000
 rotate_left
 ·have hno:¬ey a:=fun k=>h0 (k.1)
  have HN:Hid (¬ey a):=hno
  clear hno
  go_enter Tryz.func100,Tryz.ntmps100
  go_wp2_with (first|(go_at_call 75;refine (bw _ _ _ _ ?_).mono ?_;(focus omega);rintro e w' ⟨rfl,rfl⟩)|(go_at_call 75;refine (cb _ _ _ _ ?_).mono ?_;(focus omega);rintro e w' ⟨rfl,rfl⟩))
  go_ret
  exact ⟨false,rfl,⟨fun h=>(by cases h),fun h=>absurd h HN.out⟩,(Bf _ _).alloc (Nf _) _⟩
 by_cases h1:0<=a.up/\a.up<=1000000
 rotate_left
 ·have hno:¬ey a:=fun k=>h1 (k.2.1)
  have HN:Hid (¬ey a):=hno
  clear hno
  go_enter Tryz.func100,Tryz.ntmps100
  go_wp2_with (first|(go_at_call 75;refine (bw _ _ _ _ ?_).mono ?_;(focus omega);rintro e w' ⟨rfl,rfl⟩)|(go_at_call 75;refine (cb _ _ _ _ ?_).mono ?_;(focus omega);rintro e w' ⟨rfl,rfl⟩))
  go_ret
  exact ⟨false,rfl,⟨fun h=>(by cases h),fun h=>absurd h HN.out⟩,(Bf _ _).alloc (Nf _) _⟩
 by_cases h2: -1<=a.limit/\a.limit<=1000000000000
 rotate_left
 ·have hno:¬ey a:=fun k=>h2 (k.2.2.1)
  have HN:Hid (¬ey a):=hno
  clear hno
  go_enter Tryz.func100,Tryz.ntmps100
  go_wp2_with (first|(go_at_call 75;refine (bw _ _ _ _ ?_).mono ?_;(focus omega);rintro e w' ⟨rfl,rfl⟩)|(go_at_call 75;refine (cb _ _ _ _ ?_).mono ?_;(focus omega);rintro e w' ⟨rfl,rfl⟩))
  go_ret
  exact ⟨false,rfl,⟨fun h=>(by cases h),fun h=>absurd h HN.out⟩,(Bf _ _).alloc (Nf _) _⟩
 by_cases h3:0<=a.rate/\a.rate<=10000
 rotate_left
 ·have hno:¬ey a:=fun k=>h3 (k.2.2.2.1)
  have HN:Hid (¬ey a):=hno
  clear hno
  go_enter Tryz.func100,Tryz.ntmps100
  go_wp2_with (first|(go_at_call 75;refine (bw _ _ _ _ ?_).mono ?_;(focus omega);rintro e w' ⟨rfl,rfl⟩)|(go_at_call 75;refine (cb _ _ _ _ ?_).mono ?_;(focus omega);rintro e w' ⟨rfl,rfl⟩))
  go_ret
  exact ⟨false,rfl,⟨fun h=>(by cases h),fun h=>absurd h HN.out⟩,(Bf _ _).alloc (Nf _) _⟩
 by_cases h4: -1<=a.target/\a.target<=1000000000000
 rotate_left
 ·have hno:¬ey a:=fun k=>h4 (k.2.2.2.2.1)
  have HN:Hid (¬ey a):=hno
  clear hno
  go_enter Tryz.func100,Tryz.ntmps100
  go_wp2_with (first|(go_at_call 75;refine (bw _ _ _ _ ?_).mono ?_;(focus omega);rintro e w' ⟨rfl,rfl⟩)|(go_at_call 75;refine (cb _ _ _ _ ?_).mono ?_;(focus omega);rintro e w' ⟨rfl,rfl⟩))
  go_ret
  exact ⟨false,rfl,⟨fun h=>(by cases h),fun h=>absurd h HN.out⟩,(Bf _ _).alloc (Nf _) _⟩
 by_cases h5: -1000000000000<=a.balance/\a.balance<=1000000000000
 rotate_left
 ·have hno:¬ey a:=fun k=>h5 (k.2.2.2.2.2.1)
  have HN:Hid (¬ey a):=hno
  clear hno
  go_enter Tryz.func100,Tryz.ntmps100
  go_wp2_with (first|(go_at_call 75;refine (bw _ _ _ _ ?_).mono ?_;(focus omega);rintro e w' ⟨rfl,rfl⟩)|(go_at_call 75;refine (cb _ _ _ _ ?_).mono ?_;(focus omega);rintro e w' ⟨rfl,rfl⟩))
  go_ret
  exact ⟨false,rfl,⟨fun h=>(by cases h),fun h=>absurd h HN.out⟩,(Bf _ _).alloc (Nf _) _⟩
 by_cases h6:0<=a.carry/\a.carry<=3649999
 rotate_left
 ·have hno:¬ey a:=fun k=>h6 (k.2.2.2.2.2.2.1)
  have HN:Hid (¬ey a):=hno
  clear hno
  go_enter Tryz.func100,Tryz.ntmps100
  go_wp2_with (first|(go_at_call 75;refine (bw _ _ _ _ ?_).mono ?_;(focus omega);rintro e w' ⟨rfl,rfl⟩)|(go_at_call 75;refine (cb _ _ _ _ ?_).mono ?_;(focus omega);rintro e w' ⟨rfl,rfl⟩))
  go_ret
  exact ⟨false,rfl,⟨fun h=>(by cases h),fun h=>absurd h HN.out⟩,(Bf _ _).alloc (Nf _) _⟩
 by_cases hu:a.up=0
 ·have bu:(a.up == 0)=true:=by simp[hu]
  by_cases hl:0<=a.limit
  ·by_cases ht:a.target<0
   ·have HN:Hid (ey a):=⟨h0,h1,h2,h3,h4,h5,h6,fun _=>⟨hl,ht⟩,fun e=>absurd hu e⟩
    clear hu
    go_enter Tryz.func100,Tryz.ntmps100
    go_wp2_with (first|(go_at_call 75;refine (bw _ _ _ _ ?_).mono ?_;(focus omega);rintro e w' ⟨rfl,rfl⟩)|(go_at_call 75;refine (cb _ _ _ _ ?_).mono ?_;(focus omega);rintro e w' ⟨rfl,rfl⟩))
    go_ret
    exact ⟨true,rfl,⟨fun _=>HN.out,fun _=>rfl⟩,(Bf _ _).alloc (Nf _) _⟩
   ·have HN:Hid (¬ey a):=(fun k=>ht (k.2.2.2.2.2.2.2.1 hu).2)
    have ht':0<=a.target:=by omega
    have hd:decide (a.target<0)=false:=decide_eq_false ht
    clear hu
    go_enter Tryz.func100,Tryz.ntmps100
    go_wp2_with (first|(go_at_call 75;refine (bw _ _ _ _ ?_).mono ?_;(focus omega);rintro e w' ⟨rfl,rfl⟩)|(go_at_call 75;refine (cb _ _ _ _ ?_).mono ?_;(focus omega);rintro e w' ⟨rfl,rfl⟩))
    go_ret
    exact ⟨false,rfl,⟨fun h=>(by cases h),fun h=>absurd h HN.out⟩,(Bf _ _).alloc (Nf _) _⟩
  ·have HN:Hid (¬ey a):=(fun k=>hl (k.2.2.2.2.2.2.2.1 hu).1)
   have hl':a.limit<0:=by omega
   have hd:decide (0<=a.limit)=false:=decide_eq_false hl
   clear hu
   go_enter Tryz.func100,Tryz.ntmps100
   go_wp2_with (first|(go_at_call 75;refine (bw _ _ _ _ ?_).mono ?_;(focus omega);rintro e w' ⟨rfl,rfl⟩)|(go_at_call 75;refine (cb _ _ _ _ ?_).mono ?_;(focus omega);rintro e w' ⟨rfl,rfl⟩))
   go_ret
   exact ⟨false,rfl,⟨fun h=>(by cases h),fun h=>absurd h HN.out⟩,(Bf _ _).alloc (Nf _) _⟩
 ·have bu:(a.up == 0)=false:=by simp[hu]
  by_cases hr:a.rate=0
  ·have br:(a.rate == 0)=true:=by simp[hr]
   by_cases hc:a.carry=0
   ·have bc:(a.carry == 0)=true:=by simp[hc]
    have HN:Hid (ey a):=⟨h0,h1,h2,h3,h4,h5,h6,fun e=>absurd e hu,fun _=>⟨hr,hc⟩⟩
    clear hu hr hc
    go_enter Tryz.func100,Tryz.ntmps100
    go_wp2_with (first|(go_at_call 75;refine (bw _ _ _ _ ?_).mono ?_;(focus omega);rintro e w' ⟨rfl,rfl⟩)|(go_at_call 75;refine (cb _ _ _ _ ?_).mono ?_;(focus omega);rintro e w' ⟨rfl,rfl⟩))
    go_ret
    exact ⟨true,rfl,⟨fun _=>HN.out,fun _=>rfl⟩,(Bf _ _).alloc (Nf _) _⟩
   ·have bc:(a.carry == 0)=false:=by simp[hc]
    have HN:Hid (¬ey a):=(fun k=>hc (k.2.2.2.2.2.2.2.2 hu).2)
    clear hu hr hc
    go_enter Tryz.func100,Tryz.ntmps100
    go_wp2_with (first|(go_at_call 75;refine (bw _ _ _ _ ?_).mono ?_;(focus omega);rintro e w' ⟨rfl,rfl⟩)|(go_at_call 75;refine (cb _ _ _ _ ?_).mono ?_;(focus omega);rintro e w' ⟨rfl,rfl⟩))
    go_ret
    exact ⟨false,rfl,⟨fun h=>(by cases h),fun h=>absurd h HN.out⟩,(Bf _ _).alloc (Nf _) _⟩
  ·have br:(a.rate == 0)=false:=by simp[hr]
   have HN:Hid (¬ey a):=(fun k=>hr (k.2.2.2.2.2.2.2.2 hu).1)
   clear hu hr
   go_enter Tryz.func100,Tryz.ntmps100
   go_wp2_with (first|(go_at_call 75;refine (bw _ _ _ _ ?_).mono ?_;(focus omega);rintro e w' ⟨rfl,rfl⟩)|(go_at_call 75;refine (cb _ _ _ _ ?_).mono ?_;(focus omega);rintro e w' ⟨rfl,rfl⟩))
   go_ret
   exact ⟨false,rfl,⟨fun h=>(by cases h),fun h=>absurd h HN.out⟩,(Bf _ _).alloc (Nf _) _⟩
open Go.RowKit
theorem oq (a:al) (w:World):
  Calls Pg 80 #[.agg #[Ii Jj a.id,Ii Jj a.up,Ii Jj a.limit,Ii Jj a.rate,Ii Jj a.target,.bool a.frozen,Ii Jj a.balance,Ii Jj a.carry]] w fun e w'=>∃b:Bool,e=.returned (.bool b)/\(b=true↔gx a)/\Below w.heap.size w w':=by
 by_cases h0:1<=a.id/\a.id<=1000000
 rotate_left
 ·have hno:¬gx a:=fun k=>h0 (k.1)
  have HN:Hid (¬gx a):=hno
  clear hno
  go_enter Tryz.func80,Tryz.ntmps80
  go_wp2_with (first|(go_at_call 68;refine (bv _ _ ?_).mono ?_;(focus omega);rintro e w' ⟨rfl,rfl⟩)|(go_at_call 68;refine (bT _ _ ?_).mono ?_;(focus omega);rintro e w' ⟨rfl,rfl⟩)|(go_at_call 96;refine (aW _ _ ?_).mono ?_;(focus omega);rintro e w' ⟨rfl,rfl⟩)|(go_at_call 96;refine (bh _ _ ?_).mono ?_;(focus omega);rintro e w' ⟨rfl,rfl⟩))
  go_ret
  exact ⟨false,rfl,⟨fun h=>(by cases h),fun h=>absurd h HN.out⟩,(Bf _ _).alloc (Nf _) _⟩
 by_cases h1: -1<=a.limit/\a.limit<=1000000000000
 rotate_left
 ·have hno:¬gx a:=fun k=>h1 (k.2.1)
  have HN:Hid (¬gx a):=hno
  clear hno
  go_enter Tryz.func80,Tryz.ntmps80
  go_wp2_with (first|(go_at_call 68;refine (bv _ _ ?_).mono ?_;(focus omega);rintro e w' ⟨rfl,rfl⟩)|(go_at_call 68;refine (bT _ _ ?_).mono ?_;(focus omega);rintro e w' ⟨rfl,rfl⟩)|(go_at_call 96;refine (aW _ _ ?_).mono ?_;(focus omega);rintro e w' ⟨rfl,rfl⟩)|(go_at_call 96;refine (bh _ _ ?_).mono ?_;(focus omega);rintro e w' ⟨rfl,rfl⟩))
  go_ret
  exact ⟨false,rfl,⟨fun h=>(by cases h),fun h=>absurd h HN.out⟩,(Bf _ _).alloc (Nf _) _⟩
 by_cases h2: -1<=a.target/\a.target<=1000000000000
 rotate_left
 ·have hno:¬gx a:=fun k=>h2 (k.2.2.1)
  have HN:Hid (¬gx a):=hno
  clear hno
  go_enter Tryz.func80,Tryz.ntmps80
  go_wp2_with (first|(go_at_call 68;refine (bv _ _ ?_).mono ?_;(focus omega);rintro e w' ⟨rfl,rfl⟩)|(go_at_call 68;refine (bT _ _ ?_).mono ?_;(focus omega);rintro e w' ⟨rfl,rfl⟩)|(go_at_call 96;refine (aW _ _ ?_).mono ?_;(focus omega);rintro e w' ⟨rfl,rfl⟩)|(go_at_call 96;refine (bh _ _ ?_).mono ?_;(focus omega);rintro e w' ⟨rfl,rfl⟩))
  go_ret
  exact ⟨false,rfl,⟨fun h=>(by cases h),fun h=>absurd h HN.out⟩,(Bf _ _).alloc (Nf _) _⟩
 by_cases hb1:a.balance< -1000000000000
 ·have hno:¬gx a:=fun k=>by have:=(k.2.2.2.1);omega
  have HN:Hid (¬gx a):=hno
  clear hno
  go_enter Tryz.func80,Tryz.ntmps80
  go_wp2_with (first|(go_at_call 68;refine (bv _ _ ?_).mono ?_;(focus omega);rintro e w' ⟨rfl,rfl⟩)|(go_at_call 68;refine (bT _ _ ?_).mono ?_;(focus omega);rintro e w' ⟨rfl,rfl⟩)|(go_at_call 96;refine (aW _ _ ?_).mono ?_;(focus omega);rintro e w' ⟨rfl,rfl⟩)|(go_at_call 96;refine (bh _ _ ?_).mono ?_;(focus omega);rintro e w' ⟨rfl,rfl⟩))
  go_ret
  exact ⟨false,rfl,⟨fun h=>(by cases h),fun h=>absurd h HN.out⟩,(Bf _ _).alloc (Nf _) _⟩
 by_cases hb2:1000000000000<a.balance
 ·have hno:¬gx a:=fun k=>by have:=(k.2.2.2.1);omega
  have HN:Hid (¬gx a):=hno
  clear hno
  go_enter Tryz.func80,Tryz.ntmps80
  go_wp2_with (first|(go_at_call 68;refine (bv _ _ ?_).mono ?_;(focus omega);rintro e w' ⟨rfl,rfl⟩)|(go_at_call 68;refine (bT _ _ ?_).mono ?_;(focus omega);rintro e w' ⟨rfl,rfl⟩)|(go_at_call 96;refine (aW _ _ ?_).mono ?_;(focus omega);rintro e w' ⟨rfl,rfl⟩)|(go_at_call 96;refine (bh _ _ ?_).mono ?_;(focus omega);rintro e w' ⟨rfl,rfl⟩))
  go_ret
  exact ⟨false,rfl,⟨fun h=>(by cases h),fun h=>absurd h HN.out⟩,(Bf _ _).alloc (Nf _) _⟩
 by_cases hu:a.up=0
 ·have bu:(a.up != 0)=false:=by simp[hu]
  by_cases hl:a.limit= -1
  ·have bl:(a.limit == -1)=true:=by simp[hl]
   have HN:Hid (¬gx a):=(fun k=>(k.2.2.2.2.2 hu).1 hl)
   clear hu hl
   go_enter Tryz.func80,Tryz.ntmps80
   go_wp2_with (first|(go_at_call 68;refine (bv _ _ ?_).mono ?_;(focus omega);rintro e w' ⟨rfl,rfl⟩)|(go_at_call 68;refine (bT _ _ ?_).mono ?_;(focus omega);rintro e w' ⟨rfl,rfl⟩)|(go_at_call 96;refine (aW _ _ ?_).mono ?_;(focus omega);rintro e w' ⟨rfl,rfl⟩)|(go_at_call 96;refine (bh _ _ ?_).mono ?_;(focus omega);rintro e w' ⟨rfl,rfl⟩))
   go_ret
   exact ⟨false,rfl,⟨fun h=>(by cases h),fun h=>absurd h HN.out⟩,(Bf _ _).alloc (Nf _) _⟩
  have bl:(a.limit == -1)=false:=by simp[hl]
  by_cases ht:a.target= -1
  rotate_left
  ·have bt:(a.target != -1)=true:=by simp[ht]
   have HN:Hid (¬gx a):=(fun k=>ht (k.2.2.2.2.2 hu).2.1)
   clear hu hl ht
   go_enter Tryz.func80,Tryz.ntmps80
   go_wp2_with (first|(go_at_call 68;refine (bv _ _ ?_).mono ?_;(focus omega);rintro e w' ⟨rfl,rfl⟩)|(go_at_call 68;refine (bT _ _ ?_).mono ?_;(focus omega);rintro e w' ⟨rfl,rfl⟩)|(go_at_call 96;refine (aW _ _ ?_).mono ?_;(focus omega);rintro e w' ⟨rfl,rfl⟩)|(go_at_call 96;refine (bh _ _ ?_).mono ?_;(focus omega);rintro e w' ⟨rfl,rfl⟩))
   go_ret
   exact ⟨false,rfl,⟨fun h=>(by cases h),fun h=>absurd h HN.out⟩,(Bf _ _).alloc (Nf _) _⟩
  have bt:(a.target != -1)=false:=by simp[ht]
  by_cases hr1:0<=a.rate
  rotate_left
  ·have HN:Hid (¬gx a):=(fun k=>hr1 (k.2.2.2.2.2 hu).2.2.1.1)
   have hr1':a.rate<0:=by omega
   have hd:decide (0<=a.rate)=false:=decide_eq_false hr1
   clear hu hl ht
   go_enter Tryz.func80,Tryz.ntmps80
   go_wp2_with (first|(go_at_call 68;refine (bv _ _ ?_).mono ?_;(focus omega);rintro e w' ⟨rfl,rfl⟩)|(go_at_call 68;refine (bT _ _ ?_).mono ?_;(focus omega);rintro e w' ⟨rfl,rfl⟩)|(go_at_call 96;refine (aW _ _ ?_).mono ?_;(focus omega);rintro e w' ⟨rfl,rfl⟩)|(go_at_call 96;refine (bh _ _ ?_).mono ?_;(focus omega);rintro e w' ⟨rfl,rfl⟩))
   go_ret
   exact ⟨false,rfl,⟨fun h=>(by cases h),fun h=>absurd h HN.out⟩,(Bf _ _).alloc (Nf _) _⟩
  by_cases hr2:a.rate<=10000
  rotate_left
  ·have HN:Hid (¬gx a):=(fun k=>hr2 (k.2.2.2.2.2 hu).2.2.1.2)
   have hr2':10000<a.rate:=by omega
   have hd:decide (a.rate<=10000)=false:=decide_eq_false hr2
   clear hu hl ht
   go_enter Tryz.func80,Tryz.ntmps80
   go_wp2_with (first|(go_at_call 68;refine (bv _ _ ?_).mono ?_;(focus omega);rintro e w' ⟨rfl,rfl⟩)|(go_at_call 68;refine (bT _ _ ?_).mono ?_;(focus omega);rintro e w' ⟨rfl,rfl⟩)|(go_at_call 96;refine (aW _ _ ?_).mono ?_;(focus omega);rintro e w' ⟨rfl,rfl⟩)|(go_at_call 96;refine (bh _ _ ?_).mono ?_;(focus omega);rintro e w' ⟨rfl,rfl⟩))
   go_ret
   exact ⟨false,rfl,⟨fun h=>(by cases h),fun h=>absurd h HN.out⟩,(Bf _ _).alloc (Nf _) _⟩
  by_cases hc1:0<=a.carry
  rotate_left
  ·have HN:Hid (¬gx a):=(fun k=>hc1 (k.2.2.2.2.2 hu).2.2.2.1)
   have hc1':a.carry<0:=by omega
   have hd:decide (0<=a.carry)=false:=decide_eq_false hc1
   clear hu hl ht
   go_enter Tryz.func80,Tryz.ntmps80
   go_wp2_with (first|(go_at_call 68;refine (bv _ _ ?_).mono ?_;(focus omega);rintro e w' ⟨rfl,rfl⟩)|(go_at_call 68;refine (bT _ _ ?_).mono ?_;(focus omega);rintro e w' ⟨rfl,rfl⟩)|(go_at_call 96;refine (aW _ _ ?_).mono ?_;(focus omega);rintro e w' ⟨rfl,rfl⟩)|(go_at_call 96;refine (bh _ _ ?_).mono ?_;(focus omega);rintro e w' ⟨rfl,rfl⟩))
   go_ret
   exact ⟨false,rfl,⟨fun h=>(by cases h),fun h=>absurd h HN.out⟩,(Bf _ _).alloc (Nf _) _⟩
  by_cases hc2:a.carry<3650000
  rotate_left
  ·have HN:Hid (¬gx a):=(fun k=>hc2 (k.2.2.2.2.2 hu).2.2.2.2)
   have hc2':3650000<=a.carry:=by omega
   have hd:decide (a.carry<3650000)=false:=decide_eq_false hc2
   clear hu hl ht
   go_enter Tryz.func80,Tryz.ntmps80
   go_wp2_with (first|(go_at_call 68;refine (bv _ _ ?_).mono ?_;(focus omega);rintro e w' ⟨rfl,rfl⟩)|(go_at_call 68;refine (bT _ _ ?_).mono ?_;(focus omega);rintro e w' ⟨rfl,rfl⟩)|(go_at_call 96;refine (aW _ _ ?_).mono ?_;(focus omega);rintro e w' ⟨rfl,rfl⟩)|(go_at_call 96;refine (bh _ _ ?_).mono ?_;(focus omega);rintro e w' ⟨rfl,rfl⟩))
   go_ret
   exact ⟨false,rfl,⟨fun h=>(by cases h),fun h=>absurd h HN.out⟩,(Bf _ _).alloc (Nf _) _⟩
  have HN:Hid (gx a):=⟨h0,h1,h2,by omega,fun e=>absurd hu e,fun _=>⟨hl,ht,⟨hr1,hr2⟩,hc1,hc2⟩⟩
  clear hu hl ht
  go_enter Tryz.func80,Tryz.ntmps80
  go_wp2_with (first|(go_at_call 68;refine (bv _ _ ?_).mono ?_;(focus omega);rintro e w' ⟨rfl,rfl⟩)|(go_at_call 68;refine (bT _ _ ?_).mono ?_;(focus omega);rintro e w' ⟨rfl,rfl⟩)|(go_at_call 96;refine (aW _ _ ?_).mono ?_;(focus omega);rintro e w' ⟨rfl,rfl⟩)|(go_at_call 96;refine (bh _ _ ?_).mono ?_;(focus omega);rintro e w' ⟨rfl,rfl⟩))
  go_ret
  exact ⟨true,rfl,⟨fun _=>HN.out,fun _=>rfl⟩,(Bf _ _).alloc (Nf _) _⟩
 ·have bu:(a.up != 0)=true:=by simp[hu]
  by_cases hr:a.rate=0
  ·have br:(a.rate == 0)=true:=by simp[hr]
   by_cases hc:a.carry=0
   ·have bc:(a.carry == 0)=true:=by simp[hc]
    have HN:Hid (gx a):=⟨h0,h1,h2,by omega,fun _=>⟨hr,hc⟩,fun e=>absurd e hu⟩
    clear hu hr hc
    go_enter Tryz.func80,Tryz.ntmps80
    go_wp2_with (first|(go_at_call 68;refine (bv _ _ ?_).mono ?_;(focus omega);rintro e w' ⟨rfl,rfl⟩)|(go_at_call 68;refine (bT _ _ ?_).mono ?_;(focus omega);rintro e w' ⟨rfl,rfl⟩)|(go_at_call 96;refine (aW _ _ ?_).mono ?_;(focus omega);rintro e w' ⟨rfl,rfl⟩)|(go_at_call 96;refine (bh _ _ ?_).mono ?_;(focus omega);rintro e w' ⟨rfl,rfl⟩))
    go_ret
    exact ⟨true,rfl,⟨fun _=>HN.out,fun _=>rfl⟩,(Bf _ _).alloc (Nf _) _⟩
   ·have bc:(a.carry == 0)=false:=by simp[hc]
    have HN:Hid (¬gx a):=(fun k=>hc (k.2.2.2.2.1 hu).2)
    clear hu hr hc
    go_enter Tryz.func80,Tryz.ntmps80
    go_wp2_with (first|(go_at_call 68;refine (bv _ _ ?_).mono ?_;(focus omega);rintro e w' ⟨rfl,rfl⟩)|(go_at_call 68;refine (bT _ _ ?_).mono ?_;(focus omega);rintro e w' ⟨rfl,rfl⟩)|(go_at_call 96;refine (aW _ _ ?_).mono ?_;(focus omega);rintro e w' ⟨rfl,rfl⟩)|(go_at_call 96;refine (bh _ _ ?_).mono ?_;(focus omega);rintro e w' ⟨rfl,rfl⟩))
    go_ret
    exact ⟨false,rfl,⟨fun h=>(by cases h),fun h=>absurd h HN.out⟩,(Bf _ _).alloc (Nf _) _⟩
  ·have br:(a.rate == 0)=false:=by simp[hr]
   have HN:Hid (¬gx a):=(fun k=>hr (k.2.2.2.2.1 hu).1)
   clear hu hr
   go_enter Tryz.func80,Tryz.ntmps80
   go_wp2_with (first|(go_at_call 68;refine (bv _ _ ?_).mono ?_;(focus omega);rintro e w' ⟨rfl,rfl⟩)|(go_at_call 68;refine (bT _ _ ?_).mono ?_;(focus omega);rintro e w' ⟨rfl,rfl⟩)|(go_at_call 96;refine (aW _ _ ?_).mono ?_;(focus omega);rintro e w' ⟨rfl,rfl⟩)|(go_at_call 96;refine (bh _ _ ?_).mono ?_;(focus omega);rintro e w' ⟨rfl,rfl⟩))
   go_ret
   exact ⟨false,rfl,⟨fun h=>(by cases h),fun h=>absurd h HN.out⟩,(Bf _ _).alloc (Nf _) _⟩
open Go.RowKit
def iE (w:World) (R p:Nat) (a:al):World:=
 (((((((w.setCell ⟨R,p,none⟩ (Ii Jj a.id)).setCell ⟨R,p+1,none⟩ (Ii Jj a.up)).setCell ⟨R,p+2,none⟩ (Ii Jj a.limit)).setCell ⟨R,p+3,none⟩ (Ii Jj a.rate)).setCell ⟨R,p+4,none⟩ (Ii Jj a.target)).setCell ⟨R,p+5,none⟩ (.bool a.frozen)).setCell ⟨R,p+6,none⟩ (Ii Jj a.balance)).setCell ⟨R,p+7,none⟩ (Ii Jj a.carry)
theorem mx (w:World) (R p:Nat) (a:al) (x:Addr):(iE w R p a).frozen? x=w.frozen? x:=by
 unfold iE;simp
theorem bP (w:World) (R p:Nat) (a:al):(iE w R p a).heap.size=w.heap.size:=by
 unfold iE;simp[World.setCell]
theorem sx (w:World) (R p:Nat) (a:al) (h:∀j,j<8->(w.cell? ⟨R,p+j,none⟩).isSome=true):eA (iE w R p a) R p a:=by
 have o:∀(v:World) (i j:Nat) (u:Value),i≠j->(v.setCell ⟨R,i,none⟩ u).cell? ⟨R,j,none⟩=v.cell? ⟨R,j,none⟩:=fun v i j u hij=>World.cell?_setCell_other _ _ _ _ (by intro e;have:=congrArg Addr.off e;simp at this;omega)
 have h0:=h 0 (by omega)
 unfold iE eA
 refine ⟨?_,?_,?_,?_,?_,?_,?_,?_⟩
 ·rw[o _ (p+7) p _ (by omega),o _ (p+6) p _ (by omega),o _ (p+5) p _ (by omega),o _ (p+4) p _ (by omega),o _ (p+3) p _ (by omega),o _ (p+2) p _ (by omega),o _ (p+1) p _ (by omega)]
  exact World.cell?_setCell_same' _ _ _ h0
 ·rw[o _ (p+7) (p+1) _ (by omega),o _ (p+6) (p+1) _ (by omega),o _ (p+5) (p+1) _ (by omega),o _ (p+4) (p+1) _ (by omega),o _ (p+3) (p+1) _ (by omega),o _ (p+2) (p+1) _ (by omega)]
  exact World.cell?_setCell_same' _ _ _ (by rw[o _ p (p+1) _ (by omega)];exact h 1 (by omega))
 ·rw[o _ (p+7) (p+2) _ (by omega),o _ (p+6) (p+2) _ (by omega),o _ (p+5) (p+2) _ (by omega),o _ (p+4) (p+2) _ (by omega),o _ (p+3) (p+2) _ (by omega)]
  exact World.cell?_setCell_same' _ _ _ (by rw[o _ (p+1) (p+2) _ (by omega),o _ p (p+2) _ (by omega)];exact h 2 (by omega))
 ·rw[o _ (p+7) (p+3) _ (by omega),o _ (p+6) (p+3) _ (by omega),o _ (p+5) (p+3) _ (by omega),o _ (p+4) (p+3) _ (by omega)]
  exact World.cell?_setCell_same' _ _ _ (by rw[o _ (p+2) (p+3) _ (by omega),o _ (p+1) (p+3) _ (by omega),o _ p (p+3) _ (by omega)];exact h 3 (by omega))
 ·rw[o _ (p+7) (p+4) _ (by omega),o _ (p+6) (p+4) _ (by omega),o _ (p+5) (p+4) _ (by omega)]
  exact World.cell?_setCell_same' _ _ _ (by rw[o _ (p+3) (p+4) _ (by omega),o _ (p+2) (p+4) _ (by omega),o _ (p+1) (p+4) _ (by omega),o _ p (p+4) _ (by omega)];exact h 4 (by omega))
 ·rw[o _ (p+7) (p+5) _ (by omega),o _ (p+6) (p+5) _ (by omega)]
  exact World.cell?_setCell_same' _ _ _ (by rw[o _ (p+4) (p+5) _ (by omega),o _ (p+3) (p+5) _ (by omega),o _ (p+2) (p+5) _ (by omega),o _ (p+1) (p+5) _ (by omega),o _ p (p+5) _ (by omega)];exact h 5 (by omega))
 ·rw[o _ (p+7) (p+6) _ (by omega)]
  exact World.cell?_setCell_same' _ _ _ (by rw[o _ (p+5) (p+6) _ (by omega),o _ (p+4) (p+6) _ (by omega),o _ (p+3) (p+6) _ (by omega),o _ (p+2) (p+6) _ (by omega),o _ (p+1) (p+6) _ (by omega),o _ p (p+6) _ (by omega)];exact h 6 (by omega))
 ·exact World.cell?_setCell_same' _ _ _ (by rw[o _ (p+6) (p+7) _ (by omega),o _ (p+5) (p+7) _ (by omega),o _ (p+4) (p+7) _ (by omega),o _ (p+3) (p+7) _ (by omega),o _ (p+2) (p+7) _ (by omega),o _ (p+1) (p+7) _ (by omega),o _ p (p+7) _ (by omega)];exact h 7 (by omega))
theorem cN {B:Nat} {v w:World} (hb:Below B v w) (R p:Nat) (a:al) (hR:B<=R):Below B v (iE w R p a):=by
 unfold iE
 exact (((((((hb.setCell (p:=⟨R,p,none⟩) hR _).setCell (p:=⟨R,p+1,none⟩) hR _).setCell (p:=⟨R,p+2,none⟩) hR _).setCell (p:=⟨R,p+3,none⟩) hR _).setCell (p:=⟨R,p+4,none⟩) hR _).setCell (p:=⟨R,p+5,none⟩) hR _).setCell (p:=⟨R,p+6,none⟩) hR _).setCell (p:=⟨R,p+7,none⟩) hR _
def dD (w:World) (R:Nat) (a:al):Prop:=eA w R 0 a/\(∀o,w.frozen? ⟨R,o,none⟩=false)/\R<w.heap.size
theorem dD.below {w w':World} {R:Nat} {a:al} (h:dD w R a) (hb:Below w.heap.size w w'):dD w' R a:=
 ⟨h.1.of_cells (fun q=>hb.cell (p:=⟨R,q,none⟩) h.2.2),fun o=>by rw[hb.frozen (p:=⟨R,o,none⟩) h.2.2];exact h.2.1 o,Nat.lt_of_lt_of_le h.2.2 hb.size⟩
theorem dD.set {w:World} {R:Nat} {a:al} (h:dD w R a) (c:al):dD (iE w R 0 c) R c:=by
 obtain ⟨⟨h0,h1,h2,h3,h4,h5,h6,h7⟩,hf,hz⟩:=h
 refine ⟨sx w R 0 c (fun j hj=>?_),fun o=>by rw[mx];exact hf o,by rw[bP];exact hz⟩
 have:j=0\/j=1\/j=2\/j=3\/j=4\/j=5\/j=6\/j=7:=by omega
 rcases this with e|e|e|e|e|e|e|e <;>subst e
 ·rw[h0];rfl
 ·rw[h1];rfl
 ·rw[h2];rfl
 ·rw[h3];rfl
 ·rw[h4];rfl
 ·rw[h5];rfl
 ·rw[h6];rfl
 ·rw[h7];rfl
theorem dD.new (w:World) (a:al) (t:TypeId):dD (w.alloc (.cells #[Ii Jj a.id,Ii Jj a.up,Ii Jj a.limit,Ii Jj a.rate,Ii Jj a.target,.bool a.frozen,Ii Jj a.balance,Ii Jj a.carry] t)) w.heap.size a:=
 ⟨⟨by simp[go_sem],by simp[go_sem],by simp[go_sem],by simp[go_sem],by simp[go_sem],by simp[go_sem],by simp[go_sem],by simp[go_sem]⟩,fun o=>by simp[go_sem],by simp⟩
open Go.RowKit
theorem ks {F:Nat->al} {n:Nat} {id:Int}:(aB F n id=none/\aT F n id= -1)\/∃i,aB F n id=some i/\i<n/\aT F n id=(i:Int):=by
 cases h:aB F n id with
 | none=>exact Or.inl ⟨rfl,bL h⟩
 | some i=>exact Or.inr ⟨i,rfl,(bD h).1,aX h⟩
theorem pe (a:Option Addr) (n c:Nat) (F:Nat->al) (x:al) (w:World) (h:Fo w a n F):
  Calls Pg 81 #[Sl a n c,.agg #[Ii Jj x.id,Ii Jj x.up,Ii Jj x.limit,Ii Jj x.rate,Ii Jj x.target,.bool x.frozen,Ii Jj x.balance,Ii Jj x.carry]] w fun e w'=>e=.returned (.bool (bU F n n x))/\Below w.heap.size w w':=by
 have H:Hid (Fo w a n F):=h
 have hn:=h.1
 clear h
 have BX:Hid (dD (w.alloc (.cells #[Ii Jj x.id,Ii Jj x.up,Ii Jj x.limit,Ii Jj x.rate,Ii Jj x.target,.bool x.frozen,Ii Jj x.balance,Ii Jj x.carry] 53)) w.heap.size x):=dD.new w x 53
 go_enter Tryz.func81,Tryz.ntmps81
 go_wp2
 go_loopw[8] (fun i wr=>∃(k:Nat) (y:al),k<=n/\i=Ii Jj k/\Hid (bU F n n x=bU F n (n-k) y)/\Hid (dD wr w.heap.size y)/\Hid (Below w.heap.size w wr)) (fun i _=>n-(intOf i).toNat)
 case atStart=>exact ⟨0,x,Nat.zero_le _,rfl,rfl,BX,(Bf _ _).alloc (Nf _) _⟩
 case round=>
  obtain ⟨k,y,hk,rfl,hl,hX,hB⟩:=hrel
  clear BX
  by_cases hlt:k<n
  ·obtain ⟨m,hm⟩:∃m,n-k=m+1:=⟨n-k-1,by omega⟩
   have HL:Hid (bU F n n x=bU F n (m+1) y):=by have:=hl.out;rwa [hm] at this
   have HM:Hid (n-(k+1)=m):=(by omega:n-(k+1)=m)
   obtain ⟨⟨b0,b1,b2,b3,b4,b5,b6,b7⟩,hf,hz⟩:=hX.out
   simp only[Nat.zero_add] at b1 b2 b3 b4 b5 b6 b7
   clear hl hm
   by_cases hu:y.up=0
   ·have bu:(y.up == 0)=true:=by simp[hu]
    have E:Hid (bU F n n x=true):=(by rw[HL.out];simp[bU,hu]:bU F n n x=true)
    clear hu
    go_wp2
    go_ret
    rw[E.out]
    exact ⟨rfl,hB.out⟩
   ·have bu:(y.up == 0)=false:=by simp[hu]
    have HU:Hid (y.up≠0):=hu
    clear hu
    go_wp2_with fail
    refine (tw a n c F y.up _ (H.out.below hB.out)).mono ?_
    rintro e w1 ⟨rfl,B1⟩
    rcases ks (F:=F) (n:=n) (id:=y.up) with ⟨hp,hpi⟩|⟨i,hp,hin,hpi⟩
    ·have E:Hid (bU F n n x=false):=(by rw[HL.out];simp[bU,HU.out,hp]:bU F n n x=false)
     have B1':Hid (Below w.heap.size w w1):=hB.out.trans (B1.mono hB.out.size)
     rw[hpi]
     clear hp hpi B1
     go_wp2
     go_ret
     rw[E.out]
     exact ⟨rfl,B1'.out⟩
    ·have E:Hid (bU F n n x=bU F n m (F i)):=(by rw[HL.out];simp[bU,HU.out,hp]:bU F n n x=bU F n m (F i))
     have B1':Hid (Below w.heap.size w w1):=hB.out.trans (B1.mono hB.out.size)
     have X1:Hid (dD w1 w.heap.size y):=hX.out.below B1
     rw[hpi]
     clear hp hpi B1 b0 b1 b2 b3 b4 b5 b6 b7 hf hz
     obtain ⟨⟨b0,b1,b2,b3,b4,b5,b6,b7⟩,hf,hz⟩:=X1.out
     simp only[Nat.zero_add] at b1 b2 b3 b4 b5 b6 b7
     obtain ⟨b,o,rfl,hb,hA⟩:=H.out.acc hin
     have hA1:=hA.of_cells (w':=w1) (fun q=>B1'.out.cell (p:=⟨b,q,none⟩) hb)
     obtain ⟨c0,c1,c2,c3,c4,c5,c6,c7⟩:=hA1
     have hne:b≠w.heap.size:=by omega
     clear hA
     go_wp2
     go_roundw
     case rel=>
      refine ⟨k+1,F i,by omega,by go_num,?_,?_,?_⟩
      ·exact (by rw[E.out,HM.out]:bU F n n x=bU F n (n-(k+1)) (F i))
      ·exact X1.out.set (F i)
      ·exact cN B1'.out w.heap.size 0 (F i) (Nf _)
     case measure=>simp[intOf];omega
  ·have e0:bU F n n x=false:=by
    rw[hl.out,show n-k=0 from by omega];rfl
   have E:Hid (bU F n n x=false):=e0
   clear e0
   go_wp2
   go_ret
   rw[E.out]
   exact ⟨rfl,hB.out⟩
open Go.RowKit
def bW (w v:World):World:={v with os:=w.os,tape:=w.tape,output:=w.output,heap:=w.heap++v.heap.extract w.heap.size v.heap.size}
theorem nN (w v:World) (k:Nat) (hk:k<w.heap.size):(bW w v).heap[k]? =w.heap[k]? :=by
 show (w.heap++v.heap.extract w.heap.size v.heap.size)[k]? =_
 rw[Array.getElem?_append_left hk]
theorem kr (w v:World):w.heap.size<=(bW w v).heap.size:=by
 show w.heap.size<=(w.heap++v.heap.extract w.heap.size v.heap.size).size
 simp
theorem ar (w v:World):Below w.heap.size w (bW w v):=⟨rfl,rfl,rfl,kr w v,fun k hk=>nN w v k hk⟩
theorem fY {w v:World} (h:Below w.heap.size w v):v=bW w v:=by
 have hh:v.heap=w.heap++v.heap.extract w.heap.size v.heap.size:=by
  apply Array.ext_getElem?
  intro i
  by_cases hi:i<w.heap.size
  ·rw[Array.getElem?_append_left hi,h.block i hi]
  ·rw[Array.getElem?_append_right (by omega),Array.getElem?_extract]
   have:=h.size
   by_cases hv:i<v.heap.size
   ·rw[if_pos (by omega)];congr 1;omega
   ·rw[if_neg (by omega)];simp;omega
 obtain ⟨h1,h2,h3,h4,h5⟩:=h
 cases v
 simp only[bW]
 congr
theorem nO (w:World):({w with drawn:=w.drawn+1}:World)=bW w {w with drawn:=w.drawn+1}:=fY ⟨rfl,rfl,rfl,Nf _,fun _ _=>rfl⟩
theorem aw {P:Program} {id:Nat} {Q:Exit->Act->World->Prop} {a:Act} {w:World} {l:List Oper} (hm:P.follows .mixedOrders=true) (hB:Region.lexB .any l.toArray=true)
  (h:wpQuiet P l.toArray (fun w'=>∃v,w'=bW w v) (fun a'=>∀w',(∃v,w'=bW w v)->Q .normal a' w') l a):(Code.region id l.toArray true).wp P Q a w:=
 wp_region_quiet (C:=fun w'=>∃v,w'=bW w v) hm hB ⟨_,nO w⟩ (by simpa using h)
theorem Calls.over_of {P:Program} {f:FuncId} {args:Array Value} {w v:World} {u:Value}
  (h:Calls P f args (bW w v) fun e w'=>e=.returned u/\Below (bW w v).heap.size (bW w v) w'):Calls P f args (bW w v) fun e w''=>e=.returned u/\∃x,w''=bW w x:=
 h.mono fun _ w' ⟨he,hb⟩=>⟨he,w',fY ((ar w v).trans (hb.mono (kr w v)))⟩
open Go.RowKit
theorem qy:(Pg.info? 2).map (fun i=>(i.zero,i.size,i.bytes))=some (some (Ii Jj 0),1,8):=by kernel_rfl
def qD:Value->Nat| Sl _ n _=>n|_=>0
def f7 (w:World) (B:Nat) (v:Value) (l:List Int):Prop:=w.ownsRow B 2 1 v l.length (l.map (Value.int .i64))/\v≠ Sl none 0 0
theorem f7.shape {w:World} {B:Nat} {v:Value} {l:List Int} (h:f7 w B v l):∃g cap,v=Sl (some ⟨g,0,none⟩) l.length cap/\B<=g/\g<w.heap.size:=by
 rcases h.1.2 with ⟨hv,_⟩|⟨g,cap,cur,hv,hB,hg,_⟩
 ·exact absurd hv h.2
 ·refine ⟨g,cap,hv,hB,?_⟩
  by_cases hn:g<w.heap.size
  ·exact hn
  ·have e:w.heap[g]? =none:=by simp;omega
   rw[e] at hg;cases hg
theorem f7.kept {w w':World} {B:Nat} {v:Value} {l:List Int} (h:f7 w B v l) (hb:Below w.heap.size w w'):f7 w' B v l:=
 ⟨h.1.kept (row:=none) ⟨hb.os,hb.tape,hb.output,hb.size,fun k hk _=>hb.block k hk⟩ (by cases hv:v.ownBlock <;>simp),h.2⟩
theorem nf (F:Nat->al) (n m:Nat) (id:Int) (h0:id≠0) (hp:aB F n id=none):aR F n m id=none:=by
 cases m <;>simp[aR,h0,hp]
theorem ni (F:Nat->al) (n m:Nat):aR F n m 0=some []:=by
 cases m <;>simp[aR]
theorem mP (a:Option Addr) (n c:Nat) (F:Nat->al) (id:Int) (w:World) (h:Fo w a n F):
  Calls Pg 101 #[Sl a n c,Ii Jj id] w fun e w'=>Below w.heap.size w w'/\
   ((aR F n n id=none/\e=.returned (.tuple #[Sl none 0 0,.bool false]))\/∃l v,aR F n n id=some l/\e=.returned (.tuple #[v,.bool true])/\f7 w' w.heap.size v l):=by
 have H:Hid (Fo w a n F):=h
 have hn:=h.1
 clear h
 obtain ⟨i0,hi,hz0,hz1,hz2⟩:=info_parts qy
 have I0:Hid (f7 (w.alloc (.cells #[] 2)) w.heap.size (Sl (some ⟨w.heap.size,0,none⟩) 0 0) []):=⟨World.ownsRow_lit w #[] 0 (Nf _) (Nat.zero_le _) (by simp),by intro e;cases e⟩
 go_enter Tryz.func101,Tryz.ntmps101
 go_wp2
 go_loopw[1,6] (fun t v wr=>∃(pre:List Int) (cur:Int),t=Ii Jj cur/\qD v=pre.length/\pre.length<=n/\Hid (aR F n n id=(aR F n (n-pre.length) cur).map (pre++ ·))/\Hid (f7 wr w.heap.size v pre)/\Hid (Below w.heap.size w wr)) (fun _ v _=>n+1-qD v)
 case atStart=>
  refine ⟨[],id,rfl,rfl,Nat.zero_le _,?_,I0,(Bf _ _).alloc (Nf _) _⟩
  exact (by simp:aR F n n id=(aR F n (n-0) id).map ([]++ ·))
 case round=>
  obtain ⟨pre,cur,rfl,hlen,hpn,hch,hI,hB⟩:=hrel
  clear I0
  by_cases h0:cur=0
  ·subst h0
   have E:Hid (aR F n n id=some pre):=(by rw[hch.out,ni];simp:aR F n n id=some pre)
   go_wp2
   go_ret2
   exact ⟨hB.out,Or.inr ⟨pre,_,E.out,rfl,hI.out⟩⟩
  ·have b0:(cur != 0)=true:=by simp[h0]
   have H0:Hid (cur≠0):=h0
   clear h0
   obtain ⟨g,cap,hv,hg1,hg2⟩:=hI.out.shape
   subst hv
   go_wp2_with fail
   refine (bE a n c F cur _ (H.out.below hB.out)).mono ?_
   rintro e w1 ⟨rfl,rfl⟩
   rcases ks (F:=F) (n:=n) (id:=cur) with ⟨hp,hpi⟩|⟨i,hp,hin,hpi⟩
   ·have E:Hid (aR F n n id=none):=(by rw[hch.out,nf _ _ _ _ H0.out hp];rfl:aR F n n id=none)
    rw[hpi]
    clear hp hpi
    go_wp2
    go_ret2
    exact ⟨hB.out,Or.inl ⟨E.out,rfl⟩⟩
   ·rw[hpi]
    by_cases hfull:pre.length=n
    ·have E:Hid (aR F n n id=none):=(by rw[hch.out,hfull,Nat.sub_self];simp[aR,H0.out]:aR F n n id=none)
     have bf:((pre.length:Int) == (n:Int))=true:=by simp[hfull]
     clear hp hpi hfull
     go_wp2
     go_ret2
     exact ⟨hB.out,Or.inl ⟨E.out,rfl⟩⟩
    ·have bf:((pre.length:Int) == (n:Int))=false:=by simp;omega
     have E:Hid (aR F n n id=(aR F n (n-(pre++[cur]).length) (F i).up).map ((pre++[cur])++ ·)):=by
      have e1:n-pre.length=(n-(pre++[cur]).length)+1:=by simp;omega
      have e2:aR F n n id=(aR F n (n-(pre++[cur]).length) (F i).up).map ((pre++[cur])++ ·):=by
       rw[hch.out,e1]
       simp only[aR,if_neg H0.out,hp,Option.map_map]
       congr 1
       funext l
       simp
      exact e2
     obtain ⟨b,o,rfl,hb0,hA0⟩:=H.out.acc hin
     have hb:b<w1.heap.size:=Nat.lt_of_lt_of_le hb0 hB.out.size
     have hA:=hA0.of_cells (w':=w1) (fun q=>hB.out.cell (p:=⟨b,q,none⟩) hb0)
     clear hA0
     have hplt:pre.length<n:=by omega
     clear hp hpi hfull
     go_wp2_with (at_builtin;refine wpList_append_own _ rfl _ _ 80 rfl w.heap.size 2 i0 (Ii Jj 0) 1 8 Tryz.underlying80 hi hz0 hz1 hz2 rfl (by decide) _ _ _ rfl (hI.out.1.alloc _) ⟨_,0,none⟩ 1 1 [Ii Jj cur] rfl rfl ?_ ?_ ?_ ?_ ?_ ?_)
     ·intro j u hj
      match j,hj with
      | 0,hj=>simp at hj;subst hj;simp[Addr.add,go_sem]
     ·intro u hu;simp at hu;subst hu;rfl
     ·unfold maxLen;omega
     ·omega
     ·have:=hB.out.size;simp;omega
     ·intro v' w2 hown hgrow hnn
      have I2:Hid (f7 w2 w.heap.size v' (pre++[cur])):=⟨by simpa using hown,hnn⟩
      obtain ⟨g',cap',hv',hg1',hg2'⟩:=I2.out.shape
      subst hv'
      have B2:Hid (Below w.heap.size w w2):=(hB.out.alloc hB.out.size _).grown hgrow (by have:=hB.out.size;simp;omega) (fun k hk=>by simp[Value.ownBlock] at hk;omega)
      have hA2:eA w2 b (o+i*8) (F i):=by
       refine hA.of_cells (fun q=>World.cell?_of_block (w:=w1) ?_)
       show w2.heap[b]? =w1.heap[b]?
       rw[hgrow.block b (by simp;omega) (by simp[Value.ownBlock];omega),Below.heap_alloc _ _ _ hb]
      obtain ⟨c0,c1,c2,c3,c4,c5,c6,c7⟩:=hA2
      clear hown hgrow hnn hA
      go_wp2
      go_roundw
      case rel=>exact ⟨pre++[cur],(F i).up,rfl,rfl,by simp;omega,E,I2,B2⟩
      case measure=>simp[qD];omega
open Go.RowKit
theorem fL (a:al) (w:World) (h:ey a):
  Calls Pg 100 #[.agg #[Ii Jj a.id,Ii Jj a.up,Ii Jj a.limit,Ii Jj a.rate,Ii Jj a.target,.bool a.frozen,Ii Jj a.balance,Ii Jj a.carry]] w fun e w'=>e=.returned (.bool true)/\Below w.heap.size w w':=
 (oN a w).mono fun e w' ⟨b,he,hi,hb⟩=>⟨by rw[he,hi.2 h],hb⟩
theorem nS (a:al) (w:World) (h:¬ey a):
  Calls Pg 100 #[.agg #[Ii Jj a.id,Ii Jj a.up,Ii Jj a.limit,Ii Jj a.rate,Ii Jj a.target,.bool a.frozen,Ii Jj a.balance,Ii Jj a.carry]] w fun e w'=>e=.returned (.bool false)/\Below w.heap.size w w':=
 (oN a w).mono fun e w' ⟨b,he,hi,hb⟩=>⟨by rw[he];cases b with|true=>exact absurd (hi.1 rfl) h|false=>rfl,hb⟩
theorem ly (a:Option Addr) (n c:Nat) (F:Nat->al) (w:World) (h:Fo w a n F) (hn12:n<=12):
  Calls Pg 76 #[Sl a n c] w fun e w'=>∃b:Bool,e=.returned (.bool b)/\(b=true↔ap F n)/\Below w.heap.size w w':=by
 have H:Hid (Fo w a n F):=h
 clear h
 go_enter Tryz.func76,Tryz.ntmps76
 go_wp2
 go_loopw[3] (fun i wr=>∃k:Nat,k<=n/\i=Ii Jj k/\Hid (∀j,j<k->ey (F j))/\Hid (∀j,0<j->j<k->(F (j-1)).id<(F j).id)/\Hid (Below w.heap.size w wr)) (fun i _=>n-(intOf i).toNat)
 case atStart=>exact ⟨0,Nat.zero_le _,rfl,fun j hj=>absurd hj (Nat.not_lt_zero _),fun j _ hj=>absurd hj (Nat.not_lt_zero _),Bf _ _⟩
 case round=>
  obtain ⟨k,hk,rfl,hok,hri,hB⟩:=hrel
  by_cases hlt:k<n
  ·obtain ⟨b,o,rfl,hb0,hA0⟩:=H.out.acc hlt
   have hb:b<wr.heap.size:=Nat.lt_of_lt_of_le hb0 hB.out.size
   have hA:=hA0.of_cells (w':=wr) (fun q=>hB.out.cell (p:=⟨b,q,none⟩) hb0)
   clear hA0
   obtain ⟨c0,c1,c2,c3,c4,c5,c6,c7⟩:=hA
   have hov:∀v q,(bW wr v).cell? ⟨b,q,none⟩=wr.cell? ⟨b,q,none⟩:=fun v q=>(ar wr v).cell (p:=⟨b,q,none⟩) hb
   by_cases hoks:ey (F k)
   ·have HS:Hid (ey (F k)):=hoks
    have HK:Hid (∀j,j<k+1->ey (F j)):=fun j hj=>by
     by_cases e:j=k
     ·subst e;exact hoks
     ·exact hok.out j (by omega)
    clear hoks
    by_cases hk0:0<k
    ·obtain ⟨b',o',e',hb0',hA0'⟩:=H.out.acc (show k-1<n by omega)
     obtain ⟨rfl,rfl⟩:b=b'/\o=o':=by simpa using e'
     have d0:wr.cell? ⟨b,o+(k-1)*8,none⟩=some (Ii Jj (F (k-1)).id):=by
      rw[hB.out.cell (p:=⟨b,o+(k-1)*8,none⟩) hb0];exact hA0'.1
     clear e' hA0' hb0'
     have g0:(0:Int)<(k:Int):=by omega
     by_cases hr:(F (k-1)).id<(F k).id
     ·have HR:Hid (∀j,0<j->j<k+1->(F (j-1)).id<(F j).id):=fun j h1 h2=>by
       by_cases e:j=k
       ·subst e;exact hr
       ·exact hri.out j h1 (by omega)
      have hr':¬(F k).id<=(F (k-1)).id:=by omega
      have hd:decide ((F k).id<=(F (k-1)).id)=false:=decide_eq_false hr'
      go_wp2
      refine aw (by kernel_rfl) (by kernel_rfl) ?_
      repeat (go_big_quiet_step ((first|(go_at_call 100;exact Calls.over_of (fL (F k) _ HS.out)))))
      refine wpQuiet_nil ?_
      intro _ hw'
      obtain ⟨vq,hw''⟩:=hw'
      subst hw''
      go_wp2
      go_roundw
      case rel=>exact ⟨k+1,by omega,by go_num,HK,HR,hB.out.trans ((ar wr vq).mono hB.out.size)⟩
      case measure=>simp[intOf];omega
     ·have NR:Hid (¬ap F n):=fun hh=>hr (hh.2.2.1 k hk0 hlt)
      have hr':(F k).id<=(F (k-1)).id:=by omega
      clear hr
      go_wp2
      refine aw (by kernel_rfl) (by kernel_rfl) ?_
      repeat (go_big_quiet_step ((first|(go_at_call 100;exact Calls.over_of (fL (F k) _ HS.out)))))
      refine wpQuiet_nil ?_
      intro _ hw'
      obtain ⟨vq,hw''⟩:=hw'
      subst hw''
      go_wp2
      go_ret
      exact ⟨false,rfl,⟨fun h=>(by cases h),fun h=>absurd h NR.out⟩,hB.out.trans ((ar wr vq).mono hB.out.size)⟩
    ·have g0:decide (0<k)=false:=decide_eq_false (by omega)
     have HR:Hid (∀j,0<j->j<k+1->(F (j-1)).id<(F j).id):=fun j h1 h2=>by omega
     have hk1:k<=0:=by omega
     clear hk0
     go_wp2
     refine aw (by kernel_rfl) (by kernel_rfl) ?_
     repeat (go_big_quiet_step ((first|(go_at_call 100;exact Calls.over_of (fL (F k) _ HS.out)))))
     refine wpQuiet_nil ?_
     intro _ hw'
     obtain ⟨vq,hw''⟩:=hw'
     subst hw''
     go_wp2
     go_roundw
     case rel=>exact ⟨k+1,by omega,by go_num,HK,HR,hB.out.trans ((ar wr vq).mono hB.out.size)⟩
     case measure=>simp[intOf];omega
   ·have NR:Hid (¬ap F n):=fun hr=>hoks (hr.2.1 k hlt)
    have NO:Hid (¬ey (F k)):=hoks
    clear hoks
    go_wp2
    refine aw (by kernel_rfl) (by kernel_rfl) ?_
    repeat (go_big_quiet_step ((first|(go_at_call 100;exact Calls.over_of (nS (F k) _ NO.out)))))
    refine wpQuiet_nil ?_
    intro _ hw'
    obtain ⟨vq,hw''⟩:=hw'
    subst hw''
    go_wp2
    go_ret
    exact ⟨false,rfl,⟨fun h=>(by cases h),fun h=>absurd h NR.out⟩,hB.out.trans ((ar wr vq).mono hB.out.size)⟩
  ·have hkn:k=n:=by omega
   subst hkn
   clear hlt hk
   go_wp2
   go_loopw[4] (fun i wv=>∃m:Nat,m<=k/\i=Ii Jj m/\Hid (∀j,j<m->(aR F k k (F j).id).isSome=true)/\Hid (Below w.heap.size w wv)) (fun i _=>k-(intOf i).toNat)
   case atStart=>exact ⟨0,Nat.zero_le _,rfl,fun j hj=>absurd hj (Nat.not_lt_zero _),hB⟩
   case round=>
    obtain ⟨m,hm,rfl,hch,hB2⟩:=hrel
    by_cases hlt:m<k
    ·obtain ⟨b,o,rfl,hb0,hA0⟩:=H.out.acc hlt
     have hA:=hA0.of_cells (w':=wr) (fun q=>hB2.out.cell (p:=⟨b,q,none⟩) hb0)
     have c0:=hA.1
     clear hA0 hA
     go_wp2_with fail
     refine (mP _ _ _ F _ _ (H.out.below hB2.out)).mono ?_
     rintro e w1 ⟨B1,⟨hno,rfl⟩|⟨l,v,hl,rfl,hI⟩⟩
     ·have NR:Hid (¬ap F k):=fun hh=>by have:=hh.2.2.2 m hlt;rw[hno] at this;cases this
      have B1':Hid (Below w.heap.size w w1):=hB2.out.trans (B1.mono hB2.out.size)
      clear hno B1
      go_wp2
      go_ret
      exact ⟨false,rfl,⟨fun h=>(by cases h),fun h=>absurd h NR.out⟩,B1'.out⟩
     ·have HC:Hid (∀j,j<m+1->(aR F k k (F j).id).isSome=true):=fun j hj=>by
       by_cases e:j=m
       ·subst e;rw[hl];rfl
       ·exact hch.out j (by omega)
      have B1':Hid (Below w.heap.size w w1):=hB2.out.trans (B1.mono hB2.out.size)
      clear hl hI B1
      go_wp2
      go_roundw
      case rel=>exact ⟨m+1,by omega,by go_num,HC,B1'⟩
      case measure=>simp[intOf];omega
    ·have R:Hid (ap F k):=⟨hn12,hok.out,hri.out,fun i hi=>hch.out i (by omega)⟩
     go_wp2
     go_ret
     exact ⟨true,rfl,⟨fun _=>R.out,fun _=>rfl⟩,hB2.out⟩
open Go.RowKit
theorem fA (a:al) (w:World) (h:gx a):
  Calls Pg 80 #[.agg #[Ii Jj a.id,Ii Jj a.up,Ii Jj a.limit,Ii Jj a.rate,Ii Jj a.target,.bool a.frozen,Ii Jj a.balance,Ii Jj a.carry]] w fun e w'=>e=.returned (.bool true)/\Below w.heap.size w w':=
 (oq a w).mono fun e w' ⟨b,he,hi,hb⟩=>⟨by rw[he,hi.2 h],hb⟩
theorem nx (a:al) (w:World) (h:¬gx a):
  Calls Pg 80 #[.agg #[Ii Jj a.id,Ii Jj a.up,Ii Jj a.limit,Ii Jj a.rate,Ii Jj a.target,.bool a.frozen,Ii Jj a.balance,Ii Jj a.carry]] w fun e w'=>e=.returned (.bool false)/\Below w.heap.size w w':=
 (oq a w).mono fun e w' ⟨b,he,hi,hb⟩=>⟨by rw[he];cases b with|true=>exact absurd (hi.1 rfl) h|false=>rfl,hb⟩
theorem kZ (a:Option Addr) (n c:Nat) (F:Nat->al) (w:World) (h:Fo w a n F) (hn12:n<=12):
  Calls Pg 39 #[Sl a n c] w fun e w'=>∃b:Bool,e=.returned (.bool b)/\(b=true↔ap F n)/\Below w.heap.size w w':=by
 have H:Hid (Fo w a n F):=h
 clear h
 go_enter Tryz.func39,Tryz.ntmps39
 go_wp2
 go_loopw[12] (fun i wr=>∃k:Nat,k<=n/\i=Ii Jj k/\Hid (∀j,j<k->gx (F j))/\Hid (∀j,0<j->j<k->(F (j-1)).id<(F j).id)/\Hid (Below w.heap.size w wr)) (fun i _=>n-(intOf i).toNat)
 case atStart=>exact ⟨0,Nat.zero_le _,rfl,fun j hj=>absurd hj (Nat.not_lt_zero _),fun j _ hj=>absurd hj (Nat.not_lt_zero _),Bf _ _⟩
 case round=>
  obtain ⟨k,hk,rfl,hok,hri,hB⟩:=hrel
  by_cases hlt:k<n
  ·obtain ⟨b,o,rfl,hb0,hA0⟩:=H.out.acc hlt
   have hb:b<wr.heap.size:=Nat.lt_of_lt_of_le hb0 hB.out.size
   have hA:=hA0.of_cells (w':=wr) (fun q=>hB.out.cell (p:=⟨b,q,none⟩) hb0)
   clear hA0
   obtain ⟨c0,c1,c2,c3,c4,c5,c6,c7⟩:=hA
   have hov:∀v q,(bW (wr.alloc (.cells #[Ii Jj (F k).id,Ii Jj (F k).up,Ii Jj (F k).limit,Ii Jj (F k).rate,Ii Jj (F k).target,.bool (F k).frozen,Ii Jj (F k).balance,Ii Jj (F k).carry] 53)) v).cell? ⟨b,q,none⟩=(wr.alloc (.cells #[Ii Jj (F k).id,Ii Jj (F k).up,Ii Jj (F k).limit,Ii Jj (F k).rate,Ii Jj (F k).target,.bool (F k).frozen,Ii Jj (F k).balance,Ii Jj (F k).carry] 53)).cell? ⟨b,q,none⟩:=fun v q=>(ar _ v).cell (p:=⟨b,q,none⟩) (by simp;omega)
   have hov2:∀v q,(bW (wr.alloc (.cells #[Ii Jj (F k).id,Ii Jj (F k).up,Ii Jj (F k).limit,Ii Jj (F k).rate,Ii Jj (F k).target,.bool (F k).frozen,Ii Jj (F k).balance,Ii Jj (F k).carry] 53)) v).cell? ⟨wr.heap.size,q,none⟩=(wr.alloc (.cells #[Ii Jj (F k).id,Ii Jj (F k).up,Ii Jj (F k).limit,Ii Jj (F k).rate,Ii Jj (F k).target,.bool (F k).frozen,Ii Jj (F k).balance,Ii Jj (F k).carry] 53)).cell? ⟨wr.heap.size,q,none⟩:=fun v q=>(ar _ v).cell (p:=⟨wr.heap.size,q,none⟩) (by simp)
   by_cases hoks:gx (F k)
   ·have HS:Hid (gx (F k)):=hoks
    have HK:Hid (∀j,j<k+1->gx (F j)):=fun j hj=>by
     by_cases e:j=k
     ·subst e;exact hoks
     ·exact hok.out j (by omega)
    clear hoks
    by_cases hk0:0<k
    ·obtain ⟨b',o',e',hb0',hA0'⟩:=H.out.acc (show k-1<n by omega)
     obtain ⟨rfl,rfl⟩:b=b'/\o=o':=by simpa using e'
     have d0:wr.cell? ⟨b,o+(k-1)*8,none⟩=some (Ii Jj (F (k-1)).id):=by
      rw[hB.out.cell (p:=⟨b,o+(k-1)*8,none⟩) hb0];exact hA0'.1
     clear e' hA0' hb0'
     have g0:(0:Int)<(k:Int):=by omega
     by_cases hr:(F (k-1)).id<(F k).id
     ·have HR:Hid (∀j,0<j->j<k+1->(F (j-1)).id<(F j).id):=fun j h1 h2=>by
       by_cases e:j=k
       ·subst e;exact hr
       ·exact hri.out j h1 (by omega)
      have hr':¬(F k).id<=(F (k-1)).id:=by omega
      have hd:decide ((F k).id<=(F (k-1)).id)=false:=decide_eq_false hr'
      go_wp2
      refine aw (by kernel_rfl) (by kernel_rfl) ?_
      repeat (go_big_quiet_step ((first|(go_at_call 80;exact Calls.over_of (fA (F k) _ HS.out)))))
      refine wpQuiet_nil ?_
      intro _ hw'
      obtain ⟨vq,hw''⟩:=hw'
      subst hw''
      go_wp2
      go_roundw
      case rel=>exact ⟨k+1,by omega,by go_num,HK,HR,(hB.out.alloc hB.out.size _).trans ((ar _ vq).mono (by have:=hB.out.size;simp;omega))⟩
      case measure=>simp[intOf];omega
     ·have NR:Hid (¬ap F n):=fun hh=>hr (hh.2.2.1 k hk0 hlt)
      have hr':(F k).id<=(F (k-1)).id:=by omega
      clear hr
      go_wp2
      refine aw (by kernel_rfl) (by kernel_rfl) ?_
      repeat (go_big_quiet_step ((first|(go_at_call 80;exact Calls.over_of (fA (F k) _ HS.out)))))
      refine wpQuiet_nil ?_
      intro _ hw'
      obtain ⟨vq,hw''⟩:=hw'
      subst hw''
      go_wp2
      go_ret
      exact ⟨false,rfl,⟨fun h=>(by cases h),fun h=>absurd h NR.out⟩,(hB.out.alloc hB.out.size _).trans ((ar _ vq).mono (by have:=hB.out.size;simp;omega))⟩
    ·have g0:decide (0<k)=false:=decide_eq_false (by omega)
     have HR:Hid (∀j,0<j->j<k+1->(F (j-1)).id<(F j).id):=fun j h1 h2=>by omega
     have hk1:k<=0:=by omega
     clear hk0
     go_wp2
     refine aw (by kernel_rfl) (by kernel_rfl) ?_
     repeat (go_big_quiet_step ((first|(go_at_call 80;exact Calls.over_of (fA (F k) _ HS.out)))))
     refine wpQuiet_nil ?_
     intro _ hw'
     obtain ⟨vq,hw''⟩:=hw'
     subst hw''
     go_wp2
     go_roundw
     case rel=>exact ⟨k+1,by omega,by go_num,HK,HR,(hB.out.alloc hB.out.size _).trans ((ar _ vq).mono (by have:=hB.out.size;simp;omega))⟩
     case measure=>simp[intOf];omega
   ·have NR:Hid (¬ap F n):=fun hr=>hoks (((i7 F n).1 hr).2.1 k hlt)
    have NO:Hid (¬gx (F k)):=hoks
    clear hoks
    go_wp2
    refine aw (by kernel_rfl) (by kernel_rfl) ?_
    repeat (go_big_quiet_step ((first|(go_at_call 80;exact Calls.over_of (nx (F k) _ NO.out)))))
    refine wpQuiet_nil ?_
    intro _ hw'
    obtain ⟨vq,hw''⟩:=hw'
    subst hw''
    go_wp2
    go_ret
    exact ⟨false,rfl,⟨fun h=>(by cases h),fun h=>absurd h NR.out⟩,(hB.out.alloc hB.out.size _).trans ((ar _ vq).mono (by have:=hB.out.size;simp;omega))⟩
  ·have hkn:k=n:=by omega
   subst hkn
   clear hlt hk
   go_wp2
   go_loopw[38] (fun i wv=>∃m:Nat,m<=k/\i=Ii Jj m/\Hid (∀j,j<m->bU F k k (F j)=true)/\Hid (Below w.heap.size w wv)) (fun i _=>k-(intOf i).toNat)
   case atStart=>exact ⟨0,Nat.zero_le _,rfl,fun j hj=>absurd hj (Nat.not_lt_zero _),hB⟩
   case round=>
    obtain ⟨m,hm,rfl,hch,hB2⟩:=hrel
    by_cases hlt:m<k
    ·obtain ⟨b,o,rfl,hb0,hA0⟩:=H.out.acc hlt
     have hA:=hA0.of_cells (w':=wr) (fun q=>hB2.out.cell (p:=⟨b,q,none⟩) hb0)
     obtain ⟨c0,c1,c2,c3,c4,c5,c6,c7⟩:=hA
     clear hA0
     go_wp2_with fail
     refine (pe _ _ _ F (F m) _ ((H.out.below hB2.out).alloc _)).mono ?_
     rintro e w1 ⟨rfl,B1⟩
     have B1':Hid (Below w.heap.size w w1):=(hB2.out.alloc hB2.out.size _).trans (B1.mono (by have:=hB2.out.size;simp;omega))
     clear B1
     cases hle:bU F k k (F m) with
     | false=>
      have NR:Hid (¬ap F k):=fun hh=>by have:=((i7 F k).1 hh).2.2.2 m hlt;rw[hle] at this;cases this
      clear hle
      go_wp2
      go_ret
      exact ⟨false,rfl,⟨fun h=>(by cases h),fun h=>absurd h NR.out⟩,B1'.out⟩
     | true=>
      have HC:Hid (∀j,j<m+1->bU F k k (F j)=true):=fun j hj=>by
       by_cases e:j=m
       ·subst e;exact hle
       ·exact hch.out j (by omega)
      clear hle
      go_wp2
      go_roundw
      case rel=>exact ⟨m+1,by omega,by go_num,HC,B1'⟩
      case measure=>simp[intOf];omega
    ·have R:Hid (ap F k):=(i7 F k).2 ⟨hn12,hok.out,hri.out,fun i hi=>hch.out i (by omega)⟩
     go_wp2
     go_ret
     exact ⟨true,rfl,⟨fun _=>R.out,fun _=>rfl⟩,hB2.out⟩
theorem rr (a:Option Addr) (n c:Nat) (F:Nat->al) (w:World) (h:Fo w a n F):
  Calls Pg 76 #[Sl a n c] w fun e w'=>∃b:Bool,e=.returned (.bool b)/\(b=true↔ap F n)/\Below w.heap.size w w':=by
 by_cases h12:n<=12
 ·exact ly a n c F w h h12
 ·have NR:Hid (¬ap F n):=fun hh=>h12 hh.1
  have h12':(12:Int)<(n:Int):=by omega
  have hn:=h.1
  clear h
  go_enter Tryz.func76,Tryz.ntmps76
  go_wp2
  go_ret
  exact ⟨false,rfl,⟨fun h=>(by cases h),fun h=>absurd h NR.out⟩,Bf _ _⟩
theorem qu (a:Option Addr) (n c:Nat) (F:Nat->al) (w:World) (h:Fo w a n F):
  Calls Pg 39 #[Sl a n c] w fun e w'=>∃b:Bool,e=.returned (.bool b)/\(b=true↔ap F n)/\Below w.heap.size w w':=by
 by_cases h12:n<=12
 ·exact kZ a n c F w h h12
 ·have NR:Hid (¬ap F n):=fun hh=>h12 hh.1
  have h12':(12:Int)<(n:Int):=by omega
  have hn:=h.1
  clear h
  go_enter Tryz.func39,Tryz.ntmps39
  go_wp2
  go_ret
  exact ⟨false,rfl,⟨fun h=>(by cases h),fun h=>absurd h NR.out⟩,Bf _ _⟩
open Go.RowKit
theorem ge:(Pg.info? 53).map (fun i=>(i.zero,i.size,i.bytes))=some (some (.agg #[Ii Jj 0,Ii Jj 0,Ii Jj 0,Ii Jj 0,Ii Jj 0,.bool false,Ii Jj 0,Ii Jj 0]),8,64):=by kernel_rfl
open Go.RowKit
theorem dh (a:Option Addr) (n c:Nat) (F:Nat->al) (w:World) (h:Fo w a n F) (hR:ap F n):
  Calls Pg 76 #[Sl a n c] w fun e w'=>e=.returned (.bool true)/\Below w.heap.size w w':=
 (rr a n c F w h).mono fun e w' ⟨b,he,hi,hb⟩=>⟨by rw[he,hi.2 hR],hb⟩
theorem eZ (a:Option Addr) (n c:Nat) (F:Nat->al) (w:World) (h:Fo w a n F) (hR:¬ap F n):
  Calls Pg 76 #[Sl a n c] w fun e w'=>e=.returned (.bool false)/\Below w.heap.size w w':=
 (rr a n c F w h).mono fun e w' ⟨b,he,hi,hb⟩=>⟨by rw[he];cases b with|true=>exact absurd (hi.1 rfl) hR|false=>rfl,hb⟩
theorem ji (a:Option Addr) (n c:Nat) (F:Nat->al) (w:World) (h:Fo w a n F) (hR:ap F n):
  Calls Pg 39 #[Sl a n c] w fun e w'=>e=.returned (.bool true)/\Below w.heap.size w w':=
 (qu a n c F w h).mono fun e w' ⟨b,he,hi,hb⟩=>⟨by rw[he,hi.2 hR],hb⟩
theorem pf (a:Option Addr) (n c:Nat) (F:Nat->al) (w:World) (h:Fo w a n F) (hR:¬ap F n):
  Calls Pg 39 #[Sl a n c] w fun e w'=>e=.returned (.bool false)/\Below w.heap.size w w':=
 (qu a n c F w h).mono fun e w' ⟨b,he,hi,hb⟩=>⟨by rw[he];cases b with|true=>exact absurd (hi.1 rfl) hR|false=>rfl,hb⟩
def dF (F:Nat->al):Nat->Int
 | 0=>0
 | k+1=>dF F k+(F k).balance
theorem fO {F:Nat->al} {n:Nat} (hR:ap F n):∀k,k<=n-> -(1000000000000*(k:Int))<=dF F k/\dF F k<=1000000000000*(k:Int)
 | 0,_=>by simp[dF]
 | k+1,hk=>by
  have i:=fO hR k (by omega)
  have b:=(hR.2.1 k (by omega)).2.2.2.2.2.1
  simp only[dF]
  omega
theorem jM (a:Option Addr) (n c:Nat) (F:Nat->al) (w:World) (h:Fo w a n F) (hR:ap F n):
  Calls Pg 42 #[Sl a n c] w fun e w'=>e=.returned (Ii Jj (dF F n))/\Below w.heap.size w w':=by
 have H:Hid (Fo w a n F):=h
 have HR:Hid (ap F n):=hR
 have hn:=hR.1
 clear h hR
 go_enter Tryz.func42,Tryz.ntmps42
 go_wp2_with fail
 refine (ji a n c F _ H.out HR.out).mono ?_
 rintro e w1 ⟨rfl,B1⟩
 have B1':Hid (Below w.heap.size w w1):=B1
 clear B1
 go_wp2
 go_loopw[3,11] (fun t i wr=>∃k:Nat,k<=n/\i=Ii Jj k/\t=Ii Jj (dF F k)/\Hid (Below w.heap.size w wr)) (fun _ i _=>n-(intOf i).toNat)
 case atStart=>exact ⟨0,Nat.zero_le _,rfl,rfl,B1'⟩
 case round=>
  obtain ⟨k,hk,rfl,rfl,hB⟩:=hrel
  obtain ⟨t1,t2⟩:=fO HR.out k hk
  by_cases hlt:k<n
  ·obtain ⟨b,o,rfl,hb0,hA0⟩:=H.out.acc hlt
   have hA:=hA0.of_cells (w':=wr) (fun q=>hB.out.cell (p:=⟨b,q,none⟩) hb0)
   obtain ⟨c0,c1,c2,c3,c4,c5,c6,c7⟩:=hA
   obtain ⟨b1,b2⟩:=(HR.out.2.1 k hlt).2.2.2.2.2.1
   clear hA0
   go_wp2
   go_roundw
   case rel=>exact ⟨k+1,by omega,by go_num,rfl,hB.out.alloc hB.out.size _⟩
   case measure=>simp[intOf];omega
  ·have hkn:k=n:=by omega
   subst hkn
   go_wp2
   go_ret
   exact ⟨rfl,hB.out⟩
open Go.RowKit
def ub:al:=⟨0,0,0,0,0,false,0,0⟩
end Go.Proofs.YtjhgchlfpolkcaaGreatDoor
