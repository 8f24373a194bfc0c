/- Accounts and forests as plain data. -/
import Derived.Test.YtghkbhggopiajaaGreatDoorRows
import Derived.WalkKit
import Derived.WalkLawsBesides
import Derived.Below
import Derived.Deep.QuietTactic
import Derived.BigQuiet
import Derived.OwnWalk
set_option maxHeartbeats 2000000
set_option maxRecDepth 8000
namespace Go.Proofs.YtghkbhggopiajaaGreatDoor
theorem hidOf {p:Prop} (h:p):Go.RowKit.Hid p:=h
structure Acc where
 id:Int
 up:Int
 limit:Int
 rate:Int
 target:Int
 frozen:Bool
 balance:Int
 carry:Int
def findAt (F:Nat->Acc) (id:Int):Nat->Nat->Option Nat
 | 0,_=>none
 | m+1,k=>if (F k).id=id then some k else findAt F id m (k+1)
def place (F:Nat->Acc) (n:Nat) (id:Int):Option Nat:=findAt F id n 0
theorem findAt_some {F:Nat->Acc} {id:Int}:∀{m k i:Nat},findAt F id m k=some i->k<=i/\i<k+m/\(F i).id=id/\∀j,k<=j->j<i->(F j).id≠id
 | 0,k,i,h=>by simp[findAt] at h
 | m+1,k,i,h=>by
  unfold findAt at h
  split at h
  ·rename_i hk
   obtain rfl:=Option.some.inj h
   exact ⟨Nat.le_refl _,by omega,hk,fun j h1 h2=>by omega⟩
  ·rename_i hk
   obtain ⟨a,b,c,d⟩:=findAt_some h
   refine ⟨by omega,by omega,c,fun j h1 h2=>?_⟩
   by_cases e:j=k
   ·subst e;exact hk
   ·exact d j (by omega) h2
theorem findAt_hit {F:Nat->Acc} {id:Int}:∀{m k i:Nat},k<=i->i<k+m->(F i).id=id->(∀j,k<=j->j<i->(F j).id≠id)->findAt F id m k=some i
 | 0,k,i,h1,h2,_,_=>by omega
 | m+1,k,i,h1,h2,h3,h4=>by
  unfold findAt
  by_cases e:k=i
  ·subst e;simp[h3]
  ·rw[if_neg (h4 k (Nat.le_refl _) (by omega))]
   exact findAt_hit (by omega) (by omega) h3 (fun j a b=>h4 j (by omega) b)
theorem findAt_miss {F:Nat->Acc} {id:Int}:∀{m k:Nat},(∀j,k<=j->j<k+m->(F j).id≠id)->findAt F id m k=none
 | 0,k,_=>rfl
 | m+1,k,h=>by
  unfold findAt
  rw[if_neg (h k (Nat.le_refl _) (by omega))]
  exact findAt_miss (fun j a b=>h j (by omega) (by omega))
theorem place_some {F:Nat->Acc} {n:Nat} {id:Int} {i:Nat} (h:place F n id=some i):i<n/\(F i).id=id:=by
 obtain ⟨_,b,c,_⟩:=findAt_some h
 exact ⟨by omega,c⟩
theorem place_hit {F:Nat->Acc} {n:Nat} {id:Int} {i:Nat} (h1:i<n) (h2:(F i).id=id) (h3:∀j,j<i->(F j).id≠id):place F n id=some i:=
 findAt_hit (Nat.zero_le _) (by omega) h2 (fun j _ b=>h3 j b)
theorem place_miss {F:Nat->Acc} {n:Nat} {id:Int} (h:∀j,j<n->(F j).id≠id):place F n id=none:=
 findAt_miss (fun j _ b=>h j (by omega))
def placeI (F:Nat->Acc) (n:Nat) (id:Int):Int:=match place F n id with|some i=>i|none=> -1
theorem placeI_some {F:Nat->Acc} {n:Nat} {id:Int} {i:Nat} (h:place F n id=some i):placeI F n id=i:=by simp[placeI,h]
theorem placeI_none {F:Nat->Acc} {n:Nat} {id:Int} (h:place F n id=none):placeI F n id= -1:=by simp[placeI,h]
def chain (F:Nat->Acc) (n:Nat):Nat->Int->Option (List Int)
 | 0,id=>if id=0 then some [] else none
 | m+1,id=>if id=0 then some [] else match place F n id with|none=>none|some i=>(chain F n m (F i).up).map (id:: ·)
def leads (F:Nat->Acc) (n:Nat):Nat->Acc->Bool
 | 0,_=>false
 | m+1,a=>if a.up=0 then true else match place F n a.up with|none=>false|some i=>leads F n m (F i)
theorem chain_leads (F:Nat->Acc) (n:Nat):∀(m:Nat) (id:Int) (i:Nat),id≠0->place F n id=some i->(chain F n m id).isSome=leads F n m (F i)
 | 0,id,i,h0,_=>by simp[chain,leads,h0]
 | m+1,id,i,h0,hp=>by
  simp only[chain,leads,if_neg h0,hp,Option.isSome_map]
  by_cases hu:(F i).up=0
  ·cases m <;>simp[chain,hu]
  ·rw[if_neg hu]
   cases hq:place F n (F i).up with
   | none=>cases m <;>simp[chain,hu,hq]
   | some j=>exact chain_leads F n m _ j hu hq
def okS (a:Acc):Prop:=(1<=a.id/\a.id<=1000000)/\(0<=a.up/\a.up<=1000000)/\(-1<=a.limit/\a.limit<=1000000000000)/\(0<=a.rate/\a.rate<=10000)/\(-1<=a.target/\a.target<=1000000000000)/\(-1000000000000<=a.balance/\a.balance<=1000000000000)/\(0<=a.carry/\a.carry<=3649999)/\
 (a.up=0->0<=a.limit/\a.target<0)/\(a.up≠0->a.rate=0/\a.carry=0)
def okI (a:Acc):Prop:=(1<=a.id/\a.id<=1000000)/\(-1<=a.limit/\a.limit<=1000000000000)/\(-1<=a.target/\a.target<=1000000000000)/\(-1000000000000<=a.balance/\a.balance<=1000000000000)/\
 (a.up≠0->a.rate=0/\a.carry=0)/\(a.up=0->a.limit≠ -1/\a.target= -1/\(0<=a.rate/\a.rate<=10000)/\(0<=a.carry/\a.carry<3650000))
theorem okS_iff (a:Acc):okS a↔okI a/\0<=a.up/\a.up<=1000000:=by
 constructor
 ·rintro ⟨h1,h2,h3,h4,h5,h6,h7,h8,h9⟩
  refine ⟨⟨h1,h3,h5,h6,h9,fun hu=>?_⟩,h2⟩
  have:=h8 hu
  exact ⟨by omega,by omega,h4,by omega⟩
 ·rintro ⟨⟨h1,h3,h5,h6,h9,h8⟩,h2⟩
  by_cases hu:a.up=0
  ·have:=h8 hu
   exact ⟨h1,h2,h3,this.2.2.1,h5,h6,by omega,fun _=>by omega,h9⟩
  ·have:=h9 hu
   exact ⟨h1,h2,h3,by omega,h5,h6,by omega,fun e=>absurd e hu,h9⟩
def rising (F:Nat->Acc) (n:Nat):Prop:=∀i,0<i->i<n->(F (i-1)).id<(F i).id
def Right (F:Nat->Acc) (n:Nat):Prop:=n<=12/\(∀i,i<n->okS (F i))/\rising F n/\∀i,i<n->(chain F n n (F i).id).isSome=true
theorem rising_lt {F:Nat->Acc} {n:Nat} (h:rising F n):∀{i j:Nat},i<j->j<n->(F i).id<(F j).id:=by
 intro i j hij hj
 induction j with
 | zero=>omega
 | succ j ih=>
  have s:=h (j+1) (by omega) hj
  simp only[Nat.add_sub_cancel] at s
  by_cases e:i=j
  ·subst e;exact s
  ·exact Int.lt_trans (ih (by omega) (by omega)) s
theorem place_self {F:Nat->Acc} {n:Nat} (h:rising F n) {i:Nat} (hi:i<n):place F n (F i).id=some i:=
 place_hit hi rfl (fun j hj e=>by have:=rising_lt h hj hi;omega)
theorem right_iff (F:Nat->Acc) (n:Nat):Right F n↔n<=12/\(∀i,i<n->okI (F i))/\rising F n/\∀i,i<n->leads F n n (F i)=true:=by
 constructor
 ·rintro ⟨h1,h2,h3,h4⟩
  refine ⟨h1,fun i hi=>((okS_iff _).1 (h2 i hi)).1,h3,fun i hi=>?_⟩
  rw[←chain_leads F n n (F i).id i (by have:=(h2 i hi).1;omega) (place_self h3 hi)]
  exact h4 i hi
 ·rintro ⟨h1,h2,h3,h4⟩
  refine ⟨h1,fun i hi=>(okS_iff _).2 ⟨h2 i hi,?_⟩,h3,fun i hi=>?_⟩
  ·have hl:=h4 i hi
   cases n with
   | zero=>omega
   | succ m=>
    unfold leads at hl
    by_cases hu:(F i).up=0
    ·omega
    ·rw[if_neg hu] at hl
     cases hp:place F (m+1) (F i).up with
     | none=>rw[hp] at hl;simp at hl
     | some j=>
      obtain ⟨hj,hid⟩:=place_some hp
      have:=(h2 j hj).1
      omega
  ·rw[chain_leads F n n (F i).id i (by have:=(h2 i hi).1;omega) (place_self h3 hi)]
   exact h4 i hi
open Go.RowKit
def AccAt (w:World) (b p:Nat) (a:Acc):Prop:=
 w.cell? ⟨b,p,none⟩=some (.int .i64 a.id)/\w.cell? ⟨b,p+1,none⟩=some (.int .i64 a.up)/\w.cell? ⟨b,p+2,none⟩=some (.int .i64 a.limit)/\w.cell? ⟨b,p+3,none⟩=some (.int .i64 a.rate)/\
 w.cell? ⟨b,p+4,none⟩=some (.int .i64 a.target)/\w.cell? ⟨b,p+5,none⟩=some (.bool a.frozen)/\w.cell? ⟨b,p+6,none⟩=some (.int .i64 a.balance)/\w.cell? ⟨b,p+7,none⟩=some (.int .i64 a.carry)
def Fo (w:World) (a:Option Addr) (n:Nat) (F:Nat->Acc):Prop:=
 n<=1048576/\(n=0\/∃b o,a=some ⟨b,o,none⟩/\b<w.heap.size/\∀i,i<n->AccAt w b (o+i*8) (F i))
theorem AccAt.of_cells {w w':World} {b p:Nat} {a:Acc} (h:AccAt w b p a) (hc:∀o,w'.cell? ⟨b,o,none⟩=w.cell? ⟨b,o,none⟩):AccAt w' b p a:=by
 unfold AccAt at h ⊢
 simp only[hc]
 exact h
theorem Fo.below {w w':World} {a:Option Addr} {n:Nat} {F:Nat->Acc} (h:Fo w a n F) (hb:Below w.heap.size w w'):Fo w' a n F:=by
 refine ⟨h.1,?_⟩
 rcases h.2 with h0|⟨b,o,ha,hlt,hall⟩
 ·exact Or.inl h0
 ·exact Or.inr ⟨b,o,ha,Nat.lt_of_lt_of_le hlt hb.size,fun i hi=>(hall i hi).of_cells (fun q=>hb.cell (p:=⟨b,q,none⟩) hlt)⟩
theorem Fo.alloc {w:World} {a:Option Addr} {n:Nat} {F:Nat->Acc} (h:Fo w a n F) (x:Obj):Fo (w.alloc x) a n F:=h.below ((Below.refl _ _).alloc (Nat.le_refl _) x)
theorem Fo.acc {w:World} {a:Option Addr} {n:Nat} {F:Nat->Acc} (h:Fo w a n F) {i:Nat} (hi:i<n):∃b o,a=some ⟨b,o,none⟩/\b<w.heap.size/\AccAt w b (o+i*8) (F i):=by
 rcases h.2 with h0|⟨b,o,ha,hlt,hall⟩
 ·omega
 ·exact ⟨b,o,ha,hlt,hall i hi⟩
theorem specAt (a:Option Addr) (n c:Nat) (F:Nat->Acc) (id:Int) (w:World) (h:Fo w a n F):
  Calls Tryz.prog 109 #[.slice a n c,.int .i64 id] w fun e w'=>e=.returned (.int .i64 (placeI F n id))/\w'=w:=by
 have H:=hidOf h
 have hn:=h.1
 clear h
 go_enter Tryz.func109,Tryz.ntmps109
 go_wp2
 go_loop [5] (fun i=>∃k:Nat,k<=n/\i=.int .i64 k/\Hid (∀j,j<k->(F j).id≠id)) (fun i=>n-(intOf i).toNat)
 case atStart=>exact ⟨0,Nat.zero_le _,rfl,fun j hj=>absurd hj (Nat.not_lt_zero _)⟩
 case round=>
  obtain ⟨k,hk,rfl,hno⟩:=hrel
  by_cases hlt:k<n
  ·obtain ⟨b,o,rfl,hb,hA⟩:=H.out.acc hlt
   have c0:=hA.1
   clear hA
   by_cases hid:(F k).id=id
   ·have e:=hidOf (placeI_some (place_hit hlt hid hno.out))
    have hid':((F k).id == id)=true:=by simp[hid]
    clear hid
    go_wp2
    go_ret
    rw[e.out]
    exact ⟨rfl,rfl⟩
   ·have hid':((F k).id == id)=false:=by simp[hid]
    have HN:Hid (∀j,j<k+1->(F j).id≠id):=fun j hj=>by
     by_cases e:j=k
     ·subst e;exact hid
     ·exact hno.out j (by omega)
    clear hid
    go_wp2
    go_round
    case rel=>exact ⟨k+1,by omega,by go_num,HN⟩
    case measure=>simp[intOf];omega
  ·have e:Hid (placeI F n id= -1):=placeI_none (place_miss (fun j hj=>hno.out j (by omega)))
   go_wp2
   go_ret
   rw[e.out]
   exact ⟨rfl,rfl⟩
theorem implAt (a:Option Addr) (n c:Nat) (F:Nat->Acc) (id:Int) (w:World) (h:Fo w a n F):
  Calls Tryz.prog 63 #[.slice a n c,.int .i64 id] w fun e w'=>e=.returned (.int .i64 (placeI F n id))/\Below w.heap.size w w':=by
 have H:=hidOf h
 have hn:=h.1
 clear h
 go_enter Tryz.func63,Tryz.ntmps63
 go_wp2
 go_loopw[9] (fun i wr=>∃k:Nat,k<=n/\i=.int .i64 k/\Hid (∀j,j<k->(F j).id≠id)/\Hid (Below w.heap.size w wr)) (fun i _=>n-(intOf i).toNat)
 case atStart=>exact ⟨0,Nat.zero_le _,rfl,fun j hj=>absurd hj (Nat.not_lt_zero _),Below.refl _ _⟩
 case round=>
  obtain ⟨k,hk,rfl,hno,hB⟩:=hrel
  by_cases hlt:k<n
  ·obtain ⟨b,o,rfl,hb,hA⟩:=(H.out.below hB.out).acc hlt
   obtain ⟨c0,c1,c2,c3,c4,c5,c6,c7⟩:=hA
   by_cases hid:(F k).id=id
   ·have e:=hidOf (placeI_some (place_hit hlt hid hno.out))
    have hid':((F k).id == id)=true:=by simp[hid]
    clear hid
    go_wp2
    go_ret
    rw[e.out]
    exact ⟨rfl,hB.out.alloc hB.out.size _⟩
   ·have hid':((F k).id == id)=false:=by simp[hid]
    have HN:Hid (∀j,j<k+1->(F j).id≠id):=fun j hj=>by
     by_cases e:j=k
     ·subst e;exact hid
     ·exact hno.out j (by omega)
    clear hid
    go_wp2
    go_roundw
    case rel=>exact ⟨k+1,by omega,by go_num,HN,hB.out.alloc hB.out.size _⟩
    case measure=>simp[intOf];omega
  ·have e:Hid (placeI F n id= -1):=placeI_none (place_miss (fun j hj=>hno.out j (by omega)))
   go_wp2
   go_ret
   rw[e.out]
   exact ⟨rfl,hB.out⟩
open Go.RowKit
theorem l1In_yes (n lo hi:Int) (w:World) (h:lo<=n/\n<=hi):
  Calls Tryz.prog 85 #[.int .i64 n,.int .i64 lo,.int .i64 hi] w fun e w'=>e=.returned (.bool true)/\w'=w:=by
 obtain ⟨h1,h2⟩:=h
 go_enter Tryz.func85,Tryz.ntmps85
 go_wp2
 go_ret
 exact ⟨rfl,rfl⟩
theorem l1In_no (n lo hi:Int) (w:World) (h:¬(lo<=n/\n<=hi)):
  Calls Tryz.prog 85 #[.int .i64 n,.int .i64 lo,.int .i64 hi] w fun e w'=>e=.returned (.bool false)/\w'=w:=by
 by_cases h1:lo<=n
 ·have h2:¬n<=hi:=by omega
  have h3:hi<n:=by omega
  clear h
  go_enter Tryz.func85,Tryz.ntmps85
  go_wp2
  go_ret
  exact ⟨rfl,rfl⟩
 ·have h2:n<lo:=by omega
  clear h
  go_enter Tryz.func85,Tryz.ntmps85
  go_wp2
  go_ret
  exact ⟨rfl,rfl⟩
theorem idOk_yes (n:Int) (w:World) (h:1<=n/\n<=1000000):
  Calls Tryz.prog 110 #[.int .i64 n] w fun e w'=>e=.returned (.bool true)/\w'=w:=by
 obtain ⟨h1,h2⟩:=h
 go_enter Tryz.func110,Tryz.ntmps110
 go_wp2
 go_ret
 exact ⟨rfl,rfl⟩
theorem idOk_no (n:Int) (w:World) (h:¬(1<=n/\n<=1000000)):
  Calls Tryz.prog 110 #[.int .i64 n] w fun e w'=>e=.returned (.bool false)/\w'=w:=by
 by_cases h1:1<=n
 ·have h2:¬n<=1000000:=by omega
  have h3:1000000<n:=by omega
  clear h
  go_enter Tryz.func110,Tryz.ntmps110
  go_wp2
  go_ret
  exact ⟨rfl,rfl⟩
 ·have h2:n<1:=by omega
  clear h
  go_enter Tryz.func110,Tryz.ntmps110
  go_wp2
  go_ret
  exact ⟨rfl,rfl⟩
theorem amount_yes (n:Int) (w:World) (h: -1<=n/\n<=1000000000000):
  Calls Tryz.prog 111 #[.int .i64 n] w fun e w'=>e=.returned (.bool true)/\w'=w:=by
 obtain ⟨h1,h2⟩:=h
 go_enter Tryz.func111,Tryz.ntmps111
 go_wp2
 go_ret
 exact ⟨rfl,rfl⟩
theorem amount_no (n:Int) (w:World) (h:¬(-1<=n/\n<=1000000000000)):
  Calls Tryz.prog 111 #[.int .i64 n] w fun e w'=>e=.returned (.bool false)/\w'=w:=by
 by_cases h1: -1<=n
 ·have h2:¬n<=1000000000000:=by omega
  have h3:1000000000000<n:=by omega
  clear h
  go_enter Tryz.func111,Tryz.ntmps111
  go_wp2
  go_ret
  exact ⟨rfl,rfl⟩
 ·have h2:n< -1:=by omega
  clear h
  go_enter Tryz.func111,Tryz.ntmps111
  go_wp2
  go_ret
  exact ⟨rfl,rfl⟩
theorem specAcc (a:Acc) (w:World):
  Calls Tryz.prog 61 #[.agg #[.int .i64 a.id,.int .i64 a.up,.int .i64 a.limit,.int .i64 a.rate,.int .i64 a.target,.bool a.frozen,.int .i64 a.balance,.int .i64 a.carry]] w fun e w'=>∃b:Bool,e=.returned (.bool b)/\(b=true↔okS a)/\Below w.heap.size w w':=by
 by_cases h0:1<=a.id/\a.id<=1000000
 rotate_left
 ·have hno:¬okS a:=fun k=>h0 (k.1)
  have HN:=hidOf hno
  clear hno
  go_enter Tryz.func61,Tryz.ntmps61
  go_wp2_with (first|(go_at_call 85;refine (l1In_yes _ _ _ _ ?_).mono ?_;(focus omega);rintro e w' ⟨rfl,rfl⟩)|(go_at_call 85;refine (l1In_no _ _ _ _ ?_).mono ?_;(focus omega);rintro e w' ⟨rfl,rfl⟩))
  go_ret
  exact ⟨false,rfl,⟨fun h=>(by cases h),fun h=>absurd h HN.out⟩,(Below.refl _ _).alloc (Nat.le_refl _) _⟩
 by_cases h1:0<=a.up/\a.up<=1000000
 rotate_left
 ·have hno:¬okS a:=fun k=>h1 (k.2.1)
  have HN:=hidOf hno
  clear hno
  go_enter Tryz.func61,Tryz.ntmps61
  go_wp2_with (first|(go_at_call 85;refine (l1In_yes _ _ _ _ ?_).mono ?_;(focus omega);rintro e w' ⟨rfl,rfl⟩)|(go_at_call 85;refine (l1In_no _ _ _ _ ?_).mono ?_;(focus omega);rintro e w' ⟨rfl,rfl⟩))
  go_ret
  exact ⟨false,rfl,⟨fun h=>(by cases h),fun h=>absurd h HN.out⟩,(Below.refl _ _).alloc (Nat.le_refl _) _⟩
 by_cases h2: -1<=a.limit/\a.limit<=1000000000000
 rotate_left
 ·have hno:¬okS a:=fun k=>h2 (k.2.2.1)
  have HN:=hidOf hno
  clear hno
  go_enter Tryz.func61,Tryz.ntmps61
  go_wp2_with (first|(go_at_call 85;refine (l1In_yes _ _ _ _ ?_).mono ?_;(focus omega);rintro e w' ⟨rfl,rfl⟩)|(go_at_call 85;refine (l1In_no _ _ _ _ ?_).mono ?_;(focus omega);rintro e w' ⟨rfl,rfl⟩))
  go_ret
  exact ⟨false,rfl,⟨fun h=>(by cases h),fun h=>absurd h HN.out⟩,(Below.refl _ _).alloc (Nat.le_refl _) _⟩
 by_cases h3:0<=a.rate/\a.rate<=10000
 rotate_left
 ·have hno:¬okS a:=fun k=>h3 (k.2.2.2.1)
  have HN:=hidOf hno
  clear hno
  go_enter Tryz.func61,Tryz.ntmps61
  go_wp2_with (first|(go_at_call 85;refine (l1In_yes _ _ _ _ ?_).mono ?_;(focus omega);rintro e w' ⟨rfl,rfl⟩)|(go_at_call 85;refine (l1In_no _ _ _ _ ?_).mono ?_;(focus omega);rintro e w' ⟨rfl,rfl⟩))
  go_ret
  exact ⟨false,rfl,⟨fun h=>(by cases h),fun h=>absurd h HN.out⟩,(Below.refl _ _).alloc (Nat.le_refl _) _⟩
 by_cases h4: -1<=a.target/\a.target<=1000000000000
 rotate_left
 ·have hno:¬okS a:=fun k=>h4 (k.2.2.2.2.1)
  have HN:=hidOf hno
  clear hno
  go_enter Tryz.func61,Tryz.ntmps61
  go_wp2_with (first|(go_at_call 85;refine (l1In_yes _ _ _ _ ?_).mono ?_;(focus omega);rintro e w' ⟨rfl,rfl⟩)|(go_at_call 85;refine (l1In_no _ _ _ _ ?_).mono ?_;(focus omega);rintro e w' ⟨rfl,rfl⟩))
  go_ret
  exact ⟨false,rfl,⟨fun h=>(by cases h),fun h=>absurd h HN.out⟩,(Below.refl _ _).alloc (Nat.le_refl _) _⟩
 by_cases h5: -1000000000000<=a.balance/\a.balance<=1000000000000
 rotate_left
 ·have hno:¬okS a:=fun k=>h5 (k.2.2.2.2.2.1)
  have HN:=hidOf hno
  clear hno
  go_enter Tryz.func61,Tryz.ntmps61
  go_wp2_with (first|(go_at_call 85;refine (l1In_yes _ _ _ _ ?_).mono ?_;(focus omega);rintro e w' ⟨rfl,rfl⟩)|(go_at_call 85;refine (l1In_no _ _ _ _ ?_).mono ?_;(focus omega);rintro e w' ⟨rfl,rfl⟩))
  go_ret
  exact ⟨false,rfl,⟨fun h=>(by cases h),fun h=>absurd h HN.out⟩,(Below.refl _ _).alloc (Nat.le_refl _) _⟩
 by_cases h6:0<=a.carry/\a.carry<=3649999
 rotate_left
 ·have hno:¬okS a:=fun k=>h6 (k.2.2.2.2.2.2.1)
  have HN:=hidOf hno
  clear hno
  go_enter Tryz.func61,Tryz.ntmps61
  go_wp2_with (first|(go_at_call 85;refine (l1In_yes _ _ _ _ ?_).mono ?_;(focus omega);rintro e w' ⟨rfl,rfl⟩)|(go_at_call 85;refine (l1In_no _ _ _ _ ?_).mono ?_;(focus omega);rintro e w' ⟨rfl,rfl⟩))
  go_ret
  exact ⟨false,rfl,⟨fun h=>(by cases h),fun h=>absurd h HN.out⟩,(Below.refl _ _).alloc (Nat.le_refl _) _⟩
 by_cases hu:a.up=0
 ·have bu:(a.up == 0)=true:=by simp[hu]
  by_cases hl:0<=a.limit
  ·by_cases ht:a.target<0
   ·have HN:Hid (okS a):=⟨h0,h1,h2,h3,h4,h5,h6,fun _=>⟨hl,ht⟩,fun e=>absurd hu e⟩
    clear hu
    go_enter Tryz.func61,Tryz.ntmps61
    go_wp2_with (first|(go_at_call 85;refine (l1In_yes _ _ _ _ ?_).mono ?_;(focus omega);rintro e w' ⟨rfl,rfl⟩)|(go_at_call 85;refine (l1In_no _ _ _ _ ?_).mono ?_;(focus omega);rintro e w' ⟨rfl,rfl⟩))
    go_ret
    exact ⟨true,rfl,⟨fun _=>HN.out,fun _=>rfl⟩,(Below.refl _ _).alloc (Nat.le_refl _) _⟩
   ·have HN:Hid (¬okS a):=(fun k=>ht (k.2.2.2.2.2.2.2.1 hu).2)
    have ht':0<=a.target:=by omega
    have hd:decide (a.target<0)=false:=decide_eq_false ht
    clear hu
    go_enter Tryz.func61,Tryz.ntmps61
    go_wp2_with (first|(go_at_call 85;refine (l1In_yes _ _ _ _ ?_).mono ?_;(focus omega);rintro e w' ⟨rfl,rfl⟩)|(go_at_call 85;refine (l1In_no _ _ _ _ ?_).mono ?_;(focus omega);rintro e w' ⟨rfl,rfl⟩))
    go_ret
    exact ⟨false,rfl,⟨fun h=>(by cases h),fun h=>absurd h HN.out⟩,(Below.refl _ _).alloc (Nat.le_refl _) _⟩
  ·have HN:Hid (¬okS a):=(fun k=>hl (k.2.2.2.2.2.2.2.1 hu).1)
   have hl':a.limit<0:=by omega
   have hd:decide (0<=a.limit)=false:=decide_eq_false hl
   clear hu
   go_enter Tryz.func61,Tryz.ntmps61
   go_wp2_with (first|(go_at_call 85;refine (l1In_yes _ _ _ _ ?_).mono ?_;(focus omega);rintro e w' ⟨rfl,rfl⟩)|(go_at_call 85;refine (l1In_no _ _ _ _ ?_).mono ?_;(focus omega);rintro e w' ⟨rfl,rfl⟩))
   go_ret
   exact ⟨false,rfl,⟨fun h=>(by cases h),fun h=>absurd h HN.out⟩,(Below.refl _ _).alloc (Nat.le_refl _) _⟩
 ·have bu:(a.up == 0)=false:=by simp[hu]
  by_cases hr:a.rate=0
  ·have br:(a.rate == 0)=true:=by simp[hr]
   by_cases hc:a.carry=0
   ·have bc:(a.carry == 0)=true:=by simp[hc]
    have HN:Hid (okS a):=⟨h0,h1,h2,h3,h4,h5,h6,fun e=>absurd e hu,fun _=>⟨hr,hc⟩⟩
    clear hu hr hc
    go_enter Tryz.func61,Tryz.ntmps61
    go_wp2_with (first|(go_at_call 85;refine (l1In_yes _ _ _ _ ?_).mono ?_;(focus omega);rintro e w' ⟨rfl,rfl⟩)|(go_at_call 85;refine (l1In_no _ _ _ _ ?_).mono ?_;(focus omega);rintro e w' ⟨rfl,rfl⟩))
    go_ret
    exact ⟨true,rfl,⟨fun _=>HN.out,fun _=>rfl⟩,(Below.refl _ _).alloc (Nat.le_refl _) _⟩
   ·have bc:(a.carry == 0)=false:=by simp[hc]
    have HN:Hid (¬okS a):=(fun k=>hc (k.2.2.2.2.2.2.2.2 hu).2)
    clear hu hr hc
    go_enter Tryz.func61,Tryz.ntmps61
    go_wp2_with (first|(go_at_call 85;refine (l1In_yes _ _ _ _ ?_).mono ?_;(focus omega);rintro e w' ⟨rfl,rfl⟩)|(go_at_call 85;refine (l1In_no _ _ _ _ ?_).mono ?_;(focus omega);rintro e w' ⟨rfl,rfl⟩))
    go_ret
    exact ⟨false,rfl,⟨fun h=>(by cases h),fun h=>absurd h HN.out⟩,(Below.refl _ _).alloc (Nat.le_refl _) _⟩
  ·have br:(a.rate == 0)=false:=by simp[hr]
   have HN:Hid (¬okS a):=(fun k=>hr (k.2.2.2.2.2.2.2.2 hu).1)
   clear hu hr
   go_enter Tryz.func61,Tryz.ntmps61
   go_wp2_with (first|(go_at_call 85;refine (l1In_yes _ _ _ _ ?_).mono ?_;(focus omega);rintro e w' ⟨rfl,rfl⟩)|(go_at_call 85;refine (l1In_no _ _ _ _ ?_).mono ?_;(focus omega);rintro e w' ⟨rfl,rfl⟩))
   go_ret
   exact ⟨false,rfl,⟨fun h=>(by cases h),fun h=>absurd h HN.out⟩,(Below.refl _ _).alloc (Nat.le_refl _) _⟩
open Go.RowKit
theorem implAcc (a:Acc) (w:World):
  Calls Tryz.prog 64 #[.agg #[.int .i64 a.id,.int .i64 a.up,.int .i64 a.limit,.int .i64 a.rate,.int .i64 a.target,.bool a.frozen,.int .i64 a.balance,.int .i64 a.carry]] w fun e w'=>∃b:Bool,e=.returned (.bool b)/\(b=true↔okI a)/\Below w.heap.size w w':=by
 by_cases h0:1<=a.id/\a.id<=1000000
 rotate_left
 ·have hno:¬okI a:=fun k=>h0 (k.1)
  have HN:=hidOf hno
  clear hno
  go_enter Tryz.func64,Tryz.ntmps64
  go_wp2_with (first|(go_at_call 110;refine (idOk_yes _ _ ?_).mono ?_;(focus omega);rintro e w' ⟨rfl,rfl⟩)|(go_at_call 110;refine (idOk_no _ _ ?_).mono ?_;(focus omega);rintro e w' ⟨rfl,rfl⟩)|(go_at_call 111;refine (amount_yes _ _ ?_).mono ?_;(focus omega);rintro e w' ⟨rfl,rfl⟩)|(go_at_call 111;refine (amount_no _ _ ?_).mono ?_;(focus omega);rintro e w' ⟨rfl,rfl⟩))
  go_ret
  exact ⟨false,rfl,⟨fun h=>(by cases h),fun h=>absurd h HN.out⟩,(Below.refl _ _).alloc (Nat.le_refl _) _⟩
 by_cases h1: -1<=a.limit/\a.limit<=1000000000000
 rotate_left
 ·have hno:¬okI a:=fun k=>h1 (k.2.1)
  have HN:=hidOf hno
  clear hno
  go_enter Tryz.func64,Tryz.ntmps64
  go_wp2_with (first|(go_at_call 110;refine (idOk_yes _ _ ?_).mono ?_;(focus omega);rintro e w' ⟨rfl,rfl⟩)|(go_at_call 110;refine (idOk_no _ _ ?_).mono ?_;(focus omega);rintro e w' ⟨rfl,rfl⟩)|(go_at_call 111;refine (amount_yes _ _ ?_).mono ?_;(focus omega);rintro e w' ⟨rfl,rfl⟩)|(go_at_call 111;refine (amount_no _ _ ?_).mono ?_;(focus omega);rintro e w' ⟨rfl,rfl⟩))
  go_ret
  exact ⟨false,rfl,⟨fun h=>(by cases h),fun h=>absurd h HN.out⟩,(Below.refl _ _).alloc (Nat.le_refl _) _⟩
 by_cases h2: -1<=a.target/\a.target<=1000000000000
 rotate_left
 ·have hno:¬okI a:=fun k=>h2 (k.2.2.1)
  have HN:=hidOf hno
  clear hno
  go_enter Tryz.func64,Tryz.ntmps64
  go_wp2_with (first|(go_at_call 110;refine (idOk_yes _ _ ?_).mono ?_;(focus omega);rintro e w' ⟨rfl,rfl⟩)|(go_at_call 110;refine (idOk_no _ _ ?_).mono ?_;(focus omega);rintro e w' ⟨rfl,rfl⟩)|(go_at_call 111;refine (amount_yes _ _ ?_).mono ?_;(focus omega);rintro e w' ⟨rfl,rfl⟩)|(go_at_call 111;refine (amount_no _ _ ?_).mono ?_;(focus omega);rintro e w' ⟨rfl,rfl⟩))
  go_ret
  exact ⟨false,rfl,⟨fun h=>(by cases h),fun h=>absurd h HN.out⟩,(Below.refl _ _).alloc (Nat.le_refl _) _⟩
 by_cases hb1:a.balance< -1000000000000
 ·have hno:¬okI a:=fun k=>by have:=(k.2.2.2.1);omega
  have HN:=hidOf hno
  clear hno
  go_enter Tryz.func64,Tryz.ntmps64
  go_wp2_with (first|(go_at_call 110;refine (idOk_yes _ _ ?_).mono ?_;(focus omega);rintro e w' ⟨rfl,rfl⟩)|(go_at_call 110;refine (idOk_no _ _ ?_).mono ?_;(focus omega);rintro e w' ⟨rfl,rfl⟩)|(go_at_call 111;refine (amount_yes _ _ ?_).mono ?_;(focus omega);rintro e w' ⟨rfl,rfl⟩)|(go_at_call 111;refine (amount_no _ _ ?_).mono ?_;(focus omega);rintro e w' ⟨rfl,rfl⟩))
  go_ret
  exact ⟨false,rfl,⟨fun h=>(by cases h),fun h=>absurd h HN.out⟩,(Below.refl _ _).alloc (Nat.le_refl _) _⟩
 by_cases hb2:1000000000000<a.balance
 ·have hno:¬okI a:=fun k=>by have:=(k.2.2.2.1);omega
  have HN:=hidOf hno
  clear hno
  go_enter Tryz.func64,Tryz.ntmps64
  go_wp2_with (first|(go_at_call 110;refine (idOk_yes _ _ ?_).mono ?_;(focus omega);rintro e w' ⟨rfl,rfl⟩)|(go_at_call 110;refine (idOk_no _ _ ?_).mono ?_;(focus omega);rintro e w' ⟨rfl,rfl⟩)|(go_at_call 111;refine (amount_yes _ _ ?_).mono ?_;(focus omega);rintro e w' ⟨rfl,rfl⟩)|(go_at_call 111;refine (amount_no _ _ ?_).mono ?_;(focus omega);rintro e w' ⟨rfl,rfl⟩))
  go_ret
  exact ⟨false,rfl,⟨fun h=>(by cases h),fun h=>absurd h HN.out⟩,(Below.refl _ _).alloc (Nat.le_refl _) _⟩
 by_cases hu:a.up=0
 ·have bu:(a.up != 0)=false:=by simp[hu]
  by_cases hl:a.limit= -1
  ·have bl:(a.limit == -1)=true:=by simp[hl]
   have HN:Hid (¬okI a):=(fun k=>(k.2.2.2.2.2 hu).1 hl)
   clear hu hl
   go_enter Tryz.func64,Tryz.ntmps64
   go_wp2_with (first|(go_at_call 110;refine (idOk_yes _ _ ?_).mono ?_;(focus omega);rintro e w' ⟨rfl,rfl⟩)|(go_at_call 110;refine (idOk_no _ _ ?_).mono ?_;(focus omega);rintro e w' ⟨rfl,rfl⟩)|(go_at_call 111;refine (amount_yes _ _ ?_).mono ?_;(focus omega);rintro e w' ⟨rfl,rfl⟩)|(go_at_call 111;refine (amount_no _ _ ?_).mono ?_;(focus omega);rintro e w' ⟨rfl,rfl⟩))
   go_ret
   exact ⟨false,rfl,⟨fun h=>(by cases h),fun h=>absurd h HN.out⟩,(Below.refl _ _).alloc (Nat.le_refl _) _⟩
  have bl:(a.limit == -1)=false:=by simp[hl]
  by_cases ht:a.target= -1
  rotate_left
  ·have bt:(a.target != -1)=true:=by simp[ht]
   have HN:Hid (¬okI a):=(fun k=>ht (k.2.2.2.2.2 hu).2.1)
   clear hu hl ht
   go_enter Tryz.func64,Tryz.ntmps64
   go_wp2_with (first|(go_at_call 110;refine (idOk_yes _ _ ?_).mono ?_;(focus omega);rintro e w' ⟨rfl,rfl⟩)|(go_at_call 110;refine (idOk_no _ _ ?_).mono ?_;(focus omega);rintro e w' ⟨rfl,rfl⟩)|(go_at_call 111;refine (amount_yes _ _ ?_).mono ?_;(focus omega);rintro e w' ⟨rfl,rfl⟩)|(go_at_call 111;refine (amount_no _ _ ?_).mono ?_;(focus omega);rintro e w' ⟨rfl,rfl⟩))
   go_ret
   exact ⟨false,rfl,⟨fun h=>(by cases h),fun h=>absurd h HN.out⟩,(Below.refl _ _).alloc (Nat.le_refl _) _⟩
  have bt:(a.target != -1)=false:=by simp[ht]
  by_cases hr1:0<=a.rate
  rotate_left
  ·have HN:Hid (¬okI a):=(fun k=>hr1 (k.2.2.2.2.2 hu).2.2.1.1)
   have hr1':a.rate<0:=by omega
   have hd:decide (0<=a.rate)=false:=decide_eq_false hr1
   clear hu hl ht
   go_enter Tryz.func64,Tryz.ntmps64
   go_wp2_with (first|(go_at_call 110;refine (idOk_yes _ _ ?_).mono ?_;(focus omega);rintro e w' ⟨rfl,rfl⟩)|(go_at_call 110;refine (idOk_no _ _ ?_).mono ?_;(focus omega);rintro e w' ⟨rfl,rfl⟩)|(go_at_call 111;refine (amount_yes _ _ ?_).mono ?_;(focus omega);rintro e w' ⟨rfl,rfl⟩)|(go_at_call 111;refine (amount_no _ _ ?_).mono ?_;(focus omega);rintro e w' ⟨rfl,rfl⟩))
   go_ret
   exact ⟨false,rfl,⟨fun h=>(by cases h),fun h=>absurd h HN.out⟩,(Below.refl _ _).alloc (Nat.le_refl _) _⟩
  by_cases hr2:a.rate<=10000
  rotate_left
  ·have HN:Hid (¬okI a):=(fun k=>hr2 (k.2.2.2.2.2 hu).2.2.1.2)
   have hr2':10000<a.rate:=by omega
   have hd:decide (a.rate<=10000)=false:=decide_eq_false hr2
   clear hu hl ht
   go_enter Tryz.func64,Tryz.ntmps64
   go_wp2_with (first|(go_at_call 110;refine (idOk_yes _ _ ?_).mono ?_;(focus omega);rintro e w' ⟨rfl,rfl⟩)|(go_at_call 110;refine (idOk_no _ _ ?_).mono ?_;(focus omega);rintro e w' ⟨rfl,rfl⟩)|(go_at_call 111;refine (amount_yes _ _ ?_).mono ?_;(focus omega);rintro e w' ⟨rfl,rfl⟩)|(go_at_call 111;refine (amount_no _ _ ?_).mono ?_;(focus omega);rintro e w' ⟨rfl,rfl⟩))
   go_ret
   exact ⟨false,rfl,⟨fun h=>(by cases h),fun h=>absurd h HN.out⟩,(Below.refl _ _).alloc (Nat.le_refl _) _⟩
  by_cases hc1:0<=a.carry
  rotate_left
  ·have HN:Hid (¬okI a):=(fun k=>hc1 (k.2.2.2.2.2 hu).2.2.2.1)
   have hc1':a.carry<0:=by omega
   have hd:decide (0<=a.carry)=false:=decide_eq_false hc1
   clear hu hl ht
   go_enter Tryz.func64,Tryz.ntmps64
   go_wp2_with (first|(go_at_call 110;refine (idOk_yes _ _ ?_).mono ?_;(focus omega);rintro e w' ⟨rfl,rfl⟩)|(go_at_call 110;refine (idOk_no _ _ ?_).mono ?_;(focus omega);rintro e w' ⟨rfl,rfl⟩)|(go_at_call 111;refine (amount_yes _ _ ?_).mono ?_;(focus omega);rintro e w' ⟨rfl,rfl⟩)|(go_at_call 111;refine (amount_no _ _ ?_).mono ?_;(focus omega);rintro e w' ⟨rfl,rfl⟩))
   go_ret
   exact ⟨false,rfl,⟨fun h=>(by cases h),fun h=>absurd h HN.out⟩,(Below.refl _ _).alloc (Nat.le_refl _) _⟩
  by_cases hc2:a.carry<3650000
  rotate_left
  ·have HN:Hid (¬okI a):=(fun k=>hc2 (k.2.2.2.2.2 hu).2.2.2.2)
   have hc2':3650000<=a.carry:=by omega
   have hd:decide (a.carry<3650000)=false:=decide_eq_false hc2
   clear hu hl ht
   go_enter Tryz.func64,Tryz.ntmps64
   go_wp2_with (first|(go_at_call 110;refine (idOk_yes _ _ ?_).mono ?_;(focus omega);rintro e w' ⟨rfl,rfl⟩)|(go_at_call 110;refine (idOk_no _ _ ?_).mono ?_;(focus omega);rintro e w' ⟨rfl,rfl⟩)|(go_at_call 111;refine (amount_yes _ _ ?_).mono ?_;(focus omega);rintro e w' ⟨rfl,rfl⟩)|(go_at_call 111;refine (amount_no _ _ ?_).mono ?_;(focus omega);rintro e w' ⟨rfl,rfl⟩))
   go_ret
   exact ⟨false,rfl,⟨fun h=>(by cases h),fun h=>absurd h HN.out⟩,(Below.refl _ _).alloc (Nat.le_refl _) _⟩
  have HN:Hid (okI a):=⟨h0,h1,h2,by omega,fun e=>absurd hu e,fun _=>⟨hl,ht,⟨hr1,hr2⟩,hc1,hc2⟩⟩
  clear hu hl ht
  go_enter Tryz.func64,Tryz.ntmps64
  go_wp2_with (first|(go_at_call 110;refine (idOk_yes _ _ ?_).mono ?_;(focus omega);rintro e w' ⟨rfl,rfl⟩)|(go_at_call 110;refine (idOk_no _ _ ?_).mono ?_;(focus omega);rintro e w' ⟨rfl,rfl⟩)|(go_at_call 111;refine (amount_yes _ _ ?_).mono ?_;(focus omega);rintro e w' ⟨rfl,rfl⟩)|(go_at_call 111;refine (amount_no _ _ ?_).mono ?_;(focus omega);rintro e w' ⟨rfl,rfl⟩))
  go_ret
  exact ⟨true,rfl,⟨fun _=>HN.out,fun _=>rfl⟩,(Below.refl _ _).alloc (Nat.le_refl _) _⟩
 ·have bu:(a.up != 0)=true:=by simp[hu]
  by_cases hr:a.rate=0
  ·have br:(a.rate == 0)=true:=by simp[hr]
   by_cases hc:a.carry=0
   ·have bc:(a.carry == 0)=true:=by simp[hc]
    have HN:Hid (okI a):=⟨h0,h1,h2,by omega,fun _=>⟨hr,hc⟩,fun e=>absurd e hu⟩
    clear hu hr hc
    go_enter Tryz.func64,Tryz.ntmps64
    go_wp2_with (first|(go_at_call 110;refine (idOk_yes _ _ ?_).mono ?_;(focus omega);rintro e w' ⟨rfl,rfl⟩)|(go_at_call 110;refine (idOk_no _ _ ?_).mono ?_;(focus omega);rintro e w' ⟨rfl,rfl⟩)|(go_at_call 111;refine (amount_yes _ _ ?_).mono ?_;(focus omega);rintro e w' ⟨rfl,rfl⟩)|(go_at_call 111;refine (amount_no _ _ ?_).mono ?_;(focus omega);rintro e w' ⟨rfl,rfl⟩))
    go_ret
    exact ⟨true,rfl,⟨fun _=>HN.out,fun _=>rfl⟩,(Below.refl _ _).alloc (Nat.le_refl _) _⟩
   ·have bc:(a.carry == 0)=false:=by simp[hc]
    have HN:Hid (¬okI a):=(fun k=>hc (k.2.2.2.2.1 hu).2)
    clear hu hr hc
    go_enter Tryz.func64,Tryz.ntmps64
    go_wp2_with (first|(go_at_call 110;refine (idOk_yes _ _ ?_).mono ?_;(focus omega);rintro e w' ⟨rfl,rfl⟩)|(go_at_call 110;refine (idOk_no _ _ ?_).mono ?_;(focus omega);rintro e w' ⟨rfl,rfl⟩)|(go_at_call 111;refine (amount_yes _ _ ?_).mono ?_;(focus omega);rintro e w' ⟨rfl,rfl⟩)|(go_at_call 111;refine (amount_no _ _ ?_).mono ?_;(focus omega);rintro e w' ⟨rfl,rfl⟩))
    go_ret
    exact ⟨false,rfl,⟨fun h=>(by cases h),fun h=>absurd h HN.out⟩,(Below.refl _ _).alloc (Nat.le_refl _) _⟩
  ·have br:(a.rate == 0)=false:=by simp[hr]
   have HN:Hid (¬okI a):=(fun k=>hr (k.2.2.2.2.1 hu).1)
   clear hu hr
   go_enter Tryz.func64,Tryz.ntmps64
   go_wp2_with (first|(go_at_call 110;refine (idOk_yes _ _ ?_).mono ?_;(focus omega);rintro e w' ⟨rfl,rfl⟩)|(go_at_call 110;refine (idOk_no _ _ ?_).mono ?_;(focus omega);rintro e w' ⟨rfl,rfl⟩)|(go_at_call 111;refine (amount_yes _ _ ?_).mono ?_;(focus omega);rintro e w' ⟨rfl,rfl⟩)|(go_at_call 111;refine (amount_no _ _ ?_).mono ?_;(focus omega);rintro e w' ⟨rfl,rfl⟩))
   go_ret
   exact ⟨false,rfl,⟨fun h=>(by cases h),fun h=>absurd h HN.out⟩,(Below.refl _ _).alloc (Nat.le_refl _) _⟩
open Go.RowKit
def set8 (w:World) (R p:Nat) (a:Acc):World:=
 (((((((w.setCell ⟨R,p,none⟩ (.int .i64 a.id)).setCell ⟨R,p+1,none⟩ (.int .i64 a.up)).setCell ⟨R,p+2,none⟩ (.int .i64 a.limit)).setCell ⟨R,p+3,none⟩ (.int .i64 a.rate)).setCell ⟨R,p+4,none⟩ (.int .i64 a.target)).setCell ⟨R,p+5,none⟩ (.bool a.frozen)).setCell ⟨R,p+6,none⟩ (.int .i64 a.balance)).setCell ⟨R,p+7,none⟩ (.int .i64 a.carry)
theorem set8_out (w:World) (R p:Nat) (a:Acc) (x:Addr) (h:x.block≠R\/x.off<p\/p+8<=x.off):(set8 w R p a).cell? x=w.cell? x:=by
 have ne:∀j,j<8->(⟨R,p+j,none⟩:Addr)≠x:=by
  intro j hj e
  subst e
  simp at h
  omega
 have ne':(⟨R,p,none⟩:Addr)≠x:=ne 0 (by omega)
 unfold set8
 rw[World.cell?_setCell_other _ _ _ _ (ne 7 (by omega)),World.cell?_setCell_other _ _ _ _ (ne 6 (by omega)),World.cell?_setCell_other _ _ _ _ (ne 5 (by omega)),World.cell?_setCell_other _ _ _ _ (ne 4 (by omega)),
  World.cell?_setCell_other _ _ _ _ (ne 3 (by omega)),World.cell?_setCell_other _ _ _ _ (ne 2 (by omega)),World.cell?_setCell_other _ _ _ _ (ne 1 (by omega)),World.cell?_setCell_other _ _ _ _ (ne':(⟨R,p,none⟩:Addr)≠x)]
theorem set8_frozen (w:World) (R p:Nat) (a:Acc) (x:Addr):(set8 w R p a).frozen? x=w.frozen? x:=by
 unfold set8;simp
theorem set8_size (w:World) (R p:Nat) (a:Acc):(set8 w R p a).heap.size=w.heap.size:=by
 unfold set8;simp[World.setCell]
theorem set8_at (w:World) (R p:Nat) (a:Acc) (h:∀j,j<8->(w.cell? ⟨R,p+j,none⟩).isSome=true):AccAt (set8 w R p a) R p a:=by
 have o:∀(v:World) (i j:Nat) (u:Value),i≠j->(v.setCell ⟨R,i,none⟩ u).cell? ⟨R,j,none⟩=v.cell? ⟨R,j,none⟩:=fun v i j u hij=>World.cell?_setCell_other _ _ _ _ (by intro e;have:=congrArg Addr.off e;simp at this;omega)
 have h0:=h 0 (by omega)
 unfold set8 AccAt
 refine ⟨?_,?_,?_,?_,?_,?_,?_,?_⟩
 ·rw[o _ (p+7) p _ (by omega),o _ (p+6) p _ (by omega),o _ (p+5) p _ (by omega),o _ (p+4) p _ (by omega),o _ (p+3) p _ (by omega),o _ (p+2) p _ (by omega),o _ (p+1) p _ (by omega)]
  exact World.cell?_setCell_same' _ _ _ h0
 ·rw[o _ (p+7) (p+1) _ (by omega),o _ (p+6) (p+1) _ (by omega),o _ (p+5) (p+1) _ (by omega),o _ (p+4) (p+1) _ (by omega),o _ (p+3) (p+1) _ (by omega),o _ (p+2) (p+1) _ (by omega)]
  exact World.cell?_setCell_same' _ _ _ (by rw[o _ p (p+1) _ (by omega)];exact h 1 (by omega))
 ·rw[o _ (p+7) (p+2) _ (by omega),o _ (p+6) (p+2) _ (by omega),o _ (p+5) (p+2) _ (by omega),o _ (p+4) (p+2) _ (by omega),o _ (p+3) (p+2) _ (by omega)]
  exact World.cell?_setCell_same' _ _ _ (by rw[o _ (p+1) (p+2) _ (by omega),o _ p (p+2) _ (by omega)];exact h 2 (by omega))
 ·rw[o _ (p+7) (p+3) _ (by omega),o _ (p+6) (p+3) _ (by omega),o _ (p+5) (p+3) _ (by omega),o _ (p+4) (p+3) _ (by omega)]
  exact World.cell?_setCell_same' _ _ _ (by rw[o _ (p+2) (p+3) _ (by omega),o _ (p+1) (p+3) _ (by omega),o _ p (p+3) _ (by omega)];exact h 3 (by omega))
 ·rw[o _ (p+7) (p+4) _ (by omega),o _ (p+6) (p+4) _ (by omega),o _ (p+5) (p+4) _ (by omega)]
  exact World.cell?_setCell_same' _ _ _ (by rw[o _ (p+3) (p+4) _ (by omega),o _ (p+2) (p+4) _ (by omega),o _ (p+1) (p+4) _ (by omega),o _ p (p+4) _ (by omega)];exact h 4 (by omega))
 ·rw[o _ (p+7) (p+5) _ (by omega),o _ (p+6) (p+5) _ (by omega)]
  exact World.cell?_setCell_same' _ _ _ (by rw[o _ (p+4) (p+5) _ (by omega),o _ (p+3) (p+5) _ (by omega),o _ (p+2) (p+5) _ (by omega),o _ (p+1) (p+5) _ (by omega),o _ p (p+5) _ (by omega)];exact h 5 (by omega))
 ·rw[o _ (p+7) (p+6) _ (by omega)]
  exact World.cell?_setCell_same' _ _ _ (by rw[o _ (p+5) (p+6) _ (by omega),o _ (p+4) (p+6) _ (by omega),o _ (p+3) (p+6) _ (by omega),o _ (p+2) (p+6) _ (by omega),o _ (p+1) (p+6) _ (by omega),o _ p (p+6) _ (by omega)];exact h 6 (by omega))
 ·exact World.cell?_setCell_same' _ _ _ (by rw[o _ (p+6) (p+7) _ (by omega),o _ (p+5) (p+7) _ (by omega),o _ (p+4) (p+7) _ (by omega),o _ (p+3) (p+7) _ (by omega),o _ (p+2) (p+7) _ (by omega),o _ (p+1) (p+7) _ (by omega),o _ p (p+7) _ (by omega)];exact h 7 (by omega))
theorem set8_below {B:Nat} {v w:World} (hb:Below B v w) (R p:Nat) (a:Acc) (hR:B<=R):Below B v (set8 w R p a):=by
 unfold set8
 exact (((((((hb.setCell (p:=⟨R,p,none⟩) hR _).setCell (p:=⟨R,p+1,none⟩) hR _).setCell (p:=⟨R,p+2,none⟩) hR _).setCell (p:=⟨R,p+3,none⟩) hR _).setCell (p:=⟨R,p+4,none⟩) hR _).setCell (p:=⟨R,p+5,none⟩) hR _).setCell (p:=⟨R,p+6,none⟩) hR _).setCell (p:=⟨R,p+7,none⟩) hR _
def Box (w:World) (R:Nat) (a:Acc):Prop:=AccAt w R 0 a/\(∀o,w.frozen? ⟨R,o,none⟩=false)/\R<w.heap.size
theorem Box.below {w w':World} {R:Nat} {a:Acc} (h:Box w R a) (hb:Below w.heap.size w w'):Box w' R a:=
 ⟨h.1.of_cells (fun q=>hb.cell (p:=⟨R,q,none⟩) h.2.2),fun o=>by rw[hb.frozen (p:=⟨R,o,none⟩) h.2.2];exact h.2.1 o,Nat.lt_of_lt_of_le h.2.2 hb.size⟩
theorem Box.set {w:World} {R:Nat} {a:Acc} (h:Box w R a) (c:Acc):Box (set8 w R 0 c) R c:=by
 obtain ⟨⟨h0,h1,h2,h3,h4,h5,h6,h7⟩,hf,hz⟩:=h
 refine ⟨set8_at w R 0 c (fun j hj=>?_),fun o=>by rw[set8_frozen];exact hf o,by rw[set8_size];exact hz⟩
 have:j=0\/j=1\/j=2\/j=3\/j=4\/j=5\/j=6\/j=7:=by omega
 rcases this with e|e|e|e|e|e|e|e <;>subst e
 ·rw[h0];rfl
 ·rw[h1];rfl
 ·rw[h2];rfl
 ·rw[h3];rfl
 ·rw[h4];rfl
 ·rw[h5];rfl
 ·rw[h6];rfl
 ·rw[h7];rfl
theorem Box.new (w:World) (a:Acc) (t:TypeId):Box (w.alloc (.cells #[.int .i64 a.id,.int .i64 a.up,.int .i64 a.limit,.int .i64 a.rate,.int .i64 a.target,.bool a.frozen,.int .i64 a.balance,.int .i64 a.carry] t)) w.heap.size a:=
 ⟨⟨by simp[go_sem],by simp[go_sem],by simp[go_sem],by simp[go_sem],by simp[go_sem],by simp[go_sem],by simp[go_sem],by simp[go_sem]⟩,fun o=>by simp[go_sem],by simp⟩
open Go.RowKit
theorem placeI_of {F:Nat->Acc} {n:Nat} {id:Int}:(place F n id=none/\placeI F n id= -1)\/∃i,place F n id=some i/\i<n/\placeI F n id=(i:Int):=by
 cases h:place F n id with
 | none=>exact Or.inl ⟨rfl,placeI_none h⟩
 | some i=>exact Or.inr ⟨i,rfl,(place_some h).1,placeI_some h⟩
theorem implLeads (a:Option Addr) (n c:Nat) (F:Nat->Acc) (x:Acc) (w:World) (h:Fo w a n F):
  Calls Tryz.prog 65 #[.slice a n c,.agg #[.int .i64 x.id,.int .i64 x.up,.int .i64 x.limit,.int .i64 x.rate,.int .i64 x.target,.bool x.frozen,.int .i64 x.balance,.int .i64 x.carry]] w fun e w'=>e=.returned (.bool (leads F n n x))/\Below w.heap.size w w':=by
 have H:=hidOf h
 have hn:=h.1
 clear h
 have BX:=hidOf (Box.new w x 30)
 go_enter Tryz.func65,Tryz.ntmps65
 go_wp2
 go_loopw[8] (fun i wr=>∃(k:Nat) (y:Acc),k<=n/\i=.int .i64 k/\Hid (leads F n n x=leads F n (n-k) y)/\Hid (Box wr w.heap.size y)/\Hid (Below w.heap.size w wr)) (fun i _=>n-(intOf i).toNat)
 case atStart=>exact ⟨0,x,Nat.zero_le _,rfl,rfl,BX,(Below.refl _ _).alloc (Nat.le_refl _) _⟩
 case round=>
  obtain ⟨k,y,hk,rfl,hl,hX,hB⟩:=hrel
  clear BX
  by_cases hlt:k<n
  ·obtain ⟨m,hm⟩:∃m,n-k=m+1:=⟨n-k-1,by omega⟩
   have HL:Hid (leads F n n x=leads F n (m+1) y):=by have:=hl.out;rwa [hm] at this
   have HM:Hid (n-(k+1)=m):=(by omega:n-(k+1)=m)
   obtain ⟨⟨b0,b1,b2,b3,b4,b5,b6,b7⟩,hf,hz⟩:=hX.out
   simp only[Nat.zero_add] at b1 b2 b3 b4 b5 b6 b7
   clear hl hm
   by_cases hu:y.up=0
   ·have bu:(y.up == 0)=true:=by simp[hu]
    have E:Hid (leads F n n x=true):=(by rw[HL.out];simp[leads,hu]:leads F n n x=true)
    clear hu
    go_wp2
    go_ret
    rw[E.out]
    exact ⟨rfl,hB.out⟩
   ·have bu:(y.up == 0)=false:=by simp[hu]
    have HU:=hidOf hu
    clear hu
    go_wp2_with fail
    refine (implAt a n c F y.up _ (H.out.below hB.out)).mono ?_
    rintro e w1 ⟨rfl,B1⟩
    rcases placeI_of (F:=F) (n:=n) (id:=y.up) with ⟨hp,hpi⟩|⟨i,hp,hin,hpi⟩
    ·have E:Hid (leads F n n x=false):=(by rw[HL.out];simp[leads,HU.out,hp]:leads F n n x=false)
     have B1':=hidOf (hB.out.trans (B1.mono hB.out.size))
     rw[hpi]
     clear hp hpi B1
     go_wp2
     go_ret
     rw[E.out]
     exact ⟨rfl,B1'.out⟩
    ·have E:Hid (leads F n n x=leads F n m (F i)):=(by rw[HL.out];simp[leads,HU.out,hp]:leads F n n x=leads F n m (F i))
     have B1':=hidOf (hB.out.trans (B1.mono hB.out.size))
     have X1:=hidOf (hX.out.below B1)
     rw[hpi]
     clear hp hpi B1 b0 b1 b2 b3 b4 b5 b6 b7 hf hz
     obtain ⟨⟨b0,b1,b2,b3,b4,b5,b6,b7⟩,hf,hz⟩:=X1.out
     simp only[Nat.zero_add] at b1 b2 b3 b4 b5 b6 b7
     obtain ⟨b,o,rfl,hb,hA⟩:=H.out.acc hin
     have hA1:=hA.of_cells (w':=w1) (fun q=>B1'.out.cell (p:=⟨b,q,none⟩) hb)
     obtain ⟨c0,c1,c2,c3,c4,c5,c6,c7⟩:=hA1
     have hne:b≠w.heap.size:=by omega
     clear hA
     go_wp2
     go_roundw
     case rel=>
      refine ⟨k+1,F i,by omega,by go_num,?_,?_,?_⟩
      ·exact (by rw[E.out,HM.out]:leads F n n x=leads F n (n-(k+1)) (F i))
      ·exact X1.out.set (F i)
      ·exact set8_below B1'.out w.heap.size 0 (F i) (Nat.le_refl _)
     case measure=>simp[intOf];omega
  ·have e0:leads F n n x=false:=by
    rw[hl.out,show n-k=0 from by omega];rfl
   have E:=hidOf e0
   clear e0
   go_wp2
   go_ret
   rw[E.out]
   exact ⟨rfl,hB.out⟩
open Go.RowKit
def over (w v:World):World:={v with os:=w.os,tape:=w.tape,output:=w.output,heap:=w.heap++v.heap.extract w.heap.size v.heap.size}
theorem over_block (w v:World) (k:Nat) (hk:k<w.heap.size):(over w v).heap[k]? =w.heap[k]? :=by
 show (w.heap++v.heap.extract w.heap.size v.heap.size)[k]? =_
 rw[Array.getElem?_append_left hk]
theorem over_size (w v:World):w.heap.size<=(over w v).heap.size:=by
 show w.heap.size<=(w.heap++v.heap.extract w.heap.size v.heap.size).size
 simp
theorem below_over (w v:World):Below w.heap.size w (over w v):=⟨rfl,rfl,rfl,over_size w v,fun k hk=>over_block w v k hk⟩
theorem over_of_below {w v:World} (h:Below w.heap.size w v):v=over w v:=by
 have hh:v.heap=w.heap++v.heap.extract w.heap.size v.heap.size:=by
  apply Array.ext_getElem?
  intro i
  by_cases hi:i<w.heap.size
  ·rw[Array.getElem?_append_left hi,h.block i hi]
  ·rw[Array.getElem?_append_right (by omega),Array.getElem?_extract]
   have:=h.size
   by_cases hv:i<v.heap.size
   ·rw[if_pos (by omega)];congr 1;omega
   ·rw[if_neg (by omega)];simp;omega
 obtain ⟨h1,h2,h3,h4,h5⟩:=h
 cases v
 simp only[over]
 congr
theorem over_drawn (w:World):({w with drawn:=w.drawn+1}:World)=over w {w with drawn:=w.drawn+1}:=over_of_below ⟨rfl,rfl,rfl,Nat.le_refl _,fun _ _=>rfl⟩
theorem wp_region_over {P:Program} {id:Nat} {Q:Exit->Act->World->Prop} {a:Act} {w:World} {l:List Oper} (hm:P.follows .mixedOrders=true) (hB:Region.lexB .any l.toArray=true)
  (h:wpQuiet P l.toArray (fun w'=>∃v,w'=over w v) (fun a'=>∀w',(∃v,w'=over w v)->Q .normal a' w') l a):(Code.region id l.toArray true).wp P Q a w:=
 wp_region_quiet (C:=fun w'=>∃v,w'=over w v) hm hB ⟨_,over_drawn w⟩ (by simpa using h)
theorem Calls.over_of {P:Program} {f:FuncId} {args:Array Value} {w v:World} {u:Value}
  (h:Calls P f args (over w v) fun e w'=>e=.returned u/\Below (over w v).heap.size (over w v) w'):Calls P f args (over w v) fun e w''=>e=.returned u/\∃x,w''=over w x:=
 h.mono fun _ w' ⟨he,hb⟩=>⟨he,w',over_of_below ((below_over w v).trans (hb.mono (over_size w v)))⟩
open Go.RowKit
theorem info2:(Tryz.prog.info? 2).map (fun i=>(i.zero,i.size,i.bytes))=some (some (.int .i64 0),1,8):=by kernel_rfl
def lenOf:Value->Nat| .slice _ n _=>n|_=>0
def Ints (w:World) (B:Nat) (v:Value) (l:List Int):Prop:=w.ownsRow B 2 1 v l.length (l.map (Value.int .i64))/\v≠ .slice none 0 0
theorem Ints.shape {w:World} {B:Nat} {v:Value} {l:List Int} (h:Ints w B v l):∃g cap,v=.slice (some ⟨g,0,none⟩) l.length cap/\B<=g/\g<w.heap.size:=by
 rcases h.1.2 with ⟨hv,_⟩|⟨g,cap,cur,hv,hB,hg,_⟩
 ·exact absurd hv h.2
 ·refine ⟨g,cap,hv,hB,?_⟩
  by_cases hn:g<w.heap.size
  ·exact hn
  ·have e:w.heap[g]? =none:=by simp;omega
   rw[e] at hg;cases hg
theorem chain_none (F:Nat->Acc) (n m:Nat) (id:Int) (h0:id≠0) (hp:place F n id=none):chain F n m id=none:=by
 cases m <;>simp[chain,h0,hp]
theorem chain_zero (F:Nat->Acc) (n m:Nat):chain F n m 0=some []:=by
 cases m <;>simp[chain]
theorem specPath (a:Option Addr) (n c:Nat) (F:Nat->Acc) (id:Int) (w:World) (h:Fo w a n F):
  Calls Tryz.prog 62 #[.slice a n c,.int .i64 id] w fun e w'=>Below w.heap.size w w'/\
   ((chain F n n id=none/\e=.returned (.tuple #[.slice none 0 0,.bool false]))\/∃l v,chain F n n id=some l/\e=.returned (.tuple #[v,.bool true])/\Ints w' w.heap.size v l):=by
 have H:=hidOf h
 have hn:=h.1
 clear h
 obtain ⟨i0,hi,hz0,hz1,hz2⟩:=info_parts info2
 have I0:Hid (Ints (w.alloc (.cells #[] 2)) w.heap.size (.slice (some ⟨w.heap.size,0,none⟩) 0 0) []):=⟨World.ownsRow_lit w #[] 0 (Nat.le_refl _) (Nat.zero_le _) (by simp),by intro e;cases e⟩
 go_enter Tryz.func62,Tryz.ntmps62
 go_wp2
 go_loopw[1,6] (fun t v wr=>∃(pre:List Int) (cur:Int),t=.int .i64 cur/\lenOf v=pre.length/\pre.length<=n/\Hid (chain F n n id=(chain F n (n-pre.length) cur).map (pre++ ·))/\Hid (Ints wr w.heap.size v pre)/\Hid (Below w.heap.size w wr)) (fun _ v _=>n+1-lenOf v)
 case atStart=>
  refine ⟨[],id,rfl,rfl,Nat.zero_le _,?_,I0,(Below.refl _ _).alloc (Nat.le_refl _) _⟩
  exact (by simp:chain F n n id=(chain F n (n-0) id).map ([]++ ·))
 case round=>
  obtain ⟨pre,cur,rfl,hlen,hpn,hch,hI,hB⟩:=hrel
  clear I0
  by_cases h0:cur=0
  ·subst h0
   have E:Hid (chain F n n id=some pre):=(by rw[hch.out,chain_zero];simp:chain F n n id=some pre)
   go_wp2
   go_ret2
   exact ⟨hB.out,Or.inr ⟨pre,_,E.out,rfl,hI.out⟩⟩
  ·have b0:(cur != 0)=true:=by simp[h0]
   have H0:=hidOf h0
   clear h0
   obtain ⟨g,cap,hv,hg1,hg2⟩:=hI.out.shape
   subst hv
   go_wp2_with fail
   refine (specAt a n c F cur _ (H.out.below hB.out)).mono ?_
   rintro e w1 ⟨rfl,rfl⟩
   rcases placeI_of (F:=F) (n:=n) (id:=cur) with ⟨hp,hpi⟩|⟨i,hp,hin,hpi⟩
   ·have E:Hid (chain F n n id=none):=(by rw[hch.out,chain_none _ _ _ _ H0.out hp];rfl:chain F n n id=none)
    rw[hpi]
    clear hp hpi
    go_wp2
    go_ret2
    exact ⟨hB.out,Or.inl ⟨E.out,rfl⟩⟩
   ·rw[hpi]
    by_cases hfull:pre.length=n
    ·have E:Hid (chain F n n id=none):=(by rw[hch.out,hfull,Nat.sub_self];simp[chain,H0.out]:chain F n n id=none)
     have bf:((pre.length:Int) == (n:Int))=true:=by simp[hfull]
     clear hp hpi hfull
     go_wp2
     go_ret2
     exact ⟨hB.out,Or.inl ⟨E.out,rfl⟩⟩
    ·have bf:((pre.length:Int) == (n:Int))=false:=by simp;omega
     have E:Hid (chain F n n id=(chain F n (n-(pre++[cur]).length) (F i).up).map ((pre++[cur])++ ·)):=by
      have e1:n-pre.length=(n-(pre++[cur]).length)+1:=by simp;omega
      have e2:chain F n n id=(chain F n (n-(pre++[cur]).length) (F i).up).map ((pre++[cur])++ ·):=by
       rw[hch.out,e1]
       simp only[chain,if_neg H0.out,hp,Option.map_map]
       congr 1
       funext l
       simp
      exact e2
     obtain ⟨b,o,rfl,hb0,hA0⟩:=H.out.acc hin
     have hb:b<w1.heap.size:=Nat.lt_of_lt_of_le hb0 hB.out.size
     have hA:=hA0.of_cells (w':=w1) (fun q=>hB.out.cell (p:=⟨b,q,none⟩) hb0)
     clear hA0
     have hplt:pre.length<n:=by omega
     clear hp hpi hfull
     go_wp2_with (at_builtin;refine wpList_append_own _ rfl _ _ 31 rfl w.heap.size 2 i0 (.int .i64 0) 1 8 Tryz.underlying31 hi hz0 hz1 hz2 rfl (by decide) _ _ _ rfl (hI.out.1.alloc _) ⟨_,0,none⟩ 1 1 [.int .i64 cur] rfl rfl ?_ ?_ ?_ ?_ ?_ ?_)
     ·intro j u hj
      match j,hj with
      | 0,hj=>simp at hj;subst hj;simp[Addr.add,go_sem]
     ·intro u hu;simp at hu;subst hu;rfl
     ·unfold maxLen;omega
     ·omega
     ·have:=hB.out.size;simp;omega
     ·intro v' w2 hown hgrow hnn
      have I2:Hid (Ints w2 w.heap.size v' (pre++[cur])):=⟨by simpa using hown,hnn⟩
      obtain ⟨g',cap',hv',hg1',hg2'⟩:=I2.out.shape
      subst hv'
      have B2:Hid (Below w.heap.size w w2):=(hB.out.alloc hB.out.size _).grown hgrow (by have:=hB.out.size;simp;omega) (fun k hk=>by simp[Value.ownBlock] at hk;omega)
      have hA2:AccAt w2 b (o+i*8) (F i):=by
       refine hA.of_cells (fun q=>World.cell?_of_block (w:=w1) ?_)
       show w2.heap[b]? =w1.heap[b]?
       rw[hgrow.block b (by simp;omega) (by simp[Value.ownBlock];omega),Below.heap_alloc _ _ _ hb]
      obtain ⟨c0,c1,c2,c3,c4,c5,c6,c7⟩:=hA2
      clear hown hgrow hnn hA
      go_wp2
      go_roundw
      case rel=>exact ⟨pre++[cur],(F i).up,rfl,rfl,by simp;omega,E,I2,B2⟩
      case measure=>simp[lenOf];omega
open Go.RowKit
theorem specAcc_yes (a:Acc) (w:World) (h:okS a):
  Calls Tryz.prog 61 #[.agg #[.int .i64 a.id,.int .i64 a.up,.int .i64 a.limit,.int .i64 a.rate,.int .i64 a.target,.bool a.frozen,.int .i64 a.balance,.int .i64 a.carry]] w fun e w'=>e=.returned (.bool true)/\Below w.heap.size w w':=
 (specAcc a w).mono fun e w' ⟨b,he,hi,hb⟩=>⟨by rw[he,hi.2 h],hb⟩
theorem specAcc_no (a:Acc) (w:World) (h:¬okS a):
  Calls Tryz.prog 61 #[.agg #[.int .i64 a.id,.int .i64 a.up,.int .i64 a.limit,.int .i64 a.rate,.int .i64 a.target,.bool a.frozen,.int .i64 a.balance,.int .i64 a.carry]] w fun e w'=>e=.returned (.bool false)/\Below w.heap.size w w':=
 (specAcc a w).mono fun e w' ⟨b,he,hi,hb⟩=>⟨by rw[he];cases b with|true=>exact absurd (hi.1 rfl) h|false=>rfl,hb⟩
theorem specOk_small (a:Option Addr) (n c:Nat) (F:Nat->Acc) (w:World) (h:Fo w a n F) (hn12:n<=12):
  Calls Tryz.prog 16 #[.slice a n c] w fun e w'=>∃b:Bool,e=.returned (.bool b)/\(b=true↔Right F n)/\Below w.heap.size w w':=by
 have H:=hidOf h
 clear h
 go_enter Tryz.func16,Tryz.ntmps16
 go_wp2
 go_loopw[3] (fun i wr=>∃k:Nat,k<=n/\i=.int .i64 k/\Hid (∀j,j<k->okS (F j))/\Hid (∀j,0<j->j<k->(F (j-1)).id<(F j).id)/\Hid (Below w.heap.size w wr)) (fun i _=>n-(intOf i).toNat)
 case atStart=>exact ⟨0,Nat.zero_le _,rfl,fun j hj=>absurd hj (Nat.not_lt_zero _),fun j _ hj=>absurd hj (Nat.not_lt_zero _),Below.refl _ _⟩
 case round=>
  obtain ⟨k,hk,rfl,hok,hri,hB⟩:=hrel
  by_cases hlt:k<n
  ·obtain ⟨b,o,rfl,hb0,hA0⟩:=H.out.acc hlt
   have hb:b<wr.heap.size:=Nat.lt_of_lt_of_le hb0 hB.out.size
   have hA:=hA0.of_cells (w':=wr) (fun q=>hB.out.cell (p:=⟨b,q,none⟩) hb0)
   clear hA0
   obtain ⟨c0,c1,c2,c3,c4,c5,c6,c7⟩:=hA
   have hov:∀v q,(over wr v).cell? ⟨b,q,none⟩=wr.cell? ⟨b,q,none⟩:=fun v q=>(below_over wr v).cell (p:=⟨b,q,none⟩) hb
   by_cases hoks:okS (F k)
   ·have HS:=hidOf (hoks)
    have HK:Hid (∀j,j<k+1->okS (F j)):=fun j hj=>by
     by_cases e:j=k
     ·subst e;exact hoks
     ·exact hok.out j (by omega)
    clear hoks
    by_cases hk0:0<k
    ·obtain ⟨b',o',e',hb0',hA0'⟩:=H.out.acc (show k-1<n by omega)
     obtain ⟨rfl,rfl⟩:b=b'/\o=o':=by simpa using e'
     have d0:wr.cell? ⟨b,o+(k-1)*8,none⟩=some (.int .i64 (F (k-1)).id):=by
      rw[hB.out.cell (p:=⟨b,o+(k-1)*8,none⟩) hb0];exact hA0'.1
     clear e' hA0' hb0'
     have g0:(0:Int)<(k:Int):=by omega
     by_cases hr:(F (k-1)).id<(F k).id
     ·have HR:Hid (∀j,0<j->j<k+1->(F (j-1)).id<(F j).id):=fun j h1 h2=>by
       by_cases e:j=k
       ·subst e;exact hr
       ·exact hri.out j h1 (by omega)
      have hr':¬(F k).id<=(F (k-1)).id:=by omega
      have hd:decide ((F k).id<=(F (k-1)).id)=false:=decide_eq_false hr'
      go_wp2
      refine wp_region_over (by kernel_rfl) (by kernel_rfl) ?_
      repeat (go_big_quiet_step ((first|(go_at_call 61;exact Calls.over_of (specAcc_yes (F k) _ HS.out)))))
      refine wpQuiet_nil ?_
      intro _ hw'
      obtain ⟨vq,hw''⟩:=hw'
      subst hw''
      go_wp2
      go_roundw
      case rel=>exact ⟨k+1,by omega,by go_num,HK,HR,hB.out.trans ((below_over wr vq).mono hB.out.size)⟩
      case measure=>simp[intOf];omega
     ·have NR:Hid (¬Right F n):=fun hh=>hr (hh.2.2.1 k hk0 hlt)
      have hr':(F k).id<=(F (k-1)).id:=by omega
      clear hr
      go_wp2
      refine wp_region_over (by kernel_rfl) (by kernel_rfl) ?_
      repeat (go_big_quiet_step ((first|(go_at_call 61;exact Calls.over_of (specAcc_yes (F k) _ HS.out)))))
      refine wpQuiet_nil ?_
      intro _ hw'
      obtain ⟨vq,hw''⟩:=hw'
      subst hw''
      go_wp2
      go_ret
      exact ⟨false,rfl,⟨fun h=>(by cases h),fun h=>absurd h NR.out⟩,hB.out.trans ((below_over wr vq).mono hB.out.size)⟩
    ·have g0:decide (0<k)=false:=decide_eq_false (by omega)
     have HR:Hid (∀j,0<j->j<k+1->(F (j-1)).id<(F j).id):=fun j h1 h2=>by omega
     have hk1:k<=0:=by omega
     clear hk0
     go_wp2
     refine wp_region_over (by kernel_rfl) (by kernel_rfl) ?_
     repeat (go_big_quiet_step ((first|(go_at_call 61;exact Calls.over_of (specAcc_yes (F k) _ HS.out)))))
     refine wpQuiet_nil ?_
     intro _ hw'
     obtain ⟨vq,hw''⟩:=hw'
     subst hw''
     go_wp2
     go_roundw
     case rel=>exact ⟨k+1,by omega,by go_num,HK,HR,hB.out.trans ((below_over wr vq).mono hB.out.size)⟩
     case measure=>simp[intOf];omega
   ·have NR:Hid (¬Right F n):=fun hr=>hoks (hr.2.1 k hlt)
    have NO:=hidOf hoks
    clear hoks
    go_wp2
    refine wp_region_over (by kernel_rfl) (by kernel_rfl) ?_
    repeat (go_big_quiet_step ((first|(go_at_call 61;exact Calls.over_of (specAcc_no (F k) _ NO.out)))))
    refine wpQuiet_nil ?_
    intro _ hw'
    obtain ⟨vq,hw''⟩:=hw'
    subst hw''
    go_wp2
    go_ret
    exact ⟨false,rfl,⟨fun h=>(by cases h),fun h=>absurd h NR.out⟩,hB.out.trans ((below_over wr vq).mono hB.out.size)⟩
  ·have hkn:k=n:=by omega
   subst hkn
   clear hlt hk
   go_wp2
   go_loopw[4] (fun i wv=>∃m:Nat,m<=k/\i=.int .i64 m/\Hid (∀j,j<m->(chain F k k (F j).id).isSome=true)/\Hid (Below w.heap.size w wv)) (fun i _=>k-(intOf i).toNat)
   case atStart=>exact ⟨0,Nat.zero_le _,rfl,fun j hj=>absurd hj (Nat.not_lt_zero _),hB⟩
   case round=>
    obtain ⟨m,hm,rfl,hch,hB2⟩:=hrel
    by_cases hlt:m<k
    ·obtain ⟨b,o,rfl,hb0,hA0⟩:=H.out.acc hlt
     have hA:=hA0.of_cells (w':=wr) (fun q=>hB2.out.cell (p:=⟨b,q,none⟩) hb0)
     have c0:=hA.1
     clear hA0 hA
     go_wp2_with fail
     refine (specPath _ _ _ F _ _ (H.out.below hB2.out)).mono ?_
     rintro e w1 ⟨B1,⟨hno,rfl⟩|⟨l,v,hl,rfl,hI⟩⟩
     ·have NR:Hid (¬Right F k):=fun hh=>by have:=hh.2.2.2 m hlt;rw[hno] at this;cases this
      have B1':=hidOf (hB2.out.trans (B1.mono hB2.out.size))
      clear hno B1
      go_wp2
      go_ret
      exact ⟨false,rfl,⟨fun h=>(by cases h),fun h=>absurd h NR.out⟩,B1'.out⟩
     ·have HC:Hid (∀j,j<m+1->(chain F k k (F j).id).isSome=true):=fun j hj=>by
       by_cases e:j=m
       ·subst e;rw[hl];rfl
       ·exact hch.out j (by omega)
      have B1':=hidOf (hB2.out.trans (B1.mono hB2.out.size))
      clear hl hI B1
      go_wp2
      go_roundw
      case rel=>exact ⟨m+1,by omega,by go_num,HC,B1'⟩
      case measure=>simp[intOf];omega
    ·have R:Hid (Right F k):=⟨hn12,hok.out,hri.out,fun i hi=>hch.out i (by omega)⟩
     go_wp2
     go_ret
     exact ⟨true,rfl,⟨fun _=>R.out,fun _=>rfl⟩,hB2.out⟩
open Go.RowKit
theorem implAcc_yes (a:Acc) (w:World) (h:okI a):
  Calls Tryz.prog 64 #[.agg #[.int .i64 a.id,.int .i64 a.up,.int .i64 a.limit,.int .i64 a.rate,.int .i64 a.target,.bool a.frozen,.int .i64 a.balance,.int .i64 a.carry]] w fun e w'=>e=.returned (.bool true)/\Below w.heap.size w w':=
 (implAcc a w).mono fun e w' ⟨b,he,hi,hb⟩=>⟨by rw[he,hi.2 h],hb⟩
theorem implAcc_no (a:Acc) (w:World) (h:¬okI a):
  Calls Tryz.prog 64 #[.agg #[.int .i64 a.id,.int .i64 a.up,.int .i64 a.limit,.int .i64 a.rate,.int .i64 a.target,.bool a.frozen,.int .i64 a.balance,.int .i64 a.carry]] w fun e w'=>e=.returned (.bool false)/\Below w.heap.size w w':=
 (implAcc a w).mono fun e w' ⟨b,he,hi,hb⟩=>⟨by rw[he];cases b with|true=>exact absurd (hi.1 rfl) h|false=>rfl,hb⟩
theorem implOk_small (a:Option Addr) (n c:Nat) (F:Nat->Acc) (w:World) (h:Fo w a n F) (hn12:n<=12):
  Calls Tryz.prog 19 #[.slice a n c] w fun e w'=>∃b:Bool,e=.returned (.bool b)/\(b=true↔Right F n)/\Below w.heap.size w w':=by
 have H:=hidOf h
 clear h
 go_enter Tryz.func19,Tryz.ntmps19
 go_wp2
 go_loopw[12] (fun i wr=>∃k:Nat,k<=n/\i=.int .i64 k/\Hid (∀j,j<k->okI (F j))/\Hid (∀j,0<j->j<k->(F (j-1)).id<(F j).id)/\Hid (Below w.heap.size w wr)) (fun i _=>n-(intOf i).toNat)
 case atStart=>exact ⟨0,Nat.zero_le _,rfl,fun j hj=>absurd hj (Nat.not_lt_zero _),fun j _ hj=>absurd hj (Nat.not_lt_zero _),Below.refl _ _⟩
 case round=>
  obtain ⟨k,hk,rfl,hok,hri,hB⟩:=hrel
  by_cases hlt:k<n
  ·obtain ⟨b,o,rfl,hb0,hA0⟩:=H.out.acc hlt
   have hb:b<wr.heap.size:=Nat.lt_of_lt_of_le hb0 hB.out.size
   have hA:=hA0.of_cells (w':=wr) (fun q=>hB.out.cell (p:=⟨b,q,none⟩) hb0)
   clear hA0
   obtain ⟨c0,c1,c2,c3,c4,c5,c6,c7⟩:=hA
   have hov:∀v q,(over (wr.alloc (.cells #[.int .i64 (F k).id,.int .i64 (F k).up,.int .i64 (F k).limit,.int .i64 (F k).rate,.int .i64 (F k).target,.bool (F k).frozen,.int .i64 (F k).balance,.int .i64 (F k).carry] 30)) v).cell? ⟨b,q,none⟩=(wr.alloc (.cells #[.int .i64 (F k).id,.int .i64 (F k).up,.int .i64 (F k).limit,.int .i64 (F k).rate,.int .i64 (F k).target,.bool (F k).frozen,.int .i64 (F k).balance,.int .i64 (F k).carry] 30)).cell? ⟨b,q,none⟩:=fun v q=>(below_over _ v).cell (p:=⟨b,q,none⟩) (by simp;omega)
   have hov2:∀v q,(over (wr.alloc (.cells #[.int .i64 (F k).id,.int .i64 (F k).up,.int .i64 (F k).limit,.int .i64 (F k).rate,.int .i64 (F k).target,.bool (F k).frozen,.int .i64 (F k).balance,.int .i64 (F k).carry] 30)) v).cell? ⟨wr.heap.size,q,none⟩=(wr.alloc (.cells #[.int .i64 (F k).id,.int .i64 (F k).up,.int .i64 (F k).limit,.int .i64 (F k).rate,.int .i64 (F k).target,.bool (F k).frozen,.int .i64 (F k).balance,.int .i64 (F k).carry] 30)).cell? ⟨wr.heap.size,q,none⟩:=fun v q=>(below_over _ v).cell (p:=⟨wr.heap.size,q,none⟩) (by simp)
   by_cases hoks:okI (F k)
   ·have HS:=hidOf (hoks)
    have HK:Hid (∀j,j<k+1->okI (F j)):=fun j hj=>by
     by_cases e:j=k
     ·subst e;exact hoks
     ·exact hok.out j (by omega)
    clear hoks
    by_cases hk0:0<k
    ·obtain ⟨b',o',e',hb0',hA0'⟩:=H.out.acc (show k-1<n by omega)
     obtain ⟨rfl,rfl⟩:b=b'/\o=o':=by simpa using e'
     have d0:wr.cell? ⟨b,o+(k-1)*8,none⟩=some (.int .i64 (F (k-1)).id):=by
      rw[hB.out.cell (p:=⟨b,o+(k-1)*8,none⟩) hb0];exact hA0'.1
     clear e' hA0' hb0'
     have g0:(0:Int)<(k:Int):=by omega
     by_cases hr:(F (k-1)).id<(F k).id
     ·have HR:Hid (∀j,0<j->j<k+1->(F (j-1)).id<(F j).id):=fun j h1 h2=>by
       by_cases e:j=k
       ·subst e;exact hr
       ·exact hri.out j h1 (by omega)
      have hr':¬(F k).id<=(F (k-1)).id:=by omega
      have hd:decide ((F k).id<=(F (k-1)).id)=false:=decide_eq_false hr'
      go_wp2
      refine wp_region_over (by kernel_rfl) (by kernel_rfl) ?_
      repeat (go_big_quiet_step ((first|(go_at_call 64;exact Calls.over_of (implAcc_yes (F k) _ HS.out)))))
      refine wpQuiet_nil ?_
      intro _ hw'
      obtain ⟨vq,hw''⟩:=hw'
      subst hw''
      go_wp2
      go_roundw
      case rel=>exact ⟨k+1,by omega,by go_num,HK,HR,(hB.out.alloc hB.out.size _).trans ((below_over _ vq).mono (by have:=hB.out.size;simp;omega))⟩
      case measure=>simp[intOf];omega
     ·have NR:Hid (¬Right F n):=fun hh=>hr (hh.2.2.1 k hk0 hlt)
      have hr':(F k).id<=(F (k-1)).id:=by omega
      clear hr
      go_wp2
      refine wp_region_over (by kernel_rfl) (by kernel_rfl) ?_
      repeat (go_big_quiet_step ((first|(go_at_call 64;exact Calls.over_of (implAcc_yes (F k) _ HS.out)))))
      refine wpQuiet_nil ?_
      intro _ hw'
      obtain ⟨vq,hw''⟩:=hw'
      subst hw''
      go_wp2
      go_ret
      exact ⟨false,rfl,⟨fun h=>(by cases h),fun h=>absurd h NR.out⟩,(hB.out.alloc hB.out.size _).trans ((below_over _ vq).mono (by have:=hB.out.size;simp;omega))⟩
    ·have g0:decide (0<k)=false:=decide_eq_false (by omega)
     have HR:Hid (∀j,0<j->j<k+1->(F (j-1)).id<(F j).id):=fun j h1 h2=>by omega
     have hk1:k<=0:=by omega
     clear hk0
     go_wp2
     refine wp_region_over (by kernel_rfl) (by kernel_rfl) ?_
     repeat (go_big_quiet_step ((first|(go_at_call 64;exact Calls.over_of (implAcc_yes (F k) _ HS.out)))))
     refine wpQuiet_nil ?_
     intro _ hw'
     obtain ⟨vq,hw''⟩:=hw'
     subst hw''
     go_wp2
     go_roundw
     case rel=>exact ⟨k+1,by omega,by go_num,HK,HR,(hB.out.alloc hB.out.size _).trans ((below_over _ vq).mono (by have:=hB.out.size;simp;omega))⟩
     case measure=>simp[intOf];omega
   ·have NR:Hid (¬Right F n):=fun hr=>hoks (((right_iff F n).1 hr).2.1 k hlt)
    have NO:=hidOf hoks
    clear hoks
    go_wp2
    refine wp_region_over (by kernel_rfl) (by kernel_rfl) ?_
    repeat (go_big_quiet_step ((first|(go_at_call 64;exact Calls.over_of (implAcc_no (F k) _ NO.out)))))
    refine wpQuiet_nil ?_
    intro _ hw'
    obtain ⟨vq,hw''⟩:=hw'
    subst hw''
    go_wp2
    go_ret
    exact ⟨false,rfl,⟨fun h=>(by cases h),fun h=>absurd h NR.out⟩,(hB.out.alloc hB.out.size _).trans ((below_over _ vq).mono (by have:=hB.out.size;simp;omega))⟩
  ·have hkn:k=n:=by omega
   subst hkn
   clear hlt hk
   go_wp2
   go_loopw[38] (fun i wv=>∃m:Nat,m<=k/\i=.int .i64 m/\Hid (∀j,j<m->leads F k k (F j)=true)/\Hid (Below w.heap.size w wv)) (fun i _=>k-(intOf i).toNat)
   case atStart=>exact ⟨0,Nat.zero_le _,rfl,fun j hj=>absurd hj (Nat.not_lt_zero _),hB⟩
   case round=>
    obtain ⟨m,hm,rfl,hch,hB2⟩:=hrel
    by_cases hlt:m<k
    ·obtain ⟨b,o,rfl,hb0,hA0⟩:=H.out.acc hlt
     have hA:=hA0.of_cells (w':=wr) (fun q=>hB2.out.cell (p:=⟨b,q,none⟩) hb0)
     obtain ⟨c0,c1,c2,c3,c4,c5,c6,c7⟩:=hA
     clear hA0
     go_wp2_with fail
     refine (implLeads _ _ _ F (F m) _ ((H.out.below hB2.out).alloc _)).mono ?_
     rintro e w1 ⟨rfl,B1⟩
     have B1':Hid (Below w.heap.size w w1):=(hB2.out.alloc hB2.out.size _).trans (B1.mono (by have:=hB2.out.size;simp;omega))
     clear B1
     cases hle:leads F k k (F m) with
     | false=>
      have NR:Hid (¬Right F k):=fun hh=>by have:=((right_iff F k).1 hh).2.2.2 m hlt;rw[hle] at this;cases this
      clear hle
      go_wp2
      go_ret
      exact ⟨false,rfl,⟨fun h=>(by cases h),fun h=>absurd h NR.out⟩,B1'.out⟩
     | true=>
      have HC:Hid (∀j,j<m+1->leads F k k (F j)=true):=fun j hj=>by
       by_cases e:j=m
       ·subst e;exact hle
       ·exact hch.out j (by omega)
      clear hle
      go_wp2
      go_roundw
      case rel=>exact ⟨m+1,by omega,by go_num,HC,B1'⟩
      case measure=>simp[intOf];omega
    ·have R:Hid (Right F k):=(right_iff F k).2 ⟨hn12,hok.out,hri.out,fun i hi=>hch.out i (by omega)⟩
     go_wp2
     go_ret
     exact ⟨true,rfl,⟨fun _=>R.out,fun _=>rfl⟩,hB2.out⟩
theorem specOk (a:Option Addr) (n c:Nat) (F:Nat->Acc) (w:World) (h:Fo w a n F):
  Calls Tryz.prog 16 #[.slice a n c] w fun e w'=>∃b:Bool,e=.returned (.bool b)/\(b=true↔Right F n)/\Below w.heap.size w w':=by
 by_cases h12:n<=12
 ·exact specOk_small a n c F w h h12
 ·have NR:Hid (¬Right F n):=fun hh=>h12 hh.1
  have h12':(12:Int)<(n:Int):=by omega
  have hn:=h.1
  clear h
  go_enter Tryz.func16,Tryz.ntmps16
  go_wp2
  go_ret
  exact ⟨false,rfl,⟨fun h=>(by cases h),fun h=>absurd h NR.out⟩,Below.refl _ _⟩
theorem implOk (a:Option Addr) (n c:Nat) (F:Nat->Acc) (w:World) (h:Fo w a n F):
  Calls Tryz.prog 19 #[.slice a n c] w fun e w'=>∃b:Bool,e=.returned (.bool b)/\(b=true↔Right F n)/\Below w.heap.size w w':=by
 by_cases h12:n<=12
 ·exact implOk_small a n c F w h h12
 ·have NR:Hid (¬Right F n):=fun hh=>h12 hh.1
  have h12':(12:Int)<(n:Int):=by omega
  have hn:=h.1
  clear h
  go_enter Tryz.func19,Tryz.ntmps19
  go_wp2
  go_ret
  exact ⟨false,rfl,⟨fun h=>(by cases h),fun h=>absurd h NR.out⟩,Below.refl _ _⟩
open Go.RowKit
theorem info30:(Tryz.prog.info? 30).map (fun i=>(i.zero,i.size,i.bytes))=some (some (.agg #[.int .i64 0,.int .i64 0,.int .i64 0,.int .i64 0,.int .i64 0,.bool false,.int .i64 0,.int .i64 0]),8,64):=by kernel_rfl
open Go.RowKit
theorem specOk_yes (a:Option Addr) (n c:Nat) (F:Nat->Acc) (w:World) (h:Fo w a n F) (hR:Right F n):
  Calls Tryz.prog 16 #[.slice a n c] w fun e w'=>e=.returned (.bool true)/\Below w.heap.size w w':=
 (specOk a n c F w h).mono fun e w' ⟨b,he,hi,hb⟩=>⟨by rw[he,hi.2 hR],hb⟩
theorem specOk_no (a:Option Addr) (n c:Nat) (F:Nat->Acc) (w:World) (h:Fo w a n F) (hR:¬Right F n):
  Calls Tryz.prog 16 #[.slice a n c] w fun e w'=>e=.returned (.bool false)/\Below w.heap.size w w':=
 (specOk a n c F w h).mono fun e w' ⟨b,he,hi,hb⟩=>⟨by rw[he];cases b with|true=>exact absurd (hi.1 rfl) hR|false=>rfl,hb⟩
theorem implOk_yes (a:Option Addr) (n c:Nat) (F:Nat->Acc) (w:World) (h:Fo w a n F) (hR:Right F n):
  Calls Tryz.prog 19 #[.slice a n c] w fun e w'=>e=.returned (.bool true)/\Below w.heap.size w w':=
 (implOk a n c F w h).mono fun e w' ⟨b,he,hi,hb⟩=>⟨by rw[he,hi.2 hR],hb⟩
theorem implOk_no (a:Option Addr) (n c:Nat) (F:Nat->Acc) (w:World) (h:Fo w a n F) (hR:¬Right F n):
  Calls Tryz.prog 19 #[.slice a n c] w fun e w'=>e=.returned (.bool false)/\Below w.heap.size w w':=
 (implOk a n c F w h).mono fun e w' ⟨b,he,hi,hb⟩=>⟨by rw[he];cases b with|true=>exact absurd (hi.1 rfl) hR|false=>rfl,hb⟩
def total (F:Nat->Acc):Nat->Int
 | 0=>0
 | k+1=>total F k+(F k).balance
theorem total_bd {F:Nat->Acc} {n:Nat} (hR:Right F n):∀k,k<=n-> -(1000000000000*(k:Int))<=total F k/\total F k<=1000000000000*(k:Int)
 | 0,_=>by simp[total]
 | k+1,hk=>by
  have i:=total_bd hR k (by omega)
  have b:=(hR.2.1 k (by omega)).2.2.2.2.2.1
  simp only[total]
  omega
theorem implTotal_yes (a:Option Addr) (n c:Nat) (F:Nat->Acc) (w:World) (h:Fo w a n F) (hR:Right F n):
  Calls Tryz.prog 20 #[.slice a n c] w fun e w'=>e=.returned (.int .i64 (total F n))/\Below w.heap.size w w':=by
 have H:=hidOf h
 have HR:=hidOf hR
 have hn:=hR.1
 clear h hR
 go_enter Tryz.func20,Tryz.ntmps20
 go_wp2_with fail
 refine (implOk_yes a n c F _ H.out HR.out).mono ?_
 rintro e w1 ⟨rfl,B1⟩
 have B1':=hidOf B1
 clear B1
 go_wp2
 go_loopw[3,11] (fun t i wr=>∃k:Nat,k<=n/\i=.int .i64 k/\t=.int .i64 (total F k)/\Hid (Below w.heap.size w wr)) (fun _ i _=>n-(intOf i).toNat)
 case atStart=>exact ⟨0,Nat.zero_le _,rfl,rfl,B1'⟩
 case round=>
  obtain ⟨k,hk,rfl,rfl,hB⟩:=hrel
  obtain ⟨t1,t2⟩:=total_bd HR.out k hk
  by_cases hlt:k<n
  ·obtain ⟨b,o,rfl,hb0,hA0⟩:=H.out.acc hlt
   have hA:=hA0.of_cells (w':=wr) (fun q=>hB.out.cell (p:=⟨b,q,none⟩) hb0)
   obtain ⟨c0,c1,c2,c3,c4,c5,c6,c7⟩:=hA
   obtain ⟨b1,b2⟩:=(HR.out.2.1 k hlt).2.2.2.2.2.1
   clear hA0
   go_wp2
   go_roundw
   case rel=>exact ⟨k+1,by omega,by go_num,rfl,hB.out.alloc hB.out.size _⟩
   case measure=>simp[intOf];omega
  ·have hkn:k=n:=by omega
   subst hkn
   go_wp2
   go_ret
   exact ⟨rfl,hB.out⟩
open Go.RowKit
def noAcc:Acc:=⟨0,0,0,0,0,false,0,0⟩
theorem implFind_yes (a:Option Addr) (n c:Nat) (F:Nat->Acc) (id:Int) (i:Nat) (w:World) (h:Fo w a n F) (hR:Right F n) (hp:place F n id=some i):
  Calls Tryz.prog 18 #[.slice a n c,.int .i64 id] w fun e w'=>e=.returned (.tuple #[.agg #[.int .i64 (F i).id,.int .i64 (F i).up,.int .i64 (F i).limit,.int .i64 (F i).rate,.int .i64 (F i).target,.bool (F i).frozen,.int .i64 (F i).balance,.int .i64 (F i).carry],.bool true])/\Below w.heap.size w w':=by
 have H:=hidOf h
 have hin:=(place_some hp).1
 have hn:=h.1
 clear h
 go_enter Tryz.func18,Tryz.ntmps18
 go_wp2_with fail
 refine (implOk_yes a n c F _ (H.out.alloc _) hR).mono ?_
 rintro e w1 ⟨rfl,B1⟩
 go_wp2_with fail
 refine (implAt a n c F id _ ((H.out.alloc _).below B1)).mono ?_
 rintro e w2 ⟨rfl,B2⟩
 rw[placeI_some hp]
 have B12:=B1.trans (B2.mono B1.size)
 have hc:∀o,w2.cell? ⟨w.heap.size,o,none⟩=(w.alloc (.cells #[.int .i64 0,.int .i64 0,.int .i64 0,.int .i64 0,.int .i64 0,.bool false,.int .i64 0,.int .i64 0] 30)).cell? ⟨w.heap.size,o,none⟩:=fun o=>B12.cell (p:=⟨w.heap.size,o,none⟩) (by simp)
 have hf:∀o,w2.frozen? ⟨w.heap.size,o,none⟩=(w.alloc (.cells #[.int .i64 0,.int .i64 0,.int .i64 0,.int .i64 0,.int .i64 0,.bool false,.int .i64 0,.int .i64 0] 30)).frozen? ⟨w.heap.size,o,none⟩:=fun o=>B12.frozen (p:=⟨w.heap.size,o,none⟩) (by simp)
 have BB:Hid (Below w.heap.size w w2):=((Below.refl _ _).alloc (Nat.le_refl _) _).trans (B12.mono (by simp))
 have hz:w.heap.size<w2.heap.size:=by have:=B12.size;simp at this;omega
 obtain ⟨b,o,rfl,hb0,hA0⟩:=H.out.acc hin
 have hA:=hA0.of_cells (w':=w2) (fun q=>BB.out.cell (p:=⟨b,q,none⟩) hb0)
 obtain ⟨c0,c1,c2,c3,c4,c5,c6,c7⟩:=hA
 have hne:b≠w.heap.size:=by omega
 clear hA0
 clear B1 B2 B12 hR hp
 go_wp2
 refine bodyPost_ret (v:=.tuple #[.agg #[.int .i64 (F i).id,.int .i64 (F i).up,.int .i64 (F i).limit,.int .i64 (F i).rate,.int .i64 (F i).target,.bool (F i).frozen,.int .i64 (F i).balance,.int .i64 (F i).carry],.bool true]) (by simp[results,Tryz.results18,go_sem,hc]) rfl ⟨rfl,?_⟩
 exact set8_below BB.out w.heap.size 0 (F i) (Nat.le_refl _)
end Go.Proofs.YtghkbhggopiajaaGreatDoor
