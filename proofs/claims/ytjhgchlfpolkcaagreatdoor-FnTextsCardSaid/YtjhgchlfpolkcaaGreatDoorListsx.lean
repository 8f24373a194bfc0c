/- Decimal numerals of both sides. -/
import Derived.Laws.EntriesVeiled
import Derived.Test.YtjhgchlfpolkcaaGreatDoorOpssx
import Derived.Shelf.Strconv.Itoa4
import Derived.Shelf.Lay
import Derived.Ground.NamesProg
import Derived.Test.YtjhgchlfpolkcaaGreatDoorChecked
import Derived.Test.YtjhgchlfpolkcaaGreatDoorRows
import Derived.WalkKit
import Derived.WalkLawsBesides
import Derived.Below
import Derived.Deep.QuietTactic
import Derived.BigQuiet
import Derived.Laws.BytesString
import Derived.Laws.Concat
namespace Go.Proofs.YtjhgchlfpolkcaaGreatDoor
section
open Value renaming int → Ii,slice → Sl
open IntKind renaming i64 → Jj
open Nat renaming le_refl → Nf
open Go.Proofs.Tryz renaming prog → Pg
set_option maxRecDepth 8000
set_option maxHeartbeats 4000000
open Go.RowKit
def IL (w:World) (B:Nat) (v:Value) (l:List Int):Prop:=w.ownsRow B 2 1 v l.length (l.map (Value.int .i64))
theorem IL.nil (w:World) (B:Nat):IL w B (Sl none 0 0) []:=World.ownsRow_nil w B 2 1
theorem IL.empty (w:World) (B:Nat) (hB:B<=w.heap.size):IL (w.alloc (.cells #[] 2)) B (Sl (some ⟨w.heap.size,0,none⟩) 0 0) []:=World.ownsRow_lit w #[] 0 hB (Nat.zero_le _) (by simp)
theorem IL.kept {w w':World} {B:Nat} {v:Value} {l:List Int} (h:IL w B v l) (hb:Below w.heap.size w w'):IL w' B v l:=
 World.ownsRow.kept (row:=none) h ⟨hb.os,hb.tape,hb.output,hb.size,fun k hk _=>hb.block k hk⟩ (by cases hv:v.ownBlock <;>simp)
theorem IL.shape {w:World} {B:Nat} {v:Value} {l:List Int} (h:IL w B v l):
  ∃a cap,v=Sl a l.length cap/\(∀g,v.ownBlock=some g->B<=g/\g<w.heap.size)/\
   ∀i,i<l.length->∃g,a=some ⟨g,0,none⟩/\v.ownBlock=some g/\B<=g/\g<w.heap.size/\w.cell? ⟨g,i,none⟩=some (Ii Jj (l.getD i 0))/\w.frozen? ⟨g,i,none⟩=false:=by
 have hlt:=World.ownsRow.lt h
 rcases h.2 with ⟨hv,hn⟩|⟨g,cap,cur,hv,hg,r⟩
 ·refine ⟨none,0,by rw[hv,hn],fun g hg=>hlt g hg,fun i hi=>?_⟩
  omega
 ·refine ⟨some ⟨g,0,none⟩,cap,hv,fun g hg=>hlt g hg,fun i hi=>?_⟩
  have ho:v.ownBlock=some g:=by rw[hv];rfl
  have hs:w.ownsRow B 2 1 (Sl (some ⟨g,0,none⟩) l.length cap) l.length (l.map (Value.int .i64)):=by rw[←hv];exact h
  have hc:=World.ownsRow.cellAt hs i (by omega)
  refine ⟨g,rfl,ho,hg,(hlt g ho).2,?_,World.ownsRow.frozenAt hs i⟩
  rw[hc]
  simp[List.getD,List.getElem?_eq_getElem hi]
theorem oZ (w:World) (R o:Nat) (u:Value):w.grownBy (w.setCell ⟨R,o,none⟩ u) (some R):=
 ⟨rfl,rfl,rfl,by simp[World.setCell],fun k _ hn=>Below.heap_setCell _ _ _ _ (fun e=>hn (by rw[e]))⟩
open Go.RowKit
def dm (F:Nat->al) (id:Int):Nat->List Int
 | 0=>[]
 | k+1=>dm F id k++(if (F k).up=id then [(F k).id] else [])
theorem jq (F:Nat->al) (id:Int):∀k,(dm F id k).length<=k
 | 0=>by simp[dm]
 | k+1=>by
  have:=jq F id k
  simp only[dm,List.length_append]
  split <;>simp <;>omega
theorem qC {F:Nat->al} {id:Int} {k:Nat} (h:(F k).up=id):dm F id (k+1)=dm F id k++[(F k).id]:=by simp[dm,h]
theorem pi {F:Nat->al} {id:Int} {k:Nat} (h:(F k).up≠id):dm F id (k+1)=dm F id k:=by simp[dm,h]
theorem lx (a:Option Addr) (n c:Nat) (F:Nat->al) (id:Int) (w:World) (h:Fo w a n F) (hR:ap F n):
  Calls Pg 141 #[Sl a n c,Ii Jj id] w fun e w'=>∃v,e=.returned v/\IL w' w.heap.size v (dm F id n)/\Below w.heap.size w w':=by
 have H:Hid (Fo w a n F):=h
 have HR:Hid (ap F n):=hR
 have hn:=hR.1
 clear h hR
 obtain ⟨i0,hi,hz0,hz1,hz2⟩:=info_parts qy
 have I0:Hid (IL (w.alloc (.cells #[] 2)) w.heap.size (Sl (some ⟨w.heap.size,0,none⟩) 0 0) []):=IL.empty w w.heap.size (Nf _)
 go_enter Tryz.func141,Tryz.ntmps141
 go_wp2
 go_loopw[5,6] (fun v i wr=>∃k:Nat,k<=n/\i=Ii Jj k/\Hid (IL wr w.heap.size v (dm F id k))/\Hid (Below w.heap.size w wr)) (fun _ i _=>n-(intOf i).toNat)
 case atStart=>exact ⟨0,Nat.zero_le _,rfl,I0,(Below.refl _ _).alloc (Nf _) _⟩
 case round=>
  rename_i v5
  obtain ⟨k,hk,rfl,hI,hB⟩:=hrel
  clear I0
  go_wp2_with fail
  refine (dh a n c F _ (H.out.below hB.out) HR.out).mono ?_
  rintro e w1 ⟨rfl,B1⟩
  have I1:Hid (IL w1 w.heap.size _ (dm F id k)):=hI.out.kept B1
  have B1':Hid (Below w.heap.size w w1):=hB.out.trans (B1.mono hB.out.size)
  clear B1 hI hB
  by_cases hlt:k<n
  ·obtain ⟨b,o,rfl,hb0,hA0⟩:=H.out.acc hlt
   have hA:=hA0.of_cells (w':=w1) (fun q=>B1'.out.cell (p:=⟨b,q,none⟩) hb0)
   obtain ⟨c0,c1,c2,c3,c4,c5,c6,c7⟩:=hA
   clear hA0
   obtain ⟨a',m',hv,hlt',_⟩:=I1.out.shape
   subst hv
   have hkl:=jq F id k
   by_cases hu:(F k).up=id
   ·have bu:((F k).up == id)=true:=by simp[hu]
    have HK:Hid (dm F id (k+1)=dm F id k++[(F k).id]):=qC hu
    have HL:Hid (∀q,(Value.slice a' (dm F id k).length m').ownBlock=some q->w.heap.size<=q/\q<w1.heap.size):=hlt'
    have hbw:b<w1.heap.size:=Nat.lt_of_lt_of_le hb0 B1'.out.size
    clear hu hlt'
    go_wp2_with (at_builtin;refine wpList_append_own _ rfl _ _ 80 rfl w.heap.size 2 i0 (Ii Jj 0) 1 8 Tryz.underlying80 hi hz0 hz1 hz2 rfl (by decide) _ _ _ rfl (World.ownsRow.alloc I1.out _) ⟨_,0,none⟩ 1 1 [Ii Jj (F k).id] rfl rfl ?_ ?_ ?_ ?_ ?_ ?_)
    ·intro j u hj
     match j,hj with
     | 0,hj=>simp at hj;subst hj;simp[Addr.add,go_sem]
    ·intro u hu;simp at hu;subst hu;rfl
    ·unfold maxLen;omega
    ·omega
    ·have:=B1'.out.size;simp;omega
    ·intro v' w2 hown hgrow _
     have I2:Hid (IL w2 w.heap.size v' (dm F id (k+1))):=by
      have e:dm F id (k+1)=dm F id k++[(F k).id]:=HK.out
      show IL w2 w.heap.size v' (dm F id (k+1))
      rw[e]
      unfold IL
      simpa using hown
     have B2:Hid (Below w.heap.size w w2):=(B1'.out.alloc B1'.out.size _).grown hgrow (by have:=B1'.out.size;simp;omega) (fun q hq=>(HL.out q hq).1)
     clear hown hgrow
     go_wp2
     go_roundw
     case rel=>exact ⟨k+1,by omega,by go_num,I2,B2⟩
     case measure=>simp[intOf];omega
   ·have bu:((F k).up == id)=false:=by simp[hu]
    have I2:Hid (IL w1 w.heap.size (Sl a' (dm F id k).length m') (dm F id (k+1))):=by
     show IL w1 w.heap.size _ (dm F id (k+1))
     rw[pi hu];exact I1.out
    clear hu hlt'
    go_wp2
    go_roundw
    case rel=>exact ⟨k+1,by omega,by go_num,I2,B1'⟩
    case measure=>simp[intOf];omega
  ·have hkn:k=n:=by omega
   subst hkn
   have hd:decide (k<k)=false:=by simp
   go_wp2
   go_ret
   exact ⟨_,rfl,I1.out,B1'.out⟩
open Go.RowKit
def ab (a:al):List Value:=[Ii Jj a.id,Ii Jj a.up,Ii Jj a.limit,Ii Jj a.rate,Ii Jj a.target,.bool a.frozen,Ii Jj a.balance,Ii Jj a.carry]
def AL (w:World) (B:Nat) (v:Value) (l:List al):Prop:=w.ownsRow B 53 8 v l.length (l.flatMap ab)
theorem dT (l:List al):(l.flatMap ab).length=l.length*8:=by
 induction l with
 | nil=>rfl
 | cons a l ih=>simp only[List.flatMap_cons,List.length_append,ih,List.length_cons,ab,List.length_nil];omega
theorem gF (l:List al):∀(i j:Nat) (hi:i<l.length) (_:j<8),(l.flatMap ab)[i*8+j]? =(ab l[i])[j]? :=by
 induction l with
 | nil=>intro i j hi;simp at hi
 | cons a l ih=>
  intro i j hi hj
  rw[List.flatMap_cons]
  cases i with
  | zero=>
   rw[List.getElem?_append_left (by simp[ab];omega)]
   simp
  | succ i=>
   have hl:(ab a).length=8:=rfl
   rw[List.getElem?_append_right (by rw[hl];omega),hl]
   have e:(i+1)*8+j-8=i*8+j:=by omega
   rw[e,ih i j (by simpa using hi) hj]
   simp
theorem AL.kept {w w':World} {B:Nat} {v:Value} {l:List al} (h:AL w B v l) (hb:Below w.heap.size w w'):AL w' B v l:=
 World.ownsRow.kept (row:=none) h ⟨hb.os,hb.tape,hb.output,hb.size,fun k hk _=>hb.block k hk⟩ (by cases hv:v.ownBlock <;>simp)
theorem AL.shape {w:World} {B:Nat} {v:Value} {l:List al} (h:AL w B v l):
  ∃a cap,v=Sl a l.length cap/\(∀g,v.ownBlock=some g->B<=g/\g<w.heap.size)/\
   ∀i (hi:i<l.length),∃g,a=some ⟨g,0,none⟩/\B<=g/\g<w.heap.size/\eA w g (i*8) l[i]:=by
 have hlt:=World.ownsRow.lt h
 rcases h.2 with ⟨hv,hn⟩|⟨g,cap,cur,hv,hg,r⟩
 ·refine ⟨none,0,by rw[hv,hn],fun g hg=>hlt g hg,fun i hi=>?_⟩
  omega
 ·refine ⟨some ⟨g,0,none⟩,cap,hv,fun g hg=>hlt g hg,fun i hi=>?_⟩
  have ho:v.ownBlock=some g:=by rw[hv];rfl
  have hs:w.ownsRow B 53 8 (Sl (some ⟨g,0,none⟩) l.length cap) l.length (l.flatMap ab):=by rw[←hv];exact h
  have hc:∀j,j<8->w.cell? ⟨g,i*8+j,none⟩=(ab l[i])[j]? :=fun j hj=>by
   rw[World.ownsRow.cellAt hs (i*8+j) (by omega),gF l i j hi hj]
  exact ⟨g,rfl,hg,(hlt g ho).2,hc 0 (by omega),hc 1 (by omega),hc 2 (by omega),hc 3 (by omega),hc 4 (by omega),hc 5 (by omega),hc 6 (by omega),hc 7 (by omega)⟩
open Go.RowKit
theorem jZ (F:Nat->al) (n:Nat):∀(m:Nat) (id:Int) (l:List Int),aR F n m id=some l->l.length<=m
 | 0,id,l,h=>by
  by_cases h0:id=0
  ·simp[aR,h0] at h;simp[h]
  ·simp[aR,h0] at h
 | m+1,id,l,h=>by
  by_cases h0:id=0
  ·simp[aR,h0] at h;simp[h]
  ·simp only[aR,if_neg h0] at h
   cases hp:aB F n id with
   | none=>rw[hp] at h;cases h
   | some i=>
    rw[hp] at h
    simp only[Option.map_eq_some_iff] at h
    obtain ⟨l',h1,rfl⟩:=h
    have:=jZ F n m _ l' h1
    simp
    exact this
theorem iV (F:Nat->al) (n:Nat):∀(m m':Nat) (x:Int) (l:List Int),m<=m'->aR F n m x=some l->aR F n m' x=some l
 | 0,m',x,l,_,h=>by
  by_cases h0:x=0
  ·subst h0
   cases m' <;>simpa [aR] using h
  ·simp[aR,h0] at h
 | m+1,0,x,l,hm,_=>by omega
 | m+1,m'+1,x,l,hm,h=>by
  by_cases h0:x=0
  ·subst h0;simpa [aR] using h
  ·simp only[aR,if_neg h0] at h ⊢
   cases hp:aB F n x with
   | none=>rw[hp] at h;cases h
   | some i=>
    rw[hp] at h
    simp only[Option.map_eq_some_iff] at h ⊢
    obtain ⟨l',h1,h2⟩:=h
    exact ⟨l',iV F n m m' _ l' (by omega) h1,h2⟩
def aI (F:Nat->al) (n j:Nat):List Int:=(aR F n n (F j).id).getD []
section
variable {F:Nat->al} {n:Nat}
theorem ap.id1 (h:ap F n) {j:Nat} (hj:j<n):1<=(F j).id:=(h.2.1 j hj).1.1
theorem ap.path (h:ap F n) {j:Nat} (hj:j<n):aR F n n (F j).id=some (aI F n j):=by
 obtain ⟨l,hl⟩:=Option.isSome_iff_exists.1 (h.2.2.2 j hj)
 simp[aI,hl]
theorem ap.inj (h:ap F n) {i j:Nat} (hi:i<n) (hj:j<n) (e:(F i).id=(F j).id):i=j:=by
 have a:=dK h.2.2.1 hi
 have b:=dK h.2.2.1 hj
 rw[e,b] at a
 exact (Option.some.inj a).symm
theorem ap.path_up (h:ap F n) {j:Nat} (hj:j<n) (hu:(F j).up≠0):∃p,p<n/\(F p).id=(F j).up/\aI F n j=(F j).id::aI F n p:=by
 have hp:=h.path hj
 have h1:=h.id1 hj
 cases n with
 | zero=>omega
 | succ m=>
  simp only[aR,if_neg (show (F j).id≠0 by omega),dK h.2.2.1 hj,Option.map_eq_some_iff] at hp
  obtain ⟨l1,h2,h3⟩:=hp
  have hpl:∃p,aB F (m+1) (F j).up=some p:=by
   cases hq:aB F (m+1) (F j).up with
   | some p=>exact ⟨p,rfl⟩
   | none=>
    cases m <;>simp[aR,hu,hq] at h2
  obtain ⟨p,hq⟩:=hpl
  obtain ⟨hpn,hid⟩:=bD hq
  have h4:=iV F (m+1) m (m+1) _ l1 (by omega) h2
  rw[←hid,h.path hpn] at h4
  exact ⟨p,hpn,hid,by rw[←h3,←Option.some.inj h4]⟩
def on (F:Nat->al) (n i j:Nat):Int:=if (F i).id ∈ aI F n j then 1 else 0
end
def fM (f:Nat->Int):Nat->Int
 | 0=>0
 | k+1=>fM f k+f k
section
variable {F:Nat->al} {n:Nat}
def aF (F:Nat->al) (n i:Nat):Int:=fM (fun j=>on F n i j*(F j).balance) n
theorem uc (F:Nat->al) (n i j:Nat):on F n i j=0\/on F n i j=1:=by
 unfold on;split
 ·exact Or.inr rfl
 ·exact Or.inl rfl
theorem nX (h:ap F n) (i:Nat):∀m,m<=n-> -(1000000000000*(m:Int))<=fM (fun j=>on F n i j*(F j).balance) m/\fM (fun j=>on F n i j*(F j).balance) m<=1000000000000*(m:Int)
 | 0,_=>by simp[fM]
 | m+1,hm=>by
  have ih:=nX h i m (by omega)
  have b:=(h.2.1 m (by omega)).2.2.2.2.2.1
  simp only[fM]
  rcases uc F n i m with e|e
  ·rw[e];simp;omega
  ·rw[e];simp;omega
theorem i9 (h:ap F n) (i:Nat): -12000000000000<=aF F n i/\aF F n i<=12000000000000:=by
 have:=nX h i n (Nf _)
 have:=h.1
 unfold aF
 omega
end
open Go.RowKit
theorem fE {F:Nat->al} {n:Nat} (h:ap F n) {i:Nat} (hi:i<n):(aI F n i).length<=n:=jZ F n n _ _ (h.path hi)
open Go.RowKit
theorem lS {l:List Int} {k:Nat} (h:k<l.length):l.getD k 0 ∈ l:=by
 simp[List.getD,List.getElem?_eq_getElem h]
theorem qH {l:List Int} {x:Int} (h:x ∈ l):∃k,k<l.length/\l.getD k 0=x:=by
 obtain ⟨k,hk,e⟩:=List.getElem_of_mem h
 exact ⟨k,hk,by simp[List.getD,List.getElem?_eq_getElem hk,e]⟩
theorem bz (B:Nat) (v:Value) (l:List Int) (x:Int) (w:World) (hl:l.length<=1048576) (h:IL w B v l) (hx:x ∈ l):
  Calls Pg 139 #[v,Ii Jj x] w fun e w'=>e=.returned (.bool true)/\w'=w:=by
 obtain ⟨a,m,rfl,_,s⟩:=h.shape
 have S:Hid (∀i,i<l.length->∃g,a=some ⟨g,0,none⟩/\w.cell? ⟨g,i,none⟩=some (Ii Jj (l.getD i 0))):=fun i hi=>by obtain ⟨g,e,_,_,_,hc,_⟩:=s i hi;exact ⟨g,e,hc⟩
 have HX:Hid (∃k,k<l.length/\l.getD k 0=x):=qH hx
 clear s h hx
 generalize hn:l.length=n at*
 go_enter Tryz.func139,Tryz.ntmps139
 go_wp2
 go_loop [5] (fun i=>∃k:Nat,k<=n/\i=Ii Jj k/\Hid (∀j,j<k->l.getD j 0≠x)) (fun i=>n-(intOf i).toNat)
 case atStart=>exact ⟨0,Nat.zero_le _,rfl,fun j hj=>absurd hj (Nat.not_lt_zero _)⟩
 case round=>
  obtain ⟨k,hk,rfl,hno⟩:=hrel
  by_cases hlt:k<n
  ·obtain ⟨g,rfl,c0⟩:=S.out k hlt
   by_cases hid:l.getD k 0=x
   ·rw[hid] at c0
    clear hid
    go_wp2
    go_ret
    exact ⟨rfl,rfl⟩
   ·have hb:(l.getD k 0 == x)=false:=beq_eq_false_iff_ne.2 hid
    have NX:Hid (∀j,j<k+1->l.getD j 0≠x):=fun j hj=>by
     by_cases e:j=k
     ·rw[e];exact hid
     ·exact hno.out j (by omega)
    clear hid
    generalize l.getD k 0=z at c0 hb
    go_wp2
    go_round
    case rel=>exact ⟨k+1,by omega,by go_num,NX⟩
    case measure=>simp[intOf];omega
  ·obtain ⟨q,hq,e⟩:=HX.out
   exact absurd e (hno.out q (by omega))
theorem cu (B:Nat) (v:Value) (l:List Int) (x:Int) (w:World) (hl:l.length<=1048576) (h:IL w B v l) (hx:x ∉ l):
  Calls Pg 139 #[v,Ii Jj x] w fun e w'=>e=.returned (.bool false)/\w'=w:=by
 obtain ⟨a,m,rfl,_,s⟩:=h.shape
 have S:Hid (∀i,i<l.length->∃g,a=some ⟨g,0,none⟩/\w.cell? ⟨g,i,none⟩=some (Ii Jj (l.getD i 0))):=fun i hi=>by obtain ⟨g,e,_,_,_,hc,_⟩:=s i hi;exact ⟨g,e,hc⟩
 have HX:Hid (∀k,k<l.length->l.getD k 0≠x):=fun k hk e=>hx (e ▸ lS hk)
 clear s h hx
 generalize hn:l.length=n at*
 go_enter Tryz.func139,Tryz.ntmps139
 go_wp2
 go_loop [5] (fun i=>∃k:Nat,k<=n/\i=Ii Jj k) (fun i=>n-(intOf i).toNat)
 case atStart=>exact ⟨0,Nat.zero_le _,rfl⟩
 case round=>
  obtain ⟨k,hk,rfl⟩:=hrel
  by_cases hlt:k<n
  ·obtain ⟨g,rfl,c0⟩:=S.out k hlt
   have hb:(l.getD k 0 == x)=false:=beq_eq_false_iff_ne.2 (HX.out k hlt)
   generalize l.getD k 0=z at c0 hb
   go_wp2
   go_round
   case rel=>exact ⟨k+1,by omega,by go_num⟩
   case measure=>simp[intOf];omega
  ·go_wp2
   go_ret
   exact ⟨rfl,rfl⟩
theorem cP (a:Option Addr) (n c:Nat) (F:Nat->al) (j:Nat) (w:World) (h:Fo w a n F) (hR:ap F n) (hj:j<n):
  Calls Pg 101 #[Sl a n c,Ii Jj (F j).id] w fun e w'=>∃v,e=.returned (.tuple #[v,.bool true])/\IL w' w.heap.size v (aI F n j)/\Below w.heap.size w w':=
 (mP a n c F (F j).id w h).mono fun e w' ⟨B,hc⟩=>by
  rcases hc with ⟨hno,_⟩|⟨l,v,hl,he,hI⟩
  ·rw[hR.path hj] at hno;cases hno
  ·rw[hR.path hj] at hl
   obtain rfl:=Option.some.inj hl
   exact ⟨v,he,hI.1,B⟩
def dL (F:Nat->al) (n i k:Nat):Int:=fM (fun j=>on F n i j*(F j).balance) k
theorem nW {F:Nat->al} {n i k:Nat} (h:(F i).id ∈ aI F n k):dL F n i (k+1)=dL F n i k+(F k).balance:=by
 simp[dL,fM,on,h]
theorem mV {F:Nat->al} {n i k:Nat} (h:(F i).id ∉ aI F n k):dL F n i (k+1)=dL F n i k:=by
 simp[dL,fM,on,h]
theorem iR (a:Option Addr) (n c:Nat) (F:Nat->al) (i:Nat) (w:World) (h:Fo w a n F) (hR:ap F n) (hi:i<n):
  Calls Pg 140 #[Sl a n c,Ii Jj (F i).id] w fun e w'=>e=.returned (Ii Jj (aF F n i))/\Below w.heap.size w w':=by
 have H:Hid (Fo w a n F):=h
 have HR:Hid (ap F n):=hR
 have hn:=hR.1
 clear h hR
 go_enter Tryz.func140,Tryz.ntmps140
 go_wp2
 go_loopw[5,6] (fun t q wr=>∃k:Nat,k<=n/\q=Ii Jj k/\t=Ii Jj (dL F n i k)/\Hid (Below w.heap.size w wr)) (fun _ q _=>n-(intOf q).toNat)
 case atStart=>exact ⟨0,Nat.zero_le _,rfl,rfl,Below.refl _ _⟩
 case round=>
  obtain ⟨k,hk,rfl,rfl,hB⟩:=hrel
  obtain ⟨kb1,kb2⟩: -(1000000000000*(k:Int))<=dL F n i k/\dL F n i k<=1000000000000*(k:Int):=nX HR.out i k hk
  by_cases hlt:k<n
  ·obtain ⟨b,o,rfl,hb0,hA0⟩:=H.out.acc hlt
   have hA:=hA0.of_cells (w':=wr) (fun q=>hB.out.cell (p:=⟨b,q,none⟩) hb0)
   have c0:=hA.1
   obtain ⟨bb1,bb2⟩:=(HR.out.2.1 k hlt).2.2.2.2.2.1
   clear hA
   go_wp2_with fail
   refine (cP _ n c F k _ (H.out.below hB.out) HR.out hlt).mono ?_
   rintro e w1 ⟨v,rfl,I1,B1⟩
   have B1':Hid (Below w.heap.size w w1):=hB.out.trans (B1.mono hB.out.size)
   have I1':Hid (IL w1 wr.heap.size v (aI F n k)):=I1
   have hpl:(aI F n k).length<=1048576:=by have:=fE HR.out hlt;omega
   have hA:=hA0.of_cells (w':=w1) (fun q=>B1'.out.cell (p:=⟨b,q,none⟩) hb0)
   have c6:=hA.2.2.2.2.2.2.1
   clear hA hA0 c0 B1 I1
   by_cases hm:(F i).id ∈ aI F n k
   ·have HK:Hid (dL F n i (k+1)=dL F n i k+(F k).balance):=nW hm
    have HM:Hid ((F i).id ∈ aI F n k):=hm
    clear hm
    go_wp2_with fail
    refine (bz _ v _ _ _ hpl I1'.out HM.out).mono ?_
    rintro e w2 ⟨rfl,rfl⟩
    go_wp2
    go_roundw
    case rel=>exact ⟨k+1,by omega,by go_num,by rw[HK.out],B1'⟩
    case measure=>simp[intOf];omega
   ·have HK:Hid (dL F n i (k+1)=dL F n i k):=mV hm
    have HM:Hid ((F i).id ∉ aI F n k):=hm
    clear hm
    go_wp2_with fail
    refine (cu _ v _ _ _ hpl I1'.out HM.out).mono ?_
    rintro e w2 ⟨rfl,rfl⟩
    go_wp2
    go_roundw
    case rel=>exact ⟨k+1,by omega,by go_num,by rw[HK.out],B1'⟩
    case measure=>simp[intOf];omega
  ·have hkn:k=n:=by omega
   subst hkn
   go_wp2
   go_ret
   exact ⟨rfl,hB.out⟩
open Go.RowKit
theorem ka (F:Nat->al) (n:Nat):∀(m:Nat) (x y:Int) (l:List Int),aR F n m x=some l->y ∈ l->∃j,aB F n y=some j
 | 0,x,y,l,h,hy=>by
  by_cases h0:x=0
  ·simp[aR,h0] at h;subst h;cases hy
  ·simp[aR,h0] at h
 | m+1,x,y,l,h,hy=>by
  by_cases h0:x=0
  ·simp[aR,h0] at h;subst h;cases hy
  ·simp only[aR,if_neg h0] at h
   cases hp:aB F n x with
   | none=>rw[hp] at h;cases h
   | some i=>
    rw[hp] at h
    simp only[Option.map_eq_some_iff] at h
    obtain ⟨l1,h1,rfl⟩:=h
    rcases List.mem_cons.1 hy with e|e
    ·exact ⟨i,by rw[e];exact hp⟩
    ·exact ka F n m _ y l1 h1 e
section
variable {F:Nat->al} {n:Nat}
theorem ap.on_path (h:ap F n) {i:Nat} (hi:i<n) {x:Int} (hx:x ∈ aI F n i):∃j,j<n/\(F j).id=x/\aB F n x=some j:=by
 obtain ⟨j,hj⟩:=ka F n n _ x _ (h.path hi) hx
 exact ⟨j,(bD hj).1,(bD hj).2,hj⟩
end
def step (F:Nat->al) (n:Nat) (but:List Int) (r:Option Int) (x:Int):Option Int:=
 if (F ((aB F n x).getD 0)).limit<0\/x ∈ but then r else
  some (match r with|none=>aF F n ((aB F n x).getD 0)+(F ((aB F n x).getD 0)).limit|some q=>if aF F n ((aB F n x).getD 0)+(F ((aB F n x).getD 0)).limit<q then aF F n ((aB F n x).getD 0)+(F ((aB F n x).getD 0)).limit else q)
def gr (F:Nat->al) (n:Nat) (but:List Int) (i:Nat):Option Int:=(aI F n i).foldl (step F n but) none
section
variable {F:Nat->al} {n:Nat} {but:List Int} {j:Nat} {x:Int}
theorem kE (hp:aB F n x=some j) (h:(F j).limit<0\/x ∈ but) (r:Option Int):step F n but r x=r:=by
 simp only[step,hp,Option.getD_some,if_pos h]
theorem nV (hp:aB F n x=some j) (h:¬((F j).limit<0\/x ∈ but)):step F n but none x=some (aF F n j+(F j).limit):=by
 simp only[step,hp,Option.getD_some,if_neg h]
theorem pF (hp:aB F n x=some j) (h:¬((F j).limit<0\/x ∈ but)) {q:Int} (hq:aF F n j+(F j).limit<q):step F n but (some q) x=some (aF F n j+(F j).limit):=by
 simp only[step,hp,Option.getD_some,if_neg h,if_pos hq]
theorem pG (hp:aB F n x=some j) (h:¬((F j).limit<0\/x ∈ but)) {q:Int} (hq:¬aF F n j+(F j).limit<q):step F n but (some q) x=some q:=by
 simp only[step,hp,Option.getD_some,if_neg h,if_neg hq]
theorem oW (F:Nat->al) (n:Nat) (but:List Int) (l:List Int) (k:Nat) (hk:k<l.length):(l.take (k+1)).foldl (step F n but) none=step F n but ((l.take k).foldl (step F n but) none) (l.getD k 0):=by
 rw[List.take_succ_eq_append_getElem hk,List.foldl_append]
 simp[List.getD,List.getElem?_eq_getElem hk]
end
theorem mU (a:Option Addr) (n c:Nat) (F:Nat->al) (but:List Int) (i B:Nat) (vb:Value) (w:World) (h:Fo w a n F) (hR:ap F n) (hi:i<n) (hb:IL w B vb but) (hbl:but.length<=1048576):
  Calls Pg 138 #[Sl a n c,Ii Jj (F i).id,vb] w fun e w'=>e=.returned (.tuple #[Ii Jj ((gr F n but i).getD 0),.bool (gr F n but i).isSome])/\Below w.heap.size w w':=by
 have H:Hid (Fo w a n F):=h
 have HR:Hid (ap F n):=hR
 have HB:Hid (IL w B vb but):=hb
 have hn:=hR.1
 clear h hR hb
 go_enter Tryz.func138,Tryz.ntmps138
 go_wp2_with fail
 refine (cP a n c F i _ H.out HR.out hi).mono ?_
 rintro e w0 ⟨v,rfl,I0,B0⟩
 have hpl:(aI F n i).length<=n:=fE HR.out hi
 have HM:Hid (∀x,x ∈ aI F n i->∃j,j<n/\(F j).id=x/\aB F n x=some j):=fun x hx=>HR.out.on_path hi hx
 have HO:Hid (gr F n but i=(aI F n i).foldl (step F n but) none):=rfl
 have HT:Hid (∀k,k<(aI F n i).length->((aI F n i).take (k+1)).foldl (step F n but) none=step F n but (((aI F n i).take k).foldl (step F n but) none) ((aI F n i).getD k 0)):=fun k hk=>oW F n but _ k hk
 obtain ⟨pa,pm,rfl,_,s⟩:=I0.shape
 have S:Hid (∀q,q<(aI F n i).length->∃g,pa=some ⟨g,0,none⟩/\g<w0.heap.size/\w0.cell? ⟨g,q,none⟩=some (Ii Jj ((aI F n i).getD q 0))):=fun q hq=>by obtain ⟨g,e,_,_,hz,hc,_⟩:=s q hq;exact ⟨g,e,hz,hc⟩
 have HG:Hid (∀q,q<(aI F n i).length->(aI F n i).getD q 0 ∈ aI F n i):=fun q hq=>lS hq
 have B0':Hid (Below w.heap.size w w0):=B0
 clear s I0 B0
 generalize aI F n i=l at*
 generalize hL:l.length=L at*
 have HTE:Hid (l.take L=l):=(by rw[←hL];exact List.take_length:l.take L=l)
 clear hL
 go_wp2
 go_loopw[10,11,12] (fun r s q wr=>∃(k:Nat) (z:Option Int),k<=L/\q=Ii Jj k/\r=Ii Jj (z.getD 0)/\s=.bool z.isSome/\Hid (z=(l.take k).foldl (step F n but) none)/\Hid (Below w0.heap.size w0 wr)) (fun _ _ q _=>L-(intOf q).toNat)
 case atStart=>exact ⟨0,none,Nat.zero_le _,rfl,rfl,rfl,(by simp:none=(l.take 0).foldl (step F n but) none),Below.refl _ _⟩
 case round=>
  obtain ⟨k,z,hk,rfl,rfl,rfl,hz,hB⟩:=hrel
  have hBw:Hid (Below w.heap.size w wr):=B0'.out.trans (hB.out.mono B0'.out.size)
  by_cases hlt:k<L
  ·obtain ⟨g,rfl,hg,cg0⟩:=S.out k hlt
   have cg:wr.cell? ⟨g,k,none⟩=some (Ii Jj (l.getD k 0)):=by rw[hB.out.cell (p:=⟨g,k,none⟩) hg];exact cg0
   obtain ⟨j,hj,hid,hp⟩:=HM.out _ (HG.out k hlt)
   have HTk:Hid ((l.take (k+1)).foldl (step F n but) none=step F n but z (l.getD k 0)):=by
    have e:=HT.out k hlt
    rw[←hz.out] at e
    exact e
   clear cg0
   generalize l.getD k 0=x at*
   have HP:Hid (aT F n x=j):=aX hp
   have HPl:Hid (aB F n x=some j):=hp
   clear hp
   obtain ⟨b,o,rfl,hb0,hA0⟩:=H.out.acc hj
   have hA:=hA0.of_cells (w':=wr) (fun q=>hBw.out.cell (p:=⟨b,q,none⟩) hb0)
   obtain ⟨c0,c1,c2,c3,c4,c5,c6,c7⟩:=hA
   obtain ⟨lb1,lb2⟩:=(HR.out.2.1 j hj).2.2.1
   obtain ⟨sb1,sb2⟩:=i9 HR.out j
   subst hid
   clear hA0
   go_wp2_with fail
   refine (bE _ n c F _ _ (H.out.below hBw.out)).mono ?_
   rintro e w1 ⟨rfl,hw1⟩
   subst hw1
   rw[HP.out]
   have BA:Hid (∀y,Below w0.heap.size w0 (w1.alloc y)):=fun y=>hB.out.alloc hB.out.size y
   by_cases hl0:(F j).limit<0
   ·have E:Hid (z=(l.take (k+1)).foldl (step F n but) none):=(by rw[HTk.out,kE HPl.out (Or.inl hl0)]:z=(l.take (k+1)).foldl (step F n but) none)
    go_wp2
    go_roundw
    case rel=>exact ⟨k+1,z,by omega,by go_num,rfl,rfl,E,BA.out _⟩
    case measure=>simp[intOf];omega
   ·have hl1:0<=(F j).limit:=by omega
    have FA:Hid (∀y,Fo (w1.alloc y) (some ⟨b,o,none⟩) n F):=fun y=>(H.out.below hBw.out).alloc y
    have IA:Hid (∀y,IL (w1.alloc y) B vb but):=fun y=>(HB.out.kept hBw.out).kept ((Below.refl _ _).alloc (Nf _) y)
    by_cases hm:(F j).id ∈ but
    ·have E:Hid (z=(l.take (k+1)).foldl (step F n but) none):=(by rw[HTk.out,kE HPl.out (Or.inr hm)]:z=(l.take (k+1)).foldl (step F n but) none)
     have HMm:Hid ((F j).id ∈ but):=hm
     clear hm hl0
     go_wp2_with fail
     refine (bz B vb but _ _ hbl (IA.out _) HMm.out).mono ?_
     rintro e w2 ⟨rfl,hw2⟩
     subst hw2
     go_wp2
     go_roundw
     case rel=>exact ⟨k+1,z,by omega,by go_num,rfl,rfl,E,BA.out _⟩
     case measure=>simp[intOf];omega
    ·have hnot:Hid (¬((F j).limit<0\/(F j).id ∈ but)):=(fun e=>e.elim hl0 hm:¬((F j).limit<0\/(F j).id ∈ but))
     have HMm:Hid ((F j).id ∉ but):=hm
     clear hm hl0
     go_wp2_with fail
     refine (cu B vb but _ _ hbl (IA.out _) HMm.out).mono ?_
     rintro e w2 ⟨rfl,hw2⟩
     have X2:Hid (dD w2 w1.heap.size (F j)):=by rw[hw2];exact dD.new w1 (F j) 53
     have F2:Hid (Fo w2 (some ⟨b,o,none⟩) n F):=by rw[hw2];exact FA.out _
     have B2:Hid (Below w0.heap.size w0 w2):=by rw[hw2];exact BA.out _
     obtain ⟨⟨x0,x1,x2,x3,x4,x5,x6,x7⟩,_,hsz⟩:=X2.out
     simp only[Nat.zero_add] at x2
     have hov:∀v q,(bW w2 v).cell? ⟨w1.heap.size,q,none⟩=w2.cell? ⟨w1.heap.size,q,none⟩:=fun v q=>(ar w2 v).cell (p:=⟨w1.heap.size,q,none⟩) hsz
     clear hw2 x1 x3 x4 x5 x6 x7 X2
     go_wp2
     refine aw (by kernel_rfl) (by kernel_rfl) ?_
     repeat (go_big_quiet_step ((first|(go_at_call 140;exact Calls.over_of (iR _ n c F j _ (F2.out.below (ar _ _)) HR.out hj)))))
     refine wpQuiet_nil ?_
     intro w3 hw'
     obtain ⟨vq,hw''⟩:=hw'
     have B3':Hid (Below w0.heap.size w0 w3):=by rw[hw''];exact B2.out.trans ((ar w2 vq).mono B2.out.size)
     clear hw''
     cases z with
     | none=>
      have E:Hid (some (aF F n j+(F j).limit)=(l.take (k+1)).foldl (step F n but) none):=(by rw[HTk.out,nV HPl.out hnot.out]:some (aF F n j+(F j).limit)=(l.take (k+1)).foldl (step F n but) none)
      simp only[Option.isSome_none,Option.getD_none]
      go_wp2
      go_roundw
      case rel=>exact ⟨k+1,some (aF F n j+(F j).limit),by omega,by go_num,by simp only[Option.getD_some],rfl,E,B3'⟩
      case measure=>simp[intOf];omega
     | some q=>
      simp only[Option.isSome_some,Option.getD_some]
      by_cases hq:aF F n j+(F j).limit<q
      ·have E:Hid (some (aF F n j+(F j).limit)=(l.take (k+1)).foldl (step F n but) none):=(by rw[HTk.out,pF HPl.out hnot.out hq]:some (aF F n j+(F j).limit)=(l.take (k+1)).foldl (step F n but) none)
       go_wp2
       go_roundw
       case rel=>exact ⟨k+1,some (aF F n j+(F j).limit),by omega,by go_num,by simp only[Option.getD_some],rfl,E,B3'⟩
       case measure=>simp[intOf];omega
      ·have E:Hid (some q=(l.take (k+1)).foldl (step F n but) none):=(by rw[HTk.out,pG HPl.out hnot.out hq]:some q=(l.take (k+1)).foldl (step F n but) none)
       go_wp2
       go_roundw
       case rel=>exact ⟨k+1,some q,by omega,by go_num,by simp only[Option.getD_some],rfl,E,B3'⟩
       case measure=>simp[intOf];omega
  ·have hkn:k=L:=by omega
   subst hkn
   have E:Hid (z=gr F n but i):=(by rw[HO.out,hz.out,HTE.out]:z=gr F n but i)
   go_wp2
   go_ret2
   rw[E.out]
   exact ⟨rfl,hBw.out⟩
open Go.RowKit
end
section
set_option maxRecDepth 8000
open Go.RowKit
def FL (L:List al):Nat->al:=fun j=>L.getD j ub
def ia (F:Nat->al) (n:Nat):List al:=(List.range n).map F
theorem dN (F:Nat->al) (n:Nat):(ia F n).length=n:=by simp[ia]
theorem eB {L:List al} {j:Nat} (h:j<L.length):FL L j=L[j]:=by simp[FL,List.getD,List.getElem?_eq_getElem h]
theorem n8 {F:Nat->al} {n j:Nat} (h:j<n):FL (ia F n) j=F j:=by
 rw[eB (by rw[dN];exact h)]
 simp[ia]
theorem cE {L:List al} {p:Nat} (x:al) (h:p<L.length):FL (L.set p x) p=x:=by
 rw[eB (by simpa using h)];simp
theorem gR {L:List al} {p j:Nat} (x:al) (h:j≠p):FL (L.set p x) j=FL L j:=by
 simp only[FL,List.getD]
 rw[List.getElem?_set_ne (by omega)]
theorem Fo.congr {w:World} {a:Option Addr} {n:Nat} {F G:Nat->al} (h:Fo w a n F) (e:∀j,j<n->F j=G j):Fo w a n G:=by
 refine ⟨h.1,?_⟩
 rcases h.2 with h0|⟨b,o,ha,hb,hall⟩
 ·exact Or.inl h0
 ·exact Or.inr ⟨b,o,ha,hb,fun i hi=>by rw[←e i hi];exact hall i hi⟩
theorem AL.len {w:World} {B:Nat} {v:Value} {L:List al} (h:AL w B v L):∃a c,v=.slice a L.length c:=by
 obtain ⟨a,c,hv,_⟩:=h.shape
 exact ⟨a,c,hv⟩
theorem AL.fo {w:World} {B:Nat} {a:Option Addr} {c m:Nat} {L:List al} (h:AL w B (.slice a m c) L) (hl:L.length<=1048576):m=L.length/\Fo w a m (FL L):=by
 obtain ⟨a',c',hv,_,hs⟩:=h.shape
 obtain ⟨rfl,rfl,rfl⟩:a=a'/\m=L.length/\c=c':=by simpa using hv
 refine ⟨rfl,hl,?_⟩
 by_cases h0:L.length=0
 ·exact Or.inl h0
 ·obtain ⟨g,ea,_,hg,_⟩:=hs 0 (by omega)
  refine Or.inr ⟨g,0,ea,hg,fun i hi=>?_⟩
  obtain ⟨g',ea',_,_,hA⟩:=hs i hi
  rw[ea] at ea'
  have:g=g':=by simpa using ea'
  subst this
  rw[eB hi]
  simpa using hA
theorem AL.mono {w:World} {B B':Nat} {v:Value} {l:List al} (h:AL w B v l) (hB:B'<=B):AL w B' v l:=
 ⟨h.1,h.2.elim Or.inl (fun ⟨g,cap,cur,hv,hg,r⟩=>Or.inr ⟨g,cap,cur,hv,Nat.le_trans hB hg,r⟩)⟩
theorem AL.empty (w:World) (B:Nat) (hB:B<=w.heap.size):AL (w.alloc (.cells #[] 53)) B (.slice (some ⟨w.heap.size,0,none⟩) 0 0) []:=World.ownsRow_lit w #[] 0 hB (Nat.zero_le _) (by simp)
theorem lQ:∀(L:List al) (p j:Nat) (u:Value) (A:al),p<L.length->j<8->(ab (FL L p)).set j u=ab A->(L.flatMap ab).set (p*8+j) u=(L.set p A).flatMap ab
 | [],p,j,u,A,hp,_,_=>by simp at hp
 | x::L,0,j,u,A,_,hj,h=>by
  have hl:(ab x).length=8:=rfl
  have h':(ab x).set j u=ab A:=h
  simp only[List.flatMap_cons,List.set_cons_zero,Nat.zero_mul,Nat.zero_add]
  rw[List.set_append_left _ _ (by rw[hl];omega),h']
 | x::L,p+1,j,u,A,hp,hj,h=>by
  have hl:(ab x).length=8:=rfl
  have ih:=lQ L p j u A (by simpa using hp) hj (by simpa [FL,List.getD] using h)
  simp only[List.flatMap_cons,List.set_cons_succ]
  rw[List.set_append_right _ _ (by rw[hl];omega),hl]
  have e:(p+1)*8+j-8=p*8+j:=by omega
  rw[e,ih]
theorem AL.stored {w:World} {B g cap:Nat} {L:List al} (h:AL w B (.slice (some ⟨g,0,none⟩) L.length cap) L) {p:Nat} (hp:p<L.length) (j:Nat) (hj:j<8) (u:Value) (A:al) (hA:(ab (FL L p)).set j u=ab A):
  AL (w.setCell ⟨g,p*8+j,none⟩ u) B (.slice (some ⟨g,0,none⟩) (L.set p A).length cap) (L.set p A):=by
 obtain ⟨h1,_⟩:=World.ownsRow.stored h (p*8+j) u
 unfold AL
 rw[←lQ L p j u A hp hj hA,List.length_set]
 exact h1
theorem AL.block {w:World} {B g cap m:Nat} {L:List al} (h:AL w B (.slice (some ⟨g,0,none⟩) m cap) L):B<=g/\g<w.heap.size:=World.ownsRow.lt h g rfl
theorem AL.frozen {w:World} {B g cap:Nat} {L:List al} (h:AL w B (.slice (some ⟨g,0,none⟩) L.length cap) L) (j:Nat):w.frozen? ⟨g,j,none⟩=false:=World.ownsRow.frozenAt h j
theorem ed {B:Nat} {w w':World} (h:Below B w w') {g:Nat} (hg:B<=g) (o:Nat) (u:Value):Below B w (w'.setCell ⟨g,o,none⟩ u):=
 ⟨h.os,h.tape,h.output,by simpa [World.setCell] using h.size,fun k hk=>by rw[Below.heap_setCell _ _ _ _ (show k≠g by omega)];exact h.block k hk⟩
set_option maxHeartbeats 1000000 in
theorem dX (a:Option Addr) (n c:Nat) (L:List al) (w:World) (hn:n=L.length) (h:Fo w a n (FL L)):
  Calls Tryz.prog 118 #[.slice a n c] w fun e w'=>∃v,e=.returned v/\AL w' w.heap.size v L/\Below w.heap.size w w':=by
 obtain ⟨i0,hi,hz0,hz1,hz2⟩:=info_parts ge
 have A0:Hid (AL (w.alloc (.cells #[] 53)) w.heap.size (.slice (some ⟨w.heap.size,0,none⟩) 0 0) []):=AL.empty w _ (Nat.le_refl _)
 have H:Hid (Fo w a n (FL L)):=h
 have hb:=h.1
 clear h
 subst hn
 cases a with
 | none=>
  have h0:L.length=0:=by
   rcases H.out.2 with h0|⟨b,o,ha,_⟩
   ·exact h0
   ·cases ha
  have hL:L=[]:=List.length_eq_zero_iff.1 h0
  subst hL
  go_enter Tryz.func118,Tryz.ntmps118
  go_wp2
  go_ret
  exact ⟨_,rfl,A0.out,(Below.refl _ _).alloc (Nat.le_refl _) _⟩
 | some p=>
  have HC:Hid (∀j u,(L.flatMap ab)[j]? =some u->(w.alloc (.cells #[] 53)).cell? (p.add j)=some u):=fun j u hj=>by
   have hjl:j<L.length*8:=by
    by_cases e:j<L.length*8
    ·exact e
    ·rw[List.getElem?_eq_none (by rw[dT];omega)] at hj;cases hj
   have hd:j=(j / 8)*8+j % 8:=by omega
   have hq:j / 8<L.length:=by omega
   obtain ⟨b,o,ea,hbz,hA⟩:=H.out.acc hq
   have ep:p=⟨b,o,none⟩:=by simpa using ea
   subst ep
   rw[hd,gF L _ _ hq (Nat.mod_lt _ (by omega))] at hj
   have e1:(⟨b,o,none⟩:Addr).add j=⟨b,o+(j / 8)*8+j % 8,none⟩:=by
    by_cases h0:j=0
    ·subst h0;simp[Addr.add]
    ·simp only[Addr.add,h0];simp;omega
   rw[e1,World.cell?_alloc_lt _ _ _ (by exact hbz)]
   rw[eB hq] at hA
   obtain ⟨c0,c1,c2,c3,c4,c5,c6,c7⟩:=hA
   have hm:j % 8<8:=Nat.mod_lt _ (by omega)
   generalize L[j / 8]=x at*
   generalize j % 8=m at*
   match m,hm with
   | 0,_=>simpa [ab] using c0.trans hj
   | 1,_=>simpa [ab] using c1.trans hj
   | 2,_=>simpa [ab] using c2.trans hj
   | 3,_=>simpa [ab] using c3.trans hj
   | 4,_=>simpa [ab] using c4.trans hj
   | 5,_=>simpa [ab] using c5.trans hj
   | 6,_=>simpa [ab] using c6.trans hj
   | 7,_=>simpa [ab] using c7.trans hj
  go_enter Tryz.func118,Tryz.ntmps118
  go_wp2_with (at_builtin;refine wpList_append_own _ rfl _ _ 24 rfl w.heap.size 53 i0 _ 8 64 Tryz.underlying24 hi hz0 hz1 hz2 rfl (by decide) _ _ _ rfl A0.out p L.length c (L.flatMap ab) rfl (dT L) HC.out ?_ ?_ ?_ ?_ ?_)
  ·intro u hu
   obtain ⟨x,_,hx⟩:=List.mem_flatMap.1 hu
   simp only[ab,List.mem_cons,List.not_mem_nil,or_false] at hx
   rcases hx with e|e|e|e|e|e|e|e <;>subst e <;>rfl
  ·unfold maxLen;simp;omega
  ·simp;omega
  ·simp
  ·intro v' w2 hown hgrow _
   have A2:Hid (AL w2 w.heap.size v' L):=by
    show AL w2 w.heap.size v' L
    unfold AL
    simpa using hown
   have B2:Hid (Below w.heap.size w w2):=((Below.refl _ _).alloc (Nat.le_refl _) _).grown hgrow (by simp) (fun q hq=>by simp[Value.ownBlock] at hq;omega)
   clear hown hgrow
   obtain ⟨a2,c2,hv2⟩:=A2.out.len
   subst hv2
   go_wp2
   go_ret
   exact ⟨_,rfl,A2.out,B2.out⟩
end
section
open Go.Shelf Go.RowKit
shelf_lay LaysM.n173 Nm 173 at Tryz as Tryz.lays173
theorem oX (n : Int) (h0 : -9223372036854775808 <= n) (h1 : n <= 9223372036854775807) (w : World) (htab : Lib.TabIs Tryz.prog w "internal/strconv.uint64pow10" .u64 Lib.pow10Tab) :
  Calls Tryz.prog 69 #[.int .i64 n,.int .i64 10] w fun e w'=>e=.returned (.string ⟨(Lib.itoa n).toArray⟩)/\∃k os,w'=Sort.grow (w.drewN k) os:=Any.strconv_FormatInt_10 Tryz.lays173 n h0 h1 w htab
end
section
set_option maxHeartbeats 1000000
open Go.RowKit
theorem qe (x:Int) (w:World):(convert 22 9 (.slice (some ⟨w.heap.size,0,none⟩) 1 1)).run Tryz.prog (w.alloc (.cells #[.int .u8 x] 5))=.ok (.string ⟨#[UInt8.ofNat x.toNat]⟩) (w.alloc (.cells #[.int .u8 x] 5)):=by
 rw[run_convert_bytes_string _ 22 9 5 _ 1 1 Tryz.underlying22 Tryz.underlying5 Tryz.underlying9,run_bytesToString _ ⟨w.heap.size,0,none⟩ 1 1 [x] (by simp[loadCells,go_sem])]
 rfl
theorem oP (a b:List UInt8):(⟨a.toArray⟩:ByteArray)++⟨b.toArray⟩=⟨(a++b).toArray⟩:=by
 apply ByteArray.ext
 simp
theorem oB (k:Nat) (t:List UInt8):Value.string ((⟨#[48+UInt8.ofNat k]⟩:ByteArray)++⟨t.toArray⟩)=.string ⟨(UInt8.ofNat (48+k)::t).toArray⟩:=by
 have e:(48:UInt8)+UInt8.ofNat k=UInt8.ofNat (48+k):=by simp[UInt8.ofNat_add]
 rw[e]
 exact congrArg Value.string (oP [UInt8.ofNat (48+k)] t)
theorem fa {u:Nat} (h:10<=u):Lib.decDigits u=Lib.decDigits (u / 10)++[UInt8.ofNat (48+u % 10)]:=by rw[Lib.decDigits,dif_neg (by omega)]
theorem cT {u:Nat} (h:u<10):Lib.decDigits u=[UInt8.ofNat (48+u)]:=by rw[Lib.decDigits,dif_pos h]
def lF (u k:Nat):Prop:=u*10 ^ k<=10000000000000000/\k<=16
theorem lF.step {u k:Nat} (h:lF u k) (hu:10<=u):lF (u / 10) (k+1):=by
 have h1:10 ^ k<=10 ^ 15:=by
  have:10*10 ^ k<=u*10 ^ k:=Nat.mul_le_mul_right _ hu
  have:=h.1
  omega
 have h2:k<=15:=(Nat.pow_le_pow_iff_right (by omega)).1 h1
 refine ⟨?_,by omega⟩
 have e:u / 10*10 ^ (k+1)=(u / 10*10)*10 ^ k:=by rw[Nat.pow_succ];rw[Nat.mul_comm (10 ^ k) 10,Nat.mul_assoc]
 rw[e]
 exact Nat.le_trans (Nat.mul_le_mul_right _ (Nat.div_mul_le_self u 10)) h.1
theorem mG (n:Nat) (w:World) (hn:n<=10000000000000000):
  Calls Tryz.prog 84 #[.int .i64 n] w fun e w'=>e=.returned (.string ⟨(Lib.decDigits n).toArray⟩)/\Below w.heap.size w w':=by
 have cv:=qe
 go_enter Tryz.func84,Tryz.ntmps84
 go_wp2
 go_loopw[0,3] (fun x s wr=>∃(u:Nat) (t:List UInt8),u<=10000000000000000/\t.length<=16/\x=.int .i64 u/\s=.string ⟨t.toArray⟩/\Hid (lF u t.length)/\Hid (Lib.decDigits n=Lib.decDigits u++t)/\Hid (Below w.heap.size w wr)) (fun x _ _=>(intOf x).toNat)
 case atStart=>exact ⟨n,[],hn,by simp,rfl,rfl,⟨by simpa using hn,by simp⟩,(by simp:Lib.decDigits n=Lib.decDigits n++[]),Below.refl _ _⟩
 case round=>
  obtain ⟨u,t,hu,ht,rfl,rfl,hI,hd,hB⟩:=hrel
  by_cases h10:10<=u
  ·have h10':(10:Int)<=(u:Int):=by omega
   have HD:Hid (Lib.decDigits n=Lib.decDigits (u / 10)++(UInt8.ofNat (48+u % 10)::t)):=(by rw[hd.out,fa h10];simp:Lib.decDigits n=Lib.decDigits (u / 10)++(UInt8.ofNat (48+u % 10)::t))
   have HI:Hid (lF (u / 10) (UInt8.ofNat (48+u % 10)::t).length):=hI.out.step h10
   go_wp2
   go_roundw
   case rel=>exact ⟨u / 10,UInt8.ofNat (48+u % 10)::t,by omega,HI.out.2,by go_num,oB _ _,HI,HD,hB.out.alloc hB.out.size _⟩
   case measure=>simp[intOf];omega
  ·have h10':(u:Int)<10:=by omega
   have HD:Hid (Lib.decDigits n=UInt8.ofNat (48+u)::t):=(by rw[hd.out,cT (by omega)];rfl:Lib.decDigits n=UInt8.ofNat (48+u)::t)
   go_wp2
   go_ret
   rw[HD.out]
   exact ⟨congrArg Ending.returned (oB u t),hB.out.alloc hB.out.size _⟩
theorem eQ (n:Nat):Lib.itoa (n:Int)=Lib.decDigits n:=by
 unfold Lib.itoa
 rw[if_neg (by omega)]
 simp
theorem eR (n:Nat) (h:0<n):Lib.itoa (-(n:Int))=45::Lib.decDigits n:=by
 unfold Lib.itoa
 rw[if_pos (by omega)]
 simp
theorem fR:∀(k n:Nat),n<10 ^ (k+1)->(Lib.decDigits n).length<=k+1
 | 0,n,h=>by rw[cT (by simpa using h)];simp
 | k+1,n,h=>by
  by_cases h10:10<=n
  ·rw[fa h10]
   have:n / 10<10 ^ (k+1):=by
    rw[Nat.div_lt_iff_lt_mul (by omega)]
    rw[Nat.pow_succ] at h
    exact h
   have:=fR k (n / 10) this
   simp
   omega
  ·rw[cT (by omega)];simp
def e8 (n:Int):Prop:= -10000000000000000<=n/\n<=10000000000000000
theorem qB {n:Int} (h:e8 n):(Lib.itoa n).length<=18:=by
 obtain ⟨h0,h1⟩:=h
 by_cases hn:0<=n
 ·obtain ⟨m,rfl⟩:=Int.eq_ofNat_of_zero_le hn
  rw[eQ]
  have:=fR 16 m (by omega)
  omega
 ·obtain ⟨m,hm⟩:=Int.eq_ofNat_of_zero_le (show 0<= -n by omega)
  obtain rfl:n= -(m:Int):=by omega
  rw[eR m (by omega)]
  have:=fR 16 m (by omega)
  simp
  omega
theorem cR (x y:ByteArray) (hx:x.size<=10000000) (hy:y.size<=10000000) (W:World):(Op.stringOp .add x y).run Tryz.prog W=.ok (.string (x++y)) W:=run_string_add_sum W x y (by omega)
theorem sB (n:Int) (w:World) (hn:e8 n):
  Calls Tryz.prog 84 #[.int .i64 n] w fun e w'=>e=.returned (.string ⟨(Lib.itoa n).toArray⟩)/\Below w.heap.size w w':=by
 obtain ⟨h0,h1⟩:=hn
 by_cases hp:0<=n
 ·obtain ⟨m,rfl⟩:=Int.eq_ofNat_of_zero_le hp
  rw[eQ]
  exact mG m w (by omega)
 ·obtain ⟨m,hm⟩:=Int.eq_ofNat_of_zero_le (show 0<= -n by omega)
  obtain rfl:n= -(m:Int):=by omega
  have hm0:0<m:=by omega
  rw[eR m hm0]
  have hneg: -(m:Int)<0:=by omega
  have hmb:(m:Int)<=10000000000000000:=by omega
  have hl:=fR 16 m (by omega)
  have C:=fun W=>mG m W (by omega)
  have hadd:=cR ⟨#[45]⟩ ⟨(Lib.decDigits m).toArray⟩ (by show (1:Nat)<=_;omega) (by show (Lib.decDigits m).toArray.size<=_;simp;omega)
  rw[show (⟨#[45]⟩:ByteArray)++⟨(Lib.decDigits m).toArray⟩=⟨(45::Lib.decDigits m).toArray⟩ from oP [45] _] at hadd
  clear hm hp h0 h1
  generalize Lib.decDigits m=l at*
  go_enter Tryz.func84,Tryz.ntmps84
  go_wp2_with fail
  refine (C _).mono ?_
  rintro e w1 ⟨rfl,B1⟩
  have HB:Hid (Below w.heap.size w w1):=B1
  clear B1 C
  go_wp2
  go_ret
  exact ⟨rfl,HB.out⟩
end
end Go.Proofs.YtjhgchlfpolkcaaGreatDoor
