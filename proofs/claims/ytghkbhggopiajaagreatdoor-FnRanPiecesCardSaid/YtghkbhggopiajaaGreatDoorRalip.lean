/- RanAll. -/
import Derived.Test.YtghkbhggopiajaaGreatDoorToBr
import Derived.Test.YtghkbhggopiajaaGreatDoorRanIr
import Derived.Test.YtghkbhggopiajaaGreatDoorSamer
import Derived.Deep.Slices
import Derived.Deep.AppendLies
import Derived.Deep.RegionHeld3
namespace Go.Proofs.YtghkbhggopiajaaGreatDoor
open Value renaming int → Ii,slice → Sl
open IntKind renaming i64 → Jj
open Nat renaming le_refl → Nf
open Go.RowKit.Below renaming refl → Bf
open Go.Proofs.Tryz renaming prog → Pg
open List renaming setIfInBounds_toArray → La,set_cons_zero → Lz,set_cons_succ → Lc
set_option linter.unusedSimpArgs false
set_option maxHeartbeats 8000000
open Go.RowKit
set_option maxRecDepth 8000
theorem IL.mono {w:World} {B B':Nat} {v:Value} {l:List Int} (h:IL w B v l) (hB:B'<=B):IL w B' v l:=by
 refine ⟨h.1,?_⟩
 rcases h.2 with h0|⟨g,cap,cur,hv,hg,r⟩
 ·exact Or.inl h0
 ·exact Or.inr ⟨g,cap,cur,hv,Nat.le_trans hB hg,r⟩
theorem AL.past {w w':World} {B:Nat} {v:Value} {l:List aj} {row:Option Nat} (h:AL w B v l) (g:w.grownBy w' row) (hne:∀q,v.ownBlock=some q->row=some q->False):AL w' B v l:=World.ownsRow.kept h g (by
 cases hb:v.ownBlock with
 | none=>exact Or.inl rfl
 | some q=>right;intro e;exact hne q hb e.symm)
theorem ah.past {w w':World} {B:Nat} {v:Value} {l:List au} {row:Option Nat} (h:ah w B v l) (g:w.grownBy w' row) (hne:∀q,v.ownBlock=some q->row=some q->False):ah w' B v l:=World.ownsRow.kept h g (by
 cases hb:v.ownBlock with
 | none=>exact Or.inl rfl
 | some q=>right;intro e;exact hne q hb e.symm)
theorem dR (B1 B2:Nat) (v1 v2:Value) (l:List Int) (w:World) (hl:l.length<=1048576) (h1:IL w B1 v1 l) (h2:IL w B2 v2 l):
  Calls Pg 35 #[v1,v2] w fun e w'=>e=.returned (.bool true)/\Below w.heap.size w w':=by
 obtain ⟨a1,m1,rfl,_,s1⟩:=h1.shape
 obtain ⟨a2,m2,rfl,_,s2⟩:=h2.shape
 have S1:Hid (∀i,i<l.length->∃g,a1=some ⟨g,0,none⟩/\w.cell? ⟨g,i,none⟩=some (Ii Jj (l.getD i 0))):=fun i hi=>by obtain ⟨g,e,_,_,_,hc,_⟩:=s1 i hi;exact ⟨g,e,hc⟩
 have S2:Hid (∀i,i<l.length->∃g,a2=some ⟨g,0,none⟩/\w.cell? ⟨g,i,none⟩=some (Ii Jj (l.getD i 0))):=fun i hi=>by obtain ⟨g,e,_,_,_,hc,_⟩:=s2 i hi;exact ⟨g,e,hc⟩
 clear s1 s2 h1 h2
 generalize hn:l.length=n at*
 go_enter Tryz.func35,Tryz.ntmps35
 go_wp2
 go_loopw[5] (fun i wr=>∃(k q:Nat),k<=n/\i=Ii Jj k/\wr=w.drewN q) (fun i _=>n-(intOf i).toNat)
 case atStart=>exact ⟨0,0,Nat.zero_le _,rfl,rfl⟩
 case round=>
  obtain ⟨k,q,hk,rfl,rfl⟩:=hrel
  by_cases hlt:k<n
  ·obtain ⟨g,rfl,c1⟩:=S1.out k hlt
   obtain ⟨g',rfl,c2⟩:=S2.out k hlt
   generalize l.getD k 0=z at c1 c2
   have hk0:(k:Int)<(n:Int):=by omega
   go_wp2
   go_quiet (fail)
   go_wp2
   go_roundw
   case rel=>exact ⟨k+1,_,by omega,by go_num,rfl⟩
   case measure=>simp[intOf];omega
  ·go_wp2
   go_ret
   exact ⟨rfl,fN (Bf _ _) _⟩
def px (w:World) (b p:Nat) (a:Bp):Prop:=
 w.cell? ⟨b,p,none⟩=some (Ii Jj a.K)/\w.cell? ⟨b,p+1,none⟩=some (Ii Jj a.x.k)/\w.cell? ⟨b,p+2,none⟩=some (Ii Jj a.x.i)/\w.cell? ⟨b,p+3,none⟩=some (Ii Jj a.x.t)/\w.cell? ⟨b,p+4,none⟩=some (Ii Jj a.x.m)/\w.cell? ⟨b,p+5,none⟩=some (Ii Jj a.x.r)/\w.cell? ⟨b,p+6,none⟩=some (Ii Jj a.o.id)/\w.cell? ⟨b,p+7,none⟩=some (Ii Jj a.o.src)/\w.cell? ⟨b,p+8,none⟩=some (Ii Jj a.o.dst)/\w.cell? ⟨b,p+9,none⟩=some (Ii Jj a.o.amount)/\w.cell? ⟨b,p+10,none⟩=some (Ii Jj a.o.first)/\w.cell? ⟨b,p+11,none⟩=some (Ii Jj a.o.every)/\w.cell? ⟨b,p+12,none⟩=some (Ii Jj a.o.times)/\w.cell? ⟨b,p+13,none⟩=some (Ii Jj a.n)
def dO (w:World) (a:Option Addr) (n:Nat) (F:Nat->Bp):Prop:=
 n<=1048576/\(n=0\/∃b o,a=some ⟨b,o,none⟩/\b<w.heap.size/\∀i,i<n->px w b (o+i*14) (F i))
theorem px.of_cells {w w':World} {b p:Nat} {a:Bp} (h:px w b p a) (hc:∀o,w'.cell? ⟨b,o,none⟩=w.cell? ⟨b,o,none⟩):px w' b p a:=by
 unfold px at h ⊢
 simp only[hc]
 exact h
theorem dO.below {w w':World} {a:Option Addr} {n:Nat} {F:Nat->Bp} (h:dO w a n F) (hb:Below w.heap.size w w'):dO w' a n F:=by
 refine ⟨h.1,?_⟩
 rcases h.2 with h0|⟨b,o,ha,hlt,hall⟩
 ·exact Or.inl h0
 ·exact Or.inr ⟨b,o,ha,Nat.lt_of_lt_of_le hlt hb.size,fun i hi=>(hall i hi).of_cells (fun q=>hb.cell (p:=⟨b,q,none⟩) hlt)⟩
theorem dO.drewN {w:World} {a:Option Addr} {n:Nat} {F:Nat->Bp} (h:dO w a n F) (m:Nat):dO (w.drewN m) a n F:=h
theorem dO.alloc {w:World} {a:Option Addr} {n:Nat} {F:Nat->Bp} (h:dO w a n F) (x:Obj):dO (w.alloc x) a n F:=h.below ((Bf _ _).alloc (Nf _) x)
theorem dO.acc {w:World} {a:Option Addr} {n:Nat} {F:Nat->Bp} (h:dO w a n F) {i:Nat} (hi:i<n):∃b o,a=some ⟨b,o,none⟩/\b<w.heap.size/\px w b (o+i*14) (F i):=by
 rcases h.2 with h0|⟨b,o,ha,hlt,hall⟩
 ·omega
 ·exact ⟨b,o,ha,hlt,hall i hi⟩
theorem tJ:(Pg.info? 51).map (fun i=>(i.zero,i.size,i.bytes))=some (some (.agg #[Ii Jj 0,Ii Jj 0,Ii Jj 0,Ii Jj 0,Ii Jj 0,Ii Jj 0,Ii Jj 0,Ii Jj 0,Ii Jj 0,Ii Jj 0,Ii Jj 0,Ii Jj 0,Ii Jj 0,Ii Jj 0]),14,112):=by kernel_rfl
def sa (a:Bp):List Value:=[Ii Jj a.K,Ii Jj a.x.k,Ii Jj a.x.i,Ii Jj a.x.t,Ii Jj a.x.m,Ii Jj a.x.r,Ii Jj a.o.id,Ii Jj a.o.src,Ii Jj a.o.dst,Ii Jj a.o.amount,Ii Jj a.o.first,Ii Jj a.o.every,Ii Jj a.o.times,Ii Jj a.n]
theorem sb {w:World} {B1 B2 e1 e2 s1 s2 n1 n2:Nat} {v1 v2:Value} {x1 x2:List Value} (h1:w.ownsRow B1 e1 s1 v1 n1 x1) (h2:w.ownsRow B2 e2 s2 v2 n2 x2) (he:e1≠e2):v1.ownBlock=none\/v1.ownBlock≠v2.ownBlock:=by
 rcases h1.2 with ⟨hv,_⟩|⟨g,cap,cur,hv,_,hb,_⟩
 ·left;rw[hv];rfl
 ·right
  rcases h2.2 with ⟨hv2,_⟩|⟨g2,cap2,cur2,hv2,_,hb2,_⟩
  ·rw[hv,hv2];simp[Value.ownBlock]
  ·rw[hv,hv2]
   intro e
   have:g=g2:=by simpa [Value.ownBlock] using e
   subst this
   rw[hb] at hb2
   simp at hb2
   exact he hb2.2
def eu (L:List Bp):Nat->Bp:=fun j=>L.getD j ⟨0,⟨0,0,0,0,0⟩,⟨0,0,0,0,0,0,0⟩,0⟩
theorem iw {L:List Bp} {j:Nat} (h:j<L.length):eu L j=L[j]:=by simp[eu,List.getD,List.getElem?_eq_getElem h]
structure RA where
 c:List Int
 L:List aj
 O:List au
 k:Bk
noncomputable def el (s:RA) (a:Bp):RA:=⟨s.c++[(aY s.L s.O s.k a.K a.x a.o a.n).code],(aY s.L s.O s.k a.K a.x a.o a.n).L,(aY s.L s.O s.k a.K a.x a.o a.n).O,(aY s.L s.O s.k a.K a.x a.o a.n).k⟩
noncomputable def bx (s:RA) (l:List Bp):RA:=l.foldl el s
theorem kV (s:RA) (l:List Bp) (k:Nat) (hk:k<l.length):bx s (l.take (k+1))=el (bx s (l.take k)) (eu l k):=by
 unfold bx
 rw[List.take_succ_eq_append_getElem hk,List.foldl_append,iw hk]
 rfl
def RA.ok (s:RA):Prop:=aq (FL s.L) s.L.length (ae s.O) s.O.length s.k
theorem hJ:∀(l:List Bp) (s:RA),s.ok->(bx s l).ok
 | [],_,h=>h
 | a::l,s,h=>hJ l (el s a) (by
  have e:aY s.L s.O s.k a.K a.x a.o a.n=dk s.L s.O s.k a.K a.x a.o a.n:=if_pos h
  have:=iq a.K a.n a.x a.o h
  unfold RA.ok el
  rw[e]
  exact this)
theorem fa:∀(l:List Bp) (s:RA),(bx s l).c.length=s.c.length+l.length
 | [],_=>rfl
 | o::l,s=>by
  have:=fa l (el s o)
  show (bx (el s o) l).c.length=_
  rw[this]
  simp[el];omega
open Classical in
noncomputable def gh (L:List aj) (O:List au) (k:Bk) (l:List Bp):RA:=if aq (FL L) L.length (ae O) O.length k/\l.length<=100 then bx ⟨[],L,O,k⟩ l else ⟨[],[],[],⟨0,0,0,0,0⟩⟩
def ec (g o:Nat) (l:List Value) (V:World):Prop:=g<V.heap.size/\∀j x,l[j]? =some x->V.cell? ⟨g,o+j,none⟩=some x
theorem ec.alloc {g o:Nat} {l:List Value} {V:World} (h:ec g o l V) (x:Obj):ec g o l (V.alloc x):=⟨by have:=h.1;simp;omega,fun j y hj=>(World.cell?_alloc_lt _ _ _ h.1).trans (h.2 j y hj)⟩
theorem ec.below {g o:Nat} {l:List Value} {V W:World} (h:ec g o l V) (hb:Below V.heap.size V W):ec g o l W:=⟨Nat.lt_of_lt_of_le h.1 hb.size,fun j x hj=>(hb.cell (p:=⟨g,o+j,none⟩) h.1).trans (h.2 j x hj)⟩
theorem ec.grown {g o:Nat} {l:List Value} {V W:World} {q:Option Nat} (h:ec g o l V) (hg:V.grownBy W q) (hq:q≠some g):ec g o l W:=⟨Nat.lt_of_lt_of_le h.1 hg.size,fun j x hj=>(World.cell?_of_block (w:=V) (hg.block g h.1 (fun e=>hq e.symm))).trans (h.2 j x hj)⟩
theorem ec.set {g o:Nat} {l:List Value} {V:World} (h:ec g o l V) {Q:Nat} (hne:Q≠g) (q:Nat) (u:Value):ec g o l (V.setCell ⟨Q,q,none⟩ u):=⟨by simpa [World.setCell] using h.1,fun j x hj=>(World.cell?_setCell_other _ _ _ _ (by intro e;exact hne (congrArg Addr.block e))).trans (h.2 j x hj)⟩
def dI (W:World) (R:Nat) (k:Bk) (v u:Value):World:=((((((W.setCell ⟨R,0,none⟩ (Ii Jj k.day)).setCell ⟨R,1,none⟩ (v)).setCell ⟨R,2,none⟩ (u)).setCell ⟨R,3,none⟩ (Ii Jj k.inn)).setCell ⟨R,4,none⟩ (Ii Jj k.out)).setCell ⟨R,5,none⟩ (Ii Jj k.posted)).setCell ⟨R,6,none⟩ (Ii Jj k.missed)
theorem dP (W:World) (R:Nat) (k:Bk) (v u:Value):W.grownBy (dI W R k v u) (some R):=by
 unfold dI
 exact cu (cu (cu (cu (cu (cu (cl _ _ _ _) (cl _ _ _ _)) (cl _ _ _ _)) (cl _ _ _ _)) (cl _ _ _ _)) (cl _ _ _ _)) (cl _ _ _ _)
theorem gb {w w':World} {B1 B2 e1 e2 s1 s2 n1 n2:Nat} {v1 v2:Value} {x1 x2:List Value} (h1:w.ownsRow B1 e1 s1 v1 n1 x1) (h2:w.ownsRow B2 e2 s2 v2 n2 x2) (he:e1≠e2) (hg:w.grownBy w' v2.ownBlock):w'.ownsRow B1 e1 s1 v1 n1 x1:=World.ownsRow.kept h1 hg (sb h1 h2 he)
theorem aO {w w':World} {B1 e1 s1 n1 R:Nat} {v1:Value} {x1:List Value} (h1:w.ownsRow B1 e1 s1 v1 n1 x1) (hg:w.grownBy w' (some R)) (hR:∀q,v1.ownBlock=some q->q≠R):w'.ownsRow B1 e1 s1 v1 n1 x1:=World.ownsRow.kept h1 hg (Or.inr (fun e=>hR R e rfl))
def m9 (B R Z:Nat) (v u:Value) (L:List aj) (O:List au) (W:World):Prop:=AL W B v L/\ah W B u O/\(∀q,v.ownBlock=some q->q≠R/\q≠Z)/\(∀q,u.ownBlock=some q->q≠R/\q≠Z)
theorem m9.below {B R Z:Nat} {v u:Value} {L:List aj} {O:List au} {W W':World} (h:m9 B R Z v u L O W) (hb:Below W.heap.size W W'):m9 B R Z v u L O W':=⟨h.1.kept hb,h.2.1.kept hb,h.2.2⟩
theorem m9.grown {B R Z D:Nat} {v u c:Value} {L:List aj} {O:List au} {C:List Int} {W W':World} (h:m9 B R Z v u L O W) (hi:IL W D c C) (hg:W.grownBy W' c.ownBlock):m9 B R Z v u L O W':=⟨gb h.1 hi (by decide) hg,gb h.2.1 hi (by decide) hg,h.2.2⟩
def gc (B D R Z:Nat) (v u:Value) (k:Bk) (L:List aj) (O:List au) (c:Value) (C:List Int) (W:World):Prop:=ak W R (Ii Jj k.day) v u (Ii Jj k.inn) (Ii Jj k.out) (Ii Jj k.posted) (Ii Jj k.missed)/\ak W Z (Ii Jj 0) (Sl none 0 0) (Sl none 0 0) (Ii Jj 0) (Ii Jj 0) (Ii Jj 0) (Ii Jj 0)/\m9 B R Z v u L O W/\IL W D c C
theorem gc.below {B D R Z:Nat} {v u c:Value} {k:Bk} {L:List aj} {O:List au} {C:List Int} {W W':World} (h:gc B D R Z v u k L O c C W) (hb:Below W.heap.size W W'):gc B D R Z v u k L O c C W':=⟨h.1.kept hb h.1.2.2,h.2.1.kept hb h.2.1.2.2,h.2.2.1.below hb,h.2.2.2.kept hb⟩
theorem gc.app {B D R Z:Nat} {v u c c':Value} {k:Bk} {L:List aj} {O:List au} {C:List Int} {cd:Int} {W W':World} (h:gc B D R Z v u k L O c C W) (hR:R<D) (hZ:Z<D) (hown:W'.ownsRow D 2 1 c' (C.length+1) (C.map (Value.int .i64)++[Ii Jj cd])) (hg:W.grownBy W' c.ownBlock):gc B D R Z v u k L O c' (C++[cd]) W':=by
 have lt:=World.ownsRow.lt h.2.2.2
 exact ⟨h.1.same (hg.block R h.1.2.2 (fun e=>by have:=(lt R e.symm).1;omega)),h.2.1.same (hg.block Z h.2.1.2.2 (fun e=>by have:=(lt Z e.symm).1;omega)),h.2.2.1.grown h.2.2.2 hg,by unfold IL;simpa using hown⟩
theorem gc.turn {B D R Z:Nat} {v u c v' u':Value} {k k':Bk} {L L':List aj} {O O':List au} {C:List Int} {W:World} (h:gc B D R Z v u k L O c C W) (hn:m9 B R Z v' u' L' O' W) (hR:R<D) (hne:R≠Z):gc B D R Z v' u' k' L' O' c C (dI W R k' v' u'):=by
 have g:=dP W R k' v' u'
 refine ⟨?_,h.2.1.same (g.block Z h.2.1.2.2 (fun e=>hne (Option.some.inj e).symm)),⟨aO hn.1 g (fun q hq=>(hn.2.2.1 q hq).1),aO hn.2.1 g (fun q hq=>(hn.2.2.2 q hq).1),hn.2.2⟩,aO h.2.2.2 g (fun q hq=>by have:=(World.ownsRow.lt h.2.2.2 q hq).1;omega)⟩
 exact (((((((h.1.set0 _).set1 _).set2 _).set3 _).set4 _).set5 _).set6 _)
theorem ah.room {w:World} {B m d:Nat} {b:Option Addr} {O:List au} (h:ah w B (Sl b m d) O):O.length<=d/\((b=none/\d=0)\/∃pb po,b=some ⟨pb,po,none⟩):=by
 rcases h.2 with ⟨e,e2⟩|⟨g,cap,cur,e,_,_,h1,_⟩
 ·obtain ⟨rfl,_,rfl⟩:b=none/\m=0/\d=0:=by simpa using e
  exact ⟨by omega,Or.inl ⟨rfl,rfl⟩⟩
 ·obtain ⟨rfl,_,rfl⟩:b=some ⟨g,0,none⟩/\m=O.length/\d=cap:=by simpa using e
  exact ⟨h1,Or.inr ⟨g,0,rfl⟩⟩
theorem sd (B:Nat) (a b:Option Addr) (c d:Nat) (L:List aj) (O:List au) (k:Bk) (oa:Option Addr) (oc:Nat) (l:List Bp) (p:Nat->Addr) (w:World) (hA:AL w B (Sl a L.length c) L) (hQ:ah w B (Sl b O.length d) O) (hBw:B<=w.heap.size) (hb:aq (FL L) L.length (ae O) O.length k) (ho:dO w oa l.length (eu l)) (hG:GE w p):
  Calls Pg 89 #[.agg #[Ii Jj k.day,Sl a L.length c,Sl b O.length d,Ii Jj k.inn,Ii Jj k.out,Ii Jj k.posted,Ii Jj k.missed],Sl oa l.length oc,.func (.func 29) #[] #[]] w fun e w'=>∃v' u' c',e=.returned (.tuple #[.agg #[Ii Jj (bx ⟨[],L,O,k⟩ l).k.day,v',u',Ii Jj (bx ⟨[],L,O,k⟩ l).k.inn,Ii Jj (bx ⟨[],L,O,k⟩ l).k.out,Ii Jj (bx ⟨[],L,O,k⟩ l).k.posted,Ii Jj (bx ⟨[],L,O,k⟩ l).k.missed],c'])/\AL w' B v' (bx ⟨[],L,O,k⟩ l).L/\ah w' B u' (bx ⟨[],L,O,k⟩ l).O/\IL w' w.heap.size c' (bx ⟨[],L,O,k⟩ l).c/\Below w.heap.size w w':=by
 obtain ⟨h,hh⟩:∃h,w.heap.size=h:=⟨_,rfl⟩
 have HH:=aa hh
 have HO:=aa ho
 have HB:Hid (∀j,(bx ⟨[],L,O,k⟩ (l.take j)).ok):=fun j=>hJ _ _ hb
 have HT:Hid (∀j,j<l.length->bx ⟨[],L,O,k⟩ (l.take (j+1))=el (bx ⟨[],L,O,k⟩ (l.take j)) (eu l j)):=fun j hj=>kV _ l j hj
 have HLN:Hid (∀j,j<=l.length->(bx ⟨[],L,O,k⟩ (l.take j)).c.length=j):=fun j hj=>by rw[fa];simp;omega
 have HE:Hid (l.take l.length=l):=List.take_length
 have HZ:Hid (bx ⟨[],L,O,k⟩ (l.take 0)=⟨[],L,O,k⟩):=rfl
 have hn:=ho.1
 obtain ⟨i0,hi,hz0,hz1,hz2⟩:=info_parts kx
 have HG:=aa hG
 have HBW:Hid (B<=h):=by rw[←hh];exact hBw
 obtain ⟨W0,hW0,X0⟩:∃W0,W0=(w.alloc (.cells #[Ii Jj k.day,Sl a L.length c,Sl b O.length d,Ii Jj k.inn,Ii Jj k.out,Ii Jj k.posted,Ii Jj k.missed] 38)).alloc (.cells #[Ii Jj 0,Sl none 0 0,Sl none 0 0,Ii Jj 0,Ii Jj 0,Ii Jj 0,Ii Jj 0] 38)/\Hid (gc B (h+1+1) h (h+1) (Sl a L.length c) (Sl b O.length d) k L O (Sl none 0 0) [] W0/\Below h w W0/\h+1+1<=W0.heap.size):=by
  have b1:∀(V:World) (o:Obj),Below V.heap.size V (V.alloc o):=fun V o=>(Bf _ _).alloc (Nf _) _
  have v0:=(ak.new w (Ii Jj k.day) (Sl a L.length c) (Sl b O.length d) (Ii Jj k.inn) (Ii Jj k.out) (Ii Jj k.posted) (Ii Jj k.missed) 38).kept (b1 _ (.cells #[Ii Jj 0,Sl none 0 0,Sl none 0 0,Ii Jj 0,Ii Jj 0,Ii Jj 0,Ii Jj 0] 38)) (by simp)
  have v1:=ak.new (w.alloc (.cells #[Ii Jj k.day,Sl a L.length c,Sl b O.length d,Ii Jj k.inn,Ii Jj k.out,Ii Jj k.posted,Ii Jj k.missed] 38)) (Ii Jj 0) (Sl none 0 0) (Sl none 0 0) (Ii Jj 0) (Ii Jj 0) (Ii Jj 0) (Ii Jj 0) 38
  simp only[World.size_alloc] at v1
  rw[hh] at v0 v1
  have bb:Below w.heap.size w ((w.alloc (.cells #[Ii Jj k.day,Sl a L.length c,Sl b O.length d,Ii Jj k.inn,Ii Jj k.out,Ii Jj k.posted,Ii Jj k.missed] 38)).alloc (.cells #[Ii Jj 0,Sl none 0 0,Sl none 0 0,Ii Jj 0,Ii Jj 0,Ii Jj 0,Ii Jj 0] 38)):=((Bf _ _).alloc (Nf _) _).alloc (by simp) _
  exact ⟨_,rfl,⟨v0,v1,⟨hA.kept bb,hQ.kept bb,fun q hq=>by have:=(World.ownsRow.lt hA q hq).2;omega,fun q hq=>by have:=(World.ownsRow.lt hQ q hq).2;omega⟩,IL.nil _ _⟩,by rw[←hh];exact bb,by simp;omega⟩
 have HW0:=aa hW0
 clear ho hG hA hQ hb hBw hW0
 obtain ⟨m1,hm1⟩:∃m,L.length=m:=⟨_,rfl⟩
 obtain ⟨m2,hm2⟩:∃m,O.length=m:=⟨_,rfl⟩
 generalize hnn:l.length=nl at*
 clear hnn
 have X0':Hid (gc B (h+1+1) h (h+1) (Sl a m1 c) (Sl b m2 d) k L O (Sl none 0 0) [] W0/\Below h w W0/\h+1+1<=W0.heap.size):=by rw[←hm1,←hm2];exact X0.out
 rw[hm1,hm2] at HW0
 rw[hm1,hm2]
 clear X0 hm1 hm2
 generalize bx ⟨[],L,O,k⟩=f at*
 go_enter Tryz.func89,Tryz.ntmps89
 go_upto_region 1 with fail
 rw[←HW0.out]
 clear HW0 hh
 go_wp2
 go_loopw[8,15] (fun cv q wr=>∃(j:Nat) (v u:Value),j<=nl/\q=Ii Jj j/\Hid (gc B (h+1+1) h (h+1) v u (f (l.take j)).k (f (l.take j)).L (f (l.take j)).O cv (f (l.take j)).c wr/\Below h w wr/\h+1+1<=wr.heap.size)) (fun _ q _=>nl-(intOf q).toNat)
 case atStart=>exact ⟨0,_,_,Nat.zero_le _,rfl,by rw[HZ.out];exact X0'⟩
 case round=>
  obtain ⟨j,v,u,hj,rfl,X1⟩:=hrel
  clear X0'
  have BL:Hid (Below h w wr):=X1.out.2.1
  by_cases hlt:j<nl
  ·skip
   obtain ⟨b0,o0,rfl,hb0,hA0⟩:=HO.out.acc hlt
   have hT:=HT.out j hlt
   have hBk:=HB.out j
   have hLk:=HLN.out j hj
   cases hx:eu l j with
   | mk K x o n=>
   rw[hx] at hA0 hT
   obtain ⟨dd0,dd1,dd2,dd3,dd4,dd5,dd6,dd7,dd8,dd9,dd10,dd11,dd12,dd13⟩:=hA0.of_cells (w':=wr) (fun q=>BL.out.cell (p:=⟨b0,q,none⟩) (by first|exact hb0|(rw[←HH.out];exact hb0)))
   clear hA0 hx
   obtain ⟨s,hs⟩:∃s,s=f (l.take j):=⟨_,rfl⟩
   rw[←hs] at X1 hT hBk hLk
   obtain ⟨C,M,P,kk⟩:=s
   have hml:M.length<=12:=hBk.2.1.1
   have hpl:P.length<=8:=hBk.2.2.1.1
   obtain ⟨D,hD⟩:∃D,D=aY M P kk K x o n:=⟨_,rfl⟩
   have HT1:Hid (f (l.take (j+1))=⟨C++[D.code],D.L,D.O,D.k⟩):=by
    show f (l.take (j+1))=_
    rw[hT,hD]
    rfl
   have DI:Hid (∀X a' b' c' d',Fo X a' M.length (FL M)->aG X b' P.length (ae P)->GE X p->Calls Pg 29 #[.agg #[Ii Jj kk.day,Sl a' M.length c',Sl b' P.length d',Ii Jj kk.inn,Ii Jj kk.out,Ii Jj kk.posted,Ii Jj kk.missed],.agg #[Ii Jj K,Ii Jj x.k,Ii Jj x.i,Ii Jj x.t,Ii Jj x.m,Ii Jj x.r,Ii Jj o.id,Ii Jj o.src,Ii Jj o.dst,Ii Jj o.amount,Ii Jj o.first,Ii Jj o.every,Ii Jj o.times,Ii Jj n]] X fun e w'=>ch D X e w'):=fun X a' b' c' d' h1 h2 h3=>by rw[hD];exact sJ a' b' c' d' M P kk K n x o p X h1 h2 h3
   obtain ⟨cd,G,Q,kd⟩:=D
   clear hT hD hs hBk
   dsimp only at X1 hLk HT1 DI
   obtain ⟨a1,c1,hv⟩:=X1.out.1.2.2.1.1.len
   subst hv
   obtain ⟨b1,d1,hv⟩:=X1.out.1.2.2.1.2.1.len
   subst hv
   obtain ⟨ac,mc,hv,_⟩:=X1.out.1.2.2.2.shape
   subst hv
   rw[hLk] at X1 ⊢
   have HLK:=aa hLk
   clear hLk
   obtain ⟨W,hW⟩:∃W,W=wr.alloc (.cells #[Ii Jj K,Ii Jj x.k,Ii Jj x.i,Ii Jj x.t,Ii Jj x.m,Ii Jj x.r,Ii Jj o.id,Ii Jj o.src,Ii Jj o.dst,Ii Jj o.amount,Ii Jj o.first,Ii Jj o.every,Ii Jj o.times,Ii Jj n] 51):=⟨_,rfl⟩
   have XW:Hid (gc B (h+1+1) h (h+1) (Sl a1 M.length c1) (Sl b1 P.length d1) kk M P (Sl ac j mc) C W/\Below h w W/\h+1+1<=W.heap.size):=by
    have hb:Below wr.heap.size wr W:=by rw[hW];exact (Bf _ _).alloc (Nf _) _
    exact ⟨X1.out.1.below hb,X1.out.2.1.trans (hb.mono (by have:=X1.out.2.2;omega)),Nat.le_trans X1.out.2.2 hb.size⟩
   have OW:Hid (fk W wr.heap.size K x o n):=by rw[hW];exact fk.new wr K x o n 51
   have FW:Hid (Fo W a1 M.length (FL M)/\aG W b1 P.length (ae P)/\GE W p):=⟨(XW.out.1.2.2.1.1.fo (by omega)).2,(XW.out.1.2.2.1.2.1.list (by omega)).2,HG.out.below (by rw[HH.out];exact XW.out.2.1)⟩
   have HW:=aa hW
   obtain ⟨rw0,hrw⟩:∃r,wr.heap.size=r:=⟨_,rfl⟩
   rw[hrw] at OW
   clear hW X1
   go_upto_region 5 with fail
   rw[←HW.out]
   try rw[hrw]
   clear HW BL dd0 dd1 dd2 dd3 dd4 dd5 dd6 dd7 dd8 dd9 dd10 dd11 dd12 dd13
   obtain ⟨m1',hm1⟩:∃m,M.length=m:=⟨_,rfl⟩
   obtain ⟨m2',hm2⟩:∃m,P.length=m:=⟨_,rfl⟩
   rw[hm1,hm2] at XW FW DI
   try rw[hm1,hm2]
   clear hm1 hm2 hml hpl
   obtain ⟨⟨dd0,dd1,dd2,dd3,dd4,dd5,dd6,dd7,dd8,dd9,dd10,dd11,dd12,dd13⟩,dz⟩:=OW.out
   obtain ⟨⟨s0,s1,s2,s3,s4,s5,s6⟩,sf,sz⟩:=XW.out.1.1
   go_wp2_with fail
   refine (DI.out W a1 b1 c1 d1 FW.out.1 FW.out.2.1 FW.out.2.2).mono ?_
   rintro e w5 ⟨v5,u5,rfl,A5,Q5,B5⟩
   clear dd0 dd1 dd2 dd3 dd4 dd5 dd6 dd7 dd8 dd9 dd10 dd11 dd12 dd13 dz DI FW OW hrw
   clear s0 s1 s2 s3 s4 s5 s6 sf sz
   obtain ⟨a5,c5,hv⟩:=A5.len
   subst hv
   obtain ⟨b5,d5,hv⟩:=Q5.len
   subst hv
   obtain ⟨g1,hg1⟩:∃m,G.length=m:=⟨_,rfl⟩
   obtain ⟨g2,hg2⟩:∃m,Q.length=m:=⟨_,rfl⟩
   obtain ⟨V,hV⟩:∃V,V=w5.alloc (.cells #[Ii Jj kd.day,Sl a5 G.length c5,Sl b5 Q.length d5,Ii Jj kd.inn,Ii Jj kd.out,Ii Jj kd.posted,Ii Jj kd.missed] 38):=⟨_,rfl⟩
   have XV:Hid (gc B (h+1+1) h (h+1) (Sl a1 m1' c1) (Sl b1 m2' d1) kk M P (Sl ac j mc) C V/\Below h w V/\h+1+1<=V.heap.size/\m9 B h (h+1) (Sl a5 G.length c5) (Sl b5 Q.length d5) G Q V/\ec w5.heap.size 0 [Ii Jj kd.day,Sl a5 G.length c5,Sl b5 Q.length d5,Ii Jj kd.inn,Ii Jj kd.out,Ii Jj kd.posted,Ii Jj kd.missed] V/\h+1+1<=w5.heap.size/\(∀q,(Value.slice ac j mc).ownBlock=some q->h+1+1<=q/\q≠w5.heap.size)):=by
    have hb:Below w5.heap.size w5 V:=by rw[hV];exact (Bf _ _).alloc (Nf _) _
    have hs5:h+1+1<=w5.heap.size:=Nat.le_trans XW.out.2.2 B5.size
    have x5:=XW.out.1.below B5
    have nb:ak V w5.heap.size (Ii Jj kd.day) (Sl a5 G.length c5) (Sl b5 Q.length d5) (Ii Jj kd.inn) (Ii Jj kd.out) (Ii Jj kd.posted) (Ii Jj kd.missed):=by rw[hV];exact ak.new w5 _ _ _ _ _ _ _ 38
    have hBW:B<=W.heap.size:=by have:=HBW.out;have:=XW.out.2.2;omega
    refine ⟨x5.below hb,(XW.out.2.1.trans (B5.mono (by have:=XW.out.2.2;omega))).trans (hb.mono (by omega)),Nat.le_trans hs5 hb.size,⟨(A5.kept hb).mono hBW,(Q5.kept hb).mono hBW,fun q hq=>by have:=(World.ownsRow.lt A5 q hq).1;have:=XW.out.2.2;omega,fun q hq=>by have:=(World.ownsRow.lt Q5 q hq).1;have:=XW.out.2.2;omega⟩,⟨nb.2.2,fun i y hi=>?_⟩,hs5,fun q hq=>by have:=World.ownsRow.lt x5.2.2.2 q hq;omega⟩
    match i,hi with
    | 0,hi=>simp at hi;subst hi;simpa using nb.1.1
    | 1,hi=>simp at hi;subst hi;simpa using nb.1.2.1
    | 2,hi=>simp at hi;subst hi;simpa using nb.1.2.2.1
    | 3,hi=>simp at hi;subst hi;simpa using nb.1.2.2.2.1
    | 4,hi=>simp at hi;subst hi;simpa using nb.1.2.2.2.2.1
    | 5,hi=>simp at hi;subst hi;simpa using nb.1.2.2.2.2.2.1
    | 6,hi=>simp at hi;subst hi;simpa using nb.1.2.2.2.2.2.2
   have HV:=aa hV
   clear hV XW A5 Q5 B5
   rw[hg1,hg2] at XV HV
   try rw[hg1,hg2]
   have hll:j<=1048576:=by omega
   obtain ⟨r5,hr5⟩:∃r,w5.heap.size=r:=⟨_,rfl⟩
   rw[hr5] at XV
   go_upto_region 6 with fail
   rw[←HV.out]
   try rw[hr5]
   clear HV hr5 hg1 hg2
   have XD:Hid (gc B (h+1+1) h (h+1) (Sl a1 m1' c1) (Sl b1 m2' d1) kk M P (Sl ac j mc) C V.drew/\Below h w V.drew/\h+1+1<=V.drew.heap.size/\m9 B h (h+1) (Sl a5 g1 c5) (Sl b5 g2 d5) G Q V.drew):=⟨XV.out.1,XV.out.2.1.drew,XV.out.2.2.1,XV.out.2.2.2.1⟩
   have hbv:Hid (h+1+1<=r5/\∀q,(Value.slice ac j mc).ownBlock=some q->h+1+1<=q/\q≠r5):=XV.out.2.2.2.2.2
   refine wp_region_held_drew (S:=ec r5 0 [Ii Jj kd.day,Sl a5 g1 c5,Sl b5 g2 d5,Ii Jj kd.inn,Ii Jj kd.out,Ii Jj kd.posted,Ii Jj kd.missed]) (by kernel_rfl) XV.out.2.2.2.2.1 (fun hHeld=>?_)
   clear XV
   generalize V.drew=V3 at hHeld XD ⊢
   refine wpAnyH_take (i:=0) (v:=?_) rfl (by kernel_rfl) (by kernel_rfl) (by kernel_rfl) (fun _ _ _ h=>h) (Or.inl ⟨by rfl,?_⟩) hHeld ?_
   rotate_left
   ·intro wq hSw
    have y0:=hSw.2 0 _ rfl
    have y1:=hSw.2 1 _ rfl
    have y2:=hSw.2 2 _ rfl
    have y3:=hSw.2 3 _ rfl
    have y4:=hSw.2 4 _ rfl
    have y5:=hSw.2 5 _ rfl
    have y6:=hSw.2 6 _ rfl
    simp only[Nat.zero_add] at y0 y1 y2 y3 y4 y5 y6
    go_simp
    all_goals (with_reducible rfl)
   (try simp only[Act.put,La,Lz,Lc])
   refine wpAnyH_take (i:=1) (v:=?_) rfl (by kernel_rfl) (by kernel_rfl) (by kernel_rfl) (fun _ _ _ h=>h) (Or.inl ⟨by rfl,?_⟩) hHeld ?_
   rotate_left
   ·intro wq hSw
    go_simp
    all_goals (with_reducible rfl)
   (try simp only[Act.put,La,Lz,Lc])
   refine wpAnyH_take (i:=2) (v:=?_) rfl (by kernel_rfl) (by kernel_rfl) (by kernel_rfl) (fun _ _ _ h=>h) (Or.inl ⟨by rfl,?_⟩) hHeld ?_
   rotate_left
   ·intro wq hSw
    go_simp
    all_goals (with_reducible rfl)
   (try simp only[Act.put,La,Lz,Lc])
   refine wpAnyH_ready (rs:=[3]) (by kernel_rfl) (by simp) ?_
   refine AllReadyH.cons rfl (fun K' hK=>?_) AllReadyH.nil
   go_simp
   obtain ⟨V4,hV4,X4⟩:∃V,V=V3.alloc (.cells #[Ii Jj cd] 2)/\Hid (gc B (h+1+1) h (h+1) (Sl a1 m1' c1) (Sl b1 m2' d1) kk M P (Sl ac j mc) C V/\Below h w V/\h+1+1<=V.heap.size/\m9 B h (h+1) (Sl a5 g1 c5) (Sl b5 g2 d5) G Q V/\dZ V V3.heap.size [Ii Jj cd]):=by
    have hb:Below V3.heap.size V3 (V3.alloc (.cells #[Ii Jj cd] 2)):=(Bf _ _).alloc (Nf _) _
    exact ⟨_,rfl,XD.out.1.below hb,XD.out.2.1.trans (hb.mono (by have:=XD.out.2.2.1;omega)),Nat.le_trans XD.out.2.2.1 hb.size,XD.out.2.2.2.below hb,dZ.new V3 [Ii Jj cd] 2⟩
   have HV4:=aa hV4
   clear hV4
   refine hK.out _ _ (hHeld.alloc _) (fun hHeld=>?_)
   rw[←HV4.out] at hHeld
   rw[←HV4.out]
   clear hK XD HV4
   obtain ⟨r4,hr4⟩:∃r,V3.heap.size=r:=⟨_,rfl⟩
   try rw[hr4]
   rw[hr4] at X4
   clear hr4
   (try simp only[Act.put,La,Lz,Lc])
   refine wpAnyH_ready (rs:=[4]) (by kernel_rfl) (by simp) ?_
   refine AllReadyH.cons rfl (fun K' hK=>?_) AllReadyH.nil
   refine aT _ (by rfl) _ _ 31 (by rfl) (h+1+1) 2 i0 (Ii Jj 0) 1 8 Tryz.underlying31 hi hz0 hz1 hz2 rfl (by decide) _ _ _ (by rfl) (by have:=X4.out.1.2.2.2;unfold IL at this;exact this) ⟨r4,0,none⟩ 1 1 [Ii Jj cd] (by rfl) rfl (fun i y hi=>by
    match i,hi with
    | 0,hi=>simp at hi;subst hi;simpa [Addr.add] using X4.out.2.2.2.2.1 0 _ rfl) (fun y hy=>by simp at hy;subst hy;rfl) (by rw[HLK.out];unfold maxLen;omega) (by rw[HLK.out];omega) X4.out.2.2.1 ?_
   intro c6 w6 hown hgrow
   have X6:Hid (gc B (h+1+1) h (h+1) (Sl a1 m1' c1) (Sl b1 m2' d1) kk M P c6 (C++[cd]) w6/\Below h w w6/\h+1+1<=w6.heap.size/\m9 B h (h+1) (Sl a5 g1 c5) (Sl b5 g2 d5) G Q w6):=⟨X4.out.1.app (by omega) (by omega) hown hgrow,X4.out.2.1.grown hgrow (by have:=X4.out.2.2.1;omega) (fun q hq=>by have:=(hbv.out.2 q hq).1;omega),Nat.le_trans X4.out.2.2.1 hgrow.size,X4.out.2.2.2.1.grown X4.out.1.2.2.2 hgrow⟩
   have N6:ec r5 0 [Ii Jj kd.day,Sl a5 g1 c5,Sl b5 g2 d5,Ii Jj kd.inn,Ii Jj kd.out,Ii Jj kd.posted,Ii Jj kd.missed] w6:=hHeld.grown hgrow (fun e=>(hbv.out.2 r5 e).2 rfl)
   clear hown hgrow hHeld X4
   refine hK.out _ _ N6 (fun hHeld=>?_)
   clear hK N6
   (try simp only[Act.put,La,Lz,Lc])
   refine wpAnyH_ready (rs:=[5]) (by kernel_rfl) (by simp) ?_
   refine AllReadyH.cons rfl (fun K' hK=>?_) AllReadyH.nil
   obtain ⟨⟨s0,s1,s2,s3,s4,s5,s6⟩,sf,sz⟩:=X6.out.1.1
   go_simp
   refine hK.out _ _ ?_ (fun hHeld=>?_)
   ·have hne:h≠r5:=by have:=hbv.out.1;omega
    exact ((((((hHeld.set hne _ _).set hne _ _).set hne _ _).set hne _ _).set hne _ _).set hne _ _).set hne _ _
   clear hK
   (try simp only[Act.put,La,Lz,Lc])
   refine wpAnyH_ready (rs:=[6]) (by kernel_rfl) (by simp) ?_
   refine AllReadyH.cons rfl (fun K' hK=>?_) AllReadyH.nil
   obtain ⟨a6,e6,hv6,_⟩:=X6.out.1.2.2.2.shape
   subst hv6
   obtain ⟨m6,hm6⟩:∃m,(C++[cd]).length=m:=⟨_,rfl⟩
   rw[hm6] at X6
   simp only[hm6]
   clear hm6
   go_simp
   refine hK.out _ _ hHeld (fun hHeld=>?_)
   clear hK
   (try simp only[Act.put,La,Lz,Lc])
   refine wpAnyH_done (by kernel_rfl) ?_ _
   have X7:Hid (gc B (h+1+1) h (h+1) (Sl a5 g1 c5) (Sl b5 g2 d5) (f (l.take (j+1))).k (f (l.take (j+1))).L (f (l.take (j+1))).O (Sl a6 m6 e6) (f (l.take (j+1))).c (dI w6 h kd (Sl a5 g1 c5) (Sl b5 g2 d5))/\Below h w (dI w6 h kd (Sl a5 g1 c5) (Sl b5 g2 d5))/\h+1+1<=(dI w6 h kd (Sl a5 g1 c5) (Sl b5 g2 d5)).heap.size):=by
    rw[HT1.out]
    have g:=dP w6 h kd (Sl a5 g1 c5) (Sl b5 g2 d5)
    exact ⟨X6.out.1.turn X6.out.2.2.2 (by omega) (by omega),X6.out.2.1.grown g (by have:=X6.out.2.2.1;omega) (fun q hq=>by simp at hq;omega),Nat.le_trans X6.out.2.2.1 g.size⟩
   clear X6 hHeld hbv
   clear s0 s1 s2 s3 s4 s5 s6 sf sz
   go_wp2
   go_roundw
   case rel=>exact ⟨j+1,_,_,by omega,by go_num,X7⟩
   case measure=>simp[intOf];omega
  ·skip
   have hjn:j=nl:=by omega
   subst hjn
   rw[HE.out] at X1
   obtain ⟨s,hs⟩:∃s,s=f l:=⟨_,rfl⟩
   rw[←hs] at X1
   obtain ⟨C,M,P,kk⟩:=s
   have HSF:Hid (f l=⟨C,M,P,kk⟩):=hs.symm
   clear hs
   dsimp only at X1
   obtain ⟨a1,c1,hv⟩:=X1.out.1.2.2.1.1.len
   subst hv
   obtain ⟨b1,d1,hv⟩:=X1.out.1.2.2.1.2.1.len
   subst hv
   obtain ⟨ac,mc,hv,_⟩:=X1.out.1.2.2.2.shape
   subst hv
   obtain ⟨m1',hm1⟩:∃m,M.length=m:=⟨_,rfl⟩
   obtain ⟨m2',hm2⟩:∃m,P.length=m:=⟨_,rfl⟩
   obtain ⟨m3',hm3⟩:∃m,C.length=m:=⟨_,rfl⟩
   rw[hm1,hm2,hm3] at X1
   try rw[hm3]
   clear hm1 hm2 hm3 BL
   obtain ⟨⟨s0,s1,s2,s3,s4,s5,s6⟩,sf,sz⟩:=X1.out.1.1
   obtain ⟨⟨rr0,rr1,rr2,rr3,rr4,rr5,rr6⟩,rrf,rrz⟩:=X1.out.1.2.1
   have nh:¬h=h+1:=by omega
   have nh':¬h+1=h:=by omega
   go_wp2
   refine bodyPost_ret (v:=.tuple #[.agg #[Ii Jj kk.day,Sl a1 m1' c1,Sl b1 m2' d1,Ii Jj kk.inn,Ii Jj kk.out,Ii Jj kk.posted,Ii Jj kk.missed],Sl ac m3' mc]) (by simp[results,Tryz.results89,go_sem,rr0,rr1,rr2,rr3,rr4,rr5,rr6]) rfl ?_
   have g:=dP wr (h+1) kk (Sl a1 m1' c1) (Sl b1 m2' d1)
   have y:=X1.out.1
   rw[HSF.out]
   dsimp only
   refine ⟨_,_,_,rfl,aO y.2.2.1.1 g (fun q hq=>(y.2.2.1.2.2.1 q hq).2),aO y.2.2.1.2.1 g (fun q hq=>(y.2.2.1.2.2.2 q hq).2),(IL.mono (aO y.2.2.2 g (fun q hq=>by have:=(World.ownsRow.lt y.2.2.2 q hq).1;omega)) (by rw[HH.out];omega)),?_⟩
   rw[HH.out]
   exact X1.out.2.1.grown g (by have:=X1.out.2.2;omega) (fun q hq=>by simp at hq;omega)
set_option maxHeartbeats 8000000
set_option maxRecDepth 8000
def eF (r:RA) (w:World) (e:Ending) (w':World):Prop:=∃v u c,e=.returned (.tuple #[.agg #[Ii Jj r.k.day,v,u,Ii Jj r.k.inn,Ii Jj r.k.out,Ii Jj r.k.posted,Ii Jj r.k.missed],c])/\AL w' w.heap.size v r.L/\ah w' w.heap.size u r.O/\IL w' w.heap.size c r.c/\Below w.heap.size w w'
theorem o7 (a b:Option Addr) (c d:Nat) (L:List aj) (O:List au) (k:Bk) (oa:Option Addr) (oc:Nat) (l:List Bp) (w:World) (hF:Fo w a L.length (FL L)) (hO:aG w b O.length (ae O)) (ho:dO w oa l.length (eu l)) (hno:¬(aq (FL L) L.length (ae O) O.length k/\l.length<=100)):Calls Pg 33 #[.agg #[Ii Jj k.day,Sl a L.length c,Sl b O.length d,Ii Jj k.inn,Ii Jj k.out,Ii Jj k.posted,Ii Jj k.missed],Sl oa l.length oc] w fun e w'=>eF ⟨[],[],[],⟨0,0,0,0,0⟩⟩ w e w':=by
 have hon:=ho.1
 obtain ⟨h,hh⟩:∃h,w.heap.size=h:=⟨_,rfl⟩
 have HH:=aa hh
 have HF:=aa hF
 have HQ:=aa hO
 have HO:=aa ho
 obtain ⟨W0,hW0,X0⟩:∃W0,W0=(w.alloc (.cells #[Ii Jj k.day,Sl a L.length c,Sl b O.length d,Ii Jj k.inn,Ii Jj k.out,Ii Jj k.posted,Ii Jj k.missed] 38)).alloc (.cells #[Ii Jj 0,Sl none 0 0,Sl none 0 0,Ii Jj 0,Ii Jj 0,Ii Jj 0,Ii Jj 0] 38)/\Hid (ak W0 h (Ii Jj k.day) (Sl a L.length c) (Sl b O.length d) (Ii Jj k.inn) (Ii Jj k.out) (Ii Jj k.posted) (Ii Jj k.missed)/\ak W0 (h+1) (Ii Jj 0) (Sl none 0 0) (Sl none 0 0) (Ii Jj 0) (Ii Jj 0) (Ii Jj 0) (Ii Jj 0)/\Below h w W0/\h+1+1<=W0.heap.size):=by
  have b1:∀(V:World) (o:Obj),Below V.heap.size V (V.alloc o):=fun V o=>(Bf _ _).alloc (Nf _) _
  have v0:=(ak.new w (Ii Jj k.day) (Sl a L.length c) (Sl b O.length d) (Ii Jj k.inn) (Ii Jj k.out) (Ii Jj k.posted) (Ii Jj k.missed) 38).kept (b1 _ (.cells #[Ii Jj 0,Sl none 0 0,Sl none 0 0,Ii Jj 0,Ii Jj 0,Ii Jj 0,Ii Jj 0] 38)) (by simp)
  have v1:=ak.new (w.alloc (.cells #[Ii Jj k.day,Sl a L.length c,Sl b O.length d,Ii Jj k.inn,Ii Jj k.out,Ii Jj k.posted,Ii Jj k.missed] 38)) (Ii Jj 0) (Sl none 0 0) (Sl none 0 0) (Ii Jj 0) (Ii Jj 0) (Ii Jj 0) (Ii Jj 0) 38
  simp only[World.size_alloc] at v1
  rw[hh] at v0 v1
  exact ⟨_,rfl,v0,v1,by rw[←hh];exact ((Bf _ _).alloc (Nf _) _).alloc (by simp) _,by simp;omega⟩
 have HW0:=aa hW0
 clear hF hO ho hW0
 have LEB:Hid (∀{V W:World},Below h w V->Below V.heap.size V W->Below h w W):=fun {V W} p q=>p.trans (q.mono (by have:=p.size;rw[HH.out] at this;exact this))
 have LF:Hid (∀{V:World},Below h w V->Fo V a L.length (FL L)/\aG V b O.length (ae O)/\dO V oa l.length (eu l)):=fun {V} p=>by
  rw[←HH.out] at p
  exact ⟨HF.out.below p,HQ.out.below p,HO.out.below p⟩
 obtain ⟨ll,hll⟩:∃n,l.length=n:=⟨_,rfl⟩
 have HNO:Hid (¬(aq (FL L) L.length (ae O) O.length k/\ll<=100)):=by rw[←hll];exact hno
 rw[hll] at HO LF hon
 rw[hll]
 clear hno hll
 go_enter Tryz.func33,Tryz.ntmps33
 go_upto_region 1 with fail
 rw[←HW0.out]
 clear HW0 hh
 obtain ⟨⟨s0,s1,s2,s3,s4,s5,s6⟩,sf,sz⟩:=X0.out.1
 go_wp2_with fail
 refine (cZ a b L.length c O.length d (FL L) (ae O) k _ (LF.out X0.out.2.2.1).1 (LF.out X0.out.2.2.1).2.1).mono ?_
 rintro e w1 ⟨⟨bb,rfl,hb1,hb2⟩,B1⟩
 have R1:=aa (X0.out.2.1.kept B1 X0.out.2.1.2.2)
 have BB1:Hid (Below h w w1):=LEB.out X0.out.2.2.1 B1
 clear s0 s1 s2 s3 s4 s5 s6 sf sz
 cases bb with
 | true=>
  have h100:¬ll<=100:=fun e=>HNO.out ⟨hb1 rfl,e⟩
  have g1:decide ((ll:Int)>100)=true:=by simp;omega
  have g2:decide (100<(ll:Int))=true:=by simp;omega
  clear hb1 hb2 B1 X0 HNO HF HQ HO LF LEB
  obtain ⟨⟨r0,r1,r2,r3,r4,r5,r6⟩,rf,rz⟩:=R1.out
  go_wp2
  refine bodyPost_ret (v:=.tuple #[.agg #[Ii Jj 0,Sl none 0 0,Sl none 0 0,Ii Jj 0,Ii Jj 0,Ii Jj 0,Ii Jj 0],Sl none 0 0]) (by simp[results,Tryz.results33,go_sem,r0,r1,r2,r3,r4,r5,r6]) rfl ⟨Sl none 0 0,Sl none 0 0,Sl none 0 0,rfl,AL.nil' _ _,ah.nil _ _,IL.nil _ _,?_⟩
  rw[HH.out]
  repeat (refine ai ?_ (by omega) _ _)
  exact BB1.out
 | false=>
  clear hb1 hb2 B1 X0 HNO HF HQ HO LF LEB
  obtain ⟨⟨r0,r1,r2,r3,r4,r5,r6⟩,rf,rz⟩:=R1.out
  go_wp2
  refine bodyPost_ret (v:=.tuple #[.agg #[Ii Jj 0,Sl none 0 0,Sl none 0 0,Ii Jj 0,Ii Jj 0,Ii Jj 0,Ii Jj 0],Sl none 0 0]) (by simp[results,Tryz.results33,go_sem,r0,r1,r2,r3,r4,r5,r6]) rfl ⟨Sl none 0 0,Sl none 0 0,Sl none 0 0,rfl,AL.nil' _ _,ah.nil _ _,IL.nil _ _,?_⟩
  rw[HH.out]
  repeat (refine ai ?_ (by omega) _ _)
  exact BB1.out
theorem m8 (a b:Option Addr) (c d:Nat) (L:List aj) (O:List au) (k:Bk) (oa:Option Addr) (oc:Nat) (l:List Bp) (p:Nat->Addr) (w:World) (hF:Fo w a L.length (FL L)) (hO:aG w b O.length (ae O)) (ho:dO w oa l.length (eu l)) (hG:GE w p) (hb:aq (FL L) L.length (ae O) O.length k) (h100:l.length<=100):Calls Pg 33 #[.agg #[Ii Jj k.day,Sl a L.length c,Sl b O.length d,Ii Jj k.inn,Ii Jj k.out,Ii Jj k.posted,Ii Jj k.missed],Sl oa l.length oc] w fun e w'=>eF (bx ⟨[],L,O,k⟩ l) w e w':=by
 have HG:=aa hG
 have HB:=aa hb
 have hon:=ho.1
 obtain ⟨h,hh⟩:∃h,w.heap.size=h:=⟨_,rfl⟩
 have HH:=aa hh
 have HF:=aa hF
 have HQ:=aa hO
 have HO:=aa ho
 obtain ⟨W0,hW0,X0⟩:∃W0,W0=(w.alloc (.cells #[Ii Jj k.day,Sl a L.length c,Sl b O.length d,Ii Jj k.inn,Ii Jj k.out,Ii Jj k.posted,Ii Jj k.missed] 38)).alloc (.cells #[Ii Jj 0,Sl none 0 0,Sl none 0 0,Ii Jj 0,Ii Jj 0,Ii Jj 0,Ii Jj 0] 38)/\Hid (ak W0 h (Ii Jj k.day) (Sl a L.length c) (Sl b O.length d) (Ii Jj k.inn) (Ii Jj k.out) (Ii Jj k.posted) (Ii Jj k.missed)/\ak W0 (h+1) (Ii Jj 0) (Sl none 0 0) (Sl none 0 0) (Ii Jj 0) (Ii Jj 0) (Ii Jj 0) (Ii Jj 0)/\Below h w W0/\h+1+1<=W0.heap.size):=by
  have b1:∀(V:World) (o:Obj),Below V.heap.size V (V.alloc o):=fun V o=>(Bf _ _).alloc (Nf _) _
  have v0:=(ak.new w (Ii Jj k.day) (Sl a L.length c) (Sl b O.length d) (Ii Jj k.inn) (Ii Jj k.out) (Ii Jj k.posted) (Ii Jj k.missed) 38).kept (b1 _ (.cells #[Ii Jj 0,Sl none 0 0,Sl none 0 0,Ii Jj 0,Ii Jj 0,Ii Jj 0,Ii Jj 0] 38)) (by simp)
  have v1:=ak.new (w.alloc (.cells #[Ii Jj k.day,Sl a L.length c,Sl b O.length d,Ii Jj k.inn,Ii Jj k.out,Ii Jj k.posted,Ii Jj k.missed] 38)) (Ii Jj 0) (Sl none 0 0) (Sl none 0 0) (Ii Jj 0) (Ii Jj 0) (Ii Jj 0) (Ii Jj 0) 38
  simp only[World.size_alloc] at v1
  rw[hh] at v0 v1
  exact ⟨_,rfl,v0,v1,by rw[←hh];exact ((Bf _ _).alloc (Nf _) _).alloc (by simp) _,by simp;omega⟩
 have HW0:=aa hW0
 clear hF hO ho hW0
 have LEB:Hid (∀{V W:World},Below h w V->Below V.heap.size V W->Below h w W):=fun {V W} p q=>p.trans (q.mono (by have:=p.size;rw[HH.out] at this;exact this))
 have LF:Hid (∀{V:World},Below h w V->Fo V a L.length (FL L)/\aG V b O.length (ae O)/\dO V oa l.length (eu l)):=fun {V} p=>by
  rw[←HH.out] at p
  exact ⟨HF.out.below p,HQ.out.below p,HO.out.below p⟩
 have ONE:Hid (∀(X:World) (B:Nat) a' b' c' d',AL X B (Sl a' L.length c') L->ah X B (Sl b' O.length d') O->B<=X.heap.size->dO X oa l.length (eu l)->GE X p->Calls Pg 89 #[.agg #[Ii Jj k.day,Sl a' L.length c',Sl b' O.length d',Ii Jj k.inn,Ii Jj k.out,Ii Jj k.posted,Ii Jj k.missed],Sl oa l.length oc,.func (.func 29) #[] #[]] X fun e w'=>∃v' u' c',e=.returned (.tuple #[.agg #[Ii Jj (bx ⟨[],L,O,k⟩ l).k.day,v',u',Ii Jj (bx ⟨[],L,O,k⟩ l).k.inn,Ii Jj (bx ⟨[],L,O,k⟩ l).k.out,Ii Jj (bx ⟨[],L,O,k⟩ l).k.posted,Ii Jj (bx ⟨[],L,O,k⟩ l).k.missed],c'])/\AL w' B v' (bx ⟨[],L,O,k⟩ l).L/\ah w' B u' (bx ⟨[],L,O,k⟩ l).O/\IL w' X.heap.size c' (bx ⟨[],L,O,k⟩ l).c/\Below X.heap.size X w'):=fun X B a' b' c' d' h1 h2 h3 h4 h5=>sd B a' b' c' d' L O k oa oc l p X h1 h2 h3 HB.out h4 h5
 obtain ⟨ll,hll⟩:∃n,l.length=n:=⟨_,rfl⟩
 rw[hll] at HO LF hon h100 ONE
 rw[hll]
 clear hb hll hG
 generalize bx ⟨[],L,O,k⟩ l=r at*
 obtain ⟨C,M,P,kk⟩:=r
 have g1:decide ((ll:Int)>100)=false:=by simp;omega
 have g2:decide (100<(ll:Int))=false:=by simp;omega
 go_enter Tryz.func33,Tryz.ntmps33
 go_upto_region 1 with fail
 rw[←HW0.out]
 clear HW0 hh
 obtain ⟨⟨s0,s1,s2,s3,s4,s5,s6⟩,sf,sz⟩:=X0.out.1
 go_wp2_with fail
 refine (cZ a b L.length c O.length d (FL L) (ae O) k _ (LF.out X0.out.2.2.1).1 (LF.out X0.out.2.2.1).2.1).mono ?_
 rintro e w1 ⟨⟨bb,rfl,hb1,hb2⟩,B1⟩
 obtain rfl:bb=true:=by cases bb with|false=>exact absurd HB.out (hb2 rfl)|true=>rfl
 have X1:Hid (ak w1 h (Ii Jj k.day) (Sl a L.length c) (Sl b O.length d) (Ii Jj k.inn) (Ii Jj k.out) (Ii Jj k.posted) (Ii Jj k.missed)/\ak w1 (h+1) (Ii Jj 0) (Sl none 0 0) (Sl none 0 0) (Ii Jj 0) (Ii Jj 0) (Ii Jj 0) (Ii Jj 0)/\Below h w w1/\h+1+1<=w1.heap.size):=⟨X0.out.1.kept B1 X0.out.1.2.2,X0.out.2.1.kept B1 X0.out.2.1.2.2,LEB.out X0.out.2.2.1 B1,Nat.le_trans X0.out.2.2.2 B1.size⟩
 clear s0 s1 s2 s3 s4 s5 s6 sf sz
 clear hb1 hb2 B1 X0
 obtain ⟨⟨s0,s1,s2,s3,s4,s5,s6⟩,sf,sz⟩:=X1.out.1
 go_wp2_with fail
 refine (dF a b c d L O k _ (LF.out X1.out.2.2.1).1 (LF.out X1.out.2.2.1).2.1).mono ?_
 rintro e w2 ⟨v2,u2,rfl,A2,O2,B2⟩
 obtain ⟨a2,c2,hv⟩:=A2.len
 subst hv
 obtain ⟨b2,d2,hv⟩:=O2.len
 subst hv
 have X2:Hid (ak w2 (h+1) (Ii Jj 0) (Sl none 0 0) (Sl none 0 0) (Ii Jj 0) (Ii Jj 0) (Ii Jj 0) (Ii Jj 0)/\Below h w w2/\AL w2 (h+1+1) (Sl a2 L.length c2) L/\ah w2 (h+1+1) (Sl b2 O.length d2) O/\h+1+1<=w2.heap.size):=⟨X1.out.2.1.kept B2 X1.out.2.1.2.2,LEB.out X1.out.2.2.1 B2,A2.mono X1.out.2.2.2,O2.mono X1.out.2.2.2,Nat.le_trans X1.out.2.2.2 B2.size⟩
 clear s0 s1 s2 s3 s4 s5 s6 sf sz
 clear A2 O2 B2 X1
 go_wp2_with fail
 refine (ONE.out w2 (h+1+1) a2 b2 c2 d2 X2.out.2.2.1 X2.out.2.2.2.1 X2.out.2.2.2.2 (LF.out X2.out.2.1).2.2 (HG.out.below (by rw[HH.out];exact X2.out.2.1))).mono ?_
 rintro e w3 ⟨v3,u3,c3,rfl,A3,O3,I3,B3⟩
 dsimp only at A3 O3 I3 ⊢
 obtain ⟨a3,e3,hv⟩:=A3.len
 subst hv
 obtain ⟨b3,f3,hv⟩:=O3.len
 subst hv
 obtain ⟨q3,t3,hv,_⟩:=I3.shape
 subst hv
 obtain ⟨m1,hm1⟩:∃m,M.length=m:=⟨_,rfl⟩
 obtain ⟨m2,hm2⟩:∃m,P.length=m:=⟨_,rfl⟩
 obtain ⟨m3,hm3⟩:∃m,C.length=m:=⟨_,rfl⟩
 have X3:Hid (ak w3 (h+1) (Ii Jj 0) (Sl none 0 0) (Sl none 0 0) (Ii Jj 0) (Ii Jj 0) (Ii Jj 0) (Ii Jj 0)/\Below h w w3/\AL w3 (h+1+1) (Sl a3 m1 e3) M/\ah w3 (h+1+1) (Sl b3 m2 f3) P/\IL w3 (h+1+1) (Sl q3 m3 t3) C/\h+1+1<=w3.heap.size):=by
  rw[←hm1,←hm2,←hm3]
  exact ⟨X2.out.1.kept B3 X2.out.1.2.2,LEB.out X2.out.2.1 B3,A3,O3,I3.mono X2.out.2.2.2.2,Nat.le_trans X2.out.2.2.2.2 B3.size⟩
 simp only[hm1,hm2,hm3]
 clear A3 O3 I3 B3 X2 hm1 hm2 hm3 ONE LF LEB HF HQ HO
 obtain ⟨⟨r0,r1,r2,r3,r4,r5,r6⟩,rf,rz⟩:=X3.out.1
 go_wp2
 refine bodyPost_ret (v:=.tuple #[.agg #[Ii Jj kk.day,Sl a3 m1 e3,Sl b3 m2 f3,Ii Jj kk.inn,Ii Jj kk.out,Ii Jj kk.posted,Ii Jj kk.missed],Sl q3 m3 t3]) (by simp[results,Tryz.results33,go_sem,r0,r1,r2,r3,r4,r5,r6]) rfl ?_
 have g:=dP w3 (h+1) kk (Sl a3 m1 e3) (Sl b3 m2 f3)
 refine ⟨_,_,_,rfl,AL.mono (aO X3.out.2.2.1 g (fun q hq=>by have:=(World.ownsRow.lt X3.out.2.2.1 q hq).1;omega)) (by rw[HH.out];omega),ah.mono (aO X3.out.2.2.2.1 g (fun q hq=>by have:=(World.ownsRow.lt X3.out.2.2.2.1 q hq).1;omega)) (by rw[HH.out];omega),IL.mono (aO X3.out.2.2.2.2.1 g (fun q hq=>by have:=(World.ownsRow.lt X3.out.2.2.2.2.1 q hq).1;omega)) (by rw[HH.out];omega),?_⟩
 rw[HH.out]
 exact X3.out.2.1.grown g (by have:=X3.out.2.2.2.2.2;omega) (fun q hq=>by simp at hq;omega)
theorem se (a b:Option Addr) (c d:Nat) (L:List aj) (O:List au) (k:Bk) (oa:Option Addr) (oc:Nat) (l:List Bp) (p:Nat->Addr) (w:World) (hF:Fo w a L.length (FL L)) (hO:aG w b O.length (ae O)) (ho:dO w oa l.length (eu l)) (hG:GE w p):Calls Pg 33 #[.agg #[Ii Jj k.day,Sl a L.length c,Sl b O.length d,Ii Jj k.inn,Ii Jj k.out,Ii Jj k.posted,Ii Jj k.missed],Sl oa l.length oc] w fun e w'=>eF (gh L O k l) w e w':=by
 unfold gh
 by_cases hh:aq (FL L) L.length (ae O) O.length k/\l.length<=100
 ·rw[if_pos hh];exact m8 a b c d L O k oa oc l p w hF hO ho hG hh.1 hh.2
 ·rw[if_neg hh];exact o7 a b c d L O k oa oc l w hF hO ho hh
end Go.Proofs.YtghkbhggopiajaaGreatDoor
