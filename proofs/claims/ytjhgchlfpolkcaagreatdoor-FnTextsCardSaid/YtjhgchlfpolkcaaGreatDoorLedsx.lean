/- l1Int of the specification. -/
import Derived.Deep.RegionLaw
import Derived.Shelf.Spec.SlicesInsert
import Derived.Lib.AppendZerosOnto
import Derived.Laws.NewBlocks
import Derived.Test.YtjhgchlfpolkcaaGreatDoorProg
import Derived.Test.YtjhgchlfpolkcaaGreatDoorDonesx
import Derived.Test.YtjhgchlfpolkcaaGreatDoorBnksx
import Derived.Lib.IndexAny
import Derived.Lib.ItoaNum
import Derived.Lib.ParseIntBCases
import Derived.Test.YtjhgchlfpolkcaaGreatDoorRows
import Derived.Deep.RegionWith
namespace Go.Proofs.YtjhgchlfpolkcaaGreatDoor
section
def jH:Value->Int| .int _ q=>q|_=>0
open Go.RowKit
open Go.RowKit
end
section
open Go.RowKit
set_option maxRecDepth 8000
theorem ql {L:List al} {k i t m r:Int} (h:(ao L k i t m r).1≠0):(ao L k i t m r).2=L:=by
 unfold ao at h ⊢
 split
 ·rename_i ho
  rw[if_pos ho] at h
  unfold bV at h ⊢
  split
  ·rename_i h0
   rw[if_pos h0] at h
   split
   ·rename_i hr
    rw[if_pos hr] at h
    exact absurd h0 h
   ·rfl
  ·rfl
 ·rfl
end
section
theorem np {L l:List al} {k i t m r:Int} (h:ao L k i t m r=(0,l)):ax k i t m r/\aK L k i t m r=(0,l)/\ap (FL l) l.length:=by
 unfold ao at h
 split at h
 ·rename_i ho
  unfold bV at h
  split at h
  ·split at h
   ·rename_i h0 hr
    rw[h] at hr
    exact ⟨ho,h,hr⟩
   ·simp at h
  ·rename_i h0
   simp only[Prod.mk.injEq] at h
   exact absurd h.1 h0
 ·simp at h
inductive tQ (L:List al) (k i t m r:Int) (l:List al):Prop
 | opened (h1:k=1) (hno:aB (FL L) L.length i=none) (hl:l=L.take (eW L i)++(⟨i,t,m,r,-1,false,0,0⟩:al)::L.drop (eW L i))
 | frozen (p:Nat) (h1:k=2) (hp:aB (FL L) L.length i=some p) (hf:(FL L p).frozen=false) (hl:l=L.set p {FL L p with frozen:=true})
 | thawed (p:Nat) (h1:k=3) (hp:aB (FL L) L.length i=some p) (hf:(FL L p).frozen=true) (hl:l=L.set p {FL L p with frozen:=false})
 | closed (p:Nat) (h1:k=4) (hp:aB (FL L) L.length i=some p) (hf:(FL L p).frozen=false) (hb:(FL L p).balance=0) (hk:dm (FL L) (FL L p).id L.length=[]) (hl:l=L.take p++L.drop (p+1))
 | put (p:Nat) (h1:k=5) (hp:aB (FL L) L.length i=some p) (hf:(FL L p).frozen=false) (hl:l=L.set p {FL L p with balance:=(FL L p).balance+m})
 | taken (p:Nat) (h1:k=6) (hp:aB (FL L) L.length i=some p) (hf:(FL L p).frozen=false) (hs:¬(gr (FL L) L.length [] p).getD 0<m) (hl:l=L.set p {FL L p with balance:=(FL L p).balance-m})
 | paid (p q:Nat) (h1:k=7) (hp:aB (FL L) L.length i=some p) (hq:aB (FL L) L.length t=some q) (hf:(FL L p).frozen=false) (hg:(FL L q).frozen=false) (hs:¬eV L p q m) (hl:l=(L.set p {FL L p with balance:=(FL L p).balance-m}).set q {FL L q with balance:=(FL L q).balance+m})
 | limited (p:Nat) (h1:k=8) (hp:aB (FL L) L.length i=some p) (hl:l=L.set p {FL L p with limit:=m})
 | hung (p q:Nat) (h1:k=9) (hp:aB (FL L) L.length i=some p) (hq:aB (FL L) L.length t=some q) (hu:(FL L p).up≠0) (hn:(FL L p).id ∉ aI (FL L) L.length q) (hs:¬eO L p q ((aB (FL L) L.length (FL L p).up).getD 0)) (hl:l=L.set p {FL L p with up:=(FL L q).id})
 | aimed (p:Nat) (h1:k=10) (hp:aB (FL L) L.length i=some p) (hl:l=L.set p {FL L p with target:=m})
theorem um {L l:List al} {k i t m r:Int} (ho:ax k i t m r) (h:aK L k i t m r=(0,l)):tQ L k i t m r l:=by
 unfold aK at h
 split at h
 ·rename_i h1
  unfold da at h
  split at h
  ·simp at h
  ·rename_i hno
   split at h
   ·simp at h
   ·simp only[Prod.mk.injEq,true_and] at h
    exact .opened h1 (by simpa using hno) h.symm
 ·rename_i h1
  cases hp:aB (FL L) L.length i with
  | none=>rw[hp] at h;simp at h
  | some p=>
   rw[hp] at h
   simp only at h
   split at h
   ·rename_i h7
    cases hq:aB (FL L) L.length t with
    | none=>rw[hq] at h;simp at h
    | some q=>
     rw[hq] at h
     simp only at h
     unfold eo at h
     split at h
     ·simp at h
     ·rename_i hf
      split at h
      ·simp at h
      ·rename_i hs
       simp only[Prod.mk.injEq,true_and] at h
       exact .paid p q h7 hp hq (by simp at hf;exact hf.1) (by simp at hf;exact hf.2) hs h.symm
   ·rename_i h7
    split at h
    ·rename_i h9
     cases hq:aB (FL L) L.length t with
     | none=>rw[hq] at h;simp at h
     | some q=>
      rw[hq] at h
      simp only at h
      unfold cW at h
      split at h
      ·simp at h
      ·rename_i hu
       split at h
       ·simp at h
       ·rename_i hs
        simp only[Prod.mk.injEq,true_and] at h
        exact .hung p q h9 hp hq (fun e=>hu (Or.inl e)) (fun e=>hu (Or.inr e)) hs h.symm
    ·rename_i h9
     have hk:k=2\/k=3\/k=4\/k=5\/k=6\/k=8\/k=10:=by unfold ax at ho;omega
     rcases hk with rfl|rfl|rfl|rfl|rfl|rfl|rfl
     ·by_cases hf:(FL L p).frozen=true
      ·simp[ch,hf] at h
      ·simp[ch,hf] at h
       exact .frozen p rfl hp (by simpa using hf) h.symm
     ·by_cases hf:(FL L p).frozen=true
      ·simp[ch,hf] at h
       exact .thawed p rfl hp hf h.symm
      ·simp[ch,hf] at h
     ·by_cases hf:(FL L p).frozen=true
      ·simp[ch,hf] at h
      ·have e:ch L p 4 m=cG L p:=by simp[ch,hf]
       rw[e] at h
       unfold cG at h
       split at h
       ·simp at h
       ·rename_i hb
        simp only[Prod.mk.injEq,true_and] at h
        refine .closed p rfl hp (by simpa using hf) ?_ ?_ h.symm
        ·exact Classical.byContradiction fun e=>hb (Or.inl e)
        ·exact Classical.byContradiction fun e=>hb (Or.inr e)
     ·by_cases hf:(FL L p).frozen=true
      ·simp[ch,hf] at h
      ·have e:ch L p 5 m=(0,L.set p {FL L p with balance:=(FL L p).balance+m}):=by simp[ch,hf]
       rw[e] at h
       simp only[Prod.mk.injEq,true_and] at h
       exact .put p rfl hp (by simpa using hf) h.symm
     ·by_cases hf:(FL L p).frozen=true
      ·simp[ch,hf] at h
      ·have e:ch L p 6 m=eI L p m:=by simp[ch,hf]
       rw[e] at h
       unfold eI at h
       split at h
       ·simp at h
       ·rename_i hs
        simp only[Prod.mk.injEq,true_and] at h
        exact .taken p rfl hp (by simpa using hf) hs h.symm
     ·by_cases hf:(FL L p).up=0/\m<0
      ·simp[ch,hf] at h
      ·simp[ch,hf] at h
       exact .limited p rfl hp h.symm
     ·by_cases hf:(FL L p).up=0
      ·simp[ch,hf] at h
      ·simp[ch,hf] at h
       exact .aimed p rfl hp h.symm
theorem pl {L l:List al} {i t m r:Int} (hR:ap (FL L) L.length) (ho:ax 7 i t m r) (h:tQ L 7 i t m r l):l.length=L.length/\∀z,z<L.length->(FL l z).id=(FL L z).id/\(FL l z).balance=(FL L z).balance+((if (FL L z).id=i then -m else 0)+(if (FL L z).id=t then m else 0)):=by
 cases h with
 | opened h1=>cases h1
 | frozen p h1=>cases h1
 | thawed p h1=>cases h1
 | closed p h1=>cases h1
 | put p h1=>cases h1
 | taken p h1=>cases h1
 | limited p h1=>cases h1
 | hung p q h1=>cases h1
 | aimed p h1=>cases h1
 | paid p q h1 hp hq hf hg hs hll=>
  obtain ⟨hpL,hip⟩:=bD hp
  obtain ⟨hqL,hiq⟩:=bD hq
  have hit:i≠t:=by unfold ax at ho;omega
  have hpq:q≠p:=fun e=>by subst e;exact hit (hip.symm.trans hiq)
  refine ⟨by rw[hll];simp,fun z hz=>?_⟩
  have ez:((FL L z).id=i)↔z=p:=⟨fun e=>hR.inj hz hpL (by rw[e,hip]),fun e=>by rw[e,hip]⟩
  have ez':((FL L z).id=t)↔z=q:=⟨fun e=>hR.inj hz hqL (by rw[e,hiq]),fun e=>by rw[e,hiq]⟩
  simp only[ez,ez']
  rw[hll]
  by_cases e:z=q
  ·subst e
   rw[cE _ (by simpa using hz)]
   simp[hpq]
  ·rw[gR _ e]
   by_cases e':z=p
   ·subst e'
    rw[cE _ hz]
    simp[e];omega
   ·rw[gR _ e']
    simp[e,e']
end
section
open Go.RowKit
set_option maxRecDepth 8000
theorem cj {a b c:World} {row:Option Nat} (h:a.grownBy b row) (k:b.grownBy c row):a.grownBy c row:=
 ⟨k.os.trans h.os,k.tape.trans h.tape,k.output.trans h.output,Nat.le_trans h.size k.size,fun i hi hn=>(k.block i (Nat.lt_of_lt_of_le hi h.size) hn).trans (h.block i hi hn)⟩
theorem aS (w:World) (R o:Nat) (u:Value):w.grownBy (w.setCell ⟨R,o,none⟩ u) (some R):=
 ⟨rfl,rfl,rfl,by simp[World.setCell],fun k _ hn=>Below.heap_setCell _ _ _ _ (fun e=>hn (by rw[e]))⟩
end
section
open Go.RowKit
set_option maxRecDepth 8000
theorem af.same {w w':World} {R:Nat} {v0 v1 v2 v3 v4 v5 v6:Value} (h:af w R v0 v1 v2 v3 v4 v5 v6) (e:w'.heap[R]? =w.heap[R]?):af w' R v0 v1 v2 v3 v4 v5 v6:=by
 obtain ⟨⟨h0,h1,h2,h3,h4,h5,h6⟩,hf,hz⟩:=h
 have hc:∀o,w'.cell? ⟨R,o,none⟩=w.cell? ⟨R,o,none⟩:=fun o=>by unfold World.cell?;simp only[e]
 refine ⟨⟨(hc 0).trans h0,(hc 1).trans h1,(hc 2).trans h2,(hc 3).trans h3,(hc 4).trans h4,(hc 5).trans h5,(hc 6).trans h6⟩,?_,?_⟩
 ·intro o
  have:=hf o
  unfold World.frozen? at this ⊢
  simp only[e]
  exact this
 ·have h4:w.heap[R]? =some w.heap[R]:=Array.getElem?_eq_getElem hz
  exact (Array.getElem?_eq_some_iff.1 (e.trans h4)).1
theorem AL.nil' (w:World) (B:Nat):AL w B (.slice none 0 0) []:=⟨by simp,Or.inl ⟨rfl,rfl⟩⟩
theorem gD {w:World} {B C:Nat} {v u:Value} {L:List al} {O:List am} (h:AL w B v L) (k:ag w C u O):∀q,v.ownBlock=some q->u.ownBlock=some q->False:=by
 intro q h1 h2
 rcases h.2 with ⟨rfl,_⟩|⟨g,cap,cur,rfl,_,hc,_⟩
 ·simp[Value.ownBlock] at h1
 ·rcases k.2 with ⟨rfl,_⟩|⟨g',cap',cur',rfl,_,hc',_⟩
  ·simp[Value.ownBlock] at h2
  ·simp[Value.ownBlock] at h1 h2
   subst h1 h2
   rw[hc] at hc'
   simp at hc'
end
section
open Go.RowKit
open Go
def gQ (b:UInt8):Prop:=48<=b.toNat/\b.toNat<=57
def dC (acc:Nat):List UInt8->Nat
 | []=>acc
 | b::l=>dC (acc*10+(b.toNat-48)) l
theorem gP:∀(l m:List UInt8) (a:Nat),dC a (l++m)=dC (dC a l) m
 | [],_,_=>rfl
 | _::l,m,_=>gP l m _
theorem lE:∀(l:List UInt8) (a:Nat),a<=dC a l
 | [],a=>Nat.le_refl a
 | b::l,a=>by
  have:=lE l (a*10+(b.toNat-48))
  show a<=dC (a*10+(b.toNat-48)) l
  omega
def nP:Nat->Nat
 | 0=>1
 | k+1=>10*nP k
theorem mn {i j:Nat} (h:i<=j):nP i<=nP j:=by
 induction h with
 | refl=>exact Nat.le_refl _
 | step _ ih=>exact Nat.le_trans ih (by show nP _<=10*nP _;omega)
theorem oS (l:List UInt8):∀(a:Nat),(∀b ∈ l,gQ b)->dC a l<(a+1)*nP l.length:=by
 induction l with
 | nil=>intro a _;show a<(a+1)*1;omega
 | cons b l ih=>
  intro a h
  have h1:=ih (a*10+(b.toNat-48)) (fun c hc=>h c (by simp[hc]))
  have h2:=h b (by simp)
  unfold gQ at h2
  have h3:(a*10+(b.toNat-48)+1)*nP l.length<=((a+1)*10)*nP l.length:=Nat.mul_le_mul_right _ (by omega)
  have h4:((a+1)*10)*nP l.length=(a+1)*nP (b::l).length:=Nat.mul_assoc _ _ _
  rw[←h4]
  exact Nat.lt_of_lt_of_le h1 h3
theorem eT {d:Nat} (h:d<10):(UInt8.ofNat (48+d)).toNat=48+d:=by
 rw[UInt8.toNat_ofNat'];omega
theorem iM (u:Nat):∀c ∈ Lib.decDigits u,gQ c:=by
 induction u using Nat.strongRecOn with
 | ind u ih=>
  intro c hc
  by_cases h:u<10
  ·rw[cT h] at hc
   simp only[List.mem_singleton] at hc
   subst hc
   have:=eT h
   unfold gQ;omega
  ·rw[fa (by omega)] at hc
   rcases List.mem_append.1 hc with hc|hc
   ·exact ih (u / 10) (by omega) c hc
   ·simp only[List.mem_singleton] at hc
    subst hc
    have:=eT (d:=u % 10) (by omega)
    unfold gQ;omega
theorem iN (u:Nat):dC 0 (Lib.decDigits u)=u:=by
 induction u using Nat.strongRecOn with
 | ind u ih=>
  by_cases h:u<10
  ·rw[cT h]
   show 0*10+((UInt8.ofNat (48+u)).toNat-48)=u
   rw[eT h];omega
  ·rw[fa (by omega),gP,ih (u / 10) (by omega)]
   show u / 10*10+((UInt8.ofNat (48+u % 10)).toNat-48)=u
   rw[eT (by omega)];omega
theorem iY (u:Nat):Lib.decDigits u≠[]:=by
 by_cases h:u<10
 ·rw[cT h];simp
 ·rw[fa (by omega)];simp
theorem lM {u:Nat} (h:1<=u):(Lib.decDigits u).head? ≠some 48:=by
 induction u using Nat.strongRecOn with
 | ind u ih=>
  by_cases h10:u<10
  ·rw[cT h10]
   intro e
   have e':UInt8.ofNat (48+u)=48:=by simpa using e
   have:=congrArg UInt8.toNat e'
   rw[eT h10] at this
   have h48:(48:UInt8).toNat=48:=rfl
   omega
  ·rw[fa (by omega),List.head?_append]
   have:=ih (u / 10) (by omega) (by omega)
   cases hd:(Lib.decDigits (u / 10)).head? with
   | none=>exact absurd (List.head?_eq_none_iff.1 hd) (iY _)
   | some x=>rw[hd] at this;simpa using this
def ta (l:List UInt8):Prop:=l≠[]/\(∀b ∈ l,gQ b)/\(l.length=1\/l.head? ≠some 48)
theorem iX (u:Nat):ta (Lib.decDigits u):=by
 refine ⟨iY u,iM u,?_⟩
 by_cases h:1<=u
 ·exact Or.inr (lM h)
 ·exact Or.inl (by rw[cT (by omega)];rfl)
theorem oT {l:List UInt8} (h0:l≠[]) (hd:∀b ∈ l,gQ b) (hh:l.head? ≠some 48):1<=dC 0 l:=by
 cases l with
 | nil=>exact absurd rfl h0
 | cons c r=>
  have h1:=hd c (by simp)
  unfold gQ at h1
  have h2:c.toNat≠48:=fun e=>hh (by
   have:c=48:=UInt8.toNat_inj.1 (by rw[e];rfl)
   simp[this])
  have:=lE r (0*10+(c.toNat-48))
  show 1<=dC (0*10+(c.toNat-48)) r
  omega
theorem iZ:∀(r:List UInt8),ta r.reverse->Lib.decDigits (dC 0 r.reverse)=r.reverse
 | [],h=>absurd rfl h.1
 | b::r,h=>by
  obtain ⟨_,hd,hl⟩:=h
  have hb:=hd b (by simp)
  unfold gQ at hb
  have eb:UInt8.ofNat (48+(b.toNat-48))=b:=by
   rw[show 48+(b.toNat-48)=b.toNat by omega];simp
  rw[List.reverse_cons,gP]
  show Lib.decDigits (dC 0 r.reverse*10+(b.toNat-48))=r.reverse++[b]
  by_cases hr:r=[]
  ·subst hr
   show Lib.decDigits (0*10+(b.toNat-48))=[b]
   rw[cT (by omega),Nat.zero_mul,Nat.zero_add,eb]
  ·have hr':r.reverse≠[]:=by simpa using hr
   have hh:r.reverse.head? ≠some 48:=by
    rcases hl with hl|hl
    ·exfalso;simp at hl;exact hr hl
    ·rw[List.reverse_cons,List.head?_append] at hl
     cases hd2:r.reverse.head? with
     | none=>exact absurd (List.head?_eq_none_iff.1 hd2) hr'
     | some x=>rw[hd2] at hl;simpa using hl
   have hdr:∀c ∈ r.reverse,gQ c:=fun c hc=>hd c (by rw[List.reverse_cons];exact List.mem_append_left _ hc)
   have ih:=iZ r ⟨hr',hdr,Or.inr hh⟩
   have hp:=oT hr' hdr hh
   rw[fa (by omega),show (dC 0 r.reverse*10+(b.toNat-48)) / 10=dC 0 r.reverse by omega,
    show (dC 0 r.reverse*10+(b.toNat-48)) % 10=b.toNat-48 by omega,ih,eb]
theorem ie {l:List UInt8} (h:ta l):Lib.decDigits (dC 0 l)=l:=by
 have:=iZ l.reverse (by simpa using h)
 simpa using this
def dj (l:List UInt8) (n:Int):Prop:=Lib.itoa n=l/\ -9999999999999999<=n/\n<=9999999999999999
def fr (l:List UInt8):Bool:=decide (1<l.length) && (l.head? == some 45)
def cJ (l:List UInt8):List UInt8:=if fr l then l.tail else l
def iU (l:List UInt8):Prop:=(cJ l).length<1\/16<(cJ l).length\/((cJ l).head? =some 48/\(1<(cJ l).length\/fr l=true))
open Classical in
noncomputable def fd (l:List UInt8):Option Int:=
 if iU l\/¬(∀b ∈ cJ l,gQ b) then none
 else some (if fr l then -(dC 0 (cJ l):Int) else (dC 0 (cJ l):Int))
theorem nl {b:UInt8} (h:gQ b):b≠45/\b≠32/\b≠10:=by
 unfold gQ at h
 refine ⟨?_,?_,?_⟩ <;>rintro rfl <;>revert h <;>decide
theorem jn {l:List UInt8} {n:Int} (h:fd l=some n):dj l n:=by
 unfold fd at h
 split at h
 ·cases h
 ·rename_i hc
  have hb:¬iU l:=fun e=>hc (Or.inl e)
  have hd:∀b ∈ cJ l,gQ b:=Classical.not_not.1 fun e=>hc (Or.inr e)
  unfold iU at hb
  have h1:1<=(cJ l).length:=by omega
  have h16:(cJ l).length<=16:=by omega
  have hne:cJ l≠[]:=fun e=>by rw[e] at h1;simp at h1
  have hlt:=oS (cJ l) 0 hd
  have hp:nP (cJ l).length<=nP 16:=mn h16
  have hle:dC 0 (cJ l)<=9999999999999999:=by
   have:nP 16=10000000000000000:=by decide
   omega
  have hn:=Option.some.inj h
  subst hn
  by_cases hg:fr l=true
  ·have hh:(cJ l).head? ≠some 48:=fun e=>hb (Or.inr (Or.inr ⟨e,Or.inr hg⟩))
   have hpos:=oT hne hd hh
   have hdec:=ie (l:=cJ l) ⟨hne,hd,Or.inr hh⟩
   rw[if_pos hg]
   refine ⟨?_,by omega,by omega⟩
   rw[eR _ (by omega),hdec]
   have hm:cJ l=l.tail:=by unfold cJ;rw[if_pos hg]
   rw[hm]
   unfold fr at hg
   simp at hg
   cases l with
   | nil=>simp at hg
   | cons c r=>simp at hg;simp[hg.2]
  ·have hm:cJ l=l:=by unfold cJ;rw[if_neg hg]
   rw[if_neg hg]
   refine ⟨?_,by omega,by omega⟩
   rw[eQ]
   rw[ie ⟨hne,hd,?_⟩,hm]
   by_cases h11:(cJ l).length=1
   ·exact Or.inl h11
   ·exact Or.inr fun e=>hb (Or.inr (Or.inr ⟨e,Or.inl (by omega)⟩))
theorem dU {l:List UInt8} {n:Int} (h:dj l n):fd l=some n:=by
 obtain ⟨rfl,h0,h1⟩:=h
 by_cases hn:0<=n
 ·obtain ⟨m,rfl⟩:=Int.eq_ofNat_of_zero_le hn
  rw[eQ]
  obtain ⟨hne,hd,hl⟩:=iX m
  have hg:fr (Lib.decDigits m)=false:=by
   unfold fr
   cases hh:Lib.decDigits m with
   | nil=>exact absurd hh hne
   | cons c r=>
    have:=(nl (hd c (by rw[hh];simp))).1
    simp[this]
  have hm:cJ (Lib.decDigits m)=Lib.decDigits m:=by unfold cJ;rw[hg];rfl
  have hlen:=fR 15 m (by have:(10:Nat) ^ (15+1)=10000000000000000:=(by decide);omega)
  have hpos:0<(Lib.decDigits m).length:=List.length_pos_iff.2 hne
  have hbad:¬(iU (Lib.decDigits m)\/¬∀b ∈ cJ (Lib.decDigits m),gQ b):=by
   rintro (hb|hb)
   ·unfold iU at hb
    rw[hm,hg] at hb
    rcases hb with hb|hb|⟨he,hb⟩
    ·omega
    ·omega
    ·rcases hb with hb|hb
     ·rcases hl with hl|hl
      ·omega
      ·exact hl he
     ·cases hb
   ·rw[hm] at hb
    exact hb hd
  unfold fd
  rw[if_neg hbad,hg,hm,iN]
  rfl
 ·obtain ⟨m,hm0⟩:∃m:Nat,n= -(m:Int):=⟨n.natAbs,by omega⟩
  subst hm0
  have hm1:0<m:=by omega
  rw[eR m hm1]
  obtain ⟨hne,hd,_⟩:=iX m
  have hpos:0<(Lib.decDigits m).length:=List.length_pos_iff.2 hne
  have hg:fr (45::Lib.decDigits m)=true:=by
   unfold fr
   simp;omega
  have hm:cJ (45::Lib.decDigits m)=Lib.decDigits m:=by unfold cJ;rw[hg];rfl
  have hlen:=fR 15 m (by have:(10:Nat) ^ (15+1)=10000000000000000:=(by decide);omega)
  have hbad:¬(iU (45::Lib.decDigits m)\/¬∀b ∈ cJ (45::Lib.decDigits m),gQ b):=by
   rintro (hb|hb)
   ·unfold iU at hb
    rw[hm] at hb
    rcases hb with hb|hb|⟨he,hb⟩
    ·omega
    ·omega
    ·exact lM hm1 he
   ·rw[hm] at hb
    exact hb hd
  unfold fd
  rw[if_neg hbad,hg,hm,iN]
  rfl
theorem qV:∀(l:List UInt8) (a:Nat),(∀b ∈ l,gQ b)->dC a l<=9999999999999999->Lib.parseUint10 a l=.ok (dC a l)
 | [],a,_,_=>rfl
 | c::r,a,hd,h=>by
  have hc:=hd c (by simp)
  have hge:=lE r (a*10+(c.toNat-48))
  have h':dC (a*10+(c.toNat-48)) r<=9999999999999999:=h
  unfold Lib.parseUint10
  rw[if_pos (show 48<=c.toNat/\c.toNat<=57 from hc),if_neg (by omega),if_neg (by omega)]
  exact qV r _ (fun b hb=>hd b (by simp[hb])) h'
theorem i4 {l:List UInt8} {n:Int} (h:dj l n):Lib.parseIntB 64 l=.ok n:=by
 obtain ⟨rfl,h0,h1⟩:=h
 have key:∀m:Nat,m<=9999999999999999->Lib.parseUintB 64 (Lib.decDigits m)=.ok m:=fun m hm=>by
  rw[Lib.parseUintB_64,Lib.parseMag,if_neg (iY m),qV _ 0 (iM m) (by rw[iN];exact hm),iN]
 by_cases hn:0<=n
 ·obtain ⟨m,rfl⟩:=Int.eq_ofNat_of_zero_le hn
  have hk:=key m (by omega)
  rw[eQ]
  obtain ⟨hne,hd,_⟩:=iX m
  cases hh:Lib.decDigits m with
  | nil=>exact absurd hh hne
  | cons c r=>
   have hc:=hd c (by rw[hh];simp)
   unfold gQ at hc
   rw[Lib.parseIntB_plain 64 c r (by omega) (by omega),←hh,hk]
   simp[Lib.signlessC];omega
 ·obtain ⟨m,hm0⟩:∃m:Nat,n= -(m:Int):=⟨n.natAbs,by omega⟩
  subst hm0
  rw[eR m (by omega),Lib.parseIntB_minus,key m (by omega)]
  simp[Lib.signedC];omega
theorem fe (n:Int):∀b ∈ Lib.itoa n,b≠32/\b≠10:=by
 intro b hb
 unfold Lib.itoa at hb
 split at hb
 ·rcases List.mem_cons.1 hb with rfl|hb
  ·decide
  ·exact (nl (iM _ b hb)).2
 ·exact (nl (iM _ b hb)).2
def bF (c:UInt8):List UInt8->List UInt8×List UInt8×Bool
 | []=>([],[],false)
 | b::l=>if b=c then ([],l,true) else (b::(bF c l).1,(bF c l).2.1,(bF c l).2.2)
theorem fw (c:UInt8):∀(x y:List UInt8),(∀b ∈ x,b≠c)->bF c (x++c::y)=(x,y,true)
 | [],y,_=>by simp[bF]
 | b::x,y,h=>by
  have ih:=fw c x y (fun d hd=>h d (by simp[hd]))
  have hb:=h b (by simp)
  simp[bF,hb,ih]
theorem fQ (c:UInt8):∀(x:List UInt8),(∀b ∈ x,b≠c)->bF c x=(x,[],false)
 | [],_=>rfl
 | b::x,h=>by
  have ih:=fQ c x (fun d hd=>h d (by simp[hd]))
  have hb:=h b (by simp)
  simp[bF,hb,ih]
theorem iW (c:UInt8):∀(x:List UInt8),(bF c x).2.2=true->(bF c x).2.1.length<x.length
 | [],h=>by simp[bF] at h
 | b::x,h=>by
  unfold bF at h ⊢
  by_cases hb:b=c
  ·simp[hb]
  ·simp only[hb,if_false] at h ⊢
   have:=iW c x h
   simp;omega
def dr:List Int->List UInt8
 | []=>[]
 | [n]=>Lib.itoa n
 | n::m::r=>Lib.itoa n++32::dr (m::r)
noncomputable def ej:Nat->List UInt8->Option (List Int)
 | 0,_=>none
 | k+1,s=>
  match fd (bF 32 s).1 with
  | none=>none
  | some n=>if (bF 32 s).2.2 then (ej k (bF 32 s).2.1).map (n:: ·) else some [n]
theorem nI {k:Nat} {s x y:List UInt8} {n:Int} (h:bF 32 s=(x,y,false)) (hi:fd x=some n):ej (k+1) s=some [n]:=by
 simp[ej,h,hi]
theorem nJ {k:Nat} {s x y:List UInt8} {n:Int} (h:bF 32 s=(x,y,true)) (hi:fd x=some n):ej (k+1) s=(ej k y).map (n:: ·):=by
 simp[ej,h,hi]
theorem gm:∀(ns:List Int) (k:Nat),ns≠[]->(∀n ∈ ns,dj (Lib.itoa n) n)->ns.length<=k->ej k (dr ns)=some ns
 | [],_,h,_,_=>absurd rfl h
 | [n],0,_,_,hk=>by simp at hk
 | [n],k+1,_,hn,_=>by
  have h1:=dU (hn n (by simp))
  exact nI (fQ 32 _ (fun b hb=>(fe n b hb).1)) h1
 | n::m::r,0,_,_,hk=>by simp at hk
 | n::m::r,k+1,_,hn,hk=>by
  have h1:=dU (hn n (by simp))
  have ih:=gm (m::r) k (by simp) (fun z hz=>hn z (by simp at hz ⊢;exact Or.inr hz)) (by simp at hk ⊢;omega)
  show ej (k+1) (Lib.itoa n++32::dr (m::r))=_
  rw[nJ (fw 32 _ _ (fun b hb=>(fe n b hb).1)) h1,ih]
  rfl
def fK (S:List UInt8) (ns:List Int):List UInt8:=ns.foldl (fun t n=>t++32::Lib.itoa n) S
theorem ky:∀(ns:List Int) (S:List UInt8),ns≠[]->fK S ns=S++32::dr ns
 | [],_,h=>absurd rfl h
 | [n],S,_=>rfl
 | n::m::r,S,_=>by
  have ih:=ky (m::r) (S++32::Lib.itoa n) (by simp)
  show fK (S++32::Lib.itoa n) (m::r)=_
  rw[ih]
  simp[dr]
theorem oJ {S:List UInt8} (hS:∀b ∈ S,b≠32) {ns:List Int} (h:ns≠[]):bF 32 (fK S ns)=(S,dr ns,true):=by
 rw[ky ns S h,fw 32 S _ hS]
theorem mw {S:List UInt8} (hS:∀b ∈ S,b≠32):bF 32 (fK S [])=(S,[],false):=fQ 32 S hS
open Go
def fc (b:UInt8):Bool:= !(b == 32) && !(b == 10)
def bk (s:List UInt8):List UInt8:=s.takeWhile fc
def bY (s:List UInt8):List UInt8:=s.dropWhile fc
theorem kJ (s:List UInt8):bk s++bY s=s:=List.takeWhile_append_dropWhile
def rL:List UInt8->Prop
 | []=>True
 | b::_=>fc b=false
theorem jG:∀(x t:List UInt8),(∀b ∈ x,b≠32/\b≠10)->rL t->bk (x++t)=x/\bY (x++t)=t
 | [],[],_,_=>⟨rfl,rfl⟩
 | [],b::t,_,h=>by
  have hb:fc b=false:=h
  simp[bk,bY,hb]
 | b::x,t,hx,h=>by
  obtain ⟨h1,h2⟩:=jG x t (fun c hc=>hx c (by simp[hc])) h
  have hb:fc b=true:=by have:=hx b (by simp);simp[fc,this]
  unfold bk bY at*
  simp[hb,h1,h2]
def dS:List Int->List UInt8
 | []=>[]
 | n::r=>32::(Lib.itoa n++dS r)
theorem cV:∀(ns:List Int) (S:List UInt8),fK S ns=S++dS ns
 | [],S=>by simp[fK,dS]
 | n::r,S=>by
  have ih:=cV r (S++32::Lib.itoa n)
  show fK (S++32::Lib.itoa n) r=_
  rw[ih];simp[dS]
theorem kd (ns:List Int) {t:List UInt8} (h:rL t):rL (dS ns++t):=by
 cases ns with
 | nil=>exact h
 | cons n r=>show fc 32=false;rfl
theorem jb:∀(ns:List Int),∀b ∈ dS ns,b≠10
 | [],b,h=>by simp[dS] at h
 | n::r,b,h=>by
  simp only[dS,List.mem_cons,List.mem_append] at h
  rcases h with rfl|h|h
  ·decide
  ·exact (fe n b h).2
  ·exact jb r b h
noncomputable def aH:Nat->List UInt8->Option (List Int×List UInt8)
 | 0,s=>some ([],s)
 | _+1,[]=>none
 | k+1,b::s=>
  if b=32 then
   match fd (bk s) with
   | none=>none
   | some n=>match aH k (bY s) with
    | none=>none
    | some (ns,t)=>some (n::ns,t)
  else none
theorem fI:∀(ns:List Int) (t:List UInt8),(∀n ∈ ns,dj (Lib.itoa n) n)->rL t->aH ns.length (dS ns++t)=some (ns,t)
 | [],_,_,_=>rfl
 | n::r,t,hn,ht=>by
  have ih:=fI r t (fun z hz=>hn z (by simp[hz])) ht
  obtain ⟨h1,h2⟩:=jG (Lib.itoa n) (dS r++t) (fe n) (kd r ht)
  have hi:=dU (hn n (by simp))
  show aH (r.length+1) (32::(Lib.itoa n++dS r)++t)=_
  rw[List.cons_append,List.append_assoc]
  simp[aH,h1,h2,hi,ih]
theorem dW:∀(k:Nat) (s:List UInt8) (ns:List Int) (t:List UInt8),aH k s=some (ns,t)->s=dS ns++t/\ns.length=k/\∀n ∈ ns,dj (Lib.itoa n) n
 | 0,s,ns,t,h=>by
  simp only[aH,Option.some.injEq,Prod.mk.injEq] at h
  obtain ⟨rfl,rfl⟩:=h
  exact ⟨rfl,rfl,fun n hn=>by cases hn⟩
 | k+1,[],ns,t,h=>by simp[aH] at h
 | k+1,b::s,ns,t,h=>by
  unfold aH at h
  by_cases hb:b=32
  ·rw[if_pos hb] at h
   cases hi:fd (bk s) with
   | none=>rw[hi] at h;simp at h
   | some n=>
    rw[hi] at h
    cases hr:aH k (bY s) with
    | none=>rw[hr] at h;simp at h
    | some p=>
     obtain ⟨ms,u⟩:=p
     rw[hr] at h
     simp only[Option.some.injEq,Prod.mk.injEq] at h
     obtain ⟨rfl,rfl⟩:=h
     obtain ⟨e,hl,hm⟩:=dW k _ _ _ hr
     obtain ⟨e1,b0,b1⟩:=jn hi
     refine ⟨?_,by simp[hl],fun z hz=>?_⟩
     ·have:=kJ s
      rw[←e1,e] at this
      rw[hb,←this];simp[dS]
     ·rcases List.mem_cons.1 hz with rfl|hz
      ·exact ⟨rfl,b0,b1⟩
      ·exact hm z hz
  ·rw[if_neg hb] at h;cases h
noncomputable def aD (S:List UInt8) (k:Nat) (s:List UInt8):Option (List Int×List UInt8):=
 if S <+: s then
  match aH k (s.drop S.length) with
  | some (ns,b::t)=>if b=10 then some (ns,t) else none
  | _=>none
 else none
def cy (S:List UInt8) (ns:List Int):List UInt8:=fK S ns++[10]
theorem ir (S:List UInt8) (ns:List Int) (t:List UInt8) (hn:∀n ∈ ns,dj (Lib.itoa n) n):aD S ns.length (cy S ns++t)=some (ns,t):=by
 have e:cy S ns++t=S++(dS ns++10::t):=by simp[cy,cV]
 have h:=fI ns (10::t) hn rfl
 unfold aD
 rw[e,if_pos (List.prefix_append _ _),List.drop_left,h]
 simp
theorem bM {S:List UInt8} {k:Nat} {s:List UInt8} {ns:List Int} {t:List UInt8} (h:aD S k s=some (ns,t)):s=cy S ns++t/\ns.length=k/\∀n ∈ ns,dj (Lib.itoa n) n:=by
 unfold aD at h
 by_cases hp:S <+: s
 ·rw[if_pos hp] at h
  obtain ⟨u,rfl⟩:=hp
  rw[List.drop_left] at h
  split at h
  ·rename_i ms c v hr
   by_cases hc:c=10
   rotate_left
   ·rw[if_neg hc] at h;cases h
   rw[if_pos hc] at h
   subst hc
   simp only[Option.some.injEq,Prod.mk.injEq] at h
   obtain ⟨rfl,rfl⟩:=h
   obtain ⟨rfl,hl,hm⟩:=dW k _ _ _ hr
   exact ⟨by simp[cy,cV],hl,hm⟩
  ·cases h
 ·rw[if_neg hp] at h;cases h
open Go
def aO (S:List UInt8):List (List Int)->List UInt8
 | []=>[]
 | l::r=>cy S l++aO S r
noncomputable def aP (S:List UInt8) (k:Nat):Nat->List UInt8->Option (List (List Int)×List UInt8)
 | 0,_=>none
 | f+1,s=>
  if S <+: s then
   match aD S k s with
   | none=>none
   | some (ns,t)=>match aP S k f t with
    | none=>none
    | some (ls,u)=>some (ns::ls,u)
  else some ([],s)
theorem mb (S:List UInt8) (ns:List Int) (t:List UInt8):S <+: cy S ns++t:=by
 refine ⟨dS ns++10::t,?_⟩
 simp[cy,cV]
theorem fi (S:List UInt8) (k:Nat):∀(ls:List (List Int)) (f:Nat) (t:List UInt8),(∀l ∈ ls,l.length=k/\∀n ∈ l,dj (Lib.itoa n) n)->¬S <+: t->ls.length<f->aP S k f (aO S ls++t)=some (ls,t)
 | [],0,_,_,_,h=>by simp at h
 | [],f+1,t,_,ht,_=>by
  show aP S k (f+1) t=_
  unfold aP
  rw[if_neg ht]
 | l::r,0,_,_,_,h=>by simp at h
 | l::r,f+1,t,hl,ht,hf=>by
  have ih:=fi S k r f t (fun z hz=>hl z (by simp[hz])) ht (by simp at hf;omega)
  obtain ⟨h1,h2⟩:=hl l (by simp)
  have h3:=ir S l (aO S r++t) h2
  rw[h1] at h3
  have e:aO S (l::r)++t=cy S l++(aO S r++t):=by simp[aO]
  unfold aP
  rw[e,if_pos (mb S l _),h3]
  simp[ih]
theorem fh (S:List UInt8) (k:Nat):∀(f:Nat) (s:List UInt8) (ls:List (List Int)) (t:List UInt8),aP S k f s=some (ls,t)->s=aO S ls++t/\(∀l ∈ ls,l.length=k/\∀n ∈ l,dj (Lib.itoa n) n)/\¬S <+: t
 | 0,s,ls,t,h=>by simp[aP] at h
 | f+1,s,ls,t,h=>by
  unfold aP at h
  by_cases hp:S <+: s
  ·rw[if_pos hp] at h
   cases h1:aD S k s with
   | none=>rw[h1] at h;simp at h
   | some p=>
    obtain ⟨ns,u⟩:=p
    rw[h1] at h
    cases h2:aP S k f u with
    | none=>simp[h2] at h
    | some q=>
     obtain ⟨ms,v⟩:=q
     simp only[h2,Option.some.injEq,Prod.mk.injEq] at h
     obtain ⟨rfl,rfl⟩:=h
     obtain ⟨e1,hk,hn⟩:=bM h1
     obtain ⟨e2,hl,ht⟩:=fh S k f u ms v h2
     refine ⟨by rw[e1,e2];simp[aO],fun z hz=>?_,ht⟩
     rcases List.mem_cons.1 hz with rfl|hz
     ·exact ⟨hk,hn⟩
     ·exact hl z hz
  ·rw[if_neg hp] at h
   simp only[Option.some.injEq,Prod.mk.injEq] at h
   obtain ⟨rfl,rfl⟩:=h
   exact ⟨rfl,(fun z hz=>by cases hz),hp⟩
theorem pz {S:List UInt8} (hS:∀b ∈ S,b≠10) (ns:List Int):∀b ∈ fK S ns,b≠10:=by
 intro b hb
 rw[cV] at hb
 rcases List.mem_append.1 hb with hb|hb
 ·exact hS b hb
 ·exact jb ns b hb
theorem qF {S:List UInt8} (hS:∀b ∈ S,b≠10) (ns:List Int) (t:List UInt8):bF 10 (cy S ns++t)=(fK S ns,t,true):=by
 have e:cy S ns++t=fK S ns++10::t:=by simp[cy]
 rw[e]
 exact fw 10 _ _ (pz hS ns)
open Go
theorem pH (b:UInt8):([32,10]:List UInt8).contains b= !fc b:=by
 unfold fc
 by_cases h1:b=32
 ·subst h1;rfl
 ·by_cases h2:b=10
  ·subst h2;rfl
  ·simp[h1,h2]
theorem jl:∀s:List UInt8,(Lib.indexAny s [32,10]= -1/\bk s=s/\bY s=[])\/(∃i:Nat,Lib.indexAny s [32,10]=i/\i<s.length/\bk s=s.take i/\bY s=s.drop i)
 | []=>Or.inl ⟨rfl,rfl,rfl⟩
 | b::l=>by
  have hc:=pH b
  cases hb:fc b with
  | false=>
   rw[hb] at hc
   refine Or.inr ⟨0,?_,by simp,?_,?_⟩
   ·rw[Lib.indexAny,hc];rfl
   ·simp[bk,hb]
   ·simp[bY,hb]
  | true=>
   rw[hb] at hc
   rcases jl l with ⟨h1,h2,h3⟩|⟨i,h1,h0,h2,h3⟩
   ·refine Or.inl ⟨?_,?_,?_⟩
    ·rw[Lib.indexAny,hc,h1];rfl
    ·unfold bk at h2 ⊢
     simp[hb,h2]
    ·unfold bY at h3 ⊢
     rw[List.dropWhile_cons,hb];exact h3
   ·refine Or.inr ⟨i+1,?_,by simp;omega,?_,?_⟩
    ·rw[Lib.indexAny,hc,h1]
     have:((i:Int) == -1)=false:=by simp
     simp[this]
    ·unfold bk at h2 ⊢
     simp[hb,h2]
    ·unfold bY at h3 ⊢
     rw[List.dropWhile_cons,hb];simpa using h3
end
section
open Go.RowKit
theorem ig (s:ByteArray) (i j:Nat):(s.extract i j).data.toList=(s.data.toList.drop i).take (j-i):=by
 rw[ByteArray.data_extract]
 simp
theorem ca {x y:ByteArray} (h:x.data.toList=y.data.toList):x=y:=by
 apply ByteArray.ext
 exact Array.toList_inj.1 h
theorem dB (s:ByteArray):s.data.toList.length=s.size:=by simp
theorem rV (s:ByteArray) (k:Nat) (h:k<s.size):s.data.toList[k]'(by simpa using h)=s[k]:=rfl
theorem gv (s:ByteArray) (k:Nat) (h:k<s.size):s.data.toList.take (k+1)=s.data.toList.take k++[s[k]]:=by
 rw[List.take_succ_eq_append_getElem (by simpa using h)];rfl
def pQ (c:UInt8) (s:ByteArray) (k:Nat):Prop:=∀b ∈ s.data.toList.take k,b≠c
theorem pQ.step {c:UInt8} {s:ByteArray} {k:Nat} (h:pQ c s k) (hk:k<s.size) (hc:s[k]≠c):pQ c s (k+1):=by
 intro b hb
 rw[gv s k hk] at hb
 rcases List.mem_append.1 hb with h1|h1
 ·exact h b h1
 ·simp at h1;rw[h1];exact hc
theorem pQ.hit {c:UInt8} {s:ByteArray} {k:Nat} (h:pQ c s k) (hk:k<s.size) (hc:s[k]=c):bF c s.data.toList=((s.extract 0 k).data.toList,(s.extract (k+1) s.size).data.toList,true):=by
 have e:s.data.toList=s.data.toList.take k++c::s.data.toList.drop (k+1):=by
  conv=>lhs;rw[←List.take_append_drop k s.data.toList]
  rw[List.drop_eq_getElem_cons (by simpa using hk)]
  rw[rV s k hk,hc]
 have:=fw c (s.data.toList.take k) (s.data.toList.drop (k+1)) h
 rw[←e] at this
 rw[this,ig,ig]
 simp
 rw[List.take_of_length_le (by simp)]
theorem pQ.miss {c:UInt8} {s:ByteArray} {k:Nat} (h:pQ c s k) (hk:s.size<=k):bF c s.data.toList=(s.data.toList,[],false):=by
 apply fQ
 unfold pQ at h
 rwa [List.take_of_length_le (by simpa using hk)] at h
def mZ (c:UInt8) (s:ByteArray) (w:World) (e:Ending) (w':World):Prop:=∃x y b,e=.returned (.tuple #[.string x,.string y,.bool b])/\bF c s.data.toList=(x.data.toList,y.data.toList,b)/\x.size<=s.size/\y.size<=s.size/\(b=true->y.size<s.size)/\Below w.heap.size w w'
theorem kb (a b:UInt8):(((a.toNat:Int) == (b.toNat:Int))=true↔a=b)/\(((a.toNat:Int) == (b.toNat:Int))=false↔a≠b):=by
 constructor
 ·rw[beq_iff_eq]
  exact ⟨fun h=>UInt8.toNat_inj.1 (by omega),fun h=>by rw[h]⟩
 ·rw[beq_eq_false_iff_ne]
  exact ⟨fun h e=>h (by rw[e]),fun h e=>h (UInt8.toNat_inj.1 (by omega))⟩
set_option maxHeartbeats 1000000 in
theorem iQ (c:UInt8) (s:ByteArray) (w:World) (hs:s.size<=1048576):
  Calls Tryz.prog 50 #[.string s,.int .u8 (c.toNat:Int)] w fun e w'=>mZ c s w e w':=by
 go_enter Tryz.func50,Tryz.ntmps50
 go_wp2
 go_loop [7] (fun i=>∃k:Nat,k<=s.size/\i=.int .i64 k/\Hid (pQ c s k)) (fun i=>s.size-(intOf i).toNat)
 case atStart=>exact ⟨0,Nat.zero_le _,rfl,(fun b hb=>by simp at hb:pQ c s 0)⟩
 case round=>
  obtain ⟨k,hk,rfl,hN⟩:=hrel
  by_cases hlt:k<s.size
  ·by_cases hc:s[k]=c
   ·have FI:Hid (mZ c s w (.returned (.tuple #[.string (s.extract 0 k),.string (s.extract (k+1) s.size),.bool true])) w.drew):=⟨_,_,_,rfl,hN.out.hit hlt hc,by rw[ByteArray.size_extract];omega,by rw[ByteArray.size_extract];omega,fun _=>by rw[ByteArray.size_extract];omega,(Below.refl _ _).drew⟩
    have hb:=(kb s[k] c).1.2 hc
    clear hc hN
    go_wp2_with fail
    go_region
    all_goals go_wp2
    all_goals refine bodyPost_ret (v:=.tuple #[.string (s.extract 0 k),.string (s.extract (k+1) s.size),.bool true]) (by simp[results,Tryz.results50,go_sem]) rfl ?_
    all_goals exact FI.out
   ·have hb:=(kb s[k] c).2.2 hc
    have HN:Hid (pQ c s (k+1)):=hN.out.step hlt hc
    clear hc hN
    go_wp2
    go_round
    case rel=>exact ⟨k+1,by omega,by go_num,HN⟩
    case measure=>simp[intOf];omega
  ·have FI:Hid (mZ c s w (.returned (.tuple #[.string s,.string ⟨#[]⟩,.bool false])) w):=⟨_,_,_,rfl,hN.out.miss (by omega),Nat.le_refl _,Nat.zero_le _,(fun h=>by cases h),Below.refl _ _⟩
   clear hN
   go_wp2
   refine bodyPost_ret (v:=.tuple #[.string s,.string ⟨#[]⟩,.bool false]) (by simp[results,Tryz.results50,go_sem]) rfl ?_
   exact FI.out
def aL (s:ByteArray) (w:World) (e:Ending) (w':World):Prop:=Below w.heap.size w w'/\((∃n,fd s.data.toList=some n/\e=.returned (.tuple #[.int .i64 n,.bool true]))\/(fd s.data.toList=none/\e=.returned (.tuple #[.int .i64 0,.bool false])))
theorem aL.no {s:ByteArray} {w w':World} (hb:Below w.heap.size w w') (h:iU s.data.toList\/¬(∀b ∈ cJ s.data.toList,gQ b)):aL s w (.returned (.tuple #[.int .i64 0,.bool false])) w':=⟨hb,Or.inr ⟨if_pos h,rfl⟩⟩
theorem aL.yes {s:ByteArray} {w w':World} (hb:Below w.heap.size w w') (h:¬iU s.data.toList) (hd:∀b ∈ cJ s.data.toList,gQ b) {n:Int} (hn:n=if fr s.data.toList then -(dC 0 (cJ s.data.toList):Int) else (dC 0 (cJ s.data.toList):Int)):aL s w (.returned (.tuple #[.int .i64 n,.bool true])) w':=by
 refine ⟨hb,Or.inl ⟨n,?_,rfl⟩⟩
 rw[hn]
 exact if_neg (fun e=>e.elim h (fun e=>e hd))
theorem pM (l:List UInt8) (b:UInt8):dC 0 (l++[b])=dC 0 l*10+(b.toNat-48):=by rw[gP];rfl
def bI (t:ByteArray) (k:Nat) (n:Int):Prop:=(∀b ∈ t.data.toList.take k,gQ b)/\n=(dC 0 (t.data.toList.take k):Int)
theorem tH {k:Nat} (h:k<=16):nP k<=10000000000000000:=by
 have:=mn h
 have e:nP 16=10000000000000000:=by decide
 omega
theorem bI.bd {t:ByteArray} {k:Nat} {n:Int} (h:bI t k n) (hk:k<=16):0<=n/\n<10000000000000000:=by
 obtain ⟨h1,rfl⟩:=h
 have:=oS (t.data.toList.take k) 0 h1
 have h2:(t.data.toList.take k).length<=16:=by rw[List.length_take];omega
 have:=tH h2
 omega
theorem bI.step {t:ByteArray} {k:Nat} {n:Int} (h:bI t k n) (hk:k<t.size) (h1:48<=(t[k].toNat:Int)) (h2:(t[k].toNat:Int)<=57):bI t (k+1) (n*10+((t[k].toNat:Int)-48)):=by
 obtain ⟨g1,rfl⟩:=h
 refine ⟨?_,?_⟩
 ·intro b hb
  rw[gv t k hk] at hb
  rcases List.mem_append.1 hb with h|h
  ·exact g1 b h
  ·simp at h;rw[h];exact ⟨by omega,by omega⟩
 ·rw[gv t k hk,pM]
  omega
theorem dV {t:ByteArray} {k:Nat} (hk:k<t.size) (h:(t[k].toNat:Int)<48\/57<(t[k].toNat:Int)):¬∀b ∈ t.data.toList,gQ b:=by
 intro hd
 have:=hd t[k] (by rw[←rV t k hk];exact List.getElem_mem _)
 obtain ⟨h1,h2⟩:=this
 omega
theorem qi {t:ByteArray} {k:Nat} {n:Int} (h:bI t k n) (hk:t.size<=k):(∀b ∈ t.data.toList,gQ b)/\n=(dC 0 t.data.toList:Int):=by
 unfold bI at h
 rwa [List.take_of_length_le (by simpa using hk)] at h
theorem rW {t:ByteArray} (h:0<t.size):(t.data.toList.head? =some 48↔t[0]=48):=by
 rw[List.head?_eq_getElem?,List.getElem?_eq_getElem (by simpa using h),rV t 0 h]
 simp
theorem om {t:ByteArray} (h:0<t.size):(t.data.toList.head? =some 45↔t[0]=45):=by
 rw[List.head?_eq_getElem?,List.getElem?_eq_getElem (by simpa using h),rV t 0 h]
 simp
end
section
open Go.RowKit
theorem ph {b:UInt8}:((b.toNat:Int)=48)↔b=48:=⟨fun h=>UInt8.toNat_inj.1 (by show b.toNat=48;omega),fun h=>by rw[h];rfl⟩
theorem tX {b:UInt8}:((b.toNat:Int)=45)↔b=45:=⟨fun h=>UInt8.toNat_inj.1 (by show b.toNat=45;omega),fun h=>by rw[h];rfl⟩
theorem sc {s t:ByteArray} (h1:1<s.size) (h2:s[0]=45) (ht:s.extract 1 s.size=t):fr s.data.toList=true/\cJ s.data.toList=t.data.toList:=by
 have hn:fr s.data.toList=true:=by
  unfold fr
  rw[(om (by omega)).2 h2]
  simp
  omega
 refine ⟨hn,?_⟩
 unfold cJ
 rw[if_pos hn,←ht,ig,List.take_of_length_le (by simp)]
 simp
theorem oD {s:ByteArray} (h:s.size<=1\/∃h:0<s.size,s[0]≠45):fr s.data.toList=false/\cJ s.data.toList=s.data.toList:=by
 have hn:fr s.data.toList=false:=by
  unfold fr
  rcases h with h|⟨h0,h⟩
  ·simp;omega
  ·have:=mt (om h0).1 h
   simp[this]
 refine ⟨hn,?_⟩
 unfold cJ
 rw[if_neg (by rw[hn];simp)]
def Z (t:ByteArray):Prop:=∃h:0<t.size,t[0]=48
theorem oa {s t:ByteArray} {g:Bool} (hg:fr s.data.toList=g) (hm:cJ s.data.toList=t.data.toList):iU s.data.toList↔(t.size<1\/16<t.size\/(Z t/\(1<t.size\/g=true))):=by
 unfold iU
 rw[hg,hm,dB]
 by_cases h0:0<t.size
 ·rw[rW h0]
  have:Z t↔t[0]=48:=⟨fun h=>h.2,fun h=>⟨h0,h⟩⟩
  rw[this]
 ·constructor <;>intro _ <;>exact Or.inl (by omega)
def iK (g:Bool) (t:ByteArray) (s:ByteArray) (w:World):Prop:=
 (∀W,Below w.heap.size w W->(t.size<1\/16<t.size\/(Z t/\(1<t.size\/g=true)))->aL s w (.returned (.tuple #[.int .i64 0,.bool false])) W)/\
 (∀W,Below w.heap.size w W->(¬∀b ∈ t.data.toList,gQ b)->aL s w (.returned (.tuple #[.int .i64 0,.bool false])) W)/\
 (∀W k n,Below w.heap.size w W->¬(t.size<1\/16<t.size\/(Z t/\(1<t.size\/g=true)))->bI t k n->t.size<=k->aL s w (.returned (.tuple #[.int .i64 (if g then -n else n),.bool true])) W)
theorem lb {g:Bool} {s t:ByteArray} {w:World} (hg:fr s.data.toList=g) (hm:cJ s.data.toList=t.data.toList):iK g t s w:=by
 refine ⟨fun W hb h=>aL.no hb (Or.inl ((oa hg hm).2 h)),fun W hb h=>aL.no hb (Or.inr (by rw[hm];exact h)),fun W k n hb h hd hk=>?_⟩
 obtain ⟨h1,h2⟩:=qi hd hk
 refine aL.yes hb (fun e=>h ((oa hg hm).1 e)) (by rw[hm];exact h1) ?_
 rw[hg,hm,h2]
end
end Go.Proofs.YtjhgchlfpolkcaaGreatDoor
