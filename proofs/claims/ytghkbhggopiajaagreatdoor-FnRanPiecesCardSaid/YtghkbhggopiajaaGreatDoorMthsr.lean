/- What an op that is done leaves. -/
import Derived.Test.YtghkbhggopiajaaGreatDoorDoneIr
namespace Go.Proofs.YtghkbhggopiajaaGreatDoor
def vP (k m:Int):Int:=if k=5 then m else if k=6 then -m else 0
theorem oU {L l:List aj} {k i t m r:Int} (h:am L k i t m r=(0,l)):az k i t m r/\ag L k i t m r=(0,l)/\al (FL l) l.length:=by
 unfold am at h
 split at h
 ·rename_i ho
  unfold bm at h
  split at h
  ·split at h
   ·rename_i h0 hr
    rw[h] at hr
    exact ⟨ho,h,hr⟩
   ·simp at h
  ·rename_i h0
   simp only[Prod.mk.injEq] at h
   exact absurd h.1 h0
 ·simp at h
inductive tV (L:List aj) (k i t m r:Int) (l:List aj):Prop
 | opened (h1:k=1) (hno:ao (FL L) L.length i=none) (hl:l=L.take (dE L i)++(⟨i,t,m,r,-1,false,0,0⟩:aj)::L.drop (dE L i))
 | frozen (p:Nat) (h1:k=2) (hp:ao (FL L) L.length i=some p) (hf:(FL L p).frozen=false) (hl:l=L.set p {FL L p with frozen:=true})
 | thawed (p:Nat) (h1:k=3) (hp:ao (FL L) L.length i=some p) (hf:(FL L p).frozen=true) (hl:l=L.set p {FL L p with frozen:=false})
 | closed (p:Nat) (h1:k=4) (hp:ao (FL L) L.length i=some p) (hf:(FL L p).frozen=false) (hb:(FL L p).balance=0) (hk:bZ (FL L) (FL L p).id L.length=[]) (hl:l=L.take p++L.drop (p+1))
 | put (p:Nat) (h1:k=5) (hp:ao (FL L) L.length i=some p) (hf:(FL L p).frozen=false) (hl:l=L.set p {FL L p with balance:=(FL L p).balance+m})
 | taken (p:Nat) (h1:k=6) (hp:ao (FL L) L.length i=some p) (hf:(FL L p).frozen=false) (hs:¬(eT (FL L) L.length [] p).getD 0<m) (hl:l=L.set p {FL L p with balance:=(FL L p).balance-m})
 | paid (p q:Nat) (h1:k=7) (hp:ao (FL L) L.length i=some p) (hq:ao (FL L) L.length t=some q) (hf:(FL L p).frozen=false) (hg:(FL L q).frozen=false) (hs:¬dj L p q m) (hl:l=(L.set p {FL L p with balance:=(FL L p).balance-m}).set q {FL L q with balance:=(FL L q).balance+m})
 | limited (p:Nat) (h1:k=8) (hp:ao (FL L) L.length i=some p) (hl:l=L.set p {FL L p with limit:=m})
 | hung (p q:Nat) (h1:k=9) (hp:ao (FL L) L.length i=some p) (hq:ao (FL L) L.length t=some q) (hu:(FL L p).up≠0) (hn:(FL L p).id ∉ aB (FL L) L.length q) (hs:¬cJ L p q ((ao (FL L) L.length (FL L p).up).getD 0)) (hl:l=L.set p {FL L p with up:=(FL L q).id})
 | aimed (p:Nat) (h1:k=10) (hp:ao (FL L) L.length i=some p) (hl:l=L.set p {FL L p with target:=m})
theorem vz {L l:List aj} {k i t m r:Int} (ho:az k i t m r) (h:ag L k i t m r=(0,l)):tV L k i t m r l:=by
 unfold ag at h
 split at h
 ·rename_i h1
  unfold cj at h
  split at h
  ·simp at h
  ·rename_i hno
   split at h
   ·simp at h
   ·simp only[Prod.mk.injEq,true_and] at h
    exact .opened h1 (by simpa using hno) h.symm
 ·rename_i h1
  cases hp:ao (FL L) L.length i with
  | none=>rw[hp] at h;simp at h
  | some p=>
   rw[hp] at h
   simp only at h
   split at h
   ·rename_i h7
    cases hq:ao (FL L) L.length t with
    | none=>rw[hq] at h;simp at h
    | some q=>
     rw[hq] at h
     simp only at h
     unfold dh at h
     split at h
     ·simp at h
     ·rename_i hf
      split at h
      ·simp at h
      ·rename_i hs
       simp only[Prod.mk.injEq,true_and] at h
       exact .paid p q h7 hp hq (by simp at hf;exact hf.1) (by simp at hf;exact hf.2) hs h.symm
   ·rename_i h7
    split at h
    ·rename_i h9
     cases hq:ao (FL L) L.length t with
     | none=>rw[hq] at h;simp at h
     | some q=>
      rw[hq] at h
      simp only at h
      unfold bR at h
      split at h
      ·simp at h
      ·rename_i hu
       split at h
       ·simp at h
       ·rename_i hs
        simp only[Prod.mk.injEq,true_and] at h
        exact .hung p q h9 hp hq (fun e=>hu (Or.inl e)) (fun e=>hu (Or.inr e)) hs h.symm
    ·rename_i h9
     have hk:k=2\/k=3\/k=4\/k=5\/k=6\/k=8\/k=10:=by unfold az at ho;omega
     rcases hk with rfl|rfl|rfl|rfl|rfl|rfl|rfl
     ·by_cases hf:(FL L p).frozen=true
      ·simp[aJ,hf] at h
      ·simp[aJ,hf] at h
       exact .frozen p rfl hp (by simpa using hf) h.symm
     ·by_cases hf:(FL L p).frozen=true
      ·simp[aJ,hf] at h
       exact .thawed p rfl hp hf h.symm
      ·simp[aJ,hf] at h
     ·by_cases hf:(FL L p).frozen=true
      ·simp[aJ,hf] at h
      ·have e:aJ L p 4 m=bJ L p:=by simp[aJ,hf]
       rw[e] at h
       unfold bJ at h
       split at h
       ·simp at h
       ·rename_i hb
        simp only[Prod.mk.injEq,true_and] at h
        refine .closed p rfl hp (by simpa using hf) ?_ ?_ h.symm
        ·exact Classical.byContradiction fun e=>hb (Or.inl e)
        ·exact Classical.byContradiction fun e=>hb (Or.inr e)
     ·by_cases hf:(FL L p).frozen=true
      ·simp[aJ,hf] at h
      ·have e:aJ L p 5 m=(0,L.set p {FL L p with balance:=(FL L p).balance+m}):=by simp[aJ,hf]
       rw[e] at h
       simp only[Prod.mk.injEq,true_and] at h
       exact .put p rfl hp (by simpa using hf) h.symm
     ·by_cases hf:(FL L p).frozen=true
      ·simp[aJ,hf] at h
      ·have e:aJ L p 6 m=dy L p m:=by simp[aJ,hf]
       rw[e] at h
       unfold dy at h
       split at h
       ·simp at h
       ·rename_i hs
        simp only[Prod.mk.injEq,true_and] at h
        exact .taken p rfl hp (by simpa using hf) hs h.symm
     ·by_cases hf:(FL L p).up=0/\m<0
      ·simp[aJ,hf] at h
      ·simp[aJ,hf] at h
       exact .limited p rfl hp h.symm
     ·by_cases hf:(FL L p).up=0
      ·simp[aJ,hf] at h
      ·simp[aJ,hf] at h
       exact .aimed p rfl hp h.symm
end Go.Proofs.YtghkbhggopiajaaGreatDoor
namespace Go.Proofs.YtghkbhggopiajaaGreatDoor
theorem qx {L l:List aj} {i t m r:Int} (hR:al (FL L) L.length) (ho:az 7 i t m r) (h:tV L 7 i t m r l):l.length=L.length/\∀z,z<L.length->(FL l z).id=(FL L z).id/\(FL l z).balance=(FL L z).balance+((if (FL L z).id=i then -m else 0)+(if (FL L z).id=t then m else 0)):=by
 cases h with
 | opened h1=>cases h1
 | frozen p h1=>cases h1
 | thawed p h1=>cases h1
 | closed p h1=>cases h1
 | put p h1=>cases h1
 | taken p h1=>cases h1
 | limited p h1=>cases h1
 | hung p q h1=>cases h1
 | aimed p h1=>cases h1
 | paid p q h1 hp hq hf hg hs hll=>
  obtain ⟨hpL,hip⟩:=ar hp
  obtain ⟨hqL,hiq⟩:=ar hq
  have hit:i≠t:=by unfold az at ho;omega
  have hpq:q≠p:=fun e=>by subst e;exact hit (hip.symm.trans hiq)
  refine ⟨by rw[hll];simp,fun z hz=>?_⟩
  have ez:((FL L z).id=i)↔z=p:=⟨fun e=>hR.inj hz hpL (by rw[e,hip]),fun e=>by rw[e,hip]⟩
  have ez':((FL L z).id=t)↔z=q:=⟨fun e=>hR.inj hz hqL (by rw[e,hiq]),fun e=>by rw[e,hiq]⟩
  simp only[ez,ez']
  rw[hll]
  by_cases e:z=q
  ·subst e
   rw[cH _ (by simpa using hz)]
   simp[hpq]
  ·rw[fS _ e]
   by_cases e':z=p
   ·subst e'
    rw[cH _ hz]
    simp[e];omega
   ·rw[fS _ e']
    simp[e,e']
end Go.Proofs.YtghkbhggopiajaaGreatDoor
