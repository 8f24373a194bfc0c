/- The marks that the laws lay into accounts. -/
import Derived.Test.YtghkbhggopiajaaGreatDoorDoneIq
set_option maxHeartbeats 2000000
set_option maxRecDepth 8000
namespace Go.Proofs.YtghkbhggopiajaaGreatDoor
open Go.RowKit
theorem grown_transAcc {a b c:World} {row:Option Nat} (h:a.grownBy b row) (k:b.grownBy c row):a.grownBy c row:=
 ⟨k.os.trans h.os,k.tape.trans h.tape,k.output.trans h.output,Nat.le_trans h.size k.size,fun i hi hn=>(k.block i (Nat.lt_of_lt_of_le hi h.size) hn).trans (h.block i hi hn)⟩
theorem grown_set1Acc (w:World) (R o:Nat) (u:Value):w.grownBy (w.setCell ⟨R,o,none⟩ u) (some R):=
 ⟨rfl,rfl,rfl,by simp[World.setCell],fun k _ hn=>Below.heap_setCell _ _ _ _ (fun e=>hn (by rw[e]))⟩
theorem grown_set8 (w:World) (R p:Nat) (A:Acc):w.grownBy (set8 w R p A) (some R):=by
 unfold set8
 exact grown_transAcc (grown_transAcc (grown_transAcc (grown_transAcc (grown_transAcc (grown_transAcc (grown_transAcc (grown_set1Acc w R p _) (grown_set1Acc _ R (p+1) _)) (grown_set1Acc _ R (p+2) _)) (grown_set1Acc _ R (p+3) _)) (grown_set1Acc _ R (p+4) _)) (grown_set1Acc _ R (p+5) _)) (grown_set1Acc _ R (p+6) _)) (grown_set1Acc _ R (p+7) _)
def markAcc (k0:Int) (i:Nat):Acc:=⟨k0+8*(i:Int),k0+8*(i:Int)+1,k0+8*(i:Int)+1+1,k0+8*(i:Int)+1+1+1,k0+8*(i:Int)+1+1+1+1,(k0+8*(i:Int)+1+1+1+1+1) % 3 == 0,k0+8*(i:Int)+1+1+1+1+1+1,k0+8*(i:Int)+1+1+1+1+1+1+1⟩
def MarkedAcc (k0:Int) (j:Nat) (L:List Acc):Prop:=∀i,i<j->FL L i=markAcc k0 i
theorem markAccs (B:Nat) (v:Value) (l:List Acc) (k0:Int) (w:World) (hl:l.length<=1048576) (k1:0<=k0) (k2:k0<=100000000) (h:AL w B v l):
  Calls Tryz.prog 39 #[v,.int .i64 k0] w fun e w'=>e=.returned (.int .i64 (k0+8*(l.length:Int)))/\(∃L,L.length=l.length/\MarkedAcc k0 l.length L/\AL w' B v L)/\w.grownBy w' v.ownBlock:=by
 obtain ⟨a,m,hv,_,sh⟩:=h.shape
 by_cases h0:l.length=0
 ·have hl0:l=[]:=List.length_eq_zero_iff.1 h0
  subst hl0
  subst hv
  have H:=hidOf h
  clear h sh
  simp only[List.length_nil]
  go_enter Tryz.func39,Tryz.ntmps39
  go_wp2
  refine wp_loop_rounds 1 ?_
  rw[rounds_succ]
  go_wp2
  go_ret
  exact ⟨congrArg (fun x=>Ending.returned (.int .i64 x)) (by simp),⟨[],rfl,fun i hi=>absurd hi (Nat.not_lt_zero _),H.out⟩,World.grownBy.refl _ _⟩
 ·obtain ⟨g,rfl,hg1,hg2,hx0⟩:=sh 0 (by omega)
  clear hx0
  subst hv
  have H:=hidOf h
  clear h sh
  generalize hn:l.length=n at*
  have HN:=hidOf hn
  clear hn
  go_enter Tryz.func39,Tryz.ntmps39
  go_wp2
  go_loopw[1,5] (fun t i wr=>∃(k:Nat) (L:List Acc),k<=n/\i=.int .i64 k/\t=.int .i64 (k0+8*(k:Int))/\Hid (L.length=n)/\Hid (MarkedAcc k0 k L)/\Hid (AL wr B (.slice (some ⟨g,0,none⟩) n m) L)/\Hid (w.grownBy wr (some g))) (fun _ i _=>n-(intOf i).toNat)
  case atStart=>exact ⟨0,l,Nat.zero_le _,rfl,by simp,HN,fun i hi=>absurd hi (Nat.not_lt_zero _),H,World.grownBy.refl _ _⟩
  case round=>
   obtain ⟨k,L,hk,rfl,rfl,hL,hM,hI,hG⟩:=hrel
   by_cases hlt:k<n
   ·obtain ⟨a',m',e',_,sh⟩:=hI.out.shape
    obtain ⟨g',ea,_,_,cc⟩:=sh k (by rw[hL.out];exact hlt)
    have eg:g=g':=by
     have:=congrArg Value.ownBlock e'
     rw[ea] at this
     simpa [Value.ownBlock] using this
    subst eg
    clear e' sh ea
    have hi':AL wr B (.slice (some ⟨g,0,none⟩) L.length m) L:=by rw[hL.out];exact hI.out
    have fz:∀j,wr.frozen? ⟨g,j,none⟩=false:=fun j=>World.ownsRow.frozenAt hi' j
    have st:=hi'.stored8 (p:=k) (by rw[hL.out];exact hlt) (markAcc k0 k)
    have ST:Hid (AL (set8 wr g (k*8) (markAcc k0 k)) B (.slice (some ⟨g,0,none⟩) n m) (L.set k (markAcc k0 k))):=by
     rw[hL.out] at st;exact st
    have GR:Hid (w.grownBy (set8 wr g (k*8) (markAcc k0 k)) (some g)):=grown_transAcc hG.out (grown_set8 _ _ _ _)
    have HM:Hid (MarkedAcc k0 (k+1) (L.set k (markAcc k0 k))):=fun i hi=>by
     by_cases e:i=k
     ·subst e
      exact FL_set_at _ (by rw[hL.out];exact hlt)
     ·rw[FL_set_ne _ e]
      exact hM.out i (by omega)
    have HL:Hid ((L.set k (markAcc k0 k)).length=n):=(by rw[List.length_set,hL.out]:(L.set k (markAcc k0 k)).length=n)
    clear st hi'
    obtain ⟨c0,c1,c2,c3,c4,c5,c6,c7⟩:=cc
    have ES:Hid (set8 wr g (k*8) (markAcc k0 k)=set8 wr g (k*8) (markAcc k0 k)):=rfl
    unfold set8 markAcc at ST GR
    simp only at ST GR
    go_wp2
    go_roundw
    case rel=>exact ⟨k+1,L.set k (markAcc k0 k),by omega,by go_num,by go_num,HL,HM,ST,GR⟩
    case measure=>simp[intOf];omega
   ·have hkn:k=n:=by omega
    subst hkn
    go_wp2
    go_ret
    exact ⟨rfl,⟨L,hL.out,hM.out,hI.out⟩,hG.out⟩
theorem heldAccs (B:Nat) (v:Value) (L:List Acc) (k0:Int) (w:World) (hl:L.length<=1048576) (k1:0<=k0) (k2:k0<=100000000) (h:AL w B v L) (hM:MarkedAcc k0 L.length L):
  Calls Tryz.prog 40 #[v,.int .i64 k0] w fun e w'=>e=.returned (.int .i64 (k0+8*(L.length:Int)))/\w'=w:=by
 obtain ⟨a,m,rfl,_,sh⟩:=h.shape
 have S:Hid (∀i,i<L.length->∃g,a=some ⟨g,0,none⟩/\AccAt w g (i*8) (markAcc k0 i)):=fun i hi=>by
  obtain ⟨g,e,_,_,hc⟩:=sh i hi
  have:=hM i hi
  rw[FL_lt hi] at this
  rw[this] at hc
  exact ⟨g,e,hc⟩
 clear sh h hM
 generalize hn:L.length=n at*
 clear hn
 go_enter Tryz.func40,Tryz.ntmps40
 go_wp2
 go_loop [1,5] (fun t i=>∃k:Nat,k<=n/\i=.int .i64 k/\t=.int .i64 (k0+8*(k:Int))) (fun _ i=>n-(intOf i).toNat)
 case atStart=>exact ⟨0,Nat.zero_le _,rfl,by simp⟩
 case round=>
  obtain ⟨k,hk,rfl,rfl⟩:=hrel
  by_cases hlt:k<n
  ·obtain ⟨g,rfl,cc⟩:=S.out k hlt
   obtain ⟨c0,c1,c2,c3,c4,c5,c6,c7⟩:=cc
   simp only[markAcc] at c0 c1 c2 c3 c4 c5 c6 c7
   go_wp2
   go_round
   case rel=>exact ⟨k+1,by omega,by go_num,by go_num⟩
   case measure=>simp[intOf];omega
  ·have hkn:k=n:=by omega
   subst hkn
   go_wp2
   go_ret
   exact ⟨rfl,rfl⟩
open Go.RowKit
def Cells8 (w:World) (R m:Nat):Prop:=(∀o,o<m->(w.cell? ⟨R,o,none⟩).isSome=true)/\(∀o,w.frozen? ⟨R,o,none⟩=false)/\R<w.heap.size
theorem Cells8.set {w:World} {R m:Nat} (h:Cells8 w R m) (o:Nat) (u:Value):Cells8 (w.setCell ⟨R,o,none⟩ u) R m:=by
 refine ⟨fun q hq=>?_,fun q=>by rw[World.frozen?_setCell];exact h.2.1 q,by simpa [World.setCell] using h.2.2⟩
 obtain ⟨v,hv⟩:=Option.isSome_iff_exists.1 (h.1 q hq)
 obtain ⟨v',hv'⟩:=cell?_setCell_some (p:=⟨R,o,none⟩) (x:=u) hv
 rw[hv'];rfl
theorem markRow (R n m:Nat) (k0:Int) (w:World) (hn:n<=1048576) (k1:0<=k0) (k2:k0<=100000000) (h:Cells8 w R (n*8)):
  Calls Tryz.prog 39 #[.slice (some ⟨R,0,none⟩) n m,.int .i64 k0] w fun e w'=>e=.returned (.int .i64 (k0+8*(n:Int)))/\w.grownBy w' (some R):=by
 have H:=hidOf h
 clear h
 go_enter Tryz.func39,Tryz.ntmps39
 go_wp2
 go_loopw[1,5] (fun t i wr=>∃k:Nat,k<=n/\i=.int .i64 k/\t=.int .i64 (k0+8*(k:Int))/\Hid (Cells8 wr R (n*8))/\Hid (w.grownBy wr (some R))) (fun _ i _=>n-(intOf i).toNat)
 case atStart=>exact ⟨0,Nat.zero_le _,rfl,by simp,H,World.grownBy.refl _ _⟩
 case round=>
  obtain ⟨k,hk,rfl,rfl,hC,hG⟩:=hrel
  by_cases hlt:k<n
  ·obtain ⟨s1,s2,s3⟩:=hC.out
   obtain ⟨v0,e0⟩:=Option.isSome_iff_exists.1 (s1 (k*8) (by omega))
   obtain ⟨v1,e1⟩:=Option.isSome_iff_exists.1 (s1 (k*8+1) (by omega))
   obtain ⟨v2,e2⟩:=Option.isSome_iff_exists.1 (s1 (k*8+2) (by omega))
   obtain ⟨v3,e3⟩:=Option.isSome_iff_exists.1 (s1 (k*8+3) (by omega))
   obtain ⟨v4,e4⟩:=Option.isSome_iff_exists.1 (s1 (k*8+4) (by omega))
   obtain ⟨v5,e5⟩:=Option.isSome_iff_exists.1 (s1 (k*8+5) (by omega))
   obtain ⟨v6,e6⟩:=Option.isSome_iff_exists.1 (s1 (k*8+6) (by omega))
   obtain ⟨v7,e7⟩:=Option.isSome_iff_exists.1 (s1 (k*8+7) (by omega))
   clear s1
   go_wp2
   go_roundw
   case rel=>
    refine ⟨k+1,by omega,by go_num,by go_num,?_,?_⟩
    ·exact ((((((((hC.out.set _ _).set _ _).set _ _).set _ _).set _ _).set _ _).set _ _).set _ _)
    ·exact grown_transAcc (grown_transAcc (grown_transAcc (grown_transAcc (grown_transAcc (grown_transAcc (grown_transAcc (grown_transAcc (hG.out) (grown_set1Acc _ _ _ _)) (grown_set1Acc _ _ _ _)) (grown_set1Acc _ _ _ _)) (grown_set1Acc _ _ _ _)) (grown_set1Acc _ _ _ _)) (grown_set1Acc _ _ _ _)) (grown_set1Acc _ _ _ _)) (grown_set1Acc _ _ _ _)
   case measure=>simp[intOf];omega
  ·have hkn:k=n:=by omega
   subst hkn
   go_wp2
   go_ret
   exact ⟨rfl,hG.out⟩
end Go.Proofs.YtghkbhggopiajaaGreatDoor
