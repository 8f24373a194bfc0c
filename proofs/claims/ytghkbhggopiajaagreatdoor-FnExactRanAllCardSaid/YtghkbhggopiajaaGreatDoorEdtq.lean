/- Ended of both. -/
import Derived.Test.YtghkbhggopiajaaGreatDoorEdsq
import Derived.Test.YtghkbhggopiajaaGreatDoorMarksq
set_option maxHeartbeats 2000000
namespace Go.Proofs.YtghkbhggopiajaaGreatDoor
open Go.RowKit
set_option maxRecDepth 8000
def EndOut (L:List Acc) (O:List Ord) (k:Bk) (w:World) (e:Ending) (w':World):Prop:=
 ((bankOk (FL L) L.length (OrdF O) O.length k/\endOk L O k)/\∃v u,e=.returned (.tuple #[.agg #[.int .i64 (endK L O k).day,v,u,.int .i64 (endK L O k).inn,.int .i64 (endK L O k).out,.int .i64 (endK L O k).posted,.int .i64 (endK L O k).missed],.bool true])/\AL w' w.heap.size v (endA L O k)/\OrdL w' w.heap.size u (endO O k)/\Below w.heap.size w w')\/(¬(bankOk (FL L) L.length (OrdF O) O.length k/\endOk L O k)/\e=.returned (.tuple #[.agg #[.int .i64 0,.slice none 0 0,.slice none 0 0,.int .i64 0,.int .i64 0,.int .i64 0,.int .i64 0],.bool false])/\Below w.heap.size w w')
theorem implEnded (a b:Option Addr) (c d:Nat) (L:List Acc) (O:List Ord) (k:Bk) (p:Nat->Addr) (w:World) (hF:Fo w a L.length (FL L)) (hO:Ords w b O.length (OrdF O)) (hG:GE w p):
  Calls Tryz.prog 22 #[.agg #[.int .i64 k.day,.slice a L.length c,.slice b O.length d,.int .i64 k.inn,.int .i64 k.out,.int .i64 k.posted,.int .i64 k.missed]] w fun e w'=>EndOut L O k w e w':=by
 by_cases hb:bankOk (FL L) L.length (OrdF O) O.length k
 ·refine (implEnded_ok a b c d L O k p w hF hO hG hb).mono fun e w' h=>?_
  rcases h with ⟨h1,h2⟩|⟨h1,h2⟩
  ·exact Or.inl ⟨⟨hb,h1⟩,h2⟩
  ·exact Or.inr ⟨fun h=>h1 h.2,h2⟩
 ·exact (implEnded_bad a b c d L O k w hF hO hb).mono fun e w' h=>Or.inr ⟨fun h'=>hb h'.1,h⟩
open Go.RowKit
theorem Cells8.grown {w w':World} {R Q m:Nat} (h:Cells8 w R m) (g:w.grownBy w' (some Q)) (hne:R≠Q):Cells8 w' R m:=by
 have hb:w'.heap[R]? =w.heap[R]? :=g.block R h.2.2 (fun e=>hne (by simpa using e))
 exact ⟨fun o ho=>by rw[World.cell?_of_block (a:=⟨R,o,none⟩) hb];exact h.1 o ho,fun o=>by rw[World.frozen?_of_block (a:=⟨R,o,none⟩) hb];exact h.2.1 o,Nat.lt_of_lt_of_le h.2.2 g.size⟩
open Go.RowKit
set_option maxRecDepth 8000
theorem AL.nil' (w:World) (B:Nat):AL w B (.slice none 0 0) []:=⟨by simp,Or.inl ⟨rfl,rfl⟩⟩
theorem blocks_apart {w:World} {B C:Nat} {v u:Value} {L:List Acc} {O:List Ord} (h:AL w B v L) (k:OrdL w C u O):∀q,v.ownBlock=some q->u.ownBlock=some q->False:=by
 intro q h1 h2
 rcases h.2 with ⟨rfl,_⟩|⟨g,cap,cur,rfl,_,hc,_⟩
 ·simp[Value.ownBlock] at h1
 ·rcases k.2 with ⟨rfl,_⟩|⟨g',cap',cur',rfl,_,hc',_⟩
  ·simp[Value.ownBlock] at h2
  ·simp[Value.ownBlock] at h1 h2
   subst h1 h2
   rw[hc] at hc'
   simp at hc'
theorem markRowO (R n m:Nat) (k0:Int) (w:World) (hn:n<=1048576) (k1:0<=k0) (k2:k0<=100000000) (h:Cells8 w R (n*7)):
  Calls Tryz.prog 96 #[.slice (some ⟨R,0,none⟩) n m,.int .i64 k0] w fun e w'=>e=.returned (.int .i64 (k0+7*(n:Int)))/\w.grownBy w' (some R):=by
 have H:=hidOf h
 clear h
 go_enter Tryz.func96,Tryz.ntmps96
 go_wp2
 go_loopw[1,5] (fun t i wr=>∃k:Nat,k<=n/\i=.int .i64 k/\t=.int .i64 (k0+7*(k:Int))/\Hid (Cells8 wr R (n*7))/\Hid (w.grownBy wr (some R))) (fun _ i _=>n-(intOf i).toNat)
 case atStart=>exact ⟨0,Nat.zero_le _,rfl,by simp,H,World.grownBy.refl _ _⟩
 case round=>
  obtain ⟨k,hk,rfl,rfl,hC,hG⟩:=hrel
  by_cases hlt:k<n
  ·obtain ⟨s1,s2,s3⟩:=hC.out
   obtain ⟨v0,e0⟩:=Option.isSome_iff_exists.1 (s1 (k*7) (by omega))
   obtain ⟨v1,e1⟩:=Option.isSome_iff_exists.1 (s1 (k*7+1) (by omega))
   obtain ⟨v2,e2⟩:=Option.isSome_iff_exists.1 (s1 (k*7+2) (by omega))
   obtain ⟨v3,e3⟩:=Option.isSome_iff_exists.1 (s1 (k*7+3) (by omega))
   obtain ⟨v4,e4⟩:=Option.isSome_iff_exists.1 (s1 (k*7+4) (by omega))
   obtain ⟨v5,e5⟩:=Option.isSome_iff_exists.1 (s1 (k*7+5) (by omega))
   obtain ⟨v6,e6⟩:=Option.isSome_iff_exists.1 (s1 (k*7+6) (by omega))
   clear s1
   go_wp2
   go_roundw
   case rel=>
    refine ⟨k+1,by omega,by go_num,by go_num,?_,?_⟩
    ·exact (((((((hC.out.set _ _).set _ _).set _ _).set _ _).set _ _).set _ _).set _ _)
    ·exact grown_transAcc (grown_transAcc (grown_transAcc (grown_transAcc (grown_transAcc (grown_transAcc (grown_transAcc (hG.out) (grown_set1Acc _ _ _ _)) (grown_set1Acc _ _ _ _)) (grown_set1Acc _ _ _ _)) (grown_set1Acc _ _ _ _)) (grown_set1Acc _ _ _ _)) (grown_set1Acc _ _ _ _)) (grown_set1Acc _ _ _ _)
   case measure=>simp[intOf];omega
  ·have hkn:k=n:=by omega
   subst hkn
   go_wp2
   go_ret
   exact ⟨rfl,hG.out⟩
theorem grown_below {w w':World} {row:Option Nat} (h:Below w.heap.size w w'):w.grownBy w' row:=⟨h.os,h.tape,h.output,h.size,fun i hi _=>h.block i hi⟩
theorem markBankRow (R1 R2 n c m d:Nat) (k:Bk) (w:World) (hn:n<=1048576) (hm:m<=1048576) (h1:Cells8 w R1 (n*8)) (h2:Cells8 w R2 (m*7)) (hne:R1≠R2):
  Calls Tryz.prog 44 #[.agg #[.int .i64 k.day,.slice (some ⟨R1,0,none⟩) n c,.slice (some ⟨R2,0,none⟩) m d,.int .i64 k.inn,.int .i64 k.out,.int .i64 k.posted,.int .i64 k.missed],.int .i64 1] w fun e w'=>e=.returned (.int .i64 (1+8*(n:Int)+7*(m:Int)))/\∃wm,w.grownBy wm (some R1)/\wm.grownBy w' (some R2):=by
 obtain ⟨W,hW⟩:∃W,W=w.alloc (.cells #[.int .i64 k.day,.slice (some ⟨R1,0,none⟩) n c,.slice (some ⟨R2,0,none⟩) m d,.int .i64 k.inn,.int .i64 k.out,.int .i64 k.posted,.int .i64 k.missed] 38):=⟨_,rfl⟩
 have BW:Hid (Below w.heap.size w W):=by show Below _ _ _;rw[hW];exact (Below.refl _ _).alloc (Nat.le_refl _) _
 have X:Hid (Box7 W w.heap.size (.int .i64 k.day) (.slice (some ⟨R1,0,none⟩) n c) (.slice (some ⟨R2,0,none⟩) m d) (.int .i64 k.inn) (.int .i64 k.out) (.int .i64 k.posted) (.int .i64 k.missed)):=by show Box7 _ _ _ _ _ _ _ _ _;rw[hW];exact Box7.new w _ _ _ _ _ _ _ 38
 have H1:Hid (Cells8 W R1 (n*8)):=h1.grown (grown_below (row:=some (R1+1)) BW.out) (by omega)
 have H2:Hid (Cells8 W R2 (m*7)):=h2.grown (grown_below (row:=some (R2+1)) BW.out) (by omega)
 have hr1:=h1.2.2
 have hr2:=h2.2.2
 have HW:=hidOf hW
 obtain ⟨⟨s0,s1,s2,s3,s4,s5,s6⟩,sf,sz⟩:=X.out
 clear h1 h2 hW
 go_enter Tryz.func44,Tryz.ntmps44
 go_upto_region 1 with fail
 rw[←HW.out]
 clear HW
 go_wp2_with fail
 refine (markRow R1 n c 1 W hn (by omega) (by omega) H1.out).mono ?_
 rintro e w1 ⟨rfl,E1⟩
 clear s0 s1 s2 s3 s4 s5 s6 sf sz
 have X1:=X.out.same (E1.block _ X.out.2.2 (by simp;omega))
 have H2':Hid (Cells8 w1 R2 (m*7)):=H2.out.grown E1 (Ne.symm hne)
 have G1:Hid (w.grownBy w1 (some R1)):=(grown_below BW.out).trans E1
 obtain ⟨⟨s0,s1,s2,s3,s4,s5,s6⟩,sf,sz⟩:=X1
 clear E1
 go_wp2_with fail
 refine (markRowO R2 m d (1+8*(n:Int)) w1 hm (by omega) (by omega) H2'.out).mono ?_
 rintro e w2 ⟨rfl,E2⟩
 have G2:=hidOf E2
 clear s0 s1 s2 s3 s4 s5 s6 sf sz E2
 go_wp2
 go_ret
 exact ⟨rfl,w1,G1.out,G2.out⟩
theorem markBankOwn (B C:Nat) (v u:Value) (l:List Acc) (o:List Ord) (k:Bk) (w:World) (hl:l.length<=1048576) (ho:o.length<=1048576) (h1:AL w B v l) (h2:OrdL w C u o) (hv:∀q,v.ownBlock=some q->q<w.heap.size):
  Calls Tryz.prog 44 #[.agg #[.int .i64 k.day,v,u,.int .i64 k.inn,.int .i64 k.out,.int .i64 k.posted,.int .i64 k.missed],.int .i64 1] w fun e w'=>e=.returned (.int .i64 (1+8*(l.length:Int)+7*(o.length:Int)))/\(∃M,M.length=l.length/\MarkedAcc 1 M.length M/\AL w' B v M)/\(∃P,P.length=o.length/\MarkedOrd (1+8*(l.length:Int)) P.length P/\OrdL w' C u P)/\∃wm,w.grownBy wm v.ownBlock/\wm.grownBy w' u.ownBlock:=by
 obtain ⟨a1,c1,hv1⟩:=h1.len
 subst hv1
 obtain ⟨a2,c2,hv2,hlt2,_⟩:=h2.shape
 subst hv2
 obtain ⟨W,hW⟩:∃W,W=w.alloc (.cells #[.int .i64 k.day,.slice a1 l.length c1,.slice a2 o.length c2,.int .i64 k.inn,.int .i64 k.out,.int .i64 k.posted,.int .i64 k.missed] 38):=⟨_,rfl⟩
 have BW:Hid (Below w.heap.size w W):=by show Below _ _ _;rw[hW];exact (Below.refl _ _).alloc (Nat.le_refl _) _
 have X:Hid (Box7 W w.heap.size (.int .i64 k.day) (.slice a1 l.length c1) (.slice a2 o.length c2) (.int .i64 k.inn) (.int .i64 k.out) (.int .i64 k.posted) (.int .i64 k.missed)):=by show Box7 _ _ _ _ _ _ _ _ _;rw[hW];exact Box7.new w _ _ _ _ _ _ _ 38
 have H1:=hidOf (h1.kept BW.out)
 have H2:=hidOf (h2.kept BW.out)
 have HLT1:=hidOf hv
 have HLT2:Hid (∀q,(Value.slice a2 o.length c2).ownBlock=some q->q<w.heap.size):=fun q hq=>(hlt2 q hq).2
 have AP:Hid (∀q,(Value.slice a1 l.length c1).ownBlock=some q->(Value.slice a2 o.length c2).ownBlock=some q->False):=blocks_apart h1 h2
 have HW:=hidOf hW
 obtain ⟨⟨s0,s1,s2,s3,s4,s5,s6⟩,sf,sz⟩:=X.out
 clear h1 h2 hW hv hlt2
 go_enter Tryz.func44,Tryz.ntmps44
 go_upto_region 1 with fail
 rw[←HW.out]
 clear HW
 go_wp2_with fail
 refine (markAccs B (.slice a1 l.length c1) l 1 W hl (by omega) (by omega) H1.out).mono ?_
 rintro e w1 ⟨rfl,⟨M,hM1,hM2,A1⟩,E1⟩
 clear s0 s1 s2 s3 s4 s5 s6 sf sz
 have X1:=X.out.same (E1.block _ X.out.2.2 (fun e=>by have:=HLT1.out _ e.symm;omega))
 have H2':Hid (OrdL w1 C (.slice a2 o.length c2) o):=World.ownsRow.kept H2.out E1 (by
  cases hb:(Value.slice a2 o.length c2).ownBlock with
  | none=>exact Or.inl rfl
  | some q=>right;intro e;exact AP.out q e.symm hb)
 have G1:Hid (w.grownBy w1 (Value.slice a1 l.length c1).ownBlock):=(grown_below BW.out).trans E1
 have HA1:=hidOf A1
 have HM1:=hidOf hM1
 have HM2:Hid (MarkedAcc 1 M.length M):=by rw[hM1];exact hM2
 obtain ⟨⟨s0,s1,s2,s3,s4,s5,s6⟩,sf,sz⟩:=X1
 clear E1 A1 hM1 hM2
 go_wp2_with fail
 refine (markOrds C (.slice a2 o.length c2) o (1+8*(l.length:Int)) w1 ho (by omega) (by omega) H2'.out).mono ?_
 rintro e w2 ⟨rfl,⟨P,hP1,hP2,A2⟩,E2⟩
 have G2:=hidOf E2
 have HA2:=hidOf A2
 have HP1:=hidOf hP1
 have HP2:Hid (MarkedOrd (1+8*(l.length:Int)) P.length P):=by rw[hP1];exact hP2
 have HA1':Hid (AL w2 B (.slice a1 l.length c1) M):=World.ownsRow.kept HA1.out E2 (by
  cases hb:(Value.slice a1 l.length c1).ownBlock with
  | none=>exact Or.inl rfl
  | some q=>right;intro e;exact AP.out q hb e.symm)
 clear s0 s1 s2 s3 s4 s5 s6 sf sz E2 A2 hP1 hP2
 go_wp2
 go_ret
 exact ⟨rfl,⟨M,HM1.out,HM2.out,HA1'.out⟩,⟨P,HP1.out,HP2.out,HA2.out⟩,w1,G1.out,G2.out⟩
theorem heldBank (B C:Nat) (v u:Value) (l:List Acc) (o:List Ord) (k:Bk) (w:World) (hl:l.length<=1048576) (ho:o.length<=1048576) (h1:AL w B v l) (h2:OrdL w C u o) (m1:MarkedAcc 1 l.length l) (m2:MarkedOrd (1+8*(l.length:Int)) o.length o):
  Calls Tryz.prog 45 #[.agg #[.int .i64 k.day,v,u,.int .i64 k.inn,.int .i64 k.out,.int .i64 k.posted,.int .i64 k.missed],.int .i64 1] w fun e w'=>e=.returned (.int .i64 (1+8*(l.length:Int)+7*(o.length:Int)))/\Below w.heap.size w w':=by
 obtain ⟨a1,c1,hv1⟩:=h1.len
 subst hv1
 obtain ⟨a2,c2,hv2,hlt2,_⟩:=h2.shape
 subst hv2
 obtain ⟨W,hW⟩:∃W,W=w.alloc (.cells #[.int .i64 k.day,.slice a1 l.length c1,.slice a2 o.length c2,.int .i64 k.inn,.int .i64 k.out,.int .i64 k.posted,.int .i64 k.missed] 38):=⟨_,rfl⟩
 have BW:Hid (Below w.heap.size w W):=by show Below _ _ _;rw[hW];exact (Below.refl _ _).alloc (Nat.le_refl _) _
 have X:Hid (Box7 W w.heap.size (.int .i64 k.day) (.slice a1 l.length c1) (.slice a2 o.length c2) (.int .i64 k.inn) (.int .i64 k.out) (.int .i64 k.posted) (.int .i64 k.missed)):=by show Box7 _ _ _ _ _ _ _ _ _;rw[hW];exact Box7.new w _ _ _ _ _ _ _ 38
 have H1:=hidOf (h1.kept BW.out)
 have H2:=hidOf (h2.kept BW.out)
 have M1:=hidOf m1
 have M2:=hidOf m2
 have HW:=hidOf hW
 have g1:decide (1+8*(l.length:Int)<0)=false:=by simp;omega
 have g2:decide (1+8*(l.length:Int)+7*(o.length:Int)<0)=false:=by simp;omega
 obtain ⟨⟨s0,s1,s2,s3,s4,s5,s6⟩,sf,sz⟩:=X.out
 clear h1 h2 hW hlt2 m1 m2
 go_enter Tryz.func45,Tryz.ntmps45
 go_upto_region 1 with fail
 rw[←HW.out]
 clear HW
 go_wp2_with fail
 refine (heldAccs B (.slice a1 l.length c1) l 1 W hl (by omega) (by omega) H1.out M1.out).mono ?_
 rintro e w1 ⟨rfl,hw1⟩
 subst w1
 go_wp2_with fail
 refine (heldOrds C (.slice a2 o.length c2) o (1+8*(l.length:Int)) W ho (by omega) (by omega) H2.out M2.out).mono ?_
 rintro e w2 ⟨rfl,hw2⟩
 subst w2
 clear s0 s1 s2 s3 s4 s5 s6 sf sz
 go_wp2
 go_ret
 exact ⟨rfl,BW.out⟩
end Go.Proofs.YtghkbhggopiajaaGreatDoor
