/- The laws' own comparison of two forests. -/
import Derived.Test.YtghkbhggopiajaaGreatDoorListsr
namespace Go.Proofs.YtghkbhggopiajaaGreatDoor
open Go.RowKit
set_option maxRecDepth 8000
theorem fN {B:Nat} {w w':World} (h:Below B w w') (q:Nat):Below B w (w'.drewN q):=⟨h.os,h.tape,h.output,h.size,h.block⟩
set_option maxHeartbeats 2000000 in
theorem iQ (a b:Option Addr) (n c d:Nat) (F:Nat->aj) (w:World) (ha:Fo w a n F) (hb:Fo w b n F):
  Calls Tryz.prog 14 #[.slice a n c,.slice b n d] w fun e w'=>e=.returned (.bool true)/\Below w.heap.size w w':=by
 have HA:=aa ha
 have HB:=aa hb
 have hn:=ha.1
 clear ha hb
 go_enter Tryz.func14,Tryz.ntmps14
 go_wp2
 go_loopw[5] (fun i wr=>∃(k q:Nat),k<=n/\i=.int .i64 k/\wr=w.drewN q) (fun i _=>n-(intOf i).toNat)
 case atStart=>exact ⟨0,0,Nat.zero_le _,rfl,rfl⟩
 case round=>
  obtain ⟨k,q,hk,rfl,rfl⟩:=hrel
  by_cases hlt:k<n
  ·obtain ⟨b1,o1,rfl,hz1,c0,c1,c2,c3,c4,c5,c6,c7⟩:=HA.out.acc hlt
   obtain ⟨b2,o2,rfl,hz2,d0,d1,d2,d3,d4,d5,d6,d7⟩:=HB.out.acc hlt
   generalize F k=x at c0 c1 c2 c3 c4 c5 c6 c7 d0 d1 d2 d3 d4 d5 d6 d7
   go_wp2
   go_quiet (fail)
   go_wp2
   go_roundw
   case rel=>exact ⟨k+1,_,by omega,by go_num,rfl⟩
   case measure=>simp[intOf];omega
  ·go_wp2
   go_ret
   exact ⟨rfl,fN (Below.refl _ _) _⟩
end Go.Proofs.YtghkbhggopiajaaGreatDoor
