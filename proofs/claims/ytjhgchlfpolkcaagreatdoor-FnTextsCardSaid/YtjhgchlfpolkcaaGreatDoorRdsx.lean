/- Contracts of the reader by which inputs are drawn. -/
import Derived.Test.YtjhgchlfpolkcaaGreatDoorDonesx
import Derived.WalkKit
import Derived.WalkLawsBesides
import Derived.Below
import Derived.Deep.QuietTactic
import Derived.BigQuiet
import Derived.OpenShut
import Derived.Test.YtjhgchlfpolkcaaGreatDoorStvx
namespace Go.Proofs.YtjhgchlfpolkcaaGreatDoor
open Value renaming int → Ii,slice → Sl
open IntKind renaming i64 → Jj
open Nat renaming le_refl → Nf
open Go.Proofs.Tryz renaming prog → Pg
set_option maxRecDepth 8000
set_option maxHeartbeats 8000000
open Go.RowKit
def Rd (w:World) (B:Nat) (a:Option Addr) (len cap:Nat):Prop:=
 w.cell? ⟨B,0,none⟩=some (Sl a len cap)/\(∃p:Nat,p<=len/\w.cell? ⟨B,1,none⟩=some (Ii Jj p))/\w.frozen? ⟨B,1,none⟩=false/\B<w.heap.size/\len<=9223372036854775807/\
 (∀i:Nat,i<len->∃(b off:Nat) (z:Int),a=some ⟨b,off,none⟩/\b<B/\w.cell? ⟨b,off+i,none⟩=some (.int .u8 z)/\0<=z/\z<=255)
theorem Rd.same {w w':World} {B:Nat} {a:Option Addr} {len cap:Nat} (h:Rd w B a len cap) (hb:Below (B+1) w w'):Rd w' B a len cap:=by
 obtain ⟨h1,⟨p,hp,h2⟩,h3,h4,h5,h6⟩:=h
 refine ⟨by rw[hb.cell (p:=⟨B,0,none⟩) (Nat.lt_succ_self _)];exact h1,⟨p,hp,by rw[hb.cell (p:=⟨B,1,none⟩) (Nat.lt_succ_self _)];exact h2⟩,by rw[hb.frozen (p:=⟨B,1,none⟩) (Nat.lt_succ_self _)];exact h3,Nat.lt_of_lt_of_le h4 hb.size,h5,fun i hi=>?_⟩
 obtain ⟨b,off,z,ha,hbB,hc,hz⟩:=h6 i hi
 exact ⟨b,off,z,ha,hbB,by rw[hb.cell (p:=⟨b,off+i,none⟩) (by show b<B+1;omega)];exact hc,hz⟩
theorem Rd.drewN {w:World} {B:Nat} {a:Option Addr} {len cap:Nat} (h:Rd w B a len cap) (n:Nat):Rd (w.drewN n) B a len cap:=h
theorem Rd.alloc {w:World} {B:Nat} {a:Option Addr} {len cap:Nat} (h:Rd w B a len cap) (o:Obj):Rd (w.alloc o) B a len cap:=
 h.same ((Below.refl _ _).alloc h.2.2.2.1 o)
theorem Rd.setFar {w:World} {B:Nat} {a:Option Addr} {len cap R o:Nat} (h:Rd w B a len cap) (hR:B<R) (u:Value):Rd (w.setCell ⟨R,o,none⟩ u) B a len cap:=
 h.same ((Below.refl _ _).setCell (p:=⟨R,o,none⟩) (by show B+1<=R;omega) u)
theorem Rd.moved {w:World} {B:Nat} {a:Option Addr} {len cap p:Nat} (h:Rd w B a len cap) (hp:p<=len) (v:Value) (hv:w.cell? ⟨B,1,none⟩=some v):Rd (w.setCell ⟨B,1,none⟩ (Ii Jj p)) B a len cap:=by
 obtain ⟨h1,_,h3,h4,h5,h6⟩:=h
 have hne:(⟨B,0,none⟩:Addr)≠⟨B,1,none⟩:=by intro e;cases e
 refine ⟨by rw[World.cell?_setCell_other _ _ _ _ hne.symm];exact h1,⟨p,hp,?_⟩,?_,by simpa [World.setCell] using h4,h5,fun i hi=>?_⟩
 ·exact World.cell?_setCell_same _ _ _ hv
 ·rw[World.frozen?_setCell];exact h3
 ·obtain ⟨b,off,z,ha,hbB,hc,hz⟩:=h6 i hi
  exact ⟨b,off,z,ha,hbB,by rw[World.cell?_setCell_other _ _ _ _ (by intro e;have:=congrArg Addr.block e;simp at this;omega)];exact hc,hz⟩
theorem iO (B:Nat) (a:Option Addr) (len cap:Nat) (w:World) (h:Rd w B a len cap):
  Calls Pg 87 #[.pointer (some ⟨B,0,none⟩)] w fun e w'=>∃v:Int,e=.returned (Ii Jj v)/\0<=v/\v<=255/\Rd w' B a len cap/\an B w w':=by
 have H:Hid (Rd w B a len cap):=h
 obtain ⟨h1,⟨p,hp,h2⟩,h3,h4,h5,h6⟩:=h
 by_cases hlt:p<len
 ·obtain ⟨b,off,z,rfl,hbB,hc,hz1,hz2⟩:=h6 p hlt
  clear h6
  have hne:b≠B:=by omega
  go_enter Tryz.func87,Tryz.ntmps87
  go_wp2
  go_quiet (fail)
  go_wp2
  go_quiet (fail)
  go_wp2
  go_ret
  have e1:((p:Int)+1)=((p+1:Nat):Int):=by omega
  rw[e1]
  exact ⟨z,rfl,hz1,hz2,(Rd.moved (H.out.drewN _) (by omega) _ h2).drewN _,(((an.refl _ _).drewN _).setCell 1 _).drewN _⟩
 ·clear h6
  have hge:(len:Int)<=(p:Int):=by omega
  go_enter Tryz.func87,Tryz.ntmps87
  go_wp2
  go_quiet (fail)
  go_wp2
  go_ret
  exact ⟨0,rfl,by omega,by omega,H.out.drewN _,(an.refl _ _).drewN _⟩
theorem lg {k:IntKind} {a b:Int} (h:a=b):Ending.returned (.int k a)=.returned (.int k b):=by rw[h]
theorem aq (B:Nat) (a:Option Addr) (len cap:Nat) (n:Int) (w:World) (h:Rd w B a len cap) (n1:1<=n) (n2:n<=1000000000):
  Calls Pg 54 #[.pointer (some ⟨B,0,none⟩),Ii Jj n] w fun e w'=>∃v:Int,e=.returned (Ii Jj v)/\0<=v/\v<n/\Rd w' B a len cap/\an B w w':=by
 have H:Hid (Rd w B a len cap):=h
 clear h
 by_cases h1:n<=1
 ·go_enter Tryz.func54,Tryz.ntmps54
  go_wp2
  go_ret
  exact ⟨0,rfl,by omega,by omega,H.out,an.refl _ _⟩
 by_cases h2:n<=256
 ·go_enter Tryz.func54,Tryz.ntmps54
  go_wp2_with fail
  refine (iO B a len cap _ H.out).mono ?_
  rintro e w1 ⟨v,rfl,v1,v2,R1,S1⟩
  have RR:Hid (Rd w1 B a len cap):=R1
  clear R1
  go_wp2
  go_ret
  exact ⟨v % n,rfl,Int.emod_nonneg _ (by omega),Int.emod_lt_of_pos _ (by omega),RR.out,S1⟩
 ·go_enter Tryz.func54,Tryz.ntmps54
  go_wp2_with fail
  refine (iO B a len cap _ H.out).mono ?_
  rintro e w1 ⟨v,rfl,v1,v2,R1,S1⟩
  have RR:Hid (Rd w1 B a len cap):=R1
  clear R1
  go_wp2_with fail
  refine (iO B a len cap _ RR.out).mono ?_
  rintro e w2 ⟨u,rfl,u1,u2,R2,S2⟩
  have R2':Hid (Rd w2 B a len cap):=R2
  clear R2
  go_wp2
  go_ret
  exact ⟨(v*256+u) % n,rfl,Int.emod_nonneg _ (by omega),Int.emod_lt_of_pos _ (by omega),R2'.out,S1.trans S2⟩
theorem aU (B:Nat) (a:Option Addr) (len cap:Nat) (n:Int) (w:World) (h:Rd w B a len cap) (n1:1<=n) (n2:n<=1000000000):
  Calls Pg 29 #[.pointer (some ⟨B,0,none⟩),Ii Jj n] w fun e w'=>∃b:Bool,e=.returned (.bool b)/\Rd w' B a len cap/\an B w w':=by
 have H:Hid (Rd w B a len cap):=h
 clear h
 go_enter Tryz.func29,Tryz.ntmps29
 go_wp2_with fail
 refine (aq B a len cap n _ H.out n1 n2).mono ?_
 rintro e w1 ⟨v,rfl,v1,v2,R1,S1⟩
 have RR:Hid (Rd w1 B a len cap):=R1
 clear R1
 go_wp2
 go_ret
 exact ⟨_,rfl,RR.out,S1⟩
theorem oH (B:Nat) (a:Option Addr) (len cap:Nat) (w:World) (h:Rd w B a len cap):
  Calls Pg 89 #[.pointer (some ⟨B,0,none⟩)] w fun e w'=>∃v:Int,e=.returned (.int .u64 v)/\(Lit.int .u64 v).wf=true/\Rd w' B a len cap/\an B w w':=by
 have H:Hid (Rd w B a len cap):=h
 clear h
 go_enter Tryz.func89,Tryz.ntmps89
 go_wp2
 go_loopw[3,4] (fun x i wr=>∃(v:Int) (k:Nat),k<=8/\i=Ii Jj k/\x=.int .u64 v/\Hid ((Lit.int .u64 v).wf=true)/\Hid (Rd wr B a len cap)/\Hid (an B w wr)) (fun _ i _=>8-(intOf i).toNat)
 case atStart=>exact ⟨0,0,by omega,rfl,rfl,(by decide:(Lit.int .u64 0).wf=true),H.out,an.refl _ _⟩
 case round=>
  obtain ⟨v,k,hk,rfl,rfl,hv,hR,hS⟩:=hrel
  by_cases hlt:k<8
  ·go_wp2_with fail
   refine (iO B a len cap _ hR.out).mono ?_
   rintro e w1 ⟨u,rfl,u1,u2,R1,S1⟩
   have RR:Hid (Rd w1 B a len cap):=R1
   clear R1
   go_wp2
   go_roundw
   case rel=>exact ⟨_,k+1,by omega,by go_num,rfl,wf_bits _ _ _ _,RR,hS.out.trans S1⟩
   case measure=>simp[intOf];omega
  ·go_wp2
   go_ret
   exact ⟨v,rfl,hv.out,hR.out,hS.out⟩
theorem eX (w:World) (zs:List Int) (t:TypeId) (i:Nat) (hi:i<zs.length):∃z:Int,(w.alloc (.cells (zs.map (Value.int .i64)).toArray t)).cell? ⟨w.heap.size,i,none⟩=some (Ii Jj z):=by
 refine ⟨zs[i],?_⟩
 have e:(w.alloc (.cells (zs.map (Value.int .i64)).toArray t)).heap[w.heap.size]? =some (.cells (zs.map (Value.int .i64)).toArray t):=by
  show (w.heap.push _)[w.heap.size]? =_
  simp
 simp only[World.cell?]
 rw[e]
 simp[hi]
theorem su (B:Nat) (a:Option Addr) (len cap:Nat) (lo hi:Int) (w:World) (h:Rd w B a len cap) (l1: -1000000000000000<=lo) (l2:lo<=hi) (l3:hi<=1000000000000000):
  Calls Pg 65 #[.pointer (some ⟨B,0,none⟩),Ii Jj lo,Ii Jj hi] w fun e w'=>∃v:Int,e=.returned (Ii Jj v)/\Rd w' B a len cap/\an B w w':=by
 have H:Hid (Rd w B a len cap):=h
 clear h
 go_enter Tryz.func65,Tryz.ntmps65
 go_wp2_with fail
 refine (aq B a len cap 8 _ H.out (by omega) (by omega)).mono ?_
 rintro e w1 ⟨v,rfl,v1,v2,R1,S1⟩
 have RR:Hid (Rd w1 B a len cap):=R1
 clear R1
 by_cases h0:v=0
 ·subst h0
  go_wp2
  go_ret
  exact ⟨_,rfl,RR.out,S1⟩
 by_cases h1:v=1
 ·subst h1
  go_wp2
  go_ret
  exact ⟨_,rfl,RR.out,S1⟩
 have b0:(v == 0)=false:=by simp[h0]
 have b1:(v == 1)=false:=by simp[h1]
 clear h0 h1
 go_wp2_with fail
 refine (oH B a len cap _ RR.out).mono ?_
 rintro e w2 ⟨u,rfl,hu,R2,S2⟩
 have R2':Hid (Rd w2 B a len cap):=R2
 have HU:Hid ((Lit.int .u64 u).wf=true):=hu
 clear R2 hu
 go_wp2
 go_ret
 exact ⟨_,rfl,R2'.out,S1.trans S2⟩
theorem aV (B:Nat) (a:Option Addr) (len cap:Nat) (lo hi:Int) (w:World) (h:Rd w B a len cap) (l1: -1000000000000000<=lo) (l2:lo<=hi) (l3:hi<=1000000000000000):
  Calls Pg 30 #[.pointer (some ⟨B,0,none⟩),Ii Jj lo,Ii Jj hi] w fun e w'=>∃v:Int,e=.returned (Ii Jj v)/\Rd w' B a len cap/\an B w w':=by
 have H:Hid (Rd w B a len cap):=h
 clear h
 go_enter Tryz.func30,Tryz.ntmps30
 go_wp2_with fail
 refine (aU B a len cap 24 _ H.out (by omega) (by omega)).mono ?_
 rintro e w1 ⟨b,rfl,R1,S1⟩
 have RR:Hid (Rd w1 B a len cap):=R1
 clear R1
 cases b with
 | false=>
  go_wp2_with fail
  refine (su B a len cap lo hi _ RR.out l1 l2 l3).mono ?_
  rintro e w2 ⟨v,rfl,R2,S2⟩
  have R2':Hid (Rd w2 B a len cap):=R2
  clear R2
  go_wp2
  go_ret
  exact ⟨_,rfl,R2'.out,S1.trans S2⟩
 | true=>
  go_wp2_with fail
  refine (aq B a len cap 4 _ (RR.out.alloc _) (by omega) (by omega)).mono ?_
  rintro e w2 ⟨v,rfl,v1,v2,R2,S2⟩
  obtain ⟨k,rfl⟩:=Int.eq_ofNat_of_zero_le v1
  obtain ⟨z,hz⟩:=eX w1 [lo-1,hi+1,-9223372036854775808,9223372036854775807] 2 k (by simp;omega)
  have hB:w1.heap.size≠B:=by have:=RR.out.2.2.2.1;omega
  have hc:w2.cell? ⟨w1.heap.size,k,none⟩=some (Ii Jj z):=by
   rw[S2.cell (p:=⟨w1.heap.size,k,none⟩) (by simp) hB]
   exact hz
  have SS:Hid (an B w w2):=S1.trans (((an.refl B w1).alloc _).trans S2)
  have R2':Hid (Rd w2 B a len cap):=R2
  clear R2 hz S2 S1 hB
  go_wp2
  go_ret
  exact ⟨_,rfl,R2'.out,SS.out⟩
open Go.RowKit
theorem iq (B:Nat) (a:Option Addr) (len cap:Nat) (w:World) (h:Rd w B a len cap):
  Calls Pg 92 #[.pointer (some ⟨B,0,none⟩)] w fun e w'=>∃v:Int,e=.returned (Ii Jj v)/\1<=v/\v<=6/\Rd w' B a len cap/\an B w w':=by
 have H:Hid (Rd w B a len cap):=h
 clear h
 go_enter Tryz.func92,Tryz.ntmps92
 go_wp2_with fail
 refine (aq B a len cap 6 _ H.out (by omega) (by omega)).mono ?_
 rintro e w1 ⟨v,rfl,v1,v2,R1,S1⟩
 have R1':Hid (Rd w1 B a len cap):=R1
 have S1':Hid (an B w w1):=S1
 clear R1 S1
 go_wp2
 go_ret
 exact ⟨_,lg (by go_num),by omega,by omega,R1'.out,S1'.out⟩
theorem gM (B:Nat) (a:Option Addr) (len cap:Nat) (w:World) (h:Rd w B a len cap):
  Calls Pg 56 #[.pointer (some ⟨B,0,none⟩)] w fun e w'=>∃v:Int,e=.returned (Ii Jj v)/\0<=v/\v<=1000000000000/\Rd w' B a len cap/\an B w w':=by
 have H:Hid (Rd w B a len cap):=h
 clear h
 go_enter Tryz.func56,Tryz.ntmps56
 go_wp2_with fail
 refine (aq B a len cap 8 _ H.out (by omega) (by omega)).mono ?_
 rintro e w1 ⟨v,rfl,v1,v2,R1,S1⟩
 have R1':Hid (Rd w1 B a len cap):=R1
 have S1':Hid (an B w w1):=S1
 clear R1 S1
 by_cases h5:v=5
 ·subst h5
  go_wp2_with fail
  refine (aq B a len cap 100000 _ R1'.out (by omega) (by omega)).mono ?_
  rintro e w2 ⟨x,rfl,x1,x2,R2,S2⟩
  have R2':Hid (Rd w2 B a len cap):=R2
  have S2':Hid (an B w w2):=S1'.out.trans S2
  clear R2 S2
  go_wp2
  go_ret
  exact ⟨_,rfl,by omega,by omega,R2'.out,S2'.out⟩
 have h5b:(v == 5)=false:=by simp[h5]
 by_cases h6:v=6
 ·subst h6
  go_wp2_with fail
  refine (aq B a len cap 3 _ R1'.out (by omega) (by omega)).mono ?_
  rintro e w2 ⟨x,rfl,x1,x2,R2,S2⟩
  have R2':Hid (Rd w2 B a len cap):=R2
  have S2':Hid (an B w w2):=S1'.out.trans S2
  clear R2 S2
  go_wp2
  go_ret
  exact ⟨1000000000000-x,lg (by go_num),by omega,by omega,R2'.out,S2'.out⟩
 have h6b:(v == 6)=false:=by simp[h6]
 by_cases h7:v=7
 ·subst h7
  go_wp2_with fail
  refine (oH B a len cap _ R1'.out).mono ?_
  rintro e w2 ⟨x,rfl,xw,R2,S2⟩
  obtain ⟨x1,x2⟩:0<=x/\x<=18446744073709551615:=by simpa [Lit.wf,IntKind.min,IntKind.max,IntKind.signed,IntKind.bits] using xw
  clear xw
  have R2':Hid (Rd w2 B a len cap):=R2
  have S2':Hid (an B w w2):=S1'.out.trans S2
  clear R2 S2
  go_wp2
  go_ret
  refine ⟨x % 1000000000000,lg (by go_num),by omega,by omega,R2'.out,S2'.out⟩
 have h7b:(v == 7)=false:=by simp[h7]
 go_wp2_with fail
 refine (aq B a len cap 60 _ R1'.out (by omega) (by omega)).mono ?_
 rintro e w2 ⟨x,rfl,x1,x2,R2,S2⟩
 have R2':Hid (Rd w2 B a len cap):=R2
 have S2':Hid (an B w w2):=S1'.out.trans S2
 clear R2 S2
 go_wp2
 go_ret
 exact ⟨_,rfl,by omega,by omega,R2'.out,S2'.out⟩
def OB (w:World) (R:Nat) (k i t m r:Int):Prop:=aN w R k i t m r/\∀o,w.frozen? ⟨R,o,none⟩=false
theorem OB.new (w:World) (k i t m r:Int) (T:Nat):OB (w.alloc (.cells #[Ii Jj k,Ii Jj i,Ii Jj t,Ii Jj m,Ii Jj r] T)) w.heap.size k i t m r:=
 ⟨aN.new w k i t m r T,fun o=>by simp[go_sem]⟩
theorem OB.stp {B:Nat} {w w':World} {R:Nat} {k i t m r:Int} (h:OB w R k i t m r) (hs:an B w w') (hR:R≠B):OB w' R k i t m r:=by
 obtain ⟨⟨h0,h1,h2,h3,h4,h5⟩,hf⟩:=h
 refine ⟨⟨?_,?_,?_,?_,?_,Nat.lt_of_lt_of_le h5 hs.size⟩,fun o=>?_⟩
 ·rw[hs.cell (p:=⟨R,0,none⟩) h5 hR];exact h0
 ·rw[hs.cell (p:=⟨R,1,none⟩) h5 hR];exact h1
 ·rw[hs.cell (p:=⟨R,2,none⟩) h5 hR];exact h2
 ·rw[hs.cell (p:=⟨R,3,none⟩) h5 hR];exact h3
 ·rw[hs.cell (p:=⟨R,4,none⟩) h5 hR];exact h4
 ·rw[hs.frozen (p:=⟨R,o,none⟩) h5 hR];exact hf o
theorem OB.alloc {w:World} {R:Nat} {k i t m r:Int} (h:OB w R k i t m r) (x:Obj):OB (w.alloc x) R k i t m r:=
 h.stp (B:=w.heap.size) ((an.refl _ w).alloc x) (by have:=h.1.2.2.2.2.2;omega)
theorem OB.far {w:World} {R Q:Nat} {k i t m r:Int} (h:OB w R k i t m r) (hQ:Q≠R) (o:Nat) (u:Value):OB (w.setCell ⟨Q,o,none⟩ u) R k i t m r:=
 h.stp (B:=Q) ((an.refl Q w).setCell o u) (fun e=>hQ e.symm)
theorem OB.set0 {w:World} {R:Nat} {k i t m r:Int} (h:OB w R k i t m r) (x:Int):OB (w.setCell ⟨R,0,none⟩ (Ii Jj x)) R x i t m r:=by
 obtain ⟨⟨h0,h1,h2,h3,h4,h5⟩,hf⟩:=h
 refine ⟨⟨?_,?_,?_,?_,?_,by simpa [World.setCell] using h5⟩,fun o=>by rw[World.frozen?_setCell];exact hf o⟩
 ·exact World.cell?_setCell_same _ _ _ h0
 ·rw[World.cell?_setCell_other _ _ _ _ (by intro e;cases e)];exact h1
 ·rw[World.cell?_setCell_other _ _ _ _ (by intro e;cases e)];exact h2
 ·rw[World.cell?_setCell_other _ _ _ _ (by intro e;cases e)];exact h3
 ·rw[World.cell?_setCell_other _ _ _ _ (by intro e;cases e)];exact h4
theorem OB.set2 {w:World} {R:Nat} {k i t m r:Int} (h:OB w R k i t m r) (x:Int):OB (w.setCell ⟨R,2,none⟩ (Ii Jj x)) R k i x m r:=by
 obtain ⟨⟨h0,h1,h2,h3,h4,h5⟩,hf⟩:=h
 refine ⟨⟨?_,?_,?_,?_,?_,by simpa [World.setCell] using h5⟩,fun o=>by rw[World.frozen?_setCell];exact hf o⟩
 ·rw[World.cell?_setCell_other _ _ _ _ (by intro e;cases e)];exact h0
 ·rw[World.cell?_setCell_other _ _ _ _ (by intro e;cases e)];exact h1
 ·exact World.cell?_setCell_same _ _ _ h2
 ·rw[World.cell?_setCell_other _ _ _ _ (by intro e;cases e)];exact h3
 ·rw[World.cell?_setCell_other _ _ _ _ (by intro e;cases e)];exact h4
theorem OB.set3 {w:World} {R:Nat} {k i t m r:Int} (h:OB w R k i t m r) (x:Int):OB (w.setCell ⟨R,3,none⟩ (Ii Jj x)) R k i t x r:=by
 obtain ⟨⟨h0,h1,h2,h3,h4,h5⟩,hf⟩:=h
 refine ⟨⟨?_,?_,?_,?_,?_,by simpa [World.setCell] using h5⟩,fun o=>by rw[World.frozen?_setCell];exact hf o⟩
 ·rw[World.cell?_setCell_other _ _ _ _ (by intro e;cases e)];exact h0
 ·rw[World.cell?_setCell_other _ _ _ _ (by intro e;cases e)];exact h1
 ·rw[World.cell?_setCell_other _ _ _ _ (by intro e;cases e)];exact h2
 ·exact World.cell?_setCell_same _ _ _ h3
 ·rw[World.cell?_setCell_other _ _ _ _ (by intro e;cases e)];exact h4
theorem OB.set4 {w:World} {R:Nat} {k i t m r:Int} (h:OB w R k i t m r) (x:Int):OB (w.setCell ⟨R,4,none⟩ (Ii Jj x)) R k i t m x:=by
 obtain ⟨⟨h0,h1,h2,h3,h4,h5⟩,hf⟩:=h
 refine ⟨⟨?_,?_,?_,?_,?_,by simpa [World.setCell] using h5⟩,fun o=>by rw[World.frozen?_setCell];exact hf o⟩
 ·rw[World.cell?_setCell_other _ _ _ _ (by intro e;cases e)];exact h0
 ·rw[World.cell?_setCell_other _ _ _ _ (by intro e;cases e)];exact h1
 ·rw[World.cell?_setCell_other _ _ _ _ (by intro e;cases e)];exact h2
 ·rw[World.cell?_setCell_other _ _ _ _ (by intro e;cases e)];exact h3
 ·exact World.cell?_setCell_same _ _ _ h4
open Go.RowKit
theorem sW (B:Nat) (a:Option Addr) (len cap:Nat) (w:World) (h:Rd w B a len cap):
  Calls Pg 64 #[.pointer (some ⟨B,0,none⟩)] w fun e w'=>∃k i t m r:Int,e=.returned (.agg #[Ii Jj k,Ii Jj i,Ii Jj t,Ii Jj m,Ii Jj r])/\Rd w' B a len cap/\an B w w':=by
 have H:Hid (Rd w B a len cap):=h
 have hBQ:B<w.heap.size:=h.2.2.2.1
 clear h
 go_enter Tryz.func64,Tryz.ntmps64
 go_wp2_with fail
 refine (iq B a len cap _ (H.out.alloc _)).mono ?_
 rintro e w1 ⟨vi,rfl,vi1,vi2,R1,S1⟩
 have R1':Hid (Rd w1 B a len cap):=R1
 have hQB:w.heap.size≠B:=by omega
 have Q1:Hid (OB w1 w.heap.size 0 0 0 0 0):=(OB.new w 0 0 0 0 0 33).stp S1 hQB
 have S1':Hid (an B w w1):=((an.refl B w).alloc _).trans S1
 have hwR:w.heap.size<=w1.heap.size:=S1'.out.size
 have hQ1:w.heap.size<w1.heap.size:=Q1.out.1.2.2.2.2.2
 have hBR:B<w1.heap.size:=by omega
 have hRB:w1.heap.size≠B:=by omega
 have hRQ:w1.heap.size≠w.heap.size:=by omega
 clear R1 S1
 go_wp2_with fail
 refine (aq B a len cap 17 _ (R1'.out.alloc _) (by omega) (by omega)).mono ?_
 rintro e x2 ⟨vk,rfl,vk1,vk2,R2,S2⟩
 have OXx2:Hid (OB x2 w1.heap.size 0 vi 0 0 0):=(OB.new w1 0 vi 0 0 0 33).stp S2 hRB
 have QXx2:Hid (OB x2 w.heap.size 0 0 0 0 0):=(Q1.out.alloc _).stp S2 hQB
 have RXx2:Hid (Rd x2 B a len cap):=R2
 have SXx2:Hid (an B w x2):=(S1'.out.alloc _).trans S2
 clear R2 S2 Q1 S1' R1' H
 have hvk:vk=0\/vk=1\/vk=2\/vk=3\/vk=4\/vk=5\/vk=6\/vk=7\/vk=8\/vk=9\/vk=10\/vk=11\/vk=12\/vk=13\/vk=14\/vk=15\/vk=16:=by omega
 clear vk1 vk2
 rcases hvk with rfl|rfl|rfl|rfl|rfl|rfl|rfl|rfl|rfl|rfl|rfl|rfl|rfl|rfl|rfl|rfl|rfl
 ·obtain ⟨⟨y0,y1,y2,y3,y4,yz⟩,yf⟩:=OXx2.out
  go_wp2_with fail
  refine (aq B a len cap 4 _ ((RXx2.out.setFar hBR _).alloc _) (by omega) (by omega)).mono ?_
  rintro e x3 ⟨v3,rfl,v31,v32,RN,SN⟩
  have OXx3:Hid (OB x3 w1.heap.size (1) (vi) (0) (0) (0)):=((OXx2.out.set0 (1)).alloc _).stp SN hRB
  have QXx3:Hid (OB x3 w.heap.size 0 0 0 0 0):=((QXx2.out.far hRQ 0 _).alloc _).stp SN hQB
  have RXx3:Hid (Rd x3 B a len cap):=RN
  have SXx3:Hid (an B w x3):=((SXx2.out.far hwR 0 _).alloc _).trans SN
  obtain ⟨v3k,rfl⟩:=Int.eq_ofNat_of_zero_le v31
  obtain ⟨z3,hz3⟩:=eX (x2.setCell ⟨w1.heap.size,0,none⟩ (Ii Jj (1))) [1,1,2,0] 2 v3k (by simp;omega)
  have cz3:x3.cell? ⟨x2.heap.size,v3k,none⟩=some (Ii Jj z3):=by
   have e:(x2.setCell ⟨w1.heap.size,0,none⟩ (Ii Jj (1))).heap.size=x2.heap.size:=by simp[World.setCell]
   have hBo:x2.heap.size≠B:=by have:=RXx2.out.2.2.2.1;omega
   rw[SN.cell (p:=⟨x2.heap.size,v3k,none⟩) (by simp[World.setCell]) hBo,←e]
   exact hz3
  clear hz3
  clear RN SN OXx2 QXx2 RXx2 SXx2
  clear y0 y1 y2 y3 y4 yz yf
  obtain ⟨⟨y0,y1,y2,y3,y4,yz⟩,yf⟩:=OXx3.out
  go_wp2_with fail
  refine (aq B a len cap 60 _ ((RXx3.out.setFar hBR _)) (by omega) (by omega)).mono ?_
  rintro e x4 ⟨v4,rfl,v41,v42,RN,SN⟩
  have OXx4:Hid (OB x4 w1.heap.size (1) (vi) (z3) (0) (0)):=((OXx3.out.set2 (z3))).stp SN hRB
  have QXx4:Hid (OB x4 w.heap.size 0 0 0 0 0):=((QXx3.out.far hRQ 2 _)).stp SN hQB
  have RXx4:Hid (Rd x4 B a len cap):=RN
  have SXx4:Hid (an B w x4):=((SXx3.out.far hwR 2 _)).trans SN
  clear RN SN OXx3 QXx3 RXx3 SXx3
  clear y0 y1 y2 y3 y4 yz yf
  obtain ⟨⟨y0,y1,y2,y3,y4,yz⟩,yf⟩:=OXx4.out
  by_cases hz0:z3=0
  ·subst hz0
   by_cases hv0:v4<=1
   ·skip
    go_wp2_with fail
    refine (aq B a len cap 600 _ (((RXx4.out.setFar hBR _).setFar hBR _)) (by omega) (by omega)).mono ?_
    rintro e x5 ⟨vr,rfl,vr1,vr2,RN,SN⟩
    try rw[show max 0 (v4-1)=0 by omega] at SN
    have OXx5:Hid (OB x5 w1.heap.size (1) (vi) (0) (0) (0)):=(((OXx4.out.set3 (v4-1)).set3 (0))).stp SN hRB
    have QXx5:Hid (OB x5 w.heap.size 0 0 0 0 0):=(((QXx4.out.far hRQ 3 _).far hRQ 3 _)).stp SN hQB
    have RXx5:Hid (Rd x5 B a len cap):=RN
    have SXx5:Hid (an B w x5):=(((SXx4.out.far hwR 3 _).far hwR 3 _)).trans SN
    clear RN SN OXx4 QXx4 RXx4 SXx4
    clear y0 y1 y2 y3 y4 yz yf
    obtain ⟨⟨y0,y1,y2,y3,y4,yz⟩,yf⟩:=OXx5.out
    go_wp2_with fail
    refine (aU B a len cap 40 _ ((RXx5.out.setFar hBR _)) (by omega) (by omega)).mono ?_
    rintro e x6 ⟨bo,rfl,RN,SN⟩
    have OXx6:Hid (OB x6 w1.heap.size (1) (vi) (0) (0) (vr)):=((OXx5.out.set4 (vr))).stp SN hRB
    have QXx6:Hid (OB x6 w.heap.size 0 0 0 0 0):=((QXx5.out.far hRQ 4 _)).stp SN hQB
    have RXx6:Hid (Rd x6 B a len cap):=RN
    have SXx6:Hid (an B w x6):=((SXx5.out.far hwR 4 _)).trans SN
    clear RN SN OXx5 QXx5 RXx5 SXx5
    clear y0 y1 y2 y3 y4 yz yf
    cases bo with
    | false=>
     obtain ⟨⟨y0,y1,y2,y3,y4,yz⟩,yf⟩:=OXx6.out
     obtain ⟨⟨q0,q1,q2,q3,q4,qz⟩,qf⟩:=QXx6.out
     go_wp2
     refine bodyPost_ret (v:=.agg #[Ii Jj (1),Ii Jj (vi),Ii Jj (0),Ii Jj (0),Ii Jj (vr)]) (by simp[results,Tryz.results64,go_sem,q0,q1,q2,q3,q4]) rfl ⟨_,_,_,_,_,rfl,?_,?_⟩
     ·exact (((((RXx6.out.setFar hBQ _).setFar hBQ _).setFar hBQ _).setFar hBQ _).setFar hBQ _)
     ·exact (((((SXx6.out.far (Nf _) 0 _).far (Nf _) 1 _).far (Nf _) 2 _).far (Nf _) 3 _).far (Nf _) 4 _)
    | true=>
     obtain ⟨⟨y0,y1,y2,y3,y4,yz⟩,yf⟩:=OXx6.out
     go_wp2_with fail
     refine (aV B a len cap 0 1000000000000 _ (RXx6.out) (by omega) (by omega) (by omega)).mono ?_
     rintro e x7 ⟨vo,rfl,RN,SN⟩
     have OXx7:Hid (OB x7 w1.heap.size (1) (vi) (0) (0) (vr)):=(OXx6.out).stp SN hRB
     have QXx7:Hid (OB x7 w.heap.size 0 0 0 0 0):=(QXx6.out).stp SN hQB
     have RXx7:Hid (Rd x7 B a len cap):=RN
     have SXx7:Hid (an B w x7):=(SXx6.out).trans SN
     clear RN SN OXx6 QXx6 RXx6 SXx6
     clear y0 y1 y2 y3 y4 yz yf
     obtain ⟨⟨y0,y1,y2,y3,y4,yz⟩,yf⟩:=OXx7.out
     obtain ⟨⟨q0,q1,q2,q3,q4,qz⟩,qf⟩:=QXx7.out
     go_wp2
     refine bodyPost_ret (v:=.agg #[Ii Jj (1),Ii Jj (vi),Ii Jj (0),Ii Jj (vo),Ii Jj (vr)]) (by simp[results,Tryz.results64,go_sem,q0,q1,q2,q3,q4]) rfl ⟨_,_,_,_,_,rfl,?_,?_⟩
     ·exact ((((((RXx7.out.setFar hBR _).setFar hBQ _).setFar hBQ _).setFar hBQ _).setFar hBQ _).setFar hBQ _)
     ·exact ((((((SXx7.out.far hwR 3 _).far (Nf _) 0 _).far (Nf _) 1 _).far (Nf _) 2 _).far (Nf _) 3 _).far (Nf _) 4 _)
   ·have hv1:2<=v4:=by omega
    clear hv0
    go_wp2_with fail
    refine (aq B a len cap 600 _ (((RXx4.out.setFar hBR _).setFar hBR _)) (by omega) (by omega)).mono ?_
    rintro e x5 ⟨vr,rfl,vr1,vr2,RN,SN⟩
    try rw[show max 0 (v4-1)=v4-1 by omega] at SN
    have OXx5:Hid (OB x5 w1.heap.size (1) (vi) (0) (v4-1) (0)):=(((OXx4.out.set3 (v4-1)).set3 (v4-1))).stp SN hRB
    have QXx5:Hid (OB x5 w.heap.size 0 0 0 0 0):=(((QXx4.out.far hRQ 3 _).far hRQ 3 _)).stp SN hQB
    have RXx5:Hid (Rd x5 B a len cap):=RN
    have SXx5:Hid (an B w x5):=(((SXx4.out.far hwR 3 _).far hwR 3 _)).trans SN
    clear RN SN OXx4 QXx4 RXx4 SXx4
    clear y0 y1 y2 y3 y4 yz yf
    obtain ⟨⟨y0,y1,y2,y3,y4,yz⟩,yf⟩:=OXx5.out
    go_wp2_with fail
    refine (aU B a len cap 40 _ ((RXx5.out.setFar hBR _)) (by omega) (by omega)).mono ?_
    rintro e x6 ⟨bo,rfl,RN,SN⟩
    have OXx6:Hid (OB x6 w1.heap.size (1) (vi) (0) (v4-1) (vr)):=((OXx5.out.set4 (vr))).stp SN hRB
    have QXx6:Hid (OB x6 w.heap.size 0 0 0 0 0):=((QXx5.out.far hRQ 4 _)).stp SN hQB
    have RXx6:Hid (Rd x6 B a len cap):=RN
    have SXx6:Hid (an B w x6):=((SXx5.out.far hwR 4 _)).trans SN
    clear RN SN OXx5 QXx5 RXx5 SXx5
    clear y0 y1 y2 y3 y4 yz yf
    cases bo with
    | false=>
     obtain ⟨⟨y0,y1,y2,y3,y4,yz⟩,yf⟩:=OXx6.out
     obtain ⟨⟨q0,q1,q2,q3,q4,qz⟩,qf⟩:=QXx6.out
     go_wp2
     refine bodyPost_ret (v:=.agg #[Ii Jj (1),Ii Jj (vi),Ii Jj (0),Ii Jj (v4-1),Ii Jj (vr)]) (by simp[results,Tryz.results64,go_sem,q0,q1,q2,q3,q4]) rfl ⟨_,_,_,_,_,rfl,?_,?_⟩
     ·exact (((((RXx6.out.setFar hBQ _).setFar hBQ _).setFar hBQ _).setFar hBQ _).setFar hBQ _)
     ·exact (((((SXx6.out.far (Nf _) 0 _).far (Nf _) 1 _).far (Nf _) 2 _).far (Nf _) 3 _).far (Nf _) 4 _)
    | true=>
     obtain ⟨⟨y0,y1,y2,y3,y4,yz⟩,yf⟩:=OXx6.out
     go_wp2_with fail
     refine (aV B a len cap 0 1000000000000 _ (RXx6.out) (by omega) (by omega) (by omega)).mono ?_
     rintro e x7 ⟨vo,rfl,RN,SN⟩
     have OXx7:Hid (OB x7 w1.heap.size (1) (vi) (0) (v4-1) (vr)):=(OXx6.out).stp SN hRB
     have QXx7:Hid (OB x7 w.heap.size 0 0 0 0 0):=(QXx6.out).stp SN hQB
     have RXx7:Hid (Rd x7 B a len cap):=RN
     have SXx7:Hid (an B w x7):=(SXx6.out).trans SN
     clear RN SN OXx6 QXx6 RXx6 SXx6
     clear y0 y1 y2 y3 y4 yz yf
     obtain ⟨⟨y0,y1,y2,y3,y4,yz⟩,yf⟩:=OXx7.out
     obtain ⟨⟨q0,q1,q2,q3,q4,qz⟩,qf⟩:=QXx7.out
     go_wp2
     refine bodyPost_ret (v:=.agg #[Ii Jj (1),Ii Jj (vi),Ii Jj (0),Ii Jj (vo),Ii Jj (vr)]) (by simp[results,Tryz.results64,go_sem,q0,q1,q2,q3,q4]) rfl ⟨_,_,_,_,_,rfl,?_,?_⟩
     ·exact ((((((RXx7.out.setFar hBR _).setFar hBQ _).setFar hBQ _).setFar hBQ _).setFar hBQ _).setFar hBQ _)
     ·exact ((((((SXx7.out.far hwR 3 _).far (Nf _) 0 _).far (Nf _) 1 _).far (Nf _) 2 _).far (Nf _) 3 _).far (Nf _) 4 _)
  ·have hzb:(z3 == 0)=false:=by simp[hz0]
   clear hz0
   clear y0 y1 y2 y3 y4 yz yf
   obtain ⟨⟨y0,y1,y2,y3,y4,yz⟩,yf⟩:=OXx4.out
   go_wp2_with fail
   refine (aU B a len cap 40 _ ((RXx4.out.setFar hBR _)) (by omega) (by omega)).mono ?_
   rintro e x5 ⟨bo,rfl,RN,SN⟩
   have OXx5:Hid (OB x5 w1.heap.size (1) (vi) (z3) (v4-1) (0)):=((OXx4.out.set3 (v4-1))).stp SN hRB
   have QXx5:Hid (OB x5 w.heap.size 0 0 0 0 0):=((QXx4.out.far hRQ 3 _)).stp SN hQB
   have RXx5:Hid (Rd x5 B a len cap):=RN
   have SXx5:Hid (an B w x5):=((SXx4.out.far hwR 3 _)).trans SN
   clear RN SN OXx4 QXx4 RXx4 SXx4
   clear y0 y1 y2 y3 y4 yz yf
   cases bo with
   | false=>
    obtain ⟨⟨y0,y1,y2,y3,y4,yz⟩,yf⟩:=OXx5.out
    obtain ⟨⟨q0,q1,q2,q3,q4,qz⟩,qf⟩:=QXx5.out
    go_wp2
    refine bodyPost_ret (v:=.agg #[Ii Jj (1),Ii Jj (vi),Ii Jj (z3),Ii Jj (v4-1),Ii Jj (0)]) (by simp[results,Tryz.results64,go_sem,q0,q1,q2,q3,q4]) rfl ⟨_,_,_,_,_,rfl,?_,?_⟩
    ·exact (((((RXx5.out.setFar hBQ _).setFar hBQ _).setFar hBQ _).setFar hBQ _).setFar hBQ _)
    ·exact (((((SXx5.out.far (Nf _) 0 _).far (Nf _) 1 _).far (Nf _) 2 _).far (Nf _) 3 _).far (Nf _) 4 _)
   | true=>
    obtain ⟨⟨y0,y1,y2,y3,y4,yz⟩,yf⟩:=OXx5.out
    go_wp2_with fail
    refine (aV B a len cap 0 1000000000000 _ (RXx5.out) (by omega) (by omega) (by omega)).mono ?_
    rintro e x6 ⟨vo,rfl,RN,SN⟩
    have OXx6:Hid (OB x6 w1.heap.size (1) (vi) (z3) (v4-1) (0)):=(OXx5.out).stp SN hRB
    have QXx6:Hid (OB x6 w.heap.size 0 0 0 0 0):=(QXx5.out).stp SN hQB
    have RXx6:Hid (Rd x6 B a len cap):=RN
    have SXx6:Hid (an B w x6):=(SXx5.out).trans SN
    clear RN SN OXx5 QXx5 RXx5 SXx5
    clear y0 y1 y2 y3 y4 yz yf
    obtain ⟨⟨y0,y1,y2,y3,y4,yz⟩,yf⟩:=OXx6.out
    obtain ⟨⟨q0,q1,q2,q3,q4,qz⟩,qf⟩:=QXx6.out
    go_wp2
    refine bodyPost_ret (v:=.agg #[Ii Jj (1),Ii Jj (vi),Ii Jj (z3),Ii Jj (vo),Ii Jj (0)]) (by simp[results,Tryz.results64,go_sem,q0,q1,q2,q3,q4]) rfl ⟨_,_,_,_,_,rfl,?_,?_⟩
    ·exact ((((((RXx6.out.setFar hBR _).setFar hBQ _).setFar hBQ _).setFar hBQ _).setFar hBQ _).setFar hBQ _)
    ·exact ((((((SXx6.out.far hwR 3 _).far (Nf _) 0 _).far (Nf _) 1 _).far (Nf _) 2 _).far (Nf _) 3 _).far (Nf _) 4 _)
 ·obtain ⟨⟨y0,y1,y2,y3,y4,yz⟩,yf⟩:=OXx2.out
  go_wp2_with fail
  refine (aq B a len cap 4 _ ((RXx2.out.setFar hBR _).alloc _) (by omega) (by omega)).mono ?_
  rintro e x3 ⟨v3,rfl,v31,v32,RN,SN⟩
  have OXx3:Hid (OB x3 w1.heap.size (1) (vi) (0) (0) (0)):=((OXx2.out.set0 (1)).alloc _).stp SN hRB
  have QXx3:Hid (OB x3 w.heap.size 0 0 0 0 0):=((QXx2.out.far hRQ 0 _).alloc _).stp SN hQB
  have RXx3:Hid (Rd x3 B a len cap):=RN
  have SXx3:Hid (an B w x3):=((SXx2.out.far hwR 0 _).alloc _).trans SN
  obtain ⟨v3k,rfl⟩:=Int.eq_ofNat_of_zero_le v31
  obtain ⟨z3,hz3⟩:=eX (x2.setCell ⟨w1.heap.size,0,none⟩ (Ii Jj (1))) [1,1,2,0] 2 v3k (by simp;omega)
  have cz3:x3.cell? ⟨x2.heap.size,v3k,none⟩=some (Ii Jj z3):=by
   have e:(x2.setCell ⟨w1.heap.size,0,none⟩ (Ii Jj (1))).heap.size=x2.heap.size:=by simp[World.setCell]
   have hBo:x2.heap.size≠B:=by have:=RXx2.out.2.2.2.1;omega
   rw[SN.cell (p:=⟨x2.heap.size,v3k,none⟩) (by simp[World.setCell]) hBo,←e]
   exact hz3
  clear hz3
  clear RN SN OXx2 QXx2 RXx2 SXx2
  clear y0 y1 y2 y3 y4 yz yf
  obtain ⟨⟨y0,y1,y2,y3,y4,yz⟩,yf⟩:=OXx3.out
  go_wp2_with fail
  refine (aq B a len cap 60 _ ((RXx3.out.setFar hBR _)) (by omega) (by omega)).mono ?_
  rintro e x4 ⟨v4,rfl,v41,v42,RN,SN⟩
  have OXx4:Hid (OB x4 w1.heap.size (1) (vi) (z3) (0) (0)):=((OXx3.out.set2 (z3))).stp SN hRB
  have QXx4:Hid (OB x4 w.heap.size 0 0 0 0 0):=((QXx3.out.far hRQ 2 _)).stp SN hQB
  have RXx4:Hid (Rd x4 B a len cap):=RN
  have SXx4:Hid (an B w x4):=((SXx3.out.far hwR 2 _)).trans SN
  clear RN SN OXx3 QXx3 RXx3 SXx3
  clear y0 y1 y2 y3 y4 yz yf
  obtain ⟨⟨y0,y1,y2,y3,y4,yz⟩,yf⟩:=OXx4.out
  by_cases hz0:z3=0
  ·subst hz0
   by_cases hv0:v4<=1
   ·skip
    go_wp2_with fail
    refine (aq B a len cap 600 _ (((RXx4.out.setFar hBR _).setFar hBR _)) (by omega) (by omega)).mono ?_
    rintro e x5 ⟨vr,rfl,vr1,vr2,RN,SN⟩
    try rw[show max 0 (v4-1)=0 by omega] at SN
    have OXx5:Hid (OB x5 w1.heap.size (1) (vi) (0) (0) (0)):=(((OXx4.out.set3 (v4-1)).set3 (0))).stp SN hRB
    have QXx5:Hid (OB x5 w.heap.size 0 0 0 0 0):=(((QXx4.out.far hRQ 3 _).far hRQ 3 _)).stp SN hQB
    have RXx5:Hid (Rd x5 B a len cap):=RN
    have SXx5:Hid (an B w x5):=(((SXx4.out.far hwR 3 _).far hwR 3 _)).trans SN
    clear RN SN OXx4 QXx4 RXx4 SXx4
    clear y0 y1 y2 y3 y4 yz yf
    obtain ⟨⟨y0,y1,y2,y3,y4,yz⟩,yf⟩:=OXx5.out
    go_wp2_with fail
    refine (aU B a len cap 40 _ ((RXx5.out.setFar hBR _)) (by omega) (by omega)).mono ?_
    rintro e x6 ⟨bo,rfl,RN,SN⟩
    have OXx6:Hid (OB x6 w1.heap.size (1) (vi) (0) (0) (vr)):=((OXx5.out.set4 (vr))).stp SN hRB
    have QXx6:Hid (OB x6 w.heap.size 0 0 0 0 0):=((QXx5.out.far hRQ 4 _)).stp SN hQB
    have RXx6:Hid (Rd x6 B a len cap):=RN
    have SXx6:Hid (an B w x6):=((SXx5.out.far hwR 4 _)).trans SN
    clear RN SN OXx5 QXx5 RXx5 SXx5
    clear y0 y1 y2 y3 y4 yz yf
    cases bo with
    | false=>
     obtain ⟨⟨y0,y1,y2,y3,y4,yz⟩,yf⟩:=OXx6.out
     obtain ⟨⟨q0,q1,q2,q3,q4,qz⟩,qf⟩:=QXx6.out
     go_wp2
     refine bodyPost_ret (v:=.agg #[Ii Jj (1),Ii Jj (vi),Ii Jj (0),Ii Jj (0),Ii Jj (vr)]) (by simp[results,Tryz.results64,go_sem,q0,q1,q2,q3,q4]) rfl ⟨_,_,_,_,_,rfl,?_,?_⟩
     ·exact (((((RXx6.out.setFar hBQ _).setFar hBQ _).setFar hBQ _).setFar hBQ _).setFar hBQ _)
     ·exact (((((SXx6.out.far (Nf _) 0 _).far (Nf _) 1 _).far (Nf _) 2 _).far (Nf _) 3 _).far (Nf _) 4 _)
    | true=>
     obtain ⟨⟨y0,y1,y2,y3,y4,yz⟩,yf⟩:=OXx6.out
     go_wp2_with fail
     refine (aV B a len cap 0 1000000000000 _ (RXx6.out) (by omega) (by omega) (by omega)).mono ?_
     rintro e x7 ⟨vo,rfl,RN,SN⟩
     have OXx7:Hid (OB x7 w1.heap.size (1) (vi) (0) (0) (vr)):=(OXx6.out).stp SN hRB
     have QXx7:Hid (OB x7 w.heap.size 0 0 0 0 0):=(QXx6.out).stp SN hQB
     have RXx7:Hid (Rd x7 B a len cap):=RN
     have SXx7:Hid (an B w x7):=(SXx6.out).trans SN
     clear RN SN OXx6 QXx6 RXx6 SXx6
     clear y0 y1 y2 y3 y4 yz yf
     obtain ⟨⟨y0,y1,y2,y3,y4,yz⟩,yf⟩:=OXx7.out
     obtain ⟨⟨q0,q1,q2,q3,q4,qz⟩,qf⟩:=QXx7.out
     go_wp2
     refine bodyPost_ret (v:=.agg #[Ii Jj (1),Ii Jj (vi),Ii Jj (0),Ii Jj (vo),Ii Jj (vr)]) (by simp[results,Tryz.results64,go_sem,q0,q1,q2,q3,q4]) rfl ⟨_,_,_,_,_,rfl,?_,?_⟩
     ·exact ((((((RXx7.out.setFar hBR _).setFar hBQ _).setFar hBQ _).setFar hBQ _).setFar hBQ _).setFar hBQ _)
     ·exact ((((((SXx7.out.far hwR 3 _).far (Nf _) 0 _).far (Nf _) 1 _).far (Nf _) 2 _).far (Nf _) 3 _).far (Nf _) 4 _)
   ·have hv1:2<=v4:=by omega
    clear hv0
    go_wp2_with fail
    refine (aq B a len cap 600 _ (((RXx4.out.setFar hBR _).setFar hBR _)) (by omega) (by omega)).mono ?_
    rintro e x5 ⟨vr,rfl,vr1,vr2,RN,SN⟩
    try rw[show max 0 (v4-1)=v4-1 by omega] at SN
    have OXx5:Hid (OB x5 w1.heap.size (1) (vi) (0) (v4-1) (0)):=(((OXx4.out.set3 (v4-1)).set3 (v4-1))).stp SN hRB
    have QXx5:Hid (OB x5 w.heap.size 0 0 0 0 0):=(((QXx4.out.far hRQ 3 _).far hRQ 3 _)).stp SN hQB
    have RXx5:Hid (Rd x5 B a len cap):=RN
    have SXx5:Hid (an B w x5):=(((SXx4.out.far hwR 3 _).far hwR 3 _)).trans SN
    clear RN SN OXx4 QXx4 RXx4 SXx4
    clear y0 y1 y2 y3 y4 yz yf
    obtain ⟨⟨y0,y1,y2,y3,y4,yz⟩,yf⟩:=OXx5.out
    go_wp2_with fail
    refine (aU B a len cap 40 _ ((RXx5.out.setFar hBR _)) (by omega) (by omega)).mono ?_
    rintro e x6 ⟨bo,rfl,RN,SN⟩
    have OXx6:Hid (OB x6 w1.heap.size (1) (vi) (0) (v4-1) (vr)):=((OXx5.out.set4 (vr))).stp SN hRB
    have QXx6:Hid (OB x6 w.heap.size 0 0 0 0 0):=((QXx5.out.far hRQ 4 _)).stp SN hQB
    have RXx6:Hid (Rd x6 B a len cap):=RN
    have SXx6:Hid (an B w x6):=((SXx5.out.far hwR 4 _)).trans SN
    clear RN SN OXx5 QXx5 RXx5 SXx5
    clear y0 y1 y2 y3 y4 yz yf
    cases bo with
    | false=>
     obtain ⟨⟨y0,y1,y2,y3,y4,yz⟩,yf⟩:=OXx6.out
     obtain ⟨⟨q0,q1,q2,q3,q4,qz⟩,qf⟩:=QXx6.out
     go_wp2
     refine bodyPost_ret (v:=.agg #[Ii Jj (1),Ii Jj (vi),Ii Jj (0),Ii Jj (v4-1),Ii Jj (vr)]) (by simp[results,Tryz.results64,go_sem,q0,q1,q2,q3,q4]) rfl ⟨_,_,_,_,_,rfl,?_,?_⟩
     ·exact (((((RXx6.out.setFar hBQ _).setFar hBQ _).setFar hBQ _).setFar hBQ _).setFar hBQ _)
     ·exact (((((SXx6.out.far (Nf _) 0 _).far (Nf _) 1 _).far (Nf _) 2 _).far (Nf _) 3 _).far (Nf _) 4 _)
    | true=>
     obtain ⟨⟨y0,y1,y2,y3,y4,yz⟩,yf⟩:=OXx6.out
     go_wp2_with fail
     refine (aV B a len cap 0 1000000000000 _ (RXx6.out) (by omega) (by omega) (by omega)).mono ?_
     rintro e x7 ⟨vo,rfl,RN,SN⟩
     have OXx7:Hid (OB x7 w1.heap.size (1) (vi) (0) (v4-1) (vr)):=(OXx6.out).stp SN hRB
     have QXx7:Hid (OB x7 w.heap.size 0 0 0 0 0):=(QXx6.out).stp SN hQB
     have RXx7:Hid (Rd x7 B a len cap):=RN
     have SXx7:Hid (an B w x7):=(SXx6.out).trans SN
     clear RN SN OXx6 QXx6 RXx6 SXx6
     clear y0 y1 y2 y3 y4 yz yf
     obtain ⟨⟨y0,y1,y2,y3,y4,yz⟩,yf⟩:=OXx7.out
     obtain ⟨⟨q0,q1,q2,q3,q4,qz⟩,qf⟩:=QXx7.out
     go_wp2
     refine bodyPost_ret (v:=.agg #[Ii Jj (1),Ii Jj (vi),Ii Jj (0),Ii Jj (vo),Ii Jj (vr)]) (by simp[results,Tryz.results64,go_sem,q0,q1,q2,q3,q4]) rfl ⟨_,_,_,_,_,rfl,?_,?_⟩
     ·exact ((((((RXx7.out.setFar hBR _).setFar hBQ _).setFar hBQ _).setFar hBQ _).setFar hBQ _).setFar hBQ _)
     ·exact ((((((SXx7.out.far hwR 3 _).far (Nf _) 0 _).far (Nf _) 1 _).far (Nf _) 2 _).far (Nf _) 3 _).far (Nf _) 4 _)
  ·have hzb:(z3 == 0)=false:=by simp[hz0]
   clear hz0
   clear y0 y1 y2 y3 y4 yz yf
   obtain ⟨⟨y0,y1,y2,y3,y4,yz⟩,yf⟩:=OXx4.out
   go_wp2_with fail
   refine (aU B a len cap 40 _ ((RXx4.out.setFar hBR _)) (by omega) (by omega)).mono ?_
   rintro e x5 ⟨bo,rfl,RN,SN⟩
   have OXx5:Hid (OB x5 w1.heap.size (1) (vi) (z3) (v4-1) (0)):=((OXx4.out.set3 (v4-1))).stp SN hRB
   have QXx5:Hid (OB x5 w.heap.size 0 0 0 0 0):=((QXx4.out.far hRQ 3 _)).stp SN hQB
   have RXx5:Hid (Rd x5 B a len cap):=RN
   have SXx5:Hid (an B w x5):=((SXx4.out.far hwR 3 _)).trans SN
   clear RN SN OXx4 QXx4 RXx4 SXx4
   clear y0 y1 y2 y3 y4 yz yf
   cases bo with
   | false=>
    obtain ⟨⟨y0,y1,y2,y3,y4,yz⟩,yf⟩:=OXx5.out
    obtain ⟨⟨q0,q1,q2,q3,q4,qz⟩,qf⟩:=QXx5.out
    go_wp2
    refine bodyPost_ret (v:=.agg #[Ii Jj (1),Ii Jj (vi),Ii Jj (z3),Ii Jj (v4-1),Ii Jj (0)]) (by simp[results,Tryz.results64,go_sem,q0,q1,q2,q3,q4]) rfl ⟨_,_,_,_,_,rfl,?_,?_⟩
    ·exact (((((RXx5.out.setFar hBQ _).setFar hBQ _).setFar hBQ _).setFar hBQ _).setFar hBQ _)
    ·exact (((((SXx5.out.far (Nf _) 0 _).far (Nf _) 1 _).far (Nf _) 2 _).far (Nf _) 3 _).far (Nf _) 4 _)
   | true=>
    obtain ⟨⟨y0,y1,y2,y3,y4,yz⟩,yf⟩:=OXx5.out
    go_wp2_with fail
    refine (aV B a len cap 0 1000000000000 _ (RXx5.out) (by omega) (by omega) (by omega)).mono ?_
    rintro e x6 ⟨vo,rfl,RN,SN⟩
    have OXx6:Hid (OB x6 w1.heap.size (1) (vi) (z3) (v4-1) (0)):=(OXx5.out).stp SN hRB
    have QXx6:Hid (OB x6 w.heap.size 0 0 0 0 0):=(QXx5.out).stp SN hQB
    have RXx6:Hid (Rd x6 B a len cap):=RN
    have SXx6:Hid (an B w x6):=(SXx5.out).trans SN
    clear RN SN OXx5 QXx5 RXx5 SXx5
    clear y0 y1 y2 y3 y4 yz yf
    obtain ⟨⟨y0,y1,y2,y3,y4,yz⟩,yf⟩:=OXx6.out
    obtain ⟨⟨q0,q1,q2,q3,q4,qz⟩,qf⟩:=QXx6.out
    go_wp2
    refine bodyPost_ret (v:=.agg #[Ii Jj (1),Ii Jj (vi),Ii Jj (z3),Ii Jj (vo),Ii Jj (0)]) (by simp[results,Tryz.results64,go_sem,q0,q1,q2,q3,q4]) rfl ⟨_,_,_,_,_,rfl,?_,?_⟩
    ·exact ((((((RXx6.out.setFar hBR _).setFar hBQ _).setFar hBQ _).setFar hBQ _).setFar hBQ _).setFar hBQ _)
    ·exact ((((((SXx6.out.far hwR 3 _).far (Nf _) 0 _).far (Nf _) 1 _).far (Nf _) 2 _).far (Nf _) 3 _).far (Nf _) 4 _)
 ·obtain ⟨⟨y0,y1,y2,y3,y4,yz⟩,yf⟩:=OXx2.out
  go_wp2_with fail
  refine (aq B a len cap 4 _ ((RXx2.out.setFar hBR _).alloc _) (by omega) (by omega)).mono ?_
  rintro e x3 ⟨v3,rfl,v31,v32,RN,SN⟩
  have OXx3:Hid (OB x3 w1.heap.size (1) (vi) (0) (0) (0)):=((OXx2.out.set0 (1)).alloc _).stp SN hRB
  have QXx3:Hid (OB x3 w.heap.size 0 0 0 0 0):=((QXx2.out.far hRQ 0 _).alloc _).stp SN hQB
  have RXx3:Hid (Rd x3 B a len cap):=RN
  have SXx3:Hid (an B w x3):=((SXx2.out.far hwR 0 _).alloc _).trans SN
  obtain ⟨v3k,rfl⟩:=Int.eq_ofNat_of_zero_le v31
  obtain ⟨z3,hz3⟩:=eX (x2.setCell ⟨w1.heap.size,0,none⟩ (Ii Jj (1))) [1,1,2,0] 2 v3k (by simp;omega)
  have cz3:x3.cell? ⟨x2.heap.size,v3k,none⟩=some (Ii Jj z3):=by
   have e:(x2.setCell ⟨w1.heap.size,0,none⟩ (Ii Jj (1))).heap.size=x2.heap.size:=by simp[World.setCell]
   have hBo:x2.heap.size≠B:=by have:=RXx2.out.2.2.2.1;omega
   rw[SN.cell (p:=⟨x2.heap.size,v3k,none⟩) (by simp[World.setCell]) hBo,←e]
   exact hz3
  clear hz3
  clear RN SN OXx2 QXx2 RXx2 SXx2
  clear y0 y1 y2 y3 y4 yz yf
  obtain ⟨⟨y0,y1,y2,y3,y4,yz⟩,yf⟩:=OXx3.out
  go_wp2_with fail
  refine (aq B a len cap 60 _ ((RXx3.out.setFar hBR _)) (by omega) (by omega)).mono ?_
  rintro e x4 ⟨v4,rfl,v41,v42,RN,SN⟩
  have OXx4:Hid (OB x4 w1.heap.size (1) (vi) (z3) (0) (0)):=((OXx3.out.set2 (z3))).stp SN hRB
  have QXx4:Hid (OB x4 w.heap.size 0 0 0 0 0):=((QXx3.out.far hRQ 2 _)).stp SN hQB
  have RXx4:Hid (Rd x4 B a len cap):=RN
  have SXx4:Hid (an B w x4):=((SXx3.out.far hwR 2 _)).trans SN
  clear RN SN OXx3 QXx3 RXx3 SXx3
  clear y0 y1 y2 y3 y4 yz yf
  obtain ⟨⟨y0,y1,y2,y3,y4,yz⟩,yf⟩:=OXx4.out
  by_cases hz0:z3=0
  ·subst hz0
   by_cases hv0:v4<=1
   ·skip
    go_wp2_with fail
    refine (aq B a len cap 600 _ (((RXx4.out.setFar hBR _).setFar hBR _)) (by omega) (by omega)).mono ?_
    rintro e x5 ⟨vr,rfl,vr1,vr2,RN,SN⟩
    try rw[show max 0 (v4-1)=0 by omega] at SN
    have OXx5:Hid (OB x5 w1.heap.size (1) (vi) (0) (0) (0)):=(((OXx4.out.set3 (v4-1)).set3 (0))).stp SN hRB
    have QXx5:Hid (OB x5 w.heap.size 0 0 0 0 0):=(((QXx4.out.far hRQ 3 _).far hRQ 3 _)).stp SN hQB
    have RXx5:Hid (Rd x5 B a len cap):=RN
    have SXx5:Hid (an B w x5):=(((SXx4.out.far hwR 3 _).far hwR 3 _)).trans SN
    clear RN SN OXx4 QXx4 RXx4 SXx4
    clear y0 y1 y2 y3 y4 yz yf
    obtain ⟨⟨y0,y1,y2,y3,y4,yz⟩,yf⟩:=OXx5.out
    go_wp2_with fail
    refine (aU B a len cap 40 _ ((RXx5.out.setFar hBR _)) (by omega) (by omega)).mono ?_
    rintro e x6 ⟨bo,rfl,RN,SN⟩
    have OXx6:Hid (OB x6 w1.heap.size (1) (vi) (0) (0) (vr)):=((OXx5.out.set4 (vr))).stp SN hRB
    have QXx6:Hid (OB x6 w.heap.size 0 0 0 0 0):=((QXx5.out.far hRQ 4 _)).stp SN hQB
    have RXx6:Hid (Rd x6 B a len cap):=RN
    have SXx6:Hid (an B w x6):=((SXx5.out.far hwR 4 _)).trans SN
    clear RN SN OXx5 QXx5 RXx5 SXx5
    clear y0 y1 y2 y3 y4 yz yf
    cases bo with
    | false=>
     obtain ⟨⟨y0,y1,y2,y3,y4,yz⟩,yf⟩:=OXx6.out
     obtain ⟨⟨q0,q1,q2,q3,q4,qz⟩,qf⟩:=QXx6.out
     go_wp2
     refine bodyPost_ret (v:=.agg #[Ii Jj (1),Ii Jj (vi),Ii Jj (0),Ii Jj (0),Ii Jj (vr)]) (by simp[results,Tryz.results64,go_sem,q0,q1,q2,q3,q4]) rfl ⟨_,_,_,_,_,rfl,?_,?_⟩
     ·exact (((((RXx6.out.setFar hBQ _).setFar hBQ _).setFar hBQ _).setFar hBQ _).setFar hBQ _)
     ·exact (((((SXx6.out.far (Nf _) 0 _).far (Nf _) 1 _).far (Nf _) 2 _).far (Nf _) 3 _).far (Nf _) 4 _)
    | true=>
     obtain ⟨⟨y0,y1,y2,y3,y4,yz⟩,yf⟩:=OXx6.out
     go_wp2_with fail
     refine (aV B a len cap 0 1000000000000 _ (RXx6.out) (by omega) (by omega) (by omega)).mono ?_
     rintro e x7 ⟨vo,rfl,RN,SN⟩
     have OXx7:Hid (OB x7 w1.heap.size (1) (vi) (0) (0) (vr)):=(OXx6.out).stp SN hRB
     have QXx7:Hid (OB x7 w.heap.size 0 0 0 0 0):=(QXx6.out).stp SN hQB
     have RXx7:Hid (Rd x7 B a len cap):=RN
     have SXx7:Hid (an B w x7):=(SXx6.out).trans SN
     clear RN SN OXx6 QXx6 RXx6 SXx6
     clear y0 y1 y2 y3 y4 yz yf
     obtain ⟨⟨y0,y1,y2,y3,y4,yz⟩,yf⟩:=OXx7.out
     obtain ⟨⟨q0,q1,q2,q3,q4,qz⟩,qf⟩:=QXx7.out
     go_wp2
     refine bodyPost_ret (v:=.agg #[Ii Jj (1),Ii Jj (vi),Ii Jj (0),Ii Jj (vo),Ii Jj (vr)]) (by simp[results,Tryz.results64,go_sem,q0,q1,q2,q3,q4]) rfl ⟨_,_,_,_,_,rfl,?_,?_⟩
     ·exact ((((((RXx7.out.setFar hBR _).setFar hBQ _).setFar hBQ _).setFar hBQ _).setFar hBQ _).setFar hBQ _)
     ·exact ((((((SXx7.out.far hwR 3 _).far (Nf _) 0 _).far (Nf _) 1 _).far (Nf _) 2 _).far (Nf _) 3 _).far (Nf _) 4 _)
   ·have hv1:2<=v4:=by omega
    clear hv0
    go_wp2_with fail
    refine (aq B a len cap 600 _ (((RXx4.out.setFar hBR _).setFar hBR _)) (by omega) (by omega)).mono ?_
    rintro e x5 ⟨vr,rfl,vr1,vr2,RN,SN⟩
    try rw[show max 0 (v4-1)=v4-1 by omega] at SN
    have OXx5:Hid (OB x5 w1.heap.size (1) (vi) (0) (v4-1) (0)):=(((OXx4.out.set3 (v4-1)).set3 (v4-1))).stp SN hRB
    have QXx5:Hid (OB x5 w.heap.size 0 0 0 0 0):=(((QXx4.out.far hRQ 3 _).far hRQ 3 _)).stp SN hQB
    have RXx5:Hid (Rd x5 B a len cap):=RN
    have SXx5:Hid (an B w x5):=(((SXx4.out.far hwR 3 _).far hwR 3 _)).trans SN
    clear RN SN OXx4 QXx4 RXx4 SXx4
    clear y0 y1 y2 y3 y4 yz yf
    obtain ⟨⟨y0,y1,y2,y3,y4,yz⟩,yf⟩:=OXx5.out
    go_wp2_with fail
    refine (aU B a len cap 40 _ ((RXx5.out.setFar hBR _)) (by omega) (by omega)).mono ?_
    rintro e x6 ⟨bo,rfl,RN,SN⟩
    have OXx6:Hid (OB x6 w1.heap.size (1) (vi) (0) (v4-1) (vr)):=((OXx5.out.set4 (vr))).stp SN hRB
    have QXx6:Hid (OB x6 w.heap.size 0 0 0 0 0):=((QXx5.out.far hRQ 4 _)).stp SN hQB
    have RXx6:Hid (Rd x6 B a len cap):=RN
    have SXx6:Hid (an B w x6):=((SXx5.out.far hwR 4 _)).trans SN
    clear RN SN OXx5 QXx5 RXx5 SXx5
    clear y0 y1 y2 y3 y4 yz yf
    cases bo with
    | false=>
     obtain ⟨⟨y0,y1,y2,y3,y4,yz⟩,yf⟩:=OXx6.out
     obtain ⟨⟨q0,q1,q2,q3,q4,qz⟩,qf⟩:=QXx6.out
     go_wp2
     refine bodyPost_ret (v:=.agg #[Ii Jj (1),Ii Jj (vi),Ii Jj (0),Ii Jj (v4-1),Ii Jj (vr)]) (by simp[results,Tryz.results64,go_sem,q0,q1,q2,q3,q4]) rfl ⟨_,_,_,_,_,rfl,?_,?_⟩
     ·exact (((((RXx6.out.setFar hBQ _).setFar hBQ _).setFar hBQ _).setFar hBQ _).setFar hBQ _)
     ·exact (((((SXx6.out.far (Nf _) 0 _).far (Nf _) 1 _).far (Nf _) 2 _).far (Nf _) 3 _).far (Nf _) 4 _)
    | true=>
     obtain ⟨⟨y0,y1,y2,y3,y4,yz⟩,yf⟩:=OXx6.out
     go_wp2_with fail
     refine (aV B a len cap 0 1000000000000 _ (RXx6.out) (by omega) (by omega) (by omega)).mono ?_
     rintro e x7 ⟨vo,rfl,RN,SN⟩
     have OXx7:Hid (OB x7 w1.heap.size (1) (vi) (0) (v4-1) (vr)):=(OXx6.out).stp SN hRB
     have QXx7:Hid (OB x7 w.heap.size 0 0 0 0 0):=(QXx6.out).stp SN hQB
     have RXx7:Hid (Rd x7 B a len cap):=RN
     have SXx7:Hid (an B w x7):=(SXx6.out).trans SN
     clear RN SN OXx6 QXx6 RXx6 SXx6
     clear y0 y1 y2 y3 y4 yz yf
     obtain ⟨⟨y0,y1,y2,y3,y4,yz⟩,yf⟩:=OXx7.out
     obtain ⟨⟨q0,q1,q2,q3,q4,qz⟩,qf⟩:=QXx7.out
     go_wp2
     refine bodyPost_ret (v:=.agg #[Ii Jj (1),Ii Jj (vi),Ii Jj (0),Ii Jj (vo),Ii Jj (vr)]) (by simp[results,Tryz.results64,go_sem,q0,q1,q2,q3,q4]) rfl ⟨_,_,_,_,_,rfl,?_,?_⟩
     ·exact ((((((RXx7.out.setFar hBR _).setFar hBQ _).setFar hBQ _).setFar hBQ _).setFar hBQ _).setFar hBQ _)
     ·exact ((((((SXx7.out.far hwR 3 _).far (Nf _) 0 _).far (Nf _) 1 _).far (Nf _) 2 _).far (Nf _) 3 _).far (Nf _) 4 _)
  ·have hzb:(z3 == 0)=false:=by simp[hz0]
   clear hz0
   clear y0 y1 y2 y3 y4 yz yf
   obtain ⟨⟨y0,y1,y2,y3,y4,yz⟩,yf⟩:=OXx4.out
   go_wp2_with fail
   refine (aU B a len cap 40 _ ((RXx4.out.setFar hBR _)) (by omega) (by omega)).mono ?_
   rintro e x5 ⟨bo,rfl,RN,SN⟩
   have OXx5:Hid (OB x5 w1.heap.size (1) (vi) (z3) (v4-1) (0)):=((OXx4.out.set3 (v4-1))).stp SN hRB
   have QXx5:Hid (OB x5 w.heap.size 0 0 0 0 0):=((QXx4.out.far hRQ 3 _)).stp SN hQB
   have RXx5:Hid (Rd x5 B a len cap):=RN
   have SXx5:Hid (an B w x5):=((SXx4.out.far hwR 3 _)).trans SN
   clear RN SN OXx4 QXx4 RXx4 SXx4
   clear y0 y1 y2 y3 y4 yz yf
   cases bo with
   | false=>
    obtain ⟨⟨y0,y1,y2,y3,y4,yz⟩,yf⟩:=OXx5.out
    obtain ⟨⟨q0,q1,q2,q3,q4,qz⟩,qf⟩:=QXx5.out
    go_wp2
    refine bodyPost_ret (v:=.agg #[Ii Jj (1),Ii Jj (vi),Ii Jj (z3),Ii Jj (v4-1),Ii Jj (0)]) (by simp[results,Tryz.results64,go_sem,q0,q1,q2,q3,q4]) rfl ⟨_,_,_,_,_,rfl,?_,?_⟩
    ·exact (((((RXx5.out.setFar hBQ _).setFar hBQ _).setFar hBQ _).setFar hBQ _).setFar hBQ _)
    ·exact (((((SXx5.out.far (Nf _) 0 _).far (Nf _) 1 _).far (Nf _) 2 _).far (Nf _) 3 _).far (Nf _) 4 _)
   | true=>
    obtain ⟨⟨y0,y1,y2,y3,y4,yz⟩,yf⟩:=OXx5.out
    go_wp2_with fail
    refine (aV B a len cap 0 1000000000000 _ (RXx5.out) (by omega) (by omega) (by omega)).mono ?_
    rintro e x6 ⟨vo,rfl,RN,SN⟩
    have OXx6:Hid (OB x6 w1.heap.size (1) (vi) (z3) (v4-1) (0)):=(OXx5.out).stp SN hRB
    have QXx6:Hid (OB x6 w.heap.size 0 0 0 0 0):=(QXx5.out).stp SN hQB
    have RXx6:Hid (Rd x6 B a len cap):=RN
    have SXx6:Hid (an B w x6):=(SXx5.out).trans SN
    clear RN SN OXx5 QXx5 RXx5 SXx5
    clear y0 y1 y2 y3 y4 yz yf
    obtain ⟨⟨y0,y1,y2,y3,y4,yz⟩,yf⟩:=OXx6.out
    obtain ⟨⟨q0,q1,q2,q3,q4,qz⟩,qf⟩:=QXx6.out
    go_wp2
    refine bodyPost_ret (v:=.agg #[Ii Jj (1),Ii Jj (vi),Ii Jj (z3),Ii Jj (vo),Ii Jj (0)]) (by simp[results,Tryz.results64,go_sem,q0,q1,q2,q3,q4]) rfl ⟨_,_,_,_,_,rfl,?_,?_⟩
    ·exact ((((((RXx6.out.setFar hBR _).setFar hBQ _).setFar hBQ _).setFar hBQ _).setFar hBQ _).setFar hBQ _)
    ·exact ((((((SXx6.out.far hwR 3 _).far (Nf _) 0 _).far (Nf _) 1 _).far (Nf _) 2 _).far (Nf _) 3 _).far (Nf _) 4 _)
 ·obtain ⟨⟨y0,y1,y2,y3,y4,yz⟩,yf⟩:=OXx2.out
  go_wp2_with fail
  refine (aq B a len cap 4 _ ((RXx2.out.setFar hBR _).alloc _) (by omega) (by omega)).mono ?_
  rintro e x3 ⟨v3,rfl,v31,v32,RN,SN⟩
  have OXx3:Hid (OB x3 w1.heap.size (1) (vi) (0) (0) (0)):=((OXx2.out.set0 (1)).alloc _).stp SN hRB
  have QXx3:Hid (OB x3 w.heap.size 0 0 0 0 0):=((QXx2.out.far hRQ 0 _).alloc _).stp SN hQB
  have RXx3:Hid (Rd x3 B a len cap):=RN
  have SXx3:Hid (an B w x3):=((SXx2.out.far hwR 0 _).alloc _).trans SN
  obtain ⟨v3k,rfl⟩:=Int.eq_ofNat_of_zero_le v31
  obtain ⟨z3,hz3⟩:=eX (x2.setCell ⟨w1.heap.size,0,none⟩ (Ii Jj (1))) [1,1,2,0] 2 v3k (by simp;omega)
  have cz3:x3.cell? ⟨x2.heap.size,v3k,none⟩=some (Ii Jj z3):=by
   have e:(x2.setCell ⟨w1.heap.size,0,none⟩ (Ii Jj (1))).heap.size=x2.heap.size:=by simp[World.setCell]
   have hBo:x2.heap.size≠B:=by have:=RXx2.out.2.2.2.1;omega
   rw[SN.cell (p:=⟨x2.heap.size,v3k,none⟩) (by simp[World.setCell]) hBo,←e]
   exact hz3
  clear hz3
  clear RN SN OXx2 QXx2 RXx2 SXx2
  clear y0 y1 y2 y3 y4 yz yf
  obtain ⟨⟨y0,y1,y2,y3,y4,yz⟩,yf⟩:=OXx3.out
  go_wp2_with fail
  refine (aq B a len cap 60 _ ((RXx3.out.setFar hBR _)) (by omega) (by omega)).mono ?_
  rintro e x4 ⟨v4,rfl,v41,v42,RN,SN⟩
  have OXx4:Hid (OB x4 w1.heap.size (1) (vi) (z3) (0) (0)):=((OXx3.out.set2 (z3))).stp SN hRB
  have QXx4:Hid (OB x4 w.heap.size 0 0 0 0 0):=((QXx3.out.far hRQ 2 _)).stp SN hQB
  have RXx4:Hid (Rd x4 B a len cap):=RN
  have SXx4:Hid (an B w x4):=((SXx3.out.far hwR 2 _)).trans SN
  clear RN SN OXx3 QXx3 RXx3 SXx3
  clear y0 y1 y2 y3 y4 yz yf
  obtain ⟨⟨y0,y1,y2,y3,y4,yz⟩,yf⟩:=OXx4.out
  by_cases hz0:z3=0
  ·subst hz0
   by_cases hv0:v4<=1
   ·skip
    go_wp2_with fail
    refine (aq B a len cap 600 _ (((RXx4.out.setFar hBR _).setFar hBR _)) (by omega) (by omega)).mono ?_
    rintro e x5 ⟨vr,rfl,vr1,vr2,RN,SN⟩
    try rw[show max 0 (v4-1)=0 by omega] at SN
    have OXx5:Hid (OB x5 w1.heap.size (1) (vi) (0) (0) (0)):=(((OXx4.out.set3 (v4-1)).set3 (0))).stp SN hRB
    have QXx5:Hid (OB x5 w.heap.size 0 0 0 0 0):=(((QXx4.out.far hRQ 3 _).far hRQ 3 _)).stp SN hQB
    have RXx5:Hid (Rd x5 B a len cap):=RN
    have SXx5:Hid (an B w x5):=(((SXx4.out.far hwR 3 _).far hwR 3 _)).trans SN
    clear RN SN OXx4 QXx4 RXx4 SXx4
    clear y0 y1 y2 y3 y4 yz yf
    obtain ⟨⟨y0,y1,y2,y3,y4,yz⟩,yf⟩:=OXx5.out
    go_wp2_with fail
    refine (aU B a len cap 40 _ ((RXx5.out.setFar hBR _)) (by omega) (by omega)).mono ?_
    rintro e x6 ⟨bo,rfl,RN,SN⟩
    have OXx6:Hid (OB x6 w1.heap.size (1) (vi) (0) (0) (vr)):=((OXx5.out.set4 (vr))).stp SN hRB
    have QXx6:Hid (OB x6 w.heap.size 0 0 0 0 0):=((QXx5.out.far hRQ 4 _)).stp SN hQB
    have RXx6:Hid (Rd x6 B a len cap):=RN
    have SXx6:Hid (an B w x6):=((SXx5.out.far hwR 4 _)).trans SN
    clear RN SN OXx5 QXx5 RXx5 SXx5
    clear y0 y1 y2 y3 y4 yz yf
    cases bo with
    | false=>
     obtain ⟨⟨y0,y1,y2,y3,y4,yz⟩,yf⟩:=OXx6.out
     obtain ⟨⟨q0,q1,q2,q3,q4,qz⟩,qf⟩:=QXx6.out
     go_wp2
     refine bodyPost_ret (v:=.agg #[Ii Jj (1),Ii Jj (vi),Ii Jj (0),Ii Jj (0),Ii Jj (vr)]) (by simp[results,Tryz.results64,go_sem,q0,q1,q2,q3,q4]) rfl ⟨_,_,_,_,_,rfl,?_,?_⟩
     ·exact (((((RXx6.out.setFar hBQ _).setFar hBQ _).setFar hBQ _).setFar hBQ _).setFar hBQ _)
     ·exact (((((SXx6.out.far (Nf _) 0 _).far (Nf _) 1 _).far (Nf _) 2 _).far (Nf _) 3 _).far (Nf _) 4 _)
    | true=>
     obtain ⟨⟨y0,y1,y2,y3,y4,yz⟩,yf⟩:=OXx6.out
     go_wp2_with fail
     refine (aV B a len cap 0 1000000000000 _ (RXx6.out) (by omega) (by omega) (by omega)).mono ?_
     rintro e x7 ⟨vo,rfl,RN,SN⟩
     have OXx7:Hid (OB x7 w1.heap.size (1) (vi) (0) (0) (vr)):=(OXx6.out).stp SN hRB
     have QXx7:Hid (OB x7 w.heap.size 0 0 0 0 0):=(QXx6.out).stp SN hQB
     have RXx7:Hid (Rd x7 B a len cap):=RN
     have SXx7:Hid (an B w x7):=(SXx6.out).trans SN
     clear RN SN OXx6 QXx6 RXx6 SXx6
     clear y0 y1 y2 y3 y4 yz yf
     obtain ⟨⟨y0,y1,y2,y3,y4,yz⟩,yf⟩:=OXx7.out
     obtain ⟨⟨q0,q1,q2,q3,q4,qz⟩,qf⟩:=QXx7.out
     go_wp2
     refine bodyPost_ret (v:=.agg #[Ii Jj (1),Ii Jj (vi),Ii Jj (0),Ii Jj (vo),Ii Jj (vr)]) (by simp[results,Tryz.results64,go_sem,q0,q1,q2,q3,q4]) rfl ⟨_,_,_,_,_,rfl,?_,?_⟩
     ·exact ((((((RXx7.out.setFar hBR _).setFar hBQ _).setFar hBQ _).setFar hBQ _).setFar hBQ _).setFar hBQ _)
     ·exact ((((((SXx7.out.far hwR 3 _).far (Nf _) 0 _).far (Nf _) 1 _).far (Nf _) 2 _).far (Nf _) 3 _).far (Nf _) 4 _)
   ·have hv1:2<=v4:=by omega
    clear hv0
    go_wp2_with fail
    refine (aq B a len cap 600 _ (((RXx4.out.setFar hBR _).setFar hBR _)) (by omega) (by omega)).mono ?_
    rintro e x5 ⟨vr,rfl,vr1,vr2,RN,SN⟩
    try rw[show max 0 (v4-1)=v4-1 by omega] at SN
    have OXx5:Hid (OB x5 w1.heap.size (1) (vi) (0) (v4-1) (0)):=(((OXx4.out.set3 (v4-1)).set3 (v4-1))).stp SN hRB
    have QXx5:Hid (OB x5 w.heap.size 0 0 0 0 0):=(((QXx4.out.far hRQ 3 _).far hRQ 3 _)).stp SN hQB
    have RXx5:Hid (Rd x5 B a len cap):=RN
    have SXx5:Hid (an B w x5):=(((SXx4.out.far hwR 3 _).far hwR 3 _)).trans SN
    clear RN SN OXx4 QXx4 RXx4 SXx4
    clear y0 y1 y2 y3 y4 yz yf
    obtain ⟨⟨y0,y1,y2,y3,y4,yz⟩,yf⟩:=OXx5.out
    go_wp2_with fail
    refine (aU B a len cap 40 _ ((RXx5.out.setFar hBR _)) (by omega) (by omega)).mono ?_
    rintro e x6 ⟨bo,rfl,RN,SN⟩
    have OXx6:Hid (OB x6 w1.heap.size (1) (vi) (0) (v4-1) (vr)):=((OXx5.out.set4 (vr))).stp SN hRB
    have QXx6:Hid (OB x6 w.heap.size 0 0 0 0 0):=((QXx5.out.far hRQ 4 _)).stp SN hQB
    have RXx6:Hid (Rd x6 B a len cap):=RN
    have SXx6:Hid (an B w x6):=((SXx5.out.far hwR 4 _)).trans SN
    clear RN SN OXx5 QXx5 RXx5 SXx5
    clear y0 y1 y2 y3 y4 yz yf
    cases bo with
    | false=>
     obtain ⟨⟨y0,y1,y2,y3,y4,yz⟩,yf⟩:=OXx6.out
     obtain ⟨⟨q0,q1,q2,q3,q4,qz⟩,qf⟩:=QXx6.out
     go_wp2
     refine bodyPost_ret (v:=.agg #[Ii Jj (1),Ii Jj (vi),Ii Jj (0),Ii Jj (v4-1),Ii Jj (vr)]) (by simp[results,Tryz.results64,go_sem,q0,q1,q2,q3,q4]) rfl ⟨_,_,_,_,_,rfl,?_,?_⟩
     ·exact (((((RXx6.out.setFar hBQ _).setFar hBQ _).setFar hBQ _).setFar hBQ _).setFar hBQ _)
     ·exact (((((SXx6.out.far (Nf _) 0 _).far (Nf _) 1 _).far (Nf _) 2 _).far (Nf _) 3 _).far (Nf _) 4 _)
    | true=>
     obtain ⟨⟨y0,y1,y2,y3,y4,yz⟩,yf⟩:=OXx6.out
     go_wp2_with fail
     refine (aV B a len cap 0 1000000000000 _ (RXx6.out) (by omega) (by omega) (by omega)).mono ?_
     rintro e x7 ⟨vo,rfl,RN,SN⟩
     have OXx7:Hid (OB x7 w1.heap.size (1) (vi) (0) (v4-1) (vr)):=(OXx6.out).stp SN hRB
     have QXx7:Hid (OB x7 w.heap.size 0 0 0 0 0):=(QXx6.out).stp SN hQB
     have RXx7:Hid (Rd x7 B a len cap):=RN
     have SXx7:Hid (an B w x7):=(SXx6.out).trans SN
     clear RN SN OXx6 QXx6 RXx6 SXx6
     clear y0 y1 y2 y3 y4 yz yf
     obtain ⟨⟨y0,y1,y2,y3,y4,yz⟩,yf⟩:=OXx7.out
     obtain ⟨⟨q0,q1,q2,q3,q4,qz⟩,qf⟩:=QXx7.out
     go_wp2
     refine bodyPost_ret (v:=.agg #[Ii Jj (1),Ii Jj (vi),Ii Jj (0),Ii Jj (vo),Ii Jj (vr)]) (by simp[results,Tryz.results64,go_sem,q0,q1,q2,q3,q4]) rfl ⟨_,_,_,_,_,rfl,?_,?_⟩
     ·exact ((((((RXx7.out.setFar hBR _).setFar hBQ _).setFar hBQ _).setFar hBQ _).setFar hBQ _).setFar hBQ _)
     ·exact ((((((SXx7.out.far hwR 3 _).far (Nf _) 0 _).far (Nf _) 1 _).far (Nf _) 2 _).far (Nf _) 3 _).far (Nf _) 4 _)
  ·have hzb:(z3 == 0)=false:=by simp[hz0]
   clear hz0
   clear y0 y1 y2 y3 y4 yz yf
   obtain ⟨⟨y0,y1,y2,y3,y4,yz⟩,yf⟩:=OXx4.out
   go_wp2_with fail
   refine (aU B a len cap 40 _ ((RXx4.out.setFar hBR _)) (by omega) (by omega)).mono ?_
   rintro e x5 ⟨bo,rfl,RN,SN⟩
   have OXx5:Hid (OB x5 w1.heap.size (1) (vi) (z3) (v4-1) (0)):=((OXx4.out.set3 (v4-1))).stp SN hRB
   have QXx5:Hid (OB x5 w.heap.size 0 0 0 0 0):=((QXx4.out.far hRQ 3 _)).stp SN hQB
   have RXx5:Hid (Rd x5 B a len cap):=RN
   have SXx5:Hid (an B w x5):=((SXx4.out.far hwR 3 _)).trans SN
   clear RN SN OXx4 QXx4 RXx4 SXx4
   clear y0 y1 y2 y3 y4 yz yf
   cases bo with
   | false=>
    obtain ⟨⟨y0,y1,y2,y3,y4,yz⟩,yf⟩:=OXx5.out
    obtain ⟨⟨q0,q1,q2,q3,q4,qz⟩,qf⟩:=QXx5.out
    go_wp2
    refine bodyPost_ret (v:=.agg #[Ii Jj (1),Ii Jj (vi),Ii Jj (z3),Ii Jj (v4-1),Ii Jj (0)]) (by simp[results,Tryz.results64,go_sem,q0,q1,q2,q3,q4]) rfl ⟨_,_,_,_,_,rfl,?_,?_⟩
    ·exact (((((RXx5.out.setFar hBQ _).setFar hBQ _).setFar hBQ _).setFar hBQ _).setFar hBQ _)
    ·exact (((((SXx5.out.far (Nf _) 0 _).far (Nf _) 1 _).far (Nf _) 2 _).far (Nf _) 3 _).far (Nf _) 4 _)
   | true=>
    obtain ⟨⟨y0,y1,y2,y3,y4,yz⟩,yf⟩:=OXx5.out
    go_wp2_with fail
    refine (aV B a len cap 0 1000000000000 _ (RXx5.out) (by omega) (by omega) (by omega)).mono ?_
    rintro e x6 ⟨vo,rfl,RN,SN⟩
    have OXx6:Hid (OB x6 w1.heap.size (1) (vi) (z3) (v4-1) (0)):=(OXx5.out).stp SN hRB
    have QXx6:Hid (OB x6 w.heap.size 0 0 0 0 0):=(QXx5.out).stp SN hQB
    have RXx6:Hid (Rd x6 B a len cap):=RN
    have SXx6:Hid (an B w x6):=(SXx5.out).trans SN
    clear RN SN OXx5 QXx5 RXx5 SXx5
    clear y0 y1 y2 y3 y4 yz yf
    obtain ⟨⟨y0,y1,y2,y3,y4,yz⟩,yf⟩:=OXx6.out
    obtain ⟨⟨q0,q1,q2,q3,q4,qz⟩,qf⟩:=QXx6.out
    go_wp2
    refine bodyPost_ret (v:=.agg #[Ii Jj (1),Ii Jj (vi),Ii Jj (z3),Ii Jj (vo),Ii Jj (0)]) (by simp[results,Tryz.results64,go_sem,q0,q1,q2,q3,q4]) rfl ⟨_,_,_,_,_,rfl,?_,?_⟩
    ·exact ((((((RXx6.out.setFar hBR _).setFar hBQ _).setFar hBQ _).setFar hBQ _).setFar hBQ _).setFar hBQ _)
    ·exact ((((((SXx6.out.far hwR 3 _).far (Nf _) 0 _).far (Nf _) 1 _).far (Nf _) 2 _).far (Nf _) 3 _).far (Nf _) 4 _)
 ·obtain ⟨⟨y0,y1,y2,y3,y4,yz⟩,yf⟩:=OXx2.out
  go_wp2_with fail
  refine (aq B a len cap 3 _ (RXx2.out.alloc _) (by omega) (by omega)).mono ?_
  rintro e x3 ⟨v3,rfl,v31,v32,RN,SN⟩
  have OXx3:Hid (OB x3 w1.heap.size (0) (vi) (0) (0) (0)):=(OXx2.out.alloc _).stp SN hRB
  have QXx3:Hid (OB x3 w.heap.size 0 0 0 0 0):=(QXx2.out.alloc _).stp SN hQB
  have RXx3:Hid (Rd x3 B a len cap):=RN
  have SXx3:Hid (an B w x3):=(SXx2.out.alloc _).trans SN
  obtain ⟨v3k,rfl⟩:=Int.eq_ofNat_of_zero_le v31
  obtain ⟨z3,hz3⟩:=eX x2 [2,3,3] 2 v3k (by simp;omega)
  have cz3:x3.cell? ⟨x2.heap.size,v3k,none⟩=some (Ii Jj z3):=by
   have hBo:x2.heap.size≠B:=by have:=RXx2.out.2.2.2.1;omega
   rw[SN.cell (p:=⟨x2.heap.size,v3k,none⟩) (by simp) hBo]
   exact hz3
  clear hz3
  clear RN SN OXx2 QXx2 RXx2 SXx2
  clear y0 y1 y2 y3 y4 yz yf
  obtain ⟨⟨y0,y1,y2,y3,y4,yz⟩,yf⟩:=OXx3.out
  go_wp2_with fail
  refine (aU B a len cap 40 _ ((RXx3.out.setFar hBR _)) (by omega) (by omega)).mono ?_
  rintro e x4 ⟨bo,rfl,RN,SN⟩
  have OXx4:Hid (OB x4 w1.heap.size (z3) (vi) (0) (0) (0)):=((OXx3.out.set0 (z3))).stp SN hRB
  have QXx4:Hid (OB x4 w.heap.size 0 0 0 0 0):=((QXx3.out.far hRQ 0 _)).stp SN hQB
  have RXx4:Hid (Rd x4 B a len cap):=RN
  have SXx4:Hid (an B w x4):=((SXx3.out.far hwR 0 _)).trans SN
  clear RN SN OXx3 QXx3 RXx3 SXx3
  clear y0 y1 y2 y3 y4 yz yf
  cases bo with
  | false=>
   obtain ⟨⟨y0,y1,y2,y3,y4,yz⟩,yf⟩:=OXx4.out
   obtain ⟨⟨q0,q1,q2,q3,q4,qz⟩,qf⟩:=QXx4.out
   go_wp2
   refine bodyPost_ret (v:=.agg #[Ii Jj (z3),Ii Jj (vi),Ii Jj (0),Ii Jj (0),Ii Jj (0)]) (by simp[results,Tryz.results64,go_sem,q0,q1,q2,q3,q4]) rfl ⟨_,_,_,_,_,rfl,?_,?_⟩
   ·exact (((((RXx4.out.setFar hBQ _).setFar hBQ _).setFar hBQ _).setFar hBQ _).setFar hBQ _)
   ·exact (((((SXx4.out.far (Nf _) 0 _).far (Nf _) 1 _).far (Nf _) 2 _).far (Nf _) 3 _).far (Nf _) 4 _)
  | true=>
   obtain ⟨⟨y0,y1,y2,y3,y4,yz⟩,yf⟩:=OXx4.out
   go_wp2_with fail
   refine (aV B a len cap 0 1000000000000 _ (RXx4.out) (by omega) (by omega) (by omega)).mono ?_
   rintro e x5 ⟨vo,rfl,RN,SN⟩
   have OXx5:Hid (OB x5 w1.heap.size (z3) (vi) (0) (0) (0)):=(OXx4.out).stp SN hRB
   have QXx5:Hid (OB x5 w.heap.size 0 0 0 0 0):=(QXx4.out).stp SN hQB
   have RXx5:Hid (Rd x5 B a len cap):=RN
   have SXx5:Hid (an B w x5):=(SXx4.out).trans SN
   clear RN SN OXx4 QXx4 RXx4 SXx4
   clear y0 y1 y2 y3 y4 yz yf
   obtain ⟨⟨y0,y1,y2,y3,y4,yz⟩,yf⟩:=OXx5.out
   obtain ⟨⟨q0,q1,q2,q3,q4,qz⟩,qf⟩:=QXx5.out
   go_wp2
   refine bodyPost_ret (v:=.agg #[Ii Jj (z3),Ii Jj (vi),Ii Jj (0),Ii Jj (vo),Ii Jj (0)]) (by simp[results,Tryz.results64,go_sem,q0,q1,q2,q3,q4]) rfl ⟨_,_,_,_,_,rfl,?_,?_⟩
   ·exact ((((((RXx5.out.setFar hBR _).setFar hBQ _).setFar hBQ _).setFar hBQ _).setFar hBQ _).setFar hBQ _)
   ·exact ((((((SXx5.out.far hwR 3 _).far (Nf _) 0 _).far (Nf _) 1 _).far (Nf _) 2 _).far (Nf _) 3 _).far (Nf _) 4 _)
 ·obtain ⟨⟨y0,y1,y2,y3,y4,yz⟩,yf⟩:=OXx2.out
  go_wp2_with fail
  refine (aU B a len cap 40 _ ((RXx2.out.setFar hBR _)) (by omega) (by omega)).mono ?_
  rintro e x3 ⟨bo,rfl,RN,SN⟩
  have OXx3:Hid (OB x3 w1.heap.size (4) (vi) (0) (0) (0)):=((OXx2.out.set0 (4))).stp SN hRB
  have QXx3:Hid (OB x3 w.heap.size 0 0 0 0 0):=((QXx2.out.far hRQ 0 _)).stp SN hQB
  have RXx3:Hid (Rd x3 B a len cap):=RN
  have SXx3:Hid (an B w x3):=((SXx2.out.far hwR 0 _)).trans SN
  clear RN SN OXx2 QXx2 RXx2 SXx2
  clear y0 y1 y2 y3 y4 yz yf
  cases bo with
  | false=>
   obtain ⟨⟨y0,y1,y2,y3,y4,yz⟩,yf⟩:=OXx3.out
   obtain ⟨⟨q0,q1,q2,q3,q4,qz⟩,qf⟩:=QXx3.out
   go_wp2
   refine bodyPost_ret (v:=.agg #[Ii Jj (4),Ii Jj (vi),Ii Jj (0),Ii Jj (0),Ii Jj (0)]) (by simp[results,Tryz.results64,go_sem,q0,q1,q2,q3,q4]) rfl ⟨_,_,_,_,_,rfl,?_,?_⟩
   ·exact (((((RXx3.out.setFar hBQ _).setFar hBQ _).setFar hBQ _).setFar hBQ _).setFar hBQ _)
   ·exact (((((SXx3.out.far (Nf _) 0 _).far (Nf _) 1 _).far (Nf _) 2 _).far (Nf _) 3 _).far (Nf _) 4 _)
  | true=>
   obtain ⟨⟨y0,y1,y2,y3,y4,yz⟩,yf⟩:=OXx3.out
   go_wp2_with fail
   refine (aV B a len cap 0 1000000000000 _ (RXx3.out) (by omega) (by omega) (by omega)).mono ?_
   rintro e x4 ⟨vo,rfl,RN,SN⟩
   have OXx4:Hid (OB x4 w1.heap.size (4) (vi) (0) (0) (0)):=(OXx3.out).stp SN hRB
   have QXx4:Hid (OB x4 w.heap.size 0 0 0 0 0):=(QXx3.out).stp SN hQB
   have RXx4:Hid (Rd x4 B a len cap):=RN
   have SXx4:Hid (an B w x4):=(SXx3.out).trans SN
   clear RN SN OXx3 QXx3 RXx3 SXx3
   clear y0 y1 y2 y3 y4 yz yf
   obtain ⟨⟨y0,y1,y2,y3,y4,yz⟩,yf⟩:=OXx4.out
   obtain ⟨⟨q0,q1,q2,q3,q4,qz⟩,qf⟩:=QXx4.out
   go_wp2
   refine bodyPost_ret (v:=.agg #[Ii Jj (4),Ii Jj (vi),Ii Jj (0),Ii Jj (vo),Ii Jj (0)]) (by simp[results,Tryz.results64,go_sem,q0,q1,q2,q3,q4]) rfl ⟨_,_,_,_,_,rfl,?_,?_⟩
   ·exact ((((((RXx4.out.setFar hBR _).setFar hBQ _).setFar hBQ _).setFar hBQ _).setFar hBQ _).setFar hBQ _)
   ·exact ((((((SXx4.out.far hwR 3 _).far (Nf _) 0 _).far (Nf _) 1 _).far (Nf _) 2 _).far (Nf _) 3 _).far (Nf _) 4 _)
 ·obtain ⟨⟨y0,y1,y2,y3,y4,yz⟩,yf⟩:=OXx2.out
  go_wp2_with fail
  refine (gM B a len cap _ ((RXx2.out.setFar hBR _))).mono ?_
  rintro e x3 ⟨v3,rfl,v31,v32,RN,SN⟩
  have OXx3:Hid (OB x3 w1.heap.size (5) (vi) (0) (0) (0)):=((OXx2.out.set0 (5))).stp SN hRB
  have QXx3:Hid (OB x3 w.heap.size 0 0 0 0 0):=((QXx2.out.far hRQ 0 _)).stp SN hQB
  have RXx3:Hid (Rd x3 B a len cap):=RN
  have SXx3:Hid (an B w x3):=((SXx2.out.far hwR 0 _)).trans SN
  clear RN SN OXx2 QXx2 RXx2 SXx2
  clear y0 y1 y2 y3 y4 yz yf
  obtain ⟨⟨y0,y1,y2,y3,y4,yz⟩,yf⟩:=OXx3.out
  go_wp2_with fail
  refine (aU B a len cap 40 _ ((RXx3.out.setFar hBR _)) (by omega) (by omega)).mono ?_
  rintro e x4 ⟨bo,rfl,RN,SN⟩
  have OXx4:Hid (OB x4 w1.heap.size (5) (vi) (0) (1+v3) (0)):=((OXx3.out.set3 (1+v3))).stp SN hRB
  have QXx4:Hid (OB x4 w.heap.size 0 0 0 0 0):=((QXx3.out.far hRQ 3 _)).stp SN hQB
  have RXx4:Hid (Rd x4 B a len cap):=RN
  have SXx4:Hid (an B w x4):=((SXx3.out.far hwR 3 _)).trans SN
  clear RN SN OXx3 QXx3 RXx3 SXx3
  clear y0 y1 y2 y3 y4 yz yf
  cases bo with
  | false=>
   obtain ⟨⟨y0,y1,y2,y3,y4,yz⟩,yf⟩:=OXx4.out
   obtain ⟨⟨q0,q1,q2,q3,q4,qz⟩,qf⟩:=QXx4.out
   go_wp2
   refine bodyPost_ret (v:=.agg #[Ii Jj (5),Ii Jj (vi),Ii Jj (0),Ii Jj (1+v3),Ii Jj (0)]) (by simp[results,Tryz.results64,go_sem,q0,q1,q2,q3,q4]) rfl ⟨_,_,_,_,_,rfl,?_,?_⟩
   ·exact (((((RXx4.out.setFar hBQ _).setFar hBQ _).setFar hBQ _).setFar hBQ _).setFar hBQ _)
   ·exact (((((SXx4.out.far (Nf _) 0 _).far (Nf _) 1 _).far (Nf _) 2 _).far (Nf _) 3 _).far (Nf _) 4 _)
  | true=>
   obtain ⟨⟨y0,y1,y2,y3,y4,yz⟩,yf⟩:=OXx4.out
   go_wp2_with fail
   refine (aV B a len cap 0 1000000000000 _ (RXx4.out) (by omega) (by omega) (by omega)).mono ?_
   rintro e x5 ⟨vo,rfl,RN,SN⟩
   have OXx5:Hid (OB x5 w1.heap.size (5) (vi) (0) (1+v3) (0)):=(OXx4.out).stp SN hRB
   have QXx5:Hid (OB x5 w.heap.size 0 0 0 0 0):=(QXx4.out).stp SN hQB
   have RXx5:Hid (Rd x5 B a len cap):=RN
   have SXx5:Hid (an B w x5):=(SXx4.out).trans SN
   clear RN SN OXx4 QXx4 RXx4 SXx4
   clear y0 y1 y2 y3 y4 yz yf
   obtain ⟨⟨y0,y1,y2,y3,y4,yz⟩,yf⟩:=OXx5.out
   obtain ⟨⟨q0,q1,q2,q3,q4,qz⟩,qf⟩:=QXx5.out
   go_wp2
   refine bodyPost_ret (v:=.agg #[Ii Jj (5),Ii Jj (vi),Ii Jj (0),Ii Jj (vo),Ii Jj (0)]) (by simp[results,Tryz.results64,go_sem,q0,q1,q2,q3,q4]) rfl ⟨_,_,_,_,_,rfl,?_,?_⟩
   ·exact ((((((RXx5.out.setFar hBR _).setFar hBQ _).setFar hBQ _).setFar hBQ _).setFar hBQ _).setFar hBQ _)
   ·exact ((((((SXx5.out.far hwR 3 _).far (Nf _) 0 _).far (Nf _) 1 _).far (Nf _) 2 _).far (Nf _) 3 _).far (Nf _) 4 _)
 ·obtain ⟨⟨y0,y1,y2,y3,y4,yz⟩,yf⟩:=OXx2.out
  go_wp2_with fail
  refine (gM B a len cap _ ((RXx2.out.setFar hBR _))).mono ?_
  rintro e x3 ⟨v3,rfl,v31,v32,RN,SN⟩
  have OXx3:Hid (OB x3 w1.heap.size (5) (vi) (0) (0) (0)):=((OXx2.out.set0 (5))).stp SN hRB
  have QXx3:Hid (OB x3 w.heap.size 0 0 0 0 0):=((QXx2.out.far hRQ 0 _)).stp SN hQB
  have RXx3:Hid (Rd x3 B a len cap):=RN
  have SXx3:Hid (an B w x3):=((SXx2.out.far hwR 0 _)).trans SN
  clear RN SN OXx2 QXx2 RXx2 SXx2
  clear y0 y1 y2 y3 y4 yz yf
  obtain ⟨⟨y0,y1,y2,y3,y4,yz⟩,yf⟩:=OXx3.out
  go_wp2_with fail
  refine (aU B a len cap 40 _ ((RXx3.out.setFar hBR _)) (by omega) (by omega)).mono ?_
  rintro e x4 ⟨bo,rfl,RN,SN⟩
  have OXx4:Hid (OB x4 w1.heap.size (5) (vi) (0) (1+v3) (0)):=((OXx3.out.set3 (1+v3))).stp SN hRB
  have QXx4:Hid (OB x4 w.heap.size 0 0 0 0 0):=((QXx3.out.far hRQ 3 _)).stp SN hQB
  have RXx4:Hid (Rd x4 B a len cap):=RN
  have SXx4:Hid (an B w x4):=((SXx3.out.far hwR 3 _)).trans SN
  clear RN SN OXx3 QXx3 RXx3 SXx3
  clear y0 y1 y2 y3 y4 yz yf
  cases bo with
  | false=>
   obtain ⟨⟨y0,y1,y2,y3,y4,yz⟩,yf⟩:=OXx4.out
   obtain ⟨⟨q0,q1,q2,q3,q4,qz⟩,qf⟩:=QXx4.out
   go_wp2
   refine bodyPost_ret (v:=.agg #[Ii Jj (5),Ii Jj (vi),Ii Jj (0),Ii Jj (1+v3),Ii Jj (0)]) (by simp[results,Tryz.results64,go_sem,q0,q1,q2,q3,q4]) rfl ⟨_,_,_,_,_,rfl,?_,?_⟩
   ·exact (((((RXx4.out.setFar hBQ _).setFar hBQ _).setFar hBQ _).setFar hBQ _).setFar hBQ _)
   ·exact (((((SXx4.out.far (Nf _) 0 _).far (Nf _) 1 _).far (Nf _) 2 _).far (Nf _) 3 _).far (Nf _) 4 _)
  | true=>
   obtain ⟨⟨y0,y1,y2,y3,y4,yz⟩,yf⟩:=OXx4.out
   go_wp2_with fail
   refine (aV B a len cap 0 1000000000000 _ (RXx4.out) (by omega) (by omega) (by omega)).mono ?_
   rintro e x5 ⟨vo,rfl,RN,SN⟩
   have OXx5:Hid (OB x5 w1.heap.size (5) (vi) (0) (1+v3) (0)):=(OXx4.out).stp SN hRB
   have QXx5:Hid (OB x5 w.heap.size 0 0 0 0 0):=(QXx4.out).stp SN hQB
   have RXx5:Hid (Rd x5 B a len cap):=RN
   have SXx5:Hid (an B w x5):=(SXx4.out).trans SN
   clear RN SN OXx4 QXx4 RXx4 SXx4
   clear y0 y1 y2 y3 y4 yz yf
   obtain ⟨⟨y0,y1,y2,y3,y4,yz⟩,yf⟩:=OXx5.out
   obtain ⟨⟨q0,q1,q2,q3,q4,qz⟩,qf⟩:=QXx5.out
   go_wp2
   refine bodyPost_ret (v:=.agg #[Ii Jj (5),Ii Jj (vi),Ii Jj (0),Ii Jj (vo),Ii Jj (0)]) (by simp[results,Tryz.results64,go_sem,q0,q1,q2,q3,q4]) rfl ⟨_,_,_,_,_,rfl,?_,?_⟩
   ·exact ((((((RXx5.out.setFar hBR _).setFar hBQ _).setFar hBQ _).setFar hBQ _).setFar hBQ _).setFar hBQ _)
   ·exact ((((((SXx5.out.far hwR 3 _).far (Nf _) 0 _).far (Nf _) 1 _).far (Nf _) 2 _).far (Nf _) 3 _).far (Nf _) 4 _)
 ·obtain ⟨⟨y0,y1,y2,y3,y4,yz⟩,yf⟩:=OXx2.out
  go_wp2_with fail
  refine (aq B a len cap 80 _ ((RXx2.out.setFar hBR _)) (by omega) (by omega)).mono ?_
  rintro e x3 ⟨v3,rfl,v31,v32,RN,SN⟩
  have OXx3:Hid (OB x3 w1.heap.size (6) (vi) (0) (0) (0)):=((OXx2.out.set0 (6))).stp SN hRB
  have QXx3:Hid (OB x3 w.heap.size 0 0 0 0 0):=((QXx2.out.far hRQ 0 _)).stp SN hQB
  have RXx3:Hid (Rd x3 B a len cap):=RN
  have SXx3:Hid (an B w x3):=((SXx2.out.far hwR 0 _)).trans SN
  clear RN SN OXx2 QXx2 RXx2 SXx2
  clear y0 y1 y2 y3 y4 yz yf
  obtain ⟨⟨y0,y1,y2,y3,y4,yz⟩,yf⟩:=OXx3.out
  go_wp2_with fail
  refine (aU B a len cap 40 _ ((RXx3.out.setFar hBR _)) (by omega) (by omega)).mono ?_
  rintro e x4 ⟨bo,rfl,RN,SN⟩
  have OXx4:Hid (OB x4 w1.heap.size (6) (vi) (0) (1+v3) (0)):=((OXx3.out.set3 (1+v3))).stp SN hRB
  have QXx4:Hid (OB x4 w.heap.size 0 0 0 0 0):=((QXx3.out.far hRQ 3 _)).stp SN hQB
  have RXx4:Hid (Rd x4 B a len cap):=RN
  have SXx4:Hid (an B w x4):=((SXx3.out.far hwR 3 _)).trans SN
  clear RN SN OXx3 QXx3 RXx3 SXx3
  clear y0 y1 y2 y3 y4 yz yf
  cases bo with
  | false=>
   obtain ⟨⟨y0,y1,y2,y3,y4,yz⟩,yf⟩:=OXx4.out
   obtain ⟨⟨q0,q1,q2,q3,q4,qz⟩,qf⟩:=QXx4.out
   go_wp2
   refine bodyPost_ret (v:=.agg #[Ii Jj (6),Ii Jj (vi),Ii Jj (0),Ii Jj (1+v3),Ii Jj (0)]) (by simp[results,Tryz.results64,go_sem,q0,q1,q2,q3,q4]) rfl ⟨_,_,_,_,_,rfl,?_,?_⟩
   ·exact (((((RXx4.out.setFar hBQ _).setFar hBQ _).setFar hBQ _).setFar hBQ _).setFar hBQ _)
   ·exact (((((SXx4.out.far (Nf _) 0 _).far (Nf _) 1 _).far (Nf _) 2 _).far (Nf _) 3 _).far (Nf _) 4 _)
  | true=>
   obtain ⟨⟨y0,y1,y2,y3,y4,yz⟩,yf⟩:=OXx4.out
   go_wp2_with fail
   refine (aV B a len cap 0 1000000000000 _ (RXx4.out) (by omega) (by omega) (by omega)).mono ?_
   rintro e x5 ⟨vo,rfl,RN,SN⟩
   have OXx5:Hid (OB x5 w1.heap.size (6) (vi) (0) (1+v3) (0)):=(OXx4.out).stp SN hRB
   have QXx5:Hid (OB x5 w.heap.size 0 0 0 0 0):=(QXx4.out).stp SN hQB
   have RXx5:Hid (Rd x5 B a len cap):=RN
   have SXx5:Hid (an B w x5):=(SXx4.out).trans SN
   clear RN SN OXx4 QXx4 RXx4 SXx4
   clear y0 y1 y2 y3 y4 yz yf
   obtain ⟨⟨y0,y1,y2,y3,y4,yz⟩,yf⟩:=OXx5.out
   obtain ⟨⟨q0,q1,q2,q3,q4,qz⟩,qf⟩:=QXx5.out
   go_wp2
   refine bodyPost_ret (v:=.agg #[Ii Jj (6),Ii Jj (vi),Ii Jj (0),Ii Jj (vo),Ii Jj (0)]) (by simp[results,Tryz.results64,go_sem,q0,q1,q2,q3,q4]) rfl ⟨_,_,_,_,_,rfl,?_,?_⟩
   ·exact ((((((RXx5.out.setFar hBR _).setFar hBQ _).setFar hBQ _).setFar hBQ _).setFar hBQ _).setFar hBQ _)
   ·exact ((((((SXx5.out.far hwR 3 _).far (Nf _) 0 _).far (Nf _) 1 _).far (Nf _) 2 _).far (Nf _) 3 _).far (Nf _) 4 _)
 ·obtain ⟨⟨y0,y1,y2,y3,y4,yz⟩,yf⟩:=OXx2.out
  go_wp2_with fail
  refine (aq B a len cap 80 _ ((RXx2.out.setFar hBR _)) (by omega) (by omega)).mono ?_
  rintro e x3 ⟨v3,rfl,v31,v32,RN,SN⟩
  have OXx3:Hid (OB x3 w1.heap.size (6) (vi) (0) (0) (0)):=((OXx2.out.set0 (6))).stp SN hRB
  have QXx3:Hid (OB x3 w.heap.size 0 0 0 0 0):=((QXx2.out.far hRQ 0 _)).stp SN hQB
  have RXx3:Hid (Rd x3 B a len cap):=RN
  have SXx3:Hid (an B w x3):=((SXx2.out.far hwR 0 _)).trans SN
  clear RN SN OXx2 QXx2 RXx2 SXx2
  clear y0 y1 y2 y3 y4 yz yf
  obtain ⟨⟨y0,y1,y2,y3,y4,yz⟩,yf⟩:=OXx3.out
  go_wp2_with fail
  refine (aU B a len cap 40 _ ((RXx3.out.setFar hBR _)) (by omega) (by omega)).mono ?_
  rintro e x4 ⟨bo,rfl,RN,SN⟩
  have OXx4:Hid (OB x4 w1.heap.size (6) (vi) (0) (1+v3) (0)):=((OXx3.out.set3 (1+v3))).stp SN hRB
  have QXx4:Hid (OB x4 w.heap.size 0 0 0 0 0):=((QXx3.out.far hRQ 3 _)).stp SN hQB
  have RXx4:Hid (Rd x4 B a len cap):=RN
  have SXx4:Hid (an B w x4):=((SXx3.out.far hwR 3 _)).trans SN
  clear RN SN OXx3 QXx3 RXx3 SXx3
  clear y0 y1 y2 y3 y4 yz yf
  cases bo with
  | false=>
   obtain ⟨⟨y0,y1,y2,y3,y4,yz⟩,yf⟩:=OXx4.out
   obtain ⟨⟨q0,q1,q2,q3,q4,qz⟩,qf⟩:=QXx4.out
   go_wp2
   refine bodyPost_ret (v:=.agg #[Ii Jj (6),Ii Jj (vi),Ii Jj (0),Ii Jj (1+v3),Ii Jj (0)]) (by simp[results,Tryz.results64,go_sem,q0,q1,q2,q3,q4]) rfl ⟨_,_,_,_,_,rfl,?_,?_⟩
   ·exact (((((RXx4.out.setFar hBQ _).setFar hBQ _).setFar hBQ _).setFar hBQ _).setFar hBQ _)
   ·exact (((((SXx4.out.far (Nf _) 0 _).far (Nf _) 1 _).far (Nf _) 2 _).far (Nf _) 3 _).far (Nf _) 4 _)
  | true=>
   obtain ⟨⟨y0,y1,y2,y3,y4,yz⟩,yf⟩:=OXx4.out
   go_wp2_with fail
   refine (aV B a len cap 0 1000000000000 _ (RXx4.out) (by omega) (by omega) (by omega)).mono ?_
   rintro e x5 ⟨vo,rfl,RN,SN⟩
   have OXx5:Hid (OB x5 w1.heap.size (6) (vi) (0) (1+v3) (0)):=(OXx4.out).stp SN hRB
   have QXx5:Hid (OB x5 w.heap.size 0 0 0 0 0):=(QXx4.out).stp SN hQB
   have RXx5:Hid (Rd x5 B a len cap):=RN
   have SXx5:Hid (an B w x5):=(SXx4.out).trans SN
   clear RN SN OXx4 QXx4 RXx4 SXx4
   clear y0 y1 y2 y3 y4 yz yf
   obtain ⟨⟨y0,y1,y2,y3,y4,yz⟩,yf⟩:=OXx5.out
   obtain ⟨⟨q0,q1,q2,q3,q4,qz⟩,qf⟩:=QXx5.out
   go_wp2
   refine bodyPost_ret (v:=.agg #[Ii Jj (6),Ii Jj (vi),Ii Jj (0),Ii Jj (vo),Ii Jj (0)]) (by simp[results,Tryz.results64,go_sem,q0,q1,q2,q3,q4]) rfl ⟨_,_,_,_,_,rfl,?_,?_⟩
   ·exact ((((((RXx5.out.setFar hBR _).setFar hBQ _).setFar hBQ _).setFar hBQ _).setFar hBQ _).setFar hBQ _)
   ·exact ((((((SXx5.out.far hwR 3 _).far (Nf _) 0 _).far (Nf _) 1 _).far (Nf _) 2 _).far (Nf _) 3 _).far (Nf _) 4 _)
 ·obtain ⟨⟨y0,y1,y2,y3,y4,yz⟩,yf⟩:=OXx2.out
  go_wp2_with fail
  refine (aq B a len cap 60 _ ((RXx2.out.setFar hBR _)) (by omega) (by omega)).mono ?_
  rintro e x3 ⟨v3,rfl,v31,v32,RN,SN⟩
  have OXx3:Hid (OB x3 w1.heap.size (8) (vi) (0) (0) (0)):=((OXx2.out.set0 (8))).stp SN hRB
  have QXx3:Hid (OB x3 w.heap.size 0 0 0 0 0):=((QXx2.out.far hRQ 0 _)).stp SN hQB
  have RXx3:Hid (Rd x3 B a len cap):=RN
  have SXx3:Hid (an B w x3):=((SXx2.out.far hwR 0 _)).trans SN
  clear RN SN OXx2 QXx2 RXx2 SXx2
  clear y0 y1 y2 y3 y4 yz yf
  obtain ⟨⟨y0,y1,y2,y3,y4,yz⟩,yf⟩:=OXx3.out
  go_wp2_with fail
  refine (aU B a len cap 40 _ ((RXx3.out.setFar hBR _)) (by omega) (by omega)).mono ?_
  rintro e x4 ⟨bo,rfl,RN,SN⟩
  have OXx4:Hid (OB x4 w1.heap.size (8) (vi) (0) (v3-1) (0)):=((OXx3.out.set3 (v3-1))).stp SN hRB
  have QXx4:Hid (OB x4 w.heap.size 0 0 0 0 0):=((QXx3.out.far hRQ 3 _)).stp SN hQB
  have RXx4:Hid (Rd x4 B a len cap):=RN
  have SXx4:Hid (an B w x4):=((SXx3.out.far hwR 3 _)).trans SN
  clear RN SN OXx3 QXx3 RXx3 SXx3
  clear y0 y1 y2 y3 y4 yz yf
  cases bo with
  | false=>
   obtain ⟨⟨y0,y1,y2,y3,y4,yz⟩,yf⟩:=OXx4.out
   obtain ⟨⟨q0,q1,q2,q3,q4,qz⟩,qf⟩:=QXx4.out
   go_wp2
   refine bodyPost_ret (v:=.agg #[Ii Jj (8),Ii Jj (vi),Ii Jj (0),Ii Jj (v3-1),Ii Jj (0)]) (by simp[results,Tryz.results64,go_sem,q0,q1,q2,q3,q4]) rfl ⟨_,_,_,_,_,rfl,?_,?_⟩
   ·exact (((((RXx4.out.setFar hBQ _).setFar hBQ _).setFar hBQ _).setFar hBQ _).setFar hBQ _)
   ·exact (((((SXx4.out.far (Nf _) 0 _).far (Nf _) 1 _).far (Nf _) 2 _).far (Nf _) 3 _).far (Nf _) 4 _)
  | true=>
   obtain ⟨⟨y0,y1,y2,y3,y4,yz⟩,yf⟩:=OXx4.out
   go_wp2_with fail
   refine (aV B a len cap 0 1000000000000 _ (RXx4.out) (by omega) (by omega) (by omega)).mono ?_
   rintro e x5 ⟨vo,rfl,RN,SN⟩
   have OXx5:Hid (OB x5 w1.heap.size (8) (vi) (0) (v3-1) (0)):=(OXx4.out).stp SN hRB
   have QXx5:Hid (OB x5 w.heap.size 0 0 0 0 0):=(QXx4.out).stp SN hQB
   have RXx5:Hid (Rd x5 B a len cap):=RN
   have SXx5:Hid (an B w x5):=(SXx4.out).trans SN
   clear RN SN OXx4 QXx4 RXx4 SXx4
   clear y0 y1 y2 y3 y4 yz yf
   obtain ⟨⟨y0,y1,y2,y3,y4,yz⟩,yf⟩:=OXx5.out
   obtain ⟨⟨q0,q1,q2,q3,q4,qz⟩,qf⟩:=QXx5.out
   go_wp2
   refine bodyPost_ret (v:=.agg #[Ii Jj (8),Ii Jj (vi),Ii Jj (0),Ii Jj (vo),Ii Jj (0)]) (by simp[results,Tryz.results64,go_sem,q0,q1,q2,q3,q4]) rfl ⟨_,_,_,_,_,rfl,?_,?_⟩
   ·exact ((((((RXx5.out.setFar hBR _).setFar hBQ _).setFar hBQ _).setFar hBQ _).setFar hBQ _).setFar hBQ _)
   ·exact ((((((SXx5.out.far hwR 3 _).far (Nf _) 0 _).far (Nf _) 1 _).far (Nf _) 2 _).far (Nf _) 3 _).far (Nf _) 4 _)
 ·obtain ⟨⟨y0,y1,y2,y3,y4,yz⟩,yf⟩:=OXx2.out
  go_wp2_with fail
  refine (iq B a len cap _ ((RXx2.out.setFar hBR _))).mono ?_
  rintro e x3 ⟨v3,rfl,v31,v32,RN,SN⟩
  have OXx3:Hid (OB x3 w1.heap.size (9) (vi) (0) (0) (0)):=((OXx2.out.set0 (9))).stp SN hRB
  have QXx3:Hid (OB x3 w.heap.size 0 0 0 0 0):=((QXx2.out.far hRQ 0 _)).stp SN hQB
  have RXx3:Hid (Rd x3 B a len cap):=RN
  have SXx3:Hid (an B w x3):=((SXx2.out.far hwR 0 _)).trans SN
  clear RN SN OXx2 QXx2 RXx2 SXx2
  clear y0 y1 y2 y3 y4 yz yf
  obtain ⟨⟨y0,y1,y2,y3,y4,yz⟩,yf⟩:=OXx3.out
  go_wp2_with fail
  refine (aU B a len cap 40 _ ((RXx3.out.setFar hBR _)) (by omega) (by omega)).mono ?_
  rintro e x4 ⟨bo,rfl,RN,SN⟩
  have OXx4:Hid (OB x4 w1.heap.size (9) (vi) (v3) (0) (0)):=((OXx3.out.set2 (v3))).stp SN hRB
  have QXx4:Hid (OB x4 w.heap.size 0 0 0 0 0):=((QXx3.out.far hRQ 2 _)).stp SN hQB
  have RXx4:Hid (Rd x4 B a len cap):=RN
  have SXx4:Hid (an B w x4):=((SXx3.out.far hwR 2 _)).trans SN
  clear RN SN OXx3 QXx3 RXx3 SXx3
  clear y0 y1 y2 y3 y4 yz yf
  cases bo with
  | false=>
   obtain ⟨⟨y0,y1,y2,y3,y4,yz⟩,yf⟩:=OXx4.out
   obtain ⟨⟨q0,q1,q2,q3,q4,qz⟩,qf⟩:=QXx4.out
   go_wp2
   refine bodyPost_ret (v:=.agg #[Ii Jj (9),Ii Jj (vi),Ii Jj (v3),Ii Jj (0),Ii Jj (0)]) (by simp[results,Tryz.results64,go_sem,q0,q1,q2,q3,q4]) rfl ⟨_,_,_,_,_,rfl,?_,?_⟩
   ·exact (((((RXx4.out.setFar hBQ _).setFar hBQ _).setFar hBQ _).setFar hBQ _).setFar hBQ _)
   ·exact (((((SXx4.out.far (Nf _) 0 _).far (Nf _) 1 _).far (Nf _) 2 _).far (Nf _) 3 _).far (Nf _) 4 _)
  | true=>
   obtain ⟨⟨y0,y1,y2,y3,y4,yz⟩,yf⟩:=OXx4.out
   go_wp2_with fail
   refine (aV B a len cap 0 1000000000000 _ (RXx4.out) (by omega) (by omega) (by omega)).mono ?_
   rintro e x5 ⟨vo,rfl,RN,SN⟩
   have OXx5:Hid (OB x5 w1.heap.size (9) (vi) (v3) (0) (0)):=(OXx4.out).stp SN hRB
   have QXx5:Hid (OB x5 w.heap.size 0 0 0 0 0):=(QXx4.out).stp SN hQB
   have RXx5:Hid (Rd x5 B a len cap):=RN
   have SXx5:Hid (an B w x5):=(SXx4.out).trans SN
   clear RN SN OXx4 QXx4 RXx4 SXx4
   clear y0 y1 y2 y3 y4 yz yf
   obtain ⟨⟨y0,y1,y2,y3,y4,yz⟩,yf⟩:=OXx5.out
   obtain ⟨⟨q0,q1,q2,q3,q4,qz⟩,qf⟩:=QXx5.out
   go_wp2
   refine bodyPost_ret (v:=.agg #[Ii Jj (9),Ii Jj (vi),Ii Jj (v3),Ii Jj (vo),Ii Jj (0)]) (by simp[results,Tryz.results64,go_sem,q0,q1,q2,q3,q4]) rfl ⟨_,_,_,_,_,rfl,?_,?_⟩
   ·exact ((((((RXx5.out.setFar hBR _).setFar hBQ _).setFar hBQ _).setFar hBQ _).setFar hBQ _).setFar hBQ _)
   ·exact ((((((SXx5.out.far hwR 3 _).far (Nf _) 0 _).far (Nf _) 1 _).far (Nf _) 2 _).far (Nf _) 3 _).far (Nf _) 4 _)
 ·obtain ⟨⟨y0,y1,y2,y3,y4,yz⟩,yf⟩:=OXx2.out
  go_wp2_with fail
  refine (aq B a len cap 40 _ ((RXx2.out.setFar hBR _)) (by omega) (by omega)).mono ?_
  rintro e x3 ⟨v3,rfl,v31,v32,RN,SN⟩
  have OXx3:Hid (OB x3 w1.heap.size (10) (vi) (0) (0) (0)):=((OXx2.out.set0 (10))).stp SN hRB
  have QXx3:Hid (OB x3 w.heap.size 0 0 0 0 0):=((QXx2.out.far hRQ 0 _)).stp SN hQB
  have RXx3:Hid (Rd x3 B a len cap):=RN
  have SXx3:Hid (an B w x3):=((SXx2.out.far hwR 0 _)).trans SN
  clear RN SN OXx2 QXx2 RXx2 SXx2
  clear y0 y1 y2 y3 y4 yz yf
  obtain ⟨⟨y0,y1,y2,y3,y4,yz⟩,yf⟩:=OXx3.out
  go_wp2_with fail
  refine (aU B a len cap 40 _ ((RXx3.out.setFar hBR _)) (by omega) (by omega)).mono ?_
  rintro e x4 ⟨bo,rfl,RN,SN⟩
  have OXx4:Hid (OB x4 w1.heap.size (10) (vi) (0) (v3-1) (0)):=((OXx3.out.set3 (v3-1))).stp SN hRB
  have QXx4:Hid (OB x4 w.heap.size 0 0 0 0 0):=((QXx3.out.far hRQ 3 _)).stp SN hQB
  have RXx4:Hid (Rd x4 B a len cap):=RN
  have SXx4:Hid (an B w x4):=((SXx3.out.far hwR 3 _)).trans SN
  clear RN SN OXx3 QXx3 RXx3 SXx3
  clear y0 y1 y2 y3 y4 yz yf
  cases bo with
  | false=>
   obtain ⟨⟨y0,y1,y2,y3,y4,yz⟩,yf⟩:=OXx4.out
   obtain ⟨⟨q0,q1,q2,q3,q4,qz⟩,qf⟩:=QXx4.out
   go_wp2
   refine bodyPost_ret (v:=.agg #[Ii Jj (10),Ii Jj (vi),Ii Jj (0),Ii Jj (v3-1),Ii Jj (0)]) (by simp[results,Tryz.results64,go_sem,q0,q1,q2,q3,q4]) rfl ⟨_,_,_,_,_,rfl,?_,?_⟩
   ·exact (((((RXx4.out.setFar hBQ _).setFar hBQ _).setFar hBQ _).setFar hBQ _).setFar hBQ _)
   ·exact (((((SXx4.out.far (Nf _) 0 _).far (Nf _) 1 _).far (Nf _) 2 _).far (Nf _) 3 _).far (Nf _) 4 _)
  | true=>
   obtain ⟨⟨y0,y1,y2,y3,y4,yz⟩,yf⟩:=OXx4.out
   go_wp2_with fail
   refine (aV B a len cap 0 1000000000000 _ (RXx4.out) (by omega) (by omega) (by omega)).mono ?_
   rintro e x5 ⟨vo,rfl,RN,SN⟩
   have OXx5:Hid (OB x5 w1.heap.size (10) (vi) (0) (v3-1) (0)):=(OXx4.out).stp SN hRB
   have QXx5:Hid (OB x5 w.heap.size 0 0 0 0 0):=(QXx4.out).stp SN hQB
   have RXx5:Hid (Rd x5 B a len cap):=RN
   have SXx5:Hid (an B w x5):=(SXx4.out).trans SN
   clear RN SN OXx4 QXx4 RXx4 SXx4
   clear y0 y1 y2 y3 y4 yz yf
   obtain ⟨⟨y0,y1,y2,y3,y4,yz⟩,yf⟩:=OXx5.out
   obtain ⟨⟨q0,q1,q2,q3,q4,qz⟩,qf⟩:=QXx5.out
   go_wp2
   refine bodyPost_ret (v:=.agg #[Ii Jj (10),Ii Jj (vi),Ii Jj (0),Ii Jj (vo),Ii Jj (0)]) (by simp[results,Tryz.results64,go_sem,q0,q1,q2,q3,q4]) rfl ⟨_,_,_,_,_,rfl,?_,?_⟩
   ·exact ((((((RXx5.out.setFar hBR _).setFar hBQ _).setFar hBQ _).setFar hBQ _).setFar hBQ _).setFar hBQ _)
   ·exact ((((((SXx5.out.far hwR 3 _).far (Nf _) 0 _).far (Nf _) 1 _).far (Nf _) 2 _).far (Nf _) 3 _).far (Nf _) 4 _)
 ·obtain ⟨⟨y0,y1,y2,y3,y4,yz⟩,yf⟩:=OXx2.out
  go_wp2_with fail
  refine (iq B a len cap _ ((RXx2.out.setFar hBR _))).mono ?_
  rintro e x3 ⟨v3,rfl,v31,v32,RN,SN⟩
  have OXx3:Hid (OB x3 w1.heap.size (7) (vi) (0) (0) (0)):=((OXx2.out.set0 (7))).stp SN hRB
  have QXx3:Hid (OB x3 w.heap.size 0 0 0 0 0):=((QXx2.out.far hRQ 0 _)).stp SN hQB
  have RXx3:Hid (Rd x3 B a len cap):=RN
  have SXx3:Hid (an B w x3):=((SXx2.out.far hwR 0 _)).trans SN
  clear RN SN OXx2 QXx2 RXx2 SXx2
  clear y0 y1 y2 y3 y4 yz yf
  obtain ⟨⟨y0,y1,y2,y3,y4,yz⟩,yf⟩:=OXx3.out
  go_wp2_with fail
  refine (aq B a len cap 60 _ ((RXx3.out.setFar hBR _)) (by omega) (by omega)).mono ?_
  rintro e x4 ⟨v4,rfl,v41,v42,RN,SN⟩
  have OXx4:Hid (OB x4 w1.heap.size (7) (vi) (v3) (0) (0)):=((OXx3.out.set2 (v3))).stp SN hRB
  have QXx4:Hid (OB x4 w.heap.size 0 0 0 0 0):=((QXx3.out.far hRQ 2 _)).stp SN hQB
  have RXx4:Hid (Rd x4 B a len cap):=RN
  have SXx4:Hid (an B w x4):=((SXx3.out.far hwR 2 _)).trans SN
  clear RN SN OXx3 QXx3 RXx3 SXx3
  clear y0 y1 y2 y3 y4 yz yf
  obtain ⟨⟨y0,y1,y2,y3,y4,yz⟩,yf⟩:=OXx4.out
  go_wp2_with fail
  refine (aU B a len cap 40 _ ((RXx4.out.setFar hBR _)) (by omega) (by omega)).mono ?_
  rintro e x5 ⟨bo,rfl,RN,SN⟩
  have OXx5:Hid (OB x5 w1.heap.size (7) (vi) (v3) (1+v4) (0)):=((OXx4.out.set3 (1+v4))).stp SN hRB
  have QXx5:Hid (OB x5 w.heap.size 0 0 0 0 0):=((QXx4.out.far hRQ 3 _)).stp SN hQB
  have RXx5:Hid (Rd x5 B a len cap):=RN
  have SXx5:Hid (an B w x5):=((SXx4.out.far hwR 3 _)).trans SN
  clear RN SN OXx4 QXx4 RXx4 SXx4
  clear y0 y1 y2 y3 y4 yz yf
  cases bo with
  | false=>
   obtain ⟨⟨y0,y1,y2,y3,y4,yz⟩,yf⟩:=OXx5.out
   obtain ⟨⟨q0,q1,q2,q3,q4,qz⟩,qf⟩:=QXx5.out
   go_wp2
   refine bodyPost_ret (v:=.agg #[Ii Jj (7),Ii Jj (vi),Ii Jj (v3),Ii Jj (1+v4),Ii Jj (0)]) (by simp[results,Tryz.results64,go_sem,q0,q1,q2,q3,q4]) rfl ⟨_,_,_,_,_,rfl,?_,?_⟩
   ·exact (((((RXx5.out.setFar hBQ _).setFar hBQ _).setFar hBQ _).setFar hBQ _).setFar hBQ _)
   ·exact (((((SXx5.out.far (Nf _) 0 _).far (Nf _) 1 _).far (Nf _) 2 _).far (Nf _) 3 _).far (Nf _) 4 _)
  | true=>
   obtain ⟨⟨y0,y1,y2,y3,y4,yz⟩,yf⟩:=OXx5.out
   go_wp2_with fail
   refine (aV B a len cap 0 1000000000000 _ (RXx5.out) (by omega) (by omega) (by omega)).mono ?_
   rintro e x6 ⟨vo,rfl,RN,SN⟩
   have OXx6:Hid (OB x6 w1.heap.size (7) (vi) (v3) (1+v4) (0)):=(OXx5.out).stp SN hRB
   have QXx6:Hid (OB x6 w.heap.size 0 0 0 0 0):=(QXx5.out).stp SN hQB
   have RXx6:Hid (Rd x6 B a len cap):=RN
   have SXx6:Hid (an B w x6):=(SXx5.out).trans SN
   clear RN SN OXx5 QXx5 RXx5 SXx5
   clear y0 y1 y2 y3 y4 yz yf
   obtain ⟨⟨y0,y1,y2,y3,y4,yz⟩,yf⟩:=OXx6.out
   obtain ⟨⟨q0,q1,q2,q3,q4,qz⟩,qf⟩:=QXx6.out
   go_wp2
   refine bodyPost_ret (v:=.agg #[Ii Jj (7),Ii Jj (vi),Ii Jj (v3),Ii Jj (vo),Ii Jj (0)]) (by simp[results,Tryz.results64,go_sem,q0,q1,q2,q3,q4]) rfl ⟨_,_,_,_,_,rfl,?_,?_⟩
   ·exact ((((((RXx6.out.setFar hBR _).setFar hBQ _).setFar hBQ _).setFar hBQ _).setFar hBQ _).setFar hBQ _)
   ·exact ((((((SXx6.out.far hwR 3 _).far (Nf _) 0 _).far (Nf _) 1 _).far (Nf _) 2 _).far (Nf _) 3 _).far (Nf _) 4 _)
 ·obtain ⟨⟨y0,y1,y2,y3,y4,yz⟩,yf⟩:=OXx2.out
  go_wp2_with fail
  refine (iq B a len cap _ ((RXx2.out.setFar hBR _))).mono ?_
  rintro e x3 ⟨v3,rfl,v31,v32,RN,SN⟩
  have OXx3:Hid (OB x3 w1.heap.size (7) (vi) (0) (0) (0)):=((OXx2.out.set0 (7))).stp SN hRB
  have QXx3:Hid (OB x3 w.heap.size 0 0 0 0 0):=((QXx2.out.far hRQ 0 _)).stp SN hQB
  have RXx3:Hid (Rd x3 B a len cap):=RN
  have SXx3:Hid (an B w x3):=((SXx2.out.far hwR 0 _)).trans SN
  clear RN SN OXx2 QXx2 RXx2 SXx2
  clear y0 y1 y2 y3 y4 yz yf
  obtain ⟨⟨y0,y1,y2,y3,y4,yz⟩,yf⟩:=OXx3.out
  go_wp2_with fail
  refine (aq B a len cap 60 _ ((RXx3.out.setFar hBR _)) (by omega) (by omega)).mono ?_
  rintro e x4 ⟨v4,rfl,v41,v42,RN,SN⟩
  have OXx4:Hid (OB x4 w1.heap.size (7) (vi) (v3) (0) (0)):=((OXx3.out.set2 (v3))).stp SN hRB
  have QXx4:Hid (OB x4 w.heap.size 0 0 0 0 0):=((QXx3.out.far hRQ 2 _)).stp SN hQB
  have RXx4:Hid (Rd x4 B a len cap):=RN
  have SXx4:Hid (an B w x4):=((SXx3.out.far hwR 2 _)).trans SN
  clear RN SN OXx3 QXx3 RXx3 SXx3
  clear y0 y1 y2 y3 y4 yz yf
  obtain ⟨⟨y0,y1,y2,y3,y4,yz⟩,yf⟩:=OXx4.out
  go_wp2_with fail
  refine (aU B a len cap 40 _ ((RXx4.out.setFar hBR _)) (by omega) (by omega)).mono ?_
  rintro e x5 ⟨bo,rfl,RN,SN⟩
  have OXx5:Hid (OB x5 w1.heap.size (7) (vi) (v3) (1+v4) (0)):=((OXx4.out.set3 (1+v4))).stp SN hRB
  have QXx5:Hid (OB x5 w.heap.size 0 0 0 0 0):=((QXx4.out.far hRQ 3 _)).stp SN hQB
  have RXx5:Hid (Rd x5 B a len cap):=RN
  have SXx5:Hid (an B w x5):=((SXx4.out.far hwR 3 _)).trans SN
  clear RN SN OXx4 QXx4 RXx4 SXx4
  clear y0 y1 y2 y3 y4 yz yf
  cases bo with
  | false=>
   obtain ⟨⟨y0,y1,y2,y3,y4,yz⟩,yf⟩:=OXx5.out
   obtain ⟨⟨q0,q1,q2,q3,q4,qz⟩,qf⟩:=QXx5.out
   go_wp2
   refine bodyPost_ret (v:=.agg #[Ii Jj (7),Ii Jj (vi),Ii Jj (v3),Ii Jj (1+v4),Ii Jj (0)]) (by simp[results,Tryz.results64,go_sem,q0,q1,q2,q3,q4]) rfl ⟨_,_,_,_,_,rfl,?_,?_⟩
   ·exact (((((RXx5.out.setFar hBQ _).setFar hBQ _).setFar hBQ _).setFar hBQ _).setFar hBQ _)
   ·exact (((((SXx5.out.far (Nf _) 0 _).far (Nf _) 1 _).far (Nf _) 2 _).far (Nf _) 3 _).far (Nf _) 4 _)
  | true=>
   obtain ⟨⟨y0,y1,y2,y3,y4,yz⟩,yf⟩:=OXx5.out
   go_wp2_with fail
   refine (aV B a len cap 0 1000000000000 _ (RXx5.out) (by omega) (by omega) (by omega)).mono ?_
   rintro e x6 ⟨vo,rfl,RN,SN⟩
   have OXx6:Hid (OB x6 w1.heap.size (7) (vi) (v3) (1+v4) (0)):=(OXx5.out).stp SN hRB
   have QXx6:Hid (OB x6 w.heap.size 0 0 0 0 0):=(QXx5.out).stp SN hQB
   have RXx6:Hid (Rd x6 B a len cap):=RN
   have SXx6:Hid (an B w x6):=(SXx5.out).trans SN
   clear RN SN OXx5 QXx5 RXx5 SXx5
   clear y0 y1 y2 y3 y4 yz yf
   obtain ⟨⟨y0,y1,y2,y3,y4,yz⟩,yf⟩:=OXx6.out
   obtain ⟨⟨q0,q1,q2,q3,q4,qz⟩,qf⟩:=QXx6.out
   go_wp2
   refine bodyPost_ret (v:=.agg #[Ii Jj (7),Ii Jj (vi),Ii Jj (v3),Ii Jj (vo),Ii Jj (0)]) (by simp[results,Tryz.results64,go_sem,q0,q1,q2,q3,q4]) rfl ⟨_,_,_,_,_,rfl,?_,?_⟩
   ·exact ((((((RXx6.out.setFar hBR _).setFar hBQ _).setFar hBQ _).setFar hBQ _).setFar hBQ _).setFar hBQ _)
   ·exact ((((((SXx6.out.far hwR 3 _).far (Nf _) 0 _).far (Nf _) 1 _).far (Nf _) 2 _).far (Nf _) 3 _).far (Nf _) 4 _)
 ·obtain ⟨⟨y0,y1,y2,y3,y4,yz⟩,yf⟩:=OXx2.out
  go_wp2_with fail
  refine (iq B a len cap _ ((RXx2.out.setFar hBR _))).mono ?_
  rintro e x3 ⟨v3,rfl,v31,v32,RN,SN⟩
  have OXx3:Hid (OB x3 w1.heap.size (7) (vi) (0) (0) (0)):=((OXx2.out.set0 (7))).stp SN hRB
  have QXx3:Hid (OB x3 w.heap.size 0 0 0 0 0):=((QXx2.out.far hRQ 0 _)).stp SN hQB
  have RXx3:Hid (Rd x3 B a len cap):=RN
  have SXx3:Hid (an B w x3):=((SXx2.out.far hwR 0 _)).trans SN
  clear RN SN OXx2 QXx2 RXx2 SXx2
  clear y0 y1 y2 y3 y4 yz yf
  obtain ⟨⟨y0,y1,y2,y3,y4,yz⟩,yf⟩:=OXx3.out
  go_wp2_with fail
  refine (aq B a len cap 60 _ ((RXx3.out.setFar hBR _)) (by omega) (by omega)).mono ?_
  rintro e x4 ⟨v4,rfl,v41,v42,RN,SN⟩
  have OXx4:Hid (OB x4 w1.heap.size (7) (vi) (v3) (0) (0)):=((OXx3.out.set2 (v3))).stp SN hRB
  have QXx4:Hid (OB x4 w.heap.size 0 0 0 0 0):=((QXx3.out.far hRQ 2 _)).stp SN hQB
  have RXx4:Hid (Rd x4 B a len cap):=RN
  have SXx4:Hid (an B w x4):=((SXx3.out.far hwR 2 _)).trans SN
  clear RN SN OXx3 QXx3 RXx3 SXx3
  clear y0 y1 y2 y3 y4 yz yf
  obtain ⟨⟨y0,y1,y2,y3,y4,yz⟩,yf⟩:=OXx4.out
  go_wp2_with fail
  refine (aU B a len cap 40 _ ((RXx4.out.setFar hBR _)) (by omega) (by omega)).mono ?_
  rintro e x5 ⟨bo,rfl,RN,SN⟩
  have OXx5:Hid (OB x5 w1.heap.size (7) (vi) (v3) (1+v4) (0)):=((OXx4.out.set3 (1+v4))).stp SN hRB
  have QXx5:Hid (OB x5 w.heap.size 0 0 0 0 0):=((QXx4.out.far hRQ 3 _)).stp SN hQB
  have RXx5:Hid (Rd x5 B a len cap):=RN
  have SXx5:Hid (an B w x5):=((SXx4.out.far hwR 3 _)).trans SN
  clear RN SN OXx4 QXx4 RXx4 SXx4
  clear y0 y1 y2 y3 y4 yz yf
  cases bo with
  | false=>
   obtain ⟨⟨y0,y1,y2,y3,y4,yz⟩,yf⟩:=OXx5.out
   obtain ⟨⟨q0,q1,q2,q3,q4,qz⟩,qf⟩:=QXx5.out
   go_wp2
   refine bodyPost_ret (v:=.agg #[Ii Jj (7),Ii Jj (vi),Ii Jj (v3),Ii Jj (1+v4),Ii Jj (0)]) (by simp[results,Tryz.results64,go_sem,q0,q1,q2,q3,q4]) rfl ⟨_,_,_,_,_,rfl,?_,?_⟩
   ·exact (((((RXx5.out.setFar hBQ _).setFar hBQ _).setFar hBQ _).setFar hBQ _).setFar hBQ _)
   ·exact (((((SXx5.out.far (Nf _) 0 _).far (Nf _) 1 _).far (Nf _) 2 _).far (Nf _) 3 _).far (Nf _) 4 _)
  | true=>
   obtain ⟨⟨y0,y1,y2,y3,y4,yz⟩,yf⟩:=OXx5.out
   go_wp2_with fail
   refine (aV B a len cap 0 1000000000000 _ (RXx5.out) (by omega) (by omega) (by omega)).mono ?_
   rintro e x6 ⟨vo,rfl,RN,SN⟩
   have OXx6:Hid (OB x6 w1.heap.size (7) (vi) (v3) (1+v4) (0)):=(OXx5.out).stp SN hRB
   have QXx6:Hid (OB x6 w.heap.size 0 0 0 0 0):=(QXx5.out).stp SN hQB
   have RXx6:Hid (Rd x6 B a len cap):=RN
   have SXx6:Hid (an B w x6):=(SXx5.out).trans SN
   clear RN SN OXx5 QXx5 RXx5 SXx5
   clear y0 y1 y2 y3 y4 yz yf
   obtain ⟨⟨y0,y1,y2,y3,y4,yz⟩,yf⟩:=OXx6.out
   obtain ⟨⟨q0,q1,q2,q3,q4,qz⟩,qf⟩:=QXx6.out
   go_wp2
   refine bodyPost_ret (v:=.agg #[Ii Jj (7),Ii Jj (vi),Ii Jj (v3),Ii Jj (vo),Ii Jj (0)]) (by simp[results,Tryz.results64,go_sem,q0,q1,q2,q3,q4]) rfl ⟨_,_,_,_,_,rfl,?_,?_⟩
   ·exact ((((((RXx6.out.setFar hBR _).setFar hBQ _).setFar hBQ _).setFar hBQ _).setFar hBQ _).setFar hBQ _)
   ·exact ((((((SXx6.out.far hwR 3 _).far (Nf _) 0 _).far (Nf _) 1 _).far (Nf _) 2 _).far (Nf _) 3 _).far (Nf _) 4 _)
 ·obtain ⟨⟨y0,y1,y2,y3,y4,yz⟩,yf⟩:=OXx2.out
  go_wp2_with fail
  refine (iq B a len cap _ ((RXx2.out.setFar hBR _))).mono ?_
  rintro e x3 ⟨v3,rfl,v31,v32,RN,SN⟩
  have OXx3:Hid (OB x3 w1.heap.size (7) (vi) (0) (0) (0)):=((OXx2.out.set0 (7))).stp SN hRB
  have QXx3:Hid (OB x3 w.heap.size 0 0 0 0 0):=((QXx2.out.far hRQ 0 _)).stp SN hQB
  have RXx3:Hid (Rd x3 B a len cap):=RN
  have SXx3:Hid (an B w x3):=((SXx2.out.far hwR 0 _)).trans SN
  clear RN SN OXx2 QXx2 RXx2 SXx2
  clear y0 y1 y2 y3 y4 yz yf
  obtain ⟨⟨y0,y1,y2,y3,y4,yz⟩,yf⟩:=OXx3.out
  go_wp2_with fail
  refine (aq B a len cap 60 _ ((RXx3.out.setFar hBR _)) (by omega) (by omega)).mono ?_
  rintro e x4 ⟨v4,rfl,v41,v42,RN,SN⟩
  have OXx4:Hid (OB x4 w1.heap.size (7) (vi) (v3) (0) (0)):=((OXx3.out.set2 (v3))).stp SN hRB
  have QXx4:Hid (OB x4 w.heap.size 0 0 0 0 0):=((QXx3.out.far hRQ 2 _)).stp SN hQB
  have RXx4:Hid (Rd x4 B a len cap):=RN
  have SXx4:Hid (an B w x4):=((SXx3.out.far hwR 2 _)).trans SN
  clear RN SN OXx3 QXx3 RXx3 SXx3
  clear y0 y1 y2 y3 y4 yz yf
  obtain ⟨⟨y0,y1,y2,y3,y4,yz⟩,yf⟩:=OXx4.out
  go_wp2_with fail
  refine (aU B a len cap 40 _ ((RXx4.out.setFar hBR _)) (by omega) (by omega)).mono ?_
  rintro e x5 ⟨bo,rfl,RN,SN⟩
  have OXx5:Hid (OB x5 w1.heap.size (7) (vi) (v3) (1+v4) (0)):=((OXx4.out.set3 (1+v4))).stp SN hRB
  have QXx5:Hid (OB x5 w.heap.size 0 0 0 0 0):=((QXx4.out.far hRQ 3 _)).stp SN hQB
  have RXx5:Hid (Rd x5 B a len cap):=RN
  have SXx5:Hid (an B w x5):=((SXx4.out.far hwR 3 _)).trans SN
  clear RN SN OXx4 QXx4 RXx4 SXx4
  clear y0 y1 y2 y3 y4 yz yf
  cases bo with
  | false=>
   obtain ⟨⟨y0,y1,y2,y3,y4,yz⟩,yf⟩:=OXx5.out
   obtain ⟨⟨q0,q1,q2,q3,q4,qz⟩,qf⟩:=QXx5.out
   go_wp2
   refine bodyPost_ret (v:=.agg #[Ii Jj (7),Ii Jj (vi),Ii Jj (v3),Ii Jj (1+v4),Ii Jj (0)]) (by simp[results,Tryz.results64,go_sem,q0,q1,q2,q3,q4]) rfl ⟨_,_,_,_,_,rfl,?_,?_⟩
   ·exact (((((RXx5.out.setFar hBQ _).setFar hBQ _).setFar hBQ _).setFar hBQ _).setFar hBQ _)
   ·exact (((((SXx5.out.far (Nf _) 0 _).far (Nf _) 1 _).far (Nf _) 2 _).far (Nf _) 3 _).far (Nf _) 4 _)
  | true=>
   obtain ⟨⟨y0,y1,y2,y3,y4,yz⟩,yf⟩:=OXx5.out
   go_wp2_with fail
   refine (aV B a len cap 0 1000000000000 _ (RXx5.out) (by omega) (by omega) (by omega)).mono ?_
   rintro e x6 ⟨vo,rfl,RN,SN⟩
   have OXx6:Hid (OB x6 w1.heap.size (7) (vi) (v3) (1+v4) (0)):=(OXx5.out).stp SN hRB
   have QXx6:Hid (OB x6 w.heap.size 0 0 0 0 0):=(QXx5.out).stp SN hQB
   have RXx6:Hid (Rd x6 B a len cap):=RN
   have SXx6:Hid (an B w x6):=(SXx5.out).trans SN
   clear RN SN OXx5 QXx5 RXx5 SXx5
   clear y0 y1 y2 y3 y4 yz yf
   obtain ⟨⟨y0,y1,y2,y3,y4,yz⟩,yf⟩:=OXx6.out
   obtain ⟨⟨q0,q1,q2,q3,q4,qz⟩,qf⟩:=QXx6.out
   go_wp2
   refine bodyPost_ret (v:=.agg #[Ii Jj (7),Ii Jj (vi),Ii Jj (v3),Ii Jj (vo),Ii Jj (0)]) (by simp[results,Tryz.results64,go_sem,q0,q1,q2,q3,q4]) rfl ⟨_,_,_,_,_,rfl,?_,?_⟩
   ·exact ((((((RXx6.out.setFar hBR _).setFar hBQ _).setFar hBQ _).setFar hBQ _).setFar hBQ _).setFar hBQ _)
   ·exact ((((((SXx6.out.far hwR 3 _).far (Nf _) 0 _).far (Nf _) 1 _).far (Nf _) 2 _).far (Nf _) 3 _).far (Nf _) 4 _)
end Go.Proofs.YtjhgchlfpolkcaaGreatDoor
