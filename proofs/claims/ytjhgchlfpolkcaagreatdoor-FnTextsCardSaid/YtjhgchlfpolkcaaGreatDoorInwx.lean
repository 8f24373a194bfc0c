/- l1Int of the specification. -/
import Derived.Test.YtjhgchlfpolkcaaGreatDoorLedsx
namespace Go.Proofs.YtjhgchlfpolkcaaGreatDoor
open Value renaming int → Ii,slice → Sl
open IntKind renaming i64 → Jj
open Go.RowKit.Below renaming refl → Bf
set_option maxHeartbeats 2000000
open Go.RowKit
theorem mH (s:ByteArray) (w:World) (hs:s.size<=1048576) (h1:1<s.size) (h45:s[0]=45):Calls Tryz.prog 85 #[.string s] w fun e w'=>aL s w e w':=by
 obtain ⟨t,ht⟩:∃t,s.extract 1 s.size=t:=⟨_,rfl⟩
 have nm:=sc h1 h45 ht
 have HT:Hid (iK true t s w):=lb nm.1 nm.2
 have b45:=beq_iff_eq.2 (tX.2 h45)
 have hts:t.size<=1048576:=by rw[←ht,ByteArray.size_extract];omega
 clear nm h45
 go_enter Tryz.func85,Tryz.ntmps85
 by_cases q1:t.size<1
 ·have FI:Hid (aL s w (.returned (.tuple #[Ii Jj 0,.bool false])) w):=HT.out.1 w (Bf _ _) (Or.inl q1)
  clear HT
  go_wp2
  all_goals refine bodyPost_ret (v:=.tuple #[Ii Jj 0,.bool false]) (by simp[results,Tryz.results85,go_sem]) rfl ?_
  all_goals exact FI.out
 by_cases q2:16<t.size
 ·have FI:Hid (aL s w (.returned (.tuple #[Ii Jj 0,.bool false])) w):=HT.out.1 w (Bf _ _) (Or.inr (Or.inl q2))
  clear HT
  go_wp2
  all_goals refine bodyPost_ret (v:=.tuple #[Ii Jj 0,.bool false]) (by simp[results,Tryz.results85,go_sem]) rfl ?_
  all_goals exact FI.out
 have h0t:0<t.size:=by omega
 by_cases q3:t[0]=48
 ·have FI:Hid (aL s w (.returned (.tuple #[Ii Jj 0,.bool false])) w):=HT.out.1 w (Bf _ _) (Or.inr (Or.inr ⟨⟨h0t,q3⟩,Or.inr rfl⟩))
  have b48:=ph.2 q3
  clear HT q3
  by_cases q4:1<t.size
  ·go_wp2
   all_goals refine bodyPost_ret (v:=.tuple #[Ii Jj 0,.bool false]) (by simp[results,Tryz.results85,go_sem]) rfl ?_
   all_goals exact FI.out
  ·go_wp2
   all_goals refine bodyPost_ret (v:=.tuple #[Ii Jj 0,.bool false]) (by simp[results,Tryz.results85,go_sem]) rfl ?_
   all_goals exact FI.out
 have b48:=mt ph.1 q3
 have HZ:Hid (¬Z t):=fun e=>q3 e.2
 clear q3
 have FN:Hid (∀W,Below w.heap.size w W->(¬∀b ∈ t.data.toList,gQ b)->aL s w (.returned (.tuple #[Ii Jj 0,.bool false])) W):=HT.out.2.1
 have FY:Hid (∀W k n,Below w.heap.size w W->bI t k n->t.size<=k->aL s w (.returned (.tuple #[Ii Jj (-n),.bool true])) W):=fun W k n hb hd hk=>HT.out.2.2 W k n hb (fun e=>by rcases e with e|e|⟨e,_⟩ <;>first|omega|exact HZ.out e) hd hk
 clear HT
 go_wp2
 go_loop [5,6] (fun n i=>∃(k:Nat) (x:Int),k<=t.size/\i=Ii Jj k/\n=Ii Jj x/\0<=x/\x<10000000000000000/\Hid (bI t k x)) (fun _ i=>t.size-(intOf i).toNat)
 case atStart=>exact ⟨0,0,Nat.zero_le _,rfl,rfl,by omega,by omega,(⟨fun b hb=>by simp at hb,rfl⟩:bI t 0 0)⟩
 case round=>
  obtain ⟨k,x,hk,rfl,rfl,hx0,hx1,hD⟩:=hrel
  by_cases hlt:k<t.size
  ·by_cases c1:(t[k].toNat:Int)<48
   ·have F:Hid (aL s w (.returned (.tuple #[Ii Jj 0,.bool false])) w):=FN.out w (Bf _ _) (dV hlt (Or.inl c1))
    clear FN FY hD
    go_wp2
    all_goals refine bodyPost_ret (v:=.tuple #[Ii Jj 0,.bool false]) (by simp[results,Tryz.results85,go_sem]) rfl ?_
    all_goals exact F.out
   by_cases c2:57<(t[k].toNat:Int)
   ·have F:Hid (aL s w (.returned (.tuple #[Ii Jj 0,.bool false])) w):=FN.out w (Bf _ _) (dV hlt (Or.inr c2))
    clear FN FY hD
    go_wp2
    all_goals refine bodyPost_ret (v:=.tuple #[Ii Jj 0,.bool false]) (by simp[results,Tryz.results85,go_sem]) rfl ?_
    all_goals exact F.out
   have HD:Hid (bI t (k+1) (x*10+((t[k].toNat:Int)-48))):=hD.out.step hlt (by omega) (by omega)
   have hbd:=HD.out.bd (by omega)
   clear hD
   go_wp2
   go_round
   case rel=>exact ⟨k+1,_,by omega,by go_num,rfl,hbd.1,hbd.2,HD⟩
   case measure=>simp[intOf];omega
  ·have F:Hid (aL s w (.returned (.tuple #[Ii Jj (-x),.bool true])) w):=FY.out w k x (Bf _ _) hD.out (by omega)
   clear FN FY hD
   go_wp2
   refine bodyPost_ret (v:=.tuple #[Ii Jj (-x),.bool true]) (by simp[results,Tryz.results85,go_sem]) rfl ?_
   exact F.out
theorem mJ (s:ByteArray) (w:World) (hs:s.size<=1048576) (h1:1<s.size) (h45:s[0]≠45):Calls Tryz.prog 85 #[.string s] w fun e w'=>aL s w e w':=by
 have nm:=oD (s:=s) (Or.inr ⟨by omega,h45⟩)
 have HT:Hid (iK false s s w):=lb nm.1 nm.2
 have b45:=beq_eq_false_iff_ne.2 (mt tX.1 h45)
 clear nm h45
 go_enter Tryz.func85,Tryz.ntmps85
 by_cases q1:s.size<1
 ·have FI:Hid (aL s w (.returned (.tuple #[Ii Jj 0,.bool false])) w):=HT.out.1 w (Bf _ _) (Or.inl q1)
  clear HT
  go_wp2
  all_goals refine bodyPost_ret (v:=.tuple #[Ii Jj 0,.bool false]) (by simp[results,Tryz.results85,go_sem]) rfl ?_
  all_goals exact FI.out
 by_cases q2:16<s.size
 ·have FI:Hid (aL s w (.returned (.tuple #[Ii Jj 0,.bool false])) w):=HT.out.1 w (Bf _ _) (Or.inr (Or.inl q2))
  clear HT
  go_wp2
  all_goals refine bodyPost_ret (v:=.tuple #[Ii Jj 0,.bool false]) (by simp[results,Tryz.results85,go_sem]) rfl ?_
  all_goals exact FI.out
 have h0t:0<s.size:=by omega
 by_cases q3:s[0]=48
 ·have b48:=ph.2 q3
  by_cases q4:1<s.size
  ·have FI:Hid (aL s w (.returned (.tuple #[Ii Jj 0,.bool false])) w):=HT.out.1 w (Bf _ _) (Or.inr (Or.inr ⟨⟨h0t,q3⟩,Or.inl q4⟩))
   clear HT q3
   go_wp2
   all_goals refine bodyPost_ret (v:=.tuple #[Ii Jj 0,.bool false]) (by simp[results,Tryz.results85,go_sem]) rfl ?_
   all_goals exact FI.out
  exact absurd h1 q4
 have b48:=mt ph.1 q3
 have HZ:Hid (¬Z s):=fun e=>q3 e.2
 clear q3
 have FN:Hid (∀W,Below w.heap.size w W->(¬∀b ∈ s.data.toList,gQ b)->aL s w (.returned (.tuple #[Ii Jj 0,.bool false])) W):=HT.out.2.1
 have FY:Hid (∀W k n,Below w.heap.size w W->bI s k n->s.size<=k->aL s w (.returned (.tuple #[Ii Jj (n),.bool true])) W):=fun W k n hb hd hk=>HT.out.2.2 W k n hb (fun e=>by rcases e with e|e|⟨e,_⟩ <;>first|omega|exact HZ.out e) hd hk
 clear HT
 go_wp2
 go_loop [5,6] (fun n i=>∃(k:Nat) (x:Int),k<=s.size/\i=Ii Jj k/\n=Ii Jj x/\0<=x/\x<10000000000000000/\Hid (bI s k x)) (fun _ i=>s.size-(intOf i).toNat)
 case atStart=>exact ⟨0,0,Nat.zero_le _,rfl,rfl,by omega,by omega,(⟨fun b hb=>by simp at hb,rfl⟩:bI s 0 0)⟩
 case round=>
  obtain ⟨k,x,hk,rfl,rfl,hx0,hx1,hD⟩:=hrel
  by_cases hlt:k<s.size
  ·by_cases c1:(s[k].toNat:Int)<48
   ·have F:Hid (aL s w (.returned (.tuple #[Ii Jj 0,.bool false])) w):=FN.out w (Bf _ _) (dV hlt (Or.inl c1))
    clear FN FY hD
    go_wp2
    all_goals refine bodyPost_ret (v:=.tuple #[Ii Jj 0,.bool false]) (by simp[results,Tryz.results85,go_sem]) rfl ?_
    all_goals exact F.out
   by_cases c2:57<(s[k].toNat:Int)
   ·have F:Hid (aL s w (.returned (.tuple #[Ii Jj 0,.bool false])) w):=FN.out w (Bf _ _) (dV hlt (Or.inr c2))
    clear FN FY hD
    go_wp2
    all_goals refine bodyPost_ret (v:=.tuple #[Ii Jj 0,.bool false]) (by simp[results,Tryz.results85,go_sem]) rfl ?_
    all_goals exact F.out
   have HD:Hid (bI s (k+1) (x*10+((s[k].toNat:Int)-48))):=hD.out.step hlt (by omega) (by omega)
   have hbd:=HD.out.bd (by omega)
   clear hD
   go_wp2
   go_round
   case rel=>exact ⟨k+1,_,by omega,by go_num,rfl,hbd.1,hbd.2,HD⟩
   case measure=>simp[intOf];omega
  ·have F:Hid (aL s w (.returned (.tuple #[Ii Jj (x),.bool true])) w):=FY.out w k x (Bf _ _) hD.out (by omega)
   clear FN FY hD
   go_wp2
   refine bodyPost_ret (v:=.tuple #[Ii Jj (x),.bool true]) (by simp[results,Tryz.results85,go_sem]) rfl ?_
   exact F.out
theorem mI (s:ByteArray) (w:World) (h1:¬1<s.size):Calls Tryz.prog 85 #[.string s] w fun e w'=>aL s w e w':=by
 have nm:=oD (s:=s) (Or.inl (by omega))
 have HT:Hid (iK false s s w):=lb nm.1 nm.2
 clear nm
 go_enter Tryz.func85,Tryz.ntmps85
 by_cases q1:s.size<1
 ·have FI:Hid (aL s w (.returned (.tuple #[Ii Jj 0,.bool false])) w):=HT.out.1 w (Bf _ _) (Or.inl q1)
  clear HT
  go_wp2
  all_goals refine bodyPost_ret (v:=.tuple #[Ii Jj 0,.bool false]) (by simp[results,Tryz.results85,go_sem]) rfl ?_
  all_goals exact FI.out
 by_cases q2:16<s.size
 ·have FI:Hid (aL s w (.returned (.tuple #[Ii Jj 0,.bool false])) w):=HT.out.1 w (Bf _ _) (Or.inr (Or.inl q2))
  clear HT
  go_wp2
  all_goals refine bodyPost_ret (v:=.tuple #[Ii Jj 0,.bool false]) (by simp[results,Tryz.results85,go_sem]) rfl ?_
  all_goals exact FI.out
 have h0t:0<s.size:=by omega
 by_cases q3:s[0]=48
 ·have b48:=ph.2 q3
  by_cases q4:1<s.size
  ·have FI:Hid (aL s w (.returned (.tuple #[Ii Jj 0,.bool false])) w):=HT.out.1 w (Bf _ _) (Or.inr (Or.inr ⟨⟨h0t,q3⟩,Or.inl q4⟩))
   clear HT q3
   go_wp2
   all_goals refine bodyPost_ret (v:=.tuple #[Ii Jj 0,.bool false]) (by simp[results,Tryz.results85,go_sem]) rfl ?_
   all_goals exact FI.out
  clear q3
  have FN:Hid (∀W,Below w.heap.size w W->(¬∀b ∈ s.data.toList,gQ b)->aL s w (.returned (.tuple #[Ii Jj 0,.bool false])) W):=HT.out.2.1
  have FY:Hid (∀W k n,Below w.heap.size w W->bI s k n->s.size<=k->aL s w (.returned (.tuple #[Ii Jj (n),.bool true])) W):=fun W k n hb hd hk=>HT.out.2.2 W k n hb (fun e=>by rcases e with e|e|⟨_,e|e⟩ <;>first|omega|exact absurd e (by simp)) hd hk
  clear HT
  go_wp2
  go_loop [5,6] (fun n i=>∃(k:Nat) (x:Int),k<=s.size/\i=Ii Jj k/\n=Ii Jj x/\0<=x/\x<10000000000000000/\Hid (bI s k x)) (fun _ i=>s.size-(intOf i).toNat)
  case atStart=>exact ⟨0,0,Nat.zero_le _,rfl,rfl,by omega,by omega,(⟨fun b hb=>by simp at hb,rfl⟩:bI s 0 0)⟩
  case round=>
   obtain ⟨k,x,hk,rfl,rfl,hx0,hx1,hD⟩:=hrel
   by_cases hlt:k<s.size
   ·by_cases c1:(s[k].toNat:Int)<48
    ·have F:Hid (aL s w (.returned (.tuple #[Ii Jj 0,.bool false])) w):=FN.out w (Bf _ _) (dV hlt (Or.inl c1))
     clear FN FY hD
     go_wp2
     all_goals refine bodyPost_ret (v:=.tuple #[Ii Jj 0,.bool false]) (by simp[results,Tryz.results85,go_sem]) rfl ?_
     all_goals exact F.out
    by_cases c2:57<(s[k].toNat:Int)
    ·have F:Hid (aL s w (.returned (.tuple #[Ii Jj 0,.bool false])) w):=FN.out w (Bf _ _) (dV hlt (Or.inr c2))
     clear FN FY hD
     go_wp2
     all_goals refine bodyPost_ret (v:=.tuple #[Ii Jj 0,.bool false]) (by simp[results,Tryz.results85,go_sem]) rfl ?_
     all_goals exact F.out
    have HD:Hid (bI s (k+1) (x*10+((s[k].toNat:Int)-48))):=hD.out.step hlt (by omega) (by omega)
    have hbd:=HD.out.bd (by omega)
    clear hD
    go_wp2
    go_round
    case rel=>exact ⟨k+1,_,by omega,by go_num,rfl,hbd.1,hbd.2,HD⟩
    case measure=>simp[intOf];omega
   ·have F:Hid (aL s w (.returned (.tuple #[Ii Jj (x),.bool true])) w):=FY.out w k x (Bf _ _) hD.out (by omega)
    clear FN FY hD
    go_wp2
    refine bodyPost_ret (v:=.tuple #[Ii Jj (x),.bool true]) (by simp[results,Tryz.results85,go_sem]) rfl ?_
    exact F.out
 have b48:=mt ph.1 q3
 have HZ:Hid (¬Z s):=fun e=>q3 e.2
 clear q3
 have FN:Hid (∀W,Below w.heap.size w W->(¬∀b ∈ s.data.toList,gQ b)->aL s w (.returned (.tuple #[Ii Jj 0,.bool false])) W):=HT.out.2.1
 have FY:Hid (∀W k n,Below w.heap.size w W->bI s k n->s.size<=k->aL s w (.returned (.tuple #[Ii Jj (n),.bool true])) W):=fun W k n hb hd hk=>HT.out.2.2 W k n hb (fun e=>by rcases e with e|e|⟨e,_⟩ <;>first|omega|exact HZ.out e) hd hk
 clear HT
 go_wp2
 go_loop [5,6] (fun n i=>∃(k:Nat) (x:Int),k<=s.size/\i=Ii Jj k/\n=Ii Jj x/\0<=x/\x<10000000000000000/\Hid (bI s k x)) (fun _ i=>s.size-(intOf i).toNat)
 case atStart=>exact ⟨0,0,Nat.zero_le _,rfl,rfl,by omega,by omega,(⟨fun b hb=>by simp at hb,rfl⟩:bI s 0 0)⟩
 case round=>
  obtain ⟨k,x,hk,rfl,rfl,hx0,hx1,hD⟩:=hrel
  by_cases hlt:k<s.size
  ·by_cases c1:(s[k].toNat:Int)<48
   ·have F:Hid (aL s w (.returned (.tuple #[Ii Jj 0,.bool false])) w):=FN.out w (Bf _ _) (dV hlt (Or.inl c1))
    clear FN FY hD
    go_wp2
    all_goals refine bodyPost_ret (v:=.tuple #[Ii Jj 0,.bool false]) (by simp[results,Tryz.results85,go_sem]) rfl ?_
    all_goals exact F.out
   by_cases c2:57<(s[k].toNat:Int)
   ·have F:Hid (aL s w (.returned (.tuple #[Ii Jj 0,.bool false])) w):=FN.out w (Bf _ _) (dV hlt (Or.inr c2))
    clear FN FY hD
    go_wp2
    all_goals refine bodyPost_ret (v:=.tuple #[Ii Jj 0,.bool false]) (by simp[results,Tryz.results85,go_sem]) rfl ?_
    all_goals exact F.out
   have HD:Hid (bI s (k+1) (x*10+((s[k].toNat:Int)-48))):=hD.out.step hlt (by omega) (by omega)
   have hbd:=HD.out.bd (by omega)
   clear hD
   go_wp2
   go_round
   case rel=>exact ⟨k+1,_,by omega,by go_num,rfl,hbd.1,hbd.2,HD⟩
   case measure=>simp[intOf];omega
  ·have F:Hid (aL s w (.returned (.tuple #[Ii Jj (x),.bool true])) w):=FY.out w k x (Bf _ _) hD.out (by omega)
   clear FN FY hD
   go_wp2
   refine bodyPost_ret (v:=.tuple #[Ii Jj (x),.bool true]) (by simp[results,Tryz.results85,go_sem]) rfl ?_
   exact F.out
theorem sC (s:ByteArray) (w:World) (hs:s.size<=1048576):Calls Tryz.prog 85 #[.string s] w fun e w'=>aL s w e w':=by
 by_cases h1:1<s.size
 ·by_cases h45:s[0]=45
  ·exact mH s w hs h1 h45
  ·exact mJ s w hs h1 h45
 ·exact mI s w h1
end Go.Proofs.YtjhgchlfpolkcaaGreatDoor
