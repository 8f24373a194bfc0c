/- The program's look-ups of an account. -/
import Derived.Test.YtghkbhggopiajaaGreatDoorErrsr
import Derived.Test.YtghkbhggopiajaaGreatDoorListsr
import Derived.Shelf.Abstract
set_option maxHeartbeats 4000000
set_option maxRecDepth 8000
namespace Go.Proofs.YtghkbhggopiajaaGreatDoor
open Go.RowKit
theorem below_drewH {B:Nat} (W:World):Below B W W.drew:=⟨rfl,rfl,rfl,Nat.le_refl _,fun _ _=>rfl⟩
theorem found_yes (a:Option Addr) (n c:Nat) (F:Nat->Acc) (id:Int) (j:Nat) (w:World) (h:Fo w a n F) (hj:place F n id=some j):
  Calls Tryz.prog 233 #[.slice a n c,.int .i64 id] w fun e w'=>e=.returned (.tuple #[.agg #[.int .i64 (F j).id,.int .i64 (F j).up,.int .i64 (F j).limit,.int .i64 (F j).rate,.int .i64 (F j).target,.bool (F j).frozen,.int .i64 (F j).balance,.int .i64 (F j).carry],.nilIface])/\Below w.heap.size w w':=by
 have hjn:=(place_some hj).1
 have hn:=h.1
 have HP:Hid (placeI F n id=(j:Int)):=placeI_some hj
 have H:=hidOf h
 have X0:Hid (Box (w.alloc (.cells #[.int .i64 0,.int .i64 0,.int .i64 0,.int .i64 0,.int .i64 0,.bool false,.int .i64 0,.int .i64 0] 30)) w.heap.size ⟨0,0,0,0,0,false,0,0⟩):=Box.new w ⟨0,0,0,0,0,false,0,0⟩ 30
 clear h hj
 go_enter Tryz.func233,Tryz.ntmps233
 go_wp2_with fail
 refine (implAt a n c F id _ (H.out.alloc _)).mono ?_
 rw[HP.out]
 rintro e w1 ⟨rfl,B1⟩
 have X1:=hidOf (X0.out.below B1)
 have B1':Hid (Below w.heap.size w w1):=((Below.refl _ _).alloc (Nat.le_refl _) _).trans (B1.mono (by simp))
 clear B1 X0
 obtain ⟨b,q,rfl,hb,hA⟩:=(H.out.below B1'.out).acc hjn
 obtain ⟨c0,c1,c2,c3,c4,c5,c6,c7⟩:=hA
 obtain ⟨⟨r0,r1,r2,r3,r4,r5,r6,r7⟩,rf,_⟩:=X1.out
 simp only[Nat.zero_add] at r0 r1 r2 r3 r4 r5 r6 r7
 go_wp2
 refine bodyPost_ret (v:=.tuple #[.agg #[.int .i64 (F j).id,.int .i64 (F j).up,.int .i64 (F j).limit,.int .i64 (F j).rate,.int .i64 (F j).target,.bool (F j).frozen,.int .i64 (F j).balance,.int .i64 (F j).carry],.nilIface]) (by simp[results,Tryz.results233,go_sem,r0,r1,r2,r3,r4,r5,r6,r7]) rfl ⟨rfl,?_⟩
 have z:=set8_below B1'.out w.heap.size 0 (F j) (Nat.le_refl _)
 unfold set8 at z
 simpa using z
theorem found_no (a:Option Addr) (n c:Nat) (F:Nat->Acc) (id:Int) (p:Nat->Addr) (w:World) (h:Fo w a n F) (hj:place F n id=none) (hG:GE w p):
  Calls Tryz.prog 233 #[.slice a n c,.int .i64 id] w fun e w'=>e=.returned (.tuple #[.agg #[.int .i64 0,.int .i64 0,.int .i64 0,.int .i64 0,.int .i64 0,.bool false,.int .i64 0,.int .i64 0],.iface 185 (.agg #[.int .i64 id,.iface 271 (.pointer (some (p 2)))])])/\Below w.heap.size w w':=by
 have HP:Hid (placeI F n id= -1):=placeI_none hj
 have H:=hidOf h
 have X0:Hid (Box (w.alloc (.cells #[.int .i64 0,.int .i64 0,.int .i64 0,.int .i64 0,.int .i64 0,.bool false,.int .i64 0,.int .i64 0] 30)) w.heap.size ⟨0,0,0,0,0,false,0,0⟩):=Box.new w ⟨0,0,0,0,0,false,0,0⟩ 30
 have G0:=hidOf hG
 clear h hj hG
 go_enter Tryz.func233,Tryz.ntmps233
 go_wp2_with fail
 refine (implAt a n c F id _ (H.out.alloc _)).mono ?_
 rw[HP.out]
 rintro e w1 ⟨rfl,B1⟩
 have X1:=hidOf (X0.out.below B1)
 have B1':Hid (Below w.heap.size w w1):=((Below.refl _ _).alloc (Nat.le_refl _) _).trans (B1.mono (by simp))
 clear B1 X0
 have gv:=(G0.out.below B1'.out).var 2 (by omega)
 have hz7:=G0.out.size
 have ne2:¬w.heap.size=2:=by omega
 have ne2':¬2=w.heap.size:=by omega
 obtain ⟨⟨r0,r1,r2,r3,r4,r5,r6,r7⟩,rf,_⟩:=X1.out
 simp only[Nat.zero_add] at r0 r1 r2 r3 r4 r5 r6 r7
 go_wp2
 go_region
 all_goals go_wp2
 all_goals refine bodyPost_ret (v:=.tuple #[.agg #[.int .i64 0,.int .i64 0,.int .i64 0,.int .i64 0,.int .i64 0,.bool false,.int .i64 0,.int .i64 0],.iface 185 (.agg #[.int .i64 id,.iface 271 (.pointer (some (p 2)))])]) ?_ rfl ⟨rfl,?_⟩
 ·simp[results,Tryz.results233,go_sem,r0,r1,r2,r3,r4,r5,r6,r7]
 ·have z:=Below.trans (set8_below B1'.out w.heap.size 0 ⟨0,0,0,0,0,false,0,0⟩ (Nat.le_refl _)) (below_drewH (set8 w1 w.heap.size 0 ⟨0,0,0,0,0,false,0,0⟩))
  unfold set8 at z
  simpa using z
theorem warm_yes (a:Option Addr) (n c:Nat) (F:Nat->Acc) (id:Int) (j:Nat) (w:World) (h:Fo w a n F) (hj:place F n id=some j) (hf:(F j).frozen=false):
  Calls Tryz.prog 236 #[.slice a n c,.int .i64 id] w fun e w'=>e=.returned (.tuple #[.agg #[.int .i64 (F j).id,.int .i64 (F j).up,.int .i64 (F j).limit,.int .i64 (F j).rate,.int .i64 (F j).target,.bool false,.int .i64 (F j).balance,.int .i64 (F j).carry],.nilIface])/\Below w.heap.size w w':=by
 have H:=hidOf h
 have HJ:=hidOf hj
 have HF:=hidOf hf
 have X0:Hid (Box (w.alloc (.cells #[.int .i64 0,.int .i64 0,.int .i64 0,.int .i64 0,.int .i64 0,.bool false,.int .i64 0,.int .i64 0] 30)) w.heap.size ⟨0,0,0,0,0,false,0,0⟩):=Box.new w ⟨0,0,0,0,0,false,0,0⟩ 30
 clear h hj hf
 go_enter Tryz.func236,Tryz.ntmps236
 go_wp2_with fail
 refine (found_yes a n c F id j _ (H.out.alloc _) HJ.out).mono ?_
 rw[HF.out]
 rintro e w1 ⟨rfl,B1⟩
 have X1:=hidOf (X0.out.below B1)
 have B1':Hid (Below w.heap.size w w1):=((Below.refl _ _).alloc (Nat.le_refl _) _).trans (B1.mono (by simp))
 clear B1 X0
 have X2:Hid (Box (w1.alloc (.cells #[.int .i64 (F j).id,.int .i64 (F j).up,.int .i64 (F j).limit,.int .i64 (F j).rate,.int .i64 (F j).target,.bool false,.int .i64 (F j).balance,.int .i64 (F j).carry] 30)) w.heap.size ⟨0,0,0,0,0,false,0,0⟩):=X1.out.below ((Below.refl _ _).alloc (Nat.le_refl _) _)
 obtain ⟨⟨r0,r1,r2,r3,r4,r5,r6,r7⟩,rf,_⟩:=X2.out
 simp only[Nat.zero_add] at r0 r1 r2 r3 r4 r5 r6 r7
 go_wp2
 refine bodyPost_ret (v:=.tuple #[.agg #[.int .i64 (F j).id,.int .i64 (F j).up,.int .i64 (F j).limit,.int .i64 (F j).rate,.int .i64 (F j).target,.bool false,.int .i64 (F j).balance,.int .i64 (F j).carry],.nilIface]) (by simp[results,Tryz.results236,go_sem,r0,r1,r2,r3,r4,r5,r6,r7]) rfl ⟨rfl,?_⟩
 have z:=set8_below (B1'.out.alloc B1'.out.size (.cells #[.int .i64 (F j).id,.int .i64 (F j).up,.int .i64 (F j).limit,.int .i64 (F j).rate,.int .i64 (F j).target,.bool false,.int .i64 (F j).balance,.int .i64 (F j).carry] 30)) w.heap.size 0 {F j with frozen:=false} (Nat.le_refl _)
 unfold set8 at z
 simpa using z
theorem warm_frozen (a:Option Addr) (n c:Nat) (F:Nat->Acc) (id:Int) (j:Nat) (p:Nat->Addr) (w:World) (h:Fo w a n F) (hj:place F n id=some j) (hf:(F j).frozen=true) (hG:GE w p):
  Calls Tryz.prog 236 #[.slice a n c,.int .i64 id] w fun e w'=>e=.returned (.tuple #[.agg #[.int .i64 (F j).id,.int .i64 (F j).up,.int .i64 (F j).limit,.int .i64 (F j).rate,.int .i64 (F j).target,.bool true,.int .i64 (F j).balance,.int .i64 (F j).carry],.iface 185 (.agg #[.int .i64 id,.iface 271 (.pointer (some (p 4)))])])/\Below w.heap.size w w':=by
 have H:=hidOf h
 have HJ:=hidOf hj
 have HF:=hidOf hf
 have X0:Hid (Box (w.alloc (.cells #[.int .i64 0,.int .i64 0,.int .i64 0,.int .i64 0,.int .i64 0,.bool false,.int .i64 0,.int .i64 0] 30)) w.heap.size ⟨0,0,0,0,0,false,0,0⟩):=Box.new w ⟨0,0,0,0,0,false,0,0⟩ 30
 have G0:=hidOf hG
 clear hG
 clear h hj hf
 go_enter Tryz.func236,Tryz.ntmps236
 go_wp2_with fail
 refine (found_yes a n c F id j _ (H.out.alloc _) HJ.out).mono ?_
 rw[HF.out]
 rintro e w1 ⟨rfl,B1⟩
 have X1:=hidOf (X0.out.below B1)
 have B1':Hid (Below w.heap.size w w1):=((Below.refl _ _).alloc (Nat.le_refl _) _).trans (B1.mono (by simp))
 clear B1 X0
 have X2:Hid (Box (w1.alloc (.cells #[.int .i64 (F j).id,.int .i64 (F j).up,.int .i64 (F j).limit,.int .i64 (F j).rate,.int .i64 (F j).target,.bool true,.int .i64 (F j).balance,.int .i64 (F j).carry] 30)) w.heap.size ⟨0,0,0,0,0,false,0,0⟩):=X1.out.below ((Below.refl _ _).alloc (Nat.le_refl _) _)
 obtain ⟨⟨r0,r1,r2,r3,r4,r5,r6,r7⟩,rf,_⟩:=X2.out
 simp only[Nat.zero_add] at r0 r1 r2 r3 r4 r5 r6 r7
 have gv:=((G0.out.below B1'.out).below ((Below.refl _ _).alloc (Nat.le_refl _) (.cells #[.int .i64 (F j).id,.int .i64 (F j).up,.int .i64 (F j).limit,.int .i64 (F j).rate,.int .i64 (F j).target,.bool true,.int .i64 (F j).balance,.int .i64 (F j).carry] 30))).var 4 (by omega)
 go_wp2
 refine bodyPost_ret (v:=.tuple #[.agg #[.int .i64 (F j).id,.int .i64 (F j).up,.int .i64 (F j).limit,.int .i64 (F j).rate,.int .i64 (F j).target,.bool true,.int .i64 (F j).balance,.int .i64 (F j).carry],.iface 185 (.agg #[.int .i64 id,.iface 271 (.pointer (some (p 4)))])]) (by simp[results,Tryz.results236,go_sem,r0,r1,r2,r3,r4,r5,r6,r7]) rfl ⟨rfl,?_⟩
 have z:=set8_below (B1'.out.alloc B1'.out.size (.cells #[.int .i64 (F j).id,.int .i64 (F j).up,.int .i64 (F j).limit,.int .i64 (F j).rate,.int .i64 (F j).target,.bool true,.int .i64 (F j).balance,.int .i64 (F j).carry] 30)) w.heap.size 0 {F j with frozen:=true} (Nat.le_refl _)
 unfold set8 at z
 simpa using z
theorem warm_no (a:Option Addr) (n c:Nat) (F:Nat->Acc) (id:Int) (p:Nat->Addr) (w:World) (h:Fo w a n F) (hj:place F n id=none) (hG:GE w p):
  Calls Tryz.prog 236 #[.slice a n c,.int .i64 id] w fun e w'=>e=.returned (.tuple #[.agg #[.int .i64 0,.int .i64 0,.int .i64 0,.int .i64 0,.int .i64 0,.bool false,.int .i64 0,.int .i64 0],.iface 185 (.agg #[.int .i64 id,.iface 271 (.pointer (some (p 2)))])])/\Below w.heap.size w w':=by
 have H:=hidOf h
 have HJ:=hidOf hj
 have G0:=hidOf hG
 have X0:Hid (Box (w.alloc (.cells #[.int .i64 0,.int .i64 0,.int .i64 0,.int .i64 0,.int .i64 0,.bool false,.int .i64 0,.int .i64 0] 30)) w.heap.size ⟨0,0,0,0,0,false,0,0⟩):=Box.new w ⟨0,0,0,0,0,false,0,0⟩ 30
 clear h hj hG
 go_enter Tryz.func236,Tryz.ntmps236
 go_wp2_with fail
 refine (found_no a n c F id p _ (H.out.alloc _) HJ.out (G0.out.below ((Below.refl _ _).alloc (Nat.le_refl _) _))).mono ?_
 rintro e w1 ⟨rfl,B1⟩
 have X1:=hidOf (X0.out.below B1)
 have B1':Hid (Below w.heap.size w w1):=((Below.refl _ _).alloc (Nat.le_refl _) _).trans (B1.mono (by simp))
 clear B1 X0
 have X2:Hid (Box (w1.alloc (.cells #[.int .i64 0,.int .i64 0,.int .i64 0,.int .i64 0,.int .i64 0,.bool false,.int .i64 0,.int .i64 0] 30)) w.heap.size ⟨0,0,0,0,0,false,0,0⟩):=X1.out.below ((Below.refl _ _).alloc (Nat.le_refl _) _)
 obtain ⟨⟨r0,r1,r2,r3,r4,r5,r6,r7⟩,rf,_⟩:=X2.out
 simp only[Nat.zero_add] at r0 r1 r2 r3 r4 r5 r6 r7
 go_wp2
 refine bodyPost_ret (v:=.tuple #[.agg #[.int .i64 0,.int .i64 0,.int .i64 0,.int .i64 0,.int .i64 0,.bool false,.int .i64 0,.int .i64 0],.iface 185 (.agg #[.int .i64 id,.iface 271 (.pointer (some (p 2)))])]) (by simp[results,Tryz.results236,go_sem,r0,r1,r2,r3,r4,r5,r6,r7]) rfl ⟨rfl,?_⟩
 have z:=set8_below (B1'.out.alloc B1'.out.size (.cells #[.int .i64 0,.int .i64 0,.int .i64 0,.int .i64 0,.int .i64 0,.bool false,.int .i64 0,.int .i64 0] 30)) w.heap.size 0 ⟨0,0,0,0,0,false,0,0⟩ (Nat.le_refl _)
 unfold set8 at z
 simpa using z
open Go.RowKit
def idxOf (pr:Acc->Bool) (P:List Acc):Int:=match P.findIdx? pr with|some i=>i|none=> -1
theorem idxOf_hit {pr:Acc->Bool} {P:List Acc} {k:Nat} (hk:k<P.length) (hp:pr (FL P k)=true) (hno:∀j,j<k->pr (FL P j)=false):idxOf pr P=(k:Int):=by
 have:P.findIdx? pr=some k:=by
  rw[List.findIdx?_eq_some_iff_getElem]
  refine ⟨hk,by rw[←FL_lt hk];exact hp,fun j hj=>?_⟩
  rw[←FL_lt (show j<P.length by omega),hno j hj]
  simp
 simp[idxOf,this]
theorem idxOf_miss {pr:Acc->Bool} {P:List Acc} (hno:∀j,j<P.length->pr (FL P j)=false):idxOf pr P= -1:=by
 have:P.findIdx? pr=none:=by
  rw[List.findIdx?_eq_none_iff]
  intro x hx
  obtain ⟨j,hj,rfl⟩:=List.getElem_of_mem hx
  rw[←FL_lt hj]
  exact hno j hj
 simp[idxOf,this]
theorem indexFunc (a:Option Addr) (c:Nat) (P:List Acc) (g:Nat) (lb:Array Value) (pr:Acc->Bool) (w:World) (h:Fo w a P.length (FL P)) (entered:∀args w,(callFunc g args).run Tryz.prog w=.ok (.enter g args) w)
  (hc:∀x W,Below w.heap.size w W->Calls Tryz.prog g (#[.agg #[.int .i64 x.id,.int .i64 x.up,.int .i64 x.limit,.int .i64 x.rate,.int .i64 x.target,.bool x.frozen,.int .i64 x.balance,.int .i64 x.carry]]++lb) W fun e w'=>e=.returned (.bool (pr x))/\Below W.heap.size W w'):
  Calls Tryz.prog 188 #[.slice a P.length c,.func (.func g) #[] lb] w fun e w'=>e=.returned (.int .i64 (idxOf pr P))/\Below w.heap.size w w':=by
 have H:=hidOf h
 have hn:=h.1
 have HC:Hid (∀x W,Below w.heap.size w W->Calls Tryz.prog g (#[.agg #[.int .i64 x.id,.int .i64 x.up,.int .i64 x.limit,.int .i64 x.rate,.int .i64 x.target,.bool x.frozen,.int .i64 x.balance,.int .i64 x.carry]]++lb) W fun e w'=>e=.returned (.bool (pr x))/\Below W.heap.size W w'):=hc
 clear h hc
 go_enter Tryz.func188,Tryz.ntmps188
 go_wp2
 go_loopw[8] (fun i wr=>∃k:Nat,k<=P.length/\i=.int .i64 k/\Hid (∀j,j<k->pr (FL P j)=false)/\Hid (Below w.heap.size w wr)) (fun i _=>P.length-(intOf i).toNat)
 case atStart=>exact ⟨0,Nat.zero_le _,rfl,fun j hj=>absurd hj (Nat.not_lt_zero _),Below.refl _ _⟩
 case round=>
  obtain ⟨k,hk,rfl,hno,hB⟩:=hrel
  by_cases hlt:k<P.length
  ·obtain ⟨b,q,rfl,hb,hA⟩:=(H.out.below hB.out).acc hlt
   obtain ⟨c0,c1,c2,c3,c4,c5,c6,c7⟩:=hA
   cases hpr:pr (FL P k) with
   | true=>
    have E:Hid (idxOf pr P=(k:Int)):=idxOf_hit hlt hpr hno.out
    have HK:Hid (∀W,Below w.heap.size w W->Calls Tryz.prog g (#[.agg #[.int .i64 (FL P k).id,.int .i64 (FL P k).up,.int .i64 (FL P k).limit,.int .i64 (FL P k).rate,.int .i64 (FL P k).target,.bool (FL P k).frozen,.int .i64 (FL P k).balance,.int .i64 (FL P k).carry]]++lb) W fun e w'=>e=.returned (.bool true)/\Below W.heap.size W w'):=fun W hW=>by rw[←hpr];exact HC.out (FL P k) W hW
    clear hpr
    go_wp2_with fail
    refine (HK.out _ hB.out).mono ?_
    rintro e w1 ⟨rfl,B1⟩
    have B1':=hidOf (hB.out.trans (B1.mono hB.out.size))
    clear B1
    go_wp2
    go_ret
    rw[E.out]
    exact ⟨rfl,B1'.out⟩
   | false=>
    have HN:Hid (∀j,j<k+1->pr (FL P j)=false):=fun j hj=>by
     by_cases e:j=k
     ·subst e;exact hpr
     ·exact hno.out j (by omega)
    have HK:Hid (∀W,Below w.heap.size w W->Calls Tryz.prog g (#[.agg #[.int .i64 (FL P k).id,.int .i64 (FL P k).up,.int .i64 (FL P k).limit,.int .i64 (FL P k).rate,.int .i64 (FL P k).target,.bool (FL P k).frozen,.int .i64 (FL P k).balance,.int .i64 (FL P k).carry]]++lb) W fun e w'=>e=.returned (.bool false)/\Below W.heap.size W w'):=fun W hW=>by rw[←hpr];exact HC.out (FL P k) W hW
    clear hpr
    go_wp2_with fail
    refine (HK.out _ hB.out).mono ?_
    rintro e w1 ⟨rfl,B1⟩
    have B1':=hidOf (hB.out.trans (B1.mono hB.out.size))
    clear B1
    go_wp2
    go_roundw
    case rel=>exact ⟨k+1,by omega,by go_num,HN,B1'⟩
    case measure=>simp[intOf];omega
  ·have hkn:k=P.length:=by omega
   have E:Hid (idxOf pr P= -1):=idxOf_miss (fun j hj=>hno.out j (by omega))
   go_wp2
   go_ret
   rw[E.out]
   exact ⟨rfl,hB.out⟩
theorem containsFunc (a:Option Addr) (c:Nat) (P:List Acc) (g:Nat) (lb:Array Value) (pr:Acc->Bool) (w:World) (h:Fo w a P.length (FL P)) (entered:∀args w,(callFunc g args).run Tryz.prog w=.ok (.enter g args) w)
  (hc:∀x W,Below w.heap.size w W->Calls Tryz.prog g (#[.agg #[.int .i64 x.id,.int .i64 x.up,.int .i64 x.limit,.int .i64 x.rate,.int .i64 x.target,.bool x.frozen,.int .i64 x.balance,.int .i64 x.carry]]++lb) W fun e w'=>e=.returned (.bool (pr x))/\Below W.heap.size W w'):
  Calls Tryz.prog 242 #[.slice a P.length c,.func (.func g) #[] lb] w fun e w'=>Tells e (0<=idxOf pr P)/\Below w.heap.size w w':=by
 obtain ⟨v,hve⟩:∃v,v=idxOf pr P:=⟨_,rfl⟩
 have IX:Hid (Calls Tryz.prog 188 #[.slice a P.length c,.func (.func g) #[] lb] w fun e w'=>e=.returned (.int .i64 v)/\Below w.heap.size w w'):=by rw[hve];exact indexFunc a c P g lb pr w h entered hc
 have HV:=hidOf hve
 clear h entered hc hve
 go_enter Tryz.func242,Tryz.ntmps242
 go_wp2_with fail
 refine IX.out.mono ?_
 rintro e w1 ⟨rfl,B1⟩
 have B1':=hidOf B1
 clear B1
 by_cases hv:0<=v
 ·have hd:decide (0<=v)=true:=decide_eq_true hv
  go_wp2
  go_ret
  exact ⟨Tells.yes (by rw[←HV.out];exact hv),B1'.out⟩
 ·have hv':v<0:=by omega
  have hd:decide (0<=v)=false:=decide_eq_false hv
  go_wp2
  go_ret
  exact ⟨Tells.no (by rw[←HV.out];omega),B1'.out⟩
theorem onPath1 (x:Acc) (id:Int) (B:Nat) (w:World) (h:w.cell? ⟨B,0,none⟩=some (.int .i64 id)) (hB:B<w.heap.size):
  Calls Tryz.prog 243 #[.agg #[.int .i64 x.id,.int .i64 x.up,.int .i64 x.limit,.int .i64 x.rate,.int .i64 x.target,.bool x.frozen,.int .i64 x.balance,.int .i64 x.carry],.pointer (some ⟨B,0,none⟩)] w fun e w'=>e=.returned (.bool (x.id == id))/\Below w.heap.size w w':=by
 have hne:¬w.heap.size=B:=by omega
 have hne':¬B=w.heap.size:=by omega
 go_enter Tryz.func243,Tryz.ntmps243
 go_wp2
 go_ret
 exact ⟨rfl,(Below.refl _ _).alloc (Nat.le_refl _) _⟩
theorem idxOf_id (P:List Acc) (l:List Int) (id:Int) (hl:P.map (·.id)=l):0<=idxOf (fun x=>x.id == id) P↔id ∈ l:=by
 subst hl
 unfold idxOf
 cases hf:P.findIdx? (fun x=>x.id == id) with
 | none=>
  have:=List.findIdx?_eq_none_iff.1 hf
  simp only[List.mem_map]
  constructor
  ·intro h;omega
  ·rintro ⟨x,hx,e⟩
   have:=this x hx
   simp[e] at this
 | some i=>
  obtain ⟨hi,hp,_⟩:=List.findIdx?_eq_some_iff_getElem.1 hf
  constructor
  ·intro _
   exact List.mem_map.2 ⟨P[i],List.getElem_mem _,by simpa using hp⟩
  ·intro _;simp
theorem onPath_b (a:Option Addr) (n c:Nat) (F:Nat->Acc) (id to:Int) (l:List Int) (w:World) (h:Fo w a n F) (hR:Right F n) (hl:chain F n n to=some l):
  Calls Tryz.prog 241 #[.slice a n c,.int .i64 id,.int .i64 to] w fun e w'=>Tells e (id ∈ l)/\Below w.heap.size w w':=by
 have H:=hidOf h
 have HR:=hidOf hR
 have HL:=hidOf hl
 have hn12:=hR.1
 have X0:Hid ((w.alloc (.cells #[.int .i64 id] 2)).cell? ⟨w.heap.size,0,none⟩=some (.int .i64 id)):=(by simp[go_sem]:(w.alloc (.cells #[.int .i64 id] 2)).cell? ⟨w.heap.size,0,none⟩=some (.int .i64 id))
 clear h hR hl
 go_enter Tryz.func241,Tryz.ntmps241
 go_wp2_with fail
 refine (implPathFrom a n c F to l _ (H.out.alloc _) HR.out HL.out).mono ?_
 rintro e w1 ⟨v,P,rfl,A1,hP,hPn,B1⟩
 obtain ⟨av,cv,hv,_,_⟩:=A1.shape
 subst hv
 have hz:w.heap.size<w1.heap.size:=Nat.lt_of_lt_of_le (by simp) B1.size
 have X1:Hid (w1.cell? ⟨w.heap.size,0,none⟩=some (.int .i64 id)):=by
  show w1.cell? ⟨w.heap.size,0,none⟩=some (.int .i64 id)
  rw[B1.cell (p:=⟨w.heap.size,0,none⟩) (by simp)];exact X0.out
 have B1':Hid (Below w.heap.size w w1):=((Below.refl _ _).alloc (Nat.le_refl _) _).trans (B1.mono (by simp))
 have FP:Hid (Fo w1 av P.length (FL P)):=(A1.fo (by omega)).2
 have HI:Hid (0<=idxOf (fun x=>x.id == id) P↔id ∈ l):=idxOf_id P l id hP
 clear B1 A1 X0 hP
 have CF:=containsFunc av cv P 243 #[.pointer (some ⟨w.heap.size,0,none⟩)] (fun x=>x.id == id) w1 FP.out (enters_of Tryz.func243 (by kernel_rfl) rfl) (fun x W hW=>onPath1 x id w.heap.size W (by rw[hW.cell (p:=⟨w.heap.size,0,none⟩) hz];exact X1.out) (Nat.lt_of_lt_of_le hz hW.size))
 have HCF:Hid (Calls Tryz.prog 242 #[.slice av P.length cv,.func (.func 243) #[] #[.pointer (some ⟨w.heap.size,0,none⟩)]] w1 fun e w'=>Tells e (0<=idxOf (fun x=>x.id == id) P)/\Below w1.heap.size w1 w'):=CF
 clear CF
 go_wp2_with fail
 refine HCF.out.mono ?_
 rintro e w2 ⟨⟨bo,rfl,h1,h2⟩,B2⟩
 have T:Hid (Tells (.returned (.bool bo)) (id ∈ l)):=⟨bo,rfl,fun e=>HI.out.1 (h1 e),fun e hh=>h2 e (HI.out.2 hh)⟩
 have B2':=hidOf (B1'.out.trans (B2.mono B1'.out.size))
 clear B2 h1 h2
 go_wp2
 go_ret
 exact ⟨T.out,B2'.out⟩
open Go.RowKit
theorem onPath_yes (a:Option Addr) (n c:Nat) (F:Nat->Acc) (id to:Int) (l:List Int) (w:World) (h:Fo w a n F) (hR:Right F n) (hl:chain F n n to=some l) (hm:id ∈ l):
  Calls Tryz.prog 241 #[.slice a n c,.int .i64 id,.int .i64 to] w fun e w'=>e=.returned (.bool true)/\Below w.heap.size w w':=
 (onPath_b a n c F id to l w h hR hl).mono fun e w' ⟨⟨b,he,_,h2⟩,hB⟩=>⟨by cases b with|true=>exact he|false=>exact absurd hm (h2 rfl),hB⟩
theorem onPath_no (a:Option Addr) (n c:Nat) (F:Nat->Acc) (id to:Int) (l:List Int) (w:World) (h:Fo w a n F) (hR:Right F n) (hl:chain F n n to=some l) (hm:id ∉ l):
  Calls Tryz.prog 241 #[.slice a n c,.int .i64 id,.int .i64 to] w fun e w'=>e=.returned (.bool false)/\Below w.heap.size w w':=
 (onPath_b a n c F id to l w h hR hl).mono fun e w' ⟨⟨b,he,h1,_⟩,hB⟩=>⟨by cases b with|false=>exact he|true=>exact absurd (h1 rfl) hm,hB⟩
def inThe (F:Nat->Acc) (n:Nat) (lt:List Int) (m:Int) (j:Nat):Prop:=(F j).limit≠ -1/\(F j).id ∉ lt/\sumAll F n j+(F j).limit<m
def shortP (F:Nat->Acc) (n:Nat) (lf lt:List Int) (m:Int):Prop:=∃j,j<n/\(F j).id ∈ lf/\inThe F n lt m j
def ShortEnds (p:Nat->Addr) (S:Prop) (e:Ending):Prop:=(S/\∃i,e=.returned (refV p i 5))\/(¬S/\e=.returned .nilIface)
theorem shortOn (a:Option Addr) (n c:Nat) (F:Nat->Acc) (from_ to m:Int) (lf lt:List Int) (p:Nat->Addr) (w:World) (h:Fo w a n F) (hR:Right F n) (hlf:chain F n n from_=some lf) (hlt:chain F n n to=some lt) (hG:GE w p):
  Calls Tryz.prog 239 #[.slice a n c,.int .i64 from_,.int .i64 to,.int .i64 m] w fun e w'=>ShortEnds p (shortP F n lf lt m) e/\Below w.heap.size w w':=by
 have H:=hidOf h
 have HR:=hidOf hR
 have HLT:=hidOf hlt
 have HLF:=hidOf hlf
 have G0:=hidOf hG
 have hn12:=hR.1
 clear h hR hlf hlt hG
 go_enter Tryz.func239,Tryz.ntmps239
 go_wp2_with fail
 refine (implPathFull a n c F from_ lf _ H.out HR.out HLF.out).mono ?_
 rintro e w1 ⟨v,P,rfl,A1,hP,hPn,hPF,B1⟩
 obtain ⟨av,cv,hv,_,_⟩:=A1.shape
 subst hv
 have A1':=hidOf A1
 have B1':=hidOf B1
 have HP:=hidOf hP
 have HPF:=hidOf hPF
 clear A1 B1 hP hPF
 go_wp2
 go_loopw[15] (fun i wr=>∃k:Nat,k<=P.length/\i=.int .i64 k/\Hid (∀j,j<n->(F j).id ∈ (P.take k).map (·.id)->¬inThe F n lt m j)/\Hid (AL wr w.heap.size (.slice av P.length cv) P)/\Hid (Below w.heap.size w wr)) (fun i _=>P.length-(intOf i).toNat)
 case atStart=>exact ⟨0,Nat.zero_le _,rfl,fun j _ hj=>by simp at hj,A1',B1'⟩
 case round=>
  obtain ⟨k,hk,rfl,hno,hA,hB⟩:=hrel
  clear A1' B1'
  by_cases hlt:k<P.length
  ·obtain ⟨j,hj,hx⟩:=HPF.out P[k] (List.getElem_mem _)
   obtain ⟨b,q,rfl,hb,hAc⟩:=(hA.out.fo (by omega)).2.acc hlt
   rw[FL_lt hlt,hx] at hAc
   obtain ⟨c0,c1,c2,c3,c4,c5,c6,c7⟩:=hAc
   have hxid:P[k].id=(F j).id:=by rw[hx]
   have HTK:Hid (∀x,x ∈ (P.take (k+1)).map (·.id)↔x ∈ (P.take k).map (·.id)\/x=(F j).id):=fun x=>by
    rw[List.take_succ_eq_append_getElem hlt,List.map_append,List.mem_append]
    simp[hxid]
   have HNE:Hid (¬inThe F n lt m j->∀i,i<n->(F i).id ∈ (P.take (k+1)).map (·.id)->¬inThe F n lt m i):=fun hn i hi hm=>by
    rcases (HTK.out _).1 hm with h1|h1
    ·exact hno.out i hi h1
    ·have e:i=j:=HR.out.inj hi hj h1
     subst e;exact hn
   have HIN:Hid (inThe F n lt m j->shortP F n lf lt m):=fun hs=>⟨j,hj,by
    rw[←HP.out,←hxid]
    exact List.mem_map.2 ⟨P[k],List.getElem_mem _,rfl⟩,hs⟩
   have FW:Hid (Fo (wr.alloc (.cells #[.int .i64 (F j).id,.int .i64 (F j).up,.int .i64 (F j).limit,.int .i64 (F j).rate,.int .i64 (F j).target,.bool (F j).frozen,.int .i64 (F j).balance,.int .i64 (F j).carry] 30)) a n F):=(H.out.below hB.out).alloc _
   have FOV:Hid (∀u,Fo (over (wr.alloc (.cells #[.int .i64 (F j).id,.int .i64 (F j).up,.int .i64 (F j).limit,.int .i64 (F j).rate,.int .i64 (F j).target,.bool (F j).frozen,.int .i64 (F j).balance,.int .i64 (F j).carry] 30)) u) a n F):=fun u=>FW.out.below (below_over _ u)
   have hov:∀u q,(over (wr.alloc (.cells #[.int .i64 (F j).id,.int .i64 (F j).up,.int .i64 (F j).limit,.int .i64 (F j).rate,.int .i64 (F j).target,.bool (F j).frozen,.int .i64 (F j).balance,.int .i64 (F j).carry] 30)) u).cell? ⟨wr.heap.size,q,none⟩=(wr.alloc (.cells #[.int .i64 (F j).id,.int .i64 (F j).up,.int .i64 (F j).limit,.int .i64 (F j).rate,.int .i64 (F j).target,.bool (F j).frozen,.int .i64 (F j).balance,.int .i64 (F j).carry] 30)).cell? ⟨wr.heap.size,q,none⟩:=fun u q=>(below_over _ u).cell (p:=⟨wr.heap.size,q,none⟩) (by simp)
   obtain ⟨s1,s2⟩:=room_bd HR.out hj
   clear hx hxid
   by_cases hl:(F j).limit= -1
   ·have HN1:Hid (∀i,i<n->(F i).id ∈ (P.take (k+1)).map (·.id)->¬inThe F n lt m i):=HNE.out (fun hh=>hh.1 hl)
    have hlb:((F j).limit != -1)=false:=by simp[hl]
    clear hl
    go_wp2
    refine wp_region_over (by kernel_rfl) (by kernel_rfl) ?_
    repeat (go_big_quiet_step ((first|(go_at_call 241;exact Calls.over_of (onPath_yes a n c F (F j).id to lt _ (FOV.out _) HR.out HLT.out (by assumption))))))
    refine wpQuiet_nil ?_
    intro _ hw'
    obtain ⟨vq,hw''⟩:=hw'
    subst hw''
    have XV:Hid (AL (over (wr.alloc (.cells #[.int .i64 (F j).id,.int .i64 (F j).up,.int .i64 (F j).limit,.int .i64 (F j).rate,.int .i64 (F j).target,.bool (F j).frozen,.int .i64 (F j).balance,.int .i64 (F j).carry] 30)) vq) w.heap.size (.slice (some ⟨b,q,none⟩) P.length cv) P/\Below w.heap.size w (over (wr.alloc (.cells #[.int .i64 (F j).id,.int .i64 (F j).up,.int .i64 (F j).limit,.int .i64 (F j).rate,.int .i64 (F j).target,.bool (F j).frozen,.int .i64 (F j).balance,.int .i64 (F j).carry] 30)) vq)):=⟨AL.kept (World.ownsRow.alloc hA.out _) (below_over _ vq),(hB.out.alloc hB.out.size _).trans ((below_over _ vq).mono (by have:=hB.out.size;simp;omega))⟩
    go_wp2
    go_roundw
    case rel=>exact ⟨k+1,by omega,by go_num,HN1,XV.out.1,XV.out.2⟩
    case measure=>simp[intOf];omega
   have hlb:((F j).limit != -1)=true:=by simp[hl]
   by_cases hm:(F j).id ∈ lt
   ·have HN1:Hid (∀i,i<n->(F i).id ∈ (P.take (k+1)).map (·.id)->¬inThe F n lt m i):=HNE.out (fun hh=>hh.2.1 hm)
    have HM:=hidOf hm
    clear hl hm
    go_wp2
    refine wp_region_over (by kernel_rfl) (by kernel_rfl) ?_
    repeat (go_big_quiet_step ((first|(go_at_call 241;exact Calls.over_of (onPath_yes a n c F (F j).id to lt _ (FOV.out _) HR.out HLT.out HM.out)))))
    refine wpQuiet_nil ?_
    intro _ hw'
    obtain ⟨vq,hw''⟩:=hw'
    subst hw''
    have XV:Hid (AL (over (wr.alloc (.cells #[.int .i64 (F j).id,.int .i64 (F j).up,.int .i64 (F j).limit,.int .i64 (F j).rate,.int .i64 (F j).target,.bool (F j).frozen,.int .i64 (F j).balance,.int .i64 (F j).carry] 30)) vq) w.heap.size (.slice (some ⟨b,q,none⟩) P.length cv) P/\Below w.heap.size w (over (wr.alloc (.cells #[.int .i64 (F j).id,.int .i64 (F j).up,.int .i64 (F j).limit,.int .i64 (F j).rate,.int .i64 (F j).target,.bool (F j).frozen,.int .i64 (F j).balance,.int .i64 (F j).carry] 30)) vq)):=⟨AL.kept (World.ownsRow.alloc hA.out _) (below_over _ vq),(hB.out.alloc hB.out.size _).trans ((below_over _ vq).mono (by have:=hB.out.size;simp;omega))⟩
    go_wp2
    go_roundw
    case rel=>exact ⟨k+1,by omega,by go_num,HN1,XV.out.1,XV.out.2⟩
    case measure=>simp[intOf];omega
   have HM:=hidOf hm
   by_cases hs:sumAll F n j+(F j).limit<m
   ·have HS:Hid (shortP F n lf lt m):=HIN.out ⟨hl,hm,hs⟩
    have hsd:decide (sumAll F n j+(F j).limit<m)=true:=decide_eq_true hs
    clear hl hm
    go_wp2
    refine wp_region_over (by kernel_rfl) (by kernel_rfl) ?_
    repeat (go_big_quiet_step ((first|(go_at_call 241;exact Calls.over_of (onPath_no a n c F (F j).id to lt _ (FOV.out _) HR.out HLT.out HM.out))|(go_at_call 151;exact Calls.over_of (implSumFrom a n c F j _ (FOV.out _) HR.out hj)))))
    refine wpQuiet_nil ?_
    intro _ hw'
    obtain ⟨vq,hw''⟩:=hw'
    subst hw''
    have XV:Hid (AL (over (wr.alloc (.cells #[.int .i64 (F j).id,.int .i64 (F j).up,.int .i64 (F j).limit,.int .i64 (F j).rate,.int .i64 (F j).target,.bool (F j).frozen,.int .i64 (F j).balance,.int .i64 (F j).carry] 30)) vq) w.heap.size (.slice (some ⟨b,q,none⟩) P.length cv) P/\Below w.heap.size w (over (wr.alloc (.cells #[.int .i64 (F j).id,.int .i64 (F j).up,.int .i64 (F j).limit,.int .i64 (F j).rate,.int .i64 (F j).target,.bool (F j).frozen,.int .i64 (F j).balance,.int .i64 (F j).carry] 30)) vq)):=⟨AL.kept (World.ownsRow.alloc hA.out _) (below_over _ vq),(hB.out.alloc hB.out.size _).trans ((below_over _ vq).mono (by have:=hB.out.size;simp;omega))⟩
    have gv:=(G0.out.below XV.out.2).var 5 (by omega)
    have gz:=G0.out.size
    go_wp2
    go_ret
    exact ⟨Or.inl ⟨HS.out,_,rfl⟩,XV.out.2⟩
   ·have HN1:Hid (∀i,i<n->(F i).id ∈ (P.take (k+1)).map (·.id)->¬inThe F n lt m i):=HNE.out (fun hh=>hs hh.2.2)
    have hsd:decide (sumAll F n j+(F j).limit<m)=false:=decide_eq_false hs
    clear hl hm
    go_wp2
    refine wp_region_over (by kernel_rfl) (by kernel_rfl) ?_
    repeat (go_big_quiet_step ((first|(go_at_call 241;exact Calls.over_of (onPath_no a n c F (F j).id to lt _ (FOV.out _) HR.out HLT.out HM.out))|(go_at_call 151;exact Calls.over_of (implSumFrom a n c F j _ (FOV.out _) HR.out hj)))))
    refine wpQuiet_nil ?_
    intro _ hw'
    obtain ⟨vq,hw''⟩:=hw'
    subst hw''
    have XV:Hid (AL (over (wr.alloc (.cells #[.int .i64 (F j).id,.int .i64 (F j).up,.int .i64 (F j).limit,.int .i64 (F j).rate,.int .i64 (F j).target,.bool (F j).frozen,.int .i64 (F j).balance,.int .i64 (F j).carry] 30)) vq) w.heap.size (.slice (some ⟨b,q,none⟩) P.length cv) P/\Below w.heap.size w (over (wr.alloc (.cells #[.int .i64 (F j).id,.int .i64 (F j).up,.int .i64 (F j).limit,.int .i64 (F j).rate,.int .i64 (F j).target,.bool (F j).frozen,.int .i64 (F j).balance,.int .i64 (F j).carry] 30)) vq)):=⟨AL.kept (World.ownsRow.alloc hA.out _) (below_over _ vq),(hB.out.alloc hB.out.size _).trans ((below_over _ vq).mono (by have:=hB.out.size;simp;omega))⟩
    go_wp2
    go_roundw
    case rel=>exact ⟨k+1,by omega,by go_num,HN1,XV.out.1,XV.out.2⟩
    case measure=>simp[intOf];omega
  ·have hkn:k=P.length:=by omega
   have HS:Hid (¬shortP F n lf lt m):=by
    rintro ⟨j,hj,hm,hi⟩
    refine hno.out j hj ?_ hi
    rw[hkn,List.take_length,HP.out]
    exact hm
   go_wp2
   go_ret
   exact ⟨Or.inr ⟨HS.out,rfl⟩,hB.out⟩
end Go.Proofs.YtghkbhggopiajaaGreatDoor
