/- readWhole of the program at the reader of an op. -/
import Derived.Test.YtjhgchlfpolkcaaGreatDoorCatOx
namespace Go.Proofs.YtjhgchlfpolkcaaGreatDoor
open Value renaming int → Ii,slice → Sl
open IntKind renaming i64 → Jj
open Nat renaming le_refl → Nf
open Go.RowKit
set_option maxRecDepth 8000
def dP (w:World) (s:ByteArray) (e:Ending) (w':World):Prop:=Below w.heap.size w w'/\((∃(K:Int) (x:bB) (o:am) (n:Int),aY s.data.toList K x o n []/\e=.returned (.tuple #[.agg (bl K x o n).toArray,.bool true]))\/((∀K x o n,¬aY s.data.toList K x o n [])/\e=.returned (.tuple #[.agg (bZ 0).toArray,.bool false])))
theorem sw {s t t':List UInt8} {K n K' n':Int} {x x':bB} {o o':am} (h:aY s K x o n t) (k:aY s K' x' o' n' t'):t=t':=by
 obtain ⟨i,hi,e1,e2,e3⟩:=dg h.1
 have hw:(cB i).data.toList=bk s:=by rw[←e1,h.2.1]
 have a:=eg (wd:=cB i) hw hi rfl h
 have b:=eg (wd:=cB i) hw hi rfl k
 have:=a.1.symm.trans b.1
 exact congrArg Prod.snd (Option.some.inj this)
set_option maxHeartbeats 4000000 in
theorem sO (s:ByteArray) (hs:s.size<=1048576) (w:World) (g:ba w):Calls Tryz.prog 34 #[.string s,.func (.func 35) #[] #[]] w fun e w'=>dP w s e w':=by
 have hmf:∀(fn:Fn) (first cap:Array Value) (w:World),(Instr.makeFunc fn first cap).run Tryz.prog w=.ok (.func fn first cap) w:=fun _ _ _ _=>rfl
 obtain ⟨h,hh⟩:∃h,w.heap.size=h:=⟨_,rfl⟩
 have HH:Hid (w.heap.size=h):=hh
 obtain ⟨W0,hW0,X0⟩:∃W0,W0=((w.alloc (.cells (bZ 0).toArray 37)).alloc (.cells #[.bool false] 4)).alloc (.cells #[.string s] 98)/\Hid (ah W0 h (bZ 0)/\ah W0 (h+1) [.bool false]/\Below h w W0/\bp W0 (h+2) s/\ba W0):=by
  have b1:∀(V:World) (o:Obj),Below V.heap.size V (V.alloc o):=fun V o=>(Below.refl _ _).alloc (Nf _) _
  have h7:7<=w.heap.size:=g.2.2.2.2
  have v0:=((ah.new w (bZ 0) 37).kept (b1 _ (.cells #[.bool false] 4)) (by simp)).kept (b1 _ (.cells #[.string s] 98)) (by simp;omega)
  have v1:=(ah.new (w.alloc (.cells (bZ 0).toArray 37)) [.bool false] 4).kept (b1 _ (.cells #[.string s] 98)) (by simp)
  have v2:=ah.new ((w.alloc (.cells (bZ 0).toArray 37)).alloc (.cells #[.bool false] 4)) [.string s] 98
  simp only[World.size_alloc] at v0 v1 v2
  rw[hh] at v0 v1 v2 h7
  have bb:Below h w (((w.alloc (.cells (bZ 0).toArray 37)).alloc (.cells #[.bool false] 4)).alloc (.cells #[.string s] 98)):=by
   rw[←hh]
   exact (((Below.refl _ _).alloc (Nf _) _).alloc (by simp) _).alloc (by simp;omega) _
  exact ⟨_,rfl,v0,v1,bb,⟨v2.1 0 _ rfl,v2.2.1 0,by omega,v2.2.2,hs⟩,g.below (by rw[hh];exact bb)⟩
 have HW0:Hid (W0=_):=hW0
 have FNO:Hid ((∀K x o n,¬aY s.data.toList K x o n [])->∀W w9,Below h w W->Below h W w9->dP w s (.returned (.tuple #[.agg (bZ 0).toArray,.bool false])) w9):=fun hn W w9 b1 b2=>⟨by rw[HH.out];exact b1.trans b2,Or.inr ⟨hn,rfl⟩⟩
 have HG7:Hid (7<=h):=by have:=g.2.2.2.2;rw[hh] at this;exact this
 clear hW0 g
 go_enter_defers Tryz.func34,Tryz.ntmps34
 go_wp2_with fail
 rw[←HW0.out]
 clear HW0 hh
 refine (rP (h+2) s W0 X0.out.2.2.2.1 X0.out.2.2.2.2).mono ?_
 rintro e w1 ⟨S1,hor⟩
 have X1:Hid (ah w1 h (bZ 0)/\ah w1 (h+1) [.bool false]/\Below h w w1):=⟨X0.out.1.stp S1 (by omega),X0.out.2.1.stp S1 (by omega),X0.out.2.2.1.trans ((S1.below (by have:=X0.out.2.2.2.1.2.2.2.1;omega)).mono (by omega))⟩
 clear S1 X0
 rcases hor with ⟨K,x,od,nn,t,hR,rfl,R1,G1⟩|⟨hR,t9,p9,rfl⟩
 ·have h7:7<=h:=HG7.out
  obtain ⟨W2,hW2,X2⟩:∃W2,W2=((((((((((((((w1).setCell ⟨h,0,none⟩ (Ii Jj K)).setCell ⟨h,1,none⟩ (Ii Jj x.k)).setCell ⟨h,2,none⟩ (Ii Jj x.i)).setCell ⟨h,3,none⟩ (Ii Jj x.t)).setCell ⟨h,4,none⟩ (Ii Jj x.m)).setCell ⟨h,5,none⟩ (Ii Jj x.r)).setCell ⟨h,6,none⟩ (Ii Jj od.id)).setCell ⟨h,7,none⟩ (Ii Jj od.src)).setCell ⟨h,8,none⟩ (Ii Jj od.dst)).setCell ⟨h,9,none⟩ (Ii Jj od.amount)).setCell ⟨h,10,none⟩ (Ii Jj od.first)).setCell ⟨h,11,none⟩ (Ii Jj od.every)).setCell ⟨h,12,none⟩ (Ii Jj od.times)).setCell ⟨h,13,none⟩ (Ii Jj nn)/\Hid (ah W2 h (bl K x od nn)/\ah W2 (h+1) [.bool false]/\Below h w W2/\bp W2 (h+2) t/\ba W2):=
   ⟨_,rfl,((((((((((((((X1.out.1).set 0 (Ii Jj K)).set 1 (Ii Jj x.k)).set 2 (Ii Jj x.i)).set 3 (Ii Jj x.t)).set 4 (Ii Jj x.m)).set 5 (Ii Jj x.r)).set 6 (Ii Jj od.id)).set 7 (Ii Jj od.src)).set 8 (Ii Jj od.dst)).set 9 (Ii Jj od.amount)).set 10 (Ii Jj od.first)).set 11 (Ii Jj od.every)).set 12 (Ii Jj od.times)).set 13 (Ii Jj nn),((((((((((((((X1.out.2.1).far (by omega) 0 (Ii Jj K)).far (by omega) 1 (Ii Jj x.k)).far (by omega) 2 (Ii Jj x.i)).far (by omega) 3 (Ii Jj x.t)).far (by omega) 4 (Ii Jj x.m)).far (by omega) 5 (Ii Jj x.r)).far (by omega) 6 (Ii Jj od.id)).far (by omega) 7 (Ii Jj od.src)).far (by omega) 8 (Ii Jj od.dst)).far (by omega) 9 (Ii Jj od.amount)).far (by omega) 10 (Ii Jj od.first)).far (by omega) 11 (Ii Jj od.every)).far (by omega) 12 (Ii Jj od.times)).far (by omega) 13 (Ii Jj nn),((((((((((((((X1.out.2.2).setCell (p:=⟨h,0,none⟩) (Nf _) (Ii Jj K)).setCell (p:=⟨h,1,none⟩) (Nf _) (Ii Jj x.k)).setCell (p:=⟨h,2,none⟩) (Nf _) (Ii Jj x.i)).setCell (p:=⟨h,3,none⟩) (Nf _) (Ii Jj x.t)).setCell (p:=⟨h,4,none⟩) (Nf _) (Ii Jj x.m)).setCell (p:=⟨h,5,none⟩) (Nf _) (Ii Jj x.r)).setCell (p:=⟨h,6,none⟩) (Nf _) (Ii Jj od.id)).setCell (p:=⟨h,7,none⟩) (Nf _) (Ii Jj od.src)).setCell (p:=⟨h,8,none⟩) (Nf _) (Ii Jj od.dst)).setCell (p:=⟨h,9,none⟩) (Nf _) (Ii Jj od.amount)).setCell (p:=⟨h,10,none⟩) (Nf _) (Ii Jj od.first)).setCell (p:=⟨h,11,none⟩) (Nf _) (Ii Jj od.every)).setCell (p:=⟨h,12,none⟩) (Nf _) (Ii Jj od.times)).setCell (p:=⟨h,13,none⟩) (Nf _) (Ii Jj nn),((((((((((((((R1).far (by omega) 0 (Ii Jj K)).far (by omega) 1 (Ii Jj x.k)).far (by omega) 2 (Ii Jj x.i)).far (by omega) 3 (Ii Jj x.t)).far (by omega) 4 (Ii Jj x.m)).far (by omega) 5 (Ii Jj x.r)).far (by omega) 6 (Ii Jj od.id)).far (by omega) 7 (Ii Jj od.src)).far (by omega) 8 (Ii Jj od.dst)).far (by omega) 9 (Ii Jj od.amount)).far (by omega) 10 (Ii Jj od.first)).far (by omega) 11 (Ii Jj od.every)).far (by omega) 12 (Ii Jj od.times)).far (by omega) 13 (Ii Jj nn),((((((((((((((G1).far h7 0 (Ii Jj K)).far h7 1 (Ii Jj x.k)).far h7 2 (Ii Jj x.i)).far h7 3 (Ii Jj x.t)).far h7 4 (Ii Jj x.m)).far h7 5 (Ii Jj x.r)).far h7 6 (Ii Jj od.id)).far h7 7 (Ii Jj od.src)).far h7 8 (Ii Jj od.dst)).far h7 9 (Ii Jj od.amount)).far h7 10 (Ii Jj od.first)).far h7 11 (Ii Jj od.every)).far h7 12 (Ii Jj od.times)).far h7 13 (Ii Jj nn)⟩
  have HW2:Hid (W2=_):=hW2
  have HRT:Hid (aY s.data.toList K x od nn t.data.toList):=hR
  have y0:=X1.out.1.1 0 _ rfl
  have y1:=X1.out.1.1 1 _ rfl
  have y2:=X1.out.1.1 2 _ rfl
  have y3:=X1.out.1.1 3 _ rfl
  have y4:=X1.out.1.1 4 _ rfl
  have y5:=X1.out.1.1 5 _ rfl
  have y6:=X1.out.1.1 6 _ rfl
  have y7:=X1.out.1.1 7 _ rfl
  have y8:=X1.out.1.1 8 _ rfl
  have y9:=X1.out.1.1 9 _ rfl
  have y10:=X1.out.1.1 10 _ rfl
  have y11:=X1.out.1.1 11 _ rfl
  have y12:=X1.out.1.1 12 _ rfl
  have y13:=X1.out.1.1 13 _ rfl
  have fz:=X1.out.1.2.1
  clear hW2 R1 G1 hR
  go_upto_region 4 with fail
  rw[←HW2.out]
  clear HW2 X1 fz y0 y1 y2 y3 y4 y5 y6 y7 y8 y9 y10 y11 y12 y13
  have tc:=X2.out.2.2.2.1.1
  by_cases ht:t.toList.isEmpty=true
  ·have FYES:Hid (∀W,Below h W2 W->dP w s (.returned (.tuple #[.agg (bl K x od nn).toArray,.bool true])) W):=fun W hb=>⟨by rw[HH.out];exact X2.out.2.2.1.trans hb,Or.inl ⟨K,x,od,nn,by have:=HRT.out;rwa [show t.data.toList=[] by rw[Lib.toList_data] at ht;exact List.isEmpty_iff.1 ht] at this,rfl⟩⟩
   clear FNO HRT
   have r0:=X2.out.1.1 0 _ rfl
   have r1:=X2.out.1.1 1 _ rfl
   have r2:=X2.out.1.1 2 _ rfl
   have r3:=X2.out.1.1 3 _ rfl
   have r4:=X2.out.1.1 4 _ rfl
   have r5:=X2.out.1.1 5 _ rfl
   have r6:=X2.out.1.1 6 _ rfl
   have r7:=X2.out.1.1 7 _ rfl
   have r8:=X2.out.1.1 8 _ rfl
   have r9:=X2.out.1.1 9 _ rfl
   have r10:=X2.out.1.1 10 _ rfl
   have r11:=X2.out.1.1 11 _ rfl
   have r12:=X2.out.1.1 12 _ rfl
   have r13:=X2.out.1.1 13 _ rfl
   have fz:=X2.out.1.2.1
   have q0:=X2.out.2.1.1 0 _ rfl
   have fq:=X2.out.2.1.2.1
   have nh:¬h=h+1:=by omega
   obtain ⟨W9,hW9,X9⟩:∃W9,W9=(((((((((((((((W2).setCell ⟨h,0,none⟩ (Ii Jj K)).setCell ⟨h,1,none⟩ (Ii Jj x.k)).setCell ⟨h,2,none⟩ (Ii Jj x.i)).setCell ⟨h,3,none⟩ (Ii Jj x.t)).setCell ⟨h,4,none⟩ (Ii Jj x.m)).setCell ⟨h,5,none⟩ (Ii Jj x.r)).setCell ⟨h,6,none⟩ (Ii Jj od.id)).setCell ⟨h,7,none⟩ (Ii Jj od.src)).setCell ⟨h,8,none⟩ (Ii Jj od.dst)).setCell ⟨h,9,none⟩ (Ii Jj od.amount)).setCell ⟨h,10,none⟩ (Ii Jj od.first)).setCell ⟨h,11,none⟩ (Ii Jj od.every)).setCell ⟨h,12,none⟩ (Ii Jj od.times)).setCell ⟨h,13,none⟩ (Ii Jj nn)).setCell ⟨h+1,0,none⟩ (.bool true)/\Hid (ah W9 h (bl K x od nn)/\ah W9 (h+1) [.bool true]/\Below h W2 W9):=⟨_,rfl,(((((((((((((((X2.out.1).set 0 (Ii Jj K)).set 1 (Ii Jj x.k)).set 2 (Ii Jj x.i)).set 3 (Ii Jj x.t)).set 4 (Ii Jj x.m)).set 5 (Ii Jj x.r)).set 6 (Ii Jj od.id)).set 7 (Ii Jj od.src)).set 8 (Ii Jj od.dst)).set 9 (Ii Jj od.amount)).set 10 (Ii Jj od.first)).set 11 (Ii Jj od.every)).set 12 (Ii Jj od.times)).set 13 (Ii Jj nn)).far (by omega) 0 (.bool true),(((((((((((((((X2.out.2.1).far (by omega) 0 (Ii Jj K)).far (by omega) 1 (Ii Jj x.k)).far (by omega) 2 (Ii Jj x.i)).far (by omega) 3 (Ii Jj x.t)).far (by omega) 4 (Ii Jj x.m)).far (by omega) 5 (Ii Jj x.r)).far (by omega) 6 (Ii Jj od.id)).far (by omega) 7 (Ii Jj od.src)).far (by omega) 8 (Ii Jj od.dst)).far (by omega) 9 (Ii Jj od.amount)).far (by omega) 10 (Ii Jj od.first)).far (by omega) 11 (Ii Jj od.every)).far (by omega) 12 (Ii Jj od.times)).far (by omega) 13 (Ii Jj nn)).set 0 (.bool true),((((((((((((((((Below.refl h W2)).setCell (p:=⟨h,0,none⟩) (Nf _) (Ii Jj K)).setCell (p:=⟨h,1,none⟩) (Nf _) (Ii Jj x.k)).setCell (p:=⟨h,2,none⟩) (Nf _) (Ii Jj x.i)).setCell (p:=⟨h,3,none⟩) (Nf _) (Ii Jj x.t)).setCell (p:=⟨h,4,none⟩) (Nf _) (Ii Jj x.m)).setCell (p:=⟨h,5,none⟩) (Nf _) (Ii Jj x.r)).setCell (p:=⟨h,6,none⟩) (Nf _) (Ii Jj od.id)).setCell (p:=⟨h,7,none⟩) (Nf _) (Ii Jj od.src)).setCell (p:=⟨h,8,none⟩) (Nf _) (Ii Jj od.dst)).setCell (p:=⟨h,9,none⟩) (Nf _) (Ii Jj od.amount)).setCell (p:=⟨h,10,none⟩) (Nf _) (Ii Jj od.first)).setCell (p:=⟨h,11,none⟩) (Nf _) (Ii Jj od.every)).setCell (p:=⟨h,12,none⟩) (Nf _) (Ii Jj od.times)).setCell (p:=⟨h,13,none⟩) (Nf _) (Ii Jj nn)).setCell (p:=⟨h+1,0,none⟩) (by show h<=h+1;omega) (.bool true)⟩
   have HW9:Hid (W9=_):=hW9
   clear hW9
   go_wp2_with (go_at_call 58;refine (dY _ _).mono ?_;rintro e w3 ⟨rfl,hw3⟩;subst w3)
   rw[←HW9.out]
   clear HW9 fz q0 fq nh r0 r1 r2 r3 r4 r5 r6 r7 r8 r9 r10 r11 r12 r13
   refine leaves_cons (f:=71) (args:=#[.pointer (some ⟨h,0,none⟩),.pointer (some ⟨h+1,0,none⟩)]) (by simp) (by simp[go_sem]) ?_
   refine (lL ⟨h,0,none⟩ ⟨h+1,0,none⟩ _).mono ?_
   rintro e u' w9 ⟨rfl,rfl,hw9⟩
   subst w9
   have FJ:Hid (dP w s (.returned (.tuple #[.agg (bl K x od nn).toArray,.bool true])) W9):=FYES.out W9 X9.out.2.2
   have r0:=X9.out.1.1 0 _ rfl
   have r1:=X9.out.1.1 1 _ rfl
   have r2:=X9.out.1.1 2 _ rfl
   have r3:=X9.out.1.1 3 _ rfl
   have r4:=X9.out.1.1 4 _ rfl
   have r5:=X9.out.1.1 5 _ rfl
   have r6:=X9.out.1.1 6 _ rfl
   have r7:=X9.out.1.1 7 _ rfl
   have r8:=X9.out.1.1 8 _ rfl
   have r9:=X9.out.1.1 9 _ rfl
   have r10:=X9.out.1.1 10 _ rfl
   have r11:=X9.out.1.1 11 _ rfl
   have r12:=X9.out.1.1 12 _ rfl
   have r13:=X9.out.1.1 13 _ rfl
   have q0:=X9.out.2.1.1 0 _ rfl
   simp[Leaves,settle,results,Tryz.results34,go_sem,r0,r1,r2,r3,r4,r5,r6,r7,r8,r9,r10,r11,r12,r13,q0]
   exact FJ.out
  ·have hto:t.toList.isEmpty=false:=by simpa using ht
   have FI:Hid (∀w9,Below h W2 w9->dP w s (.returned (.tuple #[.agg (bZ 0).toArray,.bool false])) w9):=fun w9 hb=>FNO.out (fun K' x' o' n' hh=>by
    have:=sw HRT.out hh
    rw[Lib.toList_data,this] at hto
    simp at hto) W2 w9 X2.out.2.2.1 hb
   clear FNO HRT ht
   go_wp2_with (go_at_call 58;refine (dO _ _ X2.out.2.2.2.2).mono ?_;rintro e w3 ⟨⟨t9,p9,rfl⟩,rfl⟩)
   refine leaves_cons (f:=71) (args:=#[.pointer (some ⟨h,0,none⟩),.pointer (some ⟨h+1,0,none⟩)]) (by simp) (by simp[go_sem]) ?_
   refine (eL h (h+1) t9 p9 [] _ false _ X2.out.1 rfl X2.out.2.1 (by omega)).mono ?_
   rintro e u' w9 ⟨rfl,rfl,V9,Q9,B9⟩
   have FJ:Hid (dP w s (.returned (.tuple #[.agg (bZ 0).toArray,.bool false])) w9):=FI.out w9 (B9 h (Nf _) (by omega) (by have:=X2.out.1.2.2;omega))
   have r0:=V9.1 0 _ rfl
   have r1:=V9.1 1 _ rfl
   have r2:=V9.1 2 _ rfl
   have r3:=V9.1 3 _ rfl
   have r4:=V9.1 4 _ rfl
   have r5:=V9.1 5 _ rfl
   have r6:=V9.1 6 _ rfl
   have r7:=V9.1 7 _ rfl
   have r8:=V9.1 8 _ rfl
   have r9:=V9.1 9 _ rfl
   have r10:=V9.1 10 _ rfl
   have r11:=V9.1 11 _ rfl
   have r12:=V9.1 12 _ rfl
   have r13:=V9.1 13 _ rfl
   have q0:=Q9.1 0 _ rfl
   clear V9 Q9 B9
   simp[Leaves,settle,results,Tryz.results34,go_sem,r0,r1,r2,r3,r4,r5,r6,r7,r8,r9,r10,r11,r12,r13,q0]
   exact FJ.out
 ·have FI:Hid (∀w9,Below h w1 w9->dP w s (.returned (.tuple #[.agg (bZ 0).toArray,.bool false])) w9):=fun w9 hb=>FNO.out (fun K x o n=>hR K x o n []) w1 w9 X1.out.2.2 hb
  clear FNO hR
  refine leaves_cons (f:=71) (args:=#[.pointer (some ⟨h,0,none⟩),.pointer (some ⟨h+1,0,none⟩)]) (by simp) (by simp[go_sem]) ?_
  refine (eL h (h+1) t9 p9 [] _ false _ X1.out.1 rfl X1.out.2.1 (by omega)).mono ?_
  rintro e u' w9 ⟨rfl,rfl,V9,Q9,B9⟩
  have FJ:Hid (dP w s (.returned (.tuple #[.agg (bZ 0).toArray,.bool false])) w9):=FI.out w9 (B9 h (Nf _) (by omega) (by have:=X1.out.1.2.2;omega))
  have r0:=V9.1 0 _ rfl
  have r1:=V9.1 1 _ rfl
  have r2:=V9.1 2 _ rfl
  have r3:=V9.1 3 _ rfl
  have r4:=V9.1 4 _ rfl
  have r5:=V9.1 5 _ rfl
  have r6:=V9.1 6 _ rfl
  have r7:=V9.1 7 _ rfl
  have r8:=V9.1 8 _ rfl
  have r9:=V9.1 9 _ rfl
  have r10:=V9.1 10 _ rfl
  have r11:=V9.1 11 _ rfl
  have r12:=V9.1 12 _ rfl
  have r13:=V9.1 13 _ rfl
  have q0:=Q9.1 0 _ rfl
  clear V9 Q9 B9
  simp[Leaves,settle,results,Tryz.results34,go_sem,r0,r1,r2,r3,r4,r5,r6,r7,r8,r9,r10,r11,r12,r13,q0]
  exact FJ.out
end Go.Proofs.YtjhgchlfpolkcaaGreatDoor
