/- l6Op of the specification, by the numbers behind a word. -/
import Derived.Test.YtjhgchlfpolkcaaGreatDoorRanPx
import Derived.Deep.DeepCutAuto
namespace Go.Proofs.YtjhgchlfpolkcaaGreatDoor
open Value renaming int → Ii,slice → Sl
open IntKind renaming i64 → Jj
open Nat renaming le_refl → Nf
open Go.RowKit
set_option maxRecDepth 8000
set_option maxHeartbeats 4000000 in
theorem rx (wd:ByteArray) (b c:Nat) (p q r s:Int) (w:World)
  (hb:b<w.heap.size) (d0:w.cell? ⟨b,0,none⟩=some (Ii Jj p)) (d1:w.cell? ⟨b,1,none⟩=some (Ii Jj q)) (d2:w.cell? ⟨b,2,none⟩=some (Ii Jj r)) (d3:w.cell? ⟨b,3,none⟩=some (Ii Jj s)):
  Calls Tryz.prog 52 #[.string wd,Sl (some ⟨b,0,none⟩) 4 c] w fun e w'=>∃k:Nat,aQ wd k/\dk w 19 ⟨k,p,q,r,s⟩ ⟨0,0,0,0,0,0,0⟩ 0 e w':=by
 obtain ⟨W0,hW0,X0,HB⟩:∃W0,W0=(w.alloc (.cells (bZ 0).toArray 37)).alloc (.cells (bZ 19).toArray 37)/\Hid (fW W0 w.heap.size)/\Hid (Below w.heap.size w W0):=⟨_,rfl,fW.new w,((Below.refl _ _).alloc (Nf _) _).alloc (by simp) _⟩
 have HW0:Hid (W0=_):=hW0
 clear hW0
 go_enter Tryz.func52,Tryz.ntmps52
 go_wp2_with fail
 rw[←HW0.out]
 refine (dx wd _).mono ?_
 rintro e w1 ⟨k,hK,hk,rfl,B1⟩
 have X1:Hid (fW w1 w.heap.size):=X0.out.kept B1
 have BB:Hid (Below w.heap.size w w1/\aQ wd k):=⟨HB.out.trans (B1.mono HB.out.size),hK⟩
 obtain ⟨h,hh⟩:∃h,w.heap.size=h:=⟨_,rfl⟩
 have HH:Hid (w.heap.size=h):=hh
 rw[hh] at hb X1 ⊢
 clear hK B1 X0 HB HW0
 have x1:=X1.out.1.1 1 _ rfl
 have fz:=X1.out.1.2.1
 go_upto_region 4 with fail
 obtain ⟨W2,hW2,R2⟩:∃W2,W2=w1.setCell ⟨h+1,1,none⟩ (Ii Jj k)/\Hid (ah W2 (h+1) [Ii Jj 19,Ii Jj k,Ii Jj 0,Ii Jj 0,Ii Jj 0,Ii Jj 0,Ii Jj 0,Ii Jj 0,Ii Jj 0,Ii Jj 0,Ii Jj 0,Ii Jj 0,Ii Jj 0,Ii Jj 0]/\ah W2 h (bZ 0)/\Below h w W2/\∀p:Addr,p.block<h->W2.cell? p=w1.cell? p):=
  ⟨_,rfl,X1.out.1.set 1 _,X1.out.2.far (by omega) _ _,(HH.out ▸ BB.out.1).setCell (p:=⟨h+1,1,none⟩) (by show h<=h+1;omega) _,fun p hp=>World.cell?_setCell_other _ _ _ _ (by intro e;have:=congrArg Addr.block e;simp at this;omega)⟩
 rw[←hW2]
 clear hW2 x1 fz
 have fz:=R2.out.1.2.1
 rw[HH.out] at BB
 have e0:W2.cell? ⟨b,0,none⟩=some (Ii Jj p):=(R2.out.2.2.2 ⟨b,0,none⟩ hb).trans ((BB.out.1.cell (p:=⟨b,0,none⟩) hb).trans d0)
 have e1:W2.cell? ⟨b,1,none⟩=some (Ii Jj q):=(R2.out.2.2.2 ⟨b,1,none⟩ hb).trans ((BB.out.1.cell (p:=⟨b,1,none⟩) hb).trans d1)
 have e2:W2.cell? ⟨b,2,none⟩=some (Ii Jj r):=(R2.out.2.2.2 ⟨b,2,none⟩ hb).trans ((BB.out.1.cell (p:=⟨b,2,none⟩) hb).trans d2)
 have e3:W2.cell? ⟨b,3,none⟩=some (Ii Jj s):=(R2.out.2.2.2 ⟨b,3,none⟩ hb).trans ((BB.out.1.cell (p:=⟨b,3,none⟩) hb).trans d3)
 clear d0 d1 d2 d3
 have y2:=R2.out.1.1 2 _ rfl
 have y3:=R2.out.1.1 3 _ rfl
 have y4:=R2.out.1.1 4 _ rfl
 have y5:=R2.out.1.1 5 _ rfl
 have nb:¬b=h+1:=by omega
 have nb':¬h+1=b:=by omega
 go_cut[13] (fun s13 wx=>s13=.bool false/\wx=W2)
 case first=>
  by_cases q:wd.toList=[100,97,121]
  all_goals go_wp2_with fail
  all_goals go_meet
  all_goals exact ⟨rfl,rfl⟩
 obtain ⟨rfl,hwc⟩:=hcut
 subst hwc
 go_upto_region 6 with fail
 go_cut[22] (fun s13 wx=>s13=.bool false/\wx=wc)
 case first=>
  by_cases q:wd.toList=[99,97,110,99,101,108]
  all_goals go_wp2_with fail
  all_goals go_meet
  all_goals exact ⟨rfl,rfl⟩
 obtain ⟨rfl,hwc⟩:=hcut
 subst hwc
 go_upto_region 8 with fail
 go_cut[34] (fun s13 wx=>s13=.bool false/\wx=wc)
 case first=>
  by_cases q:wd.toList=[111,114,100,101,114]
  all_goals go_wp2_with fail
  all_goals go_meet
  all_goals exact ⟨rfl,rfl⟩
 obtain ⟨rfl,hwc⟩:=hcut
 subst hwc
 all_goals go_upto_region 27 with fail
 all_goals (
  obtain ⟨W3,hW3,R3⟩:∃W3,W3=((((wc).setCell ⟨h+1,2,none⟩ (Ii Jj p)).setCell ⟨h+1,3,none⟩ (Ii Jj q)).setCell ⟨h+1,4,none⟩ (Ii Jj r)).setCell ⟨h+1,5,none⟩ (Ii Jj s)/\Hid (ah W3 (h+1) [Ii Jj 19,Ii Jj (k:Int),Ii Jj p,Ii Jj q,Ii Jj r,Ii Jj s,Ii Jj 0,Ii Jj 0,Ii Jj 0,Ii Jj 0,Ii Jj 0,Ii Jj 0,Ii Jj 0,Ii Jj 0]/\ah W3 h (bZ 0)/\Below h w W3):=
   ⟨_,rfl,((((R2.out.1.set 2 _).set 3 _).set 4 _).set 5 _),((((R2.out.2.1.far (by omega) _ _).far (by omega) _ _).far (by omega) _ _).far (by omega) _ _),((((R2.out.2.2.1.setCell (p:=⟨h+1,2,none⟩) (by show h<=h+1;omega) _).setCell (p:=⟨h+1,3,none⟩) (by show h<=h+1;omega) _).setCell (p:=⟨h+1,4,none⟩) (by show h<=h+1;omega) _).setCell (p:=⟨h+1,5,none⟩) (by show h<=h+1;omega) _)⟩
  rw[←hW3]
  have HK:Hid (aQ wd k):=BB.out.2
  clear hW3 R2 fz BB X1 e0 y2 e1 y3 e2 y4 e3 y5
  have z0:=R3.out.1.1 0 _ rfl
  have z1:=R3.out.1.1 1 _ rfl
  have z2:=R3.out.1.1 2 _ rfl
  have z3:=R3.out.1.1 3 _ rfl
  have z4:=R3.out.1.1 4 _ rfl
  have z5:=R3.out.1.1 5 _ rfl
  have z6:=R3.out.1.1 6 _ rfl
  have z7:=R3.out.1.1 7 _ rfl
  have z8:=R3.out.1.1 8 _ rfl
  have z9:=R3.out.1.1 9 _ rfl
  have z10:=R3.out.1.1 10 _ rfl
  have z11:=R3.out.1.1 11 _ rfl
  have z12:=R3.out.1.1 12 _ rfl
  have z13:=R3.out.1.1 13 _ rfl
  have r0:=R3.out.2.1.1 0 _ rfl
  have r1:=R3.out.2.1.1 1 _ rfl
  have r2:=R3.out.2.1.1 2 _ rfl
  have r3:=R3.out.2.1.1 3 _ rfl
  have r4:=R3.out.2.1.1 4 _ rfl
  have r5:=R3.out.2.1.1 5 _ rfl
  have r6:=R3.out.2.1.1 6 _ rfl
  have r7:=R3.out.2.1.1 7 _ rfl
  have r8:=R3.out.2.1.1 8 _ rfl
  have r9:=R3.out.2.1.1 9 _ rfl
  have r10:=R3.out.2.1.1 10 _ rfl
  have r11:=R3.out.2.1.1 11 _ rfl
  have r12:=R3.out.2.1.1 12 _ rfl
  have r13:=R3.out.2.1.1 13 _ rfl
  have fz:=R3.out.2.1.2.1
  have nh:¬h=h+1:=by omega
  have FI:Hid (∀W,Below h w W->dk w 19 ⟨k,p,q,r,s⟩ ⟨0,0,0,0,0,0,0⟩ 0 (.returned (.agg [Ii Jj 19,Ii Jj (k:Int),Ii Jj p,Ii Jj q,Ii Jj r,Ii Jj s,Ii Jj 0,Ii Jj 0,Ii Jj 0,Ii Jj 0,Ii Jj 0,Ii Jj 0,Ii Jj 0,Ii Jj 0].toArray)) W):=fun W hb=>⟨rfl,HH.out ▸ hb⟩)
 all_goals go_wp2
 all_goals refine bodyPost_ret (v:=.agg #[Ii Jj 19,Ii Jj (k:Int),Ii Jj p,Ii Jj q,Ii Jj r,Ii Jj s,Ii Jj 0,Ii Jj 0,Ii Jj 0,Ii Jj 0,Ii Jj 0,Ii Jj 0,Ii Jj 0,Ii Jj 0]) (by simp[results,Tryz.results52,go_sem,r0,r1,r2,r3,r4,r5,r6,r7,r8,r9,r10,r11,r12,r13]) rfl ?_
 all_goals exact ⟨k,HK.out,FI.out _ ((((((((((((((R3.out.2.2.setCell (p:=⟨h,0,none⟩) (Nf _) _).setCell (p:=⟨h,1,none⟩) (Nf _) _).setCell (p:=⟨h,2,none⟩) (Nf _) _).setCell (p:=⟨h,3,none⟩) (Nf _) _).setCell (p:=⟨h,4,none⟩) (Nf _) _).setCell (p:=⟨h,5,none⟩) (Nf _) _).setCell (p:=⟨h,6,none⟩) (Nf _) _).setCell (p:=⟨h,7,none⟩) (Nf _) _).setCell (p:=⟨h,8,none⟩) (Nf _) _).setCell (p:=⟨h,9,none⟩) (Nf _) _).setCell (p:=⟨h,10,none⟩) (Nf _) _).setCell (p:=⟨h,11,none⟩) (Nf _) _).setCell (p:=⟨h,12,none⟩) (Nf _) _).setCell (p:=⟨h,13,none⟩) (Nf _) _)⟩
end Go.Proofs.YtjhgchlfpolkcaaGreatDoor
