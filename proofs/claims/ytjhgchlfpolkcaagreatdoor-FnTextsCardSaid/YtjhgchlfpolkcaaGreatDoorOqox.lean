/- l6Op of the specification. -/
import Derived.Test.YtjhgchlfpolkcaaGreatDoorRanPx
import Derived.Deep.DeepCutAuto
namespace Go.Proofs.YtjhgchlfpolkcaaGreatDoor
open Value renaming int → Ii,slice → Sl
open IntKind renaming i64 → Jj
open Nat renaming le_refl → Nf
open Go.RowKit
set_option maxRecDepth 8000
set_option maxHeartbeats 4000000 in
theorem lz (wd:ByteArray) (b c:Nat) (p0 p1 p2 p3 p4 p5 p6:Int) (w:World) (h3:wd.toList=[111,114,100,101,114])
  (hb:b<w.heap.size) (d0:w.cell? ⟨b,0,none⟩=some (Ii Jj p0)) (d1:w.cell? ⟨b,1,none⟩=some (Ii Jj p1)) (d2:w.cell? ⟨b,2,none⟩=some (Ii Jj p2)) (d3:w.cell? ⟨b,3,none⟩=some (Ii Jj p3)) (d4:w.cell? ⟨b,4,none⟩=some (Ii Jj p4)) (d5:w.cell? ⟨b,5,none⟩=some (Ii Jj p5)) (d6:w.cell? ⟨b,6,none⟩=some (Ii Jj p6)):
  Calls Tryz.prog 52 #[.string wd,Sl (some ⟨b,0,none⟩) 7 c] w fun e w'=>dk w 20 ⟨0,0,0,0,0⟩ ⟨p0,p1,p2,p3,p4,p5,p6⟩ 0 e w':=by
 obtain ⟨W0,hW0,X0,HB⟩:∃W0,W0=(w.alloc (.cells (bZ 0).toArray 37)).alloc (.cells (bZ 19).toArray 37)/\Hid (fW W0 w.heap.size)/\Hid (Below w.heap.size w W0):=⟨_,rfl,fW.new w,((Below.refl _ _).alloc (Nf _) _).alloc (by simp) _⟩
 have HW0:Hid (W0=_):=hW0
 clear hW0
 go_enter Tryz.func52,Tryz.ntmps52
 go_wp2_with fail
 rw[←HW0.out]
 refine (dx wd _).mono ?_
 rintro e w1 ⟨k,hK,hk,rfl,B1⟩
 have X1:Hid (fW w1 w.heap.size):=X0.out.kept B1
 have BB:Hid (Below w.heap.size w w1):=HB.out.trans (B1.mono HB.out.size)
 obtain ⟨h,hh⟩:∃h,w.heap.size=h:=⟨_,rfl⟩
 have HH:Hid (w.heap.size=h):=hh
 rw[hh] at hb X1 BB ⊢
 clear hK B1 X0 HB HW0 hh
 have x1:=X1.out.1.1 1 _ rfl
 have fz:=X1.out.1.2.1
 go_upto_region 4 with fail
 obtain ⟨W2,hW2,R2⟩:∃W2,W2=w1.setCell ⟨h+1,1,none⟩ (Ii Jj k)/\Hid (ah W2 h (bZ 0)/\Below h w W2/\∀p:Addr,p.block<h->W2.cell? p=w1.cell? p):=
  ⟨_,rfl,X1.out.2.far (by omega) _ _,BB.out.setCell (p:=⟨h+1,1,none⟩) (by show h<=h+1;omega) _,fun p hp=>World.cell?_setCell_other _ _ _ _ (by intro e;have:=congrArg Addr.block e;simp at this;omega)⟩
 rw[←hW2]
 clear hW2 x1 fz
 have fz:=R2.out.1.2.1
 have e0:W2.cell? ⟨b,0,none⟩=some (Ii Jj p0):=(R2.out.2.2 ⟨b,0,none⟩ hb).trans ((BB.out.cell (p:=⟨b,0,none⟩) hb).trans d0)
 have e1:W2.cell? ⟨b,1,none⟩=some (Ii Jj p1):=(R2.out.2.2 ⟨b,1,none⟩ hb).trans ((BB.out.cell (p:=⟨b,1,none⟩) hb).trans d1)
 have e2:W2.cell? ⟨b,2,none⟩=some (Ii Jj p2):=(R2.out.2.2 ⟨b,2,none⟩ hb).trans ((BB.out.cell (p:=⟨b,2,none⟩) hb).trans d2)
 have e3:W2.cell? ⟨b,3,none⟩=some (Ii Jj p3):=(R2.out.2.2 ⟨b,3,none⟩ hb).trans ((BB.out.cell (p:=⟨b,3,none⟩) hb).trans d3)
 have e4:W2.cell? ⟨b,4,none⟩=some (Ii Jj p4):=(R2.out.2.2 ⟨b,4,none⟩ hb).trans ((BB.out.cell (p:=⟨b,4,none⟩) hb).trans d4)
 have e5:W2.cell? ⟨b,5,none⟩=some (Ii Jj p5):=(R2.out.2.2 ⟨b,5,none⟩ hb).trans ((BB.out.cell (p:=⟨b,5,none⟩) hb).trans d5)
 have e6:W2.cell? ⟨b,6,none⟩=some (Ii Jj p6):=(R2.out.2.2 ⟨b,6,none⟩ hb).trans ((BB.out.cell (p:=⟨b,6,none⟩) hb).trans d6)
 clear d0 d1 d2 d3 d4 d5 d6
 have r0:=R2.out.1.1 0 _ rfl
 have r1:=R2.out.1.1 1 _ rfl
 have r2:=R2.out.1.1 2 _ rfl
 have r3:=R2.out.1.1 3 _ rfl
 have r4:=R2.out.1.1 4 _ rfl
 have r5:=R2.out.1.1 5 _ rfl
 have r6:=R2.out.1.1 6 _ rfl
 have r7:=R2.out.1.1 7 _ rfl
 have r8:=R2.out.1.1 8 _ rfl
 have r9:=R2.out.1.1 9 _ rfl
 have r10:=R2.out.1.1 10 _ rfl
 have r11:=R2.out.1.1 11 _ rfl
 have r12:=R2.out.1.1 12 _ rfl
 have r13:=R2.out.1.1 13 _ rfl
 have FI:Hid (∀W,Below h w W->dk w 20 ⟨0,0,0,0,0⟩ ⟨p0,p1,p2,p3,p4,p5,p6⟩ 0 (.returned (.agg [Ii Jj 20,Ii Jj 0,Ii Jj 0,Ii Jj 0,Ii Jj 0,Ii Jj 0,Ii Jj p0,Ii Jj p1,Ii Jj p2,Ii Jj p3,Ii Jj p4,Ii Jj p5,Ii Jj p6,Ii Jj 0].toArray)) W):=fun W hb=>⟨rfl,HH.out ▸ hb⟩
 clear BB X1
 go_wp2_with fail
 go_region
 all_goals go_wp2
 all_goals refine bodyPost_ret (v:=.agg #[Ii Jj 20,Ii Jj 0,Ii Jj 0,Ii Jj 0,Ii Jj 0,Ii Jj 0,Ii Jj p0,Ii Jj p1,Ii Jj p2,Ii Jj p3,Ii Jj p4,Ii Jj p5,Ii Jj p6,Ii Jj 0]) (by simp[results,Tryz.results52,go_sem,r0,r1,r2,r3,r4,r5,r6,r7,r8,r9,r10,r11,r12,r13]) rfl ?_
 all_goals exact FI.out _ (((((((((((((((R2.out.2.1.setCell (p:=⟨h,0,none⟩) (Nf _) _).setCell (p:=⟨h,1,none⟩) (Nf _) _).setCell (p:=⟨h,2,none⟩) (Nf _) _).setCell (p:=⟨h,3,none⟩) (Nf _) _).setCell (p:=⟨h,4,none⟩) (Nf _) _).setCell (p:=⟨h,5,none⟩) (Nf _) _).setCell (p:=⟨h,6,none⟩) (Nf _) _).setCell (p:=⟨h,7,none⟩) (Nf _) _).setCell (p:=⟨h,8,none⟩) (Nf _) _).setCell (p:=⟨h,9,none⟩) (Nf _) _).setCell (p:=⟨h,10,none⟩) (Nf _) _).setCell (p:=⟨h,11,none⟩) (Nf _) _).setCell (p:=⟨h,12,none⟩) (Nf _) _).setCell (p:=⟨h,13,none⟩) (Nf _) _).drew)
end Go.Proofs.YtjhgchlfpolkcaaGreatDoor
