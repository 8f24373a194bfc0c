/- ReadBOp of the specification. -/
import Derived.Test.YtjhgchlfpolkcaaGreatDoorSrpx
namespace Go.Proofs.YtjhgchlfpolkcaaGreatDoor
open Value renaming int → Ii,slice → Sl
open IntKind renaming i64 → Jj
open Nat renaming le_refl → Nf
open Go.RowKit
set_option maxRecDepth 8000
theorem gZ {s:ByteArray} (h:∀K x o n,¬(aA K x o n/\dI K x o n=s)):∀K x o n,¬aY s.data.toList K x o n []:=fun K x o n hh=>h K x o n (er.1 hh)
set_option maxHeartbeats 4000000 in
theorem jF (s:ByteArray) (hs:s.size<=1048576) (w:World):Calls Tryz.prog 18 #[.string s] w fun e w'=>dP w s e w':=by
 obtain ⟨h,hh⟩:∃h,w.heap.size=h:=⟨_,rfl⟩
 have HH:Hid (w.heap.size=h):=hh
 obtain ⟨W0,hW0,X0⟩:∃W0,W0=w.alloc (.cells (bZ 0).toArray 37)/\Hid (ah W0 h (bZ 0)/\Below h w W0):=⟨_,rfl,by rw[←hh];exact ah.new _ _ _,by rw[←hh];exact (Below.refl _ _).alloc (Nf _) _⟩
 have HW0:Hid (W0=_):=hW0
 clear hW0
 go_enter Tryz.func18,Tryz.ntmps18
 go_wp2_with fail
 rw[←HW0.out]
 clear HW0 hh
 refine (iQ 32 s W0 hs).mono ?_
 rintro e w1 ⟨wd,y,b,rfl,hcut,hx,hy,_,B1⟩
 have X1:Hid (ah w1 h (bZ 0)/\Below h w w1):=⟨X0.out.1.kept B1 X0.out.1.2.2,X0.out.2.trans (B1.mono (by have:=X0.out.1.2.2;omega))⟩
 have HC:Hid (bF 32 s.data.toList=(wd.data.toList,y.data.toList,b)):=hcut
 have hy':y.size<=1048576:=Nat.le_trans hy hs
 clear hcut hx hy B1 X0
 go_wp2_with fail
 refine (mK y w1 hy').mono ?_
 rintro e w2 ⟨B2,hor⟩
 have X2:Hid (ah w2 h (bZ 0)/\Below h w w2):=⟨X1.out.1.kept B2 X1.out.1.2.2,X1.out.2.trans (B2.mono (by have:=X1.out.1.2.2;omega))⟩
 have HR:Hid (∀K x o n,aA K x o n/\dI K x o n=s->wd=(bm K x o n).1/\bR y.data.toList=some (bm K x o n).2):=by
  rintro K x o n ⟨g1,g2⟩
  obtain ⟨y',b',e1,e2⟩:=kt g1
  rw[g2,HC.out] at e1
  obtain ⟨e3,e4⟩:wd.data.toList=(bm K x o n).1.data.toList/\y.data.toList=y':=⟨congrArg Prod.fst e1,congrArg (fun z=>z.2.1) e1⟩
  exact ⟨ca e3,by rw[e4];exact e2⟩
 rcases hor with ⟨ns,v,hns,hnl,rfl,I2⟩|⟨hns,rfl⟩
 rotate_left
 ·have FI:Hid (∀W,Below h w W->dP w s (.returned (.tuple #[.agg (bZ 0).toArray,.bool false])) W):=fun W hb=>⟨by rw[HH.out];exact hb,Or.inr ⟨gZ (fun K x o n hk=>by have:=(HR.out K x o n hk).2;rw[hns] at this;cases this),rfl⟩⟩
  clear B2 X1 HR HC hns
  go_wp2_with fail
  have CO:=kz wd none 0 [] w2 (Or.inl rfl)
  refine CO.mono ?_
  rintro e w3 ⟨K,x,od,nn,_,rfl,B3⟩
  have X3:Hid (ah w3 h (bZ 0)/\Below h w w3):=⟨X2.out.1.kept B3 X2.out.1.2.2,X2.out.2.trans (B3.mono (by have:=X2.out.1.2.2;omega))⟩
  clear CO B3 X2
  obtain ⟨V,hV,XV⟩:∃V,V=w3.alloc (.cells (bl K x od nn).toArray 37)/\Hid (ah V h (bZ 0)/\Below h w V):=⟨_,rfl,X3.out.1.kept ((Below.refl _ _).alloc (Nf _) _) X3.out.1.2.2,X3.out.2.alloc (by have:=X3.out.1.2.2;omega) _⟩
  have HV:Hid (V=_):=hV
  clear hV X3
  go_upto_region 4 with fail
  rw[←HV.out]
  clear HV
  have r0:=XV.out.1.1 0 _ rfl
  have r1:=XV.out.1.1 1 _ rfl
  have r2:=XV.out.1.1 2 _ rfl
  have r3:=XV.out.1.1 3 _ rfl
  have r4:=XV.out.1.1 4 _ rfl
  have r5:=XV.out.1.1 5 _ rfl
  have r6:=XV.out.1.1 6 _ rfl
  have r7:=XV.out.1.1 7 _ rfl
  have r8:=XV.out.1.1 8 _ rfl
  have r9:=XV.out.1.1 9 _ rfl
  have r10:=XV.out.1.1 10 _ rfl
  have r11:=XV.out.1.1 11 _ rfl
  have r12:=XV.out.1.1 12 _ rfl
  have r13:=XV.out.1.1 13 _ rfl
  have fz:=XV.out.1.2.1
  go_wp2
  refine bodyPost_ret (v:=.tuple #[.agg #[Ii Jj 0,Ii Jj 0,Ii Jj 0,Ii Jj 0,Ii Jj 0,Ii Jj 0,Ii Jj 0,Ii Jj 0,Ii Jj 0,Ii Jj 0,Ii Jj 0,Ii Jj 0,Ii Jj 0,Ii Jj 0],.bool false]) (by simp[results,Tryz.results18,go_sem,r0,r1,r2,r3,r4,r5,r6,r7,r8,r9,r10,r11,r12,r13]) rfl ?_
  exact FI.out _ ((((((((((((((XV.out.2.setCell (p:=⟨h,0,none⟩) (Nf _) _).setCell (p:=⟨h,1,none⟩) (Nf _) _).setCell (p:=⟨h,2,none⟩) (Nf _) _).setCell (p:=⟨h,3,none⟩) (Nf _) _).setCell (p:=⟨h,4,none⟩) (Nf _) _).setCell (p:=⟨h,5,none⟩) (Nf _) _).setCell (p:=⟨h,6,none⟩) (Nf _) _).setCell (p:=⟨h,7,none⟩) (Nf _) _).setCell (p:=⟨h,8,none⟩) (Nf _) _).setCell (p:=⟨h,9,none⟩) (Nf _) _).setCell (p:=⟨h,10,none⟩) (Nf _) _).setCell (p:=⟨h,11,none⟩) (Nf _) _).setCell (p:=⟨h,12,none⟩) (Nf _) _).setCell (p:=⟨h,13,none⟩) (Nf _) _)
 ·obtain ⟨g,cap,hv,hg1,hg2⟩:=I2.shape
  subst hv
  have HI:Hid (f7 w2 w1.heap.size (Sl (some ⟨g,0,none⟩) ns.length cap) ns):=I2
  have HNS:Hid (bR y.data.toList=some ns):=hns
  have CO:=kz wd (some ⟨g,0,none⟩) cap ns w2 (Or.inr ⟨g,rfl,hg2,fun i hi=>by
   rw[World.ownsRow.cellAt HI.out.1 i (by omega)]
   simp[hi]⟩)
  clear B2 X1 HC hns I2 hnl
  obtain ⟨m,hm⟩:∃m,ns.length=m:=⟨_,rfl⟩
  rw[hm] at CO
  rw[hm]
  clear hm HI
  go_wp2_with fail
  refine CO.mono ?_
  rintro e w3 ⟨K,x,od,nn,hop,rfl,B3⟩
  have X3:Hid (ah w3 h (bZ 0)/\Below h w w3):=⟨X2.out.1.kept B3 X2.out.1.2.2,X2.out.2.trans (B3.mono (by have:=X2.out.1.2.2;omega))⟩
  have HO:Hid (tb wd ns K x od nn):=hop
  clear CO B3 X2 hop
  obtain ⟨V,hV,XV⟩:∃V,V=w3.alloc (.cells (bl K x od nn).toArray 37)/\Hid (ah V h (bZ 0)/\Below h w V/\ah V w3.heap.size (bl K x od nn)/\h<w3.heap.size):=⟨_,rfl,X3.out.1.kept ((Below.refl _ _).alloc (Nf _) _) X3.out.1.2.2,X3.out.2.alloc (by have:=X3.out.1.2.2;omega) _,ah.new _ _ _,X3.out.1.2.2⟩
  have HV:Hid (V=_):=hV
  clear hV X3
  go_upto_region 4 with fail
  rw[←HV.out]
  clear HV
  obtain ⟨R,hRR⟩:∃R,w3.heap.size=R:=⟨_,rfl⟩
  rw[hRR] at XV ⊢
  clear hRR
  have hhR:h<R:=XV.out.2.2.2
  by_cases he:s.toList.isEmpty=true
  ·have FI:Hid (∀W,Below h w W->dP w s (.returned (.tuple #[.agg (bZ 0).toArray,.bool false])) W):=fun W hb=>⟨by rw[HH.out];exact hb,Or.inr ⟨gZ (fun K' x' o' n' hk=>by
    have h1:=(eH hk.1).2
    have h2:=congrArg (fun z:ByteArray=>z.data.toList) hk.2
    rw[Lib.toList_data] at he
    rw[List.isEmpty_iff.1 he] at h2
    unfold dI at h2
    rw[if_pos hk.1,ef,cV] at h2
    exact h1 (List.append_eq_nil_iff.1 h2).1),rfl⟩⟩
   clear HR HO HNS
   have r0:=XV.out.1.1 0 _ rfl
   have r1:=XV.out.1.1 1 _ rfl
   have r2:=XV.out.1.1 2 _ rfl
   have r3:=XV.out.1.1 3 _ rfl
   have r4:=XV.out.1.1 4 _ rfl
   have r5:=XV.out.1.1 5 _ rfl
   have r6:=XV.out.1.1 6 _ rfl
   have r7:=XV.out.1.1 7 _ rfl
   have r8:=XV.out.1.1 8 _ rfl
   have r9:=XV.out.1.1 9 _ rfl
   have r10:=XV.out.1.1 10 _ rfl
   have r11:=XV.out.1.1 11 _ rfl
   have r12:=XV.out.1.1 12 _ rfl
   have r13:=XV.out.1.1 13 _ rfl
   have fz:=XV.out.1.2.1
   go_wp2
   refine bodyPost_ret (v:=.tuple #[.agg #[Ii Jj 0,Ii Jj 0,Ii Jj 0,Ii Jj 0,Ii Jj 0,Ii Jj 0,Ii Jj 0,Ii Jj 0,Ii Jj 0,Ii Jj 0,Ii Jj 0,Ii Jj 0,Ii Jj 0,Ii Jj 0],.bool false]) (by simp[results,Tryz.results18,go_sem,r0,r1,r2,r3,r4,r5,r6,r7,r8,r9,r10,r11,r12,r13]) rfl ?_
   exact FI.out _ ((((((((((((((XV.out.2.1.setCell (p:=⟨h,0,none⟩) (Nf _) _).setCell (p:=⟨h,1,none⟩) (Nf _) _).setCell (p:=⟨h,2,none⟩) (Nf _) _).setCell (p:=⟨h,3,none⟩) (Nf _) _).setCell (p:=⟨h,4,none⟩) (Nf _) _).setCell (p:=⟨h,5,none⟩) (Nf _) _).setCell (p:=⟨h,6,none⟩) (Nf _) _).setCell (p:=⟨h,7,none⟩) (Nf _) _).setCell (p:=⟨h,8,none⟩) (Nf _) _).setCell (p:=⟨h,9,none⟩) (Nf _) _).setCell (p:=⟨h,10,none⟩) (Nf _) _).setCell (p:=⟨h,11,none⟩) (Nf _) _).setCell (p:=⟨h,12,none⟩) (Nf _) _).setCell (p:=⟨h,13,none⟩) (Nf _) _)
  have he':s.toList.isEmpty=false:=by simpa using he
  clear he
  have z0:=XV.out.2.2.1.1 0 _ rfl
  have z1:=XV.out.2.2.1.1 1 _ rfl
  have z2:=XV.out.2.2.1.1 2 _ rfl
  have z3:=XV.out.2.2.1.1 3 _ rfl
  have z4:=XV.out.2.2.1.1 4 _ rfl
  have z5:=XV.out.2.2.1.1 5 _ rfl
  have z6:=XV.out.2.2.1.1 6 _ rfl
  have z7:=XV.out.2.2.1.1 7 _ rfl
  have z8:=XV.out.2.2.1.1 8 _ rfl
  have z9:=XV.out.2.2.1.1 9 _ rfl
  have z10:=XV.out.2.2.1.1 10 _ rfl
  have z11:=XV.out.2.2.1.1 11 _ rfl
  have z12:=XV.out.2.2.1.1 12 _ rfl
  have z13:=XV.out.2.2.1.1 13 _ rfl
  go_wp2_with fail
  refine (ln K nn x od V).mono ?_
  rintro e w4 ⟨rfl,B4⟩
  have X4:Hid (ah w4 h (bZ 0)/\Below h w w4/\ah w4 R (bl K x od nn)):=⟨XV.out.1.kept B4 XV.out.1.2.2,XV.out.2.1.trans (B4.mono (by have:=XV.out.1.2.2;omega)),XV.out.2.2.1.kept B4 XV.out.2.2.1.2.2⟩
  have HT:Hid (s.data.toList≠[]/\dI K x od nn=dI K x od nn):=⟨by rw[Lib.toList_data] at he';intro e;rw[e] at he';simp at he',rfl⟩
  clear B4 XV z0 z1 z2 z3 z4 z5 z6 z7 z8 z9 z10 z11 z12 z13
  by_cases ht:dI K x od nn=s
  ·have FI:Hid (∀W,Below h w W->dP w s (.returned (.tuple #[.agg (bl K x od nn).toArray,.bool true])) W):=fun W hb=>⟨by rw[HH.out];exact hb,Or.inl ⟨K,x,od,nn,er.2 ⟨by
    by_cases hk:aA K x od nn
    ·exact hk
    ·exfalso
     have:=HT.out.1
     rw[←ht] at this
     unfold dI at this
     rw[if_neg hk] at this
     exact this rfl,ht⟩,rfl⟩⟩
   have ht':(dI K x od nn).toList=s.toList:=by rw[ht]
   have ht2:=tr s
   clear HR HO HNS HT
   rw[ht]
   clear ht ht'
   have r0:=X4.out.1.1 0 _ rfl
   have r1:=X4.out.1.1 1 _ rfl
   have r2:=X4.out.1.1 2 _ rfl
   have r3:=X4.out.1.1 3 _ rfl
   have r4:=X4.out.1.1 4 _ rfl
   have r5:=X4.out.1.1 5 _ rfl
   have r6:=X4.out.1.1 6 _ rfl
   have r7:=X4.out.1.1 7 _ rfl
   have r8:=X4.out.1.1 8 _ rfl
   have r9:=X4.out.1.1 9 _ rfl
   have r10:=X4.out.1.1 10 _ rfl
   have r11:=X4.out.1.1 11 _ rfl
   have r12:=X4.out.1.1 12 _ rfl
   have r13:=X4.out.1.1 13 _ rfl
   have z0:=X4.out.2.2.1 0 _ rfl
   have z1:=X4.out.2.2.1 1 _ rfl
   have z2:=X4.out.2.2.1 2 _ rfl
   have z3:=X4.out.2.2.1 3 _ rfl
   have z4:=X4.out.2.2.1 4 _ rfl
   have z5:=X4.out.2.2.1 5 _ rfl
   have z6:=X4.out.2.2.1 6 _ rfl
   have z7:=X4.out.2.2.1 7 _ rfl
   have z8:=X4.out.2.2.1 8 _ rfl
   have z9:=X4.out.2.2.1 9 _ rfl
   have z10:=X4.out.2.2.1 10 _ rfl
   have z11:=X4.out.2.2.1 11 _ rfl
   have z12:=X4.out.2.2.1 12 _ rfl
   have z13:=X4.out.2.2.1 13 _ rfl
   have fz:=X4.out.1.2.1
   have nh:¬h=R:=by omega
   go_wp2
   refine bodyPost_ret (v:=.tuple #[.agg (bl K x od nn).toArray,.bool true]) (by simp[results,Tryz.results18,go_sem,r0,r1,r2,r3,r4,r5,r6,r7,r8,r9,r10,r11,r12,r13]) rfl ?_
   exact FI.out _ ((((((((((((((X4.out.2.1.setCell (p:=⟨h,0,none⟩) (Nf _) _).setCell (p:=⟨h,1,none⟩) (Nf _) _).setCell (p:=⟨h,2,none⟩) (Nf _) _).setCell (p:=⟨h,3,none⟩) (Nf _) _).setCell (p:=⟨h,4,none⟩) (Nf _) _).setCell (p:=⟨h,5,none⟩) (Nf _) _).setCell (p:=⟨h,6,none⟩) (Nf _) _).setCell (p:=⟨h,7,none⟩) (Nf _) _).setCell (p:=⟨h,8,none⟩) (Nf _) _).setCell (p:=⟨h,9,none⟩) (Nf _) _).setCell (p:=⟨h,10,none⟩) (Nf _) _).setCell (p:=⟨h,11,none⟩) (Nf _) _).setCell (p:=⟨h,12,none⟩) (Nf _) _).setCell (p:=⟨h,13,none⟩) (Nf _) _)
  ·have FI:Hid (∀W,Below h w W->dP w s (.returned (.tuple #[.agg (bZ 0).toArray,.bool false])) W):=fun W hb=>⟨by rw[HH.out];exact hb,Or.inr ⟨gZ (fun K' x' o' n' hk=>by
    obtain ⟨e1,e2⟩:=HR.out K' x' o' n' hk
    rw[HNS.out] at e2
    have e3:=Option.some.inj e2
    obtain ⟨rfl,rfl,rfl,rfl⟩:=nM hk.1 e1 (e3 ▸ HO.out)
    exact ht hk.2),rfl⟩⟩
   have ht':=lc ht
   clear HR HO HNS HT ht
   generalize dI K x od nn=tt at*
   have r0:=X4.out.1.1 0 _ rfl
   have r1:=X4.out.1.1 1 _ rfl
   have r2:=X4.out.1.1 2 _ rfl
   have r3:=X4.out.1.1 3 _ rfl
   have r4:=X4.out.1.1 4 _ rfl
   have r5:=X4.out.1.1 5 _ rfl
   have r6:=X4.out.1.1 6 _ rfl
   have r7:=X4.out.1.1 7 _ rfl
   have r8:=X4.out.1.1 8 _ rfl
   have r9:=X4.out.1.1 9 _ rfl
   have r10:=X4.out.1.1 10 _ rfl
   have r11:=X4.out.1.1 11 _ rfl
   have r12:=X4.out.1.1 12 _ rfl
   have r13:=X4.out.1.1 13 _ rfl
   have fz:=X4.out.1.2.1
   go_wp2
   refine bodyPost_ret (v:=.tuple #[.agg #[Ii Jj 0,Ii Jj 0,Ii Jj 0,Ii Jj 0,Ii Jj 0,Ii Jj 0,Ii Jj 0,Ii Jj 0,Ii Jj 0,Ii Jj 0,Ii Jj 0,Ii Jj 0,Ii Jj 0,Ii Jj 0],.bool false]) (by simp[results,Tryz.results18,go_sem,r0,r1,r2,r3,r4,r5,r6,r7,r8,r9,r10,r11,r12,r13]) rfl ?_
   exact FI.out _ ((((((((((((((X4.out.2.1.setCell (p:=⟨h,0,none⟩) (Nf _) _).setCell (p:=⟨h,1,none⟩) (Nf _) _).setCell (p:=⟨h,2,none⟩) (Nf _) _).setCell (p:=⟨h,3,none⟩) (Nf _) _).setCell (p:=⟨h,4,none⟩) (Nf _) _).setCell (p:=⟨h,5,none⟩) (Nf _) _).setCell (p:=⟨h,6,none⟩) (Nf _) _).setCell (p:=⟨h,7,none⟩) (Nf _) _).setCell (p:=⟨h,8,none⟩) (Nf _) _).setCell (p:=⟨h,9,none⟩) (Nf _) _).setCell (p:=⟨h,10,none⟩) (Nf _) _).setCell (p:=⟨h,11,none⟩) (Nf _) _).setCell (p:=⟨h,12,none⟩) (Nf _) _).setCell (p:=⟨h,13,none⟩) (Nf _) _)
end Go.Proofs.YtjhgchlfpolkcaaGreatDoor
