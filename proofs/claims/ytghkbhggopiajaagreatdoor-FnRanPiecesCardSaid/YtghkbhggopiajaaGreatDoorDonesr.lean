/- The specification's Done. -/
import Derived.Test.YtghkbhggopiajaaGreatDoorPaysr
namespace Go.Proofs.YtghkbhggopiajaaGreatDoor
open Value renaming int → Ii,slice → Sl
open IntKind renaming i64 → Jj
open Nat renaming le_refl → Nf
open Go.RowKit.Below renaming refl → Bf
open Go.Proofs.Tryz renaming prog → Pg
set_option maxHeartbeats 2000000
set_option maxRecDepth 8000
open Go.RowKit
theorem kb (a:Option Addr) (c:Nat) (L:List aj) (k i t m r:Int) (w:World) (h:Fo w a L.length (FL L)) (ho:¬az k i t m r):
  Calls Pg 108 #[Sl a L.length c,.agg #[Ii Jj k,Ii Jj i,Ii Jj t,Ii Jj m,Ii Jj r]] w fun e w'=>fb (am L k i t m r) w.heap.size w e w':=by
 have HF:=aa h
 have HO:=aa ho
 have E:Hid (am L k i t m r=(2,L)):=(by unfold am;rw[if_neg ho]:am L k i t m r=(2,L))
 obtain ⟨W,hW⟩:∃W,W=w.alloc (.cells #[Ii Jj k,Ii Jj i,Ii Jj t,Ii Jj m,Ii Jj r] 49):=⟨_,rfl⟩
 have OW:Hid (aN W w.heap.size k i t m r):=by rw[hW];exact aN.new w _ _ _ _ _ 49
 have BW:Hid (Below w.heap.size w W):=by rw[hW];exact (Bf _ _).alloc (Nf _) _
 obtain ⟨o0,o1,o2,o3,o4,oz⟩:=OW.out
 clear h ho
 go_enter Tryz.func108,Tryz.ntmps108
 go_upto_region 1 with fail
 rw[←hW]
 clear hW
 go_wp2_with fail
 refine (my k i t m r _ HO.out).mono ?_
 rintro e w1 ⟨rfl,B1⟩
 have BW1:=aa (BW.out.trans (B1.mono BW.out.size))
 clear B1 OW BW o0 o1 o2 o3 o4 oz
 go_wp2_with fail
 refine (aP a L.length c L _ rfl (HF.out.below BW1.out)).mono ?_
 rintro e w9 ⟨g9,c9,rfl,A9,B9⟩
 have A9':=aa (A9.mono BW1.out.size)
 have B9':=aa (BW1.out.trans (B9.mono BW1.out.size))
 clear A9 B9
 go_wp2
 go_ret2
 rw[E.out]
 exact ⟨_,rfl,A9'.out,B9'.out⟩
theorem kc (a:Option Addr) (c:Nat) (L:List aj) (k i t m r:Int) (w:World) (h:Fo w a L.length (FL L)) (hR:al (FL L) L.length) (ho:az k i t m r) (hpi:ao (FL L) L.length i=none) (k1:k≠1) (k7:k≠7) (k9:k≠9):
  Calls Pg 108 #[Sl a L.length c,.agg #[Ii Jj k,Ii Jj i,Ii Jj t,Ii Jj m,Ii Jj r]] w fun e w'=>fb (am L k i t m r) w.heap.size w e w':=by
 have HF:=aa h
 have HR:=aa hR
 have hn:=hR.1
 have HO:=aa ho
 have HD0:Hid (am L k i t m r=bm L (ag L k i t m r)):=(by unfold am;rw[if_pos ho]:am L k i t m r=bm L (ag L k i t m r))
 have HP:Hid (ag L k i t m r=(3,L)):=(by unfold ag;simp[hpi,k1]:ag L k i t m r=(3,L))
 have HAI:Hid (aK (FL L) L.length i= -1):=bE hpi
 have j1:(k == 1)=false:=by simp[k1]
 have j7:(k == 7)=false:=by simp[k7]
 have j9:(k == 9)=false:=by simp[k9]
 clear k1 k7 k9
 clear hpi
 obtain ⟨W,hW⟩:∃W,W=w.alloc (.cells #[Ii Jj k,Ii Jj i,Ii Jj t,Ii Jj m,Ii Jj r] 49):=⟨_,rfl⟩
 have OW:Hid (aN W w.heap.size k i t m r):=by rw[hW];exact aN.new w _ _ _ _ _ 49
 have BW:Hid (Below w.heap.size w W):=by rw[hW];exact (Bf _ _).alloc (Nf _) _
 obtain ⟨o0,o1,o2,o3,o4,oz⟩:=OW.out
 clear h hR ho
 go_enter Tryz.func108,Tryz.ntmps108
 go_upto_region 1 with fail
 rw[←hW]
 clear hW
 go_wp2_with fail
 refine (bQ k i t m r _ HO.out).mono ?_
 rintro e w1 ⟨rfl,B1⟩
 have O1:=aa (OW.out.below B1)
 have BW1:=aa (BW.out.trans (B1.mono BW.out.size))
 clear B1 OW BW o0 o1 o2 o3 o4 oz
 go_wp2_with fail
 refine (aP a L.length c L _ rfl (HF.out.below BW1.out)).mono ?_
 rintro e w2 ⟨g,c2,rfl,A2,B2⟩
 have O2:=aa (O1.out.below B2)
 have A2':=aa (A2.mono BW1.out.size)
 have BW2:=aa (BW1.out.trans (B2.mono BW1.out.size))
 have hw2:w.heap.size<=w2.heap.size:=BW2.out.size
 clear A2 B2 O1 BW1
 obtain ⟨o0,o1,o2,o3,o4,oz⟩:=O2.out
 clear O2
 go_wp2_with fail
 refine (bM a L.length c (FL L) i _ (HF.out.below BW2.out)).mono ?_
 rintro e wx ⟨rfl,hwx⟩
 have ew:w2=wx:=hwx.symm
 subst ew
 clear hwx
 rw[HAI.out]
 go_wp2_with fail
 refine (bM a L.length c (FL L) t _ (HF.out.below BW2.out)).mono ?_
 rintro e wx ⟨rfl,hwx⟩
 have ew:w2=wx:=hwx.symm
 subst ew
 clear hwx
 generalize aK (FL L) L.length t=zt
 have E:Hid (am L k i t m r=(3,L)):=(by rw[HD0.out,HP.out];simp[bm]:am L k i t m r=(3,L))
 go_wp2_with fail
 refine (aP a L.length c L _ rfl (HF.out.below BW2.out)).mono ?_
 rintro e w9 ⟨g9,c9,rfl,A9,B9⟩
 have A9':=aa (A9.mono BW2.out.size)
 have B9':=aa (BW2.out.trans (B9.mono BW2.out.size))
 clear A9 B9
 go_wp2
 go_ret2
 rw[E.out]
 exact ⟨_,rfl,A9'.out,B9'.out⟩
theorem ji (a:Option Addr) (c:Nat) (L:List aj) (i t m r:Int) (w:World) (h:Fo w a L.length (FL L)) (hR:al (FL L) L.length) (ho:az 7 i t m r) (hpi:ao (FL L) L.length i=none):
  Calls Pg 108 #[Sl a L.length c,.agg #[Ii Jj 7,Ii Jj i,Ii Jj t,Ii Jj m,Ii Jj r]] w fun e w'=>fb (am L 7 i t m r) w.heap.size w e w':=by
 have HF:=aa h
 have HR:=aa hR
 have hn:=hR.1
 have HO:=aa ho
 have HD0:Hid (am L 7 i t m r=bm L (ag L 7 i t m r)):=(by unfold am;rw[if_pos ho]:am L 7 i t m r=bm L (ag L 7 i t m r))
 have HP:Hid (ag L 7 i t m r=(3,L)):=(by unfold ag;simp[hpi]:ag L 7 i t m r=(3,L))
 have HAI:Hid (aK (FL L) L.length i= -1):=bE hpi
 clear hpi
 obtain ⟨W,hW⟩:∃W,W=w.alloc (.cells #[Ii Jj 7,Ii Jj i,Ii Jj t,Ii Jj m,Ii Jj r] 49):=⟨_,rfl⟩
 have OW:Hid (aN W w.heap.size 7 i t m r):=by rw[hW];exact aN.new w _ _ _ _ _ 49
 have BW:Hid (Below w.heap.size w W):=by rw[hW];exact (Bf _ _).alloc (Nf _) _
 obtain ⟨o0,o1,o2,o3,o4,oz⟩:=OW.out
 clear h hR ho
 go_enter Tryz.func108,Tryz.ntmps108
 go_upto_region 1 with fail
 rw[←hW]
 clear hW
 go_wp2_with fail
 refine (bQ 7 i t m r _ HO.out).mono ?_
 rintro e w1 ⟨rfl,B1⟩
 have O1:=aa (OW.out.below B1)
 have BW1:=aa (BW.out.trans (B1.mono BW.out.size))
 clear B1 OW BW o0 o1 o2 o3 o4 oz
 go_wp2_with fail
 refine (aP a L.length c L _ rfl (HF.out.below BW1.out)).mono ?_
 rintro e w2 ⟨g,c2,rfl,A2,B2⟩
 have O2:=aa (O1.out.below B2)
 have A2':=aa (A2.mono BW1.out.size)
 have BW2:=aa (BW1.out.trans (B2.mono BW1.out.size))
 have hw2:w.heap.size<=w2.heap.size:=BW2.out.size
 clear A2 B2 O1 BW1
 obtain ⟨o0,o1,o2,o3,o4,oz⟩:=O2.out
 clear O2
 go_wp2_with fail
 refine (bM a L.length c (FL L) i _ (HF.out.below BW2.out)).mono ?_
 rintro e wx ⟨rfl,hwx⟩
 have ew:w2=wx:=hwx.symm
 subst ew
 clear hwx
 rw[HAI.out]
 go_wp2_with fail
 refine (bM a L.length c (FL L) t _ (HF.out.below BW2.out)).mono ?_
 rintro e wx ⟨rfl,hwx⟩
 have ew:w2=wx:=hwx.symm
 subst ew
 clear hwx
 generalize aK (FL L) L.length t=zt
 have E:Hid (am L 7 i t m r=(3,L)):=(by rw[HD0.out,HP.out];simp[bm]:am L 7 i t m r=(3,L))
 go_wp2_with fail
 refine (aP a L.length c L _ rfl (HF.out.below BW2.out)).mono ?_
 rintro e w9 ⟨g9,c9,rfl,A9,B9⟩
 have A9':=aa (A9.mono BW2.out.size)
 have B9':=aa (BW2.out.trans (B9.mono BW2.out.size))
 clear A9 B9
 go_wp2
 go_ret2
 rw[E.out]
 exact ⟨_,rfl,A9'.out,B9'.out⟩
theorem jk (a:Option Addr) (c:Nat) (L:List aj) (i t m r:Int) (w:World) (h:Fo w a L.length (FL L)) (hR:al (FL L) L.length) (ho:az 9 i t m r) (hpi:ao (FL L) L.length i=none):
  Calls Pg 108 #[Sl a L.length c,.agg #[Ii Jj 9,Ii Jj i,Ii Jj t,Ii Jj m,Ii Jj r]] w fun e w'=>fb (am L 9 i t m r) w.heap.size w e w':=by
 have HF:=aa h
 have HR:=aa hR
 have hn:=hR.1
 have HO:=aa ho
 have HD0:Hid (am L 9 i t m r=bm L (ag L 9 i t m r)):=(by unfold am;rw[if_pos ho]:am L 9 i t m r=bm L (ag L 9 i t m r))
 have HP:Hid (ag L 9 i t m r=(3,L)):=(by unfold ag;simp[hpi]:ag L 9 i t m r=(3,L))
 have HAI:Hid (aK (FL L) L.length i= -1):=bE hpi
 clear hpi
 obtain ⟨W,hW⟩:∃W,W=w.alloc (.cells #[Ii Jj 9,Ii Jj i,Ii Jj t,Ii Jj m,Ii Jj r] 49):=⟨_,rfl⟩
 have OW:Hid (aN W w.heap.size 9 i t m r):=by rw[hW];exact aN.new w _ _ _ _ _ 49
 have BW:Hid (Below w.heap.size w W):=by rw[hW];exact (Bf _ _).alloc (Nf _) _
 obtain ⟨o0,o1,o2,o3,o4,oz⟩:=OW.out
 clear h hR ho
 go_enter Tryz.func108,Tryz.ntmps108
 go_upto_region 1 with fail
 rw[←hW]
 clear hW
 go_wp2_with fail
 refine (bQ 9 i t m r _ HO.out).mono ?_
 rintro e w1 ⟨rfl,B1⟩
 have O1:=aa (OW.out.below B1)
 have BW1:=aa (BW.out.trans (B1.mono BW.out.size))
 clear B1 OW BW o0 o1 o2 o3 o4 oz
 go_wp2_with fail
 refine (aP a L.length c L _ rfl (HF.out.below BW1.out)).mono ?_
 rintro e w2 ⟨g,c2,rfl,A2,B2⟩
 have O2:=aa (O1.out.below B2)
 have A2':=aa (A2.mono BW1.out.size)
 have BW2:=aa (BW1.out.trans (B2.mono BW1.out.size))
 have hw2:w.heap.size<=w2.heap.size:=BW2.out.size
 clear A2 B2 O1 BW1
 obtain ⟨o0,o1,o2,o3,o4,oz⟩:=O2.out
 clear O2
 go_wp2_with fail
 refine (bM a L.length c (FL L) i _ (HF.out.below BW2.out)).mono ?_
 rintro e wx ⟨rfl,hwx⟩
 have ew:w2=wx:=hwx.symm
 subst ew
 clear hwx
 rw[HAI.out]
 go_wp2_with fail
 refine (bM a L.length c (FL L) t _ (HF.out.below BW2.out)).mono ?_
 rintro e wx ⟨rfl,hwx⟩
 have ew:w2=wx:=hwx.symm
 subst ew
 clear hwx
 generalize aK (FL L) L.length t=zt
 have E:Hid (am L 9 i t m r=(3,L)):=(by rw[HD0.out,HP.out];simp[bm]:am L 9 i t m r=(3,L))
 go_wp2_with fail
 refine (aP a L.length c L _ rfl (HF.out.below BW2.out)).mono ?_
 rintro e w9 ⟨g9,c9,rfl,A9,B9⟩
 have A9':=aa (A9.mono BW2.out.size)
 have B9':=aa (BW2.out.trans (B9.mono BW2.out.size))
 clear A9 B9
 go_wp2
 go_ret2
 rw[E.out]
 exact ⟨_,rfl,A9'.out,B9'.out⟩
theorem lq (a:Option Addr) (c:Nat) (L:List aj) (i t m r:Int) (w:World) (h:Fo w a L.length (FL L)) (hR:al (FL L) L.length) (ho:az 7 i t m r) (p:Nat) (hpi:ao (FL L) L.length i=some p) (hpt:ao (FL L) L.length t=none):
  Calls Pg 108 #[Sl a L.length c,.agg #[Ii Jj 7,Ii Jj i,Ii Jj t,Ii Jj m,Ii Jj r]] w fun e w'=>fb (am L 7 i t m r) w.heap.size w e w':=by
 have HF:=aa h
 have HR:=aa hR
 have hn:=hR.1
 have HO:=aa ho
 have HD0:Hid (am L 7 i t m r=bm L (ag L 7 i t m r)):=(by unfold am;rw[if_pos ho]:am L 7 i t m r=bm L (ag L 7 i t m r))
 have HP:Hid (ag L 7 i t m r=(3,L)):=(by unfold ag;simp[hpi,hpt]:ag L 7 i t m r=(3,L))
 have HAI:Hid (aK (FL L) L.length i=(p:Int)):=aE hpi
 have HAT:Hid (aK (FL L) L.length t= -1):=bE hpt
 clear hpi hpt
 obtain ⟨W,hW⟩:∃W,W=w.alloc (.cells #[Ii Jj 7,Ii Jj i,Ii Jj t,Ii Jj m,Ii Jj r] 49):=⟨_,rfl⟩
 have OW:Hid (aN W w.heap.size 7 i t m r):=by rw[hW];exact aN.new w _ _ _ _ _ 49
 have BW:Hid (Below w.heap.size w W):=by rw[hW];exact (Bf _ _).alloc (Nf _) _
 obtain ⟨o0,o1,o2,o3,o4,oz⟩:=OW.out
 clear h hR ho
 go_enter Tryz.func108,Tryz.ntmps108
 go_upto_region 1 with fail
 rw[←hW]
 clear hW
 go_wp2_with fail
 refine (bQ 7 i t m r _ HO.out).mono ?_
 rintro e w1 ⟨rfl,B1⟩
 have O1:=aa (OW.out.below B1)
 have BW1:=aa (BW.out.trans (B1.mono BW.out.size))
 clear B1 OW BW o0 o1 o2 o3 o4 oz
 go_wp2_with fail
 refine (aP a L.length c L _ rfl (HF.out.below BW1.out)).mono ?_
 rintro e w2 ⟨g,c2,rfl,A2,B2⟩
 have O2:=aa (O1.out.below B2)
 have A2':=aa (A2.mono BW1.out.size)
 have BW2:=aa (BW1.out.trans (B2.mono BW1.out.size))
 have hw2:w.heap.size<=w2.heap.size:=BW2.out.size
 clear A2 B2 O1 BW1
 obtain ⟨o0,o1,o2,o3,o4,oz⟩:=O2.out
 clear O2
 go_wp2_with fail
 refine (bM a L.length c (FL L) i _ (HF.out.below BW2.out)).mono ?_
 rintro e wx ⟨rfl,hwx⟩
 have ew:w2=wx:=hwx.symm
 subst ew
 clear hwx
 rw[HAI.out]
 go_wp2_with fail
 refine (bM a L.length c (FL L) t _ (HF.out.below BW2.out)).mono ?_
 rintro e wx ⟨rfl,hwx⟩
 have ew:w2=wx:=hwx.symm
 subst ew
 clear hwx
 rw[HAT.out]
 have E:Hid (am L 7 i t m r=(3,L)):=(by rw[HD0.out,HP.out];simp[bm]:am L 7 i t m r=(3,L))
 go_wp2_with fail
 refine (aP a L.length c L _ rfl (HF.out.below BW2.out)).mono ?_
 rintro e w9 ⟨g9,c9,rfl,A9,B9⟩
 have A9':=aa (A9.mono BW2.out.size)
 have B9':=aa (BW2.out.trans (B9.mono BW2.out.size))
 clear A9 B9
 go_wp2
 go_ret2
 rw[E.out]
 exact ⟨_,rfl,A9'.out,B9'.out⟩
theorem lr (a:Option Addr) (c:Nat) (L:List aj) (i t m r:Int) (w:World) (h:Fo w a L.length (FL L)) (hR:al (FL L) L.length) (ho:az 9 i t m r) (p:Nat) (hpi:ao (FL L) L.length i=some p) (hpt:ao (FL L) L.length t=none):
  Calls Pg 108 #[Sl a L.length c,.agg #[Ii Jj 9,Ii Jj i,Ii Jj t,Ii Jj m,Ii Jj r]] w fun e w'=>fb (am L 9 i t m r) w.heap.size w e w':=by
 have HF:=aa h
 have HR:=aa hR
 have hn:=hR.1
 have HO:=aa ho
 have HD0:Hid (am L 9 i t m r=bm L (ag L 9 i t m r)):=(by unfold am;rw[if_pos ho]:am L 9 i t m r=bm L (ag L 9 i t m r))
 have HP:Hid (ag L 9 i t m r=(3,L)):=(by unfold ag;simp[hpi,hpt]:ag L 9 i t m r=(3,L))
 have HAI:Hid (aK (FL L) L.length i=(p:Int)):=aE hpi
 have HAT:Hid (aK (FL L) L.length t= -1):=bE hpt
 clear hpi hpt
 obtain ⟨W,hW⟩:∃W,W=w.alloc (.cells #[Ii Jj 9,Ii Jj i,Ii Jj t,Ii Jj m,Ii Jj r] 49):=⟨_,rfl⟩
 have OW:Hid (aN W w.heap.size 9 i t m r):=by rw[hW];exact aN.new w _ _ _ _ _ 49
 have BW:Hid (Below w.heap.size w W):=by rw[hW];exact (Bf _ _).alloc (Nf _) _
 obtain ⟨o0,o1,o2,o3,o4,oz⟩:=OW.out
 clear h hR ho
 go_enter Tryz.func108,Tryz.ntmps108
 go_upto_region 1 with fail
 rw[←hW]
 clear hW
 go_wp2_with fail
 refine (bQ 9 i t m r _ HO.out).mono ?_
 rintro e w1 ⟨rfl,B1⟩
 have O1:=aa (OW.out.below B1)
 have BW1:=aa (BW.out.trans (B1.mono BW.out.size))
 clear B1 OW BW o0 o1 o2 o3 o4 oz
 go_wp2_with fail
 refine (aP a L.length c L _ rfl (HF.out.below BW1.out)).mono ?_
 rintro e w2 ⟨g,c2,rfl,A2,B2⟩
 have O2:=aa (O1.out.below B2)
 have A2':=aa (A2.mono BW1.out.size)
 have BW2:=aa (BW1.out.trans (B2.mono BW1.out.size))
 have hw2:w.heap.size<=w2.heap.size:=BW2.out.size
 clear A2 B2 O1 BW1
 obtain ⟨o0,o1,o2,o3,o4,oz⟩:=O2.out
 clear O2
 go_wp2_with fail
 refine (bM a L.length c (FL L) i _ (HF.out.below BW2.out)).mono ?_
 rintro e wx ⟨rfl,hwx⟩
 have ew:w2=wx:=hwx.symm
 subst ew
 clear hwx
 rw[HAI.out]
 go_wp2_with fail
 refine (bM a L.length c (FL L) t _ (HF.out.below BW2.out)).mono ?_
 rintro e wx ⟨rfl,hwx⟩
 have ew:w2=wx:=hwx.symm
 subst ew
 clear hwx
 rw[HAT.out]
 have E:Hid (am L 9 i t m r=(3,L)):=(by rw[HD0.out,HP.out];simp[bm]:am L 9 i t m r=(3,L))
 go_wp2_with fail
 refine (aP a L.length c L _ rfl (HF.out.below BW2.out)).mono ?_
 rintro e w9 ⟨g9,c9,rfl,A9,B9⟩
 have A9':=aa (A9.mono BW2.out.size)
 have B9':=aa (BW2.out.trans (B9.mono BW2.out.size))
 clear A9 B9
 go_wp2
 go_ret2
 rw[E.out]
 exact ⟨_,rfl,A9'.out,B9'.out⟩
open Go.RowKit
theorem ke (a:Option Addr) (c:Nat) (L:List aj) (i t m r:Int) (w:World) (h:Fo w a L.length (FL L)) (hR:al (FL L) L.length) (ho:az 1 i t m r):
  Calls Pg 108 #[Sl a L.length c,.agg #[Ii Jj 1,Ii Jj i,Ii Jj t,Ii Jj m,Ii Jj r]] w fun e w'=>fb (am L 1 i t m r) w.heap.size w e w':=by
 have HF:=aa h
 have HR:=aa hR
 have hn:=hR.1
 have HO:=aa ho
 have HD0:Hid (am L 1 i t m r=bm L (ag L 1 i t m r)):=(by unfold am;rw[if_pos ho]:am L 1 i t m r=bm L (ag L 1 i t m r))
 have HP:Hid (ag L 1 i t m r=cj L i t m r):=(by unfold ag;rw[if_pos rfl]:ag L 1 i t m r=cj L i t m r)
 obtain ⟨W,hW⟩:∃W,W=w.alloc (.cells #[Ii Jj 1,Ii Jj i,Ii Jj t,Ii Jj m,Ii Jj r] 49):=⟨_,rfl⟩
 have OW:Hid (aN W w.heap.size 1 i t m r):=by rw[hW];exact aN.new w _ _ _ _ _ 49
 have BW:Hid (Below w.heap.size w W):=by rw[hW];exact (Bf _ _).alloc (Nf _) _
 obtain ⟨o0,o1,o2,o3,o4,oz⟩:=OW.out
 clear h hR ho
 go_enter Tryz.func108,Tryz.ntmps108
 go_upto_region 1 with fail
 rw[←hW]
 clear hW
 go_wp2_with fail
 refine (bQ 1 i t m r _ HO.out).mono ?_
 rintro e w1 ⟨rfl,B1⟩
 have O1:=aa (OW.out.below B1)
 have BW1:=aa (BW.out.trans (B1.mono BW.out.size))
 clear B1 OW BW o0 o1 o2 o3 o4 oz
 go_wp2_with fail
 refine (aP a L.length c L _ rfl (HF.out.below BW1.out)).mono ?_
 rintro e w2 ⟨g,c2,rfl,A2,B2⟩
 have O2:=aa (O1.out.below B2)
 have A2':=aa (A2.mono BW1.out.size)
 have BW2:=aa (BW1.out.trans (B2.mono BW1.out.size))
 have hw2:w.heap.size<=w2.heap.size:=BW2.out.size
 clear A2 B2 O1 BW1
 obtain ⟨o0,o1,o2,o3,o4,oz⟩:=O2.out
 clear O2
 go_wp2_with fail
 refine (bM a L.length c (FL L) i _ (HF.out.below BW2.out)).mono ?_
 rintro e wx ⟨rfl,hwx⟩
 have ew:w2=wx:=hwx.symm
 subst ew
 clear hwx
 generalize aK (FL L) L.length i=zi
 go_wp2_with fail
 refine (bM a L.length c (FL L) t _ (HF.out.below BW2.out)).mono ?_
 rintro e wx ⟨rfl,hwx⟩
 have ew:w2=wx:=hwx.symm
 subst ew
 clear hwx
 generalize aK (FL L) L.length t=zt
 go_wp2_with fail
 refine (qU w.heap.size g c2 L i t m r _ A2'.out hw2 hn).mono ?_
 rintro e w3 ⟨v3,rfl,A3,B3⟩
 have BW3:=aa (BW2.out.trans B3)
 have HLen:Hid ((ag L 1 i t m r).2.length<=L.length+1):=bC L 1 i t m r
 have HD:Hid (am L 1 i t m r=bm L (ag L 1 i t m r)):=HD0.out
 rw[HP.out] at HLen HD
 generalize cj L i t m r=R at*
 clear B3 HP
 obtain ⟨cd,L3⟩:=R
 have AH:=aa A3
 clear A3
 have hl3:L3.length<=1048576:=by have:=HLen.out;simp only at this;omega
 obtain ⟨a3,c3,hv3⟩:=AH.out.len
 subst hv3
 have F3:Hid (Fo w3 a3 L3.length (FL L3)):=(AH.out.fo hl3).2
 by_cases h0:cd=0
 ·subst h0
  by_cases hr3:al (FL L3) L3.length
  ·have E:Hid (am L 1 i t m r=(0,L3)):=(by rw[HD.out];simp[bm,hr3]:am L 1 i t m r=(0,L3))
   have HR3:=aa hr3
   clear hr3
   go_wp2_with fail
   refine (dr a3 L3.length c3 (FL L3) _ F3.out HR3.out).mono ?_
   rintro e w4 ⟨rfl,B4⟩
   have A4:=aa (AH.out.kept B4)
   have B4':=aa (BW3.out.trans (B4.mono BW3.out.size))
   clear B4
   go_wp2
   go_ret2
   rw[E.out]
   exact ⟨_,rfl,A4.out,B4'.out⟩
  ·have E:Hid (am L 1 i t m r=(7,L)):=(by rw[HD.out];simp[bm,hr3]:am L 1 i t m r=(7,L))
   have HR3:=aa hr3
   clear hr3
   go_wp2_with fail
   refine (eW a3 L3.length c3 (FL L3) _ F3.out HR3.out).mono ?_
   rintro e w4 ⟨rfl,B4⟩
   have B4':=aa (BW3.out.trans (B4.mono BW3.out.size))
   clear B4
   go_wp2_with fail
   refine (aP a L.length c L _ rfl (HF.out.below B4'.out)).mono ?_
   rintro e w9 ⟨g9,c9,rfl,A9,B9⟩
   have A9':=aa (A9.mono B4'.out.size)
   have B9':=aa (B4'.out.trans (B9.mono B4'.out.size))
   clear A9 B9
   go_wp2
   go_ret2
   rw[E.out]
   exact ⟨_,rfl,A9'.out,B9'.out⟩
 ·have E:Hid (am L 1 i t m r=(cd,L)):=(by rw[HD.out];simp[bm,h0]:am L 1 i t m r=(cd,L))
  have hb0:(cd == 0)=false:=by simp[h0]
  have hb1:(cd != 0)=true:=by simp[h0]
  clear h0
  go_wp2_with fail
  refine (aP a L.length c L _ rfl (HF.out.below BW3.out)).mono ?_
  rintro e w9 ⟨g9,c9,rfl,A9,B9⟩
  have A9':=aa (A9.mono BW3.out.size)
  have B9':=aa (BW3.out.trans (B9.mono BW3.out.size))
  clear A9 B9
  go_wp2
  go_ret2
  rw[E.out]
  exact ⟨_,rfl,A9'.out,B9'.out⟩
open Go.RowKit
theorem mz (B g c:Nat) (L:List aj) (p q:Nat) (m:Int) (w:World) (h:AL w B (Sl (some ⟨g,0,none⟩) L.length c) L) (hBw:B<=w.heap.size) (hR:al (FL L) L.length) (hp:p<L.length) (hq:q<L.length) (hpq:p≠q) (hm1:1<=m) (hm2:m<=1000000000000):
  Calls Pg 146 #[Sl (some ⟨g,0,none⟩) L.length c,Ii Jj p,Ii Jj q,Ii Jj m] w fun e w'=>fb (dh L p q m) B w e w':=
 (sl B g c L p q m w h hBw hR hp hq hpq hm1 hm2).mono fun _ _ ⟨a,b,d⟩=>⟨_,a,b,d⟩
theorem ls (a:Option Addr) (c:Nat) (L:List aj) (i t m r:Int) (w:World) (h:Fo w a L.length (FL L)) (hR:al (FL L) L.length) (ho:az 7 i t m r) (p q:Nat) (hpi:ao (FL L) L.length i=some p) (hpt:ao (FL L) L.length t=some q):
  Calls Pg 108 #[Sl a L.length c,.agg #[Ii Jj 7,Ii Jj i,Ii Jj t,Ii Jj m,Ii Jj r]] w fun e w'=>fb (am L 7 i t m r) w.heap.size w e w':=by
 have HF:=aa h
 have HR:=aa hR
 have hn:=hR.1
 have HO:=aa ho
 have HD0:Hid (am L 7 i t m r=bm L (ag L 7 i t m r)):=(by unfold am;rw[if_pos ho]:am L 7 i t m r=bm L (ag L 7 i t m r))
 obtain ⟨hp,hid⟩:=ar hpi
 have HAI:Hid (aK (FL L) L.length i=(p:Int)):=aE hpi
 obtain ⟨hq,hit⟩:=ar hpt
 have HAT:Hid (aK (FL L) L.length t=(q:Int)):=aE hpt
 have HP:Hid (ag L 7 i t m r=dh L p q m):=(by unfold ag;simp[hpi,hpt]:ag L 7 i t m r=dh L p q m)
 have hpq:p≠q:=fun e=>by
  have ho:=HO.out
  unfold az at ho
  rw[e,hit] at hid
  omega
 obtain ⟨hm1,hm2⟩:1<=m/\m<=1000000000000:=by have ho:=HO.out;unfold az at ho;omega
 clear hpi hpt hid hit
 obtain ⟨W,hW⟩:∃W,W=w.alloc (.cells #[Ii Jj 7,Ii Jj i,Ii Jj t,Ii Jj m,Ii Jj r] 49):=⟨_,rfl⟩
 have OW:Hid (aN W w.heap.size 7 i t m r):=by rw[hW];exact aN.new w _ _ _ _ _ 49
 have BW:Hid (Below w.heap.size w W):=by rw[hW];exact (Bf _ _).alloc (Nf _) _
 obtain ⟨o0,o1,o2,o3,o4,oz⟩:=OW.out
 clear h hR ho
 go_enter Tryz.func108,Tryz.ntmps108
 go_upto_region 1 with fail
 rw[←hW]
 clear hW
 go_wp2_with fail
 refine (bQ 7 i t m r _ HO.out).mono ?_
 rintro e w1 ⟨rfl,B1⟩
 have O1:=aa (OW.out.below B1)
 have BW1:=aa (BW.out.trans (B1.mono BW.out.size))
 clear B1 OW BW o0 o1 o2 o3 o4 oz
 go_wp2_with fail
 refine (aP a L.length c L _ rfl (HF.out.below BW1.out)).mono ?_
 rintro e w2 ⟨g,c2,rfl,A2,B2⟩
 have O2:=aa (O1.out.below B2)
 have A2':=aa (A2.mono BW1.out.size)
 have BW2:=aa (BW1.out.trans (B2.mono BW1.out.size))
 have hw2:w.heap.size<=w2.heap.size:=BW2.out.size
 clear A2 B2 O1 BW1
 obtain ⟨o0,o1,o2,o3,o4,oz⟩:=O2.out
 clear O2
 go_wp2_with fail
 refine (bM a L.length c (FL L) i _ (HF.out.below BW2.out)).mono ?_
 rintro e wx ⟨rfl,hwx⟩
 have ew:w2=wx:=hwx.symm
 subst ew
 clear hwx
 rw[HAI.out]
 go_wp2_with fail
 refine (bM a L.length c (FL L) t _ (HF.out.below BW2.out)).mono ?_
 rintro e wx ⟨rfl,hwx⟩
 have ew:w2=wx:=hwx.symm
 subst ew
 clear hwx
 rw[HAT.out]
 go_wp2_with fail
 refine (mz w.heap.size g c2 L p q m _ A2'.out hw2 HR.out hp hq hpq hm1 hm2).mono ?_
 rintro e w3 ⟨v3,rfl,A3,B3⟩
 have BW3:=aa (BW2.out.trans B3)
 have HLen:Hid ((ag L 7 i t m r).2.length<=L.length+1):=bC L 7 i t m r
 have HD:Hid (am L 7 i t m r=bm L (ag L 7 i t m r)):=HD0.out
 rw[HP.out] at HLen HD
 generalize dh L p q m=R at*
 clear B3 HP
 obtain ⟨cd,L3⟩:=R
 have AH:=aa A3
 clear A3
 have hl3:L3.length<=1048576:=by have:=HLen.out;simp only at this;omega
 obtain ⟨a3,c3,hv3⟩:=AH.out.len
 subst hv3
 have F3:Hid (Fo w3 a3 L3.length (FL L3)):=(AH.out.fo hl3).2
 by_cases h0:cd=0
 ·subst h0
  by_cases hr3:al (FL L3) L3.length
  ·have E:Hid (am L 7 i t m r=(0,L3)):=(by rw[HD.out];simp[bm,hr3]:am L 7 i t m r=(0,L3))
   have HR3:=aa hr3
   clear hr3
   go_wp2_with fail
   refine (dr a3 L3.length c3 (FL L3) _ F3.out HR3.out).mono ?_
   rintro e w4 ⟨rfl,B4⟩
   have A4:=aa (AH.out.kept B4)
   have B4':=aa (BW3.out.trans (B4.mono BW3.out.size))
   clear B4
   go_wp2
   go_ret2
   rw[E.out]
   exact ⟨_,rfl,A4.out,B4'.out⟩
  ·have E:Hid (am L 7 i t m r=(7,L)):=(by rw[HD.out];simp[bm,hr3]:am L 7 i t m r=(7,L))
   have HR3:=aa hr3
   clear hr3
   go_wp2_with fail
   refine (eW a3 L3.length c3 (FL L3) _ F3.out HR3.out).mono ?_
   rintro e w4 ⟨rfl,B4⟩
   have B4':=aa (BW3.out.trans (B4.mono BW3.out.size))
   clear B4
   go_wp2_with fail
   refine (aP a L.length c L _ rfl (HF.out.below B4'.out)).mono ?_
   rintro e w9 ⟨g9,c9,rfl,A9,B9⟩
   have A9':=aa (A9.mono B4'.out.size)
   have B9':=aa (B4'.out.trans (B9.mono B4'.out.size))
   clear A9 B9
   go_wp2
   go_ret2
   rw[E.out]
   exact ⟨_,rfl,A9'.out,B9'.out⟩
 ·have E:Hid (am L 7 i t m r=(cd,L)):=(by rw[HD.out];simp[bm,h0]:am L 7 i t m r=(cd,L))
  have hb0:(cd == 0)=false:=by simp[h0]
  have hb1:(cd != 0)=true:=by simp[h0]
  clear h0
  go_wp2_with fail
  refine (aP a L.length c L _ rfl (HF.out.below BW3.out)).mono ?_
  rintro e w9 ⟨g9,c9,rfl,A9,B9⟩
  have A9':=aa (A9.mono BW3.out.size)
  have B9':=aa (BW3.out.trans (B9.mono BW3.out.size))
  clear A9 B9
  go_wp2
  go_ret2
  rw[E.out]
  exact ⟨_,rfl,A9'.out,B9'.out⟩
open Go.RowKit
theorem kf (a:Option Addr) (c:Nat) (L:List aj) (i t m r:Int) (w:World) (h:Fo w a L.length (FL L)) (hR:al (FL L) L.length) (ho:az 9 i t m r) (p q:Nat) (hpi:ao (FL L) L.length i=some p) (hpt:ao (FL L) L.length t=some q):
  Calls Pg 108 #[Sl a L.length c,.agg #[Ii Jj 9,Ii Jj i,Ii Jj t,Ii Jj m,Ii Jj r]] w fun e w'=>fb (am L 9 i t m r) w.heap.size w e w':=by
 have HF:=aa h
 have HR:=aa hR
 have hn:=hR.1
 have HO:=aa ho
 have HD0:Hid (am L 9 i t m r=bm L (ag L 9 i t m r)):=(by unfold am;rw[if_pos ho]:am L 9 i t m r=bm L (ag L 9 i t m r))
 obtain ⟨hp,hid⟩:=ar hpi
 have HAI:Hid (aK (FL L) L.length i=(p:Int)):=aE hpi
 obtain ⟨hq,hit⟩:=ar hpt
 have HAT:Hid (aK (FL L) L.length t=(q:Int)):=aE hpt
 have HP:Hid (ag L 9 i t m r=bR L p q ((ao (FL L) L.length (FL L p).up).getD 0)):=(by unfold ag;simp[hpi,hpt]:ag L 9 i t m r=bR L p q ((ao (FL L) L.length (FL L p).up).getD 0))
 have HU:Hid ((FL L p).up≠0->(ao (FL L) L.length (FL L p).up).getD 0<L.length/\(FL L ((ao (FL L) L.length (FL L p).up).getD 0)).id=(FL L p).up):=fun hup=>by
  obtain ⟨x,hx,hxi,_⟩:=HR.out.path_up hp hup
  have e:ao (FL L) L.length (FL L p).up=some x:=by rw[←hxi];exact bL HR.out.2.2.1 hx
  rw[e]
  exact ⟨hx,hxi⟩
 have SH:Hid (∀(g c2:Nat) w',AL w' w.heap.size (Sl (some ⟨g,0,none⟩) L.length c2) L->w.heap.size<=w'.heap.size->Calls Pg 147 #[Sl (some ⟨g,0,none⟩) L.length c2,Ii Jj p,.agg #[Ii Jj 9,Ii Jj i,Ii Jj t,Ii Jj m,Ii Jj r]] w' fun e w''=>fb (bR L p q ((ao (FL L) L.length (FL L p).up).getD 0)) w.heap.size w' e w''):=fun g c2 w' h1 h2=>by
  have:=qV w.heap.size g c2 L p q ((ao (FL L) L.length (FL L p).up).getD 0) m r w' h1 h2 HR.out hp hq HU.out
  rw[hid,hit] at this
  exact this
 generalize (ao (FL L) L.length (FL L p).up).getD 0=u at*
 clear hpi hpt hid hit HU
 obtain ⟨W,hW⟩:∃W,W=w.alloc (.cells #[Ii Jj 9,Ii Jj i,Ii Jj t,Ii Jj m,Ii Jj r] 49):=⟨_,rfl⟩
 have OW:Hid (aN W w.heap.size 9 i t m r):=by rw[hW];exact aN.new w _ _ _ _ _ 49
 have BW:Hid (Below w.heap.size w W):=by rw[hW];exact (Bf _ _).alloc (Nf _) _
 obtain ⟨o0,o1,o2,o3,o4,oz⟩:=OW.out
 clear h hR ho
 go_enter Tryz.func108,Tryz.ntmps108
 go_upto_region 1 with fail
 rw[←hW]
 clear hW
 go_wp2_with fail
 refine (bQ 9 i t m r _ HO.out).mono ?_
 rintro e w1 ⟨rfl,B1⟩
 have O1:=aa (OW.out.below B1)
 have BW1:=aa (BW.out.trans (B1.mono BW.out.size))
 clear B1 OW BW o0 o1 o2 o3 o4 oz
 go_wp2_with fail
 refine (aP a L.length c L _ rfl (HF.out.below BW1.out)).mono ?_
 rintro e w2 ⟨g,c2,rfl,A2,B2⟩
 have O2:=aa (O1.out.below B2)
 have A2':=aa (A2.mono BW1.out.size)
 have BW2:=aa (BW1.out.trans (B2.mono BW1.out.size))
 have hw2:w.heap.size<=w2.heap.size:=BW2.out.size
 clear A2 B2 O1 BW1
 obtain ⟨o0,o1,o2,o3,o4,oz⟩:=O2.out
 clear O2
 go_wp2_with fail
 refine (bM a L.length c (FL L) i _ (HF.out.below BW2.out)).mono ?_
 rintro e wx ⟨rfl,hwx⟩
 have ew:w2=wx:=hwx.symm
 subst ew
 clear hwx
 rw[HAI.out]
 go_wp2_with fail
 refine (bM a L.length c (FL L) t _ (HF.out.below BW2.out)).mono ?_
 rintro e wx ⟨rfl,hwx⟩
 have ew:w2=wx:=hwx.symm
 subst ew
 clear hwx
 rw[HAT.out]
 go_wp2_with fail
 refine (SH.out _ _ _ A2'.out hw2).mono ?_
 rintro e w3 ⟨v3,rfl,A3,B3⟩
 have BW3:=aa (BW2.out.trans B3)
 have HLen:Hid ((ag L 9 i t m r).2.length<=L.length+1):=bC L 9 i t m r
 have HD:Hid (am L 9 i t m r=bm L (ag L 9 i t m r)):=HD0.out
 rw[HP.out] at HLen HD
 generalize bR L p q u=R at*
 clear B3 HP
 obtain ⟨cd,L3⟩:=R
 have AH:=aa A3
 clear A3
 have hl3:L3.length<=1048576:=by have:=HLen.out;simp only at this;omega
 obtain ⟨a3,c3,hv3⟩:=AH.out.len
 subst hv3
 have F3:Hid (Fo w3 a3 L3.length (FL L3)):=(AH.out.fo hl3).2
 by_cases h0:cd=0
 ·subst h0
  by_cases hr3:al (FL L3) L3.length
  ·have E:Hid (am L 9 i t m r=(0,L3)):=(by rw[HD.out];simp[bm,hr3]:am L 9 i t m r=(0,L3))
   have HR3:=aa hr3
   clear hr3
   go_wp2_with fail
   refine (dr a3 L3.length c3 (FL L3) _ F3.out HR3.out).mono ?_
   rintro e w4 ⟨rfl,B4⟩
   have A4:=aa (AH.out.kept B4)
   have B4':=aa (BW3.out.trans (B4.mono BW3.out.size))
   clear B4
   go_wp2
   go_ret2
   rw[E.out]
   exact ⟨_,rfl,A4.out,B4'.out⟩
  ·have E:Hid (am L 9 i t m r=(7,L)):=(by rw[HD.out];simp[bm,hr3]:am L 9 i t m r=(7,L))
   have HR3:=aa hr3
   clear hr3
   go_wp2_with fail
   refine (eW a3 L3.length c3 (FL L3) _ F3.out HR3.out).mono ?_
   rintro e w4 ⟨rfl,B4⟩
   have B4':=aa (BW3.out.trans (B4.mono BW3.out.size))
   clear B4
   go_wp2_with fail
   refine (aP a L.length c L _ rfl (HF.out.below B4'.out)).mono ?_
   rintro e w9 ⟨g9,c9,rfl,A9,B9⟩
   have A9':=aa (A9.mono B4'.out.size)
   have B9':=aa (B4'.out.trans (B9.mono B4'.out.size))
   clear A9 B9
   go_wp2
   go_ret2
   rw[E.out]
   exact ⟨_,rfl,A9'.out,B9'.out⟩
 ·have E:Hid (am L 9 i t m r=(cd,L)):=(by rw[HD.out];simp[bm,h0]:am L 9 i t m r=(cd,L))
  have hb0:(cd == 0)=false:=by simp[h0]
  have hb1:(cd != 0)=true:=by simp[h0]
  clear h0
  go_wp2_with fail
  refine (aP a L.length c L _ rfl (HF.out.below BW3.out)).mono ?_
  rintro e w9 ⟨g9,c9,rfl,A9,B9⟩
  have A9':=aa (A9.mono BW3.out.size)
  have B9':=aa (BW3.out.trans (B9.mono BW3.out.size))
  clear A9 B9
  go_wp2
  go_ret2
  rw[E.out]
  exact ⟨_,rfl,A9'.out,B9'.out⟩
open Go.RowKit
theorem lu (a:Option Addr) (c:Nat) (L:List aj) (k i t m r:Int) (w:World) (h:Fo w a L.length (FL L)) (hR:al (FL L) L.length) (ho:az k i t m r) (p:Nat) (hpi:ao (FL L) L.length i=some p) (k1:k≠1) (k7:k≠7) (k9:k≠9):
  Calls Pg 108 #[Sl a L.length c,.agg #[Ii Jj k,Ii Jj i,Ii Jj t,Ii Jj m,Ii Jj r]] w fun e w'=>fb (am L k i t m r) w.heap.size w e w':=by
 have HF:=aa h
 have HR:=aa hR
 have hn:=hR.1
 have HO:=aa ho
 have HD0:Hid (am L k i t m r=bm L (ag L k i t m r)):=(by unfold am;rw[if_pos ho]:am L k i t m r=bm L (ag L k i t m r))
 obtain ⟨hp,_⟩:=ar hpi
 have HAI:Hid (aK (FL L) L.length i=(p:Int)):=aE hpi
 have HP:Hid (ag L k i t m r=aJ L p k m):=(by unfold ag;simp[hpi,k1,k7,k9]:ag L k i t m r=aJ L p k m)
 have j1:(k == 1)=false:=by simp[k1]
 have j7:(k == 7)=false:=by simp[k7]
 have j9:(k == 9)=false:=by simp[k9]
 have K1:=aa k1
 have K7:=aa k7
 have K9:=aa k9
 clear hpi k1 k7 k9
 obtain ⟨W,hW⟩:∃W,W=w.alloc (.cells #[Ii Jj k,Ii Jj i,Ii Jj t,Ii Jj m,Ii Jj r] 49):=⟨_,rfl⟩
 have OW:Hid (aN W w.heap.size k i t m r):=by rw[hW];exact aN.new w _ _ _ _ _ 49
 have BW:Hid (Below w.heap.size w W):=by rw[hW];exact (Bf _ _).alloc (Nf _) _
 obtain ⟨o0,o1,o2,o3,o4,oz⟩:=OW.out
 clear h hR ho
 go_enter Tryz.func108,Tryz.ntmps108
 go_upto_region 1 with fail
 rw[←hW]
 clear hW
 go_wp2_with fail
 refine (bQ k i t m r _ HO.out).mono ?_
 rintro e w1 ⟨rfl,B1⟩
 have O1:=aa (OW.out.below B1)
 have BW1:=aa (BW.out.trans (B1.mono BW.out.size))
 clear B1 OW BW o0 o1 o2 o3 o4 oz
 go_wp2_with fail
 refine (aP a L.length c L _ rfl (HF.out.below BW1.out)).mono ?_
 rintro e w2 ⟨g,c2,rfl,A2,B2⟩
 have O2:=aa (O1.out.below B2)
 have A2':=aa (A2.mono BW1.out.size)
 have BW2:=aa (BW1.out.trans (B2.mono BW1.out.size))
 have hw2:w.heap.size<=w2.heap.size:=BW2.out.size
 clear A2 B2 O1 BW1
 obtain ⟨o0,o1,o2,o3,o4,oz⟩:=O2.out
 clear O2
 go_wp2_with fail
 refine (bM a L.length c (FL L) i _ (HF.out.below BW2.out)).mono ?_
 rintro e wx ⟨rfl,hwx⟩
 have ew:w2=wx:=hwx.symm
 subst ew
 clear hwx
 rw[HAI.out]
 go_wp2_with fail
 refine (bM a L.length c (FL L) t _ (HF.out.below BW2.out)).mono ?_
 rintro e wx ⟨rfl,hwx⟩
 have ew:w2=wx:=hwx.symm
 subst ew
 clear hwx
 generalize aK (FL L) L.length t=zt
 go_wp2_with fail
 refine (sm w.heap.size g c2 L p k i t m r _ A2'.out hw2 HR.out hp HO.out K1.out K7.out K9.out).mono ?_
 rintro e w3 ⟨v3,rfl,A3,B3⟩
 have BW3:=aa (BW2.out.trans B3)
 have HLen:Hid ((ag L k i t m r).2.length<=L.length+1):=bC L k i t m r
 have HD:Hid (am L k i t m r=bm L (ag L k i t m r)):=HD0.out
 rw[HP.out] at HLen HD
 generalize aJ L p k m=R at*
 clear B3 HP
 obtain ⟨cd,L3⟩:=R
 have AH:=aa A3
 clear A3
 have hl3:L3.length<=1048576:=by have:=HLen.out;simp only at this;omega
 obtain ⟨a3,c3,hv3⟩:=AH.out.len
 subst hv3
 have F3:Hid (Fo w3 a3 L3.length (FL L3)):=(AH.out.fo hl3).2
 by_cases h0:cd=0
 ·subst h0
  by_cases hr3:al (FL L3) L3.length
  ·have E:Hid (am L k i t m r=(0,L3)):=(by rw[HD.out];simp[bm,hr3]:am L k i t m r=(0,L3))
   have HR3:=aa hr3
   clear hr3
   go_wp2_with fail
   refine (dr a3 L3.length c3 (FL L3) _ F3.out HR3.out).mono ?_
   rintro e w4 ⟨rfl,B4⟩
   have A4:=aa (AH.out.kept B4)
   have B4':=aa (BW3.out.trans (B4.mono BW3.out.size))
   clear B4
   go_wp2
   go_ret2
   rw[E.out]
   exact ⟨_,rfl,A4.out,B4'.out⟩
  ·have E:Hid (am L k i t m r=(7,L)):=(by rw[HD.out];simp[bm,hr3]:am L k i t m r=(7,L))
   have HR3:=aa hr3
   clear hr3
   go_wp2_with fail
   refine (eW a3 L3.length c3 (FL L3) _ F3.out HR3.out).mono ?_
   rintro e w4 ⟨rfl,B4⟩
   have B4':=aa (BW3.out.trans (B4.mono BW3.out.size))
   clear B4
   go_wp2_with fail
   refine (aP a L.length c L _ rfl (HF.out.below B4'.out)).mono ?_
   rintro e w9 ⟨g9,c9,rfl,A9,B9⟩
   have A9':=aa (A9.mono B4'.out.size)
   have B9':=aa (B4'.out.trans (B9.mono B4'.out.size))
   clear A9 B9
   go_wp2
   go_ret2
   rw[E.out]
   exact ⟨_,rfl,A9'.out,B9'.out⟩
 ·have E:Hid (am L k i t m r=(cd,L)):=(by rw[HD.out];simp[bm,h0]:am L k i t m r=(cd,L))
  have hb0:(cd == 0)=false:=by simp[h0]
  have hb1:(cd != 0)=true:=by simp[h0]
  clear h0
  go_wp2_with fail
  refine (aP a L.length c L _ rfl (HF.out.below BW3.out)).mono ?_
  rintro e w9 ⟨g9,c9,rfl,A9,B9⟩
  have A9':=aa (A9.mono BW3.out.size)
  have B9':=aa (BW3.out.trans (B9.mono BW3.out.size))
  clear A9 B9
  go_wp2
  go_ret2
  rw[E.out]
  exact ⟨_,rfl,A9'.out,B9'.out⟩
open Go.RowKit
theorem eY (a:Option Addr) (c:Nat) (L:List aj) (k i t m r:Int) (w:World) (h:Fo w a L.length (FL L)) (hR:al (FL L) L.length):
  Calls Pg 108 #[Sl a L.length c,.agg #[Ii Jj k,Ii Jj i,Ii Jj t,Ii Jj m,Ii Jj r]] w fun e w'=>fb (am L k i t m r) w.heap.size w e w':=by
 by_cases ho:az k i t m r
 ·by_cases k1:k=1
  ·subst k1;exact ke a c L i t m r w h hR ho
  ·cases hpi:ao (FL L) L.length i with
   | none=>
    by_cases k7:k=7
    ·subst k7;exact ji a c L i t m r w h hR ho hpi
    ·by_cases k9:k=9
     ·subst k9;exact jk a c L i t m r w h hR ho hpi
     ·exact kc a c L k i t m r w h hR ho hpi k1 k7 k9
   | some p=>
    by_cases k7:k=7
    ·subst k7
     cases hpt:ao (FL L) L.length t with
     | none=>exact lq a c L i t m r w h hR ho p hpi hpt
     | some q=>exact ls a c L i t m r w h hR ho p q hpi hpt
    ·by_cases k9:k=9
     ·subst k9
      cases hpt:ao (FL L) L.length t with
      | none=>exact lr a c L i t m r w h hR ho p hpi hpt
      | some q=>exact kf a c L i t m r w h hR ho p q hpi hpt
     ·exact lu a c L k i t m r w h hR ho p hpi k1 k7 k9
 ·exact kb a c L k i t m r w h ho
open Classical in
noncomputable def cC (L:List aj) (k i t m r:Int):Int×List aj:=if al (FL L) L.length then am L k i t m r else (1,[])
end Go.Proofs.YtghkbhggopiajaaGreatDoor
