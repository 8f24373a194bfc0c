/- The specification's Done. -/
import Derived.Test.YtghkbhggopiajaaGreatDoorPaysr
set_option maxHeartbeats 2000000
set_option maxRecDepth 8000
namespace Go.Proofs.YtghkbhggopiajaaGreatDoor
open Go.RowKit
theorem specDone_form (a:Option Addr) (c:Nat) (L:List Acc) (k i t m r:Int) (w:World) (h:Fo w a L.length (FL L)) (ho:¬opOk k i t m r):
  Calls Tryz.prog 108 #[.slice a L.length c,.agg #[.int .i64 k,.int .i64 i,.int .i64 t,.int .i64 m,.int .i64 r]] w fun e w'=>Out (doneS L k i t m r) w.heap.size w e w':=by
 have HF:=hidOf h
 have HO:=hidOf ho
 have E:Hid (doneS L k i t m r=(2,L)):=(by unfold doneS;rw[if_neg ho]:doneS L k i t m r=(2,L))
 obtain ⟨W,hW⟩:∃W,W=w.alloc (.cells #[.int .i64 k,.int .i64 i,.int .i64 t,.int .i64 m,.int .i64 r] 49):=⟨_,rfl⟩
 have OW:Hid (OpBox W w.heap.size k i t m r):=by rw[hW];exact OpBox.new w _ _ _ _ _ 49
 have BW:Hid (Below w.heap.size w W):=by rw[hW];exact (Below.refl _ _).alloc (Nat.le_refl _) _
 obtain ⟨o0,o1,o2,o3,o4,oz⟩:=OW.out
 clear h ho
 go_enter Tryz.func108,Tryz.ntmps108
 go_upto_region 1 with fail
 rw[←hW]
 clear hW
 go_wp2_with fail
 refine (specOpOk_no k i t m r _ HO.out).mono ?_
 rintro e w1 ⟨rfl,B1⟩
 have BW1:=hidOf (BW.out.trans (B1.mono BW.out.size))
 clear B1 OW BW o0 o1 o2 o3 o4 oz
 go_wp2_with fail
 refine (specCopy2 a L.length c L _ rfl (HF.out.below BW1.out)).mono ?_
 rintro e w9 ⟨g9,c9,rfl,A9,B9⟩
 have A9':=hidOf (A9.mono BW1.out.size)
 have B9':=hidOf (BW1.out.trans (B9.mono BW1.out.size))
 clear A9 B9
 go_wp2
 go_ret2
 rw[E.out]
 exact ⟨_,rfl,A9'.out,B9'.out⟩
theorem specDone_none (a:Option Addr) (c:Nat) (L:List Acc) (k i t m r:Int) (w:World) (h:Fo w a L.length (FL L)) (hR:Right (FL L) L.length) (ho:opOk k i t m r) (hpi:place (FL L) L.length i=none) (k1:k≠1) (k7:k≠7) (k9:k≠9):
  Calls Tryz.prog 108 #[.slice a L.length c,.agg #[.int .i64 k,.int .i64 i,.int .i64 t,.int .i64 m,.int .i64 r]] w fun e w'=>Out (doneS L k i t m r) w.heap.size w e w':=by
 have HF:=hidOf h
 have HR:=hidOf hR
 have hn:=hR.1
 have HO:=hidOf ho
 have HD0:Hid (doneS L k i t m r=finS L (partS L k i t m r)):=(by unfold doneS;rw[if_pos ho]:doneS L k i t m r=finS L (partS L k i t m r))
 have HP:Hid (partS L k i t m r=(3,L)):=(by unfold partS;simp[hpi,k1]:partS L k i t m r=(3,L))
 have HAI:Hid (placeI (FL L) L.length i= -1):=placeI_none hpi
 have j1:(k == 1)=false:=by simp[k1]
 have j7:(k == 7)=false:=by simp[k7]
 have j9:(k == 9)=false:=by simp[k9]
 clear k1 k7 k9
 clear hpi
 obtain ⟨W,hW⟩:∃W,W=w.alloc (.cells #[.int .i64 k,.int .i64 i,.int .i64 t,.int .i64 m,.int .i64 r] 49):=⟨_,rfl⟩
 have OW:Hid (OpBox W w.heap.size k i t m r):=by rw[hW];exact OpBox.new w _ _ _ _ _ 49
 have BW:Hid (Below w.heap.size w W):=by rw[hW];exact (Below.refl _ _).alloc (Nat.le_refl _) _
 obtain ⟨o0,o1,o2,o3,o4,oz⟩:=OW.out
 clear h hR ho
 go_enter Tryz.func108,Tryz.ntmps108
 go_upto_region 1 with fail
 rw[←hW]
 clear hW
 go_wp2_with fail
 refine (specOpOk_yes k i t m r _ HO.out).mono ?_
 rintro e w1 ⟨rfl,B1⟩
 have O1:=hidOf (OW.out.below B1)
 have BW1:=hidOf (BW.out.trans (B1.mono BW.out.size))
 clear B1 OW BW o0 o1 o2 o3 o4 oz
 go_wp2_with fail
 refine (specCopy2 a L.length c L _ rfl (HF.out.below BW1.out)).mono ?_
 rintro e w2 ⟨g,c2,rfl,A2,B2⟩
 have O2:=hidOf (O1.out.below B2)
 have A2':=hidOf (A2.mono BW1.out.size)
 have BW2:=hidOf (BW1.out.trans (B2.mono BW1.out.size))
 have hw2:w.heap.size<=w2.heap.size:=BW2.out.size
 clear A2 B2 O1 BW1
 obtain ⟨o0,o1,o2,o3,o4,oz⟩:=O2.out
 clear O2
 go_wp2_with fail
 refine (specAt a L.length c (FL L) i _ (HF.out.below BW2.out)).mono ?_
 rintro e wx ⟨rfl,hwx⟩
 have ew:w2=wx:=hwx.symm
 subst ew
 clear hwx
 rw[HAI.out]
 go_wp2_with fail
 refine (specAt a L.length c (FL L) t _ (HF.out.below BW2.out)).mono ?_
 rintro e wx ⟨rfl,hwx⟩
 have ew:w2=wx:=hwx.symm
 subst ew
 clear hwx
 generalize placeI (FL L) L.length t=zt
 have E:Hid (doneS L k i t m r=(3,L)):=(by rw[HD0.out,HP.out];simp[finS]:doneS L k i t m r=(3,L))
 go_wp2_with fail
 refine (specCopy2 a L.length c L _ rfl (HF.out.below BW2.out)).mono ?_
 rintro e w9 ⟨g9,c9,rfl,A9,B9⟩
 have A9':=hidOf (A9.mono BW2.out.size)
 have B9':=hidOf (BW2.out.trans (B9.mono BW2.out.size))
 clear A9 B9
 go_wp2
 go_ret2
 rw[E.out]
 exact ⟨_,rfl,A9'.out,B9'.out⟩
theorem specDone_none7 (a:Option Addr) (c:Nat) (L:List Acc) (i t m r:Int) (w:World) (h:Fo w a L.length (FL L)) (hR:Right (FL L) L.length) (ho:opOk 7 i t m r) (hpi:place (FL L) L.length i=none):
  Calls Tryz.prog 108 #[.slice a L.length c,.agg #[.int .i64 7,.int .i64 i,.int .i64 t,.int .i64 m,.int .i64 r]] w fun e w'=>Out (doneS L 7 i t m r) w.heap.size w e w':=by
 have HF:=hidOf h
 have HR:=hidOf hR
 have hn:=hR.1
 have HO:=hidOf ho
 have HD0:Hid (doneS L 7 i t m r=finS L (partS L 7 i t m r)):=(by unfold doneS;rw[if_pos ho]:doneS L 7 i t m r=finS L (partS L 7 i t m r))
 have HP:Hid (partS L 7 i t m r=(3,L)):=(by unfold partS;simp[hpi]:partS L 7 i t m r=(3,L))
 have HAI:Hid (placeI (FL L) L.length i= -1):=placeI_none hpi
 clear hpi
 obtain ⟨W,hW⟩:∃W,W=w.alloc (.cells #[.int .i64 7,.int .i64 i,.int .i64 t,.int .i64 m,.int .i64 r] 49):=⟨_,rfl⟩
 have OW:Hid (OpBox W w.heap.size 7 i t m r):=by rw[hW];exact OpBox.new w _ _ _ _ _ 49
 have BW:Hid (Below w.heap.size w W):=by rw[hW];exact (Below.refl _ _).alloc (Nat.le_refl _) _
 obtain ⟨o0,o1,o2,o3,o4,oz⟩:=OW.out
 clear h hR ho
 go_enter Tryz.func108,Tryz.ntmps108
 go_upto_region 1 with fail
 rw[←hW]
 clear hW
 go_wp2_with fail
 refine (specOpOk_yes 7 i t m r _ HO.out).mono ?_
 rintro e w1 ⟨rfl,B1⟩
 have O1:=hidOf (OW.out.below B1)
 have BW1:=hidOf (BW.out.trans (B1.mono BW.out.size))
 clear B1 OW BW o0 o1 o2 o3 o4 oz
 go_wp2_with fail
 refine (specCopy2 a L.length c L _ rfl (HF.out.below BW1.out)).mono ?_
 rintro e w2 ⟨g,c2,rfl,A2,B2⟩
 have O2:=hidOf (O1.out.below B2)
 have A2':=hidOf (A2.mono BW1.out.size)
 have BW2:=hidOf (BW1.out.trans (B2.mono BW1.out.size))
 have hw2:w.heap.size<=w2.heap.size:=BW2.out.size
 clear A2 B2 O1 BW1
 obtain ⟨o0,o1,o2,o3,o4,oz⟩:=O2.out
 clear O2
 go_wp2_with fail
 refine (specAt a L.length c (FL L) i _ (HF.out.below BW2.out)).mono ?_
 rintro e wx ⟨rfl,hwx⟩
 have ew:w2=wx:=hwx.symm
 subst ew
 clear hwx
 rw[HAI.out]
 go_wp2_with fail
 refine (specAt a L.length c (FL L) t _ (HF.out.below BW2.out)).mono ?_
 rintro e wx ⟨rfl,hwx⟩
 have ew:w2=wx:=hwx.symm
 subst ew
 clear hwx
 generalize placeI (FL L) L.length t=zt
 have E:Hid (doneS L 7 i t m r=(3,L)):=(by rw[HD0.out,HP.out];simp[finS]:doneS L 7 i t m r=(3,L))
 go_wp2_with fail
 refine (specCopy2 a L.length c L _ rfl (HF.out.below BW2.out)).mono ?_
 rintro e w9 ⟨g9,c9,rfl,A9,B9⟩
 have A9':=hidOf (A9.mono BW2.out.size)
 have B9':=hidOf (BW2.out.trans (B9.mono BW2.out.size))
 clear A9 B9
 go_wp2
 go_ret2
 rw[E.out]
 exact ⟨_,rfl,A9'.out,B9'.out⟩
theorem specDone_none9 (a:Option Addr) (c:Nat) (L:List Acc) (i t m r:Int) (w:World) (h:Fo w a L.length (FL L)) (hR:Right (FL L) L.length) (ho:opOk 9 i t m r) (hpi:place (FL L) L.length i=none):
  Calls Tryz.prog 108 #[.slice a L.length c,.agg #[.int .i64 9,.int .i64 i,.int .i64 t,.int .i64 m,.int .i64 r]] w fun e w'=>Out (doneS L 9 i t m r) w.heap.size w e w':=by
 have HF:=hidOf h
 have HR:=hidOf hR
 have hn:=hR.1
 have HO:=hidOf ho
 have HD0:Hid (doneS L 9 i t m r=finS L (partS L 9 i t m r)):=(by unfold doneS;rw[if_pos ho]:doneS L 9 i t m r=finS L (partS L 9 i t m r))
 have HP:Hid (partS L 9 i t m r=(3,L)):=(by unfold partS;simp[hpi]:partS L 9 i t m r=(3,L))
 have HAI:Hid (placeI (FL L) L.length i= -1):=placeI_none hpi
 clear hpi
 obtain ⟨W,hW⟩:∃W,W=w.alloc (.cells #[.int .i64 9,.int .i64 i,.int .i64 t,.int .i64 m,.int .i64 r] 49):=⟨_,rfl⟩
 have OW:Hid (OpBox W w.heap.size 9 i t m r):=by rw[hW];exact OpBox.new w _ _ _ _ _ 49
 have BW:Hid (Below w.heap.size w W):=by rw[hW];exact (Below.refl _ _).alloc (Nat.le_refl _) _
 obtain ⟨o0,o1,o2,o3,o4,oz⟩:=OW.out
 clear h hR ho
 go_enter Tryz.func108,Tryz.ntmps108
 go_upto_region 1 with fail
 rw[←hW]
 clear hW
 go_wp2_with fail
 refine (specOpOk_yes 9 i t m r _ HO.out).mono ?_
 rintro e w1 ⟨rfl,B1⟩
 have O1:=hidOf (OW.out.below B1)
 have BW1:=hidOf (BW.out.trans (B1.mono BW.out.size))
 clear B1 OW BW o0 o1 o2 o3 o4 oz
 go_wp2_with fail
 refine (specCopy2 a L.length c L _ rfl (HF.out.below BW1.out)).mono ?_
 rintro e w2 ⟨g,c2,rfl,A2,B2⟩
 have O2:=hidOf (O1.out.below B2)
 have A2':=hidOf (A2.mono BW1.out.size)
 have BW2:=hidOf (BW1.out.trans (B2.mono BW1.out.size))
 have hw2:w.heap.size<=w2.heap.size:=BW2.out.size
 clear A2 B2 O1 BW1
 obtain ⟨o0,o1,o2,o3,o4,oz⟩:=O2.out
 clear O2
 go_wp2_with fail
 refine (specAt a L.length c (FL L) i _ (HF.out.below BW2.out)).mono ?_
 rintro e wx ⟨rfl,hwx⟩
 have ew:w2=wx:=hwx.symm
 subst ew
 clear hwx
 rw[HAI.out]
 go_wp2_with fail
 refine (specAt a L.length c (FL L) t _ (HF.out.below BW2.out)).mono ?_
 rintro e wx ⟨rfl,hwx⟩
 have ew:w2=wx:=hwx.symm
 subst ew
 clear hwx
 generalize placeI (FL L) L.length t=zt
 have E:Hid (doneS L 9 i t m r=(3,L)):=(by rw[HD0.out,HP.out];simp[finS]:doneS L 9 i t m r=(3,L))
 go_wp2_with fail
 refine (specCopy2 a L.length c L _ rfl (HF.out.below BW2.out)).mono ?_
 rintro e w9 ⟨g9,c9,rfl,A9,B9⟩
 have A9':=hidOf (A9.mono BW2.out.size)
 have B9':=hidOf (BW2.out.trans (B9.mono BW2.out.size))
 clear A9 B9
 go_wp2
 go_ret2
 rw[E.out]
 exact ⟨_,rfl,A9'.out,B9'.out⟩
theorem specDone_to7 (a:Option Addr) (c:Nat) (L:List Acc) (i t m r:Int) (w:World) (h:Fo w a L.length (FL L)) (hR:Right (FL L) L.length) (ho:opOk 7 i t m r) (p:Nat) (hpi:place (FL L) L.length i=some p) (hpt:place (FL L) L.length t=none):
  Calls Tryz.prog 108 #[.slice a L.length c,.agg #[.int .i64 7,.int .i64 i,.int .i64 t,.int .i64 m,.int .i64 r]] w fun e w'=>Out (doneS L 7 i t m r) w.heap.size w e w':=by
 have HF:=hidOf h
 have HR:=hidOf hR
 have hn:=hR.1
 have HO:=hidOf ho
 have HD0:Hid (doneS L 7 i t m r=finS L (partS L 7 i t m r)):=(by unfold doneS;rw[if_pos ho]:doneS L 7 i t m r=finS L (partS L 7 i t m r))
 have HP:Hid (partS L 7 i t m r=(3,L)):=(by unfold partS;simp[hpi,hpt]:partS L 7 i t m r=(3,L))
 have HAI:Hid (placeI (FL L) L.length i=(p:Int)):=placeI_some hpi
 have HAT:Hid (placeI (FL L) L.length t= -1):=placeI_none hpt
 clear hpi hpt
 obtain ⟨W,hW⟩:∃W,W=w.alloc (.cells #[.int .i64 7,.int .i64 i,.int .i64 t,.int .i64 m,.int .i64 r] 49):=⟨_,rfl⟩
 have OW:Hid (OpBox W w.heap.size 7 i t m r):=by rw[hW];exact OpBox.new w _ _ _ _ _ 49
 have BW:Hid (Below w.heap.size w W):=by rw[hW];exact (Below.refl _ _).alloc (Nat.le_refl _) _
 obtain ⟨o0,o1,o2,o3,o4,oz⟩:=OW.out
 clear h hR ho
 go_enter Tryz.func108,Tryz.ntmps108
 go_upto_region 1 with fail
 rw[←hW]
 clear hW
 go_wp2_with fail
 refine (specOpOk_yes 7 i t m r _ HO.out).mono ?_
 rintro e w1 ⟨rfl,B1⟩
 have O1:=hidOf (OW.out.below B1)
 have BW1:=hidOf (BW.out.trans (B1.mono BW.out.size))
 clear B1 OW BW o0 o1 o2 o3 o4 oz
 go_wp2_with fail
 refine (specCopy2 a L.length c L _ rfl (HF.out.below BW1.out)).mono ?_
 rintro e w2 ⟨g,c2,rfl,A2,B2⟩
 have O2:=hidOf (O1.out.below B2)
 have A2':=hidOf (A2.mono BW1.out.size)
 have BW2:=hidOf (BW1.out.trans (B2.mono BW1.out.size))
 have hw2:w.heap.size<=w2.heap.size:=BW2.out.size
 clear A2 B2 O1 BW1
 obtain ⟨o0,o1,o2,o3,o4,oz⟩:=O2.out
 clear O2
 go_wp2_with fail
 refine (specAt a L.length c (FL L) i _ (HF.out.below BW2.out)).mono ?_
 rintro e wx ⟨rfl,hwx⟩
 have ew:w2=wx:=hwx.symm
 subst ew
 clear hwx
 rw[HAI.out]
 go_wp2_with fail
 refine (specAt a L.length c (FL L) t _ (HF.out.below BW2.out)).mono ?_
 rintro e wx ⟨rfl,hwx⟩
 have ew:w2=wx:=hwx.symm
 subst ew
 clear hwx
 rw[HAT.out]
 have E:Hid (doneS L 7 i t m r=(3,L)):=(by rw[HD0.out,HP.out];simp[finS]:doneS L 7 i t m r=(3,L))
 go_wp2_with fail
 refine (specCopy2 a L.length c L _ rfl (HF.out.below BW2.out)).mono ?_
 rintro e w9 ⟨g9,c9,rfl,A9,B9⟩
 have A9':=hidOf (A9.mono BW2.out.size)
 have B9':=hidOf (BW2.out.trans (B9.mono BW2.out.size))
 clear A9 B9
 go_wp2
 go_ret2
 rw[E.out]
 exact ⟨_,rfl,A9'.out,B9'.out⟩
theorem specDone_to9 (a:Option Addr) (c:Nat) (L:List Acc) (i t m r:Int) (w:World) (h:Fo w a L.length (FL L)) (hR:Right (FL L) L.length) (ho:opOk 9 i t m r) (p:Nat) (hpi:place (FL L) L.length i=some p) (hpt:place (FL L) L.length t=none):
  Calls Tryz.prog 108 #[.slice a L.length c,.agg #[.int .i64 9,.int .i64 i,.int .i64 t,.int .i64 m,.int .i64 r]] w fun e w'=>Out (doneS L 9 i t m r) w.heap.size w e w':=by
 have HF:=hidOf h
 have HR:=hidOf hR
 have hn:=hR.1
 have HO:=hidOf ho
 have HD0:Hid (doneS L 9 i t m r=finS L (partS L 9 i t m r)):=(by unfold doneS;rw[if_pos ho]:doneS L 9 i t m r=finS L (partS L 9 i t m r))
 have HP:Hid (partS L 9 i t m r=(3,L)):=(by unfold partS;simp[hpi,hpt]:partS L 9 i t m r=(3,L))
 have HAI:Hid (placeI (FL L) L.length i=(p:Int)):=placeI_some hpi
 have HAT:Hid (placeI (FL L) L.length t= -1):=placeI_none hpt
 clear hpi hpt
 obtain ⟨W,hW⟩:∃W,W=w.alloc (.cells #[.int .i64 9,.int .i64 i,.int .i64 t,.int .i64 m,.int .i64 r] 49):=⟨_,rfl⟩
 have OW:Hid (OpBox W w.heap.size 9 i t m r):=by rw[hW];exact OpBox.new w _ _ _ _ _ 49
 have BW:Hid (Below w.heap.size w W):=by rw[hW];exact (Below.refl _ _).alloc (Nat.le_refl _) _
 obtain ⟨o0,o1,o2,o3,o4,oz⟩:=OW.out
 clear h hR ho
 go_enter Tryz.func108,Tryz.ntmps108
 go_upto_region 1 with fail
 rw[←hW]
 clear hW
 go_wp2_with fail
 refine (specOpOk_yes 9 i t m r _ HO.out).mono ?_
 rintro e w1 ⟨rfl,B1⟩
 have O1:=hidOf (OW.out.below B1)
 have BW1:=hidOf (BW.out.trans (B1.mono BW.out.size))
 clear B1 OW BW o0 o1 o2 o3 o4 oz
 go_wp2_with fail
 refine (specCopy2 a L.length c L _ rfl (HF.out.below BW1.out)).mono ?_
 rintro e w2 ⟨g,c2,rfl,A2,B2⟩
 have O2:=hidOf (O1.out.below B2)
 have A2':=hidOf (A2.mono BW1.out.size)
 have BW2:=hidOf (BW1.out.trans (B2.mono BW1.out.size))
 have hw2:w.heap.size<=w2.heap.size:=BW2.out.size
 clear A2 B2 O1 BW1
 obtain ⟨o0,o1,o2,o3,o4,oz⟩:=O2.out
 clear O2
 go_wp2_with fail
 refine (specAt a L.length c (FL L) i _ (HF.out.below BW2.out)).mono ?_
 rintro e wx ⟨rfl,hwx⟩
 have ew:w2=wx:=hwx.symm
 subst ew
 clear hwx
 rw[HAI.out]
 go_wp2_with fail
 refine (specAt a L.length c (FL L) t _ (HF.out.below BW2.out)).mono ?_
 rintro e wx ⟨rfl,hwx⟩
 have ew:w2=wx:=hwx.symm
 subst ew
 clear hwx
 rw[HAT.out]
 have E:Hid (doneS L 9 i t m r=(3,L)):=(by rw[HD0.out,HP.out];simp[finS]:doneS L 9 i t m r=(3,L))
 go_wp2_with fail
 refine (specCopy2 a L.length c L _ rfl (HF.out.below BW2.out)).mono ?_
 rintro e w9 ⟨g9,c9,rfl,A9,B9⟩
 have A9':=hidOf (A9.mono BW2.out.size)
 have B9':=hidOf (BW2.out.trans (B9.mono BW2.out.size))
 clear A9 B9
 go_wp2
 go_ret2
 rw[E.out]
 exact ⟨_,rfl,A9'.out,B9'.out⟩
open Go.RowKit
theorem specDone_open (a:Option Addr) (c:Nat) (L:List Acc) (i t m r:Int) (w:World) (h:Fo w a L.length (FL L)) (hR:Right (FL L) L.length) (ho:opOk 1 i t m r):
  Calls Tryz.prog 108 #[.slice a L.length c,.agg #[.int .i64 1,.int .i64 i,.int .i64 t,.int .i64 m,.int .i64 r]] w fun e w'=>Out (doneS L 1 i t m r) w.heap.size w e w':=by
 have HF:=hidOf h
 have HR:=hidOf hR
 have hn:=hR.1
 have HO:=hidOf ho
 have HD0:Hid (doneS L 1 i t m r=finS L (partS L 1 i t m r)):=(by unfold doneS;rw[if_pos ho]:doneS L 1 i t m r=finS L (partS L 1 i t m r))
 have HP:Hid (partS L 1 i t m r=openS L i t m r):=(by unfold partS;rw[if_pos rfl]:partS L 1 i t m r=openS L i t m r)
 obtain ⟨W,hW⟩:∃W,W=w.alloc (.cells #[.int .i64 1,.int .i64 i,.int .i64 t,.int .i64 m,.int .i64 r] 49):=⟨_,rfl⟩
 have OW:Hid (OpBox W w.heap.size 1 i t m r):=by rw[hW];exact OpBox.new w _ _ _ _ _ 49
 have BW:Hid (Below w.heap.size w W):=by rw[hW];exact (Below.refl _ _).alloc (Nat.le_refl _) _
 obtain ⟨o0,o1,o2,o3,o4,oz⟩:=OW.out
 clear h hR ho
 go_enter Tryz.func108,Tryz.ntmps108
 go_upto_region 1 with fail
 rw[←hW]
 clear hW
 go_wp2_with fail
 refine (specOpOk_yes 1 i t m r _ HO.out).mono ?_
 rintro e w1 ⟨rfl,B1⟩
 have O1:=hidOf (OW.out.below B1)
 have BW1:=hidOf (BW.out.trans (B1.mono BW.out.size))
 clear B1 OW BW o0 o1 o2 o3 o4 oz
 go_wp2_with fail
 refine (specCopy2 a L.length c L _ rfl (HF.out.below BW1.out)).mono ?_
 rintro e w2 ⟨g,c2,rfl,A2,B2⟩
 have O2:=hidOf (O1.out.below B2)
 have A2':=hidOf (A2.mono BW1.out.size)
 have BW2:=hidOf (BW1.out.trans (B2.mono BW1.out.size))
 have hw2:w.heap.size<=w2.heap.size:=BW2.out.size
 clear A2 B2 O1 BW1
 obtain ⟨o0,o1,o2,o3,o4,oz⟩:=O2.out
 clear O2
 go_wp2_with fail
 refine (specAt a L.length c (FL L) i _ (HF.out.below BW2.out)).mono ?_
 rintro e wx ⟨rfl,hwx⟩
 have ew:w2=wx:=hwx.symm
 subst ew
 clear hwx
 generalize placeI (FL L) L.length i=zi
 go_wp2_with fail
 refine (specAt a L.length c (FL L) t _ (HF.out.below BW2.out)).mono ?_
 rintro e wx ⟨rfl,hwx⟩
 have ew:w2=wx:=hwx.symm
 subst ew
 clear hwx
 generalize placeI (FL L) L.length t=zt
 go_wp2_with fail
 refine (specOpen w.heap.size g c2 L i t m r _ A2'.out hw2 hn).mono ?_
 rintro e w3 ⟨v3,rfl,A3,B3⟩
 have BW3:=hidOf (BW2.out.trans B3)
 have HLen:Hid ((partS L 1 i t m r).2.length<=L.length+1):=partS_len L 1 i t m r
 have HD:Hid (doneS L 1 i t m r=finS L (partS L 1 i t m r)):=HD0.out
 rw[HP.out] at HLen HD
 generalize openS L i t m r=R at*
 clear B3 HP
 obtain ⟨cd,L3⟩:=R
 have AH:=hidOf A3
 clear A3
 have hl3:L3.length<=1048576:=by have:=HLen.out;simp only at this;omega
 obtain ⟨a3,c3,hv3⟩:=AH.out.len
 subst hv3
 have F3:Hid (Fo w3 a3 L3.length (FL L3)):=(AH.out.fo hl3).2
 by_cases h0:cd=0
 ·subst h0
  by_cases hr3:Right (FL L3) L3.length
  ·have E:Hid (doneS L 1 i t m r=(0,L3)):=(by rw[HD.out];simp[finS,hr3]:doneS L 1 i t m r=(0,L3))
   have HR3:=hidOf hr3
   clear hr3
   go_wp2_with fail
   refine (specOk_yes a3 L3.length c3 (FL L3) _ F3.out HR3.out).mono ?_
   rintro e w4 ⟨rfl,B4⟩
   have A4:=hidOf (AH.out.kept B4)
   have B4':=hidOf (BW3.out.trans (B4.mono BW3.out.size))
   clear B4
   go_wp2
   go_ret2
   rw[E.out]
   exact ⟨_,rfl,A4.out,B4'.out⟩
  ·have E:Hid (doneS L 1 i t m r=(7,L)):=(by rw[HD.out];simp[finS,hr3]:doneS L 1 i t m r=(7,L))
   have HR3:=hidOf hr3
   clear hr3
   go_wp2_with fail
   refine (specOk_no a3 L3.length c3 (FL L3) _ F3.out HR3.out).mono ?_
   rintro e w4 ⟨rfl,B4⟩
   have B4':=hidOf (BW3.out.trans (B4.mono BW3.out.size))
   clear B4
   go_wp2_with fail
   refine (specCopy2 a L.length c L _ rfl (HF.out.below B4'.out)).mono ?_
   rintro e w9 ⟨g9,c9,rfl,A9,B9⟩
   have A9':=hidOf (A9.mono B4'.out.size)
   have B9':=hidOf (B4'.out.trans (B9.mono B4'.out.size))
   clear A9 B9
   go_wp2
   go_ret2
   rw[E.out]
   exact ⟨_,rfl,A9'.out,B9'.out⟩
 ·have E:Hid (doneS L 1 i t m r=(cd,L)):=(by rw[HD.out];simp[finS,h0]:doneS L 1 i t m r=(cd,L))
  have hb0:(cd == 0)=false:=by simp[h0]
  have hb1:(cd != 0)=true:=by simp[h0]
  clear h0
  go_wp2_with fail
  refine (specCopy2 a L.length c L _ rfl (HF.out.below BW3.out)).mono ?_
  rintro e w9 ⟨g9,c9,rfl,A9,B9⟩
  have A9':=hidOf (A9.mono BW3.out.size)
  have B9':=hidOf (BW3.out.trans (B9.mono BW3.out.size))
  clear A9 B9
  go_wp2
  go_ret2
  rw[E.out]
  exact ⟨_,rfl,A9'.out,B9'.out⟩
open Go.RowKit
theorem specPay_out (B g c:Nat) (L:List Acc) (p q:Nat) (m:Int) (w:World) (h:AL w B (.slice (some ⟨g,0,none⟩) L.length c) L) (hBw:B<=w.heap.size) (hR:Right (FL L) L.length) (hp:p<L.length) (hq:q<L.length) (hpq:p≠q) (hm1:1<=m) (hm2:m<=1000000000000):
  Calls Tryz.prog 146 #[.slice (some ⟨g,0,none⟩) L.length c,.int .i64 p,.int .i64 q,.int .i64 m] w fun e w'=>Out (payS L p q m) B w e w':=
 (specPay B g c L p q m w h hBw hR hp hq hpq hm1 hm2).mono fun _ _ ⟨a,b,d⟩=>⟨_,a,b,d⟩
theorem specDone_pay (a:Option Addr) (c:Nat) (L:List Acc) (i t m r:Int) (w:World) (h:Fo w a L.length (FL L)) (hR:Right (FL L) L.length) (ho:opOk 7 i t m r) (p q:Nat) (hpi:place (FL L) L.length i=some p) (hpt:place (FL L) L.length t=some q):
  Calls Tryz.prog 108 #[.slice a L.length c,.agg #[.int .i64 7,.int .i64 i,.int .i64 t,.int .i64 m,.int .i64 r]] w fun e w'=>Out (doneS L 7 i t m r) w.heap.size w e w':=by
 have HF:=hidOf h
 have HR:=hidOf hR
 have hn:=hR.1
 have HO:=hidOf ho
 have HD0:Hid (doneS L 7 i t m r=finS L (partS L 7 i t m r)):=(by unfold doneS;rw[if_pos ho]:doneS L 7 i t m r=finS L (partS L 7 i t m r))
 obtain ⟨hp,hid⟩:=place_some hpi
 have HAI:Hid (placeI (FL L) L.length i=(p:Int)):=placeI_some hpi
 obtain ⟨hq,hit⟩:=place_some hpt
 have HAT:Hid (placeI (FL L) L.length t=(q:Int)):=placeI_some hpt
 have HP:Hid (partS L 7 i t m r=payS L p q m):=(by unfold partS;simp[hpi,hpt]:partS L 7 i t m r=payS L p q m)
 have hpq:p≠q:=fun e=>by
  have ho:=HO.out
  unfold opOk at ho
  rw[e,hit] at hid
  omega
 obtain ⟨hm1,hm2⟩:1<=m/\m<=1000000000000:=by have ho:=HO.out;unfold opOk at ho;omega
 clear hpi hpt hid hit
 obtain ⟨W,hW⟩:∃W,W=w.alloc (.cells #[.int .i64 7,.int .i64 i,.int .i64 t,.int .i64 m,.int .i64 r] 49):=⟨_,rfl⟩
 have OW:Hid (OpBox W w.heap.size 7 i t m r):=by rw[hW];exact OpBox.new w _ _ _ _ _ 49
 have BW:Hid (Below w.heap.size w W):=by rw[hW];exact (Below.refl _ _).alloc (Nat.le_refl _) _
 obtain ⟨o0,o1,o2,o3,o4,oz⟩:=OW.out
 clear h hR ho
 go_enter Tryz.func108,Tryz.ntmps108
 go_upto_region 1 with fail
 rw[←hW]
 clear hW
 go_wp2_with fail
 refine (specOpOk_yes 7 i t m r _ HO.out).mono ?_
 rintro e w1 ⟨rfl,B1⟩
 have O1:=hidOf (OW.out.below B1)
 have BW1:=hidOf (BW.out.trans (B1.mono BW.out.size))
 clear B1 OW BW o0 o1 o2 o3 o4 oz
 go_wp2_with fail
 refine (specCopy2 a L.length c L _ rfl (HF.out.below BW1.out)).mono ?_
 rintro e w2 ⟨g,c2,rfl,A2,B2⟩
 have O2:=hidOf (O1.out.below B2)
 have A2':=hidOf (A2.mono BW1.out.size)
 have BW2:=hidOf (BW1.out.trans (B2.mono BW1.out.size))
 have hw2:w.heap.size<=w2.heap.size:=BW2.out.size
 clear A2 B2 O1 BW1
 obtain ⟨o0,o1,o2,o3,o4,oz⟩:=O2.out
 clear O2
 go_wp2_with fail
 refine (specAt a L.length c (FL L) i _ (HF.out.below BW2.out)).mono ?_
 rintro e wx ⟨rfl,hwx⟩
 have ew:w2=wx:=hwx.symm
 subst ew
 clear hwx
 rw[HAI.out]
 go_wp2_with fail
 refine (specAt a L.length c (FL L) t _ (HF.out.below BW2.out)).mono ?_
 rintro e wx ⟨rfl,hwx⟩
 have ew:w2=wx:=hwx.symm
 subst ew
 clear hwx
 rw[HAT.out]
 go_wp2_with fail
 refine (specPay_out w.heap.size g c2 L p q m _ A2'.out hw2 HR.out hp hq hpq hm1 hm2).mono ?_
 rintro e w3 ⟨v3,rfl,A3,B3⟩
 have BW3:=hidOf (BW2.out.trans B3)
 have HLen:Hid ((partS L 7 i t m r).2.length<=L.length+1):=partS_len L 7 i t m r
 have HD:Hid (doneS L 7 i t m r=finS L (partS L 7 i t m r)):=HD0.out
 rw[HP.out] at HLen HD
 generalize payS L p q m=R at*
 clear B3 HP
 obtain ⟨cd,L3⟩:=R
 have AH:=hidOf A3
 clear A3
 have hl3:L3.length<=1048576:=by have:=HLen.out;simp only at this;omega
 obtain ⟨a3,c3,hv3⟩:=AH.out.len
 subst hv3
 have F3:Hid (Fo w3 a3 L3.length (FL L3)):=(AH.out.fo hl3).2
 by_cases h0:cd=0
 ·subst h0
  by_cases hr3:Right (FL L3) L3.length
  ·have E:Hid (doneS L 7 i t m r=(0,L3)):=(by rw[HD.out];simp[finS,hr3]:doneS L 7 i t m r=(0,L3))
   have HR3:=hidOf hr3
   clear hr3
   go_wp2_with fail
   refine (specOk_yes a3 L3.length c3 (FL L3) _ F3.out HR3.out).mono ?_
   rintro e w4 ⟨rfl,B4⟩
   have A4:=hidOf (AH.out.kept B4)
   have B4':=hidOf (BW3.out.trans (B4.mono BW3.out.size))
   clear B4
   go_wp2
   go_ret2
   rw[E.out]
   exact ⟨_,rfl,A4.out,B4'.out⟩
  ·have E:Hid (doneS L 7 i t m r=(7,L)):=(by rw[HD.out];simp[finS,hr3]:doneS L 7 i t m r=(7,L))
   have HR3:=hidOf hr3
   clear hr3
   go_wp2_with fail
   refine (specOk_no a3 L3.length c3 (FL L3) _ F3.out HR3.out).mono ?_
   rintro e w4 ⟨rfl,B4⟩
   have B4':=hidOf (BW3.out.trans (B4.mono BW3.out.size))
   clear B4
   go_wp2_with fail
   refine (specCopy2 a L.length c L _ rfl (HF.out.below B4'.out)).mono ?_
   rintro e w9 ⟨g9,c9,rfl,A9,B9⟩
   have A9':=hidOf (A9.mono B4'.out.size)
   have B9':=hidOf (B4'.out.trans (B9.mono B4'.out.size))
   clear A9 B9
   go_wp2
   go_ret2
   rw[E.out]
   exact ⟨_,rfl,A9'.out,B9'.out⟩
 ·have E:Hid (doneS L 7 i t m r=(cd,L)):=(by rw[HD.out];simp[finS,h0]:doneS L 7 i t m r=(cd,L))
  have hb0:(cd == 0)=false:=by simp[h0]
  have hb1:(cd != 0)=true:=by simp[h0]
  clear h0
  go_wp2_with fail
  refine (specCopy2 a L.length c L _ rfl (HF.out.below BW3.out)).mono ?_
  rintro e w9 ⟨g9,c9,rfl,A9,B9⟩
  have A9':=hidOf (A9.mono BW3.out.size)
  have B9':=hidOf (BW3.out.trans (B9.mono BW3.out.size))
  clear A9 B9
  go_wp2
  go_ret2
  rw[E.out]
  exact ⟨_,rfl,A9'.out,B9'.out⟩
open Go.RowKit
theorem specDone_hang (a:Option Addr) (c:Nat) (L:List Acc) (i t m r:Int) (w:World) (h:Fo w a L.length (FL L)) (hR:Right (FL L) L.length) (ho:opOk 9 i t m r) (p q:Nat) (hpi:place (FL L) L.length i=some p) (hpt:place (FL L) L.length t=some q):
  Calls Tryz.prog 108 #[.slice a L.length c,.agg #[.int .i64 9,.int .i64 i,.int .i64 t,.int .i64 m,.int .i64 r]] w fun e w'=>Out (doneS L 9 i t m r) w.heap.size w e w':=by
 have HF:=hidOf h
 have HR:=hidOf hR
 have hn:=hR.1
 have HO:=hidOf ho
 have HD0:Hid (doneS L 9 i t m r=finS L (partS L 9 i t m r)):=(by unfold doneS;rw[if_pos ho]:doneS L 9 i t m r=finS L (partS L 9 i t m r))
 obtain ⟨hp,hid⟩:=place_some hpi
 have HAI:Hid (placeI (FL L) L.length i=(p:Int)):=placeI_some hpi
 obtain ⟨hq,hit⟩:=place_some hpt
 have HAT:Hid (placeI (FL L) L.length t=(q:Int)):=placeI_some hpt
 have HP:Hid (partS L 9 i t m r=hangS L p q ((place (FL L) L.length (FL L p).up).getD 0)):=(by unfold partS;simp[hpi,hpt]:partS L 9 i t m r=hangS L p q ((place (FL L) L.length (FL L p).up).getD 0))
 have HU:Hid ((FL L p).up≠0->(place (FL L) L.length (FL L p).up).getD 0<L.length/\(FL L ((place (FL L) L.length (FL L p).up).getD 0)).id=(FL L p).up):=fun hup=>by
  obtain ⟨x,hx,hxi,_⟩:=HR.out.path_up hp hup
  have e:place (FL L) L.length (FL L p).up=some x:=by rw[←hxi];exact place_self HR.out.2.2.1 hx
  rw[e]
  exact ⟨hx,hxi⟩
 have SH:Hid (∀(g c2:Nat) w',AL w' w.heap.size (.slice (some ⟨g,0,none⟩) L.length c2) L->w.heap.size<=w'.heap.size->Calls Tryz.prog 147 #[.slice (some ⟨g,0,none⟩) L.length c2,.int .i64 p,.agg #[.int .i64 9,.int .i64 i,.int .i64 t,.int .i64 m,.int .i64 r]] w' fun e w''=>Out (hangS L p q ((place (FL L) L.length (FL L p).up).getD 0)) w.heap.size w' e w''):=fun g c2 w' h1 h2=>by
  have:=specHang w.heap.size g c2 L p q ((place (FL L) L.length (FL L p).up).getD 0) m r w' h1 h2 HR.out hp hq HU.out
  rw[hid,hit] at this
  exact this
 generalize (place (FL L) L.length (FL L p).up).getD 0=u at*
 clear hpi hpt hid hit HU
 obtain ⟨W,hW⟩:∃W,W=w.alloc (.cells #[.int .i64 9,.int .i64 i,.int .i64 t,.int .i64 m,.int .i64 r] 49):=⟨_,rfl⟩
 have OW:Hid (OpBox W w.heap.size 9 i t m r):=by rw[hW];exact OpBox.new w _ _ _ _ _ 49
 have BW:Hid (Below w.heap.size w W):=by rw[hW];exact (Below.refl _ _).alloc (Nat.le_refl _) _
 obtain ⟨o0,o1,o2,o3,o4,oz⟩:=OW.out
 clear h hR ho
 go_enter Tryz.func108,Tryz.ntmps108
 go_upto_region 1 with fail
 rw[←hW]
 clear hW
 go_wp2_with fail
 refine (specOpOk_yes 9 i t m r _ HO.out).mono ?_
 rintro e w1 ⟨rfl,B1⟩
 have O1:=hidOf (OW.out.below B1)
 have BW1:=hidOf (BW.out.trans (B1.mono BW.out.size))
 clear B1 OW BW o0 o1 o2 o3 o4 oz
 go_wp2_with fail
 refine (specCopy2 a L.length c L _ rfl (HF.out.below BW1.out)).mono ?_
 rintro e w2 ⟨g,c2,rfl,A2,B2⟩
 have O2:=hidOf (O1.out.below B2)
 have A2':=hidOf (A2.mono BW1.out.size)
 have BW2:=hidOf (BW1.out.trans (B2.mono BW1.out.size))
 have hw2:w.heap.size<=w2.heap.size:=BW2.out.size
 clear A2 B2 O1 BW1
 obtain ⟨o0,o1,o2,o3,o4,oz⟩:=O2.out
 clear O2
 go_wp2_with fail
 refine (specAt a L.length c (FL L) i _ (HF.out.below BW2.out)).mono ?_
 rintro e wx ⟨rfl,hwx⟩
 have ew:w2=wx:=hwx.symm
 subst ew
 clear hwx
 rw[HAI.out]
 go_wp2_with fail
 refine (specAt a L.length c (FL L) t _ (HF.out.below BW2.out)).mono ?_
 rintro e wx ⟨rfl,hwx⟩
 have ew:w2=wx:=hwx.symm
 subst ew
 clear hwx
 rw[HAT.out]
 go_wp2_with fail
 refine (SH.out _ _ _ A2'.out hw2).mono ?_
 rintro e w3 ⟨v3,rfl,A3,B3⟩
 have BW3:=hidOf (BW2.out.trans B3)
 have HLen:Hid ((partS L 9 i t m r).2.length<=L.length+1):=partS_len L 9 i t m r
 have HD:Hid (doneS L 9 i t m r=finS L (partS L 9 i t m r)):=HD0.out
 rw[HP.out] at HLen HD
 generalize hangS L p q u=R at*
 clear B3 HP
 obtain ⟨cd,L3⟩:=R
 have AH:=hidOf A3
 clear A3
 have hl3:L3.length<=1048576:=by have:=HLen.out;simp only at this;omega
 obtain ⟨a3,c3,hv3⟩:=AH.out.len
 subst hv3
 have F3:Hid (Fo w3 a3 L3.length (FL L3)):=(AH.out.fo hl3).2
 by_cases h0:cd=0
 ·subst h0
  by_cases hr3:Right (FL L3) L3.length
  ·have E:Hid (doneS L 9 i t m r=(0,L3)):=(by rw[HD.out];simp[finS,hr3]:doneS L 9 i t m r=(0,L3))
   have HR3:=hidOf hr3
   clear hr3
   go_wp2_with fail
   refine (specOk_yes a3 L3.length c3 (FL L3) _ F3.out HR3.out).mono ?_
   rintro e w4 ⟨rfl,B4⟩
   have A4:=hidOf (AH.out.kept B4)
   have B4':=hidOf (BW3.out.trans (B4.mono BW3.out.size))
   clear B4
   go_wp2
   go_ret2
   rw[E.out]
   exact ⟨_,rfl,A4.out,B4'.out⟩
  ·have E:Hid (doneS L 9 i t m r=(7,L)):=(by rw[HD.out];simp[finS,hr3]:doneS L 9 i t m r=(7,L))
   have HR3:=hidOf hr3
   clear hr3
   go_wp2_with fail
   refine (specOk_no a3 L3.length c3 (FL L3) _ F3.out HR3.out).mono ?_
   rintro e w4 ⟨rfl,B4⟩
   have B4':=hidOf (BW3.out.trans (B4.mono BW3.out.size))
   clear B4
   go_wp2_with fail
   refine (specCopy2 a L.length c L _ rfl (HF.out.below B4'.out)).mono ?_
   rintro e w9 ⟨g9,c9,rfl,A9,B9⟩
   have A9':=hidOf (A9.mono B4'.out.size)
   have B9':=hidOf (B4'.out.trans (B9.mono B4'.out.size))
   clear A9 B9
   go_wp2
   go_ret2
   rw[E.out]
   exact ⟨_,rfl,A9'.out,B9'.out⟩
 ·have E:Hid (doneS L 9 i t m r=(cd,L)):=(by rw[HD.out];simp[finS,h0]:doneS L 9 i t m r=(cd,L))
  have hb0:(cd == 0)=false:=by simp[h0]
  have hb1:(cd != 0)=true:=by simp[h0]
  clear h0
  go_wp2_with fail
  refine (specCopy2 a L.length c L _ rfl (HF.out.below BW3.out)).mono ?_
  rintro e w9 ⟨g9,c9,rfl,A9,B9⟩
  have A9':=hidOf (A9.mono BW3.out.size)
  have B9':=hidOf (BW3.out.trans (B9.mono BW3.out.size))
  clear A9 B9
  go_wp2
  go_ret2
  rw[E.out]
  exact ⟨_,rfl,A9'.out,B9'.out⟩
open Go.RowKit
theorem specDone_act (a:Option Addr) (c:Nat) (L:List Acc) (k i t m r:Int) (w:World) (h:Fo w a L.length (FL L)) (hR:Right (FL L) L.length) (ho:opOk k i t m r) (p:Nat) (hpi:place (FL L) L.length i=some p) (k1:k≠1) (k7:k≠7) (k9:k≠9):
  Calls Tryz.prog 108 #[.slice a L.length c,.agg #[.int .i64 k,.int .i64 i,.int .i64 t,.int .i64 m,.int .i64 r]] w fun e w'=>Out (doneS L k i t m r) w.heap.size w e w':=by
 have HF:=hidOf h
 have HR:=hidOf hR
 have hn:=hR.1
 have HO:=hidOf ho
 have HD0:Hid (doneS L k i t m r=finS L (partS L k i t m r)):=(by unfold doneS;rw[if_pos ho]:doneS L k i t m r=finS L (partS L k i t m r))
 obtain ⟨hp,_⟩:=place_some hpi
 have HAI:Hid (placeI (FL L) L.length i=(p:Int)):=placeI_some hpi
 have HP:Hid (partS L k i t m r=actS L p k m):=(by unfold partS;simp[hpi,k1,k7,k9]:partS L k i t m r=actS L p k m)
 have j1:(k == 1)=false:=by simp[k1]
 have j7:(k == 7)=false:=by simp[k7]
 have j9:(k == 9)=false:=by simp[k9]
 have K1:=hidOf k1
 have K7:=hidOf k7
 have K9:=hidOf k9
 clear hpi k1 k7 k9
 obtain ⟨W,hW⟩:∃W,W=w.alloc (.cells #[.int .i64 k,.int .i64 i,.int .i64 t,.int .i64 m,.int .i64 r] 49):=⟨_,rfl⟩
 have OW:Hid (OpBox W w.heap.size k i t m r):=by rw[hW];exact OpBox.new w _ _ _ _ _ 49
 have BW:Hid (Below w.heap.size w W):=by rw[hW];exact (Below.refl _ _).alloc (Nat.le_refl _) _
 obtain ⟨o0,o1,o2,o3,o4,oz⟩:=OW.out
 clear h hR ho
 go_enter Tryz.func108,Tryz.ntmps108
 go_upto_region 1 with fail
 rw[←hW]
 clear hW
 go_wp2_with fail
 refine (specOpOk_yes k i t m r _ HO.out).mono ?_
 rintro e w1 ⟨rfl,B1⟩
 have O1:=hidOf (OW.out.below B1)
 have BW1:=hidOf (BW.out.trans (B1.mono BW.out.size))
 clear B1 OW BW o0 o1 o2 o3 o4 oz
 go_wp2_with fail
 refine (specCopy2 a L.length c L _ rfl (HF.out.below BW1.out)).mono ?_
 rintro e w2 ⟨g,c2,rfl,A2,B2⟩
 have O2:=hidOf (O1.out.below B2)
 have A2':=hidOf (A2.mono BW1.out.size)
 have BW2:=hidOf (BW1.out.trans (B2.mono BW1.out.size))
 have hw2:w.heap.size<=w2.heap.size:=BW2.out.size
 clear A2 B2 O1 BW1
 obtain ⟨o0,o1,o2,o3,o4,oz⟩:=O2.out
 clear O2
 go_wp2_with fail
 refine (specAt a L.length c (FL L) i _ (HF.out.below BW2.out)).mono ?_
 rintro e wx ⟨rfl,hwx⟩
 have ew:w2=wx:=hwx.symm
 subst ew
 clear hwx
 rw[HAI.out]
 go_wp2_with fail
 refine (specAt a L.length c (FL L) t _ (HF.out.below BW2.out)).mono ?_
 rintro e wx ⟨rfl,hwx⟩
 have ew:w2=wx:=hwx.symm
 subst ew
 clear hwx
 generalize placeI (FL L) L.length t=zt
 go_wp2_with fail
 refine (specAct w.heap.size g c2 L p k i t m r _ A2'.out hw2 HR.out hp HO.out K1.out K7.out K9.out).mono ?_
 rintro e w3 ⟨v3,rfl,A3,B3⟩
 have BW3:=hidOf (BW2.out.trans B3)
 have HLen:Hid ((partS L k i t m r).2.length<=L.length+1):=partS_len L k i t m r
 have HD:Hid (doneS L k i t m r=finS L (partS L k i t m r)):=HD0.out
 rw[HP.out] at HLen HD
 generalize actS L p k m=R at*
 clear B3 HP
 obtain ⟨cd,L3⟩:=R
 have AH:=hidOf A3
 clear A3
 have hl3:L3.length<=1048576:=by have:=HLen.out;simp only at this;omega
 obtain ⟨a3,c3,hv3⟩:=AH.out.len
 subst hv3
 have F3:Hid (Fo w3 a3 L3.length (FL L3)):=(AH.out.fo hl3).2
 by_cases h0:cd=0
 ·subst h0
  by_cases hr3:Right (FL L3) L3.length
  ·have E:Hid (doneS L k i t m r=(0,L3)):=(by rw[HD.out];simp[finS,hr3]:doneS L k i t m r=(0,L3))
   have HR3:=hidOf hr3
   clear hr3
   go_wp2_with fail
   refine (specOk_yes a3 L3.length c3 (FL L3) _ F3.out HR3.out).mono ?_
   rintro e w4 ⟨rfl,B4⟩
   have A4:=hidOf (AH.out.kept B4)
   have B4':=hidOf (BW3.out.trans (B4.mono BW3.out.size))
   clear B4
   go_wp2
   go_ret2
   rw[E.out]
   exact ⟨_,rfl,A4.out,B4'.out⟩
  ·have E:Hid (doneS L k i t m r=(7,L)):=(by rw[HD.out];simp[finS,hr3]:doneS L k i t m r=(7,L))
   have HR3:=hidOf hr3
   clear hr3
   go_wp2_with fail
   refine (specOk_no a3 L3.length c3 (FL L3) _ F3.out HR3.out).mono ?_
   rintro e w4 ⟨rfl,B4⟩
   have B4':=hidOf (BW3.out.trans (B4.mono BW3.out.size))
   clear B4
   go_wp2_with fail
   refine (specCopy2 a L.length c L _ rfl (HF.out.below B4'.out)).mono ?_
   rintro e w9 ⟨g9,c9,rfl,A9,B9⟩
   have A9':=hidOf (A9.mono B4'.out.size)
   have B9':=hidOf (B4'.out.trans (B9.mono B4'.out.size))
   clear A9 B9
   go_wp2
   go_ret2
   rw[E.out]
   exact ⟨_,rfl,A9'.out,B9'.out⟩
 ·have E:Hid (doneS L k i t m r=(cd,L)):=(by rw[HD.out];simp[finS,h0]:doneS L k i t m r=(cd,L))
  have hb0:(cd == 0)=false:=by simp[h0]
  have hb1:(cd != 0)=true:=by simp[h0]
  clear h0
  go_wp2_with fail
  refine (specCopy2 a L.length c L _ rfl (HF.out.below BW3.out)).mono ?_
  rintro e w9 ⟨g9,c9,rfl,A9,B9⟩
  have A9':=hidOf (A9.mono BW3.out.size)
  have B9':=hidOf (BW3.out.trans (B9.mono BW3.out.size))
  clear A9 B9
  go_wp2
  go_ret2
  rw[E.out]
  exact ⟨_,rfl,A9'.out,B9'.out⟩
open Go.RowKit
theorem specDone3 (a:Option Addr) (c:Nat) (L:List Acc) (k i t m r:Int) (w:World) (h:Fo w a L.length (FL L)) (hR:Right (FL L) L.length):
  Calls Tryz.prog 108 #[.slice a L.length c,.agg #[.int .i64 k,.int .i64 i,.int .i64 t,.int .i64 m,.int .i64 r]] w fun e w'=>Out (doneS L k i t m r) w.heap.size w e w':=by
 by_cases ho:opOk k i t m r
 ·by_cases k1:k=1
  ·subst k1;exact specDone_open a c L i t m r w h hR ho
  ·cases hpi:place (FL L) L.length i with
   | none=>
    by_cases k7:k=7
    ·subst k7;exact specDone_none7 a c L i t m r w h hR ho hpi
    ·by_cases k9:k=9
     ·subst k9;exact specDone_none9 a c L i t m r w h hR ho hpi
     ·exact specDone_none a c L k i t m r w h hR ho hpi k1 k7 k9
   | some p=>
    by_cases k7:k=7
    ·subst k7
     cases hpt:place (FL L) L.length t with
     | none=>exact specDone_to7 a c L i t m r w h hR ho p hpi hpt
     | some q=>exact specDone_pay a c L i t m r w h hR ho p q hpi hpt
    ·by_cases k9:k=9
     ·subst k9
      cases hpt:place (FL L) L.length t with
      | none=>exact specDone_to9 a c L i t m r w h hR ho p hpi hpt
      | some q=>exact specDone_hang a c L i t m r w h hR ho p q hpi hpt
     ·exact specDone_act a c L k i t m r w h hR ho p hpi k1 k7 k9
 ·exact specDone_form a c L k i t m r w h ho
open Classical in
noncomputable def doneAny (L:List Acc) (k i t m r:Int):Int×List Acc:=if Right (FL L) L.length then doneS L k i t m r else (1,[])
end Go.Proofs.YtghkbhggopiajaaGreatDoor
