/- The specification's Done, refused by its form, and where there is no such account. -/
import Derived.Test.YtjhgchlfpolkcaaGreatDoorPaysx
namespace Go.Proofs.YtjhgchlfpolkcaaGreatDoor
open Value renaming int → Ii,slice → Sl
open IntKind renaming i64 → Jj
open Nat renaming le_refl → Nf
open Go.RowKit.Below renaming refl → Bf
open Go.Proofs.Tryz renaming prog → Pg
set_option maxRecDepth 8000
set_option maxHeartbeats 2000000
open Go.RowKit
theorem jQ (a:Option Addr) (c:Nat) (L:List al) (k i t m r:Int) (w:World) (h:Fo w a L.length (FL L)) (ho:¬ax k i t m r):
  Calls Pg 104 #[Sl a L.length c,.agg #[Ii Jj k,Ii Jj i,Ii Jj t,Ii Jj m,Ii Jj r]] w fun e w'=>fs (ao L k i t m r) w.heap.size w e w':=by
 have HF:Hid (Fo w a L.length (FL L)):=h
 have HO:Hid (¬ax k i t m r):=ho
 have E:Hid (ao L k i t m r=(2,L)):=(by unfold ao;rw[if_neg ho]:ao L k i t m r=(2,L))
 obtain ⟨W,hW⟩:∃W,W=w.alloc (.cells #[Ii Jj k,Ii Jj i,Ii Jj t,Ii Jj m,Ii Jj r] 33):=⟨_,rfl⟩
 have OW:Hid (aN W w.heap.size k i t m r):=by rw[hW];exact aN.new w _ _ _ _ _ 33
 have BW:Hid (Below w.heap.size w W):=by rw[hW];exact (Bf _ _).alloc (Nf _) _
 obtain ⟨o0,o1,o2,o3,o4,oz⟩:=OW.out
 clear h ho
 go_enter Tryz.func104,Tryz.ntmps104
 go_upto_region 1 with fail
 rw[←hW]
 clear hW
 go_wp2_with fail
 refine (mM k i t m r _ HO.out).mono ?_
 rintro e w1 ⟨rfl,B1⟩
 have BW1:Hid (Below w.heap.size w w1):=BW.out.trans (B1.mono BW.out.size)
 clear B1 OW BW o0 o1 o2 o3 o4 oz
 go_wp2_with fail
 refine (aM a L.length c L _ rfl (HF.out.below BW1.out)).mono ?_
 rintro e w9 ⟨g9,c9,rfl,A9,B9⟩
 have A9':Hid (AL w9 w.heap.size (Sl (some ⟨g9,0,none⟩) L.length c9) L):=A9.mono BW1.out.size
 have B9':Hid (Below w.heap.size w w9):=BW1.out.trans (B9.mono BW1.out.size)
 clear A9 B9
 go_wp2
 go_ret2
 rw[E.out]
 exact ⟨_,rfl,A9'.out,B9'.out⟩
theorem jS (a:Option Addr) (c:Nat) (L:List al) (k i t m r:Int) (w:World) (h:Fo w a L.length (FL L)) (hR:ap (FL L) L.length) (ho:ax k i t m r) (hpi:aB (FL L) L.length i=none) (k1:k≠1) (k7:k≠7) (k9:k≠9):
  Calls Pg 104 #[Sl a L.length c,.agg #[Ii Jj k,Ii Jj i,Ii Jj t,Ii Jj m,Ii Jj r]] w fun e w'=>fs (ao L k i t m r) w.heap.size w e w':=by
 have HF:Hid (Fo w a L.length (FL L)):=h
 have HR:Hid (ap (FL L) L.length):=hR
 have hn:=hR.1
 have HO:Hid (ax k i t m r):=ho
 have HD0:Hid (ao L k i t m r=bV L (aK L k i t m r)):=(by unfold ao;rw[if_pos ho]:ao L k i t m r=bV L (aK L k i t m r))
 have HP:Hid (aK L k i t m r=(3,L)):=(by unfold aK;simp[hpi,k1]:aK L k i t m r=(3,L))
 have HAI:Hid (aT (FL L) L.length i= -1):=bL hpi
 have j1:(k == 1)=false:=by simp[k1]
 have j7:(k == 7)=false:=by simp[k7]
 have j9:(k == 9)=false:=by simp[k9]
 clear k1 k7 k9
 clear hpi
 obtain ⟨W,hW⟩:∃W,W=w.alloc (.cells #[Ii Jj k,Ii Jj i,Ii Jj t,Ii Jj m,Ii Jj r] 33):=⟨_,rfl⟩
 have OW:Hid (aN W w.heap.size k i t m r):=by rw[hW];exact aN.new w _ _ _ _ _ 33
 have BW:Hid (Below w.heap.size w W):=by rw[hW];exact (Bf _ _).alloc (Nf _) _
 obtain ⟨o0,o1,o2,o3,o4,oz⟩:=OW.out
 clear h hR ho
 go_enter Tryz.func104,Tryz.ntmps104
 go_upto_region 1 with fail
 rw[←hW]
 clear hW
 go_wp2_with fail
 refine (bJ k i t m r _ HO.out).mono ?_
 rintro e w1 ⟨rfl,B1⟩
 have O1:Hid (aN w1 w.heap.size k i t m r):=OW.out.below B1
 have BW1:Hid (Below w.heap.size w w1):=BW.out.trans (B1.mono BW.out.size)
 clear B1 OW BW o0 o1 o2 o3 o4 oz
 go_wp2_with fail
 refine (aM a L.length c L _ rfl (HF.out.below BW1.out)).mono ?_
 rintro e w2 ⟨g,c2,rfl,A2,B2⟩
 have O2:Hid (aN w2 w.heap.size k i t m r):=O1.out.below B2
 have A2':Hid (AL w2 w.heap.size (Sl (some ⟨g,0,none⟩) L.length c2) L):=A2.mono BW1.out.size
 have BW2:Hid (Below w.heap.size w w2):=BW1.out.trans (B2.mono BW1.out.size)
 have hw2:w.heap.size<=w2.heap.size:=BW2.out.size
 clear A2 B2 O1 BW1
 obtain ⟨o0,o1,o2,o3,o4,oz⟩:=O2.out
 clear O2
 go_wp2_with fail
 refine (bE a L.length c (FL L) i _ (HF.out.below BW2.out)).mono ?_
 rintro e wx ⟨rfl,hwx⟩
 have ew:w2=wx:=hwx.symm
 subst ew
 clear hwx
 rw[HAI.out]
 go_wp2_with fail
 refine (bE a L.length c (FL L) t _ (HF.out.below BW2.out)).mono ?_
 rintro e wx ⟨rfl,hwx⟩
 have ew:w2=wx:=hwx.symm
 subst ew
 clear hwx
 generalize aT (FL L) L.length t=zt
 have E:Hid (ao L k i t m r=(3,L)):=(by rw[HD0.out,HP.out];simp[bV]:ao L k i t m r=(3,L))
 go_wp2_with fail
 refine (aM a L.length c L _ rfl (HF.out.below BW2.out)).mono ?_
 rintro e w9 ⟨g9,c9,rfl,A9,B9⟩
 have A9':Hid (AL w9 w.heap.size (Sl (some ⟨g9,0,none⟩) L.length c9) L):=A9.mono BW2.out.size
 have B9':Hid (Below w.heap.size w w9):=BW2.out.trans (B9.mono BW2.out.size)
 clear A9 B9
 go_wp2
 go_ret2
 rw[E.out]
 exact ⟨_,rfl,A9'.out,B9'.out⟩
theorem jy (a:Option Addr) (c:Nat) (L:List al) (i t m r:Int) (w:World) (h:Fo w a L.length (FL L)) (hR:ap (FL L) L.length) (ho:ax 7 i t m r) (hpi:aB (FL L) L.length i=none):
  Calls Pg 104 #[Sl a L.length c,.agg #[Ii Jj 7,Ii Jj i,Ii Jj t,Ii Jj m,Ii Jj r]] w fun e w'=>fs (ao L 7 i t m r) w.heap.size w e w':=by
 have HF:Hid (Fo w a L.length (FL L)):=h
 have HR:Hid (ap (FL L) L.length):=hR
 have hn:=hR.1
 have HO:Hid (ax 7 i t m r):=ho
 have HD0:Hid (ao L 7 i t m r=bV L (aK L 7 i t m r)):=(by unfold ao;rw[if_pos ho]:ao L 7 i t m r=bV L (aK L 7 i t m r))
 have HP:Hid (aK L 7 i t m r=(3,L)):=(by unfold aK;simp[hpi]:aK L 7 i t m r=(3,L))
 have HAI:Hid (aT (FL L) L.length i= -1):=bL hpi
 clear hpi
 obtain ⟨W,hW⟩:∃W,W=w.alloc (.cells #[Ii Jj 7,Ii Jj i,Ii Jj t,Ii Jj m,Ii Jj r] 33):=⟨_,rfl⟩
 have OW:Hid (aN W w.heap.size 7 i t m r):=by rw[hW];exact aN.new w _ _ _ _ _ 33
 have BW:Hid (Below w.heap.size w W):=by rw[hW];exact (Bf _ _).alloc (Nf _) _
 obtain ⟨o0,o1,o2,o3,o4,oz⟩:=OW.out
 clear h hR ho
 go_enter Tryz.func104,Tryz.ntmps104
 go_upto_region 1 with fail
 rw[←hW]
 clear hW
 go_wp2_with fail
 refine (bJ 7 i t m r _ HO.out).mono ?_
 rintro e w1 ⟨rfl,B1⟩
 have O1:Hid (aN w1 w.heap.size 7 i t m r):=OW.out.below B1
 have BW1:Hid (Below w.heap.size w w1):=BW.out.trans (B1.mono BW.out.size)
 clear B1 OW BW o0 o1 o2 o3 o4 oz
 go_wp2_with fail
 refine (aM a L.length c L _ rfl (HF.out.below BW1.out)).mono ?_
 rintro e w2 ⟨g,c2,rfl,A2,B2⟩
 have O2:Hid (aN w2 w.heap.size 7 i t m r):=O1.out.below B2
 have A2':Hid (AL w2 w.heap.size (Sl (some ⟨g,0,none⟩) L.length c2) L):=A2.mono BW1.out.size
 have BW2:Hid (Below w.heap.size w w2):=BW1.out.trans (B2.mono BW1.out.size)
 have hw2:w.heap.size<=w2.heap.size:=BW2.out.size
 clear A2 B2 O1 BW1
 obtain ⟨o0,o1,o2,o3,o4,oz⟩:=O2.out
 clear O2
 go_wp2_with fail
 refine (bE a L.length c (FL L) i _ (HF.out.below BW2.out)).mono ?_
 rintro e wx ⟨rfl,hwx⟩
 have ew:w2=wx:=hwx.symm
 subst ew
 clear hwx
 rw[HAI.out]
 go_wp2_with fail
 refine (bE a L.length c (FL L) t _ (HF.out.below BW2.out)).mono ?_
 rintro e wx ⟨rfl,hwx⟩
 have ew:w2=wx:=hwx.symm
 subst ew
 clear hwx
 generalize aT (FL L) L.length t=zt
 have E:Hid (ao L 7 i t m r=(3,L)):=(by rw[HD0.out,HP.out];simp[bV]:ao L 7 i t m r=(3,L))
 go_wp2_with fail
 refine (aM a L.length c L _ rfl (HF.out.below BW2.out)).mono ?_
 rintro e w9 ⟨g9,c9,rfl,A9,B9⟩
 have A9':Hid (AL w9 w.heap.size (Sl (some ⟨g9,0,none⟩) L.length c9) L):=A9.mono BW2.out.size
 have B9':Hid (Below w.heap.size w w9):=BW2.out.trans (B9.mono BW2.out.size)
 clear A9 B9
 go_wp2
 go_ret2
 rw[E.out]
 exact ⟨_,rfl,A9'.out,B9'.out⟩
theorem jz (a:Option Addr) (c:Nat) (L:List al) (i t m r:Int) (w:World) (h:Fo w a L.length (FL L)) (hR:ap (FL L) L.length) (ho:ax 9 i t m r) (hpi:aB (FL L) L.length i=none):
  Calls Pg 104 #[Sl a L.length c,.agg #[Ii Jj 9,Ii Jj i,Ii Jj t,Ii Jj m,Ii Jj r]] w fun e w'=>fs (ao L 9 i t m r) w.heap.size w e w':=by
 have HF:Hid (Fo w a L.length (FL L)):=h
 have HR:Hid (ap (FL L) L.length):=hR
 have hn:=hR.1
 have HO:Hid (ax 9 i t m r):=ho
 have HD0:Hid (ao L 9 i t m r=bV L (aK L 9 i t m r)):=(by unfold ao;rw[if_pos ho]:ao L 9 i t m r=bV L (aK L 9 i t m r))
 have HP:Hid (aK L 9 i t m r=(3,L)):=(by unfold aK;simp[hpi]:aK L 9 i t m r=(3,L))
 have HAI:Hid (aT (FL L) L.length i= -1):=bL hpi
 clear hpi
 obtain ⟨W,hW⟩:∃W,W=w.alloc (.cells #[Ii Jj 9,Ii Jj i,Ii Jj t,Ii Jj m,Ii Jj r] 33):=⟨_,rfl⟩
 have OW:Hid (aN W w.heap.size 9 i t m r):=by rw[hW];exact aN.new w _ _ _ _ _ 33
 have BW:Hid (Below w.heap.size w W):=by rw[hW];exact (Bf _ _).alloc (Nf _) _
 obtain ⟨o0,o1,o2,o3,o4,oz⟩:=OW.out
 clear h hR ho
 go_enter Tryz.func104,Tryz.ntmps104
 go_upto_region 1 with fail
 rw[←hW]
 clear hW
 go_wp2_with fail
 refine (bJ 9 i t m r _ HO.out).mono ?_
 rintro e w1 ⟨rfl,B1⟩
 have O1:Hid (aN w1 w.heap.size 9 i t m r):=OW.out.below B1
 have BW1:Hid (Below w.heap.size w w1):=BW.out.trans (B1.mono BW.out.size)
 clear B1 OW BW o0 o1 o2 o3 o4 oz
 go_wp2_with fail
 refine (aM a L.length c L _ rfl (HF.out.below BW1.out)).mono ?_
 rintro e w2 ⟨g,c2,rfl,A2,B2⟩
 have O2:Hid (aN w2 w.heap.size 9 i t m r):=O1.out.below B2
 have A2':Hid (AL w2 w.heap.size (Sl (some ⟨g,0,none⟩) L.length c2) L):=A2.mono BW1.out.size
 have BW2:Hid (Below w.heap.size w w2):=BW1.out.trans (B2.mono BW1.out.size)
 have hw2:w.heap.size<=w2.heap.size:=BW2.out.size
 clear A2 B2 O1 BW1
 obtain ⟨o0,o1,o2,o3,o4,oz⟩:=O2.out
 clear O2
 go_wp2_with fail
 refine (bE a L.length c (FL L) i _ (HF.out.below BW2.out)).mono ?_
 rintro e wx ⟨rfl,hwx⟩
 have ew:w2=wx:=hwx.symm
 subst ew
 clear hwx
 rw[HAI.out]
 go_wp2_with fail
 refine (bE a L.length c (FL L) t _ (HF.out.below BW2.out)).mono ?_
 rintro e wx ⟨rfl,hwx⟩
 have ew:w2=wx:=hwx.symm
 subst ew
 clear hwx
 generalize aT (FL L) L.length t=zt
 have E:Hid (ao L 9 i t m r=(3,L)):=(by rw[HD0.out,HP.out];simp[bV]:ao L 9 i t m r=(3,L))
 go_wp2_with fail
 refine (aM a L.length c L _ rfl (HF.out.below BW2.out)).mono ?_
 rintro e w9 ⟨g9,c9,rfl,A9,B9⟩
 have A9':Hid (AL w9 w.heap.size (Sl (some ⟨g9,0,none⟩) L.length c9) L):=A9.mono BW2.out.size
 have B9':Hid (Below w.heap.size w w9):=BW2.out.trans (B9.mono BW2.out.size)
 clear A9 B9
 go_wp2
 go_ret2
 rw[E.out]
 exact ⟨_,rfl,A9'.out,B9'.out⟩
theorem lr (a:Option Addr) (c:Nat) (L:List al) (i t m r:Int) (w:World) (h:Fo w a L.length (FL L)) (hR:ap (FL L) L.length) (ho:ax 7 i t m r) (p:Nat) (hpi:aB (FL L) L.length i=some p) (hpt:aB (FL L) L.length t=none):
  Calls Pg 104 #[Sl a L.length c,.agg #[Ii Jj 7,Ii Jj i,Ii Jj t,Ii Jj m,Ii Jj r]] w fun e w'=>fs (ao L 7 i t m r) w.heap.size w e w':=by
 have HF:Hid (Fo w a L.length (FL L)):=h
 have HR:Hid (ap (FL L) L.length):=hR
 have hn:=hR.1
 have HO:Hid (ax 7 i t m r):=ho
 have HD0:Hid (ao L 7 i t m r=bV L (aK L 7 i t m r)):=(by unfold ao;rw[if_pos ho]:ao L 7 i t m r=bV L (aK L 7 i t m r))
 have HP:Hid (aK L 7 i t m r=(3,L)):=(by unfold aK;simp[hpi,hpt]:aK L 7 i t m r=(3,L))
 have HAI:Hid (aT (FL L) L.length i=(p:Int)):=aX hpi
 have HAT:Hid (aT (FL L) L.length t= -1):=bL hpt
 clear hpi hpt
 obtain ⟨W,hW⟩:∃W,W=w.alloc (.cells #[Ii Jj 7,Ii Jj i,Ii Jj t,Ii Jj m,Ii Jj r] 33):=⟨_,rfl⟩
 have OW:Hid (aN W w.heap.size 7 i t m r):=by rw[hW];exact aN.new w _ _ _ _ _ 33
 have BW:Hid (Below w.heap.size w W):=by rw[hW];exact (Bf _ _).alloc (Nf _) _
 obtain ⟨o0,o1,o2,o3,o4,oz⟩:=OW.out
 clear h hR ho
 go_enter Tryz.func104,Tryz.ntmps104
 go_upto_region 1 with fail
 rw[←hW]
 clear hW
 go_wp2_with fail
 refine (bJ 7 i t m r _ HO.out).mono ?_
 rintro e w1 ⟨rfl,B1⟩
 have O1:Hid (aN w1 w.heap.size 7 i t m r):=OW.out.below B1
 have BW1:Hid (Below w.heap.size w w1):=BW.out.trans (B1.mono BW.out.size)
 clear B1 OW BW o0 o1 o2 o3 o4 oz
 go_wp2_with fail
 refine (aM a L.length c L _ rfl (HF.out.below BW1.out)).mono ?_
 rintro e w2 ⟨g,c2,rfl,A2,B2⟩
 have O2:Hid (aN w2 w.heap.size 7 i t m r):=O1.out.below B2
 have A2':Hid (AL w2 w.heap.size (Sl (some ⟨g,0,none⟩) L.length c2) L):=A2.mono BW1.out.size
 have BW2:Hid (Below w.heap.size w w2):=BW1.out.trans (B2.mono BW1.out.size)
 have hw2:w.heap.size<=w2.heap.size:=BW2.out.size
 clear A2 B2 O1 BW1
 obtain ⟨o0,o1,o2,o3,o4,oz⟩:=O2.out
 clear O2
 go_wp2_with fail
 refine (bE a L.length c (FL L) i _ (HF.out.below BW2.out)).mono ?_
 rintro e wx ⟨rfl,hwx⟩
 have ew:w2=wx:=hwx.symm
 subst ew
 clear hwx
 rw[HAI.out]
 go_wp2_with fail
 refine (bE a L.length c (FL L) t _ (HF.out.below BW2.out)).mono ?_
 rintro e wx ⟨rfl,hwx⟩
 have ew:w2=wx:=hwx.symm
 subst ew
 clear hwx
 rw[HAT.out]
 have E:Hid (ao L 7 i t m r=(3,L)):=(by rw[HD0.out,HP.out];simp[bV]:ao L 7 i t m r=(3,L))
 go_wp2_with fail
 refine (aM a L.length c L _ rfl (HF.out.below BW2.out)).mono ?_
 rintro e w9 ⟨g9,c9,rfl,A9,B9⟩
 have A9':Hid (AL w9 w.heap.size (Sl (some ⟨g9,0,none⟩) L.length c9) L):=A9.mono BW2.out.size
 have B9':Hid (Below w.heap.size w w9):=BW2.out.trans (B9.mono BW2.out.size)
 clear A9 B9
 go_wp2
 go_ret2
 rw[E.out]
 exact ⟨_,rfl,A9'.out,B9'.out⟩
theorem lu (a:Option Addr) (c:Nat) (L:List al) (i t m r:Int) (w:World) (h:Fo w a L.length (FL L)) (hR:ap (FL L) L.length) (ho:ax 9 i t m r) (p:Nat) (hpi:aB (FL L) L.length i=some p) (hpt:aB (FL L) L.length t=none):
  Calls Pg 104 #[Sl a L.length c,.agg #[Ii Jj 9,Ii Jj i,Ii Jj t,Ii Jj m,Ii Jj r]] w fun e w'=>fs (ao L 9 i t m r) w.heap.size w e w':=by
 have HF:Hid (Fo w a L.length (FL L)):=h
 have HR:Hid (ap (FL L) L.length):=hR
 have hn:=hR.1
 have HO:Hid (ax 9 i t m r):=ho
 have HD0:Hid (ao L 9 i t m r=bV L (aK L 9 i t m r)):=(by unfold ao;rw[if_pos ho]:ao L 9 i t m r=bV L (aK L 9 i t m r))
 have HP:Hid (aK L 9 i t m r=(3,L)):=(by unfold aK;simp[hpi,hpt]:aK L 9 i t m r=(3,L))
 have HAI:Hid (aT (FL L) L.length i=(p:Int)):=aX hpi
 have HAT:Hid (aT (FL L) L.length t= -1):=bL hpt
 clear hpi hpt
 obtain ⟨W,hW⟩:∃W,W=w.alloc (.cells #[Ii Jj 9,Ii Jj i,Ii Jj t,Ii Jj m,Ii Jj r] 33):=⟨_,rfl⟩
 have OW:Hid (aN W w.heap.size 9 i t m r):=by rw[hW];exact aN.new w _ _ _ _ _ 33
 have BW:Hid (Below w.heap.size w W):=by rw[hW];exact (Bf _ _).alloc (Nf _) _
 obtain ⟨o0,o1,o2,o3,o4,oz⟩:=OW.out
 clear h hR ho
 go_enter Tryz.func104,Tryz.ntmps104
 go_upto_region 1 with fail
 rw[←hW]
 clear hW
 go_wp2_with fail
 refine (bJ 9 i t m r _ HO.out).mono ?_
 rintro e w1 ⟨rfl,B1⟩
 have O1:Hid (aN w1 w.heap.size 9 i t m r):=OW.out.below B1
 have BW1:Hid (Below w.heap.size w w1):=BW.out.trans (B1.mono BW.out.size)
 clear B1 OW BW o0 o1 o2 o3 o4 oz
 go_wp2_with fail
 refine (aM a L.length c L _ rfl (HF.out.below BW1.out)).mono ?_
 rintro e w2 ⟨g,c2,rfl,A2,B2⟩
 have O2:Hid (aN w2 w.heap.size 9 i t m r):=O1.out.below B2
 have A2':Hid (AL w2 w.heap.size (Sl (some ⟨g,0,none⟩) L.length c2) L):=A2.mono BW1.out.size
 have BW2:Hid (Below w.heap.size w w2):=BW1.out.trans (B2.mono BW1.out.size)
 have hw2:w.heap.size<=w2.heap.size:=BW2.out.size
 clear A2 B2 O1 BW1
 obtain ⟨o0,o1,o2,o3,o4,oz⟩:=O2.out
 clear O2
 go_wp2_with fail
 refine (bE a L.length c (FL L) i _ (HF.out.below BW2.out)).mono ?_
 rintro e wx ⟨rfl,hwx⟩
 have ew:w2=wx:=hwx.symm
 subst ew
 clear hwx
 rw[HAI.out]
 go_wp2_with fail
 refine (bE a L.length c (FL L) t _ (HF.out.below BW2.out)).mono ?_
 rintro e wx ⟨rfl,hwx⟩
 have ew:w2=wx:=hwx.symm
 subst ew
 clear hwx
 rw[HAT.out]
 have E:Hid (ao L 9 i t m r=(3,L)):=(by rw[HD0.out,HP.out];simp[bV]:ao L 9 i t m r=(3,L))
 go_wp2_with fail
 refine (aM a L.length c L _ rfl (HF.out.below BW2.out)).mono ?_
 rintro e w9 ⟨g9,c9,rfl,A9,B9⟩
 have A9':Hid (AL w9 w.heap.size (Sl (some ⟨g9,0,none⟩) L.length c9) L):=A9.mono BW2.out.size
 have B9':Hid (Below w.heap.size w w9):=BW2.out.trans (B9.mono BW2.out.size)
 clear A9 B9
 go_wp2
 go_ret2
 rw[E.out]
 exact ⟨_,rfl,A9'.out,B9'.out⟩
open Go.RowKit
theorem jT (a:Option Addr) (c:Nat) (L:List al) (i t m r:Int) (w:World) (h:Fo w a L.length (FL L)) (hR:ap (FL L) L.length) (ho:ax 1 i t m r):
  Calls Pg 104 #[Sl a L.length c,.agg #[Ii Jj 1,Ii Jj i,Ii Jj t,Ii Jj m,Ii Jj r]] w fun e w'=>fs (ao L 1 i t m r) w.heap.size w e w':=by
 have HF:Hid (Fo w a L.length (FL L)):=h
 have HR:Hid (ap (FL L) L.length):=hR
 have hn:=hR.1
 have HO:Hid (ax 1 i t m r):=ho
 have HD0:Hid (ao L 1 i t m r=bV L (aK L 1 i t m r)):=(by unfold ao;rw[if_pos ho]:ao L 1 i t m r=bV L (aK L 1 i t m r))
 have HP:Hid (aK L 1 i t m r=da L i t m r):=(by unfold aK;rw[if_pos rfl]:aK L 1 i t m r=da L i t m r)
 obtain ⟨W,hW⟩:∃W,W=w.alloc (.cells #[Ii Jj 1,Ii Jj i,Ii Jj t,Ii Jj m,Ii Jj r] 33):=⟨_,rfl⟩
 have OW:Hid (aN W w.heap.size 1 i t m r):=by rw[hW];exact aN.new w _ _ _ _ _ 33
 have BW:Hid (Below w.heap.size w W):=by rw[hW];exact (Bf _ _).alloc (Nf _) _
 obtain ⟨o0,o1,o2,o3,o4,oz⟩:=OW.out
 clear h hR ho
 go_enter Tryz.func104,Tryz.ntmps104
 go_upto_region 1 with fail
 rw[←hW]
 clear hW
 go_wp2_with fail
 refine (bJ 1 i t m r _ HO.out).mono ?_
 rintro e w1 ⟨rfl,B1⟩
 have O1:Hid (aN w1 w.heap.size 1 i t m r):=OW.out.below B1
 have BW1:Hid (Below w.heap.size w w1):=BW.out.trans (B1.mono BW.out.size)
 clear B1 OW BW o0 o1 o2 o3 o4 oz
 go_wp2_with fail
 refine (aM a L.length c L _ rfl (HF.out.below BW1.out)).mono ?_
 rintro e w2 ⟨g,c2,rfl,A2,B2⟩
 have O2:Hid (aN w2 w.heap.size 1 i t m r):=O1.out.below B2
 have A2':Hid (AL w2 w.heap.size (Sl (some ⟨g,0,none⟩) L.length c2) L):=A2.mono BW1.out.size
 have BW2:Hid (Below w.heap.size w w2):=BW1.out.trans (B2.mono BW1.out.size)
 have hw2:w.heap.size<=w2.heap.size:=BW2.out.size
 clear A2 B2 O1 BW1
 obtain ⟨o0,o1,o2,o3,o4,oz⟩:=O2.out
 clear O2
 go_wp2_with fail
 refine (bE a L.length c (FL L) i _ (HF.out.below BW2.out)).mono ?_
 rintro e wx ⟨rfl,hwx⟩
 have ew:w2=wx:=hwx.symm
 subst ew
 clear hwx
 generalize aT (FL L) L.length i=zi
 go_wp2_with fail
 refine (bE a L.length c (FL L) t _ (HF.out.below BW2.out)).mono ?_
 rintro e wx ⟨rfl,hwx⟩
 have ew:w2=wx:=hwx.symm
 subst ew
 clear hwx
 generalize aT (FL L) L.length t=zt
 go_wp2_with fail
 refine (rA w.heap.size g c2 L i t m r _ A2'.out hw2 hn).mono ?_
 rintro e w3 ⟨v3,rfl,A3,B3⟩
 have BW3:Hid (Below w.heap.size w w3):=BW2.out.trans B3
 have HLen:Hid ((aK L 1 i t m r).2.length<=L.length+1):=eU L 1 i t m r
 have HD:Hid (ao L 1 i t m r=bV L (aK L 1 i t m r)):=HD0.out
 rw[HP.out] at HLen HD
 generalize da L i t m r=R at*
 clear B3 HP
 obtain ⟨cd,L3⟩:=R
 have AH:Hid (AL w3 w.heap.size v3 L3):=A3
 clear A3
 have hl3:L3.length<=1048576:=by have:=HLen.out;simp only at this;omega
 obtain ⟨a3,c3,hv3⟩:=AH.out.len
 subst hv3
 have F3:Hid (Fo w3 a3 L3.length (FL L3)):=(AH.out.fo hl3).2
 by_cases h0:cd=0
 ·subst h0
  by_cases hr3:ap (FL L3) L3.length
  ·have E:Hid (ao L 1 i t m r=(0,L3)):=(by rw[HD.out];simp[bV,hr3]:ao L 1 i t m r=(0,L3))
   have HR3:Hid (ap (FL L3) L3.length):=hr3
   clear hr3
   go_wp2_with fail
   refine (dh a3 L3.length c3 (FL L3) _ F3.out HR3.out).mono ?_
   rintro e w4 ⟨rfl,B4⟩
   have A4:Hid (AL w4 w.heap.size (Sl a3 L3.length c3) L3):=AH.out.kept B4
   have B4':Hid (Below w.heap.size w w4):=BW3.out.trans (B4.mono BW3.out.size)
   clear B4
   go_wp2
   go_ret2
   rw[E.out]
   exact ⟨_,rfl,A4.out,B4'.out⟩
  ·have E:Hid (ao L 1 i t m r=(7,L)):=(by rw[HD.out];simp[bV,hr3]:ao L 1 i t m r=(7,L))
   have HR3:Hid (¬ap (FL L3) L3.length):=hr3
   clear hr3
   go_wp2_with fail
   refine (eZ a3 L3.length c3 (FL L3) _ F3.out HR3.out).mono ?_
   rintro e w4 ⟨rfl,B4⟩
   have B4':Hid (Below w.heap.size w w4):=BW3.out.trans (B4.mono BW3.out.size)
   clear B4
   go_wp2_with fail
   refine (aM a L.length c L _ rfl (HF.out.below B4'.out)).mono ?_
   rintro e w9 ⟨g9,c9,rfl,A9,B9⟩
   have A9':Hid (AL w9 w.heap.size (Sl (some ⟨g9,0,none⟩) L.length c9) L):=A9.mono B4'.out.size
   have B9':Hid (Below w.heap.size w w9):=B4'.out.trans (B9.mono B4'.out.size)
   clear A9 B9
   go_wp2
   go_ret2
   rw[E.out]
   exact ⟨_,rfl,A9'.out,B9'.out⟩
 ·have E:Hid (ao L 1 i t m r=(cd,L)):=(by rw[HD.out];simp[bV,h0]:ao L 1 i t m r=(cd,L))
  have hb0:(cd == 0)=false:=by simp[h0]
  have hb1:(cd != 0)=true:=by simp[h0]
  clear h0
  go_wp2_with fail
  refine (aM a L.length c L _ rfl (HF.out.below BW3.out)).mono ?_
  rintro e w9 ⟨g9,c9,rfl,A9,B9⟩
  have A9':Hid (AL w9 w.heap.size (Sl (some ⟨g9,0,none⟩) L.length c9) L):=A9.mono BW3.out.size
  have B9':Hid (Below w.heap.size w w9):=BW3.out.trans (B9.mono BW3.out.size)
  clear A9 B9
  go_wp2
  go_ret2
  rw[E.out]
  exact ⟨_,rfl,A9'.out,B9'.out⟩
open Go.RowKit
theorem mQ (B g c:Nat) (L:List al) (p q:Nat) (m:Int) (w:World) (h:AL w B (Sl (some ⟨g,0,none⟩) L.length c) L) (hBw:B<=w.heap.size) (hR:ap (FL L) L.length) (hp:p<L.length) (hq:q<L.length) (hpq:p≠q) (hm1:1<=m) (hm2:m<=1000000000000):
  Calls Pg 120 #[Sl (some ⟨g,0,none⟩) L.length c,Ii Jj p,Ii Jj q,Ii Jj m] w fun e w'=>fs (eo L p q m) B w e w':=
 (sE B g c L p q m w h hBw hR hp hq hpq hm1 hm2).mono fun _ _ ⟨a,b,d⟩=>⟨_,a,b,d⟩
theorem lq (a:Option Addr) (c:Nat) (L:List al) (i t m r:Int) (w:World) (h:Fo w a L.length (FL L)) (hR:ap (FL L) L.length) (ho:ax 7 i t m r) (p q:Nat) (hpi:aB (FL L) L.length i=some p) (hpt:aB (FL L) L.length t=some q):
  Calls Pg 104 #[Sl a L.length c,.agg #[Ii Jj 7,Ii Jj i,Ii Jj t,Ii Jj m,Ii Jj r]] w fun e w'=>fs (ao L 7 i t m r) w.heap.size w e w':=by
 have HF:Hid (Fo w a L.length (FL L)):=h
 have HR:Hid (ap (FL L) L.length):=hR
 have hn:=hR.1
 have HO:Hid (ax 7 i t m r):=ho
 have HD0:Hid (ao L 7 i t m r=bV L (aK L 7 i t m r)):=(by unfold ao;rw[if_pos ho]:ao L 7 i t m r=bV L (aK L 7 i t m r))
 obtain ⟨hp,hid⟩:=bD hpi
 have HAI:Hid (aT (FL L) L.length i=(p:Int)):=aX hpi
 obtain ⟨hq,hit⟩:=bD hpt
 have HAT:Hid (aT (FL L) L.length t=(q:Int)):=aX hpt
 have HP:Hid (aK L 7 i t m r=eo L p q m):=(by unfold aK;simp[hpi,hpt]:aK L 7 i t m r=eo L p q m)
 have hpq:p≠q:=fun e=>by
  have ho:=HO.out
  unfold ax at ho
  rw[e,hit] at hid
  omega
 obtain ⟨hm1,hm2⟩:1<=m/\m<=1000000000000:=by have ho:=HO.out;unfold ax at ho;omega
 clear hpi hpt hid hit
 obtain ⟨W,hW⟩:∃W,W=w.alloc (.cells #[Ii Jj 7,Ii Jj i,Ii Jj t,Ii Jj m,Ii Jj r] 33):=⟨_,rfl⟩
 have OW:Hid (aN W w.heap.size 7 i t m r):=by rw[hW];exact aN.new w _ _ _ _ _ 33
 have BW:Hid (Below w.heap.size w W):=by rw[hW];exact (Bf _ _).alloc (Nf _) _
 obtain ⟨o0,o1,o2,o3,o4,oz⟩:=OW.out
 clear h hR ho
 go_enter Tryz.func104,Tryz.ntmps104
 go_upto_region 1 with fail
 rw[←hW]
 clear hW
 go_wp2_with fail
 refine (bJ 7 i t m r _ HO.out).mono ?_
 rintro e w1 ⟨rfl,B1⟩
 have O1:Hid (aN w1 w.heap.size 7 i t m r):=OW.out.below B1
 have BW1:Hid (Below w.heap.size w w1):=BW.out.trans (B1.mono BW.out.size)
 clear B1 OW BW o0 o1 o2 o3 o4 oz
 go_wp2_with fail
 refine (aM a L.length c L _ rfl (HF.out.below BW1.out)).mono ?_
 rintro e w2 ⟨g,c2,rfl,A2,B2⟩
 have O2:Hid (aN w2 w.heap.size 7 i t m r):=O1.out.below B2
 have A2':Hid (AL w2 w.heap.size (Sl (some ⟨g,0,none⟩) L.length c2) L):=A2.mono BW1.out.size
 have BW2:Hid (Below w.heap.size w w2):=BW1.out.trans (B2.mono BW1.out.size)
 have hw2:w.heap.size<=w2.heap.size:=BW2.out.size
 clear A2 B2 O1 BW1
 obtain ⟨o0,o1,o2,o3,o4,oz⟩:=O2.out
 clear O2
 go_wp2_with fail
 refine (bE a L.length c (FL L) i _ (HF.out.below BW2.out)).mono ?_
 rintro e wx ⟨rfl,hwx⟩
 have ew:w2=wx:=hwx.symm
 subst ew
 clear hwx
 rw[HAI.out]
 go_wp2_with fail
 refine (bE a L.length c (FL L) t _ (HF.out.below BW2.out)).mono ?_
 rintro e wx ⟨rfl,hwx⟩
 have ew:w2=wx:=hwx.symm
 subst ew
 clear hwx
 rw[HAT.out]
 go_wp2_with fail
 refine (mQ w.heap.size g c2 L p q m _ A2'.out hw2 HR.out hp hq hpq hm1 hm2).mono ?_
 rintro e w3 ⟨v3,rfl,A3,B3⟩
 have BW3:Hid (Below w.heap.size w w3):=BW2.out.trans B3
 have HLen:Hid ((aK L 7 i t m r).2.length<=L.length+1):=eU L 7 i t m r
 have HD:Hid (ao L 7 i t m r=bV L (aK L 7 i t m r)):=HD0.out
 rw[HP.out] at HLen HD
 generalize eo L p q m=R at*
 clear B3 HP
 obtain ⟨cd,L3⟩:=R
 have AH:Hid (AL w3 w.heap.size v3 L3):=A3
 clear A3
 have hl3:L3.length<=1048576:=by have:=HLen.out;simp only at this;omega
 obtain ⟨a3,c3,hv3⟩:=AH.out.len
 subst hv3
 have F3:Hid (Fo w3 a3 L3.length (FL L3)):=(AH.out.fo hl3).2
 by_cases h0:cd=0
 ·subst h0
  by_cases hr3:ap (FL L3) L3.length
  ·have E:Hid (ao L 7 i t m r=(0,L3)):=(by rw[HD.out];simp[bV,hr3]:ao L 7 i t m r=(0,L3))
   have HR3:Hid (ap (FL L3) L3.length):=hr3
   clear hr3
   go_wp2_with fail
   refine (dh a3 L3.length c3 (FL L3) _ F3.out HR3.out).mono ?_
   rintro e w4 ⟨rfl,B4⟩
   have A4:Hid (AL w4 w.heap.size (Sl a3 L3.length c3) L3):=AH.out.kept B4
   have B4':Hid (Below w.heap.size w w4):=BW3.out.trans (B4.mono BW3.out.size)
   clear B4
   go_wp2
   go_ret2
   rw[E.out]
   exact ⟨_,rfl,A4.out,B4'.out⟩
  ·have E:Hid (ao L 7 i t m r=(7,L)):=(by rw[HD.out];simp[bV,hr3]:ao L 7 i t m r=(7,L))
   have HR3:Hid (¬ap (FL L3) L3.length):=hr3
   clear hr3
   go_wp2_with fail
   refine (eZ a3 L3.length c3 (FL L3) _ F3.out HR3.out).mono ?_
   rintro e w4 ⟨rfl,B4⟩
   have B4':Hid (Below w.heap.size w w4):=BW3.out.trans (B4.mono BW3.out.size)
   clear B4
   go_wp2_with fail
   refine (aM a L.length c L _ rfl (HF.out.below B4'.out)).mono ?_
   rintro e w9 ⟨g9,c9,rfl,A9,B9⟩
   have A9':Hid (AL w9 w.heap.size (Sl (some ⟨g9,0,none⟩) L.length c9) L):=A9.mono B4'.out.size
   have B9':Hid (Below w.heap.size w w9):=B4'.out.trans (B9.mono B4'.out.size)
   clear A9 B9
   go_wp2
   go_ret2
   rw[E.out]
   exact ⟨_,rfl,A9'.out,B9'.out⟩
 ·have E:Hid (ao L 7 i t m r=(cd,L)):=(by rw[HD.out];simp[bV,h0]:ao L 7 i t m r=(cd,L))
  have hb0:(cd == 0)=false:=by simp[h0]
  have hb1:(cd != 0)=true:=by simp[h0]
  clear h0
  go_wp2_with fail
  refine (aM a L.length c L _ rfl (HF.out.below BW3.out)).mono ?_
  rintro e w9 ⟨g9,c9,rfl,A9,B9⟩
  have A9':Hid (AL w9 w.heap.size (Sl (some ⟨g9,0,none⟩) L.length c9) L):=A9.mono BW3.out.size
  have B9':Hid (Below w.heap.size w w9):=BW3.out.trans (B9.mono BW3.out.size)
  clear A9 B9
  go_wp2
  go_ret2
  rw[E.out]
  exact ⟨_,rfl,A9'.out,B9'.out⟩
open Go.RowKit
theorem jR (a:Option Addr) (c:Nat) (L:List al) (i t m r:Int) (w:World) (h:Fo w a L.length (FL L)) (hR:ap (FL L) L.length) (ho:ax 9 i t m r) (p q:Nat) (hpi:aB (FL L) L.length i=some p) (hpt:aB (FL L) L.length t=some q):
  Calls Pg 104 #[Sl a L.length c,.agg #[Ii Jj 9,Ii Jj i,Ii Jj t,Ii Jj m,Ii Jj r]] w fun e w'=>fs (ao L 9 i t m r) w.heap.size w e w':=by
 have HF:Hid (Fo w a L.length (FL L)):=h
 have HR:Hid (ap (FL L) L.length):=hR
 have hn:=hR.1
 have HO:Hid (ax 9 i t m r):=ho
 have HD0:Hid (ao L 9 i t m r=bV L (aK L 9 i t m r)):=(by unfold ao;rw[if_pos ho]:ao L 9 i t m r=bV L (aK L 9 i t m r))
 obtain ⟨hp,hid⟩:=bD hpi
 have HAI:Hid (aT (FL L) L.length i=(p:Int)):=aX hpi
 obtain ⟨hq,hit⟩:=bD hpt
 have HAT:Hid (aT (FL L) L.length t=(q:Int)):=aX hpt
 have HP:Hid (aK L 9 i t m r=cW L p q ((aB (FL L) L.length (FL L p).up).getD 0)):=(by unfold aK;simp[hpi,hpt]:aK L 9 i t m r=cW L p q ((aB (FL L) L.length (FL L p).up).getD 0))
 have HU:Hid ((FL L p).up≠0->(aB (FL L) L.length (FL L p).up).getD 0<L.length/\(FL L ((aB (FL L) L.length (FL L p).up).getD 0)).id=(FL L p).up):=fun hup=>by
  obtain ⟨x,hx,hxi,_⟩:=HR.out.path_up hp hup
  have e:aB (FL L) L.length (FL L p).up=some x:=by rw[←hxi];exact dK HR.out.2.2.1 hx
  rw[e]
  exact ⟨hx,hxi⟩
 have SH:Hid (∀(g c2:Nat) w',AL w' w.heap.size (Sl (some ⟨g,0,none⟩) L.length c2) L->w.heap.size<=w'.heap.size->Calls Pg 121 #[Sl (some ⟨g,0,none⟩) L.length c2,Ii Jj p,.agg #[Ii Jj 9,Ii Jj i,Ii Jj t,Ii Jj m,Ii Jj r]] w' fun e w''=>fs (cW L p q ((aB (FL L) L.length (FL L p).up).getD 0)) w.heap.size w' e w''):=fun g c2 w' h1 h2=>by
  have:=rp w.heap.size g c2 L p q ((aB (FL L) L.length (FL L p).up).getD 0) m r w' h1 h2 HR.out hp hq HU.out
  rw[hid,hit] at this
  exact this
 generalize (aB (FL L) L.length (FL L p).up).getD 0=u at*
 clear hpi hpt hid hit HU
 obtain ⟨W,hW⟩:∃W,W=w.alloc (.cells #[Ii Jj 9,Ii Jj i,Ii Jj t,Ii Jj m,Ii Jj r] 33):=⟨_,rfl⟩
 have OW:Hid (aN W w.heap.size 9 i t m r):=by rw[hW];exact aN.new w _ _ _ _ _ 33
 have BW:Hid (Below w.heap.size w W):=by rw[hW];exact (Bf _ _).alloc (Nf _) _
 obtain ⟨o0,o1,o2,o3,o4,oz⟩:=OW.out
 clear h hR ho
 go_enter Tryz.func104,Tryz.ntmps104
 go_upto_region 1 with fail
 rw[←hW]
 clear hW
 go_wp2_with fail
 refine (bJ 9 i t m r _ HO.out).mono ?_
 rintro e w1 ⟨rfl,B1⟩
 have O1:Hid (aN w1 w.heap.size 9 i t m r):=OW.out.below B1
 have BW1:Hid (Below w.heap.size w w1):=BW.out.trans (B1.mono BW.out.size)
 clear B1 OW BW o0 o1 o2 o3 o4 oz
 go_wp2_with fail
 refine (aM a L.length c L _ rfl (HF.out.below BW1.out)).mono ?_
 rintro e w2 ⟨g,c2,rfl,A2,B2⟩
 have O2:Hid (aN w2 w.heap.size 9 i t m r):=O1.out.below B2
 have A2':Hid (AL w2 w.heap.size (Sl (some ⟨g,0,none⟩) L.length c2) L):=A2.mono BW1.out.size
 have BW2:Hid (Below w.heap.size w w2):=BW1.out.trans (B2.mono BW1.out.size)
 have hw2:w.heap.size<=w2.heap.size:=BW2.out.size
 clear A2 B2 O1 BW1
 obtain ⟨o0,o1,o2,o3,o4,oz⟩:=O2.out
 clear O2
 go_wp2_with fail
 refine (bE a L.length c (FL L) i _ (HF.out.below BW2.out)).mono ?_
 rintro e wx ⟨rfl,hwx⟩
 have ew:w2=wx:=hwx.symm
 subst ew
 clear hwx
 rw[HAI.out]
 go_wp2_with fail
 refine (bE a L.length c (FL L) t _ (HF.out.below BW2.out)).mono ?_
 rintro e wx ⟨rfl,hwx⟩
 have ew:w2=wx:=hwx.symm
 subst ew
 clear hwx
 rw[HAT.out]
 go_wp2_with fail
 refine (SH.out _ _ _ A2'.out hw2).mono ?_
 rintro e w3 ⟨v3,rfl,A3,B3⟩
 have BW3:Hid (Below w.heap.size w w3):=BW2.out.trans B3
 have HLen:Hid ((aK L 9 i t m r).2.length<=L.length+1):=eU L 9 i t m r
 have HD:Hid (ao L 9 i t m r=bV L (aK L 9 i t m r)):=HD0.out
 rw[HP.out] at HLen HD
 generalize cW L p q u=R at*
 clear B3 HP
 obtain ⟨cd,L3⟩:=R
 have AH:Hid (AL w3 w.heap.size v3 L3):=A3
 clear A3
 have hl3:L3.length<=1048576:=by have:=HLen.out;simp only at this;omega
 obtain ⟨a3,c3,hv3⟩:=AH.out.len
 subst hv3
 have F3:Hid (Fo w3 a3 L3.length (FL L3)):=(AH.out.fo hl3).2
 by_cases h0:cd=0
 ·subst h0
  by_cases hr3:ap (FL L3) L3.length
  ·have E:Hid (ao L 9 i t m r=(0,L3)):=(by rw[HD.out];simp[bV,hr3]:ao L 9 i t m r=(0,L3))
   have HR3:Hid (ap (FL L3) L3.length):=hr3
   clear hr3
   go_wp2_with fail
   refine (dh a3 L3.length c3 (FL L3) _ F3.out HR3.out).mono ?_
   rintro e w4 ⟨rfl,B4⟩
   have A4:Hid (AL w4 w.heap.size (Sl a3 L3.length c3) L3):=AH.out.kept B4
   have B4':Hid (Below w.heap.size w w4):=BW3.out.trans (B4.mono BW3.out.size)
   clear B4
   go_wp2
   go_ret2
   rw[E.out]
   exact ⟨_,rfl,A4.out,B4'.out⟩
  ·have E:Hid (ao L 9 i t m r=(7,L)):=(by rw[HD.out];simp[bV,hr3]:ao L 9 i t m r=(7,L))
   have HR3:Hid (¬ap (FL L3) L3.length):=hr3
   clear hr3
   go_wp2_with fail
   refine (eZ a3 L3.length c3 (FL L3) _ F3.out HR3.out).mono ?_
   rintro e w4 ⟨rfl,B4⟩
   have B4':Hid (Below w.heap.size w w4):=BW3.out.trans (B4.mono BW3.out.size)
   clear B4
   go_wp2_with fail
   refine (aM a L.length c L _ rfl (HF.out.below B4'.out)).mono ?_
   rintro e w9 ⟨g9,c9,rfl,A9,B9⟩
   have A9':Hid (AL w9 w.heap.size (Sl (some ⟨g9,0,none⟩) L.length c9) L):=A9.mono B4'.out.size
   have B9':Hid (Below w.heap.size w w9):=B4'.out.trans (B9.mono B4'.out.size)
   clear A9 B9
   go_wp2
   go_ret2
   rw[E.out]
   exact ⟨_,rfl,A9'.out,B9'.out⟩
 ·have E:Hid (ao L 9 i t m r=(cd,L)):=(by rw[HD.out];simp[bV,h0]:ao L 9 i t m r=(cd,L))
  have hb0:(cd == 0)=false:=by simp[h0]
  have hb1:(cd != 0)=true:=by simp[h0]
  clear h0
  go_wp2_with fail
  refine (aM a L.length c L _ rfl (HF.out.below BW3.out)).mono ?_
  rintro e w9 ⟨g9,c9,rfl,A9,B9⟩
  have A9':Hid (AL w9 w.heap.size (Sl (some ⟨g9,0,none⟩) L.length c9) L):=A9.mono BW3.out.size
  have B9':Hid (Below w.heap.size w w9):=BW3.out.trans (B9.mono BW3.out.size)
  clear A9 B9
  go_wp2
  go_ret2
  rw[E.out]
  exact ⟨_,rfl,A9'.out,B9'.out⟩
open Go.RowKit
theorem lp (a:Option Addr) (c:Nat) (L:List al) (k i t m r:Int) (w:World) (h:Fo w a L.length (FL L)) (hR:ap (FL L) L.length) (ho:ax k i t m r) (p:Nat) (hpi:aB (FL L) L.length i=some p) (k1:k≠1) (k7:k≠7) (k9:k≠9):
  Calls Pg 104 #[Sl a L.length c,.agg #[Ii Jj k,Ii Jj i,Ii Jj t,Ii Jj m,Ii Jj r]] w fun e w'=>fs (ao L k i t m r) w.heap.size w e w':=by
 have HF:Hid (Fo w a L.length (FL L)):=h
 have HR:Hid (ap (FL L) L.length):=hR
 have hn:=hR.1
 have HO:Hid (ax k i t m r):=ho
 have HD0:Hid (ao L k i t m r=bV L (aK L k i t m r)):=(by unfold ao;rw[if_pos ho]:ao L k i t m r=bV L (aK L k i t m r))
 obtain ⟨hp,_⟩:=bD hpi
 have HAI:Hid (aT (FL L) L.length i=(p:Int)):=aX hpi
 have HP:Hid (aK L k i t m r=ch L p k m):=(by unfold aK;simp[hpi,k1,k7,k9]:aK L k i t m r=ch L p k m)
 have j1:(k == 1)=false:=by simp[k1]
 have j7:(k == 7)=false:=by simp[k7]
 have j9:(k == 9)=false:=by simp[k9]
 have K1:Hid (k≠1):=k1
 have K7:Hid (k≠7):=k7
 have K9:Hid (k≠9):=k9
 clear hpi k1 k7 k9
 obtain ⟨W,hW⟩:∃W,W=w.alloc (.cells #[Ii Jj k,Ii Jj i,Ii Jj t,Ii Jj m,Ii Jj r] 33):=⟨_,rfl⟩
 have OW:Hid (aN W w.heap.size k i t m r):=by rw[hW];exact aN.new w _ _ _ _ _ 33
 have BW:Hid (Below w.heap.size w W):=by rw[hW];exact (Bf _ _).alloc (Nf _) _
 obtain ⟨o0,o1,o2,o3,o4,oz⟩:=OW.out
 clear h hR ho
 go_enter Tryz.func104,Tryz.ntmps104
 go_upto_region 1 with fail
 rw[←hW]
 clear hW
 go_wp2_with fail
 refine (bJ k i t m r _ HO.out).mono ?_
 rintro e w1 ⟨rfl,B1⟩
 have O1:Hid (aN w1 w.heap.size k i t m r):=OW.out.below B1
 have BW1:Hid (Below w.heap.size w w1):=BW.out.trans (B1.mono BW.out.size)
 clear B1 OW BW o0 o1 o2 o3 o4 oz
 go_wp2_with fail
 refine (aM a L.length c L _ rfl (HF.out.below BW1.out)).mono ?_
 rintro e w2 ⟨g,c2,rfl,A2,B2⟩
 have O2:Hid (aN w2 w.heap.size k i t m r):=O1.out.below B2
 have A2':Hid (AL w2 w.heap.size (Sl (some ⟨g,0,none⟩) L.length c2) L):=A2.mono BW1.out.size
 have BW2:Hid (Below w.heap.size w w2):=BW1.out.trans (B2.mono BW1.out.size)
 have hw2:w.heap.size<=w2.heap.size:=BW2.out.size
 clear A2 B2 O1 BW1
 obtain ⟨o0,o1,o2,o3,o4,oz⟩:=O2.out
 clear O2
 go_wp2_with fail
 refine (bE a L.length c (FL L) i _ (HF.out.below BW2.out)).mono ?_
 rintro e wx ⟨rfl,hwx⟩
 have ew:w2=wx:=hwx.symm
 subst ew
 clear hwx
 rw[HAI.out]
 go_wp2_with fail
 refine (bE a L.length c (FL L) t _ (HF.out.below BW2.out)).mono ?_
 rintro e wx ⟨rfl,hwx⟩
 have ew:w2=wx:=hwx.symm
 subst ew
 clear hwx
 generalize aT (FL L) L.length t=zt
 go_wp2_with fail
 refine (sy w.heap.size g c2 L p k i t m r _ A2'.out hw2 HR.out hp HO.out K1.out K7.out K9.out).mono ?_
 rintro e w3 ⟨v3,rfl,A3,B3⟩
 have BW3:Hid (Below w.heap.size w w3):=BW2.out.trans B3
 have HLen:Hid ((aK L k i t m r).2.length<=L.length+1):=eU L k i t m r
 have HD:Hid (ao L k i t m r=bV L (aK L k i t m r)):=HD0.out
 rw[HP.out] at HLen HD
 generalize ch L p k m=R at*
 clear B3 HP
 obtain ⟨cd,L3⟩:=R
 have AH:Hid (AL w3 w.heap.size v3 L3):=A3
 clear A3
 have hl3:L3.length<=1048576:=by have:=HLen.out;simp only at this;omega
 obtain ⟨a3,c3,hv3⟩:=AH.out.len
 subst hv3
 have F3:Hid (Fo w3 a3 L3.length (FL L3)):=(AH.out.fo hl3).2
 by_cases h0:cd=0
 ·subst h0
  by_cases hr3:ap (FL L3) L3.length
  ·have E:Hid (ao L k i t m r=(0,L3)):=(by rw[HD.out];simp[bV,hr3]:ao L k i t m r=(0,L3))
   have HR3:Hid (ap (FL L3) L3.length):=hr3
   clear hr3
   go_wp2_with fail
   refine (dh a3 L3.length c3 (FL L3) _ F3.out HR3.out).mono ?_
   rintro e w4 ⟨rfl,B4⟩
   have A4:Hid (AL w4 w.heap.size (Sl a3 L3.length c3) L3):=AH.out.kept B4
   have B4':Hid (Below w.heap.size w w4):=BW3.out.trans (B4.mono BW3.out.size)
   clear B4
   go_wp2
   go_ret2
   rw[E.out]
   exact ⟨_,rfl,A4.out,B4'.out⟩
  ·have E:Hid (ao L k i t m r=(7,L)):=(by rw[HD.out];simp[bV,hr3]:ao L k i t m r=(7,L))
   have HR3:Hid (¬ap (FL L3) L3.length):=hr3
   clear hr3
   go_wp2_with fail
   refine (eZ a3 L3.length c3 (FL L3) _ F3.out HR3.out).mono ?_
   rintro e w4 ⟨rfl,B4⟩
   have B4':Hid (Below w.heap.size w w4):=BW3.out.trans (B4.mono BW3.out.size)
   clear B4
   go_wp2_with fail
   refine (aM a L.length c L _ rfl (HF.out.below B4'.out)).mono ?_
   rintro e w9 ⟨g9,c9,rfl,A9,B9⟩
   have A9':Hid (AL w9 w.heap.size (Sl (some ⟨g9,0,none⟩) L.length c9) L):=A9.mono B4'.out.size
   have B9':Hid (Below w.heap.size w w9):=B4'.out.trans (B9.mono B4'.out.size)
   clear A9 B9
   go_wp2
   go_ret2
   rw[E.out]
   exact ⟨_,rfl,A9'.out,B9'.out⟩
 ·have E:Hid (ao L k i t m r=(cd,L)):=(by rw[HD.out];simp[bV,h0]:ao L k i t m r=(cd,L))
  have hb0:(cd == 0)=false:=by simp[h0]
  have hb1:(cd != 0)=true:=by simp[h0]
  clear h0
  go_wp2_with fail
  refine (aM a L.length c L _ rfl (HF.out.below BW3.out)).mono ?_
  rintro e w9 ⟨g9,c9,rfl,A9,B9⟩
  have A9':Hid (AL w9 w.heap.size (Sl (some ⟨g9,0,none⟩) L.length c9) L):=A9.mono BW3.out.size
  have B9':Hid (Below w.heap.size w w9):=BW3.out.trans (B9.mono BW3.out.size)
  clear A9 B9
  go_wp2
  go_ret2
  rw[E.out]
  exact ⟨_,rfl,A9'.out,B9'.out⟩
open Go.RowKit
theorem eY (a:Option Addr) (c:Nat) (L:List al) (k i t m r:Int) (w:World) (h:Fo w a L.length (FL L)) (hR:ap (FL L) L.length):
  Calls Pg 104 #[Sl a L.length c,.agg #[Ii Jj k,Ii Jj i,Ii Jj t,Ii Jj m,Ii Jj r]] w fun e w'=>fs (ao L k i t m r) w.heap.size w e w':=by
 by_cases ho:ax k i t m r
 ·by_cases k1:k=1
  ·subst k1;exact jT a c L i t m r w h hR ho
  ·cases hpi:aB (FL L) L.length i with
   | none=>
    by_cases k7:k=7
    ·subst k7;exact jy a c L i t m r w h hR ho hpi
    ·by_cases k9:k=9
     ·subst k9;exact jz a c L i t m r w h hR ho hpi
     ·exact jS a c L k i t m r w h hR ho hpi k1 k7 k9
   | some p=>
    by_cases k7:k=7
    ·subst k7
     cases hpt:aB (FL L) L.length t with
     | none=>exact lr a c L i t m r w h hR ho p hpi hpt
     | some q=>exact lq a c L i t m r w h hR ho p q hpi hpt
    ·by_cases k9:k=9
     ·subst k9
      cases hpt:aB (FL L) L.length t with
      | none=>exact lu a c L i t m r w h hR ho p hpi hpt
      | some q=>exact jR a c L i t m r w h hR ho p q hpi hpt
     ·exact lp a c L k i t m r w h hR ho p hpi k1 k7 k9
 ·exact jQ a c L k i t m r w h ho
end Go.Proofs.YtjhgchlfpolkcaaGreatDoor
