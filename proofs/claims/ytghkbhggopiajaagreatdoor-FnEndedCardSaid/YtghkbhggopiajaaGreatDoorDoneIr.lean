/- The program's Done. -/
import Derived.Test.YtghkbhggopiajaaGreatDoorTrisr
namespace Go.Proofs.YtghkbhggopiajaaGreatDoor
open Go.RowKit
set_option maxRecDepth 8000
theorem fin_same {L:List Acc} {k i t m r:Int} (h:(doneS L k i t m r).1≠0):(doneS L k i t m r).2=L:=by
 unfold doneS at h ⊢
 split
 ·rename_i ho
  rw[if_pos ho] at h
  unfold finS at h ⊢
  split
  ·rename_i h0
   rw[if_pos h0] at h
   split
   ·rename_i hr
    rw[if_pos hr] at h
    exact absurd h0 h
   ·rfl
  ·rfl
 ·rfl
set_option maxRecDepth 8000 in
set_option maxHeartbeats 2000000 in
theorem implDone (a:Option Addr) (c:Nat) (L:List Acc) (k i t m r:Int) (p:Nat->Addr) (w:World) (h:Fo w a L.length (FL L)) (hG:GE w p):
  Calls Tryz.prog 115 #[.slice a L.length c,.agg #[.int .i64 k,.int .i64 i,.int .i64 t,.int .i64 m,.int .i64 r]] w fun e w'=>Out (doneAny L k i t m r) w.heap.size w e w':=by
 obtain ⟨W,hW⟩:∃W,W=w.alloc (.cells #[.int .i64 k,.int .i64 i,.int .i64 t,.int .i64 m,.int .i64 r] 49):=⟨_,rfl⟩
 have OW:Hid (OpBox W w.heap.size k i t m r):=by rw[hW];exact OpBox.new w _ _ _ _ _ 49
 have BW:Hid (Below w.heap.size w W):=by rw[hW];exact (Below.refl _ _).alloc (Nat.le_refl _) _
 have GW:=hidOf (hG.below BW.out)
 have HF:=hidOf h
 clear h hG
 by_cases hR:Right (FL L) L.length
 ·have E:Hid (doneAny L k i t m r=doneS L k i t m r):=(by unfold doneAny;rw[if_pos hR]:doneAny L k i t m r=doneS L k i t m r)
  have HR:=hidOf hR
  clear hR
  go_enter Tryz.func115,Tryz.ntmps115
  go_upto_region 1 with fail
  rw[←hW]
  clear hW
  go_wp2_with fail
  refine (implOk_yes a L.length c (FL L) _ (HF.out.below BW.out) HR.out).mono ?_
  rintro e w1 ⟨rfl,B1⟩
  have S1:Hid (OpBox w1 w.heap.size k i t m r/\Below w.heap.size w w1/\GE w1 p):=⟨OW.out.below B1,BW.out.trans (B1.mono BW.out.size),GW.out.below B1⟩
  clear B1 OW BW GW
  obtain ⟨o0,o1,o2,o3,o4,oz⟩:=S1.out.1
  go_wp2_with fail
  refine (tried a c L k i t m r p _ (HF.out.below S1.out.2.1) HR.out S1.out.2.2).mono ?_
  rintro e w2 (⟨h0,v,rfl,A2,B2⟩|⟨hne,x,g,hg,hcg,rfl,B2⟩)
  ·have S2:Hid (Below w.heap.size w w2/\AL w2 w.heap.size v (doneS L k i t m r).2):=⟨S1.out.2.1.trans (B2.mono S1.out.2.1.size),A2.mono S1.out.2.1.size⟩
   have H0:=hidOf h0
   obtain ⟨va,vc,hv⟩:=A2.len
   obtain ⟨n',hn'⟩:∃n',n'=(doneS L k i t m r).2.length:=⟨_,rfl⟩
   rw[←hn'] at hv
   subst hv
   clear A2 B2 hn' h0 o0 o1 o2 o3 o4 oz S1
   go_wp2_with fail
   refine (codeOf_nil _).mono ?_
   rintro e w3 ⟨rfl,B3⟩
   have S3:Hid (Below w.heap.size w w3/\AL w3 w.heap.size (.slice va n' vc) (doneS L k i t m r).2):=⟨S2.out.1.trans (B3.mono S2.out.1.size),S2.out.2.kept B3⟩
   clear B3 S2
   go_wp2
   go_ret2
   rw[E.out]
   exact ⟨_,by rw[H0.out];rfl,S3.out.2,S3.out.1⟩
  ·have S2:Hid (Below w.heap.size w w2/\GE w2 p):=⟨S1.out.2.1.trans (B2.mono S1.out.2.1.size),S1.out.2.2.below B2⟩
   have HX:Hid (g<7/\codeG g=(doneS L k i t m r).1):=⟨hg,hcg⟩
   have HL:Hid ((doneS L k i t m r).2=L):=fin_same hne
   clear B2 hg hcg hne o0 o1 o2 o3 o4 oz S1
   unfold refV
   go_wp2_with fail
   refine (implCopied a L.length c L _ rfl (HF.out.below S2.out.1)).mono ?_
   rintro e w3 ⟨v,rfl,A3,B3⟩
   have S3:Hid (Below w.heap.size w w3/\GE w3 p/\AL w3 w.heap.size v L):=⟨S2.out.1.trans (B3.mono S2.out.1.size),S2.out.2.below B3,A3.mono S2.out.1.size⟩
   obtain ⟨va,vc,hv⟩:=A3.len
   obtain ⟨n',hn'⟩:∃n',n'=L.length:=⟨_,rfl⟩
   rw[←hn'] at hv
   subst hv
   clear A3 B3 hn' S2
   go_wp2_with fail
   refine (codeOf_ref x p g _ S3.out.2.1 HX.out.1).mono ?_
   rintro e w4 ⟨rfl,B4⟩
   have S4:Hid (Below w.heap.size w w4/\AL w4 w.heap.size (.slice va n' vc) L):=⟨S3.out.1.trans (B4.mono S3.out.1.size),S3.out.2.2.kept B4⟩
   clear B4 S3
   go_wp2
   go_ret2
   rw[E.out]
   exact ⟨_,by rw[←HX.out.2];rfl,by rw[HL.out];exact S4.out.2,S4.out.1⟩
 ·have E:Hid (doneAny L k i t m r=(1,[])):=(by unfold doneAny;rw[if_neg hR]:doneAny L k i t m r=(1,[]))
  have HR:=hidOf hR
  clear hR
  go_enter Tryz.func115,Tryz.ntmps115
  go_upto_region 1 with fail
  rw[←hW]
  clear hW
  go_wp2_with fail
  refine (implOk_no a L.length c (FL L) _ (HF.out.below BW.out) HR.out).mono ?_
  rintro e w1 ⟨rfl,B1⟩
  have BW1:=hidOf (BW.out.trans (B1.mono BW.out.size))
  clear B1 OW BW
  go_wp2
  go_ret2
  rw[E.out]
  exact ⟨_,rfl,World.ownsRow_nil _ _ 30 8,BW1.out⟩
end Go.Proofs.YtghkbhggopiajaaGreatDoor
