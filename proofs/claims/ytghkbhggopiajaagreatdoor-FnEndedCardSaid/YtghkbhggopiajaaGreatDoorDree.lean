/- The draw of FnEnded. -/
import Derived.Test.YtghkbhggopiajaaGreatDoorDrre
import Derived.Test.YtghkbhggopiajaaGreatDoorEdxe
namespace Go.Proofs.YtghkbhggopiajaaGreatDoor
open Go.RowKit
set_option maxRecDepth 8000
set_option maxHeartbeats 4000000 in
theorem drawEnded (a:Option Addr) (len cap:Nat) (w:World) (hc:Code w a len):
  Calls Tryz.prog 21 #[.slice a len cap] w fun e w'=>∃(k:Bk) (L:List Acc) (O:List Ord) (v u:Value),e=.returned (.agg #[.int .i64 k.day,v,u,.int .i64 k.inn,.int .i64 k.out,.int .i64 k.posted,.int .i64 k.missed])/\L.length<=12/\O.length<=8/\AL w' w.heap.size v L/\OrdL w' w.heap.size u O/\Below w.heap.size w w':=by
 obtain ⟨h,hh⟩:∃h,w.heap.size=h:=⟨_,rfl⟩
 have HH:=hidOf hh
 obtain ⟨W0,hW0,X0⟩:∃W0,W0=w.alloc (.cells #[.int .i64 0,.slice none 0 0,.slice none 0 0,.int .i64 0,.int .i64 0,.int .i64 0,.int .i64 0] 38)/\Hid (Box7 W0 h (.int .i64 0) (.slice none 0 0) (.slice none 0 0) (.int .i64 0) (.int .i64 0) (.int .i64 0) (.int .i64 0)/\Below h w W0/\W0.heap.size=h+1/\Code W0 a len):=by
  have bb:Below w.heap.size w (w.alloc (.cells #[.int .i64 0,.slice none 0 0,.slice none 0 0,.int .i64 0,.int .i64 0,.int .i64 0,.int .i64 0] 38)):=(Below.refl _ _).alloc (Nat.le_refl _) _
  exact ⟨_,rfl,by rw[←hh];exact Box7.new w _ _ _ _ _ _ _ 38,by rw[←hh];exact bb,by simp[hh],Code.below hc bb⟩
 have HW0:=hidOf hW0
 clear hW0 hc
 go_enter Tryz.func21,Tryz.ntmps21
 go_upto_region 1 with fail
 rw[←HW0.out]
 try rw[hh]
 clear HW0 hh
 go_wp2_with fail
 refine (rd_open a len cap _ X0.out.2.2.2.1 X0.out.2.2.2.2).mono ?_
 rintro e w1 ⟨rfl,R1,B1⟩
 rw[X0.out.2.2.1] at R1
 have X1:Hid (Box7 w1 h (.int .i64 0) (.slice none 0 0) (.slice none 0 0) (.int .i64 0) (.int .i64 0) (.int .i64 0) (.int .i64 0)/\Below h w w1/\Rd w1 (h+1) a len cap):=⟨X0.out.1.kept B1 X0.out.1.2.2,X0.out.2.1.trans (B1.mono (by have:=X0.out.2.2.1;omega)),R1⟩
 try rw[X0.out.2.2.1]
 clear R1 B1 X0
 go_wp2_with fail
 refine (rd_bank (h+1) a len cap 16 _ X1.out.2.2 (by omega) (by omega)).mono ?_
 rintro e w2 ⟨k,L,O,v,u,rfl,l2,o2,A2,Q2,R2,S2⟩
 obtain ⟨a1,c1,hv⟩:=A2.len
 subst hv
 obtain ⟨b1,d1,hv⟩:=Q2.len
 subst hv
 obtain ⟨m1,hm1⟩:∃m,L.length=m:=⟨_,rfl⟩
 obtain ⟨m2,hm2⟩:∃m,O.length=m:=⟨_,rfl⟩
 have HL:Hid (L.length<=12/\O.length<=8):=⟨l2,o2⟩
 have X2:Hid (Box7 w2 h (.int .i64 0) (.slice none 0 0) (.slice none 0 0) (.int .i64 0) (.int .i64 0) (.int .i64 0) (.int .i64 0)/\Below h w w2/\AL w2 (h+1) (.slice a1 m1 c1) L/\OrdL w2 (h+1) (.slice b1 m2 d1) O):=by
  have z1:=X1.out.2.2.2.2.2.1
  have b2:Below (h+1) w1 w2:=S2.below (by omega)
  rw[hm1] at A2
  rw[hm2] at Q2
  exact ⟨X1.out.1.kept b2 (by omega),X1.out.2.1.trans (b2.mono (by omega)),A2.mono (by omega),Q2.mono (by omega)⟩
 simp only[hm1,hm2]
 clear l2 o2 A2 Q2 R2 S2 X1 hm1 hm2
 obtain ⟨⟨r0,r1,r2,r3,r4,r5,r6⟩,rf,rz⟩:=X2.out.1
 go_wp2
 refine bodyPost_ret (v:=.agg #[.int .i64 k.day,(.slice a1 m1 c1),(.slice b1 m2 d1),.int .i64 k.inn,.int .i64 k.out,.int .i64 k.posted,.int .i64 k.missed]) (by simp[results,Tryz.results21,go_sem,r0,r1,r2,r3,r4,r5,r6]) rfl ⟨k,L,O,_,_,rfl,HL.out.1,HL.out.2,?_,?_,?_⟩
 ·rw[HH.out]
  refine AL.mono (B:=h+1) ?_ (by omega)
  repeat (refine AL.far ?_ (by omega) _ _)
  exact X2.out.2.2.1
 ·rw[HH.out]
  refine OrdL.mono (B:=h+1) ?_ (by omega)
  repeat (refine OrdL.far ?_ (by omega) _ _)
  exact X2.out.2.2.2
 ·rw[HH.out]
  repeat (refine below_far ?_ (by omega) _ _)
  exact X2.out.2.1
theorem end_facts {L:List Acc} {O:List Ord} {k:Bk} (h:gOk L O k=true):bankOk (FL L) L.length (OrdF O) O.length k/\bankOk (FL (gA L O k)) (gA L O k).length (OrdF (gO L O k)) (gO L O k).length (gK L O k)/\(∀i,i<(gO L O k).length->0<=nextDue (OrdF (gO L O k) i) (k.day+1))/\(gK L O k).day=k.day+1/\(gK L O k).inn=k.inn/\(gK L O k).out=k.out/\0<=(gK L O k).missed-k.missed/\(gK L O k).missed-k.missed<=((dueL (OrdF O) O.length k.day).length:Int):=by
 have hh:bankOk (FL L) L.length (OrdF O) O.length k/\endOk L O k:=by unfold gOk at h;simpa using h
 have e1:gA L O k=endA L O k:=by unfold gA;rw[if_pos h]
 have e2:gO L O k=endO O k:=by unfold gO;rw[if_pos h]
 have e3:gK L O k=endK L O k:=by unfold gK;rw[if_pos h]
 rw[e1,e2,e3]
 have hl:(endA L O k).length=L.length:=toL_len _ _
 have hp:=payTo_facts (D:=dueD O k) hh.1.2.1 (dueD O k).length
 refine ⟨hh.1,by rw[hl];exact hh.2,?_,rfl,rfl,rfl,?_,?_⟩
 ·intro i hi
  rw[OrdF_lt hi]
  have hm:(endO O k)[i] ∈ O.filter fun x=> !isOver (k.day+1) x:=List.getElem_mem hi
  have hf:=(List.mem_filter.1 hm).2
  unfold isOver at hf
  simpa using hf
 ·show 0<=k.missed+(payTo L (dueD O k) (dueD O k).length).2-k.missed
  omega
 ·show k.missed+(payTo L (dueD O k) (dueD O k).length).2-k.missed<=((dueD O k).length:Int)
  omega
end Go.Proofs.YtghkbhggopiajaaGreatDoor
