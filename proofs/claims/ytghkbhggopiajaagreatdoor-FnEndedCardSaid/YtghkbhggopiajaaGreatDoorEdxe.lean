/- The specification's Ended. -/
import Derived.Test.YtghkbhggopiajaaGreatDoorEdtr
import Derived.Test.YtghkbhggopiajaaGreatDoorEdsr
namespace Go.Proofs.YtghkbhggopiajaaGreatDoor
open Go.RowKit
set_option maxRecDepth 8000
theorem specEnded_bad (a b:Option Addr) (c d:Nat) (L:List Acc) (O:List Ord) (k:Bk) (w:World) (hF:Fo w a L.length (FL L)) (hO:Ords w b O.length (OrdF O)) (hb:¬bankOk (FL L) L.length (OrdF O) O.length k):
  Calls Tryz.prog 23 #[.agg #[.int .i64 k.day,.slice a L.length c,.slice b O.length d,.int .i64 k.inn,.int .i64 k.out,.int .i64 k.posted,.int .i64 k.missed]] w fun e w'=>e=.returned (.tuple #[.agg #[.int .i64 0,.slice none 0 0,.slice none 0 0,.int .i64 0,.int .i64 0,.int .i64 0,.int .i64 0],.bool false])/\Below w.heap.size w w':=by
 have HF:=hidOf hF
 have HO:=hidOf hO
 have HBad:=hidOf hb
 clear hF hO hb
 obtain ⟨W0,hW0⟩:∃W0,W0=(w.alloc (.cells #[.int .i64 k.day,.slice a L.length c,.slice b O.length d,.int .i64 k.inn,.int .i64 k.out,.int .i64 k.posted,.int .i64 k.missed] 38)).alloc (.cells #[.int .i64 0,.slice none 0 0,.slice none 0 0,.int .i64 0,.int .i64 0,.int .i64 0,.int .i64 0] 38):=⟨_,rfl⟩
 have b0:Below w.heap.size w W0:=by rw[hW0];exact ((Below.refl _ _).alloc (Nat.le_refl _) _).alloc (by simp) _
 have z1:Box7 W0 w.heap.size (.int .i64 k.day) (.slice a L.length c) (.slice b O.length d) (.int .i64 k.inn) (.int .i64 k.out) (.int .i64 k.posted) (.int .i64 k.missed):=by
  rw[hW0];exact (Box7.new w _ _ _ _ _ _ _ 38).kept ((Below.refl _ _).alloc (Nat.le_refl _) _) (by simp)
 have z2:Box7 W0 (w.heap.size+1) (.int .i64 0) (.slice none 0 0) (.slice none 0 0) (.int .i64 0) (.int .i64 0) (.int .i64 0) (.int .i64 0):=by
  rw[hW0]
  have:=Box7.new (w.alloc (.cells #[.int .i64 k.day,.slice a L.length c,.slice b O.length d,.int .i64 k.inn,.int .i64 k.out,.int .i64 k.posted,.int .i64 k.missed] 38)) (.int .i64 0) (.slice none 0 0) (.slice none 0 0) (.int .i64 0) (.int .i64 0) (.int .i64 0) (.int .i64 0) 38
  rw[World.size_alloc] at this
  exact this
 have hs0:W0.heap.size=w.heap.size+1+1:=by rw[hW0];simp
 have HW0:=hidOf hW0
 have HB0:=hidOf b0
 have Z1:=hidOf z1
 have Z2:=hidOf z2
 clear hW0 b0 z1 z2
 go_enter Tryz.func23,Tryz.ntmps23
 go_wp2_with fail
 rw[←HW0.out]
 clear HW0
 refine (specBank a b L.length c O.length d (FL L) (OrdF O) k _ (HF.out.below HB0.out) (HO.out.below HB0.out)).mono ?_
 rintro e w1 ⟨⟨bb,rfl,hb1,hb2⟩,B1⟩
 obtain rfl:bb=false:=by cases bb with|true=>exact absurd (hb1 rfl) HBad.out|false=>rfl
 obtain ⟨⟨r0,r1,r2,r3,r4,r5,r6⟩,rf,rz⟩:=Z2.out.kept B1 (by omega)
 have HB1:Hid (Below w.heap.size w w1):=HB0.out.trans (B1.mono (by omega))
 clear hb1 hb2 B1 HB0 Z1 Z2 hs0
 go_wp2
 refine bodyPost_ret (v:=.tuple #[.agg #[.int .i64 0,.slice none 0 0,.slice none 0 0,.int .i64 0,.int .i64 0,.int .i64 0,.int .i64 0],.bool false]) (by simp[results,Tryz.results23,go_sem,r0,r1,r2,r3,r4,r5,r6]) rfl ⟨rfl,?_⟩
 repeat (refine below_far ?_ (by omega) _ _)
 exact HB1.out
theorem specEnded (a b:Option Addr) (c d:Nat) (L:List Acc) (O:List Ord) (k:Bk) (w:World) (hF:Fo w a L.length (FL L)) (hO:Ords w b O.length (OrdF O)):
  Calls Tryz.prog 23 #[.agg #[.int .i64 k.day,.slice a L.length c,.slice b O.length d,.int .i64 k.inn,.int .i64 k.out,.int .i64 k.posted,.int .i64 k.missed]] w fun e w'=>EndOut L O k w e w':=by
 by_cases hb:bankOk (FL L) L.length (OrdF O) O.length k
 rotate_left
 ·exact (specEnded_bad a b c d L O k w hF hO hb).mono fun e w' h=>Or.inr ⟨fun h'=>hb h'.1,h⟩
 have HF:=hidOf hF
 have HO:=hidOf hO
 have HOK:=hidOf hb
 clear hF hO hb
 obtain ⟨W0,hW0⟩:∃W0,W0=(w.alloc (.cells #[.int .i64 k.day,.slice a L.length c,.slice b O.length d,.int .i64 k.inn,.int .i64 k.out,.int .i64 k.posted,.int .i64 k.missed] 38)).alloc (.cells #[.int .i64 0,.slice none 0 0,.slice none 0 0,.int .i64 0,.int .i64 0,.int .i64 0,.int .i64 0] 38):=⟨_,rfl⟩
 have b0:Below w.heap.size w W0:=by rw[hW0];exact ((Below.refl _ _).alloc (Nat.le_refl _) _).alloc (by simp) _
 have z1:Box7 W0 w.heap.size (.int .i64 k.day) (.slice a L.length c) (.slice b O.length d) (.int .i64 k.inn) (.int .i64 k.out) (.int .i64 k.posted) (.int .i64 k.missed):=by
  rw[hW0];exact (Box7.new w _ _ _ _ _ _ _ 38).kept ((Below.refl _ _).alloc (Nat.le_refl _) _) (by simp)
 have z2:Box7 W0 (w.heap.size+1) (.int .i64 0) (.slice none 0 0) (.slice none 0 0) (.int .i64 0) (.int .i64 0) (.int .i64 0) (.int .i64 0):=by
  rw[hW0]
  have:=Box7.new (w.alloc (.cells #[.int .i64 k.day,.slice a L.length c,.slice b O.length d,.int .i64 k.inn,.int .i64 k.out,.int .i64 k.posted,.int .i64 k.missed] 38)) (.int .i64 0) (.slice none 0 0) (.slice none 0 0) (.int .i64 0) (.int .i64 0) (.int .i64 0) (.int .i64 0) 38
  rw[World.size_alloc] at this
  exact this
 have hs0:W0.heap.size=w.heap.size+1+1:=by rw[hW0];simp
 have HW0:=hidOf hW0
 have HB0:=hidOf b0
 have Z1:=hidOf z1
 have Z2:=hidOf z2
 clear hW0 b0 z1 z2
 go_enter Tryz.func23,Tryz.ntmps23
 go_wp2_with fail
 rw[←HW0.out]
 clear HW0
 refine (specBank a b L.length c O.length d (FL L) (OrdF O) k _ (HF.out.below HB0.out) (HO.out.below HB0.out)).mono ?_
 rintro e w1 ⟨⟨bb,rfl,hb1,hb2⟩,B1⟩
 obtain rfl:bb=true:=by cases bb with|false=>exact absurd HOK.out (hb2 rfl)|true=>rfl
 have Y1:=Z1.out.kept B1 (by omega)
 have Y2:=hidOf (Z2.out.kept B1 (by omega))
 have HB1:Hid (Below w.heap.size w w1):=HB0.out.trans (B1.mono (by omega))
 have hs1:w.heap.size+1+1<=w1.heap.size:=by have:=B1.size;omega
 obtain ⟨⟨s0,s1,s2,s3,s4,s5,s6⟩,sf,sz⟩:=Y1
 clear hb1 hb2 B1 HB0 Z1 Z2 hs0
 go_wp2_with fail
 refine (specEnded5 a b c d L O k _ (HF.out.below HB1.out) (HO.out.below HB1.out) HOK.out).mono ?_
 rintro e w2 h2
 clear s0 s1 s2 s3 s4 s5 s6 sf sz
 rcases h2 with ⟨hok,v2,u2,rfl,A2,O2,B2⟩|⟨hno,rfl,B2⟩
 ·obtain ⟨a2,c2,hv⟩:=A2.len
  subst hv
  obtain ⟨b2,d2,hv,_⟩:=O2.shape
  subst hv
  obtain ⟨⟨r0,r1,r2,r3,r4,r5,r6⟩,rf,rz⟩:=Y2.out.kept B2 (by omega)
  have HB2:Hid (Below w.heap.size w w2):=HB1.out.trans (B2.mono (by omega))
  have HA2:=hidOf A2
  have HO2:=hidOf O2
  have HN:=hidOf hok
  clear A2 O2 B2 hok
  generalize hK:endK L O k=K2 at*
  have HK:=hidOf hK
  clear hK
  go_wp2
  refine bodyPost_ret (v:=.tuple #[.agg #[.int .i64 K2.day,.slice a2 (endA L O k).length c2,.slice b2 (endO O k).length d2,.int .i64 K2.inn,.int .i64 K2.out,.int .i64 K2.posted,.int .i64 K2.missed],.bool true]) (by simp[results,Tryz.results23,go_sem,r0,r1,r2,r3,r4,r5,r6]) rfl (Or.inl ⟨⟨HOK.out,HN.out⟩,.slice a2 (endA L O k).length c2,.slice b2 (endO O k).length d2,?_,?_,?_,?_⟩)
  ·rw[HK.out]
  ·refine AL.mono (B:=w1.heap.size) ?_ (by omega)
   repeat (refine AL.far ?_ (by omega) _ _)
   exact HA2.out
  ·refine OrdL.mono (B:=w1.heap.size) ?_ (by omega)
   repeat (refine OrdL.far ?_ (by omega) _ _)
   exact HO2.out
  ·repeat (refine below_far ?_ (by omega) _ _)
   exact HB2.out
 ·obtain ⟨⟨r0,r1,r2,r3,r4,r5,r6⟩,rf,rz⟩:=Y2.out.kept B2 (by omega)
  have HB2:Hid (Below w.heap.size w w2):=HB1.out.trans (B2.mono (by omega))
  have HN:=hidOf hno
  clear B2 hno
  go_wp2
  refine bodyPost_ret (v:=.tuple #[.agg #[.int .i64 0,.slice none 0 0,.slice none 0 0,.int .i64 0,.int .i64 0,.int .i64 0,.int .i64 0],.bool false]) (by simp[results,Tryz.results23,go_sem,r0,r1,r2,r3,r4,r5,r6]) rfl (Or.inr ⟨fun h=>HN.out h.2,rfl,?_⟩)
  repeat (refine below_far ?_ (by omega) _ _)
  exact HB2.out
open Go.RowKit
open Go.RowKit
set_option maxRecDepth 8000
open Classical in
noncomputable def gOk (L:List Acc) (O:List Ord) (k:Bk):Bool:=decide (bankOk (FL L) L.length (OrdF O) O.length k/\endOk L O k)
noncomputable def gA (L:List Acc) (O:List Ord) (k:Bk):List Acc:=if gOk L O k then endA L O k else []
noncomputable def gO (L:List Acc) (O:List Ord) (k:Bk):List Ord:=if gOk L O k then endO O k else []
noncomputable def gK (L:List Acc) (O:List Ord) (k:Bk):Bk:=if gOk L O k then endK L O k else ⟨0,0,0,0,0⟩
theorem gA_len (L:List Acc) (O:List Ord) (k:Bk):(gA L O k).length<=L.length:=by
 unfold gA
 split
 ·exact Nat.le_of_eq (toL_len _ _)
 ·exact Nat.zero_le _
theorem gO_len (L:List Acc) (O:List Ord) (k:Bk):(gO L O k).length<=O.length:=by
 unfold gO
 split
 ·exact List.length_filter_le _ _
 ·exact Nat.zero_le _
def EndAns (L:List Acc) (O:List Ord) (k:Bk) (w:World) (e:Ending) (w':World):Prop:=∃v u,e=.returned (.tuple #[.agg #[.int .i64 (gK L O k).day,v,u,.int .i64 (gK L O k).inn,.int .i64 (gK L O k).out,.int .i64 (gK L O k).posted,.int .i64 (gK L O k).missed],.bool (gOk L O k)])/\AL w' w.heap.size v (gA L O k)/\OrdL w' w.heap.size u (gO L O k)/\Below w.heap.size w w'
theorem EndOut.ans {L:List Acc} {O:List Ord} {k:Bk} {w:World} {e:Ending} {w':World} (h:EndOut L O k w e w'):EndAns L O k w e w':=by
 rcases h with ⟨h1,v,u,he,hA,hO,hB⟩|⟨h1,he,hB⟩
 ·have hg:gOk L O k=true:=by unfold gOk;simp[h1]
  refine ⟨v,u,?_,?_,?_,hB⟩
  ·rw[he,hg];unfold gK;rw[if_pos hg]
  ·unfold gA;rw[if_pos hg];exact hA
  ·unfold gO;rw[if_pos hg];exact hO
 ·have hg:gOk L O k=false:=by unfold gOk;rw[decide_eq_false_iff_not];exact h1
  refine ⟨.slice none 0 0,.slice none 0 0,?_,?_,?_,hB⟩
  ·rw[he,hg];unfold gK;rw[hg];rfl
  ·unfold gA;rw[hg];exact AL.nil' _ _
  ·unfold gO;rw[hg];exact OrdL.nil _ _
end Go.Proofs.YtghkbhggopiajaaGreatDoor
