/- Ran of the specification. -/
import Derived.Test.YtghkbhggopiajaaGreatDoorRanTq
import Derived.Test.YtghkbhggopiajaaGreatDoorRanUq
import Derived.Test.YtghkbhggopiajaaGreatDoorRanNq
set_option maxHeartbeats 8000000
namespace Go.Proofs.YtghkbhggopiajaaGreatDoor
open Go.RowKit
set_option maxRecDepth 8000
set_option linter.unusedVariables false
theorem specRan_ok (a b : Option Addr) (c d : Nat) (L : List Acc) (O : List Ord) (k : Bk) (K n : Int) (x : OpF) (o : Ord) (w : World) (hF : Fo w a L.length (FL L)) (hO : Ords w b O.length (OrdF O)) (hd : O.length <= d) (hsh : ∃ pb po,b = some ⟨pb,po,none⟩) (hb : bankOk (FL L) L.length (OrdF O) O.length k) :
  Calls Tryz.prog 84 #[.agg #[.int .i64 k.day,.slice a L.length c,.slice b O.length d,.int .i64 k.inn,.int .i64 k.out,.int .i64 k.posted,.int .i64 k.missed],.agg #[.int .i64 K,.int .i64 x.k,.int .i64 x.i,.int .i64 x.t,.int .i64 x.m,.int .i64 x.r,.int .i64 o.id,.int .i64 o.src,.int .i64 o.dst,.int .i64 o.amount,.int .i64 o.first,.int .i64 o.every,.int .i64 o.times,.int .i64 n]] w fun e w' => RanOut (ranS L O k K x o n) w e w' := by
 unfold ranS
 by_cases hok : bopOk K x o n
 ·rcases bop_kind hok with rfl | rfl | rfl | rfl
  ·rw [pre_op hok]
   by_cases h5 : x.k = 5
   ·exact specRan_op_put a b c d L O k n x o w hF hO hd hb hok h5
   ·by_cases h6 : x.k = 6
    ·exact specRan_op_take a b c d L O k n x o w hF hO hd hb hok h6
    ·exact specRan_op_else a b c d L O k n x o w hF hO hd hb hok h5 h6
  ·by_cases ht : thereO O o.id
   ·rw [pre_there hok ht]
    exact specRan_there a b c d L O k n x o w hF hO hd hb hok ht
   ·rw [pre_new hok ht]
    obtain ⟨pb,po,hbp⟩ := hsh
    exact specRan_new_some a b c d L O k n x o w hF hO hd hb hok ht pb po hbp
  ·by_cases ht : thereO O n
   ·rw [pre_cut hok ht]
    exact specRan_cut a b c d L O k n x o w hF hO hd hb hok ht
   ·rw [pre_none hok ht]
    exact specRan_none a b c d L O k n x o w hF hO hd hb hok ht
  ·by_cases ht : endOk L O k
   ·rw [pre_day hok ht]
    exact specRan_day_yes a b c d L O k n x o w hF hO hd hb hok ht
   ·rw [pre_full hok ht]
    exact specRan_day_no a b c d L O k n x o w hF hO hd hb hok ht
 ·rw [pre_form hok]
  exact specRan_form a b c d L O k K n x o w hF hO hd hb hok
theorem specRan_bad (a b : Option Addr) (c d : Nat) (L : List Acc) (O : List Ord) (k : Bk) (K n : Int) (x : OpF) (o : Ord) (w : World) (hF : Fo w a L.length (FL L)) (hO : Ords w b O.length (OrdF O)) (hb : ¬ bankOk (FL L) L.length (OrdF O) O.length k) :
  Calls Tryz.prog 30 #[.agg #[.int .i64 k.day,.slice a L.length c,.slice b O.length d,.int .i64 k.inn,.int .i64 k.out,.int .i64 k.posted,.int .i64 k.missed],.agg #[.int .i64 K,.int .i64 x.k,.int .i64 x.i,.int .i64 x.t,.int .i64 x.m,.int .i64 x.r,.int .i64 o.id,.int .i64 o.src,.int .i64 o.dst,.int .i64 o.amount,.int .i64 o.first,.int .i64 o.every,.int .i64 o.times,.int .i64 n]] w fun e w' => RanOut ⟨1,[],[],⟨0,0,0,0,0⟩⟩ w e w' := by
 have HBad := hidOf hb
 clear hb
 have HF := hidOf hF
 have HO := hidOf hO
 obtain ⟨W0,hW0,hs0,b0,z1,z2,z3⟩ := ran_head a b c d L O k K n x o w
 have HW0 := hidOf hW0
 have HB0 := hidOf b0
 have Z1 := hidOf z1
 have Z2 := hidOf z2
 have Z3 := hidOf z3
 clear hW0 b0 z1 z2 z3 hF hO
 go_enter Tryz.func30,Tryz.ntmps30
 go_wp2_with fail
 rw [← HW0.out]
 clear HW0
 refine (specBank a b L.length c O.length d (FL L) (OrdF O) k _ (HF.out.below HB0.out) (HO.out.below HB0.out)).mono ?_
 rintro e w1 ⟨⟨bb,rfl,hb1,hb2⟩,B1⟩
 obtain rfl : bb = false := by cases bb with | true => exact absurd (hb1 rfl) HBad.out | false => rfl
 obtain ⟨⟨r0,r1,r2,r3,r4,r5,r6⟩,rf,rz⟩ := Z3.out.kept B1 (by omega)
 have HB1 := hidOf (HB0.out.trans (B1.mono (by omega)))
 clear hb1 hb2 B1 HB0 Z1 Z2 Z3 hs0
 go_wp2
 refine bodyPost_ret (v := .tuple #[.agg #[.int .i64 0,.slice none 0 0,.slice none 0 0,.int .i64 0,.int .i64 0,.int .i64 0,.int .i64 0],.int .i64 1]) (by simp [results,Tryz.results30,go_sem,r0,r1,r2,r3,r4,r5,r6]) rfl ⟨.slice none 0 0,.slice none 0 0,rfl,AL.nil' _ _,OrdL.nil _ _,?_⟩
 repeat (refine below_far ?_ (by omega) _ _)
 exact HB1.out
theorem specRan_right (a b : Option Addr) (c d : Nat) (L : List Acc) (O : List Ord) (k : Bk) (K n : Int) (x : OpF) (o : Ord) (w : World) (hF : Fo w a L.length (FL L)) (hO : Ords w b O.length (OrdF O)) (hd : O.length <= d) (hsh : ∃ pb po,b = some ⟨pb,po,none⟩) (hb : bankOk (FL L) L.length (OrdF O) O.length k) :
  Calls Tryz.prog 30 #[.agg #[.int .i64 k.day,.slice a L.length c,.slice b O.length d,.int .i64 k.inn,.int .i64 k.out,.int .i64 k.posted,.int .i64 k.missed],.agg #[.int .i64 K,.int .i64 x.k,.int .i64 x.i,.int .i64 x.t,.int .i64 x.m,.int .i64 x.r,.int .i64 o.id,.int .i64 o.src,.int .i64 o.dst,.int .i64 o.amount,.int .i64 o.first,.int .i64 o.every,.int .i64 o.times,.int .i64 n]] w fun e w' => RanOut (ranS L O k K x o n) w e w' := by
 have HOK := hidOf hb
 have RUN : Hid (∀ w,Fo w a L.length (FL L) -> Ords w b O.length (OrdF O) -> Calls Tryz.prog 84 #[.agg #[.int .i64 k.day,.slice a L.length c,.slice b O.length d,.int .i64 k.inn,.int .i64 k.out,.int .i64 k.posted,.int .i64 k.missed],.agg #[.int .i64 K,.int .i64 x.k,.int .i64 x.i,.int .i64 x.t,.int .i64 x.m,.int .i64 x.r,.int .i64 o.id,.int .i64 o.src,.int .i64 o.dst,.int .i64 o.amount,.int .i64 o.first,.int .i64 o.every,.int .i64 o.times,.int .i64 n]] w fun e w' => RanOut (ranS L O k K x o n) w e w') := fun w h1 h2 => specRan_ok a b c d L O k K n x o w h1 h2 hd hsh hb
 clear hb
 have HF := hidOf hF
 have HO := hidOf hO
 obtain ⟨W0,hW0,hs0,b0,z1,z2,z3⟩ := ran_head a b c d L O k K n x o w
 have HW0 := hidOf hW0
 have HB0 := hidOf b0
 have Z1 := hidOf z1
 have Z2 := hidOf z2
 have Z3 := hidOf z3
 clear hW0 b0 z1 z2 z3 hF hO
 generalize ranS L O k K x o n = q at *
 obtain ⟨qc,qL,qO,qk⟩ := q
 go_enter Tryz.func30,Tryz.ntmps30
 go_wp2_with fail
 rw [← HW0.out]
 clear HW0
 refine (specBank a b L.length c O.length d (FL L) (OrdF O) k _ (HF.out.below HB0.out) (HO.out.below HB0.out)).mono ?_
 rintro e w1 ⟨⟨bb,rfl,hb1,hb2⟩,B1⟩
 obtain rfl : bb = true := by cases bb with | false => exact absurd HOK.out (hb2 rfl) | true => rfl
 have hs1 := B1.size
 have Y3 := hidOf (Z3.out.kept B1 (by omega))
 have HB1 := hidOf (HB0.out.trans (B1.mono (by omega)))
 have hs1' : w.heap.size + 1 + 1 + 1 <= w1.heap.size := by omega
 obtain ⟨⟨s0,s1,s2,s3,s4,s5,s6⟩,sf,sz⟩ := Z1.out.kept B1 (by omega)
 obtain ⟨⟨c0,c1,c2,c3,c4,c5,c6,c7,c8,c9,c10,c11,c12,c13⟩,cz⟩ := Z2.out.kept B1 (by omega)
 clear hb1 hb2 B1 HB0 Z1 Z2 Z3 hs0 hs1
 go_wp2_with fail
 refine (RUN.out _ (HF.out.below HB1.out) (HO.out.below HB1.out)).mono ?_
 rintro e w2 ⟨v2,u2,rfl,A2,O2,B2⟩
 dsimp only at *
 obtain ⟨a2,c2',hv⟩ := A2.len
 subst hv
 obtain ⟨b2,d2,hv⟩ := O2.len
 subst hv
 clear s0 s1 s2 s3 s4 s5 s6 sf sz c0 c1 c2 c3 c4 c5 c6 c7 c8 c9 c10 c11 c12 c13 cz RUN
 obtain ⟨⟨r0,r1,r2,r3,r4,r5,r6⟩,rf,rz⟩ := Y3.out.kept B2 (by omega)
 have HA2 := hidOf A2
 have HO2 := hidOf O2
 have HB2 := hidOf (HB1.out.trans (B2.mono HB1.out.size))
 clear A2 O2 B2 Y3
 go_wp2
 refine bodyPost_ret (v := .tuple #[.agg #[.int .i64 qk.day,.slice a2 qL.length c2',.slice b2 qO.length d2,.int .i64 qk.inn,.int .i64 qk.out,.int .i64 qk.posted,.int .i64 qk.missed],.int .i64 qc]) (by simp [results,Tryz.results30,go_sem,r0,r1,r2,r3,r4,r5,r6]) rfl ⟨.slice a2 qL.length c2',.slice b2 qO.length d2,rfl,?_,?_,?_⟩
 ·refine AL.mono (B := w1.heap.size) ?_ (by omega)
  repeat (refine AL.far ?_ (by omega) _ _)
  exact HA2.out
 ·refine OrdL.mono (B := w1.heap.size) ?_ (by omega)
  repeat (refine OrdL.far ?_ (by omega) _ _)
  exact HO2.out
 ·repeat (refine below_far ?_ (by omega) _ _)
  exact HB2.out
theorem specRan (a b : Option Addr) (c d : Nat) (L : List Acc) (O : List Ord) (k : Bk) (K n : Int) (x : OpF) (o : Ord) (w : World) (hF : Fo w a L.length (FL L)) (hO : Ords w b O.length (OrdF O)) (hd : O.length <= d) (hsh : ∃ pb po,b = some ⟨pb,po,none⟩) :
  Calls Tryz.prog 30 #[.agg #[.int .i64 k.day,.slice a L.length c,.slice b O.length d,.int .i64 k.inn,.int .i64 k.out,.int .i64 k.posted,.int .i64 k.missed],.agg #[.int .i64 K,.int .i64 x.k,.int .i64 x.i,.int .i64 x.t,.int .i64 x.m,.int .i64 x.r,.int .i64 o.id,.int .i64 o.src,.int .i64 o.dst,.int .i64 o.amount,.int .i64 o.first,.int .i64 o.every,.int .i64 o.times,.int .i64 n]] w fun e w' => RanOut (ranAny L O k K x o n) w e w' := by
 unfold ranAny
 by_cases hb : bankOk (FL L) L.length (OrdF O) O.length k
 ·rw [if_pos hb]; exact specRan_right a b c d L O k K n x o w hF hO hd hsh hb
 ·rw [if_neg hb]; exact specRan_bad a b c d L O k K n x o w hF hO hb
end Go.Proofs.YtghkbhggopiajaaGreatDoor
