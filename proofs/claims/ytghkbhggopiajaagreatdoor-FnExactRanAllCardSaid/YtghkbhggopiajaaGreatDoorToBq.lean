/- toBOp. -/
import Derived.Test.YtghkbhggopiajaaGreatDoorBopq
set_option maxHeartbeats 8000000
namespace Go.Proofs.YtghkbhggopiajaaGreatDoor
open Go.RowKit
set_option maxRecDepth 8000
def Vals (w:World) (R:Nat) (vs:List Value):Prop:=(∀j v,vs[j]? =some v->w.cell? ⟨R,j,none⟩=some v)/\(∀o,w.frozen? ⟨R,o,none⟩=false)/\R<w.heap.size
theorem Vals.kept {n₀:Nat} {w w':World} {R:Nat} {vs:List Value} (h:Vals w R vs) (hb:Below n₀ w w') (hR:R<n₀):Vals w' R vs:=
 ⟨fun j v hj=>(hb.cell (p:=⟨R,j,none⟩) hR).trans (h.1 j v hj),fun o=>(hb.frozen (p:=⟨R,o,none⟩) hR).trans (h.2.1 o),Nat.lt_of_lt_of_le h.2.2 hb.size⟩
theorem Vals.far {w:World} {R:Nat} {vs:List Value} (h:Vals w R vs) {Q:Nat} (hne:Q≠R) (q:Nat) (u:Value):Vals (w.setCell ⟨Q,q,none⟩ u) R vs:=
 ⟨fun j v hj=>(World.cell?_setCell_other _ _ _ _ (by intro e;exact hne (congrArg Addr.block e))).trans (h.1 j v hj),fun o=>by rw[World.frozen?_setCell];exact h.2.1 o,by simpa [World.setCell] using h.2.2⟩
theorem Vals.set {w:World} {R:Nat} {vs:List Value} (h:Vals w R vs) (q:Nat) (u:Value):Vals (w.setCell ⟨R,q,none⟩ u) R (vs.set q u):=by
 refine ⟨fun j v hj=>?_,fun o=>by rw[World.frozen?_setCell];exact h.2.1 o,by simpa [World.setCell] using h.2.2⟩
 rw[List.getElem?_set] at hj
 by_cases e:q=j
 ·subst e
  rw[if_pos rfl] at hj
  split at hj
  ·rename_i hl
   have hc:=h.1 q _ (List.getElem?_eq_getElem hl)
   obtain rfl:u=v:=by simpa using hj
   exact World.cell?_setCell_same _ _ _ (by rw[hc])
  ·cases hj
 ·rw[if_neg e] at hj
  exact (World.cell?_setCell_other _ _ _ _ (by intro e';exact e (congrArg Addr.off e'))).trans (h.1 j v hj)
theorem Vals.new (w:World) (vs:List Value) (T:Nat):Vals (w.alloc (.cells vs.toArray T)) w.heap.size vs:=
 ⟨fun j v hj=>by simp[go_sem,hj],fun o=>by simp[go_sem],by simp⟩
theorem toBOp (K n:Int) (x:OpF) (o:Ord) (w:World):
  Calls Tryz.prog 46 #[.agg #[.int .i64 K,.int .i64 x.k,.int .i64 x.i,.int .i64 x.t,.int .i64 x.m,.int .i64 x.r,.int .i64 o.id,.int .i64 o.src,.int .i64 o.dst,.int .i64 o.amount,.int .i64 o.first,.int .i64 o.every,.int .i64 o.times,.int .i64 n]] w fun e w'=>e=.returned (.agg #[.int .i64 K,.int .i64 x.k,.int .i64 x.i,.int .i64 x.t,.int .i64 x.m,.int .i64 x.r,.int .i64 o.id,.int .i64 o.src,.int .i64 o.dst,.int .i64 o.amount,.int .i64 o.first,.int .i64 o.every,.int .i64 o.times,.int .i64 n])/\Below w.heap.size w w':=by
 obtain ⟨W0,hW0⟩:∃W0,W0=((w.alloc (.cells #[.int .i64 K,.int .i64 x.k,.int .i64 x.i,.int .i64 x.t,.int .i64 x.m,.int .i64 x.r,.int .i64 o.id,.int .i64 o.src,.int .i64 o.dst,.int .i64 o.amount,.int .i64 o.first,.int .i64 o.every,.int .i64 o.times,.int .i64 n] 77)).alloc (.cells #[.int .i64 0,.int .i64 0,.int .i64 0,.int .i64 0,.int .i64 0,.int .i64 0,.int .i64 0,.int .i64 0,.int .i64 0,.int .i64 0,.int .i64 0,.int .i64 0,.int .i64 0,.int .i64 0] 51)).alloc (.cells #[.int .i64 K,.int .i64 0,.int .i64 0,.int .i64 0,.int .i64 0,.int .i64 0,.int .i64 0,.int .i64 0,.int .i64 0,.int .i64 0,.int .i64 0,.int .i64 0,.int .i64 0,.int .i64 0] 51):=⟨_,rfl⟩
 have a1:=Vals.new w [.int .i64 K,.int .i64 x.k,.int .i64 x.i,.int .i64 x.t,.int .i64 x.m,.int .i64 x.r,.int .i64 o.id,.int .i64 o.src,.int .i64 o.dst,.int .i64 o.amount,.int .i64 o.first,.int .i64 o.every,.int .i64 o.times,.int .i64 n] 77
 have a2:=Vals.new (w.alloc (.cells #[.int .i64 K,.int .i64 x.k,.int .i64 x.i,.int .i64 x.t,.int .i64 x.m,.int .i64 x.r,.int .i64 o.id,.int .i64 o.src,.int .i64 o.dst,.int .i64 o.amount,.int .i64 o.first,.int .i64 o.every,.int .i64 o.times,.int .i64 n] 77)) [.int .i64 0,.int .i64 0,.int .i64 0,.int .i64 0,.int .i64 0,.int .i64 0,.int .i64 0,.int .i64 0,.int .i64 0,.int .i64 0,.int .i64 0,.int .i64 0,.int .i64 0,.int .i64 0] 51
 have a3:=Vals.new ((w.alloc (.cells #[.int .i64 K,.int .i64 x.k,.int .i64 x.i,.int .i64 x.t,.int .i64 x.m,.int .i64 x.r,.int .i64 o.id,.int .i64 o.src,.int .i64 o.dst,.int .i64 o.amount,.int .i64 o.first,.int .i64 o.every,.int .i64 o.times,.int .i64 n] 77)).alloc (.cells #[.int .i64 0,.int .i64 0,.int .i64 0,.int .i64 0,.int .i64 0,.int .i64 0,.int .i64 0,.int .i64 0,.int .i64 0,.int .i64 0,.int .i64 0,.int .i64 0,.int .i64 0,.int .i64 0] 51)) [.int .i64 K,.int .i64 0,.int .i64 0,.int .i64 0,.int .i64 0,.int .i64 0,.int .i64 0,.int .i64 0,.int .i64 0,.int .i64 0,.int .i64 0,.int .i64 0,.int .i64 0,.int .i64 0] 51
 simp only[World.size_alloc] at a2 a3
 have B1:∀(V:World) (x:Obj),Below V.heap.size V (V.alloc x):=fun V x=>(Below.refl _ _).alloc (Nat.le_refl _) _
 have hs0:W0.heap.size=w.heap.size+1+1+1:=by rw[hW0];simp
 have Y0:Hid (Vals W0 w.heap.size [.int .i64 K,.int .i64 x.k,.int .i64 x.i,.int .i64 x.t,.int .i64 x.m,.int .i64 x.r,.int .i64 o.id,.int .i64 o.src,.int .i64 o.dst,.int .i64 o.amount,.int .i64 o.first,.int .i64 o.every,.int .i64 o.times,.int .i64 n]):=by
  show Vals _ _ _;rw[hW0];exact (a1.kept (B1 _ _) (by simp)).kept (B1 _ _) (by simp;omega)
 have Y1:Hid (Vals W0 (w.heap.size+1) [.int .i64 0,.int .i64 0,.int .i64 0,.int .i64 0,.int .i64 0,.int .i64 0,.int .i64 0,.int .i64 0,.int .i64 0,.int .i64 0,.int .i64 0,.int .i64 0,.int .i64 0,.int .i64 0]):=by
  show Vals _ _ _;rw[hW0];exact a2.kept (B1 _ _) (by simp)
 have Y2:Hid (Vals W0 (w.heap.size+1+1) [.int .i64 K,.int .i64 0,.int .i64 0,.int .i64 0,.int .i64 0,.int .i64 0,.int .i64 0,.int .i64 0,.int .i64 0,.int .i64 0,.int .i64 0,.int .i64 0,.int .i64 0,.int .i64 0]):=by
  show Vals _ _ _;rw[hW0];exact a3
 have HB:Hid (Below w.heap.size w W0):=by
  show Below _ _ _;rw[hW0];exact (((Below.refl _ _).alloc (Nat.le_refl _) _).alloc (by simp) _).alloc (by simp;omega) _
 have HW0:=hidOf hW0
 clear hW0 a1 a2 a3
 go_enter Tryz.func46,Tryz.ntmps46
 go_upto_region 3 with fail
 rw[←HW0.out]
 clear HW0
 have s0:=Y0.out.1 0 _ rfl
 have s1:=Y0.out.1 1 _ rfl
 have s2:=Y0.out.1 2 _ rfl
 have s3:=Y0.out.1 3 _ rfl
 have s4:=Y0.out.1 4 _ rfl
 have s5:=Y0.out.1 5 _ rfl
 have s6:=Y0.out.1 6 _ rfl
 have s7:=Y0.out.1 7 _ rfl
 have s8:=Y0.out.1 8 _ rfl
 have s9:=Y0.out.1 9 _ rfl
 have s10:=Y0.out.1 10 _ rfl
 have s11:=Y0.out.1 11 _ rfl
 have s12:=Y0.out.1 12 _ rfl
 have s13:=Y0.out.1 13 _ rfl
 have sf:=Y0.out.2.1
 have sz:=Y0.out.2.2
 go_wp2_with fail
 refine (toOp x.k x.i x.t x.m x.r _).mono ?_
 rintro e w1 ⟨rfl,E⟩
 clear s0 s1 s2 s3 s4 s5 s6 s7 s8 s9 s10 s11 s12 s13 sf sz
 have hs1:=E.size
 have Z0:=hidOf (Y0.out.kept E (by omega))
 have Z1:=hidOf (Y1.out.kept E (by omega))
 have Z2:=hidOf (Y2.out.kept E (by omega))
 have HB1:=hidOf (HB.out.trans (E.mono HB.out.size))
 clear Y0 Y1 Y2 E HB
 obtain ⟨W2,hW2⟩:∃W2,W2=(((((w1.setCell ⟨(w.heap.size+1+1),1,none⟩ (.int .i64 x.k)).setCell ⟨(w.heap.size+1+1),2,none⟩ (.int .i64 x.i)).setCell ⟨(w.heap.size+1+1),3,none⟩ (.int .i64 x.t)).setCell ⟨(w.heap.size+1+1),4,none⟩ (.int .i64 x.m)).setCell ⟨(w.heap.size+1+1),5,none⟩ (.int .i64 x.r)):=⟨_,rfl⟩
 have hs2:W2.heap.size=w1.heap.size:=by rw[hW2];simp[World.setCell]
 have Y0:Hid (Vals W2 w.heap.size [.int .i64 K,.int .i64 x.k,.int .i64 x.i,.int .i64 x.t,.int .i64 x.m,.int .i64 x.r,.int .i64 o.id,.int .i64 o.src,.int .i64 o.dst,.int .i64 o.amount,.int .i64 o.first,.int .i64 o.every,.int .i64 o.times,.int .i64 n]):=by show Vals _ _ _;rw[hW2];exact (((((Z0.out.far (by omega) _ _).far (by omega) _ _).far (by omega) _ _).far (by omega) _ _).far (by omega) _ _)
 have Y1:Hid (Vals W2 (w.heap.size+1) [.int .i64 0,.int .i64 0,.int .i64 0,.int .i64 0,.int .i64 0,.int .i64 0,.int .i64 0,.int .i64 0,.int .i64 0,.int .i64 0,.int .i64 0,.int .i64 0,.int .i64 0,.int .i64 0]):=by show Vals _ _ _;rw[hW2];exact (((((Z1.out.far (by omega) _ _).far (by omega) _ _).far (by omega) _ _).far (by omega) _ _).far (by omega) _ _)
 have Y2:Hid (Vals W2 (w.heap.size+1+1) [.int .i64 K,.int .i64 x.k,.int .i64 x.i,.int .i64 x.t,.int .i64 x.m,.int .i64 x.r,.int .i64 0,.int .i64 0,.int .i64 0,.int .i64 0,.int .i64 0,.int .i64 0,.int .i64 0,.int .i64 0]):=by show Vals _ _ _;rw[hW2];exact (((((Z2.out.set 1 _).set 2 _).set 3 _).set 4 _).set 5 _)
 have HB:Hid (Below w.heap.size w W2):=by
  show Below _ _ _;rw[hW2]
  repeat (refine below_far ?_ (by omega) _ _)
  exact HB1.out
 have HW2:=hidOf hW2
 have t0:=Z2.out.1 0 _ rfl
 have t1:=Z2.out.1 1 _ rfl
 have t2:=Z2.out.1 2 _ rfl
 have t3:=Z2.out.1 3 _ rfl
 have t4:=Z2.out.1 4 _ rfl
 have t5:=Z2.out.1 5 _ rfl
 have t6:=Z2.out.1 6 _ rfl
 have t7:=Z2.out.1 7 _ rfl
 have t8:=Z2.out.1 8 _ rfl
 have t9:=Z2.out.1 9 _ rfl
 have t10:=Z2.out.1 10 _ rfl
 have t11:=Z2.out.1 11 _ rfl
 have t12:=Z2.out.1 12 _ rfl
 have t13:=Z2.out.1 13 _ rfl
 have tf:=Z2.out.2.1
 have tz:=Z2.out.2.2
 clear hW2 Z0 Z1 HB1
 go_upto_region 4 with fail
 rw[←HW2.out]
 clear HW2
 clear t0 t1 t2 t3 t4 t5 t6 t7 t8 t9 t10 t11 t12 t13 tf tz
 clear Z2
 have s0:=Y0.out.1 0 _ rfl
 have s1:=Y0.out.1 1 _ rfl
 have s2:=Y0.out.1 2 _ rfl
 have s3:=Y0.out.1 3 _ rfl
 have s4:=Y0.out.1 4 _ rfl
 have s5:=Y0.out.1 5 _ rfl
 have s6:=Y0.out.1 6 _ rfl
 have s7:=Y0.out.1 7 _ rfl
 have s8:=Y0.out.1 8 _ rfl
 have s9:=Y0.out.1 9 _ rfl
 have s10:=Y0.out.1 10 _ rfl
 have s11:=Y0.out.1 11 _ rfl
 have s12:=Y0.out.1 12 _ rfl
 have s13:=Y0.out.1 13 _ rfl
 have sf:=Y0.out.2.1
 have sz:=Y0.out.2.2
 go_wp2_with fail
 refine (toOrd o _).mono ?_
 rintro e w3 ⟨rfl,E⟩
 clear s0 s1 s2 s3 s4 s5 s6 s7 s8 s9 s10 s11 s12 s13 sf sz
 have hs3:=E.size
 have Z0:=hidOf (Y0.out.kept E (by omega))
 have Z1:=hidOf (Y1.out.kept E (by omega))
 have Z2:=hidOf (Y2.out.kept E (by omega))
 have HB3:=hidOf (HB.out.trans (E.mono HB.out.size))
 clear Y0 Y1 Y2 E HB
 obtain ⟨W4,hW4⟩:∃W4,W4=((((((((w3.setCell ⟨(w.heap.size+1+1),6,none⟩ (.int .i64 o.id)).setCell ⟨(w.heap.size+1+1),7,none⟩ (.int .i64 o.src)).setCell ⟨(w.heap.size+1+1),8,none⟩ (.int .i64 o.dst)).setCell ⟨(w.heap.size+1+1),9,none⟩ (.int .i64 o.amount)).setCell ⟨(w.heap.size+1+1),10,none⟩ (.int .i64 o.first)).setCell ⟨(w.heap.size+1+1),11,none⟩ (.int .i64 o.every)).setCell ⟨(w.heap.size+1+1),12,none⟩ (.int .i64 o.times)).setCell ⟨(w.heap.size+1+1),13,none⟩ (.int .i64 n)):=⟨_,rfl⟩
 have hs4:W4.heap.size=w3.heap.size:=by rw[hW4];simp[World.setCell]
 have Y1:Hid (Vals W4 (w.heap.size+1) [.int .i64 0,.int .i64 0,.int .i64 0,.int .i64 0,.int .i64 0,.int .i64 0,.int .i64 0,.int .i64 0,.int .i64 0,.int .i64 0,.int .i64 0,.int .i64 0,.int .i64 0,.int .i64 0]):=by show Vals _ _ _;rw[hW4];exact ((((((((Z1.out.far (by omega) _ _).far (by omega) _ _).far (by omega) _ _).far (by omega) _ _).far (by omega) _ _).far (by omega) _ _).far (by omega) _ _).far (by omega) _ _)
 have Y2:Hid (Vals W4 (w.heap.size+1+1) [.int .i64 K,.int .i64 x.k,.int .i64 x.i,.int .i64 x.t,.int .i64 x.m,.int .i64 x.r,.int .i64 o.id,.int .i64 o.src,.int .i64 o.dst,.int .i64 o.amount,.int .i64 o.first,.int .i64 o.every,.int .i64 o.times,.int .i64 n]):=by show Vals _ _ _;rw[hW4];exact ((((((((Z2.out.set 6 _).set 7 _).set 8 _).set 9 _).set 10 _).set 11 _).set 12 _).set 13 _)
 have HB:Hid (Below w.heap.size w W4):=by
  show Below _ _ _;rw[hW4]
  repeat (refine below_far ?_ (by omega) _ _)
  exact HB3.out
 have HW4:=hidOf hW4
 have t0:=Z2.out.1 0 _ rfl
 have t1:=Z2.out.1 1 _ rfl
 have t2:=Z2.out.1 2 _ rfl
 have t3:=Z2.out.1 3 _ rfl
 have t4:=Z2.out.1 4 _ rfl
 have t5:=Z2.out.1 5 _ rfl
 have t6:=Z2.out.1 6 _ rfl
 have t7:=Z2.out.1 7 _ rfl
 have t8:=Z2.out.1 8 _ rfl
 have t9:=Z2.out.1 9 _ rfl
 have t10:=Z2.out.1 10 _ rfl
 have t11:=Z2.out.1 11 _ rfl
 have t12:=Z2.out.1 12 _ rfl
 have t13:=Z2.out.1 13 _ rfl
 have tf:=Z2.out.2.1
 have tz:=Z2.out.2.2
 have s0:=Z0.out.1 0 _ rfl
 have s1:=Z0.out.1 1 _ rfl
 have s2:=Z0.out.1 2 _ rfl
 have s3:=Z0.out.1 3 _ rfl
 have s4:=Z0.out.1 4 _ rfl
 have s5:=Z0.out.1 5 _ rfl
 have s6:=Z0.out.1 6 _ rfl
 have s7:=Z0.out.1 7 _ rfl
 have s8:=Z0.out.1 8 _ rfl
 have s9:=Z0.out.1 9 _ rfl
 have s10:=Z0.out.1 10 _ rfl
 have s11:=Z0.out.1 11 _ rfl
 have s12:=Z0.out.1 12 _ rfl
 have s13:=Z0.out.1 13 _ rfl
 have sf:=Z0.out.2.1
 have sz:=Z0.out.2.2
 have ne1:¬(w.heap.size+1+1)=w.heap.size:=by omega
 have ne2:¬w.heap.size=(w.heap.size+1+1):=by omega
 clear hW4 Z1 HB3
 go_upto_region 6 with fail
 rw[←HW4.out]
 clear HW4
 clear t0 t1 t2 t3 t4 t5 t6 t7 t8 t9 t10 t11 t12 t13 tf tz
 clear s0 s1 s2 s3 s4 s5 s6 s7 s8 s9 s10 s11 s12 s13 sf sz
 clear Z2 Z0
 have s0:=Y2.out.1 0 _ rfl
 have s1:=Y2.out.1 1 _ rfl
 have s2:=Y2.out.1 2 _ rfl
 have s3:=Y2.out.1 3 _ rfl
 have s4:=Y2.out.1 4 _ rfl
 have s5:=Y2.out.1 5 _ rfl
 have s6:=Y2.out.1 6 _ rfl
 have s7:=Y2.out.1 7 _ rfl
 have s8:=Y2.out.1 8 _ rfl
 have s9:=Y2.out.1 9 _ rfl
 have s10:=Y2.out.1 10 _ rfl
 have s11:=Y2.out.1 11 _ rfl
 have s12:=Y2.out.1 12 _ rfl
 have s13:=Y2.out.1 13 _ rfl
 have sf:=Y2.out.2.1
 have sz:=Y2.out.2.2
 have r0:=Y1.out.1 0 _ rfl
 have r1:=Y1.out.1 1 _ rfl
 have r2:=Y1.out.1 2 _ rfl
 have r3:=Y1.out.1 3 _ rfl
 have r4:=Y1.out.1 4 _ rfl
 have r5:=Y1.out.1 5 _ rfl
 have r6:=Y1.out.1 6 _ rfl
 have r7:=Y1.out.1 7 _ rfl
 have r8:=Y1.out.1 8 _ rfl
 have r9:=Y1.out.1 9 _ rfl
 have r10:=Y1.out.1 10 _ rfl
 have r11:=Y1.out.1 11 _ rfl
 have r12:=Y1.out.1 12 _ rfl
 have r13:=Y1.out.1 13 _ rfl
 have rf:=Y1.out.2.1
 have rz:=Y1.out.2.2
 go_wp2
 refine bodyPost_ret (v:=.agg #[.int .i64 K,.int .i64 x.k,.int .i64 x.i,.int .i64 x.t,.int .i64 x.m,.int .i64 x.r,.int .i64 o.id,.int .i64 o.src,.int .i64 o.dst,.int .i64 o.amount,.int .i64 o.first,.int .i64 o.every,.int .i64 o.times,.int .i64 n]) (by simp[results,Tryz.results46,go_sem,r0,r1,r2,r3,r4,r5,r6,r7,r8,r9,r10,r11,r12,r13]) rfl ⟨rfl,?_⟩
 repeat (refine below_far ?_ (by omega) _ _)
 exact HB.out
open Go.RowKit
set_option maxRecDepth 8000
theorem AL.past {w w':World} {B:Nat} {v:Value} {l:List Acc} {row:Option Nat} (h:AL w B v l) (g:w.grownBy w' row) (hne:∀q,v.ownBlock=some q->row=some q->False):AL w' B v l:=World.ownsRow.kept h g (by
 cases hb:v.ownBlock with
 | none=>exact Or.inl rfl
 | some q=>right;intro e;exact hne q hb e.symm)
theorem OrdL.past {w w':World} {B:Nat} {v:Value} {l:List Ord} {row:Option Nat} (h:OrdL w B v l) (g:w.grownBy w' row) (hne:∀q,v.ownBlock=some q->row=some q->False):OrdL w' B v l:=World.ownsRow.kept h g (by
 cases hb:v.ownBlock with
 | none=>exact Or.inl rfl
 | some q=>right;intro e;exact hne q hb e.symm)
theorem szBank_yes (a b:Option Addr) (n c m d:Nat) (k:Bk) (w:World) (h:n+m<=1048576):
  Calls Tryz.prog 41 #[.agg #[.int .i64 k.day,.slice a n c,.slice b m d,.int .i64 k.inn,.int .i64 k.out,.int .i64 k.posted,.int .i64 k.missed],.int .i64 1048576] w fun e w'=>e=.returned (.int .i64 (1048576-(n:Int)-(m:Int)))/\Below w.heap.size w w':=by
 have g1:decide (1048576-(n:Int)<0)=false:=by simp;omega
 have g2:decide (1048576-(n:Int)-(m:Int)<0)=false:=by simp;omega
 go_enter Tryz.func41,Tryz.ntmps41
 go_wp2_with (first|(go_at_call 36;refine (szAccountS_yes a n c _ (by omega)).mono ?_;rintro e wz ⟨rfl,hwz⟩;subst wz)|(go_at_call 93;refine (szSOrd_yes b m d (1048576-(n:Int)) _ (by omega) (by omega)).mono ?_;rintro e wz ⟨rfl,hwz⟩;subst wz))
 go_ret
 exact ⟨rfl,(Below.refl _ _).alloc (Nat.le_refl _) _⟩
theorem szBank_no (a b:Option Addr) (n c m d:Nat) (k:Bk) (w:World) (h:1048576<n+m) (hn:n<=9223372036854775807) (hm:m<=9223372036854775807):
  Calls Tryz.prog 41 #[.agg #[.int .i64 k.day,.slice a n c,.slice b m d,.int .i64 k.inn,.int .i64 k.out,.int .i64 k.posted,.int .i64 k.missed],.int .i64 1048576] w fun e w'=>e=.returned (.int .i64 (-1))/\Below w.heap.size w w':=by
 by_cases h1:n<=1048576
 ·have g1:decide (1048576-(n:Int)<0)=false:=by simp;omega
  go_enter Tryz.func41,Tryz.ntmps41
  go_wp2_with (first|(go_at_call 36;refine (szAccountS_yes a n c _ (by omega)).mono ?_;rintro e wz ⟨rfl,hwz⟩;subst wz)|(go_at_call 93;refine (szSOrd_no b m d (1048576-(n:Int)) _ (by omega) (by omega) hm).mono ?_;rintro e wz ⟨rfl,hwz⟩;subst wz))
  go_ret
  exact ⟨rfl,(Below.refl _ _).alloc (Nat.le_refl _) _⟩
 ·go_enter Tryz.func41,Tryz.ntmps41
  go_wp2_with (go_at_call 36;refine (szAccountS_no a n c _ (by omega) hn).mono ?_;rintro e wz ⟨rfl,hwz⟩;subst wz)
  go_ret
  exact ⟨rfl,(Below.refl _ _).alloc (Nat.le_refl _) _⟩
open Go.ChangeShapes Go.WideShapes Go.ChangeAt Go.RowKit
set_option maxRecDepth 8000
structure Bp where
 K:Int
 x:OpF
 o:Ord
 n:Int
theorem toBp (a:Bp) (w:World):Calls Tryz.prog 46 #[.agg #[.int .i64 a.K,.int .i64 a.x.k,.int .i64 a.x.i,.int .i64 a.x.t,.int .i64 a.x.m,.int .i64 a.x.r,.int .i64 a.o.id,.int .i64 a.o.src,.int .i64 a.o.dst,.int .i64 a.o.amount,.int .i64 a.o.first,.int .i64 a.o.every,.int .i64 a.o.times,.int .i64 a.n]] w fun e w'=>e=.returned (.agg #[.int .i64 a.K,.int .i64 a.x.k,.int .i64 a.x.i,.int .i64 a.x.t,.int .i64 a.x.m,.int .i64 a.x.r,.int .i64 a.o.id,.int .i64 a.o.src,.int .i64 a.o.dst,.int .i64 a.o.amount,.int .i64 a.o.first,.int .i64 a.o.every,.int .i64 a.o.times,.int .i64 a.n])/\Below w.heap.size w w':=toBOp a.K a.n a.x a.o w
def BpAt (w:World) (b p:Nat) (a:Bp):Prop:=
 w.cell? ⟨b,p,none⟩=some (.int .i64 a.K)/\w.cell? ⟨b,p+1,none⟩=some (.int .i64 a.x.k)/\w.cell? ⟨b,p+2,none⟩=some (.int .i64 a.x.i)/\w.cell? ⟨b,p+3,none⟩=some (.int .i64 a.x.t)/\w.cell? ⟨b,p+4,none⟩=some (.int .i64 a.x.m)/\w.cell? ⟨b,p+5,none⟩=some (.int .i64 a.x.r)/\w.cell? ⟨b,p+6,none⟩=some (.int .i64 a.o.id)/\w.cell? ⟨b,p+7,none⟩=some (.int .i64 a.o.src)/\w.cell? ⟨b,p+8,none⟩=some (.int .i64 a.o.dst)/\w.cell? ⟨b,p+9,none⟩=some (.int .i64 a.o.amount)/\w.cell? ⟨b,p+10,none⟩=some (.int .i64 a.o.first)/\w.cell? ⟨b,p+11,none⟩=some (.int .i64 a.o.every)/\w.cell? ⟨b,p+12,none⟩=some (.int .i64 a.o.times)/\w.cell? ⟨b,p+13,none⟩=some (.int .i64 a.n)
def Bps (w:World) (a:Option Addr) (n:Nat) (F:Nat->Bp):Prop:=
 n<=1048576/\(n=0\/∃b o,a=some ⟨b,o,none⟩/\b<w.heap.size/\∀i,i<n->BpAt w b (o+i*14) (F i))
theorem BpAt.of_cells {w w':World} {b p:Nat} {a:Bp} (h:BpAt w b p a) (hc:∀o,w'.cell? ⟨b,o,none⟩=w.cell? ⟨b,o,none⟩):BpAt w' b p a:=by
 unfold BpAt at h ⊢
 simp only[hc]
 exact h
theorem Bps.below {w w':World} {a:Option Addr} {n:Nat} {F:Nat->Bp} (h:Bps w a n F) (hb:Below w.heap.size w w'):Bps w' a n F:=by
 refine ⟨h.1,?_⟩
 rcases h.2 with h0|⟨b,o,ha,hlt,hall⟩
 ·exact Or.inl h0
 ·exact Or.inr ⟨b,o,ha,Nat.lt_of_lt_of_le hlt hb.size,fun i hi=>(hall i hi).of_cells (fun q=>hb.cell (p:=⟨b,q,none⟩) hlt)⟩
theorem Bps.acc {w:World} {a:Option Addr} {n:Nat} {F:Nat->Bp} (h:Bps w a n F) {i:Nat} (hi:i<n):∃b o,a=some ⟨b,o,none⟩/\b<w.heap.size/\BpAt w b (o+i*14) (F i):=by
 rcases h.2 with h0|⟨b,o,ha,hlt,hall⟩
 ·omega
 ·exact ⟨b,o,ha,hlt,hall i hi⟩
def setBp (w:World) (R p:Nat) (a:Bp):World:=
 (((((((((((((w.setCell ⟨R,p,none⟩ (.int .i64 a.K)).setCell ⟨R,p+1,none⟩ (.int .i64 a.x.k)).setCell ⟨R,p+2,none⟩ (.int .i64 a.x.i)).setCell ⟨R,p+3,none⟩ (.int .i64 a.x.t)).setCell ⟨R,p+4,none⟩ (.int .i64 a.x.m)).setCell ⟨R,p+5,none⟩ (.int .i64 a.x.r)).setCell ⟨R,p+6,none⟩ (.int .i64 a.o.id)).setCell ⟨R,p+7,none⟩ (.int .i64 a.o.src)).setCell ⟨R,p+8,none⟩ (.int .i64 a.o.dst)).setCell ⟨R,p+9,none⟩ (.int .i64 a.o.amount)).setCell ⟨R,p+10,none⟩ (.int .i64 a.o.first)).setCell ⟨R,p+11,none⟩ (.int .i64 a.o.every)).setCell ⟨R,p+12,none⟩ (.int .i64 a.o.times)).setCell ⟨R,p+13,none⟩ (.int .i64 a.n)
theorem setBp_out (w:World) (R p:Nat) (a:Bp) (x:Addr) (h:x.block≠R\/x.off<p\/p+14<=x.off):(setBp w R p a).cell? x=w.cell? x:=by
 have ne:∀j,j<14->(⟨R,p+j,none⟩:Addr)≠x:=by
  intro j hj e
  subst e
  simp at h
  omega
 have ne':(⟨R,p,none⟩:Addr)≠x:=ne 0 (by omega)
 unfold setBp
 rw[World.cell?_setCell_other _ _ _ _ (ne 13 (by omega)),World.cell?_setCell_other _ _ _ _ (ne 12 (by omega)),World.cell?_setCell_other _ _ _ _ (ne 11 (by omega)),World.cell?_setCell_other _ _ _ _ (ne 10 (by omega)),World.cell?_setCell_other _ _ _ _ (ne 9 (by omega)),World.cell?_setCell_other _ _ _ _ (ne 8 (by omega)),World.cell?_setCell_other _ _ _ _ (ne 7 (by omega)),World.cell?_setCell_other _ _ _ _ (ne 6 (by omega)),World.cell?_setCell_other _ _ _ _ (ne 5 (by omega)),World.cell?_setCell_other _ _ _ _ (ne 4 (by omega)),World.cell?_setCell_other _ _ _ _ (ne 3 (by omega)),World.cell?_setCell_other _ _ _ _ (ne 2 (by omega)),World.cell?_setCell_other _ _ _ _ (ne 1 (by omega)),World.cell?_setCell_other _ _ _ _ (ne':(⟨R,p,none⟩:Addr)≠x)]
theorem setBp_frozen (w:World) (R p:Nat) (a:Bp) (x:Addr):(setBp w R p a).frozen? x=w.frozen? x:=by
 unfold setBp;simp
theorem setBp_size (w:World) (R p:Nat) (a:Bp):(setBp w R p a).heap.size=w.heap.size:=by
 unfold setBp;simp[World.setCell]
theorem setBp_at (w:World) (R p:Nat) (a:Bp) (h:∀j,j<14->(w.cell? ⟨R,p+j,none⟩).isSome=true):BpAt (setBp w R p a) R p a:=by
 have o:∀(v:World) (i j:Nat) (u:Value),i≠j->(v.setCell ⟨R,i,none⟩ u).cell? ⟨R,j,none⟩=v.cell? ⟨R,j,none⟩:=fun v i j u hij=>World.cell?_setCell_other _ _ _ _ (by intro e;have:=congrArg Addr.off e;simp at this;omega)
 have h0:=h 0 (by omega)
 unfold setBp BpAt
 refine ⟨?_,?_,?_,?_,?_,?_,?_,?_,?_,?_,?_,?_,?_,?_⟩
 ·rw[o _ (p+13) p _ (by omega),o _ (p+12) p _ (by omega),o _ (p+11) p _ (by omega),o _ (p+10) p _ (by omega),o _ (p+9) p _ (by omega),o _ (p+8) p _ (by omega),o _ (p+7) p _ (by omega),o _ (p+6) p _ (by omega),o _ (p+5) p _ (by omega),o _ (p+4) p _ (by omega),o _ (p+3) p _ (by omega),o _ (p+2) p _ (by omega),o _ (p+1) p _ (by omega)]
  exact World.cell?_setCell_same' _ _ _ h0
 ·rw[o _ (p+13) (p+1) _ (by omega),o _ (p+12) (p+1) _ (by omega),o _ (p+11) (p+1) _ (by omega),o _ (p+10) (p+1) _ (by omega),o _ (p+9) (p+1) _ (by omega),o _ (p+8) (p+1) _ (by omega),o _ (p+7) (p+1) _ (by omega),o _ (p+6) (p+1) _ (by omega),o _ (p+5) (p+1) _ (by omega),o _ (p+4) (p+1) _ (by omega),o _ (p+3) (p+1) _ (by omega),o _ (p+2) (p+1) _ (by omega)]
  exact World.cell?_setCell_same' _ _ _ (by rw[o _ p (p+1) _ (by omega)];exact h 1 (by omega))
 ·rw[o _ (p+13) (p+2) _ (by omega),o _ (p+12) (p+2) _ (by omega),o _ (p+11) (p+2) _ (by omega),o _ (p+10) (p+2) _ (by omega),o _ (p+9) (p+2) _ (by omega),o _ (p+8) (p+2) _ (by omega),o _ (p+7) (p+2) _ (by omega),o _ (p+6) (p+2) _ (by omega),o _ (p+5) (p+2) _ (by omega),o _ (p+4) (p+2) _ (by omega),o _ (p+3) (p+2) _ (by omega)]
  exact World.cell?_setCell_same' _ _ _ (by rw[o _ (p+1) (p+2) _ (by omega),o _ p (p+2) _ (by omega)];exact h 2 (by omega))
 ·rw[o _ (p+13) (p+3) _ (by omega),o _ (p+12) (p+3) _ (by omega),o _ (p+11) (p+3) _ (by omega),o _ (p+10) (p+3) _ (by omega),o _ (p+9) (p+3) _ (by omega),o _ (p+8) (p+3) _ (by omega),o _ (p+7) (p+3) _ (by omega),o _ (p+6) (p+3) _ (by omega),o _ (p+5) (p+3) _ (by omega),o _ (p+4) (p+3) _ (by omega)]
  exact World.cell?_setCell_same' _ _ _ (by rw[o _ (p+2) (p+3) _ (by omega),o _ (p+1) (p+3) _ (by omega),o _ p (p+3) _ (by omega)];exact h 3 (by omega))
 ·rw[o _ (p+13) (p+4) _ (by omega),o _ (p+12) (p+4) _ (by omega),o _ (p+11) (p+4) _ (by omega),o _ (p+10) (p+4) _ (by omega),o _ (p+9) (p+4) _ (by omega),o _ (p+8) (p+4) _ (by omega),o _ (p+7) (p+4) _ (by omega),o _ (p+6) (p+4) _ (by omega),o _ (p+5) (p+4) _ (by omega)]
  exact World.cell?_setCell_same' _ _ _ (by rw[o _ (p+3) (p+4) _ (by omega),o _ (p+2) (p+4) _ (by omega),o _ (p+1) (p+4) _ (by omega),o _ p (p+4) _ (by omega)];exact h 4 (by omega))
 ·rw[o _ (p+13) (p+5) _ (by omega),o _ (p+12) (p+5) _ (by omega),o _ (p+11) (p+5) _ (by omega),o _ (p+10) (p+5) _ (by omega),o _ (p+9) (p+5) _ (by omega),o _ (p+8) (p+5) _ (by omega),o _ (p+7) (p+5) _ (by omega),o _ (p+6) (p+5) _ (by omega)]
  exact World.cell?_setCell_same' _ _ _ (by rw[o _ (p+4) (p+5) _ (by omega),o _ (p+3) (p+5) _ (by omega),o _ (p+2) (p+5) _ (by omega),o _ (p+1) (p+5) _ (by omega),o _ p (p+5) _ (by omega)];exact h 5 (by omega))
 ·rw[o _ (p+13) (p+6) _ (by omega),o _ (p+12) (p+6) _ (by omega),o _ (p+11) (p+6) _ (by omega),o _ (p+10) (p+6) _ (by omega),o _ (p+9) (p+6) _ (by omega),o _ (p+8) (p+6) _ (by omega),o _ (p+7) (p+6) _ (by omega)]
  exact World.cell?_setCell_same' _ _ _ (by rw[o _ (p+5) (p+6) _ (by omega),o _ (p+4) (p+6) _ (by omega),o _ (p+3) (p+6) _ (by omega),o _ (p+2) (p+6) _ (by omega),o _ (p+1) (p+6) _ (by omega),o _ p (p+6) _ (by omega)];exact h 6 (by omega))
 ·rw[o _ (p+13) (p+7) _ (by omega),o _ (p+12) (p+7) _ (by omega),o _ (p+11) (p+7) _ (by omega),o _ (p+10) (p+7) _ (by omega),o _ (p+9) (p+7) _ (by omega),o _ (p+8) (p+7) _ (by omega)]
  exact World.cell?_setCell_same' _ _ _ (by rw[o _ (p+6) (p+7) _ (by omega),o _ (p+5) (p+7) _ (by omega),o _ (p+4) (p+7) _ (by omega),o _ (p+3) (p+7) _ (by omega),o _ (p+2) (p+7) _ (by omega),o _ (p+1) (p+7) _ (by omega),o _ p (p+7) _ (by omega)];exact h 7 (by omega))
 ·rw[o _ (p+13) (p+8) _ (by omega),o _ (p+12) (p+8) _ (by omega),o _ (p+11) (p+8) _ (by omega),o _ (p+10) (p+8) _ (by omega),o _ (p+9) (p+8) _ (by omega)]
  exact World.cell?_setCell_same' _ _ _ (by rw[o _ (p+7) (p+8) _ (by omega),o _ (p+6) (p+8) _ (by omega),o _ (p+5) (p+8) _ (by omega),o _ (p+4) (p+8) _ (by omega),o _ (p+3) (p+8) _ (by omega),o _ (p+2) (p+8) _ (by omega),o _ (p+1) (p+8) _ (by omega),o _ p (p+8) _ (by omega)];exact h 8 (by omega))
 ·rw[o _ (p+13) (p+9) _ (by omega),o _ (p+12) (p+9) _ (by omega),o _ (p+11) (p+9) _ (by omega),o _ (p+10) (p+9) _ (by omega)]
  exact World.cell?_setCell_same' _ _ _ (by rw[o _ (p+8) (p+9) _ (by omega),o _ (p+7) (p+9) _ (by omega),o _ (p+6) (p+9) _ (by omega),o _ (p+5) (p+9) _ (by omega),o _ (p+4) (p+9) _ (by omega),o _ (p+3) (p+9) _ (by omega),o _ (p+2) (p+9) _ (by omega),o _ (p+1) (p+9) _ (by omega),o _ p (p+9) _ (by omega)];exact h 9 (by omega))
 ·rw[o _ (p+13) (p+10) _ (by omega),o _ (p+12) (p+10) _ (by omega),o _ (p+11) (p+10) _ (by omega)]
  exact World.cell?_setCell_same' _ _ _ (by rw[o _ (p+9) (p+10) _ (by omega),o _ (p+8) (p+10) _ (by omega),o _ (p+7) (p+10) _ (by omega),o _ (p+6) (p+10) _ (by omega),o _ (p+5) (p+10) _ (by omega),o _ (p+4) (p+10) _ (by omega),o _ (p+3) (p+10) _ (by omega),o _ (p+2) (p+10) _ (by omega),o _ (p+1) (p+10) _ (by omega),o _ p (p+10) _ (by omega)];exact h 10 (by omega))
 ·rw[o _ (p+13) (p+11) _ (by omega),o _ (p+12) (p+11) _ (by omega)]
  exact World.cell?_setCell_same' _ _ _ (by rw[o _ (p+10) (p+11) _ (by omega),o _ (p+9) (p+11) _ (by omega),o _ (p+8) (p+11) _ (by omega),o _ (p+7) (p+11) _ (by omega),o _ (p+6) (p+11) _ (by omega),o _ (p+5) (p+11) _ (by omega),o _ (p+4) (p+11) _ (by omega),o _ (p+3) (p+11) _ (by omega),o _ (p+2) (p+11) _ (by omega),o _ (p+1) (p+11) _ (by omega),o _ p (p+11) _ (by omega)];exact h 11 (by omega))
 ·rw[o _ (p+13) (p+12) _ (by omega)]
  exact World.cell?_setCell_same' _ _ _ (by rw[o _ (p+11) (p+12) _ (by omega),o _ (p+10) (p+12) _ (by omega),o _ (p+9) (p+12) _ (by omega),o _ (p+8) (p+12) _ (by omega),o _ (p+7) (p+12) _ (by omega),o _ (p+6) (p+12) _ (by omega),o _ (p+5) (p+12) _ (by omega),o _ (p+4) (p+12) _ (by omega),o _ (p+3) (p+12) _ (by omega),o _ (p+2) (p+12) _ (by omega),o _ (p+1) (p+12) _ (by omega),o _ p (p+12) _ (by omega)];exact h 12 (by omega))
 ·exact World.cell?_setCell_same' _ _ _ (by rw[o _ (p+12) (p+13) _ (by omega),o _ (p+11) (p+13) _ (by omega),o _ (p+10) (p+13) _ (by omega),o _ (p+9) (p+13) _ (by omega),o _ (p+8) (p+13) _ (by omega),o _ (p+7) (p+13) _ (by omega),o _ (p+6) (p+13) _ (by omega),o _ (p+5) (p+13) _ (by omega),o _ (p+4) (p+13) _ (by omega),o _ (p+3) (p+13) _ (by omega),o _ (p+2) (p+13) _ (by omega),o _ (p+1) (p+13) _ (by omega),o _ p (p+13) _ (by omega)];exact h 13 (by omega))
theorem setBp_below {B:Nat} {v w:World} (hb:Below B v w) (R p:Nat) (a:Bp) (hR:B<=R):Below B v (setBp w R p a):=by
 unfold setBp
 exact (((((((((((((hb.setCell (p:=⟨R,p,none⟩) hR _).setCell (p:=⟨R,p+1,none⟩) hR _).setCell (p:=⟨R,p+2,none⟩) hR _).setCell (p:=⟨R,p+3,none⟩) hR _).setCell (p:=⟨R,p+4,none⟩) hR _).setCell (p:=⟨R,p+5,none⟩) hR _).setCell (p:=⟨R,p+6,none⟩) hR _).setCell (p:=⟨R,p+7,none⟩) hR _).setCell (p:=⟨R,p+8,none⟩) hR _).setCell (p:=⟨R,p+9,none⟩) hR _).setCell (p:=⟨R,p+10,none⟩) hR _).setCell (p:=⟨R,p+11,none⟩) hR _).setCell (p:=⟨R,p+12,none⟩) hR _).setCell (p:=⟨R,p+13,none⟩) hR _
theorem infoBp:(Tryz.prog.info? 51).map (fun i=>(i.zero,i.size,i.bytes))=some (some (.agg #[.int .i64 0,.int .i64 0,.int .i64 0,.int .i64 0,.int .i64 0,.int .i64 0,.int .i64 0,.int .i64 0,.int .i64 0,.int .i64 0,.int .i64 0,.int .i64 0,.int .i64 0,.int .i64 0]),14,112):=by kernel_rfl
def zerosBp (n:Nat):Array Value:=madeCells #[.int .i64 0,.int .i64 0,.int .i64 0,.int .i64 0,.int .i64 0,.int .i64 0,.int .i64 0,.int .i64 0,.int .i64 0,.int .i64 0,.int .i64 0,.int .i64 0,.int .i64 0,.int .i64 0] (n*14)
theorem makeBp (n:Nat) (hn:n<=1048576) (w:World):(Instr.makeSlice 56 (.int .i64 (n:Int)) (.int .i64 (n:Int))).run Tryz.prog w=.ok (.slice (some ⟨w.heap.size,0,none⟩) n n) (w.alloc (.cells (zerosBp n) 51)):=by
 obtain ⟨i,hi,hz0,hz1,hz2⟩:=info_parts infoBp
 have:=run_make (P:=Tryz.prog) w 56 51 i _ Tryz.underlying56 hi hz0 .i64 .i64 (n:Int) (n:Int) (by omega) (Int.le_refl _) (by rw[hz2];omega) (by omega)
 rw[hz1] at this
 simpa [zerosBp,Value.cells] using this
def RowBp (w:World) (R n k:Nat) (F:Nat->Bp):Prop:=
 (∀o,o<n*14->(w.cell? ⟨R,o,none⟩).isSome=true)/\(∀o,w.frozen? ⟨R,o,none⟩=false)/\R<w.heap.size/\∀i,i<k->BpAt w R (i*14) (F i)
theorem RowBp.new (w:World) (n:Nat) (F:Nat->Bp):RowBp (w.alloc (.cells (zerosBp n) 51)) w.heap.size n 0 F:=by
 have e:(w.alloc (.cells (zerosBp n) 51)).heap[w.heap.size]? =some (.cells (zerosBp n) 51 (0,0)):=by
  show (w.heap.push _)[w.heap.size]? =_
  simp
 refine ⟨fun o ho=>?_,fun o=>?_,by simp,fun i hi=>absurd hi (Nat.not_lt_zero _)⟩
 ·simp only[World.cell?]
  rw[e]
  simp[zerosBp,size_madeCells,ho]
 ·simp[go_sem]
theorem RowBp.below {w w':World} {R n k:Nat} {F:Nat->Bp} (h:RowBp w R n k F) (hb:Below w.heap.size w w'):RowBp w' R n k F:=by
 obtain ⟨h1,h2,h3,h4⟩:=h
 refine ⟨fun o ho=>by rw[hb.cell (p:=⟨R,o,none⟩) h3];exact h1 o ho,fun o=>by rw[hb.frozen (p:=⟨R,o,none⟩) h3];exact h2 o,Nat.lt_of_lt_of_le h3 hb.size,fun i hi=>(h4 i hi).of_cells (fun q=>hb.cell (p:=⟨R,q,none⟩) h3)⟩
theorem BpAt.set_other {w:World} {R p q:Nat} {x a:Bp} (h:BpAt w R q a) (hd:q+14<=p\/p+14<=q):BpAt (setBp w R p x) R q a:=by
 obtain ⟨h0,h1,h2,h3,h4,h5,h6,h7,h8,h9,h10,h11,h12,h13⟩:=h
 unfold BpAt
 refine ⟨?_,?_,?_,?_,?_,?_,?_,?_,?_,?_,?_,?_,?_,?_⟩
 ·rw[setBp_out _ _ _ _ _ (by simp;omega)];exact h0
 ·rw[setBp_out _ _ _ _ _ (by simp;omega)];exact h1
 ·rw[setBp_out _ _ _ _ _ (by simp;omega)];exact h2
 ·rw[setBp_out _ _ _ _ _ (by simp;omega)];exact h3
 ·rw[setBp_out _ _ _ _ _ (by simp;omega)];exact h4
 ·rw[setBp_out _ _ _ _ _ (by simp;omega)];exact h5
 ·rw[setBp_out _ _ _ _ _ (by simp;omega)];exact h6
 ·rw[setBp_out _ _ _ _ _ (by simp;omega)];exact h7
 ·rw[setBp_out _ _ _ _ _ (by simp;omega)];exact h8
 ·rw[setBp_out _ _ _ _ _ (by simp;omega)];exact h9
 ·rw[setBp_out _ _ _ _ _ (by simp;omega)];exact h10
 ·rw[setBp_out _ _ _ _ _ (by simp;omega)];exact h11
 ·rw[setBp_out _ _ _ _ _ (by simp;omega)];exact h12
 ·rw[setBp_out _ _ _ _ _ (by simp;omega)];exact h13
theorem setBp_some (w:World) (R p:Nat) (a:Bp) (h:∀j,j<14->(w.cell? ⟨R,p+j,none⟩).isSome=true) {o:Nat} (ho:(w.cell? ⟨R,o,none⟩).isSome=true):((setBp w R p a).cell? ⟨R,o,none⟩).isSome=true:=by
 by_cases hd:o<p\/p+14<=o
 ·rw[setBp_out _ _ _ _ _ (by simp;omega)];exact ho
 ·obtain ⟨h0,h1,h2,h3,h4,h5,h6,h7,h8,h9,h10,h11,h12,h13⟩:=setBp_at w R p a h
  have:o=p\/o=p+1\/o=p+2\/o=p+3\/o=p+4\/o=p+5\/o=p+6\/o=p+7\/o=p+8\/o=p+9\/o=p+10\/o=p+11\/o=p+12\/o=p+13:=by omega
  rcases this with e|e|e|e|e|e|e|e|e|e|e|e|e|e <;>subst e
  ·rw[h0];rfl
  ·rw[h1];rfl
  ·rw[h2];rfl
  ·rw[h3];rfl
  ·rw[h4];rfl
  ·rw[h5];rfl
  ·rw[h6];rfl
  ·rw[h7];rfl
  ·rw[h8];rfl
  ·rw[h9];rfl
  ·rw[h10];rfl
  ·rw[h11];rfl
  ·rw[h12];rfl
  ·rw[h13];rfl
theorem RowBp.set {w:World} {R n k:Nat} {F:Nat->Bp} (h:RowBp w R n k F) (hk:k<n):RowBp (setBp w R (k*14) (F k)) R n (k+1) F:=by
 obtain ⟨h1,h2,h3,h4⟩:=h
 have hs:∀j,j<14->(w.cell? ⟨R,k*14+j,none⟩).isSome=true:=fun j hj=>h1 _ (by omega)
 refine ⟨fun o ho=>setBp_some w R (k*14) (F k) hs (h1 o ho),fun o=>by rw[setBp_frozen];exact h2 o,by rw[setBp_size];exact h3,fun i hi=>?_⟩
 by_cases e:i=k
 ·subst e;exact setBp_at w R (i*14) (F i) hs
 ·exact (h4 i (by omega)).set_other (by omega)
theorem RowBp.list {w:World} {R n:Nat} {F:Nat->Bp} (h:RowBp w R n n F) (hn:n<=1048576):Bps w (some ⟨R,0,none⟩) n F:=
 ⟨hn,Or.inr ⟨R,0,rfl,h.2.2.1,fun i hi=>by simpa using h.2.2.2 i hi⟩⟩
theorem toSBp (a:Option Addr) (n c:Nat) (F:Nat->Bp) (w:World) (h:Bps w a n F):
  Calls Tryz.prog 48 #[.slice a n c] w fun e w'=>e=.returned (.slice (some ⟨w.heap.size,0,none⟩) n n)/\RowBp w' w.heap.size n n F/\Below w.heap.size w w':=by
 have H:=hidOf h
 have hn:=h.1
 clear h
 have hmk:=makeBp n hn
 have R0:Hid (RowBp (w.alloc (.cells (zerosBp n) 51)) w.heap.size n 0 F):=RowBp.new w n F
 go_enter Tryz.func48,Tryz.ntmps48
 go_wp2
 go_loopw[4] (fun i wr=>∃k:Nat,k<=n/\i=.int .i64 k/\Hid (RowBp wr w.heap.size n k F)/\Hid (Below w.heap.size w wr)) (fun i _=>n-(intOf i).toNat)
 case atStart=>exact ⟨0,Nat.zero_le _,rfl,R0,(Below.refl _ _).alloc (Nat.le_refl _) _⟩
 case round=>
  obtain ⟨k,hk,rfl,hR,hB⟩:=hrel
  clear R0 hmk
  by_cases hlt:k<n
  ·obtain ⟨b,o,rfl,hb0,hA0⟩:=H.out.acc hlt
   have hA:=hA0.of_cells (w':=wr) (fun q=>hB.out.cell (p:=⟨b,q,none⟩) hb0)
   obtain ⟨c0,c1,c2,c3,c4,c5,c6,c7,c8,c9,c10,c11,c12,c13⟩:=hA
   clear hA0
   go_wp2_with fail
   refine (toBp (F k) _).mono ?_
   rintro e w1 ⟨rfl,B1⟩
   have R1:=hidOf (hR.out.below B1)
   have B1':=hidOf (hB.out.trans (B1.mono hB.out.size))
   obtain ⟨s1,s2,s3,s4⟩:=R1.out
   obtain ⟨v0,e0⟩:=Option.isSome_iff_exists.1 (s1 (k*14) (by omega))
   obtain ⟨v1,e1⟩:=Option.isSome_iff_exists.1 (s1 (k*14+1) (by omega))
   obtain ⟨v2,e2⟩:=Option.isSome_iff_exists.1 (s1 (k*14+2) (by omega))
   obtain ⟨v3,e3⟩:=Option.isSome_iff_exists.1 (s1 (k*14+3) (by omega))
   obtain ⟨v4,e4⟩:=Option.isSome_iff_exists.1 (s1 (k*14+4) (by omega))
   obtain ⟨v5,e5⟩:=Option.isSome_iff_exists.1 (s1 (k*14+5) (by omega))
   obtain ⟨v6,e6⟩:=Option.isSome_iff_exists.1 (s1 (k*14+6) (by omega))
   obtain ⟨v7,e7⟩:=Option.isSome_iff_exists.1 (s1 (k*14+7) (by omega))
   obtain ⟨v8,e8⟩:=Option.isSome_iff_exists.1 (s1 (k*14+8) (by omega))
   obtain ⟨v9,e9⟩:=Option.isSome_iff_exists.1 (s1 (k*14+9) (by omega))
   obtain ⟨v10,e10⟩:=Option.isSome_iff_exists.1 (s1 (k*14+10) (by omega))
   obtain ⟨v11,e11⟩:=Option.isSome_iff_exists.1 (s1 (k*14+11) (by omega))
   obtain ⟨v12,e12⟩:=Option.isSome_iff_exists.1 (s1 (k*14+12) (by omega))
   obtain ⟨v13,e13⟩:=Option.isSome_iff_exists.1 (s1 (k*14+13) (by omega))
   clear s1 s4 B1 c0 c1 c2 c3 c4 c5 c6 c7 c8 c9 c10 c11 c12 c13
   go_wp2
   go_roundw
   case rel=>exact ⟨k+1,by omega,by go_num,R1.out.set hlt,setBp_below B1'.out w.heap.size (k*14) (F k) (Nat.le_refl _)⟩
   case measure=>simp[intOf];omega
  ·have hkn:k=n:=by omega
   subst hkn
   go_wp2
   go_ret
   exact ⟨rfl,hR.out,hB.out⟩
theorem szSBp_yes (a:Option Addr) (n c:Nat) (m:Int) (w:World) (h:(n:Int)<=m) (hm:m<=1048576):
  Calls Tryz.prog 47 #[.slice a n c,.int .i64 m] w fun e w'=>e=.returned (.int .i64 (m-(n:Int)))/\w'=w:=by
 go_enter Tryz.func47,Tryz.ntmps47
 go_wp2
 go_ret
 exact ⟨rfl,rfl⟩
theorem szSBp_no (a:Option Addr) (n c:Nat) (m:Int) (w:World) (h:m<(n:Int)) (h0:0<=m) (hm:n<=9223372036854775807):
  Calls Tryz.prog 47 #[.slice a n c,.int .i64 m] w fun e w'=>e=.returned (.int .i64 (-1))/\w'=w:=by
 go_enter Tryz.func47,Tryz.ntmps47
 go_wp2
 go_ret
 exact ⟨rfl,rfl⟩
theorem eqOp_same (x:OpF) (w:World):Calls Tryz.prog 138 #[.agg #[.int .i64 x.k,.int .i64 x.i,.int .i64 x.t,.int .i64 x.m,.int .i64 x.r],.agg #[.int .i64 x.k,.int .i64 x.i,.int .i64 x.t,.int .i64 x.m,.int .i64 x.r]] w fun e w'=>e=.returned (.bool true)/\Below w.heap.size w w':=by
 go_enter Tryz.func138,Tryz.ntmps138
 go_wp2
 go_ret
 exact ⟨rfl,((Below.refl _ _).alloc (Nat.le_refl _) _).alloc (by simp) _⟩
def BpC (a:Bp):List Value:=[.int .i64 a.K,.int .i64 a.x.k,.int .i64 a.x.i,.int .i64 a.x.t,.int .i64 a.x.m,.int .i64 a.x.r,.int .i64 a.o.id,.int .i64 a.o.src,.int .i64 a.o.dst,.int .i64 a.o.amount,.int .i64 a.o.first,.int .i64 a.o.every,.int .i64 a.o.times,.int .i64 a.n]
theorem eqBp_same (a:Bp) (w:World):Calls Tryz.prog 100 #[.agg #[.int .i64 a.K,.int .i64 a.x.k,.int .i64 a.x.i,.int .i64 a.x.t,.int .i64 a.x.m,.int .i64 a.x.r,.int .i64 a.o.id,.int .i64 a.o.src,.int .i64 a.o.dst,.int .i64 a.o.amount,.int .i64 a.o.first,.int .i64 a.o.every,.int .i64 a.o.times,.int .i64 a.n],.agg #[.int .i64 a.K,.int .i64 a.x.k,.int .i64 a.x.i,.int .i64 a.x.t,.int .i64 a.x.m,.int .i64 a.x.r,.int .i64 a.o.id,.int .i64 a.o.src,.int .i64 a.o.dst,.int .i64 a.o.amount,.int .i64 a.o.first,.int .i64 a.o.every,.int .i64 a.o.times,.int .i64 a.n]] w fun e w'=>e=.returned (.bool true)/\Below w.heap.size w w':=by
 obtain ⟨h,hh⟩:∃h,w.heap.size=h:=⟨_,rfl⟩
 obtain ⟨W0,hW0,X0⟩:∃W0,W0=(w.alloc (.cells (BpC a).toArray 51)).alloc (.cells (BpC a).toArray 51)/\Hid (Vals W0 h (BpC a)/\Vals W0 (h+1) (BpC a)/\Below h w W0):=by
  have b1:∀(V:World) (o:Obj),Below V.heap.size V (V.alloc o):=fun V o=>(Below.refl _ _).alloc (Nat.le_refl _) _
  have v0:=(Vals.new w (BpC a) 51).kept (b1 _ (.cells (BpC a).toArray 51)) (by simp)
  have v1:=Vals.new (w.alloc (.cells (BpC a).toArray 51)) (BpC a) 51
  simp only[World.size_alloc] at v1
  rw[hh] at v0 v1
  exact ⟨_,rfl,v0,v1,by rw[←hh];exact ((Below.refl _ _).alloc (Nat.le_refl _) _).alloc (by simp) _⟩
 have HW0:Hid (W0=(w.alloc (.cells #[.int .i64 a.K,.int .i64 a.x.k,.int .i64 a.x.i,.int .i64 a.x.t,.int .i64 a.x.m,.int .i64 a.x.r,.int .i64 a.o.id,.int .i64 a.o.src,.int .i64 a.o.dst,.int .i64 a.o.amount,.int .i64 a.o.first,.int .i64 a.o.every,.int .i64 a.o.times,.int .i64 a.n] 51)).alloc (.cells #[.int .i64 a.K,.int .i64 a.x.k,.int .i64 a.x.i,.int .i64 a.x.t,.int .i64 a.x.m,.int .i64 a.x.r,.int .i64 a.o.id,.int .i64 a.o.src,.int .i64 a.o.dst,.int .i64 a.o.amount,.int .i64 a.o.first,.int .i64 a.o.every,.int .i64 a.o.times,.int .i64 a.n] 51)):=hW0
 have HH:=hidOf hh
 clear hW0
 go_enter Tryz.func100,Tryz.ntmps100
 go_upto_region 1 with fail
 rw[←HW0.out]
 try rw[hh]
 clear HW0 hh
 have a0:=X0.out.1.1 0 _ rfl
 have a1:=X0.out.1.1 1 _ rfl
 have a2:=X0.out.1.1 2 _ rfl
 have a3:=X0.out.1.1 3 _ rfl
 have a4:=X0.out.1.1 4 _ rfl
 have a5:=X0.out.1.1 5 _ rfl
 have a6:=X0.out.1.1 6 _ rfl
 have a7:=X0.out.1.1 7 _ rfl
 have a8:=X0.out.1.1 8 _ rfl
 have a9:=X0.out.1.1 9 _ rfl
 have a10:=X0.out.1.1 10 _ rfl
 have a11:=X0.out.1.1 11 _ rfl
 have a12:=X0.out.1.1 12 _ rfl
 have a13:=X0.out.1.1 13 _ rfl
 have b0:=X0.out.2.1.1 0 _ rfl
 have b1:=X0.out.2.1.1 1 _ rfl
 have b2:=X0.out.2.1.1 2 _ rfl
 have b3:=X0.out.2.1.1 3 _ rfl
 have b4:=X0.out.2.1.1 4 _ rfl
 have b5:=X0.out.2.1.1 5 _ rfl
 have b6:=X0.out.2.1.1 6 _ rfl
 have b7:=X0.out.2.1.1 7 _ rfl
 have b8:=X0.out.2.1.1 8 _ rfl
 have b9:=X0.out.2.1.1 9 _ rfl
 have b10:=X0.out.2.1.1 10 _ rfl
 have b11:=X0.out.2.1.1 11 _ rfl
 have b12:=X0.out.2.1.1 12 _ rfl
 have b13:=X0.out.2.1.1 13 _ rfl
 go_wp2_with fail
 refine (eqOp_same a.x _).mono ?_
 rintro e w1 ⟨rfl,B1⟩
 have X1:Hid (Vals w1 h (BpC a)/\Vals w1 (h+1) (BpC a)/\Below h w w1):=⟨X0.out.1.kept B1 X0.out.1.2.2,X0.out.2.1.kept B1 X0.out.2.1.2.2,X0.out.2.2.trans (B1.mono (by have:=X0.out.1.2.2;omega))⟩
 clear B1 X0 a0 b0 a1 b1 a2 b2 a3 b3 a4 b4 a5 b5 a6 b6 a7 b7 a8 b8 a9 b9 a10 b10 a11 b11 a12 b12 a13 b13
 have a0:=X1.out.1.1 0 _ rfl
 have a1:=X1.out.1.1 1 _ rfl
 have a2:=X1.out.1.1 2 _ rfl
 have a3:=X1.out.1.1 3 _ rfl
 have a4:=X1.out.1.1 4 _ rfl
 have a5:=X1.out.1.1 5 _ rfl
 have a6:=X1.out.1.1 6 _ rfl
 have a7:=X1.out.1.1 7 _ rfl
 have a8:=X1.out.1.1 8 _ rfl
 have a9:=X1.out.1.1 9 _ rfl
 have a10:=X1.out.1.1 10 _ rfl
 have a11:=X1.out.1.1 11 _ rfl
 have a12:=X1.out.1.1 12 _ rfl
 have a13:=X1.out.1.1 13 _ rfl
 have b0:=X1.out.2.1.1 0 _ rfl
 have b1:=X1.out.2.1.1 1 _ rfl
 have b2:=X1.out.2.1.1 2 _ rfl
 have b3:=X1.out.2.1.1 3 _ rfl
 have b4:=X1.out.2.1.1 4 _ rfl
 have b5:=X1.out.2.1.1 5 _ rfl
 have b6:=X1.out.2.1.1 6 _ rfl
 have b7:=X1.out.2.1.1 7 _ rfl
 have b8:=X1.out.2.1.1 8 _ rfl
 have b9:=X1.out.2.1.1 9 _ rfl
 have b10:=X1.out.2.1.1 10 _ rfl
 have b11:=X1.out.2.1.1 11 _ rfl
 have b12:=X1.out.2.1.1 12 _ rfl
 have b13:=X1.out.2.1.1 13 _ rfl
 go_wp2_with fail
 refine (eqOrd_same a.o _).mono ?_
 rintro e w2 ⟨rfl,B2⟩
 have X2:Hid (Vals w2 h (BpC a)/\Vals w2 (h+1) (BpC a)/\Below h w w2):=⟨X1.out.1.kept B2 X1.out.1.2.2,X1.out.2.1.kept B2 X1.out.2.1.2.2,X1.out.2.2.trans (B2.mono (by have:=X1.out.1.2.2;omega))⟩
 clear B2 X1 a0 b0 a1 b1 a2 b2 a3 b3 a4 b4 a5 b5 a6 b6 a7 b7 a8 b8 a9 b9 a10 b10 a11 b11 a12 b12 a13 b13
 have a13:=X2.out.1.1 13 _ rfl
 have b13:=X2.out.2.1.1 13 _ rfl
 go_wp2
 go_ret
 exact ⟨rfl,by rw[HH.out];exact X2.out.2.2⟩
theorem eqSBp_same (a1 a2:Option Addr) (n m1 m2:Nat) (F:Nat->Bp) (w:World) (h1:Bps w a1 n F) (h2:Bps w a2 n F):
  Calls Tryz.prog 50 #[.slice a1 n m1,.slice a2 n m2] w fun e w'=>e=.returned (.bool true)/\Below w.heap.size w w':=by
 have H1:=hidOf h1
 have H2:=hidOf h2
 have hn:=h1.1
 clear h1 h2
 go_enter Tryz.func50,Tryz.ntmps50
 go_wp2
 go_loopw[5] (fun i wr=>∃k:Nat,k<=n/\i=.int .i64 k/\Hid (Below w.heap.size w wr)) (fun i _=>n-(intOf i).toNat)
 case atStart=>exact ⟨0,Nat.zero_le _,rfl,Below.refl _ _⟩
 case round=>
  obtain ⟨k,hk,rfl,hB⟩:=hrel
  by_cases hlt:k<n
  ·obtain ⟨b,o,rfl,hb0,hA0⟩:=H1.out.acc hlt
   obtain ⟨b',o',rfl,hb0',hA0'⟩:=H2.out.acc hlt
   have hA:=hA0.of_cells (w':=wr) (fun q=>hB.out.cell (p:=⟨b,q,none⟩) hb0)
   have hA':=hA0'.of_cells (w':=wr) (fun q=>hB.out.cell (p:=⟨b',q,none⟩) hb0')
   have hb:b<wr.heap.size:=Nat.lt_of_lt_of_le hb0 hB.out.size
   have hb':b'<wr.heap.size:=Nat.lt_of_lt_of_le hb0' hB.out.size
   obtain ⟨c0,c1,c2,c3,c4,c5,c6,c7,c8,c9,c10,c11,c12,c13⟩:=hA
   obtain ⟨d0,d1,d2,d3,d4,d5,d6,d7,d8,d9,d10,d11,d12,d13⟩:=hA'
   clear hA0 hA0'
   have hov:∀v q,(over wr v).cell? ⟨b,q,none⟩=wr.cell? ⟨b,q,none⟩:=fun v q=>(below_over wr v).cell (p:=⟨b,q,none⟩) hb
   have hov':∀v q,(over wr v).cell? ⟨b',q,none⟩=wr.cell? ⟨b',q,none⟩:=fun v q=>(below_over wr v).cell (p:=⟨b',q,none⟩) hb'
   go_wp2
   refine wp_region_over (by kernel_rfl) (by kernel_rfl) ?_
   repeat (go_big_quiet_step ((first|(go_at_call 100;exact Calls.over_of (eqBp_same (F k) _)))))
   refine wpQuiet_nil ?_
   intro _ hw'
   obtain ⟨vq,hw''⟩:=hw'
   subst hw''
   go_wp2
   go_roundw
   case rel=>exact ⟨k+1,by omega,by go_num,hB.out.trans ((below_over wr vq).mono hB.out.size)⟩
   case measure=>simp[intOf];omega
  ·go_wp2
   go_ret
   exact ⟨rfl,hB.out⟩
def MarkI (k0:Int) (n:Nat) (L:List Int):Prop:=∀i,i<n->L.getD i 0=k0+(i:Int)
theorem eqI_same (B1 B2:Nat) (v1 v2:Value) (l:List Int) (w:World) (hl:l.length<=1048576) (h1:IL w B1 v1 l) (h2:IL w B2 v2 l):
  Calls Tryz.prog 49 #[v1,v2] w fun e w'=>e=.returned (.bool true)/\Below w.heap.size w w':=by
 obtain ⟨a1,m1,rfl,_,s1⟩:=h1.shape
 obtain ⟨a2,m2,rfl,_,s2⟩:=h2.shape
 have S1:Hid (∀i,i<l.length->∃g,a1=some ⟨g,0,none⟩/\w.cell? ⟨g,i,none⟩=some (.int .i64 (l.getD i 0))):=fun i hi=>by obtain ⟨g,e,_,_,_,hc,_⟩:=s1 i hi;exact ⟨g,e,hc⟩
 have S2:Hid (∀i,i<l.length->∃g,a2=some ⟨g,0,none⟩/\w.cell? ⟨g,i,none⟩=some (.int .i64 (l.getD i 0))):=fun i hi=>by obtain ⟨g,e,_,_,_,hc,_⟩:=s2 i hi;exact ⟨g,e,hc⟩
 clear s1 s2 h1 h2
 generalize hn:l.length=n at*
 go_enter Tryz.func49,Tryz.ntmps49
 go_wp2
 go_loopw[5] (fun i wr=>∃(k q:Nat),k<=n/\i=.int .i64 k/\wr=w.drewN q) (fun i _=>n-(intOf i).toNat)
 case atStart=>exact ⟨0,0,Nat.zero_le _,rfl,rfl⟩
 case round=>
  obtain ⟨k,q,hk,rfl,rfl⟩:=hrel
  by_cases hlt:k<n
  ·obtain ⟨g,rfl,c1⟩:=S1.out k hlt
   obtain ⟨g',rfl,c2⟩:=S2.out k hlt
   generalize l.getD k 0=z at c1 c2
   have hk0:(k:Int)<(n:Int):=by omega
   go_wp2
   go_quiet (fail)
   go_wp2
   go_roundw
   case rel=>exact ⟨k+1,_,by omega,by go_num,rfl⟩
   case measure=>simp[intOf];omega
  ·go_wp2
   go_ret
   exact ⟨rfl,⟨rfl,rfl,rfl,Nat.le_refl _,fun _ _=>rfl⟩⟩
theorem markI (B:Nat) (v:Value) (l:List Int) (k0:Int) (w:World) (k1:0<=k0) (k2:k0<=100000000) (hl:l.length<=1048576) (h:IL w B v l):
  Calls Tryz.prog 52 #[v,.int .i64 k0] w fun e w'=>e=.returned (.int .i64 (k0+(l.length:Int)))/\(∃L,L.length=l.length/\MarkI k0 l.length L/\IL w' B v L)/\w.grownBy w' v.ownBlock:=by
 obtain ⟨a,m,hv,_,sh⟩:=h.shape
 by_cases h0:l.length=0
 ·have hl0:l=[]:=List.length_eq_zero_iff.1 h0
  subst hl0
  subst hv
  have H:=hidOf h
  clear h sh
  simp only[List.length_nil]
  go_enter Tryz.func52,Tryz.ntmps52
  go_wp2
  refine wp_loop_rounds 1 ?_
  rw[rounds_succ]
  go_wp2
  go_ret
  exact ⟨by simp,⟨[],rfl,fun i hi=>absurd hi (Nat.not_lt_zero _),H.out⟩,World.grownBy.refl _ _⟩
 ·obtain ⟨g,rfl,_,hg1,hg2,_,_⟩:=sh 0 (by omega)
  subst hv
  have H:=hidOf h
  clear h sh
  generalize hn:l.length=n at*
  have HN:=hidOf hn
  clear hn
  go_enter Tryz.func52,Tryz.ntmps52
  go_wp2
  go_loopw[1,5] (fun t i wr=>∃(k:Nat) (L:List Int),k<=n/\i=.int .i64 k/\t=.int .i64 (k0+(k:Int))/\Hid (L.length=n)/\Hid (MarkI k0 k L)/\Hid (IL wr B (.slice (some ⟨g,0,none⟩) n m) L)/\Hid (w.grownBy wr (some g))) (fun _ i _=>n-(intOf i).toNat)
  case atStart=>exact ⟨0,l,Nat.zero_le _,rfl,by simp,HN,fun i hi=>absurd hi (Nat.not_lt_zero _),H,World.grownBy.refl _ _⟩
  case round=>
   obtain ⟨k,L,hk,rfl,rfl,hL,hM,hI,hG⟩:=hrel
   by_cases hlt:k<n
   ·obtain ⟨a',m',e',_,sh⟩:=hI.out.shape
    obtain ⟨g',ea,_,_,_,cc,cf⟩:=sh k (by rw[hL.out];exact hlt)
    have eg:g=g':=by
     have:=congrArg Value.ownBlock e'
     rw[ea] at this
     simpa [Value.ownBlock] using this
    subst eg
    clear e' sh ea
    generalize L.getD k 0=z at cc
    have hi':IL wr B (.slice (some ⟨g,0,none⟩) L.length m) L:=by rw[hL.out];exact hI.out
    obtain ⟨st,gr⟩:=hi'.stored k (k0+(k:Int))
    have ST:Hid (IL (wr.setCell ⟨g,k,none⟩ (.int .i64 (k0+(k:Int)))) B (.slice (some ⟨g,0,none⟩) n m) (L.set k (k0+(k:Int)))):=by
     rw[hL.out] at st;exact st
    have GR:Hid (w.grownBy (wr.setCell ⟨g,k,none⟩ (.int .i64 (k0+(k:Int)))) (some g)):=grown_trans hG.out gr
    have HM:Hid (MarkI k0 (k+1) (L.set k (k0+(k:Int)))):=fun i hi=>by
     by_cases e:i=k
     ·subst e
      have hlen:i<L.length:=by rw[hL.out];exact hlt
      simp[List.getD,hlen]
     ·have:=hM.out i (by omega)
      simp only[List.getD] at this ⊢
      rw[List.getElem?_set_ne (by omega)]
      exact this
    have HL:Hid ((L.set k (k0+(k:Int))).length=n):=(by rw[List.length_set,hL.out]:(L.set k (k0+(k:Int))).length=n)
    clear st gr hi'
    go_wp2
    go_roundw
    case rel=>exact ⟨k+1,L.set k (k0+(k:Int)),by omega,by go_num,by go_num,HL,HM,ST,GR⟩
    case measure=>simp[intOf];omega
   ·have hkn:k=n:=by omega
    subst hkn
    go_wp2
    go_ret
    exact ⟨rfl,⟨L,hL.out,hM.out,hI.out⟩,hG.out⟩
theorem heldI (B:Nat) (v:Value) (L:List Int) (k0:Int) (w:World) (k1:0<=k0) (k2:k0<=100000000) (hl:L.length<=1048576) (h:IL w B v L) (hM:MarkI k0 L.length L):
  Calls Tryz.prog 53 #[v,.int .i64 k0] w fun e w'=>e=.returned (.int .i64 (k0+(L.length:Int)))/\w'=w:=by
 obtain ⟨a,m,rfl,_,sh⟩:=h.shape
 have S:Hid (∀i,i<L.length->∃g,a=some ⟨g,0,none⟩/\w.cell? ⟨g,i,none⟩=some (.int .i64 (k0+(i:Int)))):=fun i hi=>by
  obtain ⟨g,e,_,_,_,hc,_⟩:=sh i hi
  rw[hM i hi] at hc
  exact ⟨g,e,hc⟩
 clear sh h hM
 generalize hn:L.length=n at*
 clear hn
 go_enter Tryz.func53,Tryz.ntmps53
 go_wp2
 go_loop [1,5] (fun t i=>∃k:Nat,k<=n/\i=.int .i64 k/\t=.int .i64 (k0+(k:Int))) (fun _ i=>n-(intOf i).toNat)
 case atStart=>exact ⟨0,Nat.zero_le _,rfl,by simp⟩
 case round=>
  obtain ⟨k,hk,rfl,rfl⟩:=hrel
  by_cases hlt:k<n
  ·obtain ⟨g,rfl,cc⟩:=S.out k hlt
   go_wp2
   go_round
   case rel=>exact ⟨k+1,by omega,by go_num,by go_num⟩
   case measure=>simp[intOf];omega
  ·have hkn:k=n:=by omega
   subst hkn
   go_wp2
   go_ret
   exact ⟨rfl,rfl⟩
set_option maxRecDepth 8000 in
theorem markBps (R n m:Nat) (k0:Int) (w:World) (hn:n<=1048576) (k1:0<=k0) (k2:k0<=100000000) (h:Cells8 w R (n*14)):
  Calls Tryz.prog 51 #[.slice (some ⟨R,0,none⟩) n m,.int .i64 k0] w fun e w'=>e=.returned (.int .i64 (k0+14*(n:Int)))/\w.grownBy w' (some R):=by
 have H:=hidOf h
 clear h
 go_enter Tryz.func51,Tryz.ntmps51
 go_wp2
 go_loopw[1,5] (fun t i wr=>∃k:Nat,k<=n/\i=.int .i64 k/\t=.int .i64 (k0+14*(k:Int))/\Hid (Cells8 wr R (n*14))/\Hid (w.grownBy wr (some R))) (fun _ i _=>n-(intOf i).toNat)
 case atStart=>exact ⟨0,Nat.zero_le _,rfl,by simp,H,World.grownBy.refl _ _⟩
 case round=>
  obtain ⟨k,hk,rfl,rfl,hC,hG⟩:=hrel
  by_cases hlt:k<n
  ·obtain ⟨s1,s2,s3⟩:=hC.out
   obtain ⟨v0,e0⟩:=Option.isSome_iff_exists.1 (s1 (k*14) (by omega))
   obtain ⟨v1,e1⟩:=Option.isSome_iff_exists.1 (s1 (k*14+1) (by omega))
   obtain ⟨v2,e2⟩:=Option.isSome_iff_exists.1 (s1 (k*14+2) (by omega))
   obtain ⟨v3,e3⟩:=Option.isSome_iff_exists.1 (s1 (k*14+3) (by omega))
   obtain ⟨v4,e4⟩:=Option.isSome_iff_exists.1 (s1 (k*14+4) (by omega))
   obtain ⟨v5,e5⟩:=Option.isSome_iff_exists.1 (s1 (k*14+5) (by omega))
   obtain ⟨v6,e6⟩:=Option.isSome_iff_exists.1 (s1 (k*14+6) (by omega))
   obtain ⟨v7,e7⟩:=Option.isSome_iff_exists.1 (s1 (k*14+7) (by omega))
   obtain ⟨v8,e8⟩:=Option.isSome_iff_exists.1 (s1 (k*14+8) (by omega))
   obtain ⟨v9,e9⟩:=Option.isSome_iff_exists.1 (s1 (k*14+9) (by omega))
   obtain ⟨v10,e10⟩:=Option.isSome_iff_exists.1 (s1 (k*14+10) (by omega))
   obtain ⟨v11,e11⟩:=Option.isSome_iff_exists.1 (s1 (k*14+11) (by omega))
   obtain ⟨v12,e12⟩:=Option.isSome_iff_exists.1 (s1 (k*14+12) (by omega))
   obtain ⟨v13,e13⟩:=Option.isSome_iff_exists.1 (s1 (k*14+13) (by omega))
   clear s1
   go_wp2
   go_roundw
   case rel=>
    refine ⟨k+1,by omega,by go_num,by go_num,?_,?_⟩
    ·exact ((((((((((((((hC.out.set _ _).set _ _).set _ _).set _ _).set _ _).set _ _).set _ _).set _ _).set _ _).set _ _).set _ _).set _ _).set _ _).set _ _)
    ·exact grown_transAcc (grown_transAcc (grown_transAcc (grown_transAcc (grown_transAcc (grown_transAcc (grown_transAcc (grown_transAcc (grown_transAcc (grown_transAcc (grown_transAcc (grown_transAcc (grown_transAcc (grown_transAcc (hG.out) (grown_set1Acc _ _ _ _)) (grown_set1Acc _ _ _ _)) (grown_set1Acc _ _ _ _)) (grown_set1Acc _ _ _ _)) (grown_set1Acc _ _ _ _)) (grown_set1Acc _ _ _ _)) (grown_set1Acc _ _ _ _)) (grown_set1Acc _ _ _ _)) (grown_set1Acc _ _ _ _)) (grown_set1Acc _ _ _ _)) (grown_set1Acc _ _ _ _)) (grown_set1Acc _ _ _ _)) (grown_set1Acc _ _ _ _)) (grown_set1Acc _ _ _ _)
   case measure=>simp[intOf];omega
  ·have hkn:k=n:=by omega
   subst hkn
   go_wp2
   go_ret
   exact ⟨rfl,hG.out⟩
theorem rows_two {w:World} {B1 B2 e1 e2 s1 s2 n1 n2:Nat} {v1 v2:Value} {x1 x2:List Value} (h1:w.ownsRow B1 e1 s1 v1 n1 x1) (h2:w.ownsRow B2 e2 s2 v2 n2 x2) (he:e1≠e2):v1.ownBlock=none\/v1.ownBlock≠v2.ownBlock:=by
 rcases h1.2 with ⟨hv,_⟩|⟨g,cap,cur,hv,_,hb,_⟩
 ·left;rw[hv];rfl
 ·right
  rcases h2.2 with ⟨hv2,_⟩|⟨g2,cap2,cur2,hv2,_,hb2,_⟩
  ·rw[hv,hv2];simp[Value.ownBlock]
  ·rw[hv,hv2]
   intro e
   have:g=g2:=by simpa [Value.ownBlock] using e
   subst this
   rw[hb] at hb2
   simp at hb2
   exact he hb2.2
end Go.Proofs.YtghkbhggopiajaaGreatDoor
