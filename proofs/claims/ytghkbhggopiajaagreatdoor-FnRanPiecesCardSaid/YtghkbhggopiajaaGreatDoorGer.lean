/- What the laid variables give a walk. -/
import Derived.Test.YtghkbhggopiajaaGreatDoorErrsr
import Derived.Test.YtghkbhggopiajaaGreatDoorRows
import Derived.LaidLaws
import Derived.LaidHandle
import Derived.Stop.LaidErr
namespace Go.Proofs.YtghkbhggopiajaaGreatDoor
open Go.Proofs.Tryz renaming prog → Pg
open Go.RowKit
set_option maxRecDepth 8000
theorem vv : (Pg.cutTypes.find? (·.1 == "internal/reflectlite.rtype")).map (·.2) = some 251 := by kernel_rfl
theorem t7:Pg.types.size=309:=by kernel_rfl
theorem ro:((List.range 309).filter fun t=>Pg.rowNamed t [101,114,114,111,114])=[166]:=by kernel_rfl
theorem vw : Pg.globalNamed "errors.errorType" = some 7 := by kernel_rfl
theorem oB:Pg.cellsOf 297=1:=by kernel_rfl
theorem rp : "*" ++ "errors.errorString" = "*errors.errorString" := by decide
theorem jp (u : TypeId) (h : Pg.typeName? 3 u = some "*errors.errorString") : u = 271 :=
 typeName_ptr_named (nm := "errors.errorString") (by rw [rp]; kernel_rfl) (by kernel_rfl) (by decide) u (by rw [rp]; exact h)
theorem oC:Pg.cellsOf 9=1:=by kernel_rfl
theorem qh : Pg.globalNamed "loop.example/g00362/impl.errForm" = some 0 := by kernel_rfl
theorem oD:(Pg.globals[0]?).map (·.type)=some 166:=by kernel_rfl
theorem qi : Pg.globalNamed "loop.example/g00362/impl.errNone" = some 2 := by kernel_rfl
theorem oE:(Pg.globals[2]?).map (·.type)=some 166:=by kernel_rfl
theorem oF : Pg.globalNamed "loop.example/g00362/impl.errThere" = some 3 := by kernel_rfl
theorem mH:(Pg.globals[3]?).map (·.type)=some 166:=by kernel_rfl
theorem mJ : Pg.globalNamed "loop.example/g00362/impl.errFrozen" = some 4 := by kernel_rfl
theorem lx:(Pg.globals[4]?).map (·.type)=some 166:=by kernel_rfl
theorem oG : Pg.globalNamed "loop.example/g00362/impl.errShort" = some 5 := by kernel_rfl
theorem mL:(Pg.globals[5]?).map (·.type)=some 166:=by kernel_rfl
theorem qj : Pg.globalNamed "loop.example/g00362/impl.errFull" = some 1 := by kernel_rfl
theorem oH:(Pg.globals[1]?).map (·.type)=some 166:=by kernel_rfl
theorem ql : Pg.globalNamed "loop.example/g00362/impl.errBusy" = some 6 := by kernel_rfl
theorem oI:(Pg.globals[6]?).map (·.type)=some 166:=by kernel_rfl
set_option maxRecDepth 100000 in
theorem oJ {W:World} (h:laidMetH Pg Rows.fnSweptRow.laid W):∃p,GE W p:=by
 have h' : laidMet Pg [("loop.example/g00362/impl.errForm", Rows.laid_loop_example_g00362_impl_errForm), ("loop.example/g00362/impl.errNone", Rows.laid_loop_example_g00362_impl_errNone), ("loop.example/g00362/impl.errThere", Rows.laid_loop_example_g00362_impl_errThere), ("loop.example/g00362/impl.errFrozen", Rows.laid_loop_example_g00362_impl_errFrozen), ("loop.example/g00362/impl.errShort", Rows.laid_loop_example_g00362_impl_errShort), ("loop.example/g00362/impl.errFull", Rows.laid_loop_example_g00362_impl_errFull), ("loop.example/g00362/impl.errBusy", Rows.laid_loop_example_g00362_impl_errBusy)] W /\ handlesMet Pg [("errors.errorType", Rows.laid_errors_errorType)] W := h
 obtain ⟨hL,hH⟩:=h'
 obtain ⟨name,u,ty,x1,x2,x3,x4,x5⟩:=hH _ (List.mem_singleton.2 rfl)
 have en:name=[101,114,114,111,114]:=(Option.some.inj x1).symm
 subst en
 obtain rfl:=Option.some.inj (vv.symm.trans x2)
 have hm:ty ∈ (List.range 309).filter fun t=>Pg.rowNamed t [101,114,114,111,114]:=List.mem_filter.2 ⟨List.mem_range.2 (by rw[←t7];exact x3),x4⟩
 rw[ro] at hm
 obtain rfl:=List.mem_singleton.1 hm
 have hh:typeHandle Pg 166=.pointer (some ⟨8,166,none⟩):=by kernel_rfl
 rw[hh] at x5
 have hE:W.cell? ⟨7,0,none⟩=some (.iface 251 (.agg #[.pointer (some ⟨8,166,none⟩)])):=by simpa using World.var?_cell vw x5 0
 clear hH x1 x2 x3 x4 x5 hm hh h
 obtain ⟨ps,⟨g0',t0',cs0,f0,p0,q0,hg0',ht0',hv0,hd0,⟨g1',t1',cs1,f1,p1,q1,hg1',ht1',hv1,hd1,⟨g2',t2',cs2,f2,p2,q2,hg2',ht2',hv2,hd2,⟨g3',t3',cs3,f3,p3,q3,hg3',ht3',hv3,hd3,⟨g4',t4',cs4,f4,p4,q4,hg4',ht4',hv4,hd4,⟨g5',t5',cs5,f5,p5,q5,hg5',ht5',hv5,hd5,⟨g6',t6',cs6,f6,p6,q6,hg6',ht6',hv6,hd6,_,e6⟩,e5⟩,e4⟩,e3⟩,e2⟩,e1⟩,e0⟩,hnd,hrows⟩:=hL
 obtain rfl:=Option.some.inj (qh.symm.trans hg0')
 obtain rfl:=Option.some.inj (oD.symm.trans ht0')
 obtain rfl:=Option.some.inj (qi.symm.trans hg1')
 obtain rfl:=Option.some.inj (oE.symm.trans ht1')
 obtain rfl:=Option.some.inj (oF.symm.trans hg2')
 obtain rfl:=Option.some.inj (mH.symm.trans ht2')
 obtain rfl:=Option.some.inj (mJ.symm.trans hg3')
 obtain rfl:=Option.some.inj (lx.symm.trans ht3')
 obtain rfl:=Option.some.inj (oG.symm.trans hg4')
 obtain rfl:=Option.some.inj (mL.symm.trans ht4')
 obtain rfl:=Option.some.inj (qj.symm.trans hg5')
 obtain rfl:=Option.some.inj (oH.symm.trans ht5')
 obtain rfl:=Option.some.inj (ql.symm.trans hg6')
 obtain rfl:=Option.some.inj (oI.symm.trans ht6')
 subst e6
 subst e5
 subst e4
 subst e3
 subst e2
 subst e1
 subst e0
 obtain ⟨l0⟩:=cs0
 obtain ⟨l1⟩:=cs1
 obtain ⟨l2⟩:=cs2
 obtain ⟨l3⟩:=cs3
 obtain ⟨l4⟩:=cs4
 obtain ⟨l5⟩:=cs5
 obtain ⟨l6⟩:=cs6
 have ok0:∀u v,l0=[.iface u v]->Value.okWide Pg W .any 0 u v:=fun u v e=>by
  subst e
  exact (hrows 0 0 (by simp[MemPlace.row])).2 u v (by simpa using World.var?_cell hg0' hv0 0)
 have ok1:∀u v,l1=[.iface u v]->Value.okWide Pg W .any 0 u v:=fun u v e=>by
  subst e
  exact (hrows 2 0 (by simp[MemPlace.row])).2 u v (by simpa using World.var?_cell hg1' hv1 0)
 have ok2:∀u v,l2=[.iface u v]->Value.okWide Pg W .any 0 u v:=fun u v e=>by
  subst e
  exact (hrows 3 0 (by simp[MemPlace.row])).2 u v (by simpa using World.var?_cell hg2' hv2 0)
 have ok3:∀u v,l3=[.iface u v]->Value.okWide Pg W .any 0 u v:=fun u v e=>by
  subst e
  exact (hrows 4 0 (by simp[MemPlace.row])).2 u v (by simpa using World.var?_cell hg3' hv3 0)
 have ok4:∀u v,l4=[.iface u v]->Value.okWide Pg W .any 0 u v:=fun u v e=>by
  subst e
  exact (hrows 5 0 (by simp[MemPlace.row])).2 u v (by simpa using World.var?_cell hg4' hv4 0)
 have ok5:∀u v,l5=[.iface u v]->Value.okWide Pg W .any 0 u v:=fun u v e=>by
  subst e
  exact (hrows 1 0 (by simp[MemPlace.row])).2 u v (by simpa using World.var?_cell hg5' hv5 0)
 have ok6:∀u v,l6=[.iface u v]->Value.okWide Pg W .any 0 u v:=fun u v e=>by
  subst e
  exact (hrows 6 0 (by simp[MemPlace.row])).2 u v (by simpa using World.var?_cell hg6' hv6 0)
 obtain ⟨a0,s0,rfl,hc0,hs0,hz0,rfl⟩:=errorString_of_trod Tryz.underlying166 jp Tryz.underlying271 Tryz.underlying297 rfl rfl Tryz.underlying9 oB oC hd0 ok0
 obtain ⟨a1,s1,rfl,hc1,hs1,hz1,rfl⟩:=errorString_of_trod Tryz.underlying166 jp Tryz.underlying271 Tryz.underlying297 rfl rfl Tryz.underlying9 oB oC hd1 ok1
 obtain ⟨a2,s2,rfl,hc2,hs2,hz2,rfl⟩:=errorString_of_trod Tryz.underlying166 jp Tryz.underlying271 Tryz.underlying297 rfl rfl Tryz.underlying9 oB oC hd2 ok2
 obtain ⟨a3,s3,rfl,hc3,hs3,hz3,rfl⟩:=errorString_of_trod Tryz.underlying166 jp Tryz.underlying271 Tryz.underlying297 rfl rfl Tryz.underlying9 oB oC hd3 ok3
 obtain ⟨a4,s4,rfl,hc4,hs4,hz4,rfl⟩:=errorString_of_trod Tryz.underlying166 jp Tryz.underlying271 Tryz.underlying297 rfl rfl Tryz.underlying9 oB oC hd4 ok4
 obtain ⟨a5,s5,rfl,hc5,hs5,hz5,rfl⟩:=errorString_of_trod Tryz.underlying166 jp Tryz.underlying271 Tryz.underlying297 rfl rfl Tryz.underlying9 oB oC hd5 ok5
 obtain ⟨a6,s6,rfl,hc6,hs6,hz6,rfl⟩:=errorString_of_trod Tryz.underlying166 jp Tryz.underlying271 Tryz.underlying297 rfl rfl Tryz.underlying9 oB oC hd6 ok6
 have b0:=(hrows a0.block a0.off (by simp[MemPlace.row])).1
 have b1:=(hrows a1.block a1.off (by simp[MemPlace.row])).1
 have b2:=(hrows a2.block a2.off (by simp[MemPlace.row])).1
 have b3:=(hrows a3.block a3.off (by simp[MemPlace.row])).1
 have b4:=(hrows a4.block a4.off (by simp[MemPlace.row])).1
 have b5:=(hrows a5.block a5.off (by simp[MemPlace.row])).1
 have b6:=(hrows a6.block a6.off (by simp[MemPlace.row])).1
 have n01:a0≠a1:=by rintro rfl;simp[MemPlace.row] at hnd
 have n02:a0≠a2:=by rintro rfl;simp[MemPlace.row] at hnd
 have n03:a0≠a3:=by rintro rfl;simp[MemPlace.row] at hnd
 have n04:a0≠a4:=by rintro rfl;simp[MemPlace.row] at hnd
 have n05:a0≠a5:=by rintro rfl;simp[MemPlace.row] at hnd
 have n06:a0≠a6:=by rintro rfl;simp[MemPlace.row] at hnd
 have n12:a1≠a2:=by rintro rfl;simp[MemPlace.row] at hnd
 have n13:a1≠a3:=by rintro rfl;simp[MemPlace.row] at hnd
 have n14:a1≠a4:=by rintro rfl;simp[MemPlace.row] at hnd
 have n15:a1≠a5:=by rintro rfl;simp[MemPlace.row] at hnd
 have n16:a1≠a6:=by rintro rfl;simp[MemPlace.row] at hnd
 have n23:a2≠a3:=by rintro rfl;simp[MemPlace.row] at hnd
 have n24:a2≠a4:=by rintro rfl;simp[MemPlace.row] at hnd
 have n25:a2≠a5:=by rintro rfl;simp[MemPlace.row] at hnd
 have n26:a2≠a6:=by rintro rfl;simp[MemPlace.row] at hnd
 have n34:a3≠a4:=by rintro rfl;simp[MemPlace.row] at hnd
 have n35:a3≠a5:=by rintro rfl;simp[MemPlace.row] at hnd
 have n36:a3≠a6:=by rintro rfl;simp[MemPlace.row] at hnd
 have n45:a4≠a5:=by rintro rfl;simp[MemPlace.row] at hnd
 have n46:a4≠a6:=by rintro rfl;simp[MemPlace.row] at hnd
 have n56:a5≠a6:=by rintro rfl;simp[MemPlace.row] at hnd
 have v0:W.cell? ⟨0,0,none⟩=some (.iface 271 (.pointer (some a0))):=by simpa using World.var?_cell hg0' hv0 0
 have v1:W.cell? ⟨2,0,none⟩=some (.iface 271 (.pointer (some a1))):=by simpa using World.var?_cell hg1' hv1 0
 have v2:W.cell? ⟨3,0,none⟩=some (.iface 271 (.pointer (some a2))):=by simpa using World.var?_cell hg2' hv2 0
 have v3:W.cell? ⟨4,0,none⟩=some (.iface 271 (.pointer (some a3))):=by simpa using World.var?_cell hg3' hv3 0
 have v4:W.cell? ⟨5,0,none⟩=some (.iface 271 (.pointer (some a4))):=by simpa using World.var?_cell hg4' hv4 0
 have v5:W.cell? ⟨1,0,none⟩=some (.iface 271 (.pointer (some a5))):=by simpa using World.var?_cell hg5' hv5 0
 have v6:W.cell? ⟨6,0,none⟩=some (.iface 271 (.pointer (some a6))):=by simpa using World.var?_cell hg6' hv6 0
 refine ⟨fun g:Nat=>if g=0 then a0 else if g=1 then a5 else if g=2 then a1 else if g=3 then a2 else if g=4 then a3 else if g=5 then a4 else a6,⟨fun g hg=>?_,fun g hg=>?_,fun g h hg hh hne=>?_,hE⟩⟩
 ·have:g=0\/g=1\/g=2\/g=3\/g=4\/g=5\/g=6:=by omega
  rcases this with e|e|e|e|e|e|e <;>subst e
  ·exact v0
  ·exact v5
  ·exact v1
  ·exact v2
  ·exact v3
  ·exact v4
  ·exact v6
 ·have:g=0\/g=1\/g=2\/g=3\/g=4\/g=5\/g=6:=by omega
  rcases this with e|e|e|e|e|e|e <;>subst e
  ·exact b0
  ·exact b5
  ·exact b1
  ·exact b2
  ·exact b3
  ·exact b4
  ·exact b6
 ·have h1:g=0\/g=1\/g=2\/g=3\/g=4\/g=5\/g=6:=by omega
  have h2:h=0\/h=1\/h=2\/h=3\/h=4\/h=5\/h=6:=by omega
  rcases h1 with e|e|e|e|e|e|e <;>subst e
  ·rcases h2 with e|e|e|e|e|e|e <;>subst e
   ·exact absurd rfl hne
   ·exact n05
   ·exact n01
   ·exact n02
   ·exact n03
   ·exact n04
   ·exact n06
  ·rcases h2 with e|e|e|e|e|e|e <;>subst e
   ·exact n05.symm
   ·exact absurd rfl hne
   ·exact n15.symm
   ·exact n25.symm
   ·exact n35.symm
   ·exact n45.symm
   ·exact n56
  ·rcases h2 with e|e|e|e|e|e|e <;>subst e
   ·exact n01.symm
   ·exact n15
   ·exact absurd rfl hne
   ·exact n12
   ·exact n13
   ·exact n14
   ·exact n16
  ·rcases h2 with e|e|e|e|e|e|e <;>subst e
   ·exact n02.symm
   ·exact n25
   ·exact n12.symm
   ·exact absurd rfl hne
   ·exact n23
   ·exact n24
   ·exact n26
  ·rcases h2 with e|e|e|e|e|e|e <;>subst e
   ·exact n03.symm
   ·exact n35
   ·exact n13.symm
   ·exact n23.symm
   ·exact absurd rfl hne
   ·exact n34
   ·exact n36
  ·rcases h2 with e|e|e|e|e|e|e <;>subst e
   ·exact n04.symm
   ·exact n45
   ·exact n14.symm
   ·exact n24.symm
   ·exact n34.symm
   ·exact absurd rfl hne
   ·exact n46
  ·rcases h2 with e|e|e|e|e|e|e <;>subst e
   ·exact n06.symm
   ·exact n56.symm
   ·exact n16.symm
   ·exact n26.symm
   ·exact n36.symm
   ·exact n46.symm
   ·exact absurd rfl hne
end Go.Proofs.YtghkbhggopiajaaGreatDoor
