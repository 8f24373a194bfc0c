/- What is laid of the library's tables and of the errors, for a walk. -/
import Derived.Test.YtjhgchlfpolkcaaGreatDoorRdrx
import Derived.Test.YtjhgchlfpolkcaaGreatDoorHrtx
import Derived.Test.YtjhgchlfpolkcaaGreatDoorRows
import Derived.ProofKit
import Derived.LaidMore
import Derived.OpenShut
import Derived.OpenVars
import Derived.LaidLaws
import Derived.Stop.Joined
import Derived.Stop.LaidErr
import Derived.Lib.LaidTab
import Derived.MakeChecks
namespace Go.Proofs.YtjhgchlfpolkcaaGreatDoor
open Go.Proofs.Tryz renaming prog → Pg
open Go.ChangeShapes Go.WideShapes Go.ChangeAt Go.RowKit
set_option maxRecDepth 8000
theorem uw:ownKnob Pg.godebug=none:=by kernel_rfl
theorem ox:laidOutB Pg=true:=by kernel_rfl
theorem uo:(Pg.globals[1]?).map (·.type)=some 159:=by kernel_rfl
theorem qd:Pg.cellsOf 159=20:=by kernel_rfl
theorem tM:Pg.underlying 159=some (.array 20 124):=by kernel_rfl
theorem uq:Pg.underlying 124=some (.int .u64):=by kernel_rfl
theorem tm:Pg.cellsOf 124=1:=by kernel_rfl
theorem ud : varsRowed Pg ["loop.example/g00362/impl.errText"] = true := by kernel_rfl
theorem qm : "*" ++ "errors.errorString" = "*errors.errorString" := by decide
theorem tV (u : TypeId) (h : Pg.typeName? 3 u = some "*errors.errorString") : u = 188 :=
 typeName_ptr_named (nm := "errors.errorString") (by rw [qm]; kernel_rfl) (by kernel_rfl) (by decide) u (by rw [qm]; exact h)
theorem uk:Pg.cellsOf 190=1:=by kernel_rfl
theorem uj:Pg.cellsOf 9=1:=by kernel_rfl
theorem j0 {W : World} {name : String} {bs : List UInt8} {rest : List (String × DataW Unit)} {g : Nat} (hg : Pg.globalNamed name = some g) (hty : (Pg.globals[g]?).map (·.type) = some 115) (h : laidMet Pg ((name, .iface "*errors.errorString" (.ptr (.agg [.lit (.string bs)]))) :: rest) W) : ∃ t p, W.cell? ⟨g, 0, none⟩ = some (.iface t p) := by
 obtain ⟨ps,⟨g',t',cs,f,p,q,hg',ht',hv,hd,_,e0⟩,hnd,hrows⟩:=h
 obtain rfl:=Option.some.inj (hg.symm.trans hg')
 obtain rfl:=Option.some.inj (hty.symm.trans ht')
 subst e0
 obtain ⟨l⟩:=cs
 have ok:∀u v,l=[.iface u v]->Value.okWide Pg W .any 0 u v:=fun u v e=>by
  subst e
  exact (hrows g 0 (by simp[MemPlace.row])).2 u v (by simpa using World.var?_cell hg' hv 0)
 obtain ⟨a0,s0,rfl,hc0,hs0,hz0,rfl⟩:=errorString_of_trod Tryz.underlying115 tV Tryz.underlying188 Tryz.underlying190 rfl rfl Tryz.underlying9 uk uj hd ok
 exact ⟨_,_,by simpa using World.var?_cell hg' hv 0⟩
def ma : List (String × DataW Unit) := [("math/bits.deBruijn32tab", Rows.laid_math_bits_deBruijn32tab), ("math/bits.deBruijn64tab", Rows.laid_math_bits_deBruijn64tab), ("internal/strconv.uint64pow10", Rows.laid_internal_strconv_uint64pow10), ("strconv.ErrRange", Rows.laid_strconv_ErrRange), ("strconv.ErrSyntax", Rows.laid_strconv_ErrSyntax), ("loop.example/g00362/impl.errText", Rows.laid_loop_example_g00362_impl_errText)]
theorem oV (os:Os) (args:Array Value):laidMetH Pg ma ((World.doorLaid Pg 400 os).forCall (fun _ _=>0) ⟨#[],args,[]⟩).memory:=
 laidMetH_of_parts3 (fuel:=8) (laidMet_of_run' 8 (by kernel_rfl) (by kernel_rfl)) (by kernel_rfl) (by kernel_rfl)
theorem qn : Pg.globalNamed "strconv.ErrRange" = some 6 := by kernel_rfl
theorem kS {W:World} (h:laidMetH Pg ma W):ba W:=by
 rw[MakeChecks.laidMetH_plain _ _ _ (by kernel_rfl)] at h
 refine ⟨j0 (by kernel_rfl) (by kernel_rfl) h.tail.tail.tail.tail.tail,j0 (by kernel_rfl) (by kernel_rfl) h.tail.tail.tail.tail,j0 (by kernel_rfl) (by kernel_rfl) h.tail.tail.tail,Lib.tabIs_of_head ts uo tM uq tm qd h.tail.tail,?_⟩
 obtain ⟨ps,⟨g',t',cs,f,p,q,hg',ht',hv,_⟩,_⟩:=h.tail.tail.tail
 obtain rfl:=Option.some.inj (qn.symm.trans hg')
 unfold World.var? at hv
 rcases Nat.lt_or_ge 6 W.heap.size with h'|h'
 ·exact h'
 ·rw[qn] at hv
  simp only[Option.bind_some] at hv
  rw[Array.getElem?_eq_none h'] at hv
  cases hv
theorem rS {H:Type} {enc:TypeId×Value->H} {W:World} {a0:Option Addr} {len0 cap0:Nat} {d:DataW H} {p:List MemPlace} (h:DataW.Trod enc Pg W 0 (fun _=>true) true 22 (.slice a0 len0 cap0) d p):Code W a0 len0:=by
 obtain ⟨fuel,hf⟩:=h
 rcases open_ints Tryz.underlying22 Tryz.underlying5 (by kernel_rfl) hf with ⟨hcs,_⟩|⟨x,l,c,zs,hcs,_,hl,hm,hz,_,hcell,hwz⟩
 ·simp[Value.cells] at hcs
  obtain ⟨rfl,rfl,rfl⟩:=hcs
  exact ⟨by omega,fun i hi=>absurd hi (Nat.not_lt_zero _)⟩
 ·simp[Value.cells] at hcs
  obtain ⟨rfl,rfl,rfl⟩:=hcs
  unfold maxLen at hm
  refine ⟨by omega,fun i hi=>?_⟩
  have hz':zs.length=cap0:=by simpa using hz
  obtain ⟨b,off,spot⟩:=x
  have hc:=hcell i (by omega)
  have hspot:spot=none:=by simpa [Addr.add] using World.cell?_spot (hcell 0 (by omega))
  subst hspot
  have hadd:(⟨b,off,none⟩:Addr).add i=⟨b,off+i,none⟩:=by
   by_cases h0:i=0
   ·subst h0;simp[Addr.add]
   ·simp[Addr.add,h0]
  have hc0:W.cell? ⟨b,off+i,none⟩=some (.int .u8 (zs.getD i 0)):=by rw[←hadd];exact hc
  have hb:b<W.heap.size:=World.block_lt_of_cell? W _ hc0
  have hmem:zs.getD i 0 ∈ zs:=by
   have e:zs.getD i 0=zs[i]'(by omega):=by simp[List.getD,List.getElem?_eq_getElem (show i<zs.length by omega)]
   rw[e]
   exact List.getElem_mem _
  have hbd:=bounds_u8 (hwz _ hmem)
  exact ⟨b,off,zs.getD i 0,rfl,hb,hc0,hbd.1,hbd.2⟩
end Go.Proofs.YtjhgchlfpolkcaaGreatDoor
