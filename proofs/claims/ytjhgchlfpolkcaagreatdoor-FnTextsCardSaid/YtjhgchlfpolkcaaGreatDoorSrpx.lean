/- Texts of ops of a bank, of the specification, at any op. -/
import Derived.Deep.DeepCutAuto
import Derived.Test.YtjhgchlfpolkcaaGreatDoorOq1x
import Derived.Test.YtjhgchlfpolkcaaGreatDoorOq29x
import Derived.Test.YtjhgchlfpolkcaaGreatDoorOq2xx
import Derived.Test.YtjhgchlfpolkcaaGreatDoorOq3x
import Derived.Test.YtjhgchlfpolkcaaGreatDoorOq4x
import Derived.Test.YtjhgchlfpolkcaaGreatDoorOqox
import Derived.Test.YtjhgchlfpolkcaaGreatDoorOqxx
import Derived.Test.YtjhgchlfpolkcaaGreatDoorTcx
import Derived.Test.YtjhgchlfpolkcaaGreatDoorTbx
import Derived.Test.YtjhgchlfpolkcaaGreatDoorTax
import Derived.Test.YtjhgchlfpolkcaaGreatDoorRwhOx
namespace Go.Proofs.YtjhgchlfpolkcaaGreatDoor
section
open Value renaming int → Ii,slice → Sl
open IntKind renaming i64 → Jj
open Nat renaming le_refl → Nf
open Go.RowKit
set_option maxRecDepth 8000
set_option maxHeartbeats 4000000 in
theorem jU (wd:ByteArray) (b c:Nat) (p:Int) (w:World) (h2:wd.toList=[99,97,110,99,101,108])
  (hb:b<w.heap.size) (d0:w.cell? ⟨b,0,none⟩=some (Ii Jj p)):
  Calls Tryz.prog 52 #[.string wd,Sl (some ⟨b,0,none⟩) 1 c] w fun e w'=>dk w 21 ⟨0,0,0,0,0⟩ ⟨0,0,0,0,0,0,0⟩ p e w':=by
 obtain ⟨W0,hW0,X0,HB⟩:∃W0,W0=(w.alloc (.cells (bZ 0).toArray 37)).alloc (.cells (bZ 19).toArray 37)/\Hid (fW W0 w.heap.size)/\Hid (Below w.heap.size w W0):=⟨_,rfl,fW.new w,((Below.refl _ _).alloc (Nf _) _).alloc (by simp) _⟩
 have HW0:Hid (W0=_):=hW0
 clear hW0
 go_enter Tryz.func52,Tryz.ntmps52
 go_wp2_with fail
 rw[←HW0.out]
 refine (dx wd _).mono ?_
 rintro e w1 ⟨k,hK,hk,rfl,B1⟩
 have X1:Hid (fW w1 w.heap.size):=X0.out.kept B1
 have BB:Hid (Below w.heap.size w w1):=HB.out.trans (B1.mono HB.out.size)
 obtain ⟨h,hh⟩:∃h,w.heap.size=h:=⟨_,rfl⟩
 have HH:Hid (w.heap.size=h):=hh
 rw[hh] at hb X1 BB ⊢
 clear hK B1 X0 HB HW0 hh
 have x1:=X1.out.1.1 1 _ rfl
 have fz:=X1.out.1.2.1
 go_upto_region 4 with fail
 obtain ⟨W2,hW2,R2⟩:∃W2,W2=w1.setCell ⟨h+1,1,none⟩ (Ii Jj k)/\Hid (ah W2 h (bZ 0)/\Below h w W2/\∀p:Addr,p.block<h->W2.cell? p=w1.cell? p):=
  ⟨_,rfl,X1.out.2.far (by omega) _ _,BB.out.setCell (p:=⟨h+1,1,none⟩) (by show h<=h+1;omega) _,fun p hp=>World.cell?_setCell_other _ _ _ _ (by intro e;have:=congrArg Addr.block e;simp at this;omega)⟩
 rw[←hW2]
 clear hW2 x1 fz
 have fz:=R2.out.1.2.1
 have e0:W2.cell? ⟨b,0,none⟩=some (Ii Jj p):=(R2.out.2.2 ⟨b,0,none⟩ hb).trans ((BB.out.cell (p:=⟨b,0,none⟩) hb).trans d0)
 clear d0
 have r0:=R2.out.1.1 0 _ rfl
 have r1:=R2.out.1.1 1 _ rfl
 have r2:=R2.out.1.1 2 _ rfl
 have r3:=R2.out.1.1 3 _ rfl
 have r4:=R2.out.1.1 4 _ rfl
 have r5:=R2.out.1.1 5 _ rfl
 have r6:=R2.out.1.1 6 _ rfl
 have r7:=R2.out.1.1 7 _ rfl
 have r8:=R2.out.1.1 8 _ rfl
 have r9:=R2.out.1.1 9 _ rfl
 have r10:=R2.out.1.1 10 _ rfl
 have r11:=R2.out.1.1 11 _ rfl
 have r12:=R2.out.1.1 12 _ rfl
 have r13:=R2.out.1.1 13 _ rfl
 have FI:Hid (∀W,Below h w W->dk w 21 ⟨0,0,0,0,0⟩ ⟨0,0,0,0,0,0,0⟩ p (.returned (.agg [Ii Jj 21,Ii Jj 0,Ii Jj 0,Ii Jj 0,Ii Jj 0,Ii Jj 0,Ii Jj 0,Ii Jj 0,Ii Jj 0,Ii Jj 0,Ii Jj 0,Ii Jj 0,Ii Jj 0,Ii Jj p].toArray)) W):=fun W hb=>⟨rfl,HH.out ▸ hb⟩
 clear BB X1
 all_goals go_wp2
 all_goals refine bodyPost_ret (v:=.agg #[Ii Jj 21,Ii Jj 0,Ii Jj 0,Ii Jj 0,Ii Jj 0,Ii Jj 0,Ii Jj 0,Ii Jj 0,Ii Jj 0,Ii Jj 0,Ii Jj 0,Ii Jj 0,Ii Jj 0,Ii Jj p]) (by simp[results,Tryz.results52,go_sem,r0,r1,r2,r3,r4,r5,r6,r7,r8,r9,r10,r11,r12,r13]) rfl ?_
 all_goals exact FI.out _ ((((((((((((((R2.out.2.1.setCell (p:=⟨h,0,none⟩) (Nf _) _).setCell (p:=⟨h,1,none⟩) (Nf _) _).setCell (p:=⟨h,2,none⟩) (Nf _) _).setCell (p:=⟨h,3,none⟩) (Nf _) _).setCell (p:=⟨h,4,none⟩) (Nf _) _).setCell (p:=⟨h,5,none⟩) (Nf _) _).setCell (p:=⟨h,6,none⟩) (Nf _) _).setCell (p:=⟨h,7,none⟩) (Nf _) _).setCell (p:=⟨h,8,none⟩) (Nf _) _).setCell (p:=⟨h,9,none⟩) (Nf _) _).setCell (p:=⟨h,10,none⟩) (Nf _) _).setCell (p:=⟨h,11,none⟩) (Nf _) _).setCell (p:=⟨h,12,none⟩) (Nf _) _).setCell (p:=⟨h,13,none⟩) (Nf _) _)
end
section
open Value renaming int → Ii,slice → Sl
open IntKind renaming i64 → Jj
open Nat renaming le_refl → Nf
open Go.RowKit
set_option maxRecDepth 8000
set_option maxHeartbeats 4000000 in
theorem nT (wd : ByteArray) (a : Option Addr) (c : Nat) (w : World) (h1 : wd.toList = [100, 97, 121])
     :
    Calls Tryz.prog 52 #[.string wd,Sl a 0 c] w fun e w'=>dk w 22 ⟨0,0,0,0,0⟩ ⟨0,0,0,0,0,0,0⟩ 0 e w':=by
  obtain ⟨W0,hW0,X0,HB⟩:∃W0,W0=(w.alloc (.cells (bZ 0).toArray 37)).alloc (.cells (bZ 19).toArray 37)/\Hid (fW W0 w.heap.size)/\Hid (Below w.heap.size w W0):=⟨_,rfl,fW.new w,((Below.refl _ _).alloc (Nf _) _).alloc (by simp) _⟩
  have HW0:Hid (W0=_):=hW0
  clear hW0
  go_enter Tryz.func52,Tryz.ntmps52
  go_wp2_with fail
  rw[←HW0.out]
  refine (dx wd _).mono ?_
  rintro e w1 ⟨k,hK,hk,rfl,B1⟩
  have X1:Hid (fW w1 w.heap.size):=X0.out.kept B1
  have BB:Hid (Below w.heap.size w w1):=HB.out.trans (B1.mono HB.out.size)
  obtain ⟨h,hh⟩:∃h,w.heap.size=h:=⟨_,rfl⟩
  have HH:Hid (w.heap.size=h):=hh
  rw[hh] at X1 BB ⊢
  clear hK B1 X0 HB HW0 hh
  have x1:=X1.out.1.1 1 _ rfl
  have fz:=X1.out.1.2.1
  go_upto_region 4 with fail
  obtain ⟨W2,hW2,R2⟩:∃W2,W2=w1.setCell ⟨h+1,1,none⟩ (Ii Jj k)/\Hid (ah W2 h (bZ 0)/\Below h w W2/\∀p:Addr,p.block<h->W2.cell? p=w1.cell? p):=
    ⟨_,rfl,X1.out.2.far (by omega) _ _,BB.out.setCell (p:=⟨h+1,1,none⟩) (by show h<=h+1;omega) _,fun p hp=>World.cell?_setCell_other _ _ _ _ (by intro e;have:=congrArg Addr.block e;simp at this;omega)⟩
  rw[←hW2]
  clear hW2 x1 fz
  have fz:=R2.out.1.2.1
  have r0:=R2.out.1.1 0 _ rfl
  have r1:=R2.out.1.1 1 _ rfl
  have r2:=R2.out.1.1 2 _ rfl
  have r3:=R2.out.1.1 3 _ rfl
  have r4:=R2.out.1.1 4 _ rfl
  have r5:=R2.out.1.1 5 _ rfl
  have r6:=R2.out.1.1 6 _ rfl
  have r7:=R2.out.1.1 7 _ rfl
  have r8:=R2.out.1.1 8 _ rfl
  have r9:=R2.out.1.1 9 _ rfl
  have r10:=R2.out.1.1 10 _ rfl
  have r11:=R2.out.1.1 11 _ rfl
  have r12:=R2.out.1.1 12 _ rfl
  have r13:=R2.out.1.1 13 _ rfl
  have FI:Hid (∀W,Below h w W->dk w 22 ⟨0,0,0,0,0⟩ ⟨0,0,0,0,0,0,0⟩ 0 (.returned (.agg [Ii Jj 22,Ii Jj 0,Ii Jj 0,Ii Jj 0,Ii Jj 0,Ii Jj 0,Ii Jj 0,Ii Jj 0,Ii Jj 0,Ii Jj 0,Ii Jj 0,Ii Jj 0,Ii Jj 0,Ii Jj 0].toArray)) W):=fun W hb=>⟨rfl,HH.out ▸ hb⟩
  clear BB X1
  all_goals go_wp2
  all_goals refine bodyPost_ret (v:=.agg #[Ii Jj 22,Ii Jj 0,Ii Jj 0,Ii Jj 0,Ii Jj 0,Ii Jj 0,Ii Jj 0,Ii Jj 0,Ii Jj 0,Ii Jj 0,Ii Jj 0,Ii Jj 0,Ii Jj 0,Ii Jj 0]) (by simp[results,Tryz.results52,go_sem,r0,r1,r2,r3,r4,r5,r6,r7,r8,r9,r10,r11,r12,r13]) rfl ?_
  all_goals exact FI.out _ ((((((((((((((R2.out.2.1.setCell (p:=⟨h,0,none⟩) (Nf _) _).setCell (p:=⟨h,1,none⟩) (Nf _) _).setCell (p:=⟨h,2,none⟩) (Nf _) _).setCell (p:=⟨h,3,none⟩) (Nf _) _).setCell (p:=⟨h,4,none⟩) (Nf _) _).setCell (p:=⟨h,5,none⟩) (Nf _) _).setCell (p:=⟨h,6,none⟩) (Nf _) _).setCell (p:=⟨h,7,none⟩) (Nf _) _).setCell (p:=⟨h,8,none⟩) (Nf _) _).setCell (p:=⟨h,9,none⟩) (Nf _) _).setCell (p:=⟨h,10,none⟩) (Nf _) _).setCell (p:=⟨h,11,none⟩) (Nf _) _).setCell (p:=⟨h,12,none⟩) (Nf _) _).setCell (p:=⟨h,13,none⟩) (Nf _) _)
end
section
open Go.RowKit
set_option maxRecDepth 8000
abbrev X0:bB:=⟨0,0,0,0,0⟩
abbrev O0:am:=⟨0,0,0,0,0,0,0⟩
def tb (wd:ByteArray) (ns:List Int) (K:Int) (x:bB) (o:am) (n:Int):Prop:=
 (wd.toList=[100,97,121]/\ns=[]/\K=22/\x=X0/\o=O0/\n=0)\/
 (wd.toList=[99,97,110,99,101,108]/\ns=[n]/\K=21/\x=X0/\o=O0)\/
 (wd.toList=[111,114,100,101,114]/\ns=[o.id,o.src,o.dst,o.amount,o.first,o.every,o.times]/\K=20/\x=X0/\n=0)\/
 (¬(wd.toList=[100,97,121]/\ns.length=0)/\¬(wd.toList=[99,97,110,99,101,108]/\ns.length=1)/\¬(wd.toList=[111,114,100,101,114]/\ns.length=7)/\∃k:Nat,aQ wd k/\K=19/\x=tF k ns/\o=O0/\n=0)
def gy (w:World) (wd:ByteArray) (ns:List Int) (e:Ending) (w':World):Prop:=∃K x o n,tb wd ns K x o n/\dk w K x o n e w'
theorem gy.rest {w:World} {wd:ByteArray} {ns:List Int} {x:Nat->bB} (h1:¬(wd.toList=[100,97,121]/\ns.length=0)) (h2:¬(wd.toList=[99,97,110,99,101,108]/\ns.length=1)) (h3:¬(wd.toList=[111,114,100,101,114]/\ns.length=7)) (hx:∀k:Nat,aQ wd k->x k=tF k ns) {e:Ending} {w':World} (h:∃k:Nat,aQ wd k/\dk w 19 (x k) O0 0 e w'):gy w wd ns e w':=by
 obtain ⟨k,hk,ho⟩:=h
 exact ⟨19,x k,O0,0,Or.inr (Or.inr (Or.inr ⟨h1,h2,h3,k,hk,rfl,hx k hk,rfl,rfl⟩)),ho⟩
theorem kz (wd : ByteArray) (a : Option Addr) (c : Nat) (ns : List Int) (w : World) (hI : ns = [] \/ ∃ b, a = some ⟨b, 0, none⟩ /\ b < w.heap.size /\ ∀ i (hi : i < ns.length), w.cell? ⟨b, i, none⟩ = some (.int .i64 ns[i])) :
    Calls Tryz.prog 52 #[.string wd,.slice a ns.length c] w fun e w'=>gy w wd ns e w':=by
  by_cases hx:ns.length=0\/5<=ns.length
  · by_cases h1:wd.toList=[100,97,121]/\ns.length=0
    · obtain rfl:=List.length_eq_zero_iff.1 h1.2
      exact (nT wd a c w h1.1).mono fun e w' h=>⟨22,X0,O0,0,Or.inl ⟨h1.1,rfl,rfl,rfl,rfl,rfl⟩,h⟩
    by_cases h3:wd.toList=[111,114,100,101,114]/\ns.length=7
    · obtain ⟨p0,p1,p2,p3,p4,p5,p6,rfl⟩:=u0 h3.2
      rcases hI with e|⟨b,rfl,hb,hc⟩
      · cases e
      · exact (lz wd b c p0 p1 p2 p3 p4 p5 p6 w h3.1 hb (hc 0 (by simp)) (hc 1 (by simp)) (hc 2 (by simp)) (hc 3 (by simp)) (hc 4 (by simp)) (hc 5 (by simp)) (hc 6 (by simp))).mono fun e w' h=>⟨20,X0,⟨p0,p1,p2,p3,p4,p5,p6⟩,0,Or.inr (Or.inr (Or.inl ⟨h3.1,rfl,rfl,rfl,rfl⟩)),h⟩
    · refine (ry wd a ns.length c w hx (fun e h=>h1 ⟨e,h⟩) (fun e h=>h3 ⟨e,h⟩)).mono fun e w' h=>gy.rest (x:=fun k=>⟨k,0,0,0,0⟩) h1 (fun e=>by omega) h3 (fun k _=>?_) h
      match ns,hx with
      | [],_=>rfl
      | [_],h=>simp at h
      | [_,_],h=>simp at h
      | [_,_,_],h=>simp at h
      | [_,_,_,_],h=>simp at h
      | _::_::_::_::_::_,_=>rfl
  · obtain ⟨b, rfl, hb, hc⟩ : ∃ b, a = some ⟨b, 0, none⟩ /\ b < w.heap.size /\ ∀ i (hi : i < ns.length), w.cell? ⟨b, i, none⟩ = some (.int .i64 ns[i]) := by
      rcases hI with e|h
      · rw[e] at hx;simp at hx
      · exact h
    have hl:ns.length=1\/ns.length=2\/ns.length=3\/ns.length=4:=by omega
    rcases hl with hl|hl|hl|hl
    · obtain ⟨p,rfl⟩:=qG hl
      by_cases h2:wd.toList=[99,97,110,99,101,108]
      · exact (jU wd b c p w h2 hb (hc 0 (by simp))).mono fun e w' h=>⟨21,X0,O0,p,Or.inr (Or.inl ⟨h2,rfl,rfl,rfl,rfl⟩),h⟩
      · exact (rt wd b c p w h2 hb (hc 0 (by simp))).mono fun e w' h=>gy.rest (x:=fun k=>⟨k,p,0,0,0⟩) (by simp) (fun e=>h2 e.1) (by simp) (fun k _=>rfl) h
    · obtain ⟨p,q,rfl⟩:=pk hl
      by_cases h9:aQ wd 9
      · exact (pD wd b c p q w h9 hb (hc 0 (by simp)) (hc 1 (by simp))).mono fun e w' h => gy.rest (x := fun k => ⟨k, p, q, 0, 0⟩) (by simp) (by simp) (by simp) (fun k hk => by
          obtain rfl:=bS hk h9
          rfl) h
      · exact (pE wd b c p q w h9 hb (hc 0 (by simp)) (hc 1 (by simp))).mono fun e w' h => gy.rest (x := fun k => ⟨k, p, 0, q, 0⟩) (by simp) (by simp) (by simp) (fun k hk => by
          have : ¬ (k : Int) = 9 := fun e => h9 (by have : k = 9 := by omega
                                                    exact this ▸ hk)
          simp[tF,this]) h
    · obtain ⟨p,q,r,rfl⟩:=tY hl
      exact (ru wd b c p q r w hb (hc 0 (by simp)) (hc 1 (by simp)) (hc 2 (by simp))).mono fun e w' h=>gy.rest (x:=fun k=>⟨k,p,q,r,0⟩) (by simp) (by simp) (by simp) (fun k _=>rfl) h
    · obtain ⟨p,q,r,s,rfl⟩:=tZ hl
      exact (rx wd b c p q r s w hb (hc 0 (by simp)) (hc 1 (by simp)) (hc 2 (by simp)) (hc 3 (by simp))).mono fun e w' h=>gy.rest (x:=fun k=>⟨k,p,q,r,s⟩) (by simp) (by simp) (by simp) (fun k _=>rfl) h
end
section
open Go.RowKit
set_option maxRecDepth 8000
theorem eE {K n:Int} {x:bB} {o:am} (h:aA K x o n):∀z ∈ (bm K x o n).2,-1000000000000<=z/\z<=1000000000000:=by
 rcases h with ⟨rfl,h1,h2,h3⟩|⟨rfl,h1,h2,h3⟩|⟨rfl,h1,h2,h3⟩|⟨rfl,h1,h2,h3⟩
 ·obtain ⟨k,i,t,m,r⟩:=x
  have a1:=h1.1
  have a2:=h1.2
  simp only at a1 a2
  have h4:k=1\/k=2\/k=3\/k=4\/k=5\/k=6\/k=7\/k=8\/k=9\/k=10:=by omega
  rcases h4 with rfl|rfl|rfl|rfl|rfl|rfl|rfl|rfl|rfl|rfl <;>(intro z hz;simp[bm] at hz;omega)
 ·unfold aE at h2
  intro z hz
  simp[bm] at hz
  omega
 ·intro z hz
  simp[bm] at hz
  omega
 ·intro z hz
  simp[bm] at hz
open Classical in
noncomputable def dI (K:Int) (x:bB) (o:am) (n:Int):ByteArray:=if aA K x o n then be (bm K x o n).1 (bm K x o n).2 else ⟨#[]⟩
theorem ln (K n:Int) (x:bB) (o:am) (w:World):Calls Tryz.prog 14 #[.agg (bl K x o n).toArray] w fun e w'=>cF w (dI K x o n) e w':=by
 by_cases h:aA K x o n
 rotate_left
 ·unfold dI
  rw[if_neg h]
  exact rI K n x o w h
 have hs:∀z ∈ (bm K x o n).2,e8 z:=fun z hz=>⟨by have:=eE h z hz;omega,by have:=eE h z hz;omega⟩
 unfold dI
 rw[if_pos h]
 have h':=h
 rcases h with ⟨rfl,h1,h2,h3⟩|⟨rfl,h1,h2,h3⟩|⟨rfl,h1,h2,h3⟩|⟨rfl,h1,h2,h3⟩
 ·obtain ⟨k,i,t,m,r⟩:=x
  have h5:=h1.2
  simp only at h5
  have h4:k=1\/k=2\/k=3\/k=4\/k=5\/k=6\/k=7\/k=8\/k=9\/k=10:=by omega
  rcases h4 with rfl|rfl|rfl|rfl|rfl|rfl|rfl|rfl|rfl|rfl
  ·exact sF i t m r n o w h' hs
  ·exact sG i t m r n o w h' hs
  ·exact sH i t m r n o w h' hs
  ·exact sI i t m r n o w h' hs
  ·exact sJ i t m r n o w h' hs
  ·exact sK i t m r n o w h' hs
  ·exact sL i t m r n o w h' hs
  ·exact sM i t m r n o w h' hs
  ·exact sN i t m r n o w h' hs
  ·exact rE i t m r n o w h' hs
 ·exact rF x n o w h' hs
 ·exact rG x n o w h' hs
 ·exact rH x n o w h' hs
theorem nG:∀i,i<13->∀b ∈ (cB i).data.toList,b≠32/\b≠10:=by decide
theorem sb:∀i,i<13->(cB i).data.toList≠[]:=by decide
theorem ju {K n:Int} {x:bB} {o:am} (h:aA K x o n):∀z ∈ (bm K x o n).2,dj (Lib.itoa z) z:=fun z hz=>⟨rfl,by have:=eE h z hz;omega,by have:=eE h z hz;omega⟩
theorem eH {K n:Int} {x:bB} {o:am} (h:aA K x o n):(∀b ∈ (bm K x o n).1.data.toList,b≠32/\b≠10)/\(bm K x o n).1.data.toList≠[]:=by
 obtain ⟨i,hi,e,_⟩:=dg h
 rw[e]
 exact ⟨nG i hi,sb i hi⟩
theorem er {s:ByteArray} {K n:Int} {x:bB} {o:am}:aY s.data.toList K x o n []↔(aA K x o n/\dI K x o n=s):=by
 constructor
 ·rintro ⟨h1,h2,h3⟩
  refine ⟨h1,ca ?_⟩
  unfold dI
  rw[if_pos h1,ef,cV]
  have hr:=dW _ _ _ _ h3
  have:=kJ s.data.toList
  rw[h2,hr.1,List.append_nil] at this
  exact this
 ·rintro ⟨h1,h2⟩
  have e:s.data.toList=(bm K x o n).1.data.toList++dS (bm K x o n).2:=by
   rw[←h2]
   unfold dI
   rw[if_pos h1,ef,cV]
  have hw:=jG (bm K x o n).1.data.toList (dS (bm K x o n).2) (eH h1).1 (by have:=kd (bm K x o n).2 (t:=[]) trivial;simpa using this)
  rw[←e] at hw
  refine ⟨h1,hw.1,?_⟩
  rw[hw.2]
  have:=fI (bm K x o n).2 [] (ju h1) trivial
  simpa using this
theorem rY (n:Int):Lib.itoa n≠[]:=by
 by_cases hp:0<=n
 ·obtain ⟨m,rfl⟩:=Int.eq_ofNat_of_zero_le hp
  rw[eQ]
  exact iY m
 ·obtain ⟨m,hm⟩:=Int.eq_ofNat_of_zero_le (show 0<= -n by omega)
  obtain rfl:n= -(m:Int):=by omega
  rw[eR m (by omega)]
  simp
theorem rZ:∀{ns:List Int},ns≠[]->dr ns≠[]
 | [],h=>absurd rfl h
 | [n],_=>rY n
 | n::m::r,_=>by simp[dr]
theorem m7:∀(ns:List Int),ns.length<=(dr ns).length+1
 | []=>by simp
 | [n]=>by simp
 | n::m::r=>by
  have:=m7 (m::r)
  simp only[dr,List.length_append,List.length_cons] at this ⊢
  omega
theorem kt {K n:Int} {x:bB} {o:am} (h:aA K x o n):∃y b,bF 32 (dI K x o n).data.toList=((bm K x o n).1.data.toList,y,b)/\bR y=some (bm K x o n).2:=by
 unfold dI
 rw[if_pos h,ef]
 have hc:=(eH h).1
 by_cases h0:(bm K x o n).2=[]
 ·rw[h0]
  exact ⟨[],false,mw (fun b hb=>(hc b hb).1),by simp[bR]⟩
 ·refine ⟨_,true,oJ (fun b hb=>(hc b hb).1) h0,?_⟩
  have hj:=rZ h0
  unfold bR
  rw[if_neg hj]
  refine gm _ _ h0 (ju h) ?_
  exact m7 _
theorem dM (k:Nat) (h:k<cp.length) (h1:1<=k):aQ cp[k] k:=Or.inl ⟨h,h1,rfl⟩
theorem cm (l:List UInt8):(⟨l.toArray⟩:ByteArray).toList=l:=by rw[Lib.toList_data]
theorem nM {K n K' n':Int} {x x':bB} {o o':am} {wd:ByteArray} (h:aA K x o n) (hw:wd=(bm K x o n).1) (hi:tb wd (bm K x o n).2 K' x' o' n'):K'=K/\x'=x/\o'=o/\n'=n:=by
 rcases h with ⟨rfl,h1,h2,h3⟩|⟨rfl,h1,h2,h3⟩|⟨rfl,h1,h2,h3⟩|⟨rfl,h1,h2,h3⟩
 ·obtain ⟨k,i,t,m,r⟩:=x
  obtain ⟨a1,a2,a3,a4,a5,a6,a7⟩:=o
  unfold db at h2
  simp only at h2
  obtain ⟨rfl,rfl,rfl,rfl,rfl,rfl,rfl⟩:=h2
  subst h3
  have h5:=h1.2
  simp only at h5
  have h4:k=1\/k=2\/k=3\/k=4\/k=5\/k=6\/k=7\/k=8\/k=9\/k=10:=by omega
  rcases h4 with rfl|rfl|rfl|rfl|rfl|rfl|rfl|rfl|rfl|rfl
  ·have hl:wd.toList=[111,112,101,110]:=by rw[hw];exact cm [111,112,101,110]
   have hk:aQ wd 1:=by rw[hw];exact dM 1 (by decide) (by decide)
   rcases hi with ⟨e,_⟩|⟨e,_⟩|⟨e,_⟩|⟨_,_,_,q,hq,rfl,rfl,rfl,rfl⟩
   ·rw[hl] at e;exact absurd e (by decide)
   ·rw[hl] at e;exact absurd e (by decide)
   ·rw[hl] at e;exact absurd e (by decide)
   ·obtain rfl:=bS hq hk
    exact ⟨rfl,rfl,rfl,rfl⟩
  ·obtain ⟨rfl,rfl,rfl⟩:t=0/\m=0/\r=0:=by omega
   have hl:wd.toList=[102,114,101,101,122,101]:=by rw[hw];exact cm [102,114,101,101,122,101]
   have hk:aQ wd 2:=by rw[hw];exact dM 2 (by decide) (by decide)
   rcases hi with ⟨e,_⟩|⟨e,_⟩|⟨e,_⟩|⟨_,_,_,q,hq,rfl,rfl,rfl,rfl⟩
   ·rw[hl] at e;exact absurd e (by decide)
   ·rw[hl] at e;exact absurd e (by decide)
   ·rw[hl] at e;exact absurd e (by decide)
   ·obtain rfl:=bS hq hk
    exact ⟨rfl,rfl,rfl,rfl⟩
  ·obtain ⟨rfl,rfl,rfl⟩:t=0/\m=0/\r=0:=by omega
   have hl:wd.toList=[116,104,97,119]:=by rw[hw];exact cm [116,104,97,119]
   have hk:aQ wd 3:=by rw[hw];exact dM 3 (by decide) (by decide)
   rcases hi with ⟨e,_⟩|⟨e,_⟩|⟨e,_⟩|⟨_,_,_,q,hq,rfl,rfl,rfl,rfl⟩
   ·rw[hl] at e;exact absurd e (by decide)
   ·rw[hl] at e;exact absurd e (by decide)
   ·rw[hl] at e;exact absurd e (by decide)
   ·obtain rfl:=bS hq hk
    exact ⟨rfl,rfl,rfl,rfl⟩
  ·obtain ⟨rfl,rfl,rfl⟩:t=0/\m=0/\r=0:=by omega
   have hl:wd.toList=[99,108,111,115,101]:=by rw[hw];exact cm [99,108,111,115,101]
   have hk:aQ wd 4:=by rw[hw];exact dM 4 (by decide) (by decide)
   rcases hi with ⟨e,_⟩|⟨e,_⟩|⟨e,_⟩|⟨_,_,_,q,hq,rfl,rfl,rfl,rfl⟩
   ·rw[hl] at e;exact absurd e (by decide)
   ·rw[hl] at e;exact absurd e (by decide)
   ·rw[hl] at e;exact absurd e (by decide)
   ·obtain rfl:=bS hq hk
    exact ⟨rfl,rfl,rfl,rfl⟩
  ·obtain ⟨rfl,rfl⟩:t=0/\r=0:=by omega
   have hl:wd.toList=[112,117,116]:=by rw[hw];exact cm [112,117,116]
   have hk:aQ wd 5:=by rw[hw];exact dM 5 (by decide) (by decide)
   rcases hi with ⟨e,_⟩|⟨e,_⟩|⟨e,_⟩|⟨_,_,_,q,hq,rfl,rfl,rfl,rfl⟩
   ·rw[hl] at e;exact absurd e (by decide)
   ·rw[hl] at e;exact absurd e (by decide)
   ·rw[hl] at e;exact absurd e (by decide)
   ·obtain rfl:=bS hq hk
    exact ⟨rfl,rfl,rfl,rfl⟩
  ·obtain ⟨rfl,rfl⟩:t=0/\r=0:=by omega
   have hl:wd.toList=[116,97,107,101]:=by rw[hw];exact cm [116,97,107,101]
   have hk:aQ wd 6:=by rw[hw];exact dM 6 (by decide) (by decide)
   rcases hi with ⟨e,_⟩|⟨e,_⟩|⟨e,_⟩|⟨_,_,_,q,hq,rfl,rfl,rfl,rfl⟩
   ·rw[hl] at e;exact absurd e (by decide)
   ·rw[hl] at e;exact absurd e (by decide)
   ·rw[hl] at e;exact absurd e (by decide)
   ·obtain rfl:=bS hq hk
    exact ⟨rfl,rfl,rfl,rfl⟩
  ·obtain rfl:r=0:=by omega
   have hl:wd.toList=[112,97,121]:=by rw[hw];exact cm [112,97,121]
   have hk:aQ wd 7:=by rw[hw];exact dM 7 (by decide) (by decide)
   rcases hi with ⟨e,_⟩|⟨e,_⟩|⟨e,_⟩|⟨_,_,_,q,hq,rfl,rfl,rfl,rfl⟩
   ·rw[hl] at e;exact absurd e (by decide)
   ·rw[hl] at e;exact absurd e (by decide)
   ·rw[hl] at e;exact absurd e (by decide)
   ·obtain rfl:=bS hq hk
    exact ⟨rfl,rfl,rfl,rfl⟩
  ·obtain ⟨rfl,rfl⟩:t=0/\r=0:=by omega
   have hl:wd.toList=[108,105,109,105,116]:=by rw[hw];exact cm [108,105,109,105,116]
   have hk:aQ wd 8:=by rw[hw];exact dM 8 (by decide) (by decide)
   rcases hi with ⟨e,_⟩|⟨e,_⟩|⟨e,_⟩|⟨_,_,_,q,hq,rfl,rfl,rfl,rfl⟩
   ·rw[hl] at e;exact absurd e (by decide)
   ·rw[hl] at e;exact absurd e (by decide)
   ·rw[hl] at e;exact absurd e (by decide)
   ·obtain rfl:=bS hq hk
    exact ⟨rfl,rfl,rfl,rfl⟩
  ·obtain ⟨rfl,rfl⟩:m=0/\r=0:=by omega
   have hl:wd.toList=[104,97,110,103]:=by rw[hw];exact cm [104,97,110,103]
   have hk:aQ wd 9:=by rw[hw];exact dM 9 (by decide) (by decide)
   rcases hi with ⟨e,_⟩|⟨e,_⟩|⟨e,_⟩|⟨_,_,_,q,hq,rfl,rfl,rfl,rfl⟩
   ·rw[hl] at e;exact absurd e (by decide)
   ·rw[hl] at e;exact absurd e (by decide)
   ·rw[hl] at e;exact absurd e (by decide)
   ·obtain rfl:=bS hq hk
    exact ⟨rfl,rfl,rfl,rfl⟩
  ·obtain ⟨rfl,rfl⟩:t=0/\r=0:=by omega
   have hl:wd.toList=[116,97,114,103,101,116]:=by rw[hw];exact cm [116,97,114,103,101,116]
   have hk:aQ wd 10:=by rw[hw];exact dM 10 (by decide) (by decide)
   rcases hi with ⟨e,_⟩|⟨e,_⟩|⟨e,_⟩|⟨_,_,_,q,hq,rfl,rfl,rfl,rfl⟩
   ·rw[hl] at e;exact absurd e (by decide)
   ·rw[hl] at e;exact absurd e (by decide)
   ·rw[hl] at e;exact absurd e (by decide)
   ·obtain rfl:=bS hq hk
    exact ⟨rfl,rfl,rfl,rfl⟩
 ·obtain ⟨k,i,t,m,r⟩:=x
  unfold dc at h1
  simp only at h1
  obtain ⟨rfl,rfl,rfl,rfl,rfl⟩:=h1
  subst h3
  have hl:wd.toList=[111,114,100,101,114]:=by rw[hw];exact cm [111,114,100,101,114]
  rcases hi with ⟨e,_⟩|⟨e,_⟩|⟨_,e,rfl,rfl,rfl⟩|⟨_,_,e,_⟩
  ·rw[hl] at e;exact absurd e (by decide)
  ·rw[hl] at e;exact absurd e (by decide)
  ·obtain ⟨b1,b2,b3,b4,b5,b6,b7⟩:=o'
   obtain ⟨a1,a2,a3,a4,a5,a6,a7⟩:=o
   simp[bm] at e
   simp[e]
  ·exact absurd ⟨hl,rfl⟩ e
 ·obtain ⟨k,i,t,m,r⟩:=x
  obtain ⟨a1,a2,a3,a4,a5,a6,a7⟩:=o
  unfold dc at h1
  unfold db at h2
  simp only at h1 h2
  obtain ⟨rfl,rfl,rfl,rfl,rfl⟩:=h1
  obtain ⟨rfl,rfl,rfl,rfl,rfl,rfl,rfl⟩:=h2
  have hl:wd.toList=[99,97,110,99,101,108]:=by rw[hw];exact cm [99,97,110,99,101,108]
  rcases hi with ⟨e,_⟩|⟨_,e,rfl,rfl,rfl⟩|⟨e,_⟩|⟨_,e,_,_⟩
  ·rw[hl] at e;exact absurd e (by decide)
  ·simp[bm] at e
   simp[e]
  ·rw[hl] at e;exact absurd e (by decide)
  ·exact absurd ⟨hl,rfl⟩ e
 ·obtain ⟨k,i,t,m,r⟩:=x
  obtain ⟨a1,a2,a3,a4,a5,a6,a7⟩:=o
  unfold dc at h1
  unfold db at h2
  simp only at h1 h2
  obtain ⟨rfl,rfl,rfl,rfl,rfl⟩:=h1
  obtain ⟨rfl,rfl,rfl,rfl,rfl,rfl,rfl⟩:=h2
  subst h3
  have hl:wd.toList=[100,97,121]:=by rw[hw];exact cm [100,97,121]
  rcases hi with ⟨_,_,rfl,rfl,rfl,rfl⟩|⟨e,_⟩|⟨e,_⟩|⟨e,_,_,_⟩
  ·exact ⟨rfl,rfl,rfl,rfl⟩
  ·rw[hl] at e;exact absurd e (by decide)
  ·rw[hl] at e;exact absurd e (by decide)
  ·exact absurd ⟨hl,rfl⟩ e
end
end Go.Proofs.YtjhgchlfpolkcaaGreatDoor
