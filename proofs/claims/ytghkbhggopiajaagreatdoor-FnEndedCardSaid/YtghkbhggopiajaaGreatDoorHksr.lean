/- What hinders an op of one account. -/
import Derived.Test.YtghkbhggopiajaaGreatDoorHkar
import Derived.Test.YtghkbhggopiajaaGreatDoorPaysr
set_option maxHeartbeats 2000000
set_option maxRecDepth 8000
namespace Go.Proofs.YtghkbhggopiajaaGreatDoor
open Go.RowKit
def HEnds (p:Nat->Addr) (code:Int) (e:Ending):Prop:=(code=0/\e=.returned .nilIface)\/(∃i g,g<7/\codeG g=code/\code≠0/\e=.returned (refV p i g))
theorem HEnds.ok {p:Nat->Addr} {c:Int} (h:c=0):HEnds p c (.returned .nilIface):=Or.inl ⟨h,rfl⟩
theorem HEnds.ref {p:Nat->Addr} {c:Int} (i:Int) (g:Nat) (hg:g<7) (h:c=codeG g) (h0:codeG g≠0):HEnds p c (.returned (.iface 185 (.agg #[.int .i64 i,.iface 271 (.pointer (some (p g)))]))):=Or.inr ⟨i,g,hg,h.symm,by rw[h];exact h0,rfl⟩
theorem part_none {L:List Acc} {k i t m r:Int} (hk:k≠1) (h:place (FL L) L.length i=none):(partS L k i t m r).1=3:=by simp[partS,hk,h]
theorem part_act {L:List Acc} {k i t m r:Int} {j:Nat} (hk:k≠1) (h7:k≠7) (h9:k≠9) (h:place (FL L) L.length i=some j):(partS L k i t m r).1=(actS L j k m).1:=by simp[partS,hk,h7,h9,h]
theorem hPut (a:Option Addr) (c:Nat) (L:List Acc) (i t m r:Int) (p:Nat->Addr) (w:World) (h:Fo w a L.length (FL L)) (hR:Right (FL L) L.length) (hG:GE w p):
  Calls Tryz.prog 237 #[.agg #[.int .i64 i,.int .i64 m],.slice a L.length c] w fun e w'=>HEnds p (partS L 5 i t m r).1 e/\Below w.heap.size w w':=by
 have H:Hid (Fo (w.alloc (.cells #[.int .i64 i,.int .i64 m] 216)) a L.length (FL L)):=h.alloc _
 have HR:=hidOf hR
 have G0:Hid (GE (w.alloc (.cells #[.int .i64 i,.int .i64 m] 216)) p):=hG.below ((Below.refl _ _).alloc (Nat.le_refl _) _)
 have B0:Hid (Below w.heap.size w (w.alloc (.cells #[.int .i64 i,.int .i64 m] 216))):=(Below.refl _ _).alloc (Nat.le_refl _) _
 clear h hR hG
 cases hp:place (FL L) L.length i with
 | none=>
  have HJ:=hidOf hp
  have E:Hid ((partS L 5 i t m r).1=codeG 2):=part_none (by decide) hp
  clear hp
  go_enter Tryz.func237,Tryz.ntmps237
  go_wp2_with fail
  refine (warm_no a L.length c (FL L) i p _ H.out HJ.out G0.out).mono ?_
  skip
  rintro e w1 ⟨rfl,B1⟩
  have hz:w.heap.size<w1.heap.size:=Nat.lt_of_lt_of_le (by simp) B1.size
  have BX:∀q,(w1.alloc (.cells #[.int .i64 0,.int .i64 0,.int .i64 0,.int .i64 0,.int .i64 0,.bool false,.int .i64 0,.int .i64 0] 30)).cell? ⟨w.heap.size,q,none⟩=(w.alloc (.cells #[.int .i64 i,.int .i64 m] 216)).cell? ⟨w.heap.size,q,none⟩:=fun q=>by
   rw[World.cell?_alloc_lt _ _ ⟨w.heap.size,q,none⟩ hz,B1.cell (p:=⟨w.heap.size,q,none⟩) (by simp)]
  have G1:Hid (GE (w1.alloc (.cells #[.int .i64 0,.int .i64 0,.int .i64 0,.int .i64 0,.int .i64 0,.bool false,.int .i64 0,.int .i64 0] 30)) p):=(G0.out.below B1).below ((Below.refl _ _).alloc (Nat.le_refl _) _)
  have B1':Hid (Below w.heap.size w (w1.alloc (.cells #[.int .i64 0,.int .i64 0,.int .i64 0,.int .i64 0,.int .i64 0,.bool false,.int .i64 0,.int .i64 0] 30))):=(B0.out.trans (B1.mono (by simp))).alloc (Nat.le_of_lt hz) _
  clear B1
  go_wp2
  go_ret
  exact ⟨HEnds.ref i 2 (by omega) E.out (by decide),B1'.out⟩
 | some j=>
  have HJ:=hidOf hp
  have EA:Hid ((partS L 5 i t m r).1=(actS L j 5 m).1):=part_act (by decide) (by decide) (by decide) hp
  clear hp
  cases hf:(FL L j).frozen with
  | true=>
   have HFZ:=hidOf hf
   have E:Hid ((partS L 5 i t m r).1=codeG 4):=(by rw[EA.out];simp[actS,hf,codeG]:(partS L 5 i t m r).1=codeG 4)
   clear hf
   go_enter Tryz.func237,Tryz.ntmps237
   go_wp2_with fail
   refine (warm_frozen a L.length c (FL L) i j p _ H.out HJ.out HFZ.out G0.out).mono ?_
   skip
   rintro e w1 ⟨rfl,B1⟩
   have hz:w.heap.size<w1.heap.size:=Nat.lt_of_lt_of_le (by simp) B1.size
   have BX:∀q,(w1.alloc (.cells #[.int .i64 (FL L j).id,.int .i64 (FL L j).up,.int .i64 (FL L j).limit,.int .i64 (FL L j).rate,.int .i64 (FL L j).target,.bool true,.int .i64 (FL L j).balance,.int .i64 (FL L j).carry] 30)).cell? ⟨w.heap.size,q,none⟩=(w.alloc (.cells #[.int .i64 i,.int .i64 m] 216)).cell? ⟨w.heap.size,q,none⟩:=fun q=>by
    rw[World.cell?_alloc_lt _ _ ⟨w.heap.size,q,none⟩ hz,B1.cell (p:=⟨w.heap.size,q,none⟩) (by simp)]
   have G1:Hid (GE (w1.alloc (.cells #[.int .i64 (FL L j).id,.int .i64 (FL L j).up,.int .i64 (FL L j).limit,.int .i64 (FL L j).rate,.int .i64 (FL L j).target,.bool true,.int .i64 (FL L j).balance,.int .i64 (FL L j).carry] 30)) p):=(G0.out.below B1).below ((Below.refl _ _).alloc (Nat.le_refl _) _)
   have B1':Hid (Below w.heap.size w (w1.alloc (.cells #[.int .i64 (FL L j).id,.int .i64 (FL L j).up,.int .i64 (FL L j).limit,.int .i64 (FL L j).rate,.int .i64 (FL L j).target,.bool true,.int .i64 (FL L j).balance,.int .i64 (FL L j).carry] 30))):=(B0.out.trans (B1.mono (by simp))).alloc (Nat.le_of_lt hz) _
   clear B1
   go_wp2
   go_ret
   exact ⟨HEnds.ref i 4 (by omega) E.out (by decide),B1'.out⟩
  | false=>
   have HFZ:=hidOf hf
   have E:Hid ((partS L 5 i t m r).1=0):=(by rw[EA.out];simp[actS,hf]:(partS L 5 i t m r).1=0)
   clear hf
   go_enter Tryz.func237,Tryz.ntmps237
   go_wp2_with fail
   refine (warm_yes a L.length c (FL L) i j _ H.out HJ.out HFZ.out).mono ?_
   skip
   rintro e w1 ⟨rfl,B1⟩
   have hz:w.heap.size<w1.heap.size:=Nat.lt_of_lt_of_le (by simp) B1.size
   have BX:∀q,(w1.alloc (.cells #[.int .i64 (FL L j).id,.int .i64 (FL L j).up,.int .i64 (FL L j).limit,.int .i64 (FL L j).rate,.int .i64 (FL L j).target,.bool false,.int .i64 (FL L j).balance,.int .i64 (FL L j).carry] 30)).cell? ⟨w.heap.size,q,none⟩=(w.alloc (.cells #[.int .i64 i,.int .i64 m] 216)).cell? ⟨w.heap.size,q,none⟩:=fun q=>by
    rw[World.cell?_alloc_lt _ _ ⟨w.heap.size,q,none⟩ hz,B1.cell (p:=⟨w.heap.size,q,none⟩) (by simp)]
   have G1:Hid (GE (w1.alloc (.cells #[.int .i64 (FL L j).id,.int .i64 (FL L j).up,.int .i64 (FL L j).limit,.int .i64 (FL L j).rate,.int .i64 (FL L j).target,.bool false,.int .i64 (FL L j).balance,.int .i64 (FL L j).carry] 30)) p):=(G0.out.below B1).below ((Below.refl _ _).alloc (Nat.le_refl _) _)
   have B1':Hid (Below w.heap.size w (w1.alloc (.cells #[.int .i64 (FL L j).id,.int .i64 (FL L j).up,.int .i64 (FL L j).limit,.int .i64 (FL L j).rate,.int .i64 (FL L j).target,.bool false,.int .i64 (FL L j).balance,.int .i64 (FL L j).carry] 30))):=(B0.out.trans (B1.mono (by simp))).alloc (Nat.le_of_lt hz) _
   clear B1
   go_wp2
   go_ret
   exact ⟨HEnds.ok E.out,B1'.out⟩
theorem hFrost2 (a:Option Addr) (c:Nat) (L:List Acc) (i t m r:Int) (p:Nat->Addr) (w:World) (h:Fo w a L.length (FL L)) (hR:Right (FL L) L.length) (hG:GE w p):
  Calls Tryz.prog 234 #[.agg #[.int .i64 i,.bool true],.slice a L.length c] w fun e w'=>HEnds p (partS L 2 i t m r).1 e/\Below w.heap.size w w':=by
 have H:Hid (Fo (w.alloc (.cells #[.int .i64 i,.bool true] 212)) a L.length (FL L)):=h.alloc _
 have HR:=hidOf hR
 have G0:Hid (GE (w.alloc (.cells #[.int .i64 i,.bool true] 212)) p):=hG.below ((Below.refl _ _).alloc (Nat.le_refl _) _)
 have B0:Hid (Below w.heap.size w (w.alloc (.cells #[.int .i64 i,.bool true] 212))):=(Below.refl _ _).alloc (Nat.le_refl _) _
 clear h hR hG
 cases hp:place (FL L) L.length i with
 | none=>
  have HJ:=hidOf hp
  have E:Hid ((partS L 2 i t m r).1=codeG 2):=part_none (by decide) hp
  clear hp
  go_enter Tryz.func234,Tryz.ntmps234
  go_wp2_with fail
  refine (found_no a L.length c (FL L) i p _ H.out HJ.out G0.out).mono ?_
  skip
  rintro e w1 ⟨rfl,B1⟩
  have hz:w.heap.size<w1.heap.size:=Nat.lt_of_lt_of_le (by simp) B1.size
  have BX:∀q,(w1.alloc (.cells #[.int .i64 0,.int .i64 0,.int .i64 0,.int .i64 0,.int .i64 0,.bool false,.int .i64 0,.int .i64 0] 30)).cell? ⟨w.heap.size,q,none⟩=(w.alloc (.cells #[.int .i64 i,.bool true] 212)).cell? ⟨w.heap.size,q,none⟩:=fun q=>by
   rw[World.cell?_alloc_lt _ _ ⟨w.heap.size,q,none⟩ hz,B1.cell (p:=⟨w.heap.size,q,none⟩) (by simp)]
  have G1:Hid (GE (w1.alloc (.cells #[.int .i64 0,.int .i64 0,.int .i64 0,.int .i64 0,.int .i64 0,.bool false,.int .i64 0,.int .i64 0] 30)) p):=(G0.out.below B1).below ((Below.refl _ _).alloc (Nat.le_refl _) _)
  have B1':Hid (Below w.heap.size w (w1.alloc (.cells #[.int .i64 0,.int .i64 0,.int .i64 0,.int .i64 0,.int .i64 0,.bool false,.int .i64 0,.int .i64 0] 30))):=(B0.out.trans (B1.mono (by simp))).alloc (Nat.le_of_lt hz) _
  clear B1
  go_wp2
  go_ret
  exact ⟨HEnds.ref i 2 (by omega) E.out (by decide),B1'.out⟩
 | some j=>
  have HJ:=hidOf hp
  have EA:Hid ((partS L 2 i t m r).1=(actS L j 2 m).1):=part_act (by decide) (by decide) (by decide) hp
  clear hp
  cases hf:(FL L j).frozen with
  | true=>
   have HFZ:=hidOf hf
   have E:Hid ((partS L 2 i t m r).1=codeG 4):=(by rw[EA.out];simp[actS,hf,codeG]:(partS L 2 i t m r).1=codeG 4)
   clear hf
   go_enter Tryz.func234,Tryz.ntmps234
   go_wp2_with fail
   refine (found_yes a L.length c (FL L) i j _ H.out HJ.out).mono ?_
   rw[HFZ.out]
   rintro e w1 ⟨rfl,B1⟩
   have hz:w.heap.size<w1.heap.size:=Nat.lt_of_lt_of_le (by simp) B1.size
   have BX:∀q,(w1.alloc (.cells #[.int .i64 (FL L j).id,.int .i64 (FL L j).up,.int .i64 (FL L j).limit,.int .i64 (FL L j).rate,.int .i64 (FL L j).target,.bool true,.int .i64 (FL L j).balance,.int .i64 (FL L j).carry] 30)).cell? ⟨w.heap.size,q,none⟩=(w.alloc (.cells #[.int .i64 i,.bool true] 212)).cell? ⟨w.heap.size,q,none⟩:=fun q=>by
    rw[World.cell?_alloc_lt _ _ ⟨w.heap.size,q,none⟩ hz,B1.cell (p:=⟨w.heap.size,q,none⟩) (by simp)]
   have G1:Hid (GE (w1.alloc (.cells #[.int .i64 (FL L j).id,.int .i64 (FL L j).up,.int .i64 (FL L j).limit,.int .i64 (FL L j).rate,.int .i64 (FL L j).target,.bool true,.int .i64 (FL L j).balance,.int .i64 (FL L j).carry] 30)) p):=(G0.out.below B1).below ((Below.refl _ _).alloc (Nat.le_refl _) _)
   have B1':Hid (Below w.heap.size w (w1.alloc (.cells #[.int .i64 (FL L j).id,.int .i64 (FL L j).up,.int .i64 (FL L j).limit,.int .i64 (FL L j).rate,.int .i64 (FL L j).target,.bool true,.int .i64 (FL L j).balance,.int .i64 (FL L j).carry] 30))):=(B0.out.trans (B1.mono (by simp))).alloc (Nat.le_of_lt hz) _
   clear B1
   have gv:=G1.out.var 4 (by omega)
   go_wp2
   go_ret
   exact ⟨HEnds.ref i 4 (by omega) E.out (by decide),B1'.out⟩
  | false=>
   have HFZ:=hidOf hf
   have E:Hid ((partS L 2 i t m r).1=0):=(by rw[EA.out];simp[actS,hf]:(partS L 2 i t m r).1=0)
   clear hf
   go_enter Tryz.func234,Tryz.ntmps234
   go_wp2_with fail
   refine (found_yes a L.length c (FL L) i j _ H.out HJ.out).mono ?_
   rw[HFZ.out]
   rintro e w1 ⟨rfl,B1⟩
   have hz:w.heap.size<w1.heap.size:=Nat.lt_of_lt_of_le (by simp) B1.size
   have BX:∀q,(w1.alloc (.cells #[.int .i64 (FL L j).id,.int .i64 (FL L j).up,.int .i64 (FL L j).limit,.int .i64 (FL L j).rate,.int .i64 (FL L j).target,.bool false,.int .i64 (FL L j).balance,.int .i64 (FL L j).carry] 30)).cell? ⟨w.heap.size,q,none⟩=(w.alloc (.cells #[.int .i64 i,.bool true] 212)).cell? ⟨w.heap.size,q,none⟩:=fun q=>by
    rw[World.cell?_alloc_lt _ _ ⟨w.heap.size,q,none⟩ hz,B1.cell (p:=⟨w.heap.size,q,none⟩) (by simp)]
   have G1:Hid (GE (w1.alloc (.cells #[.int .i64 (FL L j).id,.int .i64 (FL L j).up,.int .i64 (FL L j).limit,.int .i64 (FL L j).rate,.int .i64 (FL L j).target,.bool false,.int .i64 (FL L j).balance,.int .i64 (FL L j).carry] 30)) p):=(G0.out.below B1).below ((Below.refl _ _).alloc (Nat.le_refl _) _)
   have B1':Hid (Below w.heap.size w (w1.alloc (.cells #[.int .i64 (FL L j).id,.int .i64 (FL L j).up,.int .i64 (FL L j).limit,.int .i64 (FL L j).rate,.int .i64 (FL L j).target,.bool false,.int .i64 (FL L j).balance,.int .i64 (FL L j).carry] 30))):=(B0.out.trans (B1.mono (by simp))).alloc (Nat.le_of_lt hz) _
   clear B1
   go_wp2
   go_ret
   exact ⟨HEnds.ok E.out,B1'.out⟩
theorem hFrost3 (a:Option Addr) (c:Nat) (L:List Acc) (i t m r:Int) (p:Nat->Addr) (w:World) (h:Fo w a L.length (FL L)) (hR:Right (FL L) L.length) (hG:GE w p):
  Calls Tryz.prog 234 #[.agg #[.int .i64 i,.bool false],.slice a L.length c] w fun e w'=>HEnds p (partS L 3 i t m r).1 e/\Below w.heap.size w w':=by
 have H:Hid (Fo (w.alloc (.cells #[.int .i64 i,.bool false] 212)) a L.length (FL L)):=h.alloc _
 have HR:=hidOf hR
 have G0:Hid (GE (w.alloc (.cells #[.int .i64 i,.bool false] 212)) p):=hG.below ((Below.refl _ _).alloc (Nat.le_refl _) _)
 have B0:Hid (Below w.heap.size w (w.alloc (.cells #[.int .i64 i,.bool false] 212))):=(Below.refl _ _).alloc (Nat.le_refl _) _
 clear h hR hG
 cases hp:place (FL L) L.length i with
 | none=>
  have HJ:=hidOf hp
  have E:Hid ((partS L 3 i t m r).1=codeG 2):=part_none (by decide) hp
  clear hp
  go_enter Tryz.func234,Tryz.ntmps234
  go_wp2_with fail
  refine (found_no a L.length c (FL L) i p _ H.out HJ.out G0.out).mono ?_
  skip
  rintro e w1 ⟨rfl,B1⟩
  have hz:w.heap.size<w1.heap.size:=Nat.lt_of_lt_of_le (by simp) B1.size
  have BX:∀q,(w1.alloc (.cells #[.int .i64 0,.int .i64 0,.int .i64 0,.int .i64 0,.int .i64 0,.bool false,.int .i64 0,.int .i64 0] 30)).cell? ⟨w.heap.size,q,none⟩=(w.alloc (.cells #[.int .i64 i,.bool false] 212)).cell? ⟨w.heap.size,q,none⟩:=fun q=>by
   rw[World.cell?_alloc_lt _ _ ⟨w.heap.size,q,none⟩ hz,B1.cell (p:=⟨w.heap.size,q,none⟩) (by simp)]
  have G1:Hid (GE (w1.alloc (.cells #[.int .i64 0,.int .i64 0,.int .i64 0,.int .i64 0,.int .i64 0,.bool false,.int .i64 0,.int .i64 0] 30)) p):=(G0.out.below B1).below ((Below.refl _ _).alloc (Nat.le_refl _) _)
  have B1':Hid (Below w.heap.size w (w1.alloc (.cells #[.int .i64 0,.int .i64 0,.int .i64 0,.int .i64 0,.int .i64 0,.bool false,.int .i64 0,.int .i64 0] 30))):=(B0.out.trans (B1.mono (by simp))).alloc (Nat.le_of_lt hz) _
  clear B1
  go_wp2
  go_ret
  exact ⟨HEnds.ref i 2 (by omega) E.out (by decide),B1'.out⟩
 | some j=>
  have HJ:=hidOf hp
  have EA:Hid ((partS L 3 i t m r).1=(actS L j 3 m).1):=part_act (by decide) (by decide) (by decide) hp
  clear hp
  cases hf:(FL L j).frozen with
  | true=>
   have HFZ:=hidOf hf
   have E:Hid ((partS L 3 i t m r).1=0):=(by rw[EA.out];simp[actS,hf]:(partS L 3 i t m r).1=0)
   clear hf
   go_enter Tryz.func234,Tryz.ntmps234
   go_wp2_with fail
   refine (found_yes a L.length c (FL L) i j _ H.out HJ.out).mono ?_
   rw[HFZ.out]
   rintro e w1 ⟨rfl,B1⟩
   have hz:w.heap.size<w1.heap.size:=Nat.lt_of_lt_of_le (by simp) B1.size
   have BX:∀q,(w1.alloc (.cells #[.int .i64 (FL L j).id,.int .i64 (FL L j).up,.int .i64 (FL L j).limit,.int .i64 (FL L j).rate,.int .i64 (FL L j).target,.bool true,.int .i64 (FL L j).balance,.int .i64 (FL L j).carry] 30)).cell? ⟨w.heap.size,q,none⟩=(w.alloc (.cells #[.int .i64 i,.bool false] 212)).cell? ⟨w.heap.size,q,none⟩:=fun q=>by
    rw[World.cell?_alloc_lt _ _ ⟨w.heap.size,q,none⟩ hz,B1.cell (p:=⟨w.heap.size,q,none⟩) (by simp)]
   have G1:Hid (GE (w1.alloc (.cells #[.int .i64 (FL L j).id,.int .i64 (FL L j).up,.int .i64 (FL L j).limit,.int .i64 (FL L j).rate,.int .i64 (FL L j).target,.bool true,.int .i64 (FL L j).balance,.int .i64 (FL L j).carry] 30)) p):=(G0.out.below B1).below ((Below.refl _ _).alloc (Nat.le_refl _) _)
   have B1':Hid (Below w.heap.size w (w1.alloc (.cells #[.int .i64 (FL L j).id,.int .i64 (FL L j).up,.int .i64 (FL L j).limit,.int .i64 (FL L j).rate,.int .i64 (FL L j).target,.bool true,.int .i64 (FL L j).balance,.int .i64 (FL L j).carry] 30))):=(B0.out.trans (B1.mono (by simp))).alloc (Nat.le_of_lt hz) _
   clear B1
   go_wp2
   go_ret
   exact ⟨HEnds.ok E.out,B1'.out⟩
  | false=>
   have HFZ:=hidOf hf
   have E:Hid ((partS L 3 i t m r).1=codeG 4):=(by rw[EA.out];simp[actS,hf,codeG]:(partS L 3 i t m r).1=codeG 4)
   clear hf
   go_enter Tryz.func234,Tryz.ntmps234
   go_wp2_with fail
   refine (found_yes a L.length c (FL L) i j _ H.out HJ.out).mono ?_
   rw[HFZ.out]
   rintro e w1 ⟨rfl,B1⟩
   have hz:w.heap.size<w1.heap.size:=Nat.lt_of_lt_of_le (by simp) B1.size
   have BX:∀q,(w1.alloc (.cells #[.int .i64 (FL L j).id,.int .i64 (FL L j).up,.int .i64 (FL L j).limit,.int .i64 (FL L j).rate,.int .i64 (FL L j).target,.bool false,.int .i64 (FL L j).balance,.int .i64 (FL L j).carry] 30)).cell? ⟨w.heap.size,q,none⟩=(w.alloc (.cells #[.int .i64 i,.bool false] 212)).cell? ⟨w.heap.size,q,none⟩:=fun q=>by
    rw[World.cell?_alloc_lt _ _ ⟨w.heap.size,q,none⟩ hz,B1.cell (p:=⟨w.heap.size,q,none⟩) (by simp)]
   have G1:Hid (GE (w1.alloc (.cells #[.int .i64 (FL L j).id,.int .i64 (FL L j).up,.int .i64 (FL L j).limit,.int .i64 (FL L j).rate,.int .i64 (FL L j).target,.bool false,.int .i64 (FL L j).balance,.int .i64 (FL L j).carry] 30)) p):=(G0.out.below B1).below ((Below.refl _ _).alloc (Nat.le_refl _) _)
   have B1':Hid (Below w.heap.size w (w1.alloc (.cells #[.int .i64 (FL L j).id,.int .i64 (FL L j).up,.int .i64 (FL L j).limit,.int .i64 (FL L j).rate,.int .i64 (FL L j).target,.bool false,.int .i64 (FL L j).balance,.int .i64 (FL L j).carry] 30))):=(B0.out.trans (B1.mono (by simp))).alloc (Nat.le_of_lt hz) _
   clear B1
   have gv:=G1.out.var 4 (by omega)
   go_wp2
   go_ret
   exact ⟨HEnds.ref i 4 (by omega) E.out (by decide),B1'.out⟩
theorem hLimit (a:Option Addr) (c:Nat) (L:List Acc) (i t m r:Int) (p:Nat->Addr) (w:World) (h:Fo w a L.length (FL L)) (hR:Right (FL L) L.length) (hG:GE w p) (hm: -1<=m):
  Calls Tryz.prog 245 #[.agg #[.int .i64 i,.int .i64 m],.slice a L.length c] w fun e w'=>HEnds p (partS L 8 i t m r).1 e/\Below w.heap.size w w':=by
 have H:Hid (Fo (w.alloc (.cells #[.int .i64 i,.int .i64 m] 221)) a L.length (FL L)):=h.alloc _
 have HR:=hidOf hR
 have G0:Hid (GE (w.alloc (.cells #[.int .i64 i,.int .i64 m] 221)) p):=hG.below ((Below.refl _ _).alloc (Nat.le_refl _) _)
 have B0:Hid (Below w.heap.size w (w.alloc (.cells #[.int .i64 i,.int .i64 m] 221))):=(Below.refl _ _).alloc (Nat.le_refl _) _
 clear h hR hG
 cases hp:place (FL L) L.length i with
 | none=>
  have HJ:=hidOf hp
  have E:Hid ((partS L 8 i t m r).1=codeG 2):=part_none (by decide) hp
  clear hp
  go_enter Tryz.func245,Tryz.ntmps245
  go_wp2_with fail
  refine (found_no a L.length c (FL L) i p _ H.out HJ.out G0.out).mono ?_
  skip
  rintro e w1 ⟨rfl,B1⟩
  have hz:w.heap.size<w1.heap.size:=Nat.lt_of_lt_of_le (by simp) B1.size
  have BX:∀q,(w1.alloc (.cells #[.int .i64 0,.int .i64 0,.int .i64 0,.int .i64 0,.int .i64 0,.bool false,.int .i64 0,.int .i64 0] 30)).cell? ⟨w.heap.size,q,none⟩=(w.alloc (.cells #[.int .i64 i,.int .i64 m] 221)).cell? ⟨w.heap.size,q,none⟩:=fun q=>by
   rw[World.cell?_alloc_lt _ _ ⟨w.heap.size,q,none⟩ hz,B1.cell (p:=⟨w.heap.size,q,none⟩) (by simp)]
  have G1:Hid (GE (w1.alloc (.cells #[.int .i64 0,.int .i64 0,.int .i64 0,.int .i64 0,.int .i64 0,.bool false,.int .i64 0,.int .i64 0] 30)) p):=(G0.out.below B1).below ((Below.refl _ _).alloc (Nat.le_refl _) _)
  have B1':Hid (Below w.heap.size w (w1.alloc (.cells #[.int .i64 0,.int .i64 0,.int .i64 0,.int .i64 0,.int .i64 0,.bool false,.int .i64 0,.int .i64 0] 30))):=(B0.out.trans (B1.mono (by simp))).alloc (Nat.le_of_lt hz) _
  clear B1
  go_wp2
  go_ret
  exact ⟨HEnds.ref i 2 (by omega) E.out (by decide),B1'.out⟩
 | some j=>
  have HJ:=hidOf hp
  have EA:Hid ((partS L 8 i t m r).1=(actS L j 8 m).1):=part_act (by decide) (by decide) (by decide) hp
  clear hp
  by_cases hu:(FL L j).up=0
  ·have hub:((FL L j).up == 0)=true:=by simp[hu]
   by_cases hm1:m= -1
   ·have hmb:(m == -1)=true:=by simp[hm1]
    have E:Hid ((partS L 8 i t m r).1=codeG 6):=(by rw[EA.out];simp[actS,hu,hm1,codeG]:(partS L 8 i t m r).1=codeG 6)
    clear hu hm1
    go_enter Tryz.func245,Tryz.ntmps245
    go_wp2_with fail
    refine (found_yes a L.length c (FL L) i j _ H.out HJ.out).mono ?_
    skip
    rintro e w1 ⟨rfl,B1⟩
    have hz:w.heap.size<w1.heap.size:=Nat.lt_of_lt_of_le (by simp) B1.size
    have BX:∀q,(w1.alloc (.cells #[.int .i64 (FL L j).id,.int .i64 (FL L j).up,.int .i64 (FL L j).limit,.int .i64 (FL L j).rate,.int .i64 (FL L j).target,.bool (FL L j).frozen,.int .i64 (FL L j).balance,.int .i64 (FL L j).carry] 30)).cell? ⟨w.heap.size,q,none⟩=(w.alloc (.cells #[.int .i64 i,.int .i64 m] 221)).cell? ⟨w.heap.size,q,none⟩:=fun q=>by
     rw[World.cell?_alloc_lt _ _ ⟨w.heap.size,q,none⟩ hz,B1.cell (p:=⟨w.heap.size,q,none⟩) (by simp)]
    have G1:Hid (GE (w1.alloc (.cells #[.int .i64 (FL L j).id,.int .i64 (FL L j).up,.int .i64 (FL L j).limit,.int .i64 (FL L j).rate,.int .i64 (FL L j).target,.bool (FL L j).frozen,.int .i64 (FL L j).balance,.int .i64 (FL L j).carry] 30)) p):=(G0.out.below B1).below ((Below.refl _ _).alloc (Nat.le_refl _) _)
    have B1':Hid (Below w.heap.size w (w1.alloc (.cells #[.int .i64 (FL L j).id,.int .i64 (FL L j).up,.int .i64 (FL L j).limit,.int .i64 (FL L j).rate,.int .i64 (FL L j).target,.bool (FL L j).frozen,.int .i64 (FL L j).balance,.int .i64 (FL L j).carry] 30))):=(B0.out.trans (B1.mono (by simp))).alloc (Nat.le_of_lt hz) _
    clear B1
    have gv:=G1.out.var 6 (by omega)
    go_wp2
    go_ret
    exact ⟨HEnds.ref i 6 (by omega) E.out (by decide),B1'.out⟩
   ·have hmb:(m == -1)=false:=by simp[hm1]
    have E:Hid ((partS L 8 i t m r).1=0):=(by rw[EA.out];simp[actS,show ¬((FL L j).up=0/\m<0) from by omega]:(partS L 8 i t m r).1=0)
    clear hu hm1
    go_enter Tryz.func245,Tryz.ntmps245
    go_wp2_with fail
    refine (found_yes a L.length c (FL L) i j _ H.out HJ.out).mono ?_
    skip
    rintro e w1 ⟨rfl,B1⟩
    have hz:w.heap.size<w1.heap.size:=Nat.lt_of_lt_of_le (by simp) B1.size
    have BX:∀q,(w1.alloc (.cells #[.int .i64 (FL L j).id,.int .i64 (FL L j).up,.int .i64 (FL L j).limit,.int .i64 (FL L j).rate,.int .i64 (FL L j).target,.bool (FL L j).frozen,.int .i64 (FL L j).balance,.int .i64 (FL L j).carry] 30)).cell? ⟨w.heap.size,q,none⟩=(w.alloc (.cells #[.int .i64 i,.int .i64 m] 221)).cell? ⟨w.heap.size,q,none⟩:=fun q=>by
     rw[World.cell?_alloc_lt _ _ ⟨w.heap.size,q,none⟩ hz,B1.cell (p:=⟨w.heap.size,q,none⟩) (by simp)]
    have G1:Hid (GE (w1.alloc (.cells #[.int .i64 (FL L j).id,.int .i64 (FL L j).up,.int .i64 (FL L j).limit,.int .i64 (FL L j).rate,.int .i64 (FL L j).target,.bool (FL L j).frozen,.int .i64 (FL L j).balance,.int .i64 (FL L j).carry] 30)) p):=(G0.out.below B1).below ((Below.refl _ _).alloc (Nat.le_refl _) _)
    have B1':Hid (Below w.heap.size w (w1.alloc (.cells #[.int .i64 (FL L j).id,.int .i64 (FL L j).up,.int .i64 (FL L j).limit,.int .i64 (FL L j).rate,.int .i64 (FL L j).target,.bool (FL L j).frozen,.int .i64 (FL L j).balance,.int .i64 (FL L j).carry] 30))):=(B0.out.trans (B1.mono (by simp))).alloc (Nat.le_of_lt hz) _
    clear B1
    go_wp2
    go_ret
    exact ⟨HEnds.ok E.out,B1'.out⟩
  ·have hub:((FL L j).up == 0)=false:=by simp[hu]
   have E:Hid ((partS L 8 i t m r).1=0):=(by rw[EA.out];simp[actS,hu]:(partS L 8 i t m r).1=0)
   clear hu
   go_enter Tryz.func245,Tryz.ntmps245
   go_wp2_with fail
   refine (found_yes a L.length c (FL L) i j _ H.out HJ.out).mono ?_
   skip
   rintro e w1 ⟨rfl,B1⟩
   have hz:w.heap.size<w1.heap.size:=Nat.lt_of_lt_of_le (by simp) B1.size
   have BX:∀q,(w1.alloc (.cells #[.int .i64 (FL L j).id,.int .i64 (FL L j).up,.int .i64 (FL L j).limit,.int .i64 (FL L j).rate,.int .i64 (FL L j).target,.bool (FL L j).frozen,.int .i64 (FL L j).balance,.int .i64 (FL L j).carry] 30)).cell? ⟨w.heap.size,q,none⟩=(w.alloc (.cells #[.int .i64 i,.int .i64 m] 221)).cell? ⟨w.heap.size,q,none⟩:=fun q=>by
    rw[World.cell?_alloc_lt _ _ ⟨w.heap.size,q,none⟩ hz,B1.cell (p:=⟨w.heap.size,q,none⟩) (by simp)]
   have G1:Hid (GE (w1.alloc (.cells #[.int .i64 (FL L j).id,.int .i64 (FL L j).up,.int .i64 (FL L j).limit,.int .i64 (FL L j).rate,.int .i64 (FL L j).target,.bool (FL L j).frozen,.int .i64 (FL L j).balance,.int .i64 (FL L j).carry] 30)) p):=(G0.out.below B1).below ((Below.refl _ _).alloc (Nat.le_refl _) _)
   have B1':Hid (Below w.heap.size w (w1.alloc (.cells #[.int .i64 (FL L j).id,.int .i64 (FL L j).up,.int .i64 (FL L j).limit,.int .i64 (FL L j).rate,.int .i64 (FL L j).target,.bool (FL L j).frozen,.int .i64 (FL L j).balance,.int .i64 (FL L j).carry] 30))):=(B0.out.trans (B1.mono (by simp))).alloc (Nat.le_of_lt hz) _
   clear B1
   go_wp2
   go_ret
   exact ⟨HEnds.ok E.out,B1'.out⟩
theorem hTarget (a:Option Addr) (c:Nat) (L:List Acc) (i t m r:Int) (p:Nat->Addr) (w:World) (h:Fo w a L.length (FL L)) (hR:Right (FL L) L.length) (hG:GE w p):
  Calls Tryz.prog 246 #[.agg #[.int .i64 i,.int .i64 m],.slice a L.length c] w fun e w'=>HEnds p (partS L 10 i t m r).1 e/\Below w.heap.size w w':=by
 have H:Hid (Fo (w.alloc (.cells #[.int .i64 i,.int .i64 m] 223)) a L.length (FL L)):=h.alloc _
 have HR:=hidOf hR
 have G0:Hid (GE (w.alloc (.cells #[.int .i64 i,.int .i64 m] 223)) p):=hG.below ((Below.refl _ _).alloc (Nat.le_refl _) _)
 have B0:Hid (Below w.heap.size w (w.alloc (.cells #[.int .i64 i,.int .i64 m] 223))):=(Below.refl _ _).alloc (Nat.le_refl _) _
 clear h hR hG
 cases hp:place (FL L) L.length i with
 | none=>
  have HJ:=hidOf hp
  have E:Hid ((partS L 10 i t m r).1=codeG 2):=part_none (by decide) hp
  clear hp
  go_enter Tryz.func246,Tryz.ntmps246
  go_wp2_with fail
  refine (found_no a L.length c (FL L) i p _ H.out HJ.out G0.out).mono ?_
  skip
  rintro e w1 ⟨rfl,B1⟩
  have hz:w.heap.size<w1.heap.size:=Nat.lt_of_lt_of_le (by simp) B1.size
  have BX:∀q,(w1.alloc (.cells #[.int .i64 0,.int .i64 0,.int .i64 0,.int .i64 0,.int .i64 0,.bool false,.int .i64 0,.int .i64 0] 30)).cell? ⟨w.heap.size,q,none⟩=(w.alloc (.cells #[.int .i64 i,.int .i64 m] 223)).cell? ⟨w.heap.size,q,none⟩:=fun q=>by
   rw[World.cell?_alloc_lt _ _ ⟨w.heap.size,q,none⟩ hz,B1.cell (p:=⟨w.heap.size,q,none⟩) (by simp)]
  have G1:Hid (GE (w1.alloc (.cells #[.int .i64 0,.int .i64 0,.int .i64 0,.int .i64 0,.int .i64 0,.bool false,.int .i64 0,.int .i64 0] 30)) p):=(G0.out.below B1).below ((Below.refl _ _).alloc (Nat.le_refl _) _)
  have B1':Hid (Below w.heap.size w (w1.alloc (.cells #[.int .i64 0,.int .i64 0,.int .i64 0,.int .i64 0,.int .i64 0,.bool false,.int .i64 0,.int .i64 0] 30))):=(B0.out.trans (B1.mono (by simp))).alloc (Nat.le_of_lt hz) _
  clear B1
  go_wp2
  go_ret
  exact ⟨HEnds.ref i 2 (by omega) E.out (by decide),B1'.out⟩
 | some j=>
  have HJ:=hidOf hp
  have EA:Hid ((partS L 10 i t m r).1=(actS L j 10 m).1):=part_act (by decide) (by decide) (by decide) hp
  clear hp
  by_cases hu:(FL L j).up=0
  ·have hub:((FL L j).up == 0)=true:=by simp[hu]
   have E:Hid ((partS L 10 i t m r).1=codeG 6):=(by rw[EA.out];simp[actS,hu,codeG]:(partS L 10 i t m r).1=codeG 6)
   clear hu
   go_enter Tryz.func246,Tryz.ntmps246
   go_wp2_with fail
   refine (found_yes a L.length c (FL L) i j _ H.out HJ.out).mono ?_
   skip
   rintro e w1 ⟨rfl,B1⟩
   have hz:w.heap.size<w1.heap.size:=Nat.lt_of_lt_of_le (by simp) B1.size
   have BX:∀q,(w1.alloc (.cells #[.int .i64 (FL L j).id,.int .i64 (FL L j).up,.int .i64 (FL L j).limit,.int .i64 (FL L j).rate,.int .i64 (FL L j).target,.bool (FL L j).frozen,.int .i64 (FL L j).balance,.int .i64 (FL L j).carry] 30)).cell? ⟨w.heap.size,q,none⟩=(w.alloc (.cells #[.int .i64 i,.int .i64 m] 223)).cell? ⟨w.heap.size,q,none⟩:=fun q=>by
    rw[World.cell?_alloc_lt _ _ ⟨w.heap.size,q,none⟩ hz,B1.cell (p:=⟨w.heap.size,q,none⟩) (by simp)]
   have G1:Hid (GE (w1.alloc (.cells #[.int .i64 (FL L j).id,.int .i64 (FL L j).up,.int .i64 (FL L j).limit,.int .i64 (FL L j).rate,.int .i64 (FL L j).target,.bool (FL L j).frozen,.int .i64 (FL L j).balance,.int .i64 (FL L j).carry] 30)) p):=(G0.out.below B1).below ((Below.refl _ _).alloc (Nat.le_refl _) _)
   have B1':Hid (Below w.heap.size w (w1.alloc (.cells #[.int .i64 (FL L j).id,.int .i64 (FL L j).up,.int .i64 (FL L j).limit,.int .i64 (FL L j).rate,.int .i64 (FL L j).target,.bool (FL L j).frozen,.int .i64 (FL L j).balance,.int .i64 (FL L j).carry] 30))):=(B0.out.trans (B1.mono (by simp))).alloc (Nat.le_of_lt hz) _
   clear B1
   have gv:=G1.out.var 6 (by omega)
   go_wp2
   go_ret
   exact ⟨HEnds.ref i 6 (by omega) E.out (by decide),B1'.out⟩
  ·have hub:((FL L j).up == 0)=false:=by simp[hu]
   have E:Hid ((partS L 10 i t m r).1=0):=(by rw[EA.out];simp[actS,hu]:(partS L 10 i t m r).1=0)
   clear hu
   go_enter Tryz.func246,Tryz.ntmps246
   go_wp2_with fail
   refine (found_yes a L.length c (FL L) i j _ H.out HJ.out).mono ?_
   skip
   rintro e w1 ⟨rfl,B1⟩
   have hz:w.heap.size<w1.heap.size:=Nat.lt_of_lt_of_le (by simp) B1.size
   have BX:∀q,(w1.alloc (.cells #[.int .i64 (FL L j).id,.int .i64 (FL L j).up,.int .i64 (FL L j).limit,.int .i64 (FL L j).rate,.int .i64 (FL L j).target,.bool (FL L j).frozen,.int .i64 (FL L j).balance,.int .i64 (FL L j).carry] 30)).cell? ⟨w.heap.size,q,none⟩=(w.alloc (.cells #[.int .i64 i,.int .i64 m] 223)).cell? ⟨w.heap.size,q,none⟩:=fun q=>by
    rw[World.cell?_alloc_lt _ _ ⟨w.heap.size,q,none⟩ hz,B1.cell (p:=⟨w.heap.size,q,none⟩) (by simp)]
   have G1:Hid (GE (w1.alloc (.cells #[.int .i64 (FL L j).id,.int .i64 (FL L j).up,.int .i64 (FL L j).limit,.int .i64 (FL L j).rate,.int .i64 (FL L j).target,.bool (FL L j).frozen,.int .i64 (FL L j).balance,.int .i64 (FL L j).carry] 30)) p):=(G0.out.below B1).below ((Below.refl _ _).alloc (Nat.le_refl _) _)
   have B1':Hid (Below w.heap.size w (w1.alloc (.cells #[.int .i64 (FL L j).id,.int .i64 (FL L j).up,.int .i64 (FL L j).limit,.int .i64 (FL L j).rate,.int .i64 (FL L j).target,.bool (FL L j).frozen,.int .i64 (FL L j).balance,.int .i64 (FL L j).carry] 30))):=(B0.out.trans (B1.mono (by simp))).alloc (Nat.le_of_lt hz) _
   clear B1
   go_wp2
   go_ret
   exact ⟨HEnds.ok E.out,B1'.out⟩
theorem step_lt {F:Nat->Acc} {n:Nat} {but:List Int} {m:Int} {r0:Option Int} {x:Int} {j:Nat} (hp:place F n x=some j):
  (∃r,step F n but r0 x=some r/\r<m)↔(∃r,r0=some r/\r<m)\/(¬((F j).limit<0\/x ∈ but)/\sumAll F n j+(F j).limit<m):=by
 by_cases hs:(F j).limit<0\/x ∈ but
 ·rw[step_skip hp hs]
  constructor
  ·intro h;exact Or.inl h
  ·rintro (h|h)
   ·exact h
   ·exact absurd hs h.1
 ·cases r0 with
  | none=>
   rw[step_first hp hs]
   constructor
   ·rintro ⟨r,e,h⟩;obtain rfl:=Option.some.inj e;exact Or.inr ⟨hs,h⟩
   ·rintro (⟨r,e,_⟩|⟨_,h⟩)
    ·cases e
    ·exact ⟨_,rfl,h⟩
  | some q=>
   by_cases hq:sumAll F n j+(F j).limit<q
   ·rw[step_less hp hs hq]
    constructor
    ·rintro ⟨r,e,h⟩;obtain rfl:=Option.some.inj e;exact Or.inr ⟨hs,h⟩
    ·rintro (⟨r,e,h⟩|⟨_,h⟩)
     ·obtain rfl:=Option.some.inj e;exact ⟨_,rfl,by omega⟩
     ·exact ⟨_,rfl,h⟩
   ·rw[step_more hp hs hq]
    constructor
    ·rintro ⟨r,e,h⟩;obtain rfl:=Option.some.inj e;exact Or.inl ⟨_,rfl,h⟩
    ·rintro (⟨r,e,h⟩|⟨_,h⟩)
     ·exact ⟨r,e,h⟩
     ·exact ⟨q,rfl,by omega⟩
theorem fold_lt {F:Nat->Acc} {n:Nat} {but:List Int} {m:Int}:∀(l:List Int) (r0:Option Int),(∀x,x ∈ l->∃j,place F n x=some j)->
  ((∃r,l.foldl (step F n but) r0=some r/\r<m)↔(∃r,r0=some r/\r<m)\/∃x j,x ∈ l/\place F n x=some j/\¬((F j).limit<0\/x ∈ but)/\sumAll F n j+(F j).limit<m)
 | [],r0,_=>by simp
 | x::l,r0,h=>by
  obtain ⟨j,hj⟩:=h x (by simp)
  rw[List.foldl_cons,fold_lt l _ (fun y hy=>h y (by simp[hy])),step_lt hj]
  constructor
  ·rintro ((h1|h1)|⟨y,i,hy,hi,h1⟩)
   ·exact Or.inl h1
   ·exact Or.inr ⟨x,j,by simp,hj,h1⟩
   ·exact Or.inr ⟨y,i,by simp[hy],hi,h1⟩
  ·rintro (h1|⟨y,i,hy,hi,h1⟩)
   ·exact Or.inl (Or.inl h1)
   ·rcases List.mem_cons.1 hy with e|e
    ·subst e
     rw[hj] at hi
     obtain rfl:=Option.some.inj hi
     exact Or.inl (Or.inr h1)
    ·exact Or.inr ⟨y,i,e,hi,h1⟩
theorem room_lt {F:Nat->Acc} {n:Nat} {but:List Int} {m:Int} (h:Right F n) {i:Nat} (hi:i<n):
  (∃r,room F n but i=some r/\r<m)↔shortP F n (pathL F n i) but m:=by
 unfold room
 rw[fold_lt _ _ (fun x hx=>by obtain ⟨j,_,_,hj⟩:=h.on_path hi hx;exact ⟨j,hj⟩)]
 constructor
 ·rintro (⟨r,e,_⟩|⟨x,j,hx,hj,hs,hl⟩)
  ·cases e
  ·obtain ⟨hjn,hid⟩:=place_some hj
   refine ⟨j,hjn,by rw[hid];exact hx,fun e=>hs (Or.inl (by omega)),by rw[hid];exact fun e=>hs (Or.inr e),hl⟩
 ·rintro ⟨j,hj,hx,hl,hn,hs⟩
  refine Or.inr ⟨(F j).id,j,hx,place_self h.2.2.1 hj,?_,hs⟩
  rintro (e|e)
  ·have:=(h.2.1 j hj).2.2.1;omega
  ·exact hn e
theorem path_of {F:Nat->Acc} {n:Nat} (h:Right F n) {j:Nat} (hj:j<n):chain F n n (F j).id=some (pathL F n j):=by
 have:=h.2.2.2 j hj
 unfold pathL
 cases hc:chain F n n (F j).id with
 | none=>rw[hc] at this;cases this
 | some l=>rfl
theorem take_short {L:List Acc} {p:Nat} {m:Int} (h:Right (FL L) L.length) (hp:p<L.length):(room (FL L) L.length [] p).getD 0<m↔shortP (FL L) L.length (pathL (FL L) L.length p) [] m:=by
 rw[←room_lt h hp]
 have:=room_some h hp
 cases hr:room (FL L) L.length [] p with
 | none=>rw[hr] at this;cases this
 | some r=>simp
theorem pay_short {L:List Acc} {p q:Nat} {m:Int} (h:Right (FL L) L.length) (hp:p<L.length):payShort L p q m↔shortP (FL L) L.length (pathL (FL L) L.length p) (pathL (FL L) L.length q) m:=by
 rw[←room_lt h hp]
 rfl
theorem inWay_iff {F:Nat->Acc} {n:Nat} (h:Right F n) {s:Int} {out into:List Int}:(∃j,j<n/\inWay F n s out into j)↔shortP F n out into s:=by
 constructor
 ·rintro ⟨j,hj,h1,h2,h3,h4⟩
  exact ⟨j,hj,h2,by omega,h3,h4⟩
 ·rintro ⟨j,hj,h2,h1,h3,h4⟩
  have:=(h.2.1 j hj).2.2.1
  exact ⟨j,hj,by omega,h2,h3,h4⟩
theorem hang_short {L:List Acc} {p q u:Nat} (h:Right (FL L) L.length):hangShort L p q u↔
  (0<sumAll (FL L) L.length p/\shortP (FL L) L.length (pathL (FL L) L.length u) (pathL (FL L) L.length q) (sumAll (FL L) L.length p))\/
  (sumAll (FL L) L.length p<0/\shortP (FL L) L.length (pathL (FL L) L.length q) (pathL (FL L) L.length u) (-sumAll (FL L) L.length p)):=by
 unfold hangShort bad
 rw[←inWay_iff h,←inWay_iff h]
 constructor
 ·rintro ⟨j,hj,h1|h1⟩
  ·exact Or.inl ⟨h1.1,j,hj,h1.2⟩
  ·exact Or.inr ⟨h1.1,j,hj,h1.2⟩
 ·rintro (⟨h0,j,hj,h1⟩|⟨h0,j,hj,h1⟩)
  ·exact ⟨j,hj,Or.inl ⟨h0,h1⟩⟩
  ·exact ⟨j,hj,Or.inr ⟨h0,h1⟩⟩
open Go.RowKit
def HS (w W:World) (X:Array Value) (T:Nat) (a:Option Addr) (n:Nat) (F:Nat->Acc) (p:Nat->Addr):Prop:=
 (∀q,W.cell? ⟨w.heap.size,q,none⟩=(w.alloc (.cells X T)).cell? ⟨w.heap.size,q,none⟩)/\Fo W a n F/\GE W p/\Below w.heap.size w W/\w.heap.size<W.heap.size
theorem HS.new {w:World} (X:Array Value) (T:Nat) {a:Option Addr} {n:Nat} {F:Nat->Acc} {p:Nat->Addr} (h:Fo w a n F) (hG:GE w p):HS w (w.alloc (.cells X T)) X T a n F p:=
 ⟨fun _=>rfl,h.alloc _,hG.below ((Below.refl _ _).alloc (Nat.le_refl _) _),(Below.refl _ _).alloc (Nat.le_refl _) _,by simp⟩
theorem HS.below {w W W':World} {X:Array Value} {T:Nat} {a:Option Addr} {n:Nat} {F:Nat->Acc} {p:Nat->Addr} (h:HS w W X T a n F p) (hb:Below W.heap.size W W'):HS w W' X T a n F p:=
 ⟨fun q=>by rw[hb.cell (p:=⟨w.heap.size,q,none⟩) h.2.2.2.2];exact h.1 q,h.2.1.below hb,h.2.2.1.below hb,h.2.2.2.1.trans (hb.mono (Nat.le_of_lt h.2.2.2.2)),Nat.lt_of_lt_of_le h.2.2.2.2 hb.size⟩
theorem HS.alloc {w W:World} {X:Array Value} {T:Nat} {a:Option Addr} {n:Nat} {F:Nat->Acc} {p:Nat->Addr} (h:HS w W X T a n F p) (x:Obj):HS w (W.alloc x) X T a n F p:=h.below ((Below.refl _ _).alloc (Nat.le_refl _) x)
theorem hClose (a:Option Addr) (c:Nat) (L:List Acc) (i t m r:Int) (p:Nat->Addr) (w:World) (h:Fo w a L.length (FL L)) (hR:Right (FL L) L.length) (hG:GE w p):
  Calls Tryz.prog 235 #[.agg #[.int .i64 i],.slice a L.length c] w fun e w'=>HEnds p (partS L 4 i t m r).1 e/\Below w.heap.size w w':=by
 have S0:Hid (HS w (w.alloc (.cells #[.int .i64 i] 214)) #[.int .i64 i] 214 a L.length (FL L) p):=HS.new _ _ h hG
 have HR:=hidOf hR
 have hn12:=hR.1
 clear h hR hG
 cases hp:place (FL L) L.length i with
 | none=>
  have HJ:=hidOf hp
  have E:Hid ((partS L 4 i t m r).1=codeG 2):=part_none (by decide) hp
  clear hp
  go_enter Tryz.func235,Tryz.ntmps235
  go_wp2_with fail
  refine (warm_no a L.length c (FL L) i p _ S0.out.2.1 HJ.out S0.out.2.2.1).mono ?_
  rintro e w1 ⟨rfl,B1⟩
  have S1:Hid (HS w (w1.alloc (.cells #[.int .i64 0,.int .i64 0,.int .i64 0,.int .i64 0,.int .i64 0,.bool false,.int .i64 0,.int .i64 0] 30)) #[.int .i64 i] 214 a L.length (FL L) p):=(S0.out.below B1).alloc _
  have X1:=S1.out.1
  clear B1 S0
  go_wp2
  go_ret
  exact ⟨HEnds.ref i 2 (by omega) E.out (by decide),S1.out.2.2.2.1⟩
 | some j=>
  have HJ:=hidOf hp
  obtain ⟨hj,hid⟩:=place_some hp
  have HID:=hidOf hid
  have EA:Hid ((partS L 4 i t m r).1=(actS L j 4 m).1):=part_act (by decide) (by decide) (by decide) hp
  clear hp hid
  cases hf:(FL L j).frozen with
  | true=>
   have HFZ:=hidOf hf
   have E:Hid ((partS L 4 i t m r).1=codeG 4):=(by rw[EA.out];simp[actS,hf,codeG]:(partS L 4 i t m r).1=codeG 4)
   clear hf
   go_enter Tryz.func235,Tryz.ntmps235
   go_wp2_with fail
   refine (warm_frozen a L.length c (FL L) i j p _ S0.out.2.1 HJ.out HFZ.out S0.out.2.2.1).mono ?_
   rintro e w1 ⟨rfl,B1⟩
   have S1:Hid (HS w (w1.alloc (.cells #[.int .i64 (FL L j).id,.int .i64 (FL L j).up,.int .i64 (FL L j).limit,.int .i64 (FL L j).rate,.int .i64 (FL L j).target,.bool true,.int .i64 (FL L j).balance,.int .i64 (FL L j).carry] 30)) #[.int .i64 i] 214 a L.length (FL L) p):=(S0.out.below B1).alloc _
   have X1:=S1.out.1
   clear B1 S0
   go_wp2
   go_ret
   exact ⟨HEnds.ref i 4 (by omega) E.out (by decide),S1.out.2.2.2.1⟩
  | false=>
   have HFZ:=hidOf hf
   have EC:Hid ((actS L j 4 m).1=(closeS L j).1):=(by simp[actS,hf]:(actS L j 4 m).1=(closeS L j).1)
   clear hf
   by_cases hb:(FL L j).balance=0
   rotate_left
   ·have hbb:((FL L j).balance != 0)=true:=by simp[hb]
    have E:Hid ((partS L 4 i t m r).1=codeG 6):=(by rw[EA.out,EC.out];simp[closeS,hb,codeG]:(partS L 4 i t m r).1=codeG 6)
    clear hb
    go_enter Tryz.func235,Tryz.ntmps235
    go_wp2_with fail
    refine (warm_yes a L.length c (FL L) i j _ S0.out.2.1 HJ.out HFZ.out).mono ?_
    rintro e w1 ⟨rfl,B1⟩
    have S1:Hid (HS w (w1.alloc (.cells #[.int .i64 (FL L j).id,.int .i64 (FL L j).up,.int .i64 (FL L j).limit,.int .i64 (FL L j).rate,.int .i64 (FL L j).target,.bool false,.int .i64 (FL L j).balance,.int .i64 (FL L j).carry] 30)) #[.int .i64 i] 214 a L.length (FL L) p):=(S0.out.below B1).alloc _
    have X1:=S1.out.1
    clear B1 S0
    have gv:=S1.out.2.2.1.var 6 (by omega)
    go_wp2
    go_ret
    exact ⟨HEnds.ref i 6 (by omega) E.out (by decide),S1.out.2.2.2.1⟩
   have hbb:((FL L j).balance != 0)=false:=by simp[hb]
   have EK:Hid ((closeS L j).1=if kids (FL L) i L.length≠[] then 8 else 0):=by
    show (closeS L j).1=_
    unfold closeS
    rw[HID.out]
    by_cases hk:kids (FL L) i L.length=[]
    ·simp[hb,hk]
    ·simp[hk]
   have hkl:(kids (FL L) i L.length).length<=L.length:=kids_len _ _ _
   clear hb
   go_enter Tryz.func235,Tryz.ntmps235
   go_wp2_with fail
   refine (warm_yes a L.length c (FL L) i j _ S0.out.2.1 HJ.out HFZ.out).mono ?_
   rintro e w1 ⟨rfl,B1⟩
   have S1:Hid (HS w (w1.alloc (.cells #[.int .i64 (FL L j).id,.int .i64 (FL L j).up,.int .i64 (FL L j).limit,.int .i64 (FL L j).rate,.int .i64 (FL L j).target,.bool false,.int .i64 (FL L j).balance,.int .i64 (FL L j).carry] 30)) #[.int .i64 i] 214 a L.length (FL L) p):=(S0.out.below B1).alloc _
   have X1:=S1.out.1
   clear B1 S0
   go_wp2_with fail
   refine (implKids_yes a L.length c (FL L) i _ S1.out.2.1 HR.out).mono ?_
   rintro e w2 ⟨v,rfl,I2,B2⟩
   have S2:=hidOf (S1.out.below B2)
   have X2:=S2.out.1
   obtain ⟨av,cv,hv,_,_⟩:=I2.shape
   subst hv
   clear B2 I2 S1 X1
   by_cases hk:kids (FL L) i L.length=[]
   ·have E:Hid ((partS L 4 i t m r).1=0):=(by rw[EA.out,EC.out,EK.out];simp[hk]:(partS L 4 i t m r).1=0)
    rw[hk]
    clear hk
    go_wp2
    go_ret
    exact ⟨HEnds.ok E.out,S2.out.2.2.2.1⟩
   ·have E:Hid ((partS L 4 i t m r).1=codeG 6):=(by rw[EA.out,EC.out,EK.out];simp[hk,codeG]:(partS L 4 i t m r).1=codeG 6)
    have hkp:0<(kids (FL L) i L.length).length:=List.length_pos_iff.2 hk
    have hkd:decide ((0:Int)<((kids (FL L) i L.length).length:Int))=true:=decide_eq_true (by omega)
    clear hk
    have gv:=S2.out.2.2.1.var 6 (by omega)
    go_wp2
    go_ret
    exact ⟨HEnds.ref i 6 (by omega) E.out (by decide),S2.out.2.2.2.1⟩
theorem hTake (a:Option Addr) (c:Nat) (L:List Acc) (i t m r:Int) (p:Nat->Addr) (w:World) (h:Fo w a L.length (FL L)) (hR:Right (FL L) L.length) (hG:GE w p):
  Calls Tryz.prog 238 #[.agg #[.int .i64 i,.int .i64 m],.slice a L.length c] w fun e w'=>HEnds p (partS L 6 i t m r).1 e/\Below w.heap.size w w':=by
 have S0:Hid (HS w (w.alloc (.cells #[.int .i64 i,.int .i64 m] 217)) #[.int .i64 i,.int .i64 m] 217 a L.length (FL L) p):=HS.new _ _ h hG
 have HR:=hidOf hR
 have hn12:=hR.1
 clear h hR hG
 cases hp:place (FL L) L.length i with
 | none=>
  have HJ:=hidOf hp
  have E:Hid ((partS L 6 i t m r).1=codeG 2):=part_none (by decide) hp
  clear hp
  go_enter Tryz.func238,Tryz.ntmps238
  go_wp2_with fail
  refine (warm_no a L.length c (FL L) i p _ S0.out.2.1 HJ.out S0.out.2.2.1).mono ?_
  rintro e w1 ⟨rfl,B1⟩
  have S1:Hid (HS w (w1.alloc (.cells #[.int .i64 0,.int .i64 0,.int .i64 0,.int .i64 0,.int .i64 0,.bool false,.int .i64 0,.int .i64 0] 30)) #[.int .i64 i,.int .i64 m] 217 a L.length (FL L) p):=(S0.out.below B1).alloc _
  have X1:=S1.out.1
  clear B1 S0
  go_wp2
  go_ret
  exact ⟨HEnds.ref i 2 (by omega) E.out (by decide),S1.out.2.2.2.1⟩
 | some j=>
  have HJ:=hidOf hp
  obtain ⟨hj,hid⟩:=place_some hp
  have HID:=hidOf hid
  have EA:Hid ((partS L 6 i t m r).1=(actS L j 6 m).1):=part_act (by decide) (by decide) (by decide) hp
  clear hp hid
  cases hf:(FL L j).frozen with
  | true=>
   have HFZ:=hidOf hf
   have E:Hid ((partS L 6 i t m r).1=codeG 4):=(by rw[EA.out];simp[actS,hf,codeG]:(partS L 6 i t m r).1=codeG 4)
   clear hf
   go_enter Tryz.func238,Tryz.ntmps238
   go_wp2_with fail
   refine (warm_frozen a L.length c (FL L) i j p _ S0.out.2.1 HJ.out HFZ.out S0.out.2.2.1).mono ?_
   rintro e w1 ⟨rfl,B1⟩
   have S1:Hid (HS w (w1.alloc (.cells #[.int .i64 (FL L j).id,.int .i64 (FL L j).up,.int .i64 (FL L j).limit,.int .i64 (FL L j).rate,.int .i64 (FL L j).target,.bool true,.int .i64 (FL L j).balance,.int .i64 (FL L j).carry] 30)) #[.int .i64 i,.int .i64 m] 217 a L.length (FL L) p):=(S0.out.below B1).alloc _
   have X1:=S1.out.1
   clear B1 S0
   go_wp2
   go_ret
   exact ⟨HEnds.ref i 4 (by omega) E.out (by decide),S1.out.2.2.2.1⟩
  | false=>
   have HFZ:=hidOf hf
   have ET:Hid ((actS L j 6 m).1=(takeS L j m).1):=(by simp[actS,hf]:(actS L j 6 m).1=(takeS L j m).1)
   have HTS:Hid ((room (FL L) L.length [] j).getD 0<m↔shortP (FL L) L.length (pathL (FL L) L.length j) [] m):=take_short HR.out hj
   have HC:Hid (chain (FL L) L.length L.length i=some (pathL (FL L) L.length j)):=by
    have:=path_of HR.out hj
    rw[HID.out] at this
    exact this
   clear hf
   go_enter Tryz.func238,Tryz.ntmps238
   go_wp2_with fail
   refine (warm_yes a L.length c (FL L) i j _ S0.out.2.1 HJ.out HFZ.out).mono ?_
   rintro e w1 ⟨rfl,B1⟩
   have S1:Hid (HS w (w1.alloc (.cells #[.int .i64 (FL L j).id,.int .i64 (FL L j).up,.int .i64 (FL L j).limit,.int .i64 (FL L j).rate,.int .i64 (FL L j).target,.bool false,.int .i64 (FL L j).balance,.int .i64 (FL L j).carry] 30)) #[.int .i64 i,.int .i64 m] 217 a L.length (FL L) p):=(S0.out.below B1).alloc _
   have X1:=S1.out.1
   clear B1 S0
   go_wp2_with fail
   refine (shortOn a L.length c (FL L) i 0 m (pathL (FL L) L.length j) [] p _ S1.out.2.1 HR.out HC.out (chain_zero _ _ _) S1.out.2.2.1).mono ?_
   rintro e w2 ⟨hs,B2⟩
   have S2:=hidOf (S1.out.below B2)
   clear B2 S1 X1
   rcases hs with ⟨hs,i2,rfl⟩|⟨hs,rfl⟩
   ·have E:Hid ((partS L 6 i t m r).1=codeG 5):=(by rw[EA.out,ET.out];unfold takeS;rw[if_pos (HTS.out.2 hs)];rfl:(partS L 6 i t m r).1=codeG 5)
    clear hs
    unfold refV
    go_wp2
    go_ret
    exact ⟨HEnds.ref i2 5 (by omega) E.out (by decide),S2.out.2.2.2.1⟩
   ·have E:Hid ((partS L 6 i t m r).1=0):=(by rw[EA.out,ET.out];unfold takeS;rw[if_neg (fun h=>hs (HTS.out.1 h))]:(partS L 6 i t m r).1=0)
    clear hs
    go_wp2
    go_ret
    exact ⟨HEnds.ok E.out,S2.out.2.2.2.1⟩
theorem hOpen (a:Option Addr) (c:Nat) (L:List Acc) (i t m r:Int) (p:Nat->Addr) (w:World) (h:Fo w a L.length (FL L)) (hR:Right (FL L) L.length) (hG:GE w p):
  Calls Tryz.prog 232 #[.agg #[.int .i64 i,.int .i64 t,.int .i64 m,.int .i64 r,.int .i64 (-1),.bool false,.int .i64 0,.int .i64 0],.slice a L.length c] w fun e w'=>HEnds p (partS L 1 i t m r).1 e/\Below w.heap.size w w':=by
 have S0:Hid (HS w (w.alloc (.cells #[.int .i64 i,.int .i64 t,.int .i64 m,.int .i64 r,.int .i64 (-1),.bool false,.int .i64 0,.int .i64 0] 210)) #[.int .i64 i,.int .i64 t,.int .i64 m,.int .i64 r,.int .i64 (-1),.bool false,.int .i64 0,.int .i64 0] 210 a L.length (FL L) p):=HS.new _ _ h hG
 have HR:=hidOf hR
 have hn12:=hR.1
 clear h hR hG
 have EO:Hid ((partS L 1 i t m r).1=(openS L i t m r).1):=(by simp[partS]:(partS L 1 i t m r).1=(openS L i t m r).1)
 cases hp:place (FL L) L.length i with
 | some j=>
  have HJ:=hidOf hp
  have E:Hid ((partS L 1 i t m r).1=codeG 3):=(by rw[EO.out];simp[openS,hp,codeG]:(partS L 1 i t m r).1=codeG 3)
  clear hp
  go_enter Tryz.func232,Tryz.ntmps232
  go_wp2_with fail
  refine (found_yes a L.length c (FL L) i j _ S0.out.2.1 HJ.out).mono ?_
  rintro e w1 ⟨rfl,B1⟩
  have S1:Hid (HS w (w1.alloc (.cells #[.int .i64 (FL L j).id,.int .i64 (FL L j).up,.int .i64 (FL L j).limit,.int .i64 (FL L j).rate,.int .i64 (FL L j).target,.bool (FL L j).frozen,.int .i64 (FL L j).balance,.int .i64 (FL L j).carry] 30)) #[.int .i64 i,.int .i64 t,.int .i64 m,.int .i64 r,.int .i64 (-1),.bool false,.int .i64 0,.int .i64 0] 210 a L.length (FL L) p):=(S0.out.below B1).alloc _
  have X1:=S1.out.1
  clear B1 S0
  have gv:=S1.out.2.2.1.var 3 (by omega)
  go_wp2
  go_ret
  exact ⟨HEnds.ref i 3 (by omega) E.out (by decide),S1.out.2.2.2.1⟩
 | none=>
  have HJ:=hidOf hp
  by_cases ht:t=0
  ·have htb:(t == 0)=true:=by simp[ht]
   have E:Hid ((partS L 1 i t m r).1=0):=(by rw[EO.out];simp[openS,hp,ht]:(partS L 1 i t m r).1=0)
   clear hp ht
   go_enter Tryz.func232,Tryz.ntmps232
   go_wp2_with fail
   refine (found_no a L.length c (FL L) i p _ S0.out.2.1 HJ.out S0.out.2.2.1).mono ?_
   rintro e w1 ⟨rfl,B1⟩
   have S1:Hid (HS w (w1.alloc (.cells #[.int .i64 0,.int .i64 0,.int .i64 0,.int .i64 0,.int .i64 0,.bool false,.int .i64 0,.int .i64 0] 30)) #[.int .i64 i,.int .i64 t,.int .i64 m,.int .i64 r,.int .i64 (-1),.bool false,.int .i64 0,.int .i64 0] 210 a L.length (FL L) p):=(S0.out.below B1).alloc _
   have X1:=S1.out.1
   clear B1 S0
   go_wp2
   go_ret
   exact ⟨HEnds.ok E.out,S1.out.2.2.2.1⟩
  have htb:(t == 0)=false:=by simp[ht]
  cases hq:place (FL L) L.length t with
  | some q=>
   have HQ:=hidOf hq
   have E:Hid ((partS L 1 i t m r).1=0):=(by rw[EO.out];simp[openS,hp,hq]:(partS L 1 i t m r).1=0)
   clear hp hq ht
   go_enter Tryz.func232,Tryz.ntmps232
   go_wp2_with fail
   refine (found_no a L.length c (FL L) i p _ S0.out.2.1 HJ.out S0.out.2.2.1).mono ?_
   rintro e w1 ⟨rfl,B1⟩
   have S1:Hid (HS w (w1.alloc (.cells #[.int .i64 0,.int .i64 0,.int .i64 0,.int .i64 0,.int .i64 0,.bool false,.int .i64 0,.int .i64 0] 30)) #[.int .i64 i,.int .i64 t,.int .i64 m,.int .i64 r,.int .i64 (-1),.bool false,.int .i64 0,.int .i64 0] 210 a L.length (FL L) p):=(S0.out.below B1).alloc _
   have X1:=S1.out.1
   clear B1 S0
   go_wp2_with fail
   refine (found_yes a L.length c (FL L) t q _ S1.out.2.1 HQ.out).mono ?_
   rintro e w2 ⟨rfl,B2⟩
   have S2:Hid (HS w (w2.alloc (.cells #[.int .i64 (FL L q).id,.int .i64 (FL L q).up,.int .i64 (FL L q).limit,.int .i64 (FL L q).rate,.int .i64 (FL L q).target,.bool (FL L q).frozen,.int .i64 (FL L q).balance,.int .i64 (FL L q).carry] 30)) #[.int .i64 i,.int .i64 t,.int .i64 m,.int .i64 r,.int .i64 (-1),.bool false,.int .i64 0,.int .i64 0] 210 a L.length (FL L) p):=(S1.out.below B2).alloc _
   have X2:=S2.out.1
   clear B2 S1 X1
   go_wp2
   go_ret
   exact ⟨HEnds.ok E.out,S2.out.2.2.2.1⟩
  | none=>
   have HQ:=hidOf hq
   have E:Hid ((partS L 1 i t m r).1=codeG 2):=(by rw[EO.out];simp[openS,hp,hq,ht,codeG]:(partS L 1 i t m r).1=codeG 2)
   clear hp hq ht
   go_enter Tryz.func232,Tryz.ntmps232
   go_wp2_with fail
   refine (found_no a L.length c (FL L) i p _ S0.out.2.1 HJ.out S0.out.2.2.1).mono ?_
   rintro e w1 ⟨rfl,B1⟩
   have S1:Hid (HS w (w1.alloc (.cells #[.int .i64 0,.int .i64 0,.int .i64 0,.int .i64 0,.int .i64 0,.bool false,.int .i64 0,.int .i64 0] 30)) #[.int .i64 i,.int .i64 t,.int .i64 m,.int .i64 r,.int .i64 (-1),.bool false,.int .i64 0,.int .i64 0] 210 a L.length (FL L) p):=(S0.out.below B1).alloc _
   have X1:=S1.out.1
   clear B1 S0
   go_wp2_with fail
   refine (found_no a L.length c (FL L) t p _ S1.out.2.1 HQ.out S1.out.2.2.1).mono ?_
   rintro e w2 ⟨rfl,B2⟩
   have S2:Hid (HS w (w2.alloc (.cells #[.int .i64 0,.int .i64 0,.int .i64 0,.int .i64 0,.int .i64 0,.bool false,.int .i64 0,.int .i64 0] 30)) #[.int .i64 i,.int .i64 t,.int .i64 m,.int .i64 r,.int .i64 (-1),.bool false,.int .i64 0,.int .i64 0] 210 a L.length (FL L) p):=(S1.out.below B2).alloc _
   have X2:=S2.out.1
   clear B2 S1 X1
   go_wp2
   go_ret
   exact ⟨HEnds.ref t 2 (by omega) E.out (by decide),S2.out.2.2.2.1⟩
open Go.RowKit
theorem hPay (a:Option Addr) (c:Nat) (L:List Acc) (i t m r:Int) (p:Nat->Addr) (w:World) (h:Fo w a L.length (FL L)) (hR:Right (FL L) L.length) (hG:GE w p):
  Calls Tryz.prog 244 #[.agg #[.int .i64 i,.int .i64 t,.int .i64 m],.slice a L.length c] w fun e w'=>HEnds p (partS L 7 i t m r).1 e/\Below w.heap.size w w':=by
 have S0:Hid (HS w (w.alloc (.cells #[.int .i64 i,.int .i64 t,.int .i64 m] 219)) #[.int .i64 i,.int .i64 t,.int .i64 m] 219 a L.length (FL L) p):=HS.new _ _ h hG
 have HR:=hidOf hR
 have hn12:=hR.1
 clear h hR hG
 cases hp:place (FL L) L.length i with
 | none=>
  have HJ:=hidOf hp
  have E:Hid ((partS L 7 i t m r).1=codeG 2):=part_none (by decide) hp
  clear hp
  go_enter Tryz.func244,Tryz.ntmps244
  go_wp2_with fail
  refine (found_no a L.length c (FL L) i p _ S0.out.2.1 HJ.out S0.out.2.2.1).mono ?_
  rintro e w1 ⟨rfl,B1⟩
  have S1:Hid (HS w (w1.alloc (.cells #[.int .i64 0,.int .i64 0,.int .i64 0,.int .i64 0,.int .i64 0,.bool false,.int .i64 0,.int .i64 0] 30)) #[.int .i64 i,.int .i64 t,.int .i64 m] 219 a L.length (FL L) p):=(S0.out.below B1).alloc _
  have X1:=S1.out.1
  clear B1 S0
  go_wp2
  go_ret
  exact ⟨HEnds.ref i 2 (by omega) E.out (by decide),S1.out.2.2.2.1⟩
 | some j=>
  have HJ:=hidOf hp
  obtain ⟨hj,hid⟩:=place_some hp
  have HC:Hid (chain (FL L) L.length L.length i=some (pathL (FL L) L.length j)):=by
   have:=path_of HR.out hj
   rw[hid] at this
   exact this
  cases hq:place (FL L) L.length t with
  | none=>
   have HQ:=hidOf hq
   have E:Hid ((partS L 7 i t m r).1=codeG 2):=(by simp[partS,hp,hq,codeG]:(partS L 7 i t m r).1=codeG 2)
   clear hp hq hid
   go_enter Tryz.func244,Tryz.ntmps244
   go_wp2_with fail
   refine (found_yes a L.length c (FL L) i j _ S0.out.2.1 HJ.out).mono ?_
   rintro e w1 ⟨rfl,B1⟩
   have S1:Hid (HS w (w1.alloc (.cells #[.int .i64 (FL L j).id,.int .i64 (FL L j).up,.int .i64 (FL L j).limit,.int .i64 (FL L j).rate,.int .i64 (FL L j).target,.bool (FL L j).frozen,.int .i64 (FL L j).balance,.int .i64 (FL L j).carry] 30)) #[.int .i64 i,.int .i64 t,.int .i64 m] 219 a L.length (FL L) p):=(S0.out.below B1).alloc _
   have X1:=S1.out.1
   clear B1 S0
   go_wp2_with fail
   refine (warm_no a L.length c (FL L) t p _ S1.out.2.1 HQ.out S1.out.2.2.1).mono ?_
   rintro e w2 ⟨rfl,B2⟩
   have S2:Hid (HS w (w2.alloc (.cells #[.int .i64 0,.int .i64 0,.int .i64 0,.int .i64 0,.int .i64 0,.bool false,.int .i64 0,.int .i64 0] 30)) #[.int .i64 i,.int .i64 t,.int .i64 m] 219 a L.length (FL L) p):=(S1.out.below B2).alloc _
   have X2:=S2.out.1
   clear B2 S1 X1
   go_wp2
   go_ret
   exact ⟨HEnds.ref t 2 (by omega) E.out (by decide),S2.out.2.2.2.1⟩
  | some q=>
   have HQ:=hidOf hq
   obtain ⟨hql,hqid⟩:=place_some hq
   have HCT:Hid (chain (FL L) L.length L.length t=some (pathL (FL L) L.length q)):=by
    have:=path_of HR.out hql
    rw[hqid] at this
    exact this
   have EP:Hid ((partS L 7 i t m r).1=(payS L j q m).1):=(by simp[partS,hp,hq]:(partS L 7 i t m r).1=(payS L j q m).1)
   have HPS:Hid (payShort L j q m↔shortP (FL L) L.length (pathL (FL L) L.length j) (pathL (FL L) L.length q) m):=pay_short HR.out hj
   clear hp hq hid hqid
   cases hfq:(FL L q).frozen with
   | true=>
    have HFQ:=hidOf hfq
    have E:Hid ((partS L 7 i t m r).1=codeG 4):=(by rw[EP.out];simp[payS,hfq,codeG]:(partS L 7 i t m r).1=codeG 4)
    clear hfq
    go_enter Tryz.func244,Tryz.ntmps244
    go_wp2_with fail
    refine (found_yes a L.length c (FL L) i j _ S0.out.2.1 HJ.out).mono ?_
    rintro e w1 ⟨rfl,B1⟩
    have S1:Hid (HS w (w1.alloc (.cells #[.int .i64 (FL L j).id,.int .i64 (FL L j).up,.int .i64 (FL L j).limit,.int .i64 (FL L j).rate,.int .i64 (FL L j).target,.bool (FL L j).frozen,.int .i64 (FL L j).balance,.int .i64 (FL L j).carry] 30)) #[.int .i64 i,.int .i64 t,.int .i64 m] 219 a L.length (FL L) p):=(S0.out.below B1).alloc _
    have X1:=S1.out.1
    clear B1 S0
    go_wp2_with fail
    refine (warm_frozen a L.length c (FL L) t q p _ S1.out.2.1 HQ.out HFQ.out S1.out.2.2.1).mono ?_
    rintro e w2 ⟨rfl,B2⟩
    have S2:Hid (HS w (w2.alloc (.cells #[.int .i64 (FL L q).id,.int .i64 (FL L q).up,.int .i64 (FL L q).limit,.int .i64 (FL L q).rate,.int .i64 (FL L q).target,.bool true,.int .i64 (FL L q).balance,.int .i64 (FL L q).carry] 30)) #[.int .i64 i,.int .i64 t,.int .i64 m] 219 a L.length (FL L) p):=(S1.out.below B2).alloc _
    have X2:=S2.out.1
    clear B2 S1 X1
    go_wp2
    go_ret
    exact ⟨HEnds.ref t 4 (by omega) E.out (by decide),S2.out.2.2.2.1⟩
   | false=>
    have HFQ:=hidOf hfq
    cases hfj:(FL L j).frozen with
    | true=>
     have HFZ:=hidOf hfj
     have E:Hid ((partS L 7 i t m r).1=codeG 4):=(by rw[EP.out];simp[payS,hfj,codeG]:(partS L 7 i t m r).1=codeG 4)
     clear hfq hfj
     go_enter Tryz.func244,Tryz.ntmps244
     go_wp2_with fail
     refine (found_yes a L.length c (FL L) i j _ S0.out.2.1 HJ.out).mono ?_
     rintro e w1 ⟨rfl,B1⟩
     have S1:Hid (HS w (w1.alloc (.cells #[.int .i64 (FL L j).id,.int .i64 (FL L j).up,.int .i64 (FL L j).limit,.int .i64 (FL L j).rate,.int .i64 (FL L j).target,.bool (FL L j).frozen,.int .i64 (FL L j).balance,.int .i64 (FL L j).carry] 30)) #[.int .i64 i,.int .i64 t,.int .i64 m] 219 a L.length (FL L) p):=(S0.out.below B1).alloc _
     have X1:=S1.out.1
     clear B1 S0
     go_wp2_with fail
     refine (warm_yes a L.length c (FL L) t q _ S1.out.2.1 HQ.out HFQ.out).mono ?_
     rintro e w2 ⟨rfl,B2⟩
     have S2:Hid (HS w (w2.alloc (.cells #[.int .i64 (FL L q).id,.int .i64 (FL L q).up,.int .i64 (FL L q).limit,.int .i64 (FL L q).rate,.int .i64 (FL L q).target,.bool false,.int .i64 (FL L q).balance,.int .i64 (FL L q).carry] 30)) #[.int .i64 i,.int .i64 t,.int .i64 m] 219 a L.length (FL L) p):=(S1.out.below B2).alloc _
     have X2:=S2.out.1
     clear B2 S1 X1
     go_wp2_with fail
     refine (warm_frozen a L.length c (FL L) i j p _ S2.out.2.1 HJ.out HFZ.out S2.out.2.2.1).mono ?_
     rintro e w3 ⟨rfl,B3⟩
     have S3:Hid (HS w (w3.alloc (.cells #[.int .i64 (FL L j).id,.int .i64 (FL L j).up,.int .i64 (FL L j).limit,.int .i64 (FL L j).rate,.int .i64 (FL L j).target,.bool true,.int .i64 (FL L j).balance,.int .i64 (FL L j).carry] 30)) #[.int .i64 i,.int .i64 t,.int .i64 m] 219 a L.length (FL L) p):=(S2.out.below B3).alloc _
     have X3:=S3.out.1
     clear B3 S2 X2
     go_wp2
     go_ret
     exact ⟨HEnds.ref i 4 (by omega) E.out (by decide),S3.out.2.2.2.1⟩
    | false=>
     have HFZ:=hidOf hfj
     have EP2:Hid ((payShort L j q m->(payS L j q m).1=6)/\(¬payShort L j q m->(payS L j q m).1=0)):=⟨fun h=>by simp[payS,hfj,hfq,h],fun h=>by simp[payS,hfj,hfq,h]⟩
     clear hfq hfj
     go_enter Tryz.func244,Tryz.ntmps244
     go_wp2_with fail
     refine (found_yes a L.length c (FL L) i j _ S0.out.2.1 HJ.out).mono ?_
     rintro e w1 ⟨rfl,B1⟩
     have S1:Hid (HS w (w1.alloc (.cells #[.int .i64 (FL L j).id,.int .i64 (FL L j).up,.int .i64 (FL L j).limit,.int .i64 (FL L j).rate,.int .i64 (FL L j).target,.bool (FL L j).frozen,.int .i64 (FL L j).balance,.int .i64 (FL L j).carry] 30)) #[.int .i64 i,.int .i64 t,.int .i64 m] 219 a L.length (FL L) p):=(S0.out.below B1).alloc _
     have X1:=S1.out.1
     clear B1 S0
     go_wp2_with fail
     refine (warm_yes a L.length c (FL L) t q _ S1.out.2.1 HQ.out HFQ.out).mono ?_
     rintro e w2 ⟨rfl,B2⟩
     have S2:Hid (HS w (w2.alloc (.cells #[.int .i64 (FL L q).id,.int .i64 (FL L q).up,.int .i64 (FL L q).limit,.int .i64 (FL L q).rate,.int .i64 (FL L q).target,.bool false,.int .i64 (FL L q).balance,.int .i64 (FL L q).carry] 30)) #[.int .i64 i,.int .i64 t,.int .i64 m] 219 a L.length (FL L) p):=(S1.out.below B2).alloc _
     have X2:=S2.out.1
     clear B2 S1 X1
     go_wp2_with fail
     refine (warm_yes a L.length c (FL L) i j _ S2.out.2.1 HJ.out HFZ.out).mono ?_
     rintro e w3 ⟨rfl,B3⟩
     have S3:Hid (HS w (w3.alloc (.cells #[.int .i64 (FL L j).id,.int .i64 (FL L j).up,.int .i64 (FL L j).limit,.int .i64 (FL L j).rate,.int .i64 (FL L j).target,.bool false,.int .i64 (FL L j).balance,.int .i64 (FL L j).carry] 30)) #[.int .i64 i,.int .i64 t,.int .i64 m] 219 a L.length (FL L) p):=(S2.out.below B3).alloc _
     have X3:=S3.out.1
     clear B3 S2 X2
     go_wp2_with fail
     refine (shortOn a L.length c (FL L) i t m (pathL (FL L) L.length j) (pathL (FL L) L.length q) p _ S3.out.2.1 HR.out HC.out HCT.out S3.out.2.2.1).mono ?_
     rintro e w4 ⟨hs,B4⟩
     have S4:=hidOf (S3.out.below B4)
     clear B4 S3 X3
     rcases hs with ⟨hs,i2,rfl⟩|⟨hs,rfl⟩
     ·have E:Hid ((partS L 7 i t m r).1=codeG 5):=(by rw[EP.out];exact EP2.out.1 (HPS.out.2 hs):(partS L 7 i t m r).1=codeG 5)
      clear hs
      unfold refV
      go_wp2
      go_ret
      exact ⟨HEnds.ref i2 5 (by omega) E.out (by decide),S4.out.2.2.2.1⟩
     ·have E:Hid ((partS L 7 i t m r).1=0):=(by rw[EP.out];exact EP2.out.2 (fun h=>hs (HPS.out.1 h)):(partS L 7 i t m r).1=0)
      clear hs
      go_wp2
      go_ret
      exact ⟨HEnds.ok E.out,S4.out.2.2.2.1⟩
open Go.RowKit
theorem hHang (a:Option Addr) (c:Nat) (L:List Acc) (i t m r:Int) (p:Nat->Addr) (w:World) (h:Fo w a L.length (FL L)) (hR:Right (FL L) L.length) (hG:GE w p):
  Calls Tryz.prog 247 #[.agg #[.int .i64 i,.int .i64 t],.slice a L.length c] w fun e w'=>HEnds p (partS L 9 i t m r).1 e/\Below w.heap.size w w':=by
 have S0:Hid (HS w (w.alloc (.cells #[.int .i64 i,.int .i64 t] 225)) #[.int .i64 i,.int .i64 t] 225 a L.length (FL L) p):=HS.new _ _ h hG
 have HR:=hidOf hR
 have hn12:=hR.1
 clear h hR hG
 cases hp:place (FL L) L.length i with
 | none=>
  have HJ:=hidOf hp
  have E:Hid ((partS L 9 i t m r).1=codeG 2):=part_none (by decide) hp
  clear hp
  go_enter Tryz.func247,Tryz.ntmps247
  go_wp2_with fail
  refine (found_no a L.length c (FL L) i p _ S0.out.2.1 HJ.out S0.out.2.2.1).mono ?_
  rintro e w1 ⟨rfl,B1⟩
  have S1:Hid (HS w (w1.alloc (.cells #[.int .i64 0,.int .i64 0,.int .i64 0,.int .i64 0,.int .i64 0,.bool false,.int .i64 0,.int .i64 0] 30)) #[.int .i64 i,.int .i64 t] 225 a L.length (FL L) p):=(S0.out.below B1).alloc _
  have X1:=S1.out.1
  clear B1 S0
  go_wp2
  go_ret
  exact ⟨HEnds.ref i 2 (by omega) E.out (by decide),S1.out.2.2.2.1⟩
 | some j=>
  have HJ:=hidOf hp
  obtain ⟨hj,hid⟩:=place_some hp
  cases hq:place (FL L) L.length t with
  | none=>
   have HQ:=hidOf hq
   have E:Hid ((partS L 9 i t m r).1=codeG 2):=(by simp[partS,hp,hq,codeG]:(partS L 9 i t m r).1=codeG 2)
   clear hp hq hid
   go_enter Tryz.func247,Tryz.ntmps247
   go_wp2_with fail
   refine (found_yes a L.length c (FL L) i j _ S0.out.2.1 HJ.out).mono ?_
   rintro e w1 ⟨rfl,B1⟩
   have S1:Hid (HS w (w1.alloc (.cells #[.int .i64 (FL L j).id,.int .i64 (FL L j).up,.int .i64 (FL L j).limit,.int .i64 (FL L j).rate,.int .i64 (FL L j).target,.bool (FL L j).frozen,.int .i64 (FL L j).balance,.int .i64 (FL L j).carry] 30)) #[.int .i64 i,.int .i64 t] 225 a L.length (FL L) p):=(S0.out.below B1).alloc _
   have X1:=S1.out.1
   clear B1 S0
   go_wp2_with fail
   refine (found_no a L.length c (FL L) t p _ S1.out.2.1 HQ.out S1.out.2.2.1).mono ?_
   rintro e w2 ⟨rfl,B2⟩
   have S2:Hid (HS w (w2.alloc (.cells #[.int .i64 0,.int .i64 0,.int .i64 0,.int .i64 0,.int .i64 0,.bool false,.int .i64 0,.int .i64 0] 30)) #[.int .i64 i,.int .i64 t] 225 a L.length (FL L) p):=(S1.out.below B2).alloc _
   have X2:=S2.out.1
   clear B2 S1 X1
   go_wp2
   go_ret
   exact ⟨HEnds.ref t 2 (by omega) E.out (by decide),S2.out.2.2.2.1⟩
  | some q=>
   have HQ:=hidOf hq
   obtain ⟨hql,hqid⟩:=place_some hq
   have HCT:Hid (chain (FL L) L.length L.length t=some (pathL (FL L) L.length q)):=by
    have:=path_of HR.out hql
    rw[hqid] at this
    exact this
   have EH:Hid ((partS L 9 i t m r).1=(hangS L j q ((place (FL L) L.length (FL L j).up).getD 0)).1):=(by simp[partS,hp,hq]:(partS L 9 i t m r).1=(hangS L j q ((place (FL L) L.length (FL L j).up).getD 0)).1)
   have HID:=hidOf hid
   clear hp hq hid hqid
   by_cases hu:(FL L j).up=0
   ·have hub:((FL L j).up == 0)=true:=by simp[hu]
    have E:Hid ((partS L 9 i t m r).1=codeG 6):=(by rw[EH.out];simp[hangS,hu,codeG]:(partS L 9 i t m r).1=codeG 6)
    clear hu
    go_enter Tryz.func247,Tryz.ntmps247
    go_wp2_with fail
    refine (found_yes a L.length c (FL L) i j _ S0.out.2.1 HJ.out).mono ?_
    rintro e w1 ⟨rfl,B1⟩
    have S1:Hid (HS w (w1.alloc (.cells #[.int .i64 (FL L j).id,.int .i64 (FL L j).up,.int .i64 (FL L j).limit,.int .i64 (FL L j).rate,.int .i64 (FL L j).target,.bool (FL L j).frozen,.int .i64 (FL L j).balance,.int .i64 (FL L j).carry] 30)) #[.int .i64 i,.int .i64 t] 225 a L.length (FL L) p):=(S0.out.below B1).alloc _
    have X1:=S1.out.1
    clear B1 S0
    have hz1:w1.heap.size<(w1.alloc (.cells #[.int .i64 (FL L j).id,.int .i64 (FL L j).up,.int .i64 (FL L j).limit,.int .i64 (FL L j).rate,.int .i64 (FL L j).target,.bool (FL L j).frozen,.int .i64 (FL L j).balance,.int .i64 (FL L j).carry] 30)).heap.size:=by simp
    go_wp2_with fail
    refine (found_yes a L.length c (FL L) t q _ S1.out.2.1 HQ.out).mono ?_
    rintro e w2 ⟨rfl,B2⟩
    have hz2:w1.heap.size<w2.heap.size:=Nat.lt_of_lt_of_le hz1 B2.size
    have S2:Hid (HS w (w2.alloc (.cells #[.int .i64 (FL L q).id,.int .i64 (FL L q).up,.int .i64 (FL L q).limit,.int .i64 (FL L q).rate,.int .i64 (FL L q).target,.bool (FL L q).frozen,.int .i64 (FL L q).balance,.int .i64 (FL L q).carry] 30)) #[.int .i64 i,.int .i64 t] 225 a L.length (FL L) p):=(S1.out.below B2).alloc _
    have X2:=S2.out.1
    have Y2:∀y,(w2.alloc (.cells #[.int .i64 (FL L q).id,.int .i64 (FL L q).up,.int .i64 (FL L q).limit,.int .i64 (FL L q).rate,.int .i64 (FL L q).target,.bool (FL L q).frozen,.int .i64 (FL L q).balance,.int .i64 (FL L q).carry] 30)).cell? ⟨w1.heap.size,y,none⟩=(w1.alloc (.cells #[.int .i64 (FL L j).id,.int .i64 (FL L j).up,.int .i64 (FL L j).limit,.int .i64 (FL L j).rate,.int .i64 (FL L j).target,.bool (FL L j).frozen,.int .i64 (FL L j).balance,.int .i64 (FL L j).carry] 30)).cell? ⟨w1.heap.size,y,none⟩:=fun y=>by
     rw[World.cell?_alloc_lt _ _ ⟨w1.heap.size,y,none⟩ hz2,B2.cell (p:=⟨w1.heap.size,y,none⟩) hz1]
    clear B2 S1 X1
    have gv:=S2.out.2.2.1.var 6 (by omega)
    go_wp2
    go_ret
    exact ⟨HEnds.ref i 6 (by omega) E.out (by decide),S2.out.2.2.2.1⟩
   have hub:((FL L j).up == 0)=false:=by simp[hu]
   obtain ⟨u,hun,huid,_⟩:=HR.out.path_up hj hu
   have hpu:place (FL L) L.length (FL L j).up=some u:=by rw[←huid];exact place_self HR.out.2.2.1 hun
   have HCU:Hid (chain (FL L) L.length L.length (FL L j).up=some (pathL (FL L) L.length u)):=by
    have:=path_of HR.out hun
    rw[huid] at this
    exact this
   rw[hpu,Option.getD_some] at EH
   by_cases hm:i ∈ pathL (FL L) L.length q
   ·have HM:Hid (i ∈ pathL (FL L) L.length q):=hm
    have E:Hid ((partS L 9 i t m r).1=codeG 6):=(by rw[EH.out];unfold hangS;rw[if_pos (Or.inr (by rw[HID.out];exact hm))];rfl:(partS L 9 i t m r).1=codeG 6)
    clear hu hm huid hpu
    go_enter Tryz.func247,Tryz.ntmps247
    go_wp2_with fail
    refine (found_yes a L.length c (FL L) i j _ S0.out.2.1 HJ.out).mono ?_
    rintro e w1 ⟨rfl,B1⟩
    have S1:Hid (HS w (w1.alloc (.cells #[.int .i64 (FL L j).id,.int .i64 (FL L j).up,.int .i64 (FL L j).limit,.int .i64 (FL L j).rate,.int .i64 (FL L j).target,.bool (FL L j).frozen,.int .i64 (FL L j).balance,.int .i64 (FL L j).carry] 30)) #[.int .i64 i,.int .i64 t] 225 a L.length (FL L) p):=(S0.out.below B1).alloc _
    have X1:=S1.out.1
    clear B1 S0
    have hz1:w1.heap.size<(w1.alloc (.cells #[.int .i64 (FL L j).id,.int .i64 (FL L j).up,.int .i64 (FL L j).limit,.int .i64 (FL L j).rate,.int .i64 (FL L j).target,.bool (FL L j).frozen,.int .i64 (FL L j).balance,.int .i64 (FL L j).carry] 30)).heap.size:=by simp
    go_wp2_with fail
    refine (found_yes a L.length c (FL L) t q _ S1.out.2.1 HQ.out).mono ?_
    rintro e w2 ⟨rfl,B2⟩
    have hz2:w1.heap.size<w2.heap.size:=Nat.lt_of_lt_of_le hz1 B2.size
    have S2:Hid (HS w (w2.alloc (.cells #[.int .i64 (FL L q).id,.int .i64 (FL L q).up,.int .i64 (FL L q).limit,.int .i64 (FL L q).rate,.int .i64 (FL L q).target,.bool (FL L q).frozen,.int .i64 (FL L q).balance,.int .i64 (FL L q).carry] 30)) #[.int .i64 i,.int .i64 t] 225 a L.length (FL L) p):=(S1.out.below B2).alloc _
    have X2:=S2.out.1
    have Y2:∀y,(w2.alloc (.cells #[.int .i64 (FL L q).id,.int .i64 (FL L q).up,.int .i64 (FL L q).limit,.int .i64 (FL L q).rate,.int .i64 (FL L q).target,.bool (FL L q).frozen,.int .i64 (FL L q).balance,.int .i64 (FL L q).carry] 30)).cell? ⟨w1.heap.size,y,none⟩=(w1.alloc (.cells #[.int .i64 (FL L j).id,.int .i64 (FL L j).up,.int .i64 (FL L j).limit,.int .i64 (FL L j).rate,.int .i64 (FL L j).target,.bool (FL L j).frozen,.int .i64 (FL L j).balance,.int .i64 (FL L j).carry] 30)).cell? ⟨w1.heap.size,y,none⟩:=fun y=>by
     rw[World.cell?_alloc_lt _ _ ⟨w1.heap.size,y,none⟩ hz2,B2.cell (p:=⟨w1.heap.size,y,none⟩) hz1]
    clear B2 S1 X1
    go_wp2_with fail
    refine (onPath_yes a L.length c (FL L) i t (pathL (FL L) L.length q) _ S2.out.2.1 HR.out HCT.out HM.out).mono ?_
    rintro e w3 ⟨rfl,B3⟩
    have S3:=hidOf (S2.out.below B3)
    have X3:=S3.out.1
    clear B3 S2 X2 Y2
    have gv:=S3.out.2.2.1.var 6 (by omega)
    go_wp2
    go_ret
    exact ⟨HEnds.ref i 6 (by omega) E.out (by decide),S3.out.2.2.2.1⟩
   have HM:=hidOf hm
   have HHS:Hid (hangShort L j q u↔(0<sumAll (FL L) L.length j/\shortP (FL L) L.length (pathL (FL L) L.length u) (pathL (FL L) L.length q) (sumAll (FL L) L.length j))\/(sumAll (FL L) L.length j<0/\shortP (FL L) L.length (pathL (FL L) L.length q) (pathL (FL L) L.length u) (-sumAll (FL L) L.length j))):=hang_short HR.out
   have EH2:Hid ((hangShort L j q u->(hangS L j q u).1=6)/\(¬hangShort L j q u->(hangS L j q u).1=0)):=by
    have hn:¬((FL L j).up=0\/(FL L j).id ∈ pathL (FL L) L.length q):=by
     rintro (e|e)
     ·exact hu e
     ·rw[HID.out] at e;exact hm e
    exact ⟨fun h=>by unfold hangS;rw[if_neg hn,if_pos h],fun h=>by unfold hangS;rw[if_neg hn,if_neg h]⟩
   obtain ⟨sb1,sb2⟩:=sumAll_bd HR.out j
   clear hu hm huid hpu
   go_enter Tryz.func247,Tryz.ntmps247
   go_wp2_with fail
   refine (found_yes a L.length c (FL L) i j _ S0.out.2.1 HJ.out).mono ?_
   rintro e w1 ⟨rfl,B1⟩
   have S1:Hid (HS w (w1.alloc (.cells #[.int .i64 (FL L j).id,.int .i64 (FL L j).up,.int .i64 (FL L j).limit,.int .i64 (FL L j).rate,.int .i64 (FL L j).target,.bool (FL L j).frozen,.int .i64 (FL L j).balance,.int .i64 (FL L j).carry] 30)) #[.int .i64 i,.int .i64 t] 225 a L.length (FL L) p):=(S0.out.below B1).alloc _
   have X1:=S1.out.1
   clear B1 S0
   have hz1:w1.heap.size<(w1.alloc (.cells #[.int .i64 (FL L j).id,.int .i64 (FL L j).up,.int .i64 (FL L j).limit,.int .i64 (FL L j).rate,.int .i64 (FL L j).target,.bool (FL L j).frozen,.int .i64 (FL L j).balance,.int .i64 (FL L j).carry] 30)).heap.size:=by simp
   go_wp2_with fail
   refine (found_yes a L.length c (FL L) t q _ S1.out.2.1 HQ.out).mono ?_
   rintro e w2 ⟨rfl,B2⟩
   have hz2:w1.heap.size<w2.heap.size:=Nat.lt_of_lt_of_le hz1 B2.size
   have S2:Hid (HS w (w2.alloc (.cells #[.int .i64 (FL L q).id,.int .i64 (FL L q).up,.int .i64 (FL L q).limit,.int .i64 (FL L q).rate,.int .i64 (FL L q).target,.bool (FL L q).frozen,.int .i64 (FL L q).balance,.int .i64 (FL L q).carry] 30)) #[.int .i64 i,.int .i64 t] 225 a L.length (FL L) p):=(S1.out.below B2).alloc _
   have X2:=S2.out.1
   have Y2:∀y,(w2.alloc (.cells #[.int .i64 (FL L q).id,.int .i64 (FL L q).up,.int .i64 (FL L q).limit,.int .i64 (FL L q).rate,.int .i64 (FL L q).target,.bool (FL L q).frozen,.int .i64 (FL L q).balance,.int .i64 (FL L q).carry] 30)).cell? ⟨w1.heap.size,y,none⟩=(w1.alloc (.cells #[.int .i64 (FL L j).id,.int .i64 (FL L j).up,.int .i64 (FL L j).limit,.int .i64 (FL L j).rate,.int .i64 (FL L j).target,.bool (FL L j).frozen,.int .i64 (FL L j).balance,.int .i64 (FL L j).carry] 30)).cell? ⟨w1.heap.size,y,none⟩:=fun y=>by
    rw[World.cell?_alloc_lt _ _ ⟨w1.heap.size,y,none⟩ hz2,B2.cell (p:=⟨w1.heap.size,y,none⟩) hz1]
   clear B2 S1 X1
   go_wp2_with fail
   refine (onPath_no a L.length c (FL L) i t (pathL (FL L) L.length q) _ S2.out.2.1 HR.out HCT.out HM.out).mono ?_
   rintro e w3 ⟨rfl,B3⟩
   have hz2':w1.heap.size<(w2.alloc (.cells #[.int .i64 (FL L q).id,.int .i64 (FL L q).up,.int .i64 (FL L q).limit,.int .i64 (FL L q).rate,.int .i64 (FL L q).target,.bool (FL L q).frozen,.int .i64 (FL L q).balance,.int .i64 (FL L q).carry] 30)).heap.size:=by simp;omega
   have S3:=hidOf (S2.out.below B3)
   have X3:=S3.out.1
   have hz3:w1.heap.size<w3.heap.size:=Nat.lt_of_lt_of_le hz2' B3.size
   have Y3:∀y,w3.cell? ⟨w1.heap.size,y,none⟩=(w1.alloc (.cells #[.int .i64 (FL L j).id,.int .i64 (FL L j).up,.int .i64 (FL L j).limit,.int .i64 (FL L j).rate,.int .i64 (FL L j).target,.bool (FL L j).frozen,.int .i64 (FL L j).balance,.int .i64 (FL L j).carry] 30)).cell? ⟨w1.heap.size,y,none⟩:=fun y=>by
    rw[B3.cell (p:=⟨w1.heap.size,y,none⟩) hz2'];exact Y2 y
   have hz3':=hz3
   clear B3 S2 X2 Y2
   go_wp2_with fail
   refine (implSumFrom a L.length c (FL L) j _ S3.out.2.1 HR.out hj).mono ?_
   rintro e w4 ⟨rfl,B4⟩
   have S4:=hidOf (S3.out.below B4)
   have X4:=S4.out.1
   have hz4:w1.heap.size<w4.heap.size:=Nat.lt_of_lt_of_le hz3' B4.size
   have Y4:∀y,w4.cell? ⟨w1.heap.size,y,none⟩=(w1.alloc (.cells #[.int .i64 (FL L j).id,.int .i64 (FL L j).up,.int .i64 (FL L j).limit,.int .i64 (FL L j).rate,.int .i64 (FL L j).target,.bool (FL L j).frozen,.int .i64 (FL L j).balance,.int .i64 (FL L j).carry] 30)).cell? ⟨w1.heap.size,y,none⟩:=fun y=>by
    rw[B4.cell (p:=⟨w1.heap.size,y,none⟩) hz3'];exact Y3 y
   have hz4':=hz4
   clear B4 S3 X3 Y3
   by_cases s1:0<sumAll (FL L) L.length j
   ·skip
    go_wp2_with fail
    refine (shortOn a L.length c (FL L) (FL L j).up t (sumAll (FL L) L.length j) (pathL (FL L) L.length u) (pathL (FL L) L.length q) p _ S4.out.2.1 HR.out HCU.out HCT.out S4.out.2.2.1).mono ?_
    rintro e w5 ⟨hs,B5⟩
    have S5:=hidOf (S4.out.below B5)
    clear B5 S4 X4 Y4
    rcases hs with ⟨hs,i2,rfl⟩|⟨hs,rfl⟩
    ·have E:Hid ((partS L 9 i t m r).1=codeG 5):=(by rw[EH.out];exact EH2.out.1 (HHS.out.2 (Or.inl ⟨s1,hs⟩)):(partS L 9 i t m r).1=codeG 5)
     clear hs
     unfold refV
     go_wp2
     go_ret
     exact ⟨HEnds.ref i2 5 (by omega) E.out (by decide),S5.out.2.2.2.1⟩
    ·have E:Hid ((partS L 9 i t m r).1=0):=(by rw[EH.out];exact EH2.out.2 (fun h=>(HHS.out.1 h).elim (fun h'=>hs h'.2) (fun h'=>by have:=h'.1;omega)):(partS L 9 i t m r).1=0)
     clear hs
     go_wp2
     go_ret
     exact ⟨HEnds.ok E.out,S5.out.2.2.2.1⟩
   by_cases s2:sumAll (FL L) L.length j<0
   ·skip
    go_wp2_with fail
    refine (shortOn a L.length c (FL L) t (FL L j).up (-sumAll (FL L) L.length j) (pathL (FL L) L.length q) (pathL (FL L) L.length u) p _ S4.out.2.1 HR.out HCT.out HCU.out S4.out.2.2.1).mono ?_
    rintro e w5 ⟨hs,B5⟩
    have S5:=hidOf (S4.out.below B5)
    clear B5 S4 X4 Y4
    rcases hs with ⟨hs,i2,rfl⟩|⟨hs,rfl⟩
    ·have E:Hid ((partS L 9 i t m r).1=codeG 5):=(by rw[EH.out];exact EH2.out.1 (HHS.out.2 (Or.inr ⟨s2,hs⟩)):(partS L 9 i t m r).1=codeG 5)
     clear hs
     unfold refV
     go_wp2
     go_ret
     exact ⟨HEnds.ref i2 5 (by omega) E.out (by decide),S5.out.2.2.2.1⟩
    ·have E:Hid ((partS L 9 i t m r).1=0):=(by rw[EH.out];exact EH2.out.2 (fun h=>(HHS.out.1 h).elim (fun h'=>by have:=h'.1;omega) (fun h'=>hs h'.2)):(partS L 9 i t m r).1=0)
     clear hs
     go_wp2
     go_ret
     exact ⟨HEnds.ok E.out,S5.out.2.2.2.1⟩
   have E:Hid ((partS L 9 i t m r).1=0):=(by rw[EH.out];exact EH2.out.2 (fun h=>(HHS.out.1 h).elim (fun h'=>s1 h'.1) (fun h'=>s2 h'.1)):(partS L 9 i t m r).1=0)
   go_wp2
   go_ret
   exact ⟨HEnds.ok E.out,S4.out.2.2.2.1⟩
end Go.Proofs.YtghkbhggopiajaaGreatDoor
