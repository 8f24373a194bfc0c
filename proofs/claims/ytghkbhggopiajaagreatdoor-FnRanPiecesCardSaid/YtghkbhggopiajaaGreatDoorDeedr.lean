/- What hinders an op of one account. -/
import Derived.Test.YtghkbhggopiajaaGreatDoorHkar
import Derived.Test.YtghkbhggopiajaaGreatDoorPaysr
namespace Go.Proofs.YtghkbhggopiajaaGreatDoor
open Value renaming int → Ii,slice → Sl
open IntKind renaming i64 → Jj
open Nat renaming le_refl → Nf
open Go.RowKit.Below renaming refl → Bf
open Go.Proofs.Tryz renaming prog → Pg
set_option maxHeartbeats 2000000
set_option maxRecDepth 8000
open Go.RowKit
def aM (p:Nat->Addr) (code:Int) (e:Ending):Prop:=(code=0/\e=.returned .nilIface)\/(∃i g,g<7/\aF g=code/\code≠0/\e=.returned (jn p i g))
theorem aM.ok {p:Nat->Addr} {c:Int} (h:c=0):aM p c (.returned .nilIface):=Or.inl ⟨h,rfl⟩
theorem aM.ref {p:Nat->Addr} {c:Int} (i:Int) (g:Nat) (hg:g<7) (h:c=aF g) (h0:aF g≠0):aM p c (.returned (.iface 185 (.agg #[Ii Jj i,.iface 271 (.pointer (some (p g)))]))):=Or.inr ⟨i,g,hg,h.symm,by rw[h];exact h0,rfl⟩
theorem df {L:List aj} {k i t m r:Int} (hk:k≠1) (h:ao (FL L) L.length i=none):(ag L k i t m r).1=3:=by simp[ag,hk,h]
theorem eG {L:List aj} {k i t m r:Int} {j:Nat} (hk:k≠1) (h7:k≠7) (h9:k≠9) (h:ao (FL L) L.length i=some j):(ag L k i t m r).1=(aJ L j k m).1:=by simp[ag,hk,h7,h9,h]
theorem vB (a:Option Addr) (c:Nat) (L:List aj) (i t m r:Int) (p:Nat->Addr) (w:World) (h:Fo w a L.length (FL L)) (hR:al (FL L) L.length) (hG:GE w p):
  Calls Pg 237 #[.agg #[Ii Jj i,Ii Jj m],Sl a L.length c] w fun e w'=>aM p (ag L 5 i t m r).1 e/\Below w.heap.size w w':=by
 have H:Hid (Fo (w.alloc (.cells #[Ii Jj i,Ii Jj m] 216)) a L.length (FL L)):=h.alloc _
 have HR:=aa hR
 have G0:Hid (GE (w.alloc (.cells #[Ii Jj i,Ii Jj m] 216)) p):=hG.below ((Bf _ _).alloc (Nf _) _)
 have B0:Hid (Below w.heap.size w (w.alloc (.cells #[Ii Jj i,Ii Jj m] 216))):=(Bf _ _).alloc (Nf _) _
 clear h hR hG
 cases hp:ao (FL L) L.length i with
 | none=>
  have HJ:=aa hp
  have E:Hid ((ag L 5 i t m r).1=aF 2):=df (by decide) hp
  clear hp
  go_enter Tryz.func237,Tryz.ntmps237
  go_wp2_with fail
  refine (iY a L.length c (FL L) i p _ H.out HJ.out G0.out).mono ?_
  skip
  rintro e w1 ⟨rfl,B1⟩
  have hz:w.heap.size<w1.heap.size:=Nat.lt_of_lt_of_le (by simp) B1.size
  have BX:∀q,(w1.alloc (.cells #[Ii Jj 0,Ii Jj 0,Ii Jj 0,Ii Jj 0,Ii Jj 0,.bool false,Ii Jj 0,Ii Jj 0] 30)).cell? ⟨w.heap.size,q,none⟩=(w.alloc (.cells #[Ii Jj i,Ii Jj m] 216)).cell? ⟨w.heap.size,q,none⟩:=fun q=>by
   rw[World.cell?_alloc_lt _ _ ⟨w.heap.size,q,none⟩ hz,B1.cell (p:=⟨w.heap.size,q,none⟩) (by simp)]
  have G1:Hid (GE (w1.alloc (.cells #[Ii Jj 0,Ii Jj 0,Ii Jj 0,Ii Jj 0,Ii Jj 0,.bool false,Ii Jj 0,Ii Jj 0] 30)) p):=(G0.out.below B1).below ((Bf _ _).alloc (Nf _) _)
  have B1':Hid (Below w.heap.size w (w1.alloc (.cells #[Ii Jj 0,Ii Jj 0,Ii Jj 0,Ii Jj 0,Ii Jj 0,.bool false,Ii Jj 0,Ii Jj 0] 30))):=(B0.out.trans (B1.mono (by simp))).alloc (Nat.le_of_lt hz) _
  clear B1
  go_wp2
  go_ret
  exact ⟨aM.ref i 2 (by omega) E.out (by decide),B1'.out⟩
 | some j=>
  have HJ:=aa hp
  have EA:Hid ((ag L 5 i t m r).1=(aJ L j 5 m).1):=eG (by decide) (by decide) (by decide) hp
  clear hp
  cases hf:(FL L j).frozen with
  | true=>
   have HFZ:=aa hf
   have E:Hid ((ag L 5 i t m r).1=aF 4):=(by rw[EA.out];simp[aJ,hf,aF]:(ag L 5 i t m r).1=aF 4)
   clear hf
   go_enter Tryz.func237,Tryz.ntmps237
   go_wp2_with fail
   refine (dW a L.length c (FL L) i j p _ H.out HJ.out HFZ.out G0.out).mono ?_
   skip
   rintro e w1 ⟨rfl,B1⟩
   have hz:w.heap.size<w1.heap.size:=Nat.lt_of_lt_of_le (by simp) B1.size
   have BX:∀q,(w1.alloc (.cells #[Ii Jj (FL L j).id,Ii Jj (FL L j).up,Ii Jj (FL L j).limit,Ii Jj (FL L j).rate,Ii Jj (FL L j).target,.bool true,Ii Jj (FL L j).balance,Ii Jj (FL L j).carry] 30)).cell? ⟨w.heap.size,q,none⟩=(w.alloc (.cells #[Ii Jj i,Ii Jj m] 216)).cell? ⟨w.heap.size,q,none⟩:=fun q=>by
    rw[World.cell?_alloc_lt _ _ ⟨w.heap.size,q,none⟩ hz,B1.cell (p:=⟨w.heap.size,q,none⟩) (by simp)]
   have G1:Hid (GE (w1.alloc (.cells #[Ii Jj (FL L j).id,Ii Jj (FL L j).up,Ii Jj (FL L j).limit,Ii Jj (FL L j).rate,Ii Jj (FL L j).target,.bool true,Ii Jj (FL L j).balance,Ii Jj (FL L j).carry] 30)) p):=(G0.out.below B1).below ((Bf _ _).alloc (Nf _) _)
   have B1':Hid (Below w.heap.size w (w1.alloc (.cells #[Ii Jj (FL L j).id,Ii Jj (FL L j).up,Ii Jj (FL L j).limit,Ii Jj (FL L j).rate,Ii Jj (FL L j).target,.bool true,Ii Jj (FL L j).balance,Ii Jj (FL L j).carry] 30))):=(B0.out.trans (B1.mono (by simp))).alloc (Nat.le_of_lt hz) _
   clear B1
   go_wp2
   go_ret
   exact ⟨aM.ref i 4 (by omega) E.out (by decide),B1'.out⟩
  | false=>
   have HFZ:=aa hf
   have E:Hid ((ag L 5 i t m r).1=0):=(by rw[EA.out];simp[aJ,hf]:(ag L 5 i t m r).1=0)
   clear hf
   go_enter Tryz.func237,Tryz.ntmps237
   go_wp2_with fail
   refine (ey a L.length c (FL L) i j _ H.out HJ.out HFZ.out).mono ?_
   skip
   rintro e w1 ⟨rfl,B1⟩
   have hz:w.heap.size<w1.heap.size:=Nat.lt_of_lt_of_le (by simp) B1.size
   have BX:∀q,(w1.alloc (.cells #[Ii Jj (FL L j).id,Ii Jj (FL L j).up,Ii Jj (FL L j).limit,Ii Jj (FL L j).rate,Ii Jj (FL L j).target,.bool false,Ii Jj (FL L j).balance,Ii Jj (FL L j).carry] 30)).cell? ⟨w.heap.size,q,none⟩=(w.alloc (.cells #[Ii Jj i,Ii Jj m] 216)).cell? ⟨w.heap.size,q,none⟩:=fun q=>by
    rw[World.cell?_alloc_lt _ _ ⟨w.heap.size,q,none⟩ hz,B1.cell (p:=⟨w.heap.size,q,none⟩) (by simp)]
   have G1:Hid (GE (w1.alloc (.cells #[Ii Jj (FL L j).id,Ii Jj (FL L j).up,Ii Jj (FL L j).limit,Ii Jj (FL L j).rate,Ii Jj (FL L j).target,.bool false,Ii Jj (FL L j).balance,Ii Jj (FL L j).carry] 30)) p):=(G0.out.below B1).below ((Bf _ _).alloc (Nf _) _)
   have B1':Hid (Below w.heap.size w (w1.alloc (.cells #[Ii Jj (FL L j).id,Ii Jj (FL L j).up,Ii Jj (FL L j).limit,Ii Jj (FL L j).rate,Ii Jj (FL L j).target,.bool false,Ii Jj (FL L j).balance,Ii Jj (FL L j).carry] 30))):=(B0.out.trans (B1.mono (by simp))).alloc (Nat.le_of_lt hz) _
   clear B1
   go_wp2
   go_ret
   exact ⟨aM.ok E.out,B1'.out⟩
theorem sP (a:Option Addr) (c:Nat) (L:List aj) (i t m r:Int) (p:Nat->Addr) (w:World) (h:Fo w a L.length (FL L)) (hR:al (FL L) L.length) (hG:GE w p):
  Calls Pg 234 #[.agg #[Ii Jj i,.bool true],Sl a L.length c] w fun e w'=>aM p (ag L 2 i t m r).1 e/\Below w.heap.size w w':=by
 have H:Hid (Fo (w.alloc (.cells #[Ii Jj i,.bool true] 212)) a L.length (FL L)):=h.alloc _
 have HR:=aa hR
 have G0:Hid (GE (w.alloc (.cells #[Ii Jj i,.bool true] 212)) p):=hG.below ((Bf _ _).alloc (Nf _) _)
 have B0:Hid (Below w.heap.size w (w.alloc (.cells #[Ii Jj i,.bool true] 212))):=(Bf _ _).alloc (Nf _) _
 clear h hR hG
 cases hp:ao (FL L) L.length i with
 | none=>
  have HJ:=aa hp
  have E:Hid ((ag L 2 i t m r).1=aF 2):=df (by decide) hp
  clear hp
  go_enter Tryz.func234,Tryz.ntmps234
  go_wp2_with fail
  refine (cF a L.length c (FL L) i p _ H.out HJ.out G0.out).mono ?_
  skip
  rintro e w1 ⟨rfl,B1⟩
  have hz:w.heap.size<w1.heap.size:=Nat.lt_of_lt_of_le (by simp) B1.size
  have BX:∀q,(w1.alloc (.cells #[Ii Jj 0,Ii Jj 0,Ii Jj 0,Ii Jj 0,Ii Jj 0,.bool false,Ii Jj 0,Ii Jj 0] 30)).cell? ⟨w.heap.size,q,none⟩=(w.alloc (.cells #[Ii Jj i,.bool true] 212)).cell? ⟨w.heap.size,q,none⟩:=fun q=>by
   rw[World.cell?_alloc_lt _ _ ⟨w.heap.size,q,none⟩ hz,B1.cell (p:=⟨w.heap.size,q,none⟩) (by simp)]
  have G1:Hid (GE (w1.alloc (.cells #[Ii Jj 0,Ii Jj 0,Ii Jj 0,Ii Jj 0,Ii Jj 0,.bool false,Ii Jj 0,Ii Jj 0] 30)) p):=(G0.out.below B1).below ((Bf _ _).alloc (Nf _) _)
  have B1':Hid (Below w.heap.size w (w1.alloc (.cells #[Ii Jj 0,Ii Jj 0,Ii Jj 0,Ii Jj 0,Ii Jj 0,.bool false,Ii Jj 0,Ii Jj 0] 30))):=(B0.out.trans (B1.mono (by simp))).alloc (Nat.le_of_lt hz) _
  clear B1
  go_wp2
  go_ret
  exact ⟨aM.ref i 2 (by omega) E.out (by decide),B1'.out⟩
 | some j=>
  have HJ:=aa hp
  have EA:Hid ((ag L 2 i t m r).1=(aJ L j 2 m).1):=eG (by decide) (by decide) (by decide) hp
  clear hp
  cases hf:(FL L j).frozen with
  | true=>
   have HFZ:=aa hf
   have E:Hid ((ag L 2 i t m r).1=aF 4):=(by rw[EA.out];simp[aJ,hf,aF]:(ag L 2 i t m r).1=aF 4)
   clear hf
   go_enter Tryz.func234,Tryz.ntmps234
   go_wp2_with fail
   refine (aQ a L.length c (FL L) i j _ H.out HJ.out).mono ?_
   rw[HFZ.out]
   rintro e w1 ⟨rfl,B1⟩
   have hz:w.heap.size<w1.heap.size:=Nat.lt_of_lt_of_le (by simp) B1.size
   have BX:∀q,(w1.alloc (.cells #[Ii Jj (FL L j).id,Ii Jj (FL L j).up,Ii Jj (FL L j).limit,Ii Jj (FL L j).rate,Ii Jj (FL L j).target,.bool true,Ii Jj (FL L j).balance,Ii Jj (FL L j).carry] 30)).cell? ⟨w.heap.size,q,none⟩=(w.alloc (.cells #[Ii Jj i,.bool true] 212)).cell? ⟨w.heap.size,q,none⟩:=fun q=>by
    rw[World.cell?_alloc_lt _ _ ⟨w.heap.size,q,none⟩ hz,B1.cell (p:=⟨w.heap.size,q,none⟩) (by simp)]
   have G1:Hid (GE (w1.alloc (.cells #[Ii Jj (FL L j).id,Ii Jj (FL L j).up,Ii Jj (FL L j).limit,Ii Jj (FL L j).rate,Ii Jj (FL L j).target,.bool true,Ii Jj (FL L j).balance,Ii Jj (FL L j).carry] 30)) p):=(G0.out.below B1).below ((Bf _ _).alloc (Nf _) _)
   have B1':Hid (Below w.heap.size w (w1.alloc (.cells #[Ii Jj (FL L j).id,Ii Jj (FL L j).up,Ii Jj (FL L j).limit,Ii Jj (FL L j).rate,Ii Jj (FL L j).target,.bool true,Ii Jj (FL L j).balance,Ii Jj (FL L j).carry] 30))):=(B0.out.trans (B1.mono (by simp))).alloc (Nat.le_of_lt hz) _
   clear B1
   have gv:=G1.out.var 4 (by omega)
   go_wp2
   go_ret
   exact ⟨aM.ref i 4 (by omega) E.out (by decide),B1'.out⟩
  | false=>
   have HFZ:=aa hf
   have E:Hid ((ag L 2 i t m r).1=0):=(by rw[EA.out];simp[aJ,hf]:(ag L 2 i t m r).1=0)
   clear hf
   go_enter Tryz.func234,Tryz.ntmps234
   go_wp2_with fail
   refine (aQ a L.length c (FL L) i j _ H.out HJ.out).mono ?_
   rw[HFZ.out]
   rintro e w1 ⟨rfl,B1⟩
   have hz:w.heap.size<w1.heap.size:=Nat.lt_of_lt_of_le (by simp) B1.size
   have BX:∀q,(w1.alloc (.cells #[Ii Jj (FL L j).id,Ii Jj (FL L j).up,Ii Jj (FL L j).limit,Ii Jj (FL L j).rate,Ii Jj (FL L j).target,.bool false,Ii Jj (FL L j).balance,Ii Jj (FL L j).carry] 30)).cell? ⟨w.heap.size,q,none⟩=(w.alloc (.cells #[Ii Jj i,.bool true] 212)).cell? ⟨w.heap.size,q,none⟩:=fun q=>by
    rw[World.cell?_alloc_lt _ _ ⟨w.heap.size,q,none⟩ hz,B1.cell (p:=⟨w.heap.size,q,none⟩) (by simp)]
   have G1:Hid (GE (w1.alloc (.cells #[Ii Jj (FL L j).id,Ii Jj (FL L j).up,Ii Jj (FL L j).limit,Ii Jj (FL L j).rate,Ii Jj (FL L j).target,.bool false,Ii Jj (FL L j).balance,Ii Jj (FL L j).carry] 30)) p):=(G0.out.below B1).below ((Bf _ _).alloc (Nf _) _)
   have B1':Hid (Below w.heap.size w (w1.alloc (.cells #[Ii Jj (FL L j).id,Ii Jj (FL L j).up,Ii Jj (FL L j).limit,Ii Jj (FL L j).rate,Ii Jj (FL L j).target,.bool false,Ii Jj (FL L j).balance,Ii Jj (FL L j).carry] 30))):=(B0.out.trans (B1.mono (by simp))).alloc (Nat.le_of_lt hz) _
   clear B1
   go_wp2
   go_ret
   exact ⟨aM.ok E.out,B1'.out⟩
theorem sQ (a:Option Addr) (c:Nat) (L:List aj) (i t m r:Int) (p:Nat->Addr) (w:World) (h:Fo w a L.length (FL L)) (hR:al (FL L) L.length) (hG:GE w p):
  Calls Pg 234 #[.agg #[Ii Jj i,.bool false],Sl a L.length c] w fun e w'=>aM p (ag L 3 i t m r).1 e/\Below w.heap.size w w':=by
 have H:Hid (Fo (w.alloc (.cells #[Ii Jj i,.bool false] 212)) a L.length (FL L)):=h.alloc _
 have HR:=aa hR
 have G0:Hid (GE (w.alloc (.cells #[Ii Jj i,.bool false] 212)) p):=hG.below ((Bf _ _).alloc (Nf _) _)
 have B0:Hid (Below w.heap.size w (w.alloc (.cells #[Ii Jj i,.bool false] 212))):=(Bf _ _).alloc (Nf _) _
 clear h hR hG
 cases hp:ao (FL L) L.length i with
 | none=>
  have HJ:=aa hp
  have E:Hid ((ag L 3 i t m r).1=aF 2):=df (by decide) hp
  clear hp
  go_enter Tryz.func234,Tryz.ntmps234
  go_wp2_with fail
  refine (cF a L.length c (FL L) i p _ H.out HJ.out G0.out).mono ?_
  skip
  rintro e w1 ⟨rfl,B1⟩
  have hz:w.heap.size<w1.heap.size:=Nat.lt_of_lt_of_le (by simp) B1.size
  have BX:∀q,(w1.alloc (.cells #[Ii Jj 0,Ii Jj 0,Ii Jj 0,Ii Jj 0,Ii Jj 0,.bool false,Ii Jj 0,Ii Jj 0] 30)).cell? ⟨w.heap.size,q,none⟩=(w.alloc (.cells #[Ii Jj i,.bool false] 212)).cell? ⟨w.heap.size,q,none⟩:=fun q=>by
   rw[World.cell?_alloc_lt _ _ ⟨w.heap.size,q,none⟩ hz,B1.cell (p:=⟨w.heap.size,q,none⟩) (by simp)]
  have G1:Hid (GE (w1.alloc (.cells #[Ii Jj 0,Ii Jj 0,Ii Jj 0,Ii Jj 0,Ii Jj 0,.bool false,Ii Jj 0,Ii Jj 0] 30)) p):=(G0.out.below B1).below ((Bf _ _).alloc (Nf _) _)
  have B1':Hid (Below w.heap.size w (w1.alloc (.cells #[Ii Jj 0,Ii Jj 0,Ii Jj 0,Ii Jj 0,Ii Jj 0,.bool false,Ii Jj 0,Ii Jj 0] 30))):=(B0.out.trans (B1.mono (by simp))).alloc (Nat.le_of_lt hz) _
  clear B1
  go_wp2
  go_ret
  exact ⟨aM.ref i 2 (by omega) E.out (by decide),B1'.out⟩
 | some j=>
  have HJ:=aa hp
  have EA:Hid ((ag L 3 i t m r).1=(aJ L j 3 m).1):=eG (by decide) (by decide) (by decide) hp
  clear hp
  cases hf:(FL L j).frozen with
  | true=>
   have HFZ:=aa hf
   have E:Hid ((ag L 3 i t m r).1=0):=(by rw[EA.out];simp[aJ,hf]:(ag L 3 i t m r).1=0)
   clear hf
   go_enter Tryz.func234,Tryz.ntmps234
   go_wp2_with fail
   refine (aQ a L.length c (FL L) i j _ H.out HJ.out).mono ?_
   rw[HFZ.out]
   rintro e w1 ⟨rfl,B1⟩
   have hz:w.heap.size<w1.heap.size:=Nat.lt_of_lt_of_le (by simp) B1.size
   have BX:∀q,(w1.alloc (.cells #[Ii Jj (FL L j).id,Ii Jj (FL L j).up,Ii Jj (FL L j).limit,Ii Jj (FL L j).rate,Ii Jj (FL L j).target,.bool true,Ii Jj (FL L j).balance,Ii Jj (FL L j).carry] 30)).cell? ⟨w.heap.size,q,none⟩=(w.alloc (.cells #[Ii Jj i,.bool false] 212)).cell? ⟨w.heap.size,q,none⟩:=fun q=>by
    rw[World.cell?_alloc_lt _ _ ⟨w.heap.size,q,none⟩ hz,B1.cell (p:=⟨w.heap.size,q,none⟩) (by simp)]
   have G1:Hid (GE (w1.alloc (.cells #[Ii Jj (FL L j).id,Ii Jj (FL L j).up,Ii Jj (FL L j).limit,Ii Jj (FL L j).rate,Ii Jj (FL L j).target,.bool true,Ii Jj (FL L j).balance,Ii Jj (FL L j).carry] 30)) p):=(G0.out.below B1).below ((Bf _ _).alloc (Nf _) _)
   have B1':Hid (Below w.heap.size w (w1.alloc (.cells #[Ii Jj (FL L j).id,Ii Jj (FL L j).up,Ii Jj (FL L j).limit,Ii Jj (FL L j).rate,Ii Jj (FL L j).target,.bool true,Ii Jj (FL L j).balance,Ii Jj (FL L j).carry] 30))):=(B0.out.trans (B1.mono (by simp))).alloc (Nat.le_of_lt hz) _
   clear B1
   go_wp2
   go_ret
   exact ⟨aM.ok E.out,B1'.out⟩
  | false=>
   have HFZ:=aa hf
   have E:Hid ((ag L 3 i t m r).1=aF 4):=(by rw[EA.out];simp[aJ,hf,aF]:(ag L 3 i t m r).1=aF 4)
   clear hf
   go_enter Tryz.func234,Tryz.ntmps234
   go_wp2_with fail
   refine (aQ a L.length c (FL L) i j _ H.out HJ.out).mono ?_
   rw[HFZ.out]
   rintro e w1 ⟨rfl,B1⟩
   have hz:w.heap.size<w1.heap.size:=Nat.lt_of_lt_of_le (by simp) B1.size
   have BX:∀q,(w1.alloc (.cells #[Ii Jj (FL L j).id,Ii Jj (FL L j).up,Ii Jj (FL L j).limit,Ii Jj (FL L j).rate,Ii Jj (FL L j).target,.bool false,Ii Jj (FL L j).balance,Ii Jj (FL L j).carry] 30)).cell? ⟨w.heap.size,q,none⟩=(w.alloc (.cells #[Ii Jj i,.bool false] 212)).cell? ⟨w.heap.size,q,none⟩:=fun q=>by
    rw[World.cell?_alloc_lt _ _ ⟨w.heap.size,q,none⟩ hz,B1.cell (p:=⟨w.heap.size,q,none⟩) (by simp)]
   have G1:Hid (GE (w1.alloc (.cells #[Ii Jj (FL L j).id,Ii Jj (FL L j).up,Ii Jj (FL L j).limit,Ii Jj (FL L j).rate,Ii Jj (FL L j).target,.bool false,Ii Jj (FL L j).balance,Ii Jj (FL L j).carry] 30)) p):=(G0.out.below B1).below ((Bf _ _).alloc (Nf _) _)
   have B1':Hid (Below w.heap.size w (w1.alloc (.cells #[Ii Jj (FL L j).id,Ii Jj (FL L j).up,Ii Jj (FL L j).limit,Ii Jj (FL L j).rate,Ii Jj (FL L j).target,.bool false,Ii Jj (FL L j).balance,Ii Jj (FL L j).carry] 30))):=(B0.out.trans (B1.mono (by simp))).alloc (Nat.le_of_lt hz) _
   clear B1
   have gv:=G1.out.var 4 (by omega)
   go_wp2
   go_ret
   exact ⟨aM.ref i 4 (by omega) E.out (by decide),B1'.out⟩
theorem tv (a:Option Addr) (c:Nat) (L:List aj) (i t m r:Int) (p:Nat->Addr) (w:World) (h:Fo w a L.length (FL L)) (hR:al (FL L) L.length) (hG:GE w p) (hm: -1<=m):
  Calls Pg 245 #[.agg #[Ii Jj i,Ii Jj m],Sl a L.length c] w fun e w'=>aM p (ag L 8 i t m r).1 e/\Below w.heap.size w w':=by
 have H:Hid (Fo (w.alloc (.cells #[Ii Jj i,Ii Jj m] 221)) a L.length (FL L)):=h.alloc _
 have HR:=aa hR
 have G0:Hid (GE (w.alloc (.cells #[Ii Jj i,Ii Jj m] 221)) p):=hG.below ((Bf _ _).alloc (Nf _) _)
 have B0:Hid (Below w.heap.size w (w.alloc (.cells #[Ii Jj i,Ii Jj m] 221))):=(Bf _ _).alloc (Nf _) _
 clear h hR hG
 cases hp:ao (FL L) L.length i with
 | none=>
  have HJ:=aa hp
  have E:Hid ((ag L 8 i t m r).1=aF 2):=df (by decide) hp
  clear hp
  go_enter Tryz.func245,Tryz.ntmps245
  go_wp2_with fail
  refine (cF a L.length c (FL L) i p _ H.out HJ.out G0.out).mono ?_
  skip
  rintro e w1 ⟨rfl,B1⟩
  have hz:w.heap.size<w1.heap.size:=Nat.lt_of_lt_of_le (by simp) B1.size
  have BX:∀q,(w1.alloc (.cells #[Ii Jj 0,Ii Jj 0,Ii Jj 0,Ii Jj 0,Ii Jj 0,.bool false,Ii Jj 0,Ii Jj 0] 30)).cell? ⟨w.heap.size,q,none⟩=(w.alloc (.cells #[Ii Jj i,Ii Jj m] 221)).cell? ⟨w.heap.size,q,none⟩:=fun q=>by
   rw[World.cell?_alloc_lt _ _ ⟨w.heap.size,q,none⟩ hz,B1.cell (p:=⟨w.heap.size,q,none⟩) (by simp)]
  have G1:Hid (GE (w1.alloc (.cells #[Ii Jj 0,Ii Jj 0,Ii Jj 0,Ii Jj 0,Ii Jj 0,.bool false,Ii Jj 0,Ii Jj 0] 30)) p):=(G0.out.below B1).below ((Bf _ _).alloc (Nf _) _)
  have B1':Hid (Below w.heap.size w (w1.alloc (.cells #[Ii Jj 0,Ii Jj 0,Ii Jj 0,Ii Jj 0,Ii Jj 0,.bool false,Ii Jj 0,Ii Jj 0] 30))):=(B0.out.trans (B1.mono (by simp))).alloc (Nat.le_of_lt hz) _
  clear B1
  go_wp2
  go_ret
  exact ⟨aM.ref i 2 (by omega) E.out (by decide),B1'.out⟩
 | some j=>
  have HJ:=aa hp
  have EA:Hid ((ag L 8 i t m r).1=(aJ L j 8 m).1):=eG (by decide) (by decide) (by decide) hp
  clear hp
  by_cases hu:(FL L j).up=0
  ·have hub:((FL L j).up == 0)=true:=by simp[hu]
   by_cases hm1:m= -1
   ·have hmb:(m == -1)=true:=by simp[hm1]
    have E:Hid ((ag L 8 i t m r).1=aF 6):=(by rw[EA.out];simp[aJ,hu,hm1,aF]:(ag L 8 i t m r).1=aF 6)
    clear hu hm1
    go_enter Tryz.func245,Tryz.ntmps245
    go_wp2_with fail
    refine (aQ a L.length c (FL L) i j _ H.out HJ.out).mono ?_
    skip
    rintro e w1 ⟨rfl,B1⟩
    have hz:w.heap.size<w1.heap.size:=Nat.lt_of_lt_of_le (by simp) B1.size
    have BX:∀q,(w1.alloc (.cells #[Ii Jj (FL L j).id,Ii Jj (FL L j).up,Ii Jj (FL L j).limit,Ii Jj (FL L j).rate,Ii Jj (FL L j).target,.bool (FL L j).frozen,Ii Jj (FL L j).balance,Ii Jj (FL L j).carry] 30)).cell? ⟨w.heap.size,q,none⟩=(w.alloc (.cells #[Ii Jj i,Ii Jj m] 221)).cell? ⟨w.heap.size,q,none⟩:=fun q=>by
     rw[World.cell?_alloc_lt _ _ ⟨w.heap.size,q,none⟩ hz,B1.cell (p:=⟨w.heap.size,q,none⟩) (by simp)]
    have G1:Hid (GE (w1.alloc (.cells #[Ii Jj (FL L j).id,Ii Jj (FL L j).up,Ii Jj (FL L j).limit,Ii Jj (FL L j).rate,Ii Jj (FL L j).target,.bool (FL L j).frozen,Ii Jj (FL L j).balance,Ii Jj (FL L j).carry] 30)) p):=(G0.out.below B1).below ((Bf _ _).alloc (Nf _) _)
    have B1':Hid (Below w.heap.size w (w1.alloc (.cells #[Ii Jj (FL L j).id,Ii Jj (FL L j).up,Ii Jj (FL L j).limit,Ii Jj (FL L j).rate,Ii Jj (FL L j).target,.bool (FL L j).frozen,Ii Jj (FL L j).balance,Ii Jj (FL L j).carry] 30))):=(B0.out.trans (B1.mono (by simp))).alloc (Nat.le_of_lt hz) _
    clear B1
    have gv:=G1.out.var 6 (by omega)
    go_wp2
    go_ret
    exact ⟨aM.ref i 6 (by omega) E.out (by decide),B1'.out⟩
   ·have hmb:(m == -1)=false:=by simp[hm1]
    have E:Hid ((ag L 8 i t m r).1=0):=(by rw[EA.out];simp[aJ,show ¬((FL L j).up=0/\m<0) from by omega]:(ag L 8 i t m r).1=0)
    clear hu hm1
    go_enter Tryz.func245,Tryz.ntmps245
    go_wp2_with fail
    refine (aQ a L.length c (FL L) i j _ H.out HJ.out).mono ?_
    skip
    rintro e w1 ⟨rfl,B1⟩
    have hz:w.heap.size<w1.heap.size:=Nat.lt_of_lt_of_le (by simp) B1.size
    have BX:∀q,(w1.alloc (.cells #[Ii Jj (FL L j).id,Ii Jj (FL L j).up,Ii Jj (FL L j).limit,Ii Jj (FL L j).rate,Ii Jj (FL L j).target,.bool (FL L j).frozen,Ii Jj (FL L j).balance,Ii Jj (FL L j).carry] 30)).cell? ⟨w.heap.size,q,none⟩=(w.alloc (.cells #[Ii Jj i,Ii Jj m] 221)).cell? ⟨w.heap.size,q,none⟩:=fun q=>by
     rw[World.cell?_alloc_lt _ _ ⟨w.heap.size,q,none⟩ hz,B1.cell (p:=⟨w.heap.size,q,none⟩) (by simp)]
    have G1:Hid (GE (w1.alloc (.cells #[Ii Jj (FL L j).id,Ii Jj (FL L j).up,Ii Jj (FL L j).limit,Ii Jj (FL L j).rate,Ii Jj (FL L j).target,.bool (FL L j).frozen,Ii Jj (FL L j).balance,Ii Jj (FL L j).carry] 30)) p):=(G0.out.below B1).below ((Bf _ _).alloc (Nf _) _)
    have B1':Hid (Below w.heap.size w (w1.alloc (.cells #[Ii Jj (FL L j).id,Ii Jj (FL L j).up,Ii Jj (FL L j).limit,Ii Jj (FL L j).rate,Ii Jj (FL L j).target,.bool (FL L j).frozen,Ii Jj (FL L j).balance,Ii Jj (FL L j).carry] 30))):=(B0.out.trans (B1.mono (by simp))).alloc (Nat.le_of_lt hz) _
    clear B1
    go_wp2
    go_ret
    exact ⟨aM.ok E.out,B1'.out⟩
  ·have hub:((FL L j).up == 0)=false:=by simp[hu]
   have E:Hid ((ag L 8 i t m r).1=0):=(by rw[EA.out];simp[aJ,hu]:(ag L 8 i t m r).1=0)
   clear hu
   go_enter Tryz.func245,Tryz.ntmps245
   go_wp2_with fail
   refine (aQ a L.length c (FL L) i j _ H.out HJ.out).mono ?_
   skip
   rintro e w1 ⟨rfl,B1⟩
   have hz:w.heap.size<w1.heap.size:=Nat.lt_of_lt_of_le (by simp) B1.size
   have BX:∀q,(w1.alloc (.cells #[Ii Jj (FL L j).id,Ii Jj (FL L j).up,Ii Jj (FL L j).limit,Ii Jj (FL L j).rate,Ii Jj (FL L j).target,.bool (FL L j).frozen,Ii Jj (FL L j).balance,Ii Jj (FL L j).carry] 30)).cell? ⟨w.heap.size,q,none⟩=(w.alloc (.cells #[Ii Jj i,Ii Jj m] 221)).cell? ⟨w.heap.size,q,none⟩:=fun q=>by
    rw[World.cell?_alloc_lt _ _ ⟨w.heap.size,q,none⟩ hz,B1.cell (p:=⟨w.heap.size,q,none⟩) (by simp)]
   have G1:Hid (GE (w1.alloc (.cells #[Ii Jj (FL L j).id,Ii Jj (FL L j).up,Ii Jj (FL L j).limit,Ii Jj (FL L j).rate,Ii Jj (FL L j).target,.bool (FL L j).frozen,Ii Jj (FL L j).balance,Ii Jj (FL L j).carry] 30)) p):=(G0.out.below B1).below ((Bf _ _).alloc (Nf _) _)
   have B1':Hid (Below w.heap.size w (w1.alloc (.cells #[Ii Jj (FL L j).id,Ii Jj (FL L j).up,Ii Jj (FL L j).limit,Ii Jj (FL L j).rate,Ii Jj (FL L j).target,.bool (FL L j).frozen,Ii Jj (FL L j).balance,Ii Jj (FL L j).carry] 30))):=(B0.out.trans (B1.mono (by simp))).alloc (Nat.le_of_lt hz) _
   clear B1
   go_wp2
   go_ret
   exact ⟨aM.ok E.out,B1'.out⟩
theorem sS (a:Option Addr) (c:Nat) (L:List aj) (i t m r:Int) (p:Nat->Addr) (w:World) (h:Fo w a L.length (FL L)) (hR:al (FL L) L.length) (hG:GE w p):
  Calls Pg 246 #[.agg #[Ii Jj i,Ii Jj m],Sl a L.length c] w fun e w'=>aM p (ag L 10 i t m r).1 e/\Below w.heap.size w w':=by
 have H:Hid (Fo (w.alloc (.cells #[Ii Jj i,Ii Jj m] 223)) a L.length (FL L)):=h.alloc _
 have HR:=aa hR
 have G0:Hid (GE (w.alloc (.cells #[Ii Jj i,Ii Jj m] 223)) p):=hG.below ((Bf _ _).alloc (Nf _) _)
 have B0:Hid (Below w.heap.size w (w.alloc (.cells #[Ii Jj i,Ii Jj m] 223))):=(Bf _ _).alloc (Nf _) _
 clear h hR hG
 cases hp:ao (FL L) L.length i with
 | none=>
  have HJ:=aa hp
  have E:Hid ((ag L 10 i t m r).1=aF 2):=df (by decide) hp
  clear hp
  go_enter Tryz.func246,Tryz.ntmps246
  go_wp2_with fail
  refine (cF a L.length c (FL L) i p _ H.out HJ.out G0.out).mono ?_
  skip
  rintro e w1 ⟨rfl,B1⟩
  have hz:w.heap.size<w1.heap.size:=Nat.lt_of_lt_of_le (by simp) B1.size
  have BX:∀q,(w1.alloc (.cells #[Ii Jj 0,Ii Jj 0,Ii Jj 0,Ii Jj 0,Ii Jj 0,.bool false,Ii Jj 0,Ii Jj 0] 30)).cell? ⟨w.heap.size,q,none⟩=(w.alloc (.cells #[Ii Jj i,Ii Jj m] 223)).cell? ⟨w.heap.size,q,none⟩:=fun q=>by
   rw[World.cell?_alloc_lt _ _ ⟨w.heap.size,q,none⟩ hz,B1.cell (p:=⟨w.heap.size,q,none⟩) (by simp)]
  have G1:Hid (GE (w1.alloc (.cells #[Ii Jj 0,Ii Jj 0,Ii Jj 0,Ii Jj 0,Ii Jj 0,.bool false,Ii Jj 0,Ii Jj 0] 30)) p):=(G0.out.below B1).below ((Bf _ _).alloc (Nf _) _)
  have B1':Hid (Below w.heap.size w (w1.alloc (.cells #[Ii Jj 0,Ii Jj 0,Ii Jj 0,Ii Jj 0,Ii Jj 0,.bool false,Ii Jj 0,Ii Jj 0] 30))):=(B0.out.trans (B1.mono (by simp))).alloc (Nat.le_of_lt hz) _
  clear B1
  go_wp2
  go_ret
  exact ⟨aM.ref i 2 (by omega) E.out (by decide),B1'.out⟩
 | some j=>
  have HJ:=aa hp
  have EA:Hid ((ag L 10 i t m r).1=(aJ L j 10 m).1):=eG (by decide) (by decide) (by decide) hp
  clear hp
  by_cases hu:(FL L j).up=0
  ·have hub:((FL L j).up == 0)=true:=by simp[hu]
   have E:Hid ((ag L 10 i t m r).1=aF 6):=(by rw[EA.out];simp[aJ,hu,aF]:(ag L 10 i t m r).1=aF 6)
   clear hu
   go_enter Tryz.func246,Tryz.ntmps246
   go_wp2_with fail
   refine (aQ a L.length c (FL L) i j _ H.out HJ.out).mono ?_
   skip
   rintro e w1 ⟨rfl,B1⟩
   have hz:w.heap.size<w1.heap.size:=Nat.lt_of_lt_of_le (by simp) B1.size
   have BX:∀q,(w1.alloc (.cells #[Ii Jj (FL L j).id,Ii Jj (FL L j).up,Ii Jj (FL L j).limit,Ii Jj (FL L j).rate,Ii Jj (FL L j).target,.bool (FL L j).frozen,Ii Jj (FL L j).balance,Ii Jj (FL L j).carry] 30)).cell? ⟨w.heap.size,q,none⟩=(w.alloc (.cells #[Ii Jj i,Ii Jj m] 223)).cell? ⟨w.heap.size,q,none⟩:=fun q=>by
    rw[World.cell?_alloc_lt _ _ ⟨w.heap.size,q,none⟩ hz,B1.cell (p:=⟨w.heap.size,q,none⟩) (by simp)]
   have G1:Hid (GE (w1.alloc (.cells #[Ii Jj (FL L j).id,Ii Jj (FL L j).up,Ii Jj (FL L j).limit,Ii Jj (FL L j).rate,Ii Jj (FL L j).target,.bool (FL L j).frozen,Ii Jj (FL L j).balance,Ii Jj (FL L j).carry] 30)) p):=(G0.out.below B1).below ((Bf _ _).alloc (Nf _) _)
   have B1':Hid (Below w.heap.size w (w1.alloc (.cells #[Ii Jj (FL L j).id,Ii Jj (FL L j).up,Ii Jj (FL L j).limit,Ii Jj (FL L j).rate,Ii Jj (FL L j).target,.bool (FL L j).frozen,Ii Jj (FL L j).balance,Ii Jj (FL L j).carry] 30))):=(B0.out.trans (B1.mono (by simp))).alloc (Nat.le_of_lt hz) _
   clear B1
   have gv:=G1.out.var 6 (by omega)
   go_wp2
   go_ret
   exact ⟨aM.ref i 6 (by omega) E.out (by decide),B1'.out⟩
  ·have hub:((FL L j).up == 0)=false:=by simp[hu]
   have E:Hid ((ag L 10 i t m r).1=0):=(by rw[EA.out];simp[aJ,hu]:(ag L 10 i t m r).1=0)
   clear hu
   go_enter Tryz.func246,Tryz.ntmps246
   go_wp2_with fail
   refine (aQ a L.length c (FL L) i j _ H.out HJ.out).mono ?_
   skip
   rintro e w1 ⟨rfl,B1⟩
   have hz:w.heap.size<w1.heap.size:=Nat.lt_of_lt_of_le (by simp) B1.size
   have BX:∀q,(w1.alloc (.cells #[Ii Jj (FL L j).id,Ii Jj (FL L j).up,Ii Jj (FL L j).limit,Ii Jj (FL L j).rate,Ii Jj (FL L j).target,.bool (FL L j).frozen,Ii Jj (FL L j).balance,Ii Jj (FL L j).carry] 30)).cell? ⟨w.heap.size,q,none⟩=(w.alloc (.cells #[Ii Jj i,Ii Jj m] 223)).cell? ⟨w.heap.size,q,none⟩:=fun q=>by
    rw[World.cell?_alloc_lt _ _ ⟨w.heap.size,q,none⟩ hz,B1.cell (p:=⟨w.heap.size,q,none⟩) (by simp)]
   have G1:Hid (GE (w1.alloc (.cells #[Ii Jj (FL L j).id,Ii Jj (FL L j).up,Ii Jj (FL L j).limit,Ii Jj (FL L j).rate,Ii Jj (FL L j).target,.bool (FL L j).frozen,Ii Jj (FL L j).balance,Ii Jj (FL L j).carry] 30)) p):=(G0.out.below B1).below ((Bf _ _).alloc (Nf _) _)
   have B1':Hid (Below w.heap.size w (w1.alloc (.cells #[Ii Jj (FL L j).id,Ii Jj (FL L j).up,Ii Jj (FL L j).limit,Ii Jj (FL L j).rate,Ii Jj (FL L j).target,.bool (FL L j).frozen,Ii Jj (FL L j).balance,Ii Jj (FL L j).carry] 30))):=(B0.out.trans (B1.mono (by simp))).alloc (Nat.le_of_lt hz) _
   clear B1
   go_wp2
   go_ret
   exact ⟨aM.ok E.out,B1'.out⟩
theorem sT {F:Nat->aj} {n:Nat} {but:List Int} {m:Int} {r0:Option Int} {x:Int} {j:Nat} (hp:ao F n x=some j):
  (∃r,cN F n but r0 x=some r/\r<m)↔(∃r,r0=some r/\r<m)\/(¬((F j).limit<0\/x ∈ but)/\ax F n j+(F j).limit<m):=by
 by_cases hs:(F j).limit<0\/x ∈ but
 ·rw[i8 hp hs]
  constructor
  ·intro h;exact Or.inl h
  ·rintro (h|h)
   ·exact h
   ·exact absurd hs h.1
 ·cases r0 with
  | none=>
   rw[jg hp hs]
   constructor
   ·rintro ⟨r,e,h⟩;obtain rfl:=Option.some.inj e;exact Or.inr ⟨hs,h⟩
   ·rintro (⟨r,e,_⟩|⟨_,h⟩)
    ·cases e
    ·exact ⟨_,rfl,h⟩
  | some q=>
   by_cases hq:ax F n j+(F j).limit<q
   ·rw[kD hp hs hq]
    constructor
    ·rintro ⟨r,e,h⟩;obtain rfl:=Option.some.inj e;exact Or.inr ⟨hs,h⟩
    ·rintro (⟨r,e,h⟩|⟨_,h⟩)
     ·obtain rfl:=Option.some.inj e;exact ⟨_,rfl,by omega⟩
     ·exact ⟨_,rfl,h⟩
   ·rw[kE hp hs hq]
    constructor
    ·rintro ⟨r,e,h⟩;obtain rfl:=Option.some.inj e;exact Or.inl ⟨_,rfl,h⟩
    ·rintro (⟨r,e,h⟩|⟨_,h⟩)
     ·exact ⟨r,e,h⟩
     ·exact ⟨q,rfl,by omega⟩
theorem pQ {F:Nat->aj} {n:Nat} {but:List Int} {m:Int}:∀(l:List Int) (r0:Option Int),(∀x,x ∈ l->∃j,ao F n x=some j)->
  ((∃r,l.foldl (cN F n but) r0=some r/\r<m)↔(∃r,r0=some r/\r<m)\/∃x j,x ∈ l/\ao F n x=some j/\¬((F j).limit<0\/x ∈ but)/\ax F n j+(F j).limit<m)
 | [],r0,_=>by simp
 | x::l,r0,h=>by
  obtain ⟨j,hj⟩:=h x (by simp)
  rw[List.foldl_cons,pQ l _ (fun y hy=>h y (by simp[hy])),sT hj]
  constructor
  ·rintro ((h1|h1)|⟨y,i,hy,hi,h1⟩)
   ·exact Or.inl h1
   ·exact Or.inr ⟨x,j,by simp,hj,h1⟩
   ·exact Or.inr ⟨y,i,by simp[hy],hi,h1⟩
  ·rintro (h1|⟨y,i,hy,hi,h1⟩)
   ·exact Or.inl (Or.inl h1)
   ·rcases List.mem_cons.1 hy with e|e
    ·subst e
     rw[hj] at hi
     obtain rfl:=Option.some.inj hi
     exact Or.inl (Or.inr h1)
    ·exact Or.inr ⟨y,i,e,hi,h1⟩
theorem pR {F:Nat->aj} {n:Nat} {but:List Int} {m:Int} (h:al F n) {i:Nat} (hi:i<n):
  (∃r,eT F n but i=some r/\r<m)↔dH F n (aB F n i) but m:=by
 unfold eT
 rw[pQ _ _ (fun x hx=>by obtain ⟨j,_,_,hj⟩:=h.on_path hi hx;exact ⟨j,hj⟩)]
 constructor
 ·rintro (⟨r,e,_⟩|⟨x,j,hx,hj,hs,hl⟩)
  ·cases e
  ·obtain ⟨hjn,hid⟩:=ar hj
   refine ⟨j,hjn,by rw[hid];exact hx,fun e=>hs (Or.inl (by omega)),by rw[hid];exact fun e=>hs (Or.inr e),hl⟩
 ·rintro ⟨j,hj,hx,hl,hn,hs⟩
  refine Or.inr ⟨(F j).id,j,hx,bL h.2.2.1 hj,?_,hs⟩
  rintro (e|e)
  ·have:=(h.2.1 j hj).2.2.1;omega
  ·exact hn e
theorem gZ {F:Nat->aj} {n:Nat} (h:al F n) {j:Nat} (hj:j<n):aD F n n (F j).id=some (aB F n j):=by
 have:=h.2.2.2 j hj
 unfold aB
 cases hc:aD F n n (F j).id with
 | none=>rw[hc] at this;cases this
 | some l=>rfl
theorem pv {L:List aj} {p:Nat} {m:Int} (h:al (FL L) L.length) (hp:p<L.length):(eT (FL L) L.length [] p).getD 0<m↔dH (FL L) L.length (aB (FL L) L.length p) [] m:=by
 rw[←pR h hp]
 have:=pW h hp
 cases hr:eT (FL L) L.length [] p with
 | none=>rw[hr] at this;cases this
 | some r=>simp
theorem qI {L:List aj} {p q:Nat} {m:Int} (h:al (FL L) L.length) (hp:p<L.length):dj L p q m↔dH (FL L) L.length (aB (FL L) L.length p) (aB (FL L) L.length q) m:=by
 rw[←pR h hp]
 rfl
theorem kU {F:Nat->aj} {n:Nat} (h:al F n) {s:Int} {out into:List Int}:(∃j,j<n/\mx F n s out into j)↔dH F n out into s:=by
 constructor
 ·rintro ⟨j,hj,h1,h2,h3,h4⟩
  exact ⟨j,hj,h2,by omega,h3,h4⟩
 ·rintro ⟨j,hj,h2,h1,h3,h4⟩
  have:=(h.2.1 j hj).2.2.1
  exact ⟨j,hj,by omega,h2,h3,h4⟩
theorem pw {L:List aj} {p q u:Nat} (h:al (FL L) L.length):cJ L p q u↔
  (0<ax (FL L) L.length p/\dH (FL L) L.length (aB (FL L) L.length u) (aB (FL L) L.length q) (ax (FL L) L.length p))\/
  (ax (FL L) L.length p<0/\dH (FL L) L.length (aB (FL L) L.length q) (aB (FL L) L.length u) (-ax (FL L) L.length p)):=by
 unfold cJ qJ
 rw[←kU h,←kU h]
 constructor
 ·rintro ⟨j,hj,h1|h1⟩
  ·exact Or.inl ⟨h1.1,j,hj,h1.2⟩
  ·exact Or.inr ⟨h1.1,j,hj,h1.2⟩
 ·rintro (⟨h0,j,hj,h1⟩|⟨h0,j,hj,h1⟩)
  ·exact ⟨j,hj,Or.inl ⟨h0,h1⟩⟩
  ·exact ⟨j,hj,Or.inr ⟨h0,h1⟩⟩
def HS (w W:World) (X:Array Value) (T:Nat) (a:Option Addr) (n:Nat) (F:Nat->aj) (p:Nat->Addr):Prop:=
 (∀q,W.cell? ⟨w.heap.size,q,none⟩=(w.alloc (.cells X T)).cell? ⟨w.heap.size,q,none⟩)/\Fo W a n F/\GE W p/\Below w.heap.size w W/\w.heap.size<W.heap.size
theorem HS.new {w:World} (X:Array Value) (T:Nat) {a:Option Addr} {n:Nat} {F:Nat->aj} {p:Nat->Addr} (h:Fo w a n F) (hG:GE w p):HS w (w.alloc (.cells X T)) X T a n F p:=
 ⟨fun _=>rfl,h.alloc _,hG.below ((Bf _ _).alloc (Nf _) _),(Bf _ _).alloc (Nf _) _,by simp⟩
theorem HS.below {w W W':World} {X:Array Value} {T:Nat} {a:Option Addr} {n:Nat} {F:Nat->aj} {p:Nat->Addr} (h:HS w W X T a n F p) (hb:Below W.heap.size W W'):HS w W' X T a n F p:=
 ⟨fun q=>by rw[hb.cell (p:=⟨w.heap.size,q,none⟩) h.2.2.2.2];exact h.1 q,h.2.1.below hb,h.2.2.1.below hb,h.2.2.2.1.trans (hb.mono (Nat.le_of_lt h.2.2.2.2)),Nat.lt_of_lt_of_le h.2.2.2.2 hb.size⟩
theorem HS.alloc {w W:World} {X:Array Value} {T:Nat} {a:Option Addr} {n:Nat} {F:Nat->aj} {p:Nat->Addr} (h:HS w W X T a n F p) (x:Obj):HS w (W.alloc x) X T a n F p:=h.below ((Bf _ _).alloc (Nf _) x)
theorem tw (a:Option Addr) (c:Nat) (L:List aj) (i t m r:Int) (p:Nat->Addr) (w:World) (h:Fo w a L.length (FL L)) (hR:al (FL L) L.length) (hG:GE w p):
  Calls Pg 235 #[.agg #[Ii Jj i],Sl a L.length c] w fun e w'=>aM p (ag L 4 i t m r).1 e/\Below w.heap.size w w':=by
 have S0:Hid (HS w (w.alloc (.cells #[Ii Jj i] 214)) #[Ii Jj i] 214 a L.length (FL L) p):=HS.new _ _ h hG
 have HR:=aa hR
 have hn12:=hR.1
 clear h hR hG
 cases hp:ao (FL L) L.length i with
 | none=>
  have HJ:=aa hp
  have E:Hid ((ag L 4 i t m r).1=aF 2):=df (by decide) hp
  clear hp
  go_enter Tryz.func235,Tryz.ntmps235
  go_wp2_with fail
  refine (iY a L.length c (FL L) i p _ S0.out.2.1 HJ.out S0.out.2.2.1).mono ?_
  rintro e w1 ⟨rfl,B1⟩
  have S1:Hid (HS w (w1.alloc (.cells #[Ii Jj 0,Ii Jj 0,Ii Jj 0,Ii Jj 0,Ii Jj 0,.bool false,Ii Jj 0,Ii Jj 0] 30)) #[Ii Jj i] 214 a L.length (FL L) p):=(S0.out.below B1).alloc _
  have X1:=S1.out.1
  clear B1 S0
  go_wp2
  go_ret
  exact ⟨aM.ref i 2 (by omega) E.out (by decide),S1.out.2.2.2.1⟩
 | some j=>
  have HJ:=aa hp
  obtain ⟨hj,hid⟩:=ar hp
  have HID:=aa hid
  have EA:Hid ((ag L 4 i t m r).1=(aJ L j 4 m).1):=eG (by decide) (by decide) (by decide) hp
  clear hp hid
  cases hf:(FL L j).frozen with
  | true=>
   have HFZ:=aa hf
   have E:Hid ((ag L 4 i t m r).1=aF 4):=(by rw[EA.out];simp[aJ,hf,aF]:(ag L 4 i t m r).1=aF 4)
   clear hf
   go_enter Tryz.func235,Tryz.ntmps235
   go_wp2_with fail
   refine (dW a L.length c (FL L) i j p _ S0.out.2.1 HJ.out HFZ.out S0.out.2.2.1).mono ?_
   rintro e w1 ⟨rfl,B1⟩
   have S1:Hid (HS w (w1.alloc (.cells #[Ii Jj (FL L j).id,Ii Jj (FL L j).up,Ii Jj (FL L j).limit,Ii Jj (FL L j).rate,Ii Jj (FL L j).target,.bool true,Ii Jj (FL L j).balance,Ii Jj (FL L j).carry] 30)) #[Ii Jj i] 214 a L.length (FL L) p):=(S0.out.below B1).alloc _
   have X1:=S1.out.1
   clear B1 S0
   go_wp2
   go_ret
   exact ⟨aM.ref i 4 (by omega) E.out (by decide),S1.out.2.2.2.1⟩
  | false=>
   have HFZ:=aa hf
   have EC:Hid ((aJ L j 4 m).1=(bJ L j).1):=(by simp[aJ,hf]:(aJ L j 4 m).1=(bJ L j).1)
   clear hf
   by_cases hb:(FL L j).balance=0
   rotate_left
   ·have hbb:((FL L j).balance != 0)=true:=by simp[hb]
    have E:Hid ((ag L 4 i t m r).1=aF 6):=(by rw[EA.out,EC.out];simp[bJ,hb,aF]:(ag L 4 i t m r).1=aF 6)
    clear hb
    go_enter Tryz.func235,Tryz.ntmps235
    go_wp2_with fail
    refine (ey a L.length c (FL L) i j _ S0.out.2.1 HJ.out HFZ.out).mono ?_
    rintro e w1 ⟨rfl,B1⟩
    have S1:Hid (HS w (w1.alloc (.cells #[Ii Jj (FL L j).id,Ii Jj (FL L j).up,Ii Jj (FL L j).limit,Ii Jj (FL L j).rate,Ii Jj (FL L j).target,.bool false,Ii Jj (FL L j).balance,Ii Jj (FL L j).carry] 30)) #[Ii Jj i] 214 a L.length (FL L) p):=(S0.out.below B1).alloc _
    have X1:=S1.out.1
    clear B1 S0
    have gv:=S1.out.2.2.1.var 6 (by omega)
    go_wp2
    go_ret
    exact ⟨aM.ref i 6 (by omega) E.out (by decide),S1.out.2.2.2.1⟩
   have hbb:((FL L j).balance != 0)=false:=by simp[hb]
   have EK:Hid ((bJ L j).1=if bZ (FL L) i L.length≠[] then 8 else 0):=by
    show (bJ L j).1=_
    unfold bJ
    rw[HID.out]
    by_cases hk:bZ (FL L) i L.length=[]
    ·simp[hb,hk]
    ·simp[hk]
   have hkl:(bZ (FL L) i L.length).length<=L.length:=fB _ _ _
   clear hb
   go_enter Tryz.func235,Tryz.ntmps235
   go_wp2_with fail
   refine (ey a L.length c (FL L) i j _ S0.out.2.1 HJ.out HFZ.out).mono ?_
   rintro e w1 ⟨rfl,B1⟩
   have S1:Hid (HS w (w1.alloc (.cells #[Ii Jj (FL L j).id,Ii Jj (FL L j).up,Ii Jj (FL L j).limit,Ii Jj (FL L j).rate,Ii Jj (FL L j).target,.bool false,Ii Jj (FL L j).balance,Ii Jj (FL L j).carry] 30)) #[Ii Jj i] 214 a L.length (FL L) p):=(S0.out.below B1).alloc _
   have X1:=S1.out.1
   clear B1 S0
   go_wp2_with fail
   refine (l8 a L.length c (FL L) i _ S1.out.2.1 HR.out).mono ?_
   rintro e w2 ⟨v,rfl,I2,B2⟩
   have S2:=aa (S1.out.below B2)
   have X2:=S2.out.1
   obtain ⟨av,cv,hv,_,_⟩:=I2.shape
   subst hv
   clear B2 I2 S1 X1
   by_cases hk:bZ (FL L) i L.length=[]
   ·have E:Hid ((ag L 4 i t m r).1=0):=(by rw[EA.out,EC.out,EK.out];simp[hk]:(ag L 4 i t m r).1=0)
    rw[hk]
    clear hk
    go_wp2
    go_ret
    exact ⟨aM.ok E.out,S2.out.2.2.2.1⟩
   ·have E:Hid ((ag L 4 i t m r).1=aF 6):=(by rw[EA.out,EC.out,EK.out];simp[hk,aF]:(ag L 4 i t m r).1=aF 6)
    have hkp:0<(bZ (FL L) i L.length).length:=List.length_pos_iff.2 hk
    have hkd:decide ((0:Int)<((bZ (FL L) i L.length).length:Int))=true:=decide_eq_true (by omega)
    clear hk
    have gv:=S2.out.2.2.1.var 6 (by omega)
    go_wp2
    go_ret
    exact ⟨aM.ref i 6 (by omega) E.out (by decide),S2.out.2.2.2.1⟩
theorem tY (a:Option Addr) (c:Nat) (L:List aj) (i t m r:Int) (p:Nat->Addr) (w:World) (h:Fo w a L.length (FL L)) (hR:al (FL L) L.length) (hG:GE w p):
  Calls Pg 238 #[.agg #[Ii Jj i,Ii Jj m],Sl a L.length c] w fun e w'=>aM p (ag L 6 i t m r).1 e/\Below w.heap.size w w':=by
 have S0:Hid (HS w (w.alloc (.cells #[Ii Jj i,Ii Jj m] 217)) #[Ii Jj i,Ii Jj m] 217 a L.length (FL L) p):=HS.new _ _ h hG
 have HR:=aa hR
 have hn12:=hR.1
 clear h hR hG
 cases hp:ao (FL L) L.length i with
 | none=>
  have HJ:=aa hp
  have E:Hid ((ag L 6 i t m r).1=aF 2):=df (by decide) hp
  clear hp
  go_enter Tryz.func238,Tryz.ntmps238
  go_wp2_with fail
  refine (iY a L.length c (FL L) i p _ S0.out.2.1 HJ.out S0.out.2.2.1).mono ?_
  rintro e w1 ⟨rfl,B1⟩
  have S1:Hid (HS w (w1.alloc (.cells #[Ii Jj 0,Ii Jj 0,Ii Jj 0,Ii Jj 0,Ii Jj 0,.bool false,Ii Jj 0,Ii Jj 0] 30)) #[Ii Jj i,Ii Jj m] 217 a L.length (FL L) p):=(S0.out.below B1).alloc _
  have X1:=S1.out.1
  clear B1 S0
  go_wp2
  go_ret
  exact ⟨aM.ref i 2 (by omega) E.out (by decide),S1.out.2.2.2.1⟩
 | some j=>
  have HJ:=aa hp
  obtain ⟨hj,hid⟩:=ar hp
  have HID:=aa hid
  have EA:Hid ((ag L 6 i t m r).1=(aJ L j 6 m).1):=eG (by decide) (by decide) (by decide) hp
  clear hp hid
  cases hf:(FL L j).frozen with
  | true=>
   have HFZ:=aa hf
   have E:Hid ((ag L 6 i t m r).1=aF 4):=(by rw[EA.out];simp[aJ,hf,aF]:(ag L 6 i t m r).1=aF 4)
   clear hf
   go_enter Tryz.func238,Tryz.ntmps238
   go_wp2_with fail
   refine (dW a L.length c (FL L) i j p _ S0.out.2.1 HJ.out HFZ.out S0.out.2.2.1).mono ?_
   rintro e w1 ⟨rfl,B1⟩
   have S1:Hid (HS w (w1.alloc (.cells #[Ii Jj (FL L j).id,Ii Jj (FL L j).up,Ii Jj (FL L j).limit,Ii Jj (FL L j).rate,Ii Jj (FL L j).target,.bool true,Ii Jj (FL L j).balance,Ii Jj (FL L j).carry] 30)) #[Ii Jj i,Ii Jj m] 217 a L.length (FL L) p):=(S0.out.below B1).alloc _
   have X1:=S1.out.1
   clear B1 S0
   go_wp2
   go_ret
   exact ⟨aM.ref i 4 (by omega) E.out (by decide),S1.out.2.2.2.1⟩
  | false=>
   have HFZ:=aa hf
   have ET:Hid ((aJ L j 6 m).1=(dy L j m).1):=(by simp[aJ,hf]:(aJ L j 6 m).1=(dy L j m).1)
   have HTS:Hid ((eT (FL L) L.length [] j).getD 0<m↔dH (FL L) L.length (aB (FL L) L.length j) [] m):=pv HR.out hj
   have HC:Hid (aD (FL L) L.length L.length i=some (aB (FL L) L.length j)):=by
    have:=gZ HR.out hj
    rw[HID.out] at this
    exact this
   clear hf
   go_enter Tryz.func238,Tryz.ntmps238
   go_wp2_with fail
   refine (ey a L.length c (FL L) i j _ S0.out.2.1 HJ.out HFZ.out).mono ?_
   rintro e w1 ⟨rfl,B1⟩
   have S1:Hid (HS w (w1.alloc (.cells #[Ii Jj (FL L j).id,Ii Jj (FL L j).up,Ii Jj (FL L j).limit,Ii Jj (FL L j).rate,Ii Jj (FL L j).target,.bool false,Ii Jj (FL L j).balance,Ii Jj (FL L j).carry] 30)) #[Ii Jj i,Ii Jj m] 217 a L.length (FL L) p):=(S0.out.below B1).alloc _
   have X1:=S1.out.1
   clear B1 S0
   go_wp2_with fail
   refine (iZ a L.length c (FL L) i 0 m (aB (FL L) L.length j) [] p _ S1.out.2.1 HR.out HC.out (gr _ _ _) S1.out.2.2.1).mono ?_
   rintro e w2 ⟨hs,B2⟩
   have S2:=aa (S1.out.below B2)
   clear B2 S1 X1
   rcases hs with ⟨hs,i2,rfl⟩|⟨hs,rfl⟩
   ·have E:Hid ((ag L 6 i t m r).1=aF 5):=(by rw[EA.out,ET.out];unfold dy;rw[if_pos (HTS.out.2 hs)];rfl:(ag L 6 i t m r).1=aF 5)
    clear hs
    unfold jn
    go_wp2
    go_ret
    exact ⟨aM.ref i2 5 (by omega) E.out (by decide),S2.out.2.2.2.1⟩
   ·have E:Hid ((ag L 6 i t m r).1=0):=(by rw[EA.out,ET.out];unfold dy;rw[if_neg (fun h=>hs (HTS.out.1 h))]:(ag L 6 i t m r).1=0)
    clear hs
    go_wp2
    go_ret
    exact ⟨aM.ok E.out,S2.out.2.2.2.1⟩
theorem tZ (a:Option Addr) (c:Nat) (L:List aj) (i t m r:Int) (p:Nat->Addr) (w:World) (h:Fo w a L.length (FL L)) (hR:al (FL L) L.length) (hG:GE w p):
  Calls Pg 232 #[.agg #[Ii Jj i,Ii Jj t,Ii Jj m,Ii Jj r,Ii Jj (-1),.bool false,Ii Jj 0,Ii Jj 0],Sl a L.length c] w fun e w'=>aM p (ag L 1 i t m r).1 e/\Below w.heap.size w w':=by
 have S0:Hid (HS w (w.alloc (.cells #[Ii Jj i,Ii Jj t,Ii Jj m,Ii Jj r,Ii Jj (-1),.bool false,Ii Jj 0,Ii Jj 0] 210)) #[Ii Jj i,Ii Jj t,Ii Jj m,Ii Jj r,Ii Jj (-1),.bool false,Ii Jj 0,Ii Jj 0] 210 a L.length (FL L) p):=HS.new _ _ h hG
 have HR:=aa hR
 have hn12:=hR.1
 clear h hR hG
 have EO:Hid ((ag L 1 i t m r).1=(cj L i t m r).1):=(by simp[ag]:(ag L 1 i t m r).1=(cj L i t m r).1)
 cases hp:ao (FL L) L.length i with
 | some j=>
  have HJ:=aa hp
  have E:Hid ((ag L 1 i t m r).1=aF 3):=(by rw[EO.out];simp[cj,hp,aF]:(ag L 1 i t m r).1=aF 3)
  clear hp
  go_enter Tryz.func232,Tryz.ntmps232
  go_wp2_with fail
  refine (aQ a L.length c (FL L) i j _ S0.out.2.1 HJ.out).mono ?_
  rintro e w1 ⟨rfl,B1⟩
  have S1:Hid (HS w (w1.alloc (.cells #[Ii Jj (FL L j).id,Ii Jj (FL L j).up,Ii Jj (FL L j).limit,Ii Jj (FL L j).rate,Ii Jj (FL L j).target,.bool (FL L j).frozen,Ii Jj (FL L j).balance,Ii Jj (FL L j).carry] 30)) #[Ii Jj i,Ii Jj t,Ii Jj m,Ii Jj r,Ii Jj (-1),.bool false,Ii Jj 0,Ii Jj 0] 210 a L.length (FL L) p):=(S0.out.below B1).alloc _
  have X1:=S1.out.1
  clear B1 S0
  have gv:=S1.out.2.2.1.var 3 (by omega)
  go_wp2
  go_ret
  exact ⟨aM.ref i 3 (by omega) E.out (by decide),S1.out.2.2.2.1⟩
 | none=>
  have HJ:=aa hp
  by_cases ht:t=0
  ·have htb:(t == 0)=true:=by simp[ht]
   have E:Hid ((ag L 1 i t m r).1=0):=(by rw[EO.out];simp[cj,hp,ht]:(ag L 1 i t m r).1=0)
   clear hp ht
   go_enter Tryz.func232,Tryz.ntmps232
   go_wp2_with fail
   refine (cF a L.length c (FL L) i p _ S0.out.2.1 HJ.out S0.out.2.2.1).mono ?_
   rintro e w1 ⟨rfl,B1⟩
   have S1:Hid (HS w (w1.alloc (.cells #[Ii Jj 0,Ii Jj 0,Ii Jj 0,Ii Jj 0,Ii Jj 0,.bool false,Ii Jj 0,Ii Jj 0] 30)) #[Ii Jj i,Ii Jj t,Ii Jj m,Ii Jj r,Ii Jj (-1),.bool false,Ii Jj 0,Ii Jj 0] 210 a L.length (FL L) p):=(S0.out.below B1).alloc _
   have X1:=S1.out.1
   clear B1 S0
   go_wp2
   go_ret
   exact ⟨aM.ok E.out,S1.out.2.2.2.1⟩
  have htb:(t == 0)=false:=by simp[ht]
  cases hq:ao (FL L) L.length t with
  | some q=>
   have HQ:=aa hq
   have E:Hid ((ag L 1 i t m r).1=0):=(by rw[EO.out];simp[cj,hp,hq]:(ag L 1 i t m r).1=0)
   clear hp hq ht
   go_enter Tryz.func232,Tryz.ntmps232
   go_wp2_with fail
   refine (cF a L.length c (FL L) i p _ S0.out.2.1 HJ.out S0.out.2.2.1).mono ?_
   rintro e w1 ⟨rfl,B1⟩
   have S1:Hid (HS w (w1.alloc (.cells #[Ii Jj 0,Ii Jj 0,Ii Jj 0,Ii Jj 0,Ii Jj 0,.bool false,Ii Jj 0,Ii Jj 0] 30)) #[Ii Jj i,Ii Jj t,Ii Jj m,Ii Jj r,Ii Jj (-1),.bool false,Ii Jj 0,Ii Jj 0] 210 a L.length (FL L) p):=(S0.out.below B1).alloc _
   have X1:=S1.out.1
   clear B1 S0
   go_wp2_with fail
   refine (aQ a L.length c (FL L) t q _ S1.out.2.1 HQ.out).mono ?_
   rintro e w2 ⟨rfl,B2⟩
   have S2:Hid (HS w (w2.alloc (.cells #[Ii Jj (FL L q).id,Ii Jj (FL L q).up,Ii Jj (FL L q).limit,Ii Jj (FL L q).rate,Ii Jj (FL L q).target,.bool (FL L q).frozen,Ii Jj (FL L q).balance,Ii Jj (FL L q).carry] 30)) #[Ii Jj i,Ii Jj t,Ii Jj m,Ii Jj r,Ii Jj (-1),.bool false,Ii Jj 0,Ii Jj 0] 210 a L.length (FL L) p):=(S1.out.below B2).alloc _
   have X2:=S2.out.1
   clear B2 S1 X1
   go_wp2
   go_ret
   exact ⟨aM.ok E.out,S2.out.2.2.2.1⟩
  | none=>
   have HQ:=aa hq
   have E:Hid ((ag L 1 i t m r).1=aF 2):=(by rw[EO.out];simp[cj,hp,hq,ht,aF]:(ag L 1 i t m r).1=aF 2)
   clear hp hq ht
   go_enter Tryz.func232,Tryz.ntmps232
   go_wp2_with fail
   refine (cF a L.length c (FL L) i p _ S0.out.2.1 HJ.out S0.out.2.2.1).mono ?_
   rintro e w1 ⟨rfl,B1⟩
   have S1:Hid (HS w (w1.alloc (.cells #[Ii Jj 0,Ii Jj 0,Ii Jj 0,Ii Jj 0,Ii Jj 0,.bool false,Ii Jj 0,Ii Jj 0] 30)) #[Ii Jj i,Ii Jj t,Ii Jj m,Ii Jj r,Ii Jj (-1),.bool false,Ii Jj 0,Ii Jj 0] 210 a L.length (FL L) p):=(S0.out.below B1).alloc _
   have X1:=S1.out.1
   clear B1 S0
   go_wp2_with fail
   refine (cF a L.length c (FL L) t p _ S1.out.2.1 HQ.out S1.out.2.2.1).mono ?_
   rintro e w2 ⟨rfl,B2⟩
   have S2:Hid (HS w (w2.alloc (.cells #[Ii Jj 0,Ii Jj 0,Ii Jj 0,Ii Jj 0,Ii Jj 0,.bool false,Ii Jj 0,Ii Jj 0] 30)) #[Ii Jj i,Ii Jj t,Ii Jj m,Ii Jj r,Ii Jj (-1),.bool false,Ii Jj 0,Ii Jj 0] 210 a L.length (FL L) p):=(S1.out.below B2).alloc _
   have X2:=S2.out.1
   clear B2 S1 X1
   go_wp2
   go_ret
   exact ⟨aM.ref t 2 (by omega) E.out (by decide),S2.out.2.2.2.1⟩
theorem vC (a:Option Addr) (c:Nat) (L:List aj) (i t m r:Int) (p:Nat->Addr) (w:World) (h:Fo w a L.length (FL L)) (hR:al (FL L) L.length) (hG:GE w p):
  Calls Pg 244 #[.agg #[Ii Jj i,Ii Jj t,Ii Jj m],Sl a L.length c] w fun e w'=>aM p (ag L 7 i t m r).1 e/\Below w.heap.size w w':=by
 have S0:Hid (HS w (w.alloc (.cells #[Ii Jj i,Ii Jj t,Ii Jj m] 219)) #[Ii Jj i,Ii Jj t,Ii Jj m] 219 a L.length (FL L) p):=HS.new _ _ h hG
 have HR:=aa hR
 have hn12:=hR.1
 clear h hR hG
 cases hp:ao (FL L) L.length i with
 | none=>
  have HJ:=aa hp
  have E:Hid ((ag L 7 i t m r).1=aF 2):=df (by decide) hp
  clear hp
  go_enter Tryz.func244,Tryz.ntmps244
  go_wp2_with fail
  refine (cF a L.length c (FL L) i p _ S0.out.2.1 HJ.out S0.out.2.2.1).mono ?_
  rintro e w1 ⟨rfl,B1⟩
  have S1:Hid (HS w (w1.alloc (.cells #[Ii Jj 0,Ii Jj 0,Ii Jj 0,Ii Jj 0,Ii Jj 0,.bool false,Ii Jj 0,Ii Jj 0] 30)) #[Ii Jj i,Ii Jj t,Ii Jj m] 219 a L.length (FL L) p):=(S0.out.below B1).alloc _
  have X1:=S1.out.1
  clear B1 S0
  go_wp2
  go_ret
  exact ⟨aM.ref i 2 (by omega) E.out (by decide),S1.out.2.2.2.1⟩
 | some j=>
  have HJ:=aa hp
  obtain ⟨hj,hid⟩:=ar hp
  have HC:Hid (aD (FL L) L.length L.length i=some (aB (FL L) L.length j)):=by
   have:=gZ HR.out hj
   rw[hid] at this
   exact this
  cases hq:ao (FL L) L.length t with
  | none=>
   have HQ:=aa hq
   have E:Hid ((ag L 7 i t m r).1=aF 2):=(by simp[ag,hp,hq,aF]:(ag L 7 i t m r).1=aF 2)
   clear hp hq hid
   go_enter Tryz.func244,Tryz.ntmps244
   go_wp2_with fail
   refine (aQ a L.length c (FL L) i j _ S0.out.2.1 HJ.out).mono ?_
   rintro e w1 ⟨rfl,B1⟩
   have S1:Hid (HS w (w1.alloc (.cells #[Ii Jj (FL L j).id,Ii Jj (FL L j).up,Ii Jj (FL L j).limit,Ii Jj (FL L j).rate,Ii Jj (FL L j).target,.bool (FL L j).frozen,Ii Jj (FL L j).balance,Ii Jj (FL L j).carry] 30)) #[Ii Jj i,Ii Jj t,Ii Jj m] 219 a L.length (FL L) p):=(S0.out.below B1).alloc _
   have X1:=S1.out.1
   clear B1 S0
   go_wp2_with fail
   refine (iY a L.length c (FL L) t p _ S1.out.2.1 HQ.out S1.out.2.2.1).mono ?_
   rintro e w2 ⟨rfl,B2⟩
   have S2:Hid (HS w (w2.alloc (.cells #[Ii Jj 0,Ii Jj 0,Ii Jj 0,Ii Jj 0,Ii Jj 0,.bool false,Ii Jj 0,Ii Jj 0] 30)) #[Ii Jj i,Ii Jj t,Ii Jj m] 219 a L.length (FL L) p):=(S1.out.below B2).alloc _
   have X2:=S2.out.1
   clear B2 S1 X1
   go_wp2
   go_ret
   exact ⟨aM.ref t 2 (by omega) E.out (by decide),S2.out.2.2.2.1⟩
  | some q=>
   have HQ:=aa hq
   obtain ⟨hql,hqid⟩:=ar hq
   have HCT:Hid (aD (FL L) L.length L.length t=some (aB (FL L) L.length q)):=by
    have:=gZ HR.out hql
    rw[hqid] at this
    exact this
   have EP:Hid ((ag L 7 i t m r).1=(dh L j q m).1):=(by simp[ag,hp,hq]:(ag L 7 i t m r).1=(dh L j q m).1)
   have HPS:Hid (dj L j q m↔dH (FL L) L.length (aB (FL L) L.length j) (aB (FL L) L.length q) m):=qI HR.out hj
   clear hp hq hid hqid
   cases hfq:(FL L q).frozen with
   | true=>
    have HFQ:=aa hfq
    have E:Hid ((ag L 7 i t m r).1=aF 4):=(by rw[EP.out];simp[dh,hfq,aF]:(ag L 7 i t m r).1=aF 4)
    clear hfq
    go_enter Tryz.func244,Tryz.ntmps244
    go_wp2_with fail
    refine (aQ a L.length c (FL L) i j _ S0.out.2.1 HJ.out).mono ?_
    rintro e w1 ⟨rfl,B1⟩
    have S1:Hid (HS w (w1.alloc (.cells #[Ii Jj (FL L j).id,Ii Jj (FL L j).up,Ii Jj (FL L j).limit,Ii Jj (FL L j).rate,Ii Jj (FL L j).target,.bool (FL L j).frozen,Ii Jj (FL L j).balance,Ii Jj (FL L j).carry] 30)) #[Ii Jj i,Ii Jj t,Ii Jj m] 219 a L.length (FL L) p):=(S0.out.below B1).alloc _
    have X1:=S1.out.1
    clear B1 S0
    go_wp2_with fail
    refine (dW a L.length c (FL L) t q p _ S1.out.2.1 HQ.out HFQ.out S1.out.2.2.1).mono ?_
    rintro e w2 ⟨rfl,B2⟩
    have S2:Hid (HS w (w2.alloc (.cells #[Ii Jj (FL L q).id,Ii Jj (FL L q).up,Ii Jj (FL L q).limit,Ii Jj (FL L q).rate,Ii Jj (FL L q).target,.bool true,Ii Jj (FL L q).balance,Ii Jj (FL L q).carry] 30)) #[Ii Jj i,Ii Jj t,Ii Jj m] 219 a L.length (FL L) p):=(S1.out.below B2).alloc _
    have X2:=S2.out.1
    clear B2 S1 X1
    go_wp2
    go_ret
    exact ⟨aM.ref t 4 (by omega) E.out (by decide),S2.out.2.2.2.1⟩
   | false=>
    have HFQ:=aa hfq
    cases hfj:(FL L j).frozen with
    | true=>
     have HFZ:=aa hfj
     have E:Hid ((ag L 7 i t m r).1=aF 4):=(by rw[EP.out];simp[dh,hfj,aF]:(ag L 7 i t m r).1=aF 4)
     clear hfq hfj
     go_enter Tryz.func244,Tryz.ntmps244
     go_wp2_with fail
     refine (aQ a L.length c (FL L) i j _ S0.out.2.1 HJ.out).mono ?_
     rintro e w1 ⟨rfl,B1⟩
     have S1:Hid (HS w (w1.alloc (.cells #[Ii Jj (FL L j).id,Ii Jj (FL L j).up,Ii Jj (FL L j).limit,Ii Jj (FL L j).rate,Ii Jj (FL L j).target,.bool (FL L j).frozen,Ii Jj (FL L j).balance,Ii Jj (FL L j).carry] 30)) #[Ii Jj i,Ii Jj t,Ii Jj m] 219 a L.length (FL L) p):=(S0.out.below B1).alloc _
     have X1:=S1.out.1
     clear B1 S0
     go_wp2_with fail
     refine (ey a L.length c (FL L) t q _ S1.out.2.1 HQ.out HFQ.out).mono ?_
     rintro e w2 ⟨rfl,B2⟩
     have S2:Hid (HS w (w2.alloc (.cells #[Ii Jj (FL L q).id,Ii Jj (FL L q).up,Ii Jj (FL L q).limit,Ii Jj (FL L q).rate,Ii Jj (FL L q).target,.bool false,Ii Jj (FL L q).balance,Ii Jj (FL L q).carry] 30)) #[Ii Jj i,Ii Jj t,Ii Jj m] 219 a L.length (FL L) p):=(S1.out.below B2).alloc _
     have X2:=S2.out.1
     clear B2 S1 X1
     go_wp2_with fail
     refine (dW a L.length c (FL L) i j p _ S2.out.2.1 HJ.out HFZ.out S2.out.2.2.1).mono ?_
     rintro e w3 ⟨rfl,B3⟩
     have S3:Hid (HS w (w3.alloc (.cells #[Ii Jj (FL L j).id,Ii Jj (FL L j).up,Ii Jj (FL L j).limit,Ii Jj (FL L j).rate,Ii Jj (FL L j).target,.bool true,Ii Jj (FL L j).balance,Ii Jj (FL L j).carry] 30)) #[Ii Jj i,Ii Jj t,Ii Jj m] 219 a L.length (FL L) p):=(S2.out.below B3).alloc _
     have X3:=S3.out.1
     clear B3 S2 X2
     go_wp2
     go_ret
     exact ⟨aM.ref i 4 (by omega) E.out (by decide),S3.out.2.2.2.1⟩
    | false=>
     have HFZ:=aa hfj
     have EP2:Hid ((dj L j q m->(dh L j q m).1=6)/\(¬dj L j q m->(dh L j q m).1=0)):=⟨fun h=>by simp[dh,hfj,hfq,h],fun h=>by simp[dh,hfj,hfq,h]⟩
     clear hfq hfj
     go_enter Tryz.func244,Tryz.ntmps244
     go_wp2_with fail
     refine (aQ a L.length c (FL L) i j _ S0.out.2.1 HJ.out).mono ?_
     rintro e w1 ⟨rfl,B1⟩
     have S1:Hid (HS w (w1.alloc (.cells #[Ii Jj (FL L j).id,Ii Jj (FL L j).up,Ii Jj (FL L j).limit,Ii Jj (FL L j).rate,Ii Jj (FL L j).target,.bool (FL L j).frozen,Ii Jj (FL L j).balance,Ii Jj (FL L j).carry] 30)) #[Ii Jj i,Ii Jj t,Ii Jj m] 219 a L.length (FL L) p):=(S0.out.below B1).alloc _
     have X1:=S1.out.1
     clear B1 S0
     go_wp2_with fail
     refine (ey a L.length c (FL L) t q _ S1.out.2.1 HQ.out HFQ.out).mono ?_
     rintro e w2 ⟨rfl,B2⟩
     have S2:Hid (HS w (w2.alloc (.cells #[Ii Jj (FL L q).id,Ii Jj (FL L q).up,Ii Jj (FL L q).limit,Ii Jj (FL L q).rate,Ii Jj (FL L q).target,.bool false,Ii Jj (FL L q).balance,Ii Jj (FL L q).carry] 30)) #[Ii Jj i,Ii Jj t,Ii Jj m] 219 a L.length (FL L) p):=(S1.out.below B2).alloc _
     have X2:=S2.out.1
     clear B2 S1 X1
     go_wp2_with fail
     refine (ey a L.length c (FL L) i j _ S2.out.2.1 HJ.out HFZ.out).mono ?_
     rintro e w3 ⟨rfl,B3⟩
     have S3:Hid (HS w (w3.alloc (.cells #[Ii Jj (FL L j).id,Ii Jj (FL L j).up,Ii Jj (FL L j).limit,Ii Jj (FL L j).rate,Ii Jj (FL L j).target,.bool false,Ii Jj (FL L j).balance,Ii Jj (FL L j).carry] 30)) #[Ii Jj i,Ii Jj t,Ii Jj m] 219 a L.length (FL L) p):=(S2.out.below B3).alloc _
     have X3:=S3.out.1
     clear B3 S2 X2
     go_wp2_with fail
     refine (iZ a L.length c (FL L) i t m (aB (FL L) L.length j) (aB (FL L) L.length q) p _ S3.out.2.1 HR.out HC.out HCT.out S3.out.2.2.1).mono ?_
     rintro e w4 ⟨hs,B4⟩
     have S4:=aa (S3.out.below B4)
     clear B4 S3 X3
     rcases hs with ⟨hs,i2,rfl⟩|⟨hs,rfl⟩
     ·have E:Hid ((ag L 7 i t m r).1=aF 5):=(by rw[EP.out];exact EP2.out.1 (HPS.out.2 hs):(ag L 7 i t m r).1=aF 5)
      clear hs
      unfold jn
      go_wp2
      go_ret
      exact ⟨aM.ref i2 5 (by omega) E.out (by decide),S4.out.2.2.2.1⟩
     ·have E:Hid ((ag L 7 i t m r).1=0):=(by rw[EP.out];exact EP2.out.2 (fun h=>hs (HPS.out.1 h)):(ag L 7 i t m r).1=0)
      clear hs
      go_wp2
      go_ret
      exact ⟨aM.ok E.out,S4.out.2.2.2.1⟩
theorem u0 (a:Option Addr) (c:Nat) (L:List aj) (i t m r:Int) (p:Nat->Addr) (w:World) (h:Fo w a L.length (FL L)) (hR:al (FL L) L.length) (hG:GE w p):
  Calls Pg 247 #[.agg #[Ii Jj i,Ii Jj t],Sl a L.length c] w fun e w'=>aM p (ag L 9 i t m r).1 e/\Below w.heap.size w w':=by
 have S0:Hid (HS w (w.alloc (.cells #[Ii Jj i,Ii Jj t] 225)) #[Ii Jj i,Ii Jj t] 225 a L.length (FL L) p):=HS.new _ _ h hG
 have HR:=aa hR
 have hn12:=hR.1
 clear h hR hG
 cases hp:ao (FL L) L.length i with
 | none=>
  have HJ:=aa hp
  have E:Hid ((ag L 9 i t m r).1=aF 2):=df (by decide) hp
  clear hp
  go_enter Tryz.func247,Tryz.ntmps247
  go_wp2_with fail
  refine (cF a L.length c (FL L) i p _ S0.out.2.1 HJ.out S0.out.2.2.1).mono ?_
  rintro e w1 ⟨rfl,B1⟩
  have S1:Hid (HS w (w1.alloc (.cells #[Ii Jj 0,Ii Jj 0,Ii Jj 0,Ii Jj 0,Ii Jj 0,.bool false,Ii Jj 0,Ii Jj 0] 30)) #[Ii Jj i,Ii Jj t] 225 a L.length (FL L) p):=(S0.out.below B1).alloc _
  have X1:=S1.out.1
  clear B1 S0
  go_wp2
  go_ret
  exact ⟨aM.ref i 2 (by omega) E.out (by decide),S1.out.2.2.2.1⟩
 | some j=>
  have HJ:=aa hp
  obtain ⟨hj,hid⟩:=ar hp
  cases hq:ao (FL L) L.length t with
  | none=>
   have HQ:=aa hq
   have E:Hid ((ag L 9 i t m r).1=aF 2):=(by simp[ag,hp,hq,aF]:(ag L 9 i t m r).1=aF 2)
   clear hp hq hid
   go_enter Tryz.func247,Tryz.ntmps247
   go_wp2_with fail
   refine (aQ a L.length c (FL L) i j _ S0.out.2.1 HJ.out).mono ?_
   rintro e w1 ⟨rfl,B1⟩
   have S1:Hid (HS w (w1.alloc (.cells #[Ii Jj (FL L j).id,Ii Jj (FL L j).up,Ii Jj (FL L j).limit,Ii Jj (FL L j).rate,Ii Jj (FL L j).target,.bool (FL L j).frozen,Ii Jj (FL L j).balance,Ii Jj (FL L j).carry] 30)) #[Ii Jj i,Ii Jj t] 225 a L.length (FL L) p):=(S0.out.below B1).alloc _
   have X1:=S1.out.1
   clear B1 S0
   go_wp2_with fail
   refine (cF a L.length c (FL L) t p _ S1.out.2.1 HQ.out S1.out.2.2.1).mono ?_
   rintro e w2 ⟨rfl,B2⟩
   have S2:Hid (HS w (w2.alloc (.cells #[Ii Jj 0,Ii Jj 0,Ii Jj 0,Ii Jj 0,Ii Jj 0,.bool false,Ii Jj 0,Ii Jj 0] 30)) #[Ii Jj i,Ii Jj t] 225 a L.length (FL L) p):=(S1.out.below B2).alloc _
   have X2:=S2.out.1
   clear B2 S1 X1
   go_wp2
   go_ret
   exact ⟨aM.ref t 2 (by omega) E.out (by decide),S2.out.2.2.2.1⟩
  | some q=>
   have HQ:=aa hq
   obtain ⟨hql,hqid⟩:=ar hq
   have HCT:Hid (aD (FL L) L.length L.length t=some (aB (FL L) L.length q)):=by
    have:=gZ HR.out hql
    rw[hqid] at this
    exact this
   have EH:Hid ((ag L 9 i t m r).1=(bR L j q ((ao (FL L) L.length (FL L j).up).getD 0)).1):=(by simp[ag,hp,hq]:(ag L 9 i t m r).1=(bR L j q ((ao (FL L) L.length (FL L j).up).getD 0)).1)
   have HID:=aa hid
   clear hp hq hid hqid
   by_cases hu:(FL L j).up=0
   ·have hub:((FL L j).up == 0)=true:=by simp[hu]
    have E:Hid ((ag L 9 i t m r).1=aF 6):=(by rw[EH.out];simp[bR,hu,aF]:(ag L 9 i t m r).1=aF 6)
    clear hu
    go_enter Tryz.func247,Tryz.ntmps247
    go_wp2_with fail
    refine (aQ a L.length c (FL L) i j _ S0.out.2.1 HJ.out).mono ?_
    rintro e w1 ⟨rfl,B1⟩
    have S1:Hid (HS w (w1.alloc (.cells #[Ii Jj (FL L j).id,Ii Jj (FL L j).up,Ii Jj (FL L j).limit,Ii Jj (FL L j).rate,Ii Jj (FL L j).target,.bool (FL L j).frozen,Ii Jj (FL L j).balance,Ii Jj (FL L j).carry] 30)) #[Ii Jj i,Ii Jj t] 225 a L.length (FL L) p):=(S0.out.below B1).alloc _
    have X1:=S1.out.1
    clear B1 S0
    have hz1:w1.heap.size<(w1.alloc (.cells #[Ii Jj (FL L j).id,Ii Jj (FL L j).up,Ii Jj (FL L j).limit,Ii Jj (FL L j).rate,Ii Jj (FL L j).target,.bool (FL L j).frozen,Ii Jj (FL L j).balance,Ii Jj (FL L j).carry] 30)).heap.size:=by simp
    go_wp2_with fail
    refine (aQ a L.length c (FL L) t q _ S1.out.2.1 HQ.out).mono ?_
    rintro e w2 ⟨rfl,B2⟩
    have hz2:w1.heap.size<w2.heap.size:=Nat.lt_of_lt_of_le hz1 B2.size
    have S2:Hid (HS w (w2.alloc (.cells #[Ii Jj (FL L q).id,Ii Jj (FL L q).up,Ii Jj (FL L q).limit,Ii Jj (FL L q).rate,Ii Jj (FL L q).target,.bool (FL L q).frozen,Ii Jj (FL L q).balance,Ii Jj (FL L q).carry] 30)) #[Ii Jj i,Ii Jj t] 225 a L.length (FL L) p):=(S1.out.below B2).alloc _
    have X2:=S2.out.1
    have Y2:∀y,(w2.alloc (.cells #[Ii Jj (FL L q).id,Ii Jj (FL L q).up,Ii Jj (FL L q).limit,Ii Jj (FL L q).rate,Ii Jj (FL L q).target,.bool (FL L q).frozen,Ii Jj (FL L q).balance,Ii Jj (FL L q).carry] 30)).cell? ⟨w1.heap.size,y,none⟩=(w1.alloc (.cells #[Ii Jj (FL L j).id,Ii Jj (FL L j).up,Ii Jj (FL L j).limit,Ii Jj (FL L j).rate,Ii Jj (FL L j).target,.bool (FL L j).frozen,Ii Jj (FL L j).balance,Ii Jj (FL L j).carry] 30)).cell? ⟨w1.heap.size,y,none⟩:=fun y=>by
     rw[World.cell?_alloc_lt _ _ ⟨w1.heap.size,y,none⟩ hz2,B2.cell (p:=⟨w1.heap.size,y,none⟩) hz1]
    clear B2 S1 X1
    have gv:=S2.out.2.2.1.var 6 (by omega)
    go_wp2
    go_ret
    exact ⟨aM.ref i 6 (by omega) E.out (by decide),S2.out.2.2.2.1⟩
   have hub:((FL L j).up == 0)=false:=by simp[hu]
   obtain ⟨u,hun,huid,_⟩:=HR.out.path_up hj hu
   have hpu:ao (FL L) L.length (FL L j).up=some u:=by rw[←huid];exact bL HR.out.2.2.1 hun
   have HCU:Hid (aD (FL L) L.length L.length (FL L j).up=some (aB (FL L) L.length u)):=by
    have:=gZ HR.out hun
    rw[huid] at this
    exact this
   rw[hpu,Option.getD_some] at EH
   by_cases hm:i ∈ aB (FL L) L.length q
   ·have HM:Hid (i ∈ aB (FL L) L.length q):=hm
    have E:Hid ((ag L 9 i t m r).1=aF 6):=(by rw[EH.out];unfold bR;rw[if_pos (Or.inr (by rw[HID.out];exact hm))];rfl:(ag L 9 i t m r).1=aF 6)
    clear hu hm huid hpu
    go_enter Tryz.func247,Tryz.ntmps247
    go_wp2_with fail
    refine (aQ a L.length c (FL L) i j _ S0.out.2.1 HJ.out).mono ?_
    rintro e w1 ⟨rfl,B1⟩
    have S1:Hid (HS w (w1.alloc (.cells #[Ii Jj (FL L j).id,Ii Jj (FL L j).up,Ii Jj (FL L j).limit,Ii Jj (FL L j).rate,Ii Jj (FL L j).target,.bool (FL L j).frozen,Ii Jj (FL L j).balance,Ii Jj (FL L j).carry] 30)) #[Ii Jj i,Ii Jj t] 225 a L.length (FL L) p):=(S0.out.below B1).alloc _
    have X1:=S1.out.1
    clear B1 S0
    have hz1:w1.heap.size<(w1.alloc (.cells #[Ii Jj (FL L j).id,Ii Jj (FL L j).up,Ii Jj (FL L j).limit,Ii Jj (FL L j).rate,Ii Jj (FL L j).target,.bool (FL L j).frozen,Ii Jj (FL L j).balance,Ii Jj (FL L j).carry] 30)).heap.size:=by simp
    go_wp2_with fail
    refine (aQ a L.length c (FL L) t q _ S1.out.2.1 HQ.out).mono ?_
    rintro e w2 ⟨rfl,B2⟩
    have hz2:w1.heap.size<w2.heap.size:=Nat.lt_of_lt_of_le hz1 B2.size
    have S2:Hid (HS w (w2.alloc (.cells #[Ii Jj (FL L q).id,Ii Jj (FL L q).up,Ii Jj (FL L q).limit,Ii Jj (FL L q).rate,Ii Jj (FL L q).target,.bool (FL L q).frozen,Ii Jj (FL L q).balance,Ii Jj (FL L q).carry] 30)) #[Ii Jj i,Ii Jj t] 225 a L.length (FL L) p):=(S1.out.below B2).alloc _
    have X2:=S2.out.1
    have Y2:∀y,(w2.alloc (.cells #[Ii Jj (FL L q).id,Ii Jj (FL L q).up,Ii Jj (FL L q).limit,Ii Jj (FL L q).rate,Ii Jj (FL L q).target,.bool (FL L q).frozen,Ii Jj (FL L q).balance,Ii Jj (FL L q).carry] 30)).cell? ⟨w1.heap.size,y,none⟩=(w1.alloc (.cells #[Ii Jj (FL L j).id,Ii Jj (FL L j).up,Ii Jj (FL L j).limit,Ii Jj (FL L j).rate,Ii Jj (FL L j).target,.bool (FL L j).frozen,Ii Jj (FL L j).balance,Ii Jj (FL L j).carry] 30)).cell? ⟨w1.heap.size,y,none⟩:=fun y=>by
     rw[World.cell?_alloc_lt _ _ ⟨w1.heap.size,y,none⟩ hz2,B2.cell (p:=⟨w1.heap.size,y,none⟩) hz1]
    clear B2 S1 X1
    go_wp2_with fail
    refine (gE a L.length c (FL L) i t (aB (FL L) L.length q) _ S2.out.2.1 HR.out HCT.out HM.out).mono ?_
    rintro e w3 ⟨rfl,B3⟩
    have S3:=aa (S2.out.below B3)
    have X3:=S3.out.1
    clear B3 S2 X2 Y2
    have gv:=S3.out.2.2.1.var 6 (by omega)
    go_wp2
    go_ret
    exact ⟨aM.ref i 6 (by omega) E.out (by decide),S3.out.2.2.2.1⟩
   have HM:=aa hm
   have HHS:Hid (cJ L j q u↔(0<ax (FL L) L.length j/\dH (FL L) L.length (aB (FL L) L.length u) (aB (FL L) L.length q) (ax (FL L) L.length j))\/(ax (FL L) L.length j<0/\dH (FL L) L.length (aB (FL L) L.length q) (aB (FL L) L.length u) (-ax (FL L) L.length j))):=pw HR.out
   have EH2:Hid ((cJ L j q u->(bR L j q u).1=6)/\(¬cJ L j q u->(bR L j q u).1=0)):=by
    have hn:¬((FL L j).up=0\/(FL L j).id ∈ aB (FL L) L.length q):=by
     rintro (e|e)
     ·exact hu e
     ·rw[HID.out] at e;exact hm e
    exact ⟨fun h=>by unfold bR;rw[if_neg hn,if_pos h],fun h=>by unfold bR;rw[if_neg hn,if_neg h]⟩
   obtain ⟨sb1,sb2⟩:=dJ HR.out j
   clear hu hm huid hpu
   go_enter Tryz.func247,Tryz.ntmps247
   go_wp2_with fail
   refine (aQ a L.length c (FL L) i j _ S0.out.2.1 HJ.out).mono ?_
   rintro e w1 ⟨rfl,B1⟩
   have S1:Hid (HS w (w1.alloc (.cells #[Ii Jj (FL L j).id,Ii Jj (FL L j).up,Ii Jj (FL L j).limit,Ii Jj (FL L j).rate,Ii Jj (FL L j).target,.bool (FL L j).frozen,Ii Jj (FL L j).balance,Ii Jj (FL L j).carry] 30)) #[Ii Jj i,Ii Jj t] 225 a L.length (FL L) p):=(S0.out.below B1).alloc _
   have X1:=S1.out.1
   clear B1 S0
   have hz1:w1.heap.size<(w1.alloc (.cells #[Ii Jj (FL L j).id,Ii Jj (FL L j).up,Ii Jj (FL L j).limit,Ii Jj (FL L j).rate,Ii Jj (FL L j).target,.bool (FL L j).frozen,Ii Jj (FL L j).balance,Ii Jj (FL L j).carry] 30)).heap.size:=by simp
   go_wp2_with fail
   refine (aQ a L.length c (FL L) t q _ S1.out.2.1 HQ.out).mono ?_
   rintro e w2 ⟨rfl,B2⟩
   have hz2:w1.heap.size<w2.heap.size:=Nat.lt_of_lt_of_le hz1 B2.size
   have S2:Hid (HS w (w2.alloc (.cells #[Ii Jj (FL L q).id,Ii Jj (FL L q).up,Ii Jj (FL L q).limit,Ii Jj (FL L q).rate,Ii Jj (FL L q).target,.bool (FL L q).frozen,Ii Jj (FL L q).balance,Ii Jj (FL L q).carry] 30)) #[Ii Jj i,Ii Jj t] 225 a L.length (FL L) p):=(S1.out.below B2).alloc _
   have X2:=S2.out.1
   have Y2:∀y,(w2.alloc (.cells #[Ii Jj (FL L q).id,Ii Jj (FL L q).up,Ii Jj (FL L q).limit,Ii Jj (FL L q).rate,Ii Jj (FL L q).target,.bool (FL L q).frozen,Ii Jj (FL L q).balance,Ii Jj (FL L q).carry] 30)).cell? ⟨w1.heap.size,y,none⟩=(w1.alloc (.cells #[Ii Jj (FL L j).id,Ii Jj (FL L j).up,Ii Jj (FL L j).limit,Ii Jj (FL L j).rate,Ii Jj (FL L j).target,.bool (FL L j).frozen,Ii Jj (FL L j).balance,Ii Jj (FL L j).carry] 30)).cell? ⟨w1.heap.size,y,none⟩:=fun y=>by
    rw[World.cell?_alloc_lt _ _ ⟨w1.heap.size,y,none⟩ hz2,B2.cell (p:=⟨w1.heap.size,y,none⟩) hz1]
   clear B2 S1 X1
   go_wp2_with fail
   refine (im a L.length c (FL L) i t (aB (FL L) L.length q) _ S2.out.2.1 HR.out HCT.out HM.out).mono ?_
   rintro e w3 ⟨rfl,B3⟩
   have hz2':w1.heap.size<(w2.alloc (.cells #[Ii Jj (FL L q).id,Ii Jj (FL L q).up,Ii Jj (FL L q).limit,Ii Jj (FL L q).rate,Ii Jj (FL L q).target,.bool (FL L q).frozen,Ii Jj (FL L q).balance,Ii Jj (FL L q).carry] 30)).heap.size:=by simp;omega
   have S3:=aa (S2.out.below B3)
   have X3:=S3.out.1
   have hz3:w1.heap.size<w3.heap.size:=Nat.lt_of_lt_of_le hz2' B3.size
   have Y3:∀y,w3.cell? ⟨w1.heap.size,y,none⟩=(w1.alloc (.cells #[Ii Jj (FL L j).id,Ii Jj (FL L j).up,Ii Jj (FL L j).limit,Ii Jj (FL L j).rate,Ii Jj (FL L j).target,.bool (FL L j).frozen,Ii Jj (FL L j).balance,Ii Jj (FL L j).carry] 30)).cell? ⟨w1.heap.size,y,none⟩:=fun y=>by
    rw[B3.cell (p:=⟨w1.heap.size,y,none⟩) hz2'];exact Y2 y
   have hz3':=hz3
   clear B3 S2 X2 Y2
   go_wp2_with fail
   refine (eJ a L.length c (FL L) j _ S3.out.2.1 HR.out hj).mono ?_
   rintro e w4 ⟨rfl,B4⟩
   have S4:=aa (S3.out.below B4)
   have X4:=S4.out.1
   have hz4:w1.heap.size<w4.heap.size:=Nat.lt_of_lt_of_le hz3' B4.size
   have Y4:∀y,w4.cell? ⟨w1.heap.size,y,none⟩=(w1.alloc (.cells #[Ii Jj (FL L j).id,Ii Jj (FL L j).up,Ii Jj (FL L j).limit,Ii Jj (FL L j).rate,Ii Jj (FL L j).target,.bool (FL L j).frozen,Ii Jj (FL L j).balance,Ii Jj (FL L j).carry] 30)).cell? ⟨w1.heap.size,y,none⟩:=fun y=>by
    rw[B4.cell (p:=⟨w1.heap.size,y,none⟩) hz3'];exact Y3 y
   have hz4':=hz4
   clear B4 S3 X3 Y3
   by_cases s1:0<ax (FL L) L.length j
   ·skip
    go_wp2_with fail
    refine (iZ a L.length c (FL L) (FL L j).up t (ax (FL L) L.length j) (aB (FL L) L.length u) (aB (FL L) L.length q) p _ S4.out.2.1 HR.out HCU.out HCT.out S4.out.2.2.1).mono ?_
    rintro e w5 ⟨hs,B5⟩
    have S5:=aa (S4.out.below B5)
    clear B5 S4 X4 Y4
    rcases hs with ⟨hs,i2,rfl⟩|⟨hs,rfl⟩
    ·have E:Hid ((ag L 9 i t m r).1=aF 5):=(by rw[EH.out];exact EH2.out.1 (HHS.out.2 (Or.inl ⟨s1,hs⟩)):(ag L 9 i t m r).1=aF 5)
     clear hs
     unfold jn
     go_wp2
     go_ret
     exact ⟨aM.ref i2 5 (by omega) E.out (by decide),S5.out.2.2.2.1⟩
    ·have E:Hid ((ag L 9 i t m r).1=0):=(by rw[EH.out];exact EH2.out.2 (fun h=>(HHS.out.1 h).elim (fun h'=>hs h'.2) (fun h'=>by have:=h'.1;omega)):(ag L 9 i t m r).1=0)
     clear hs
     go_wp2
     go_ret
     exact ⟨aM.ok E.out,S5.out.2.2.2.1⟩
   by_cases s2:ax (FL L) L.length j<0
   ·skip
    go_wp2_with fail
    refine (iZ a L.length c (FL L) t (FL L j).up (-ax (FL L) L.length j) (aB (FL L) L.length q) (aB (FL L) L.length u) p _ S4.out.2.1 HR.out HCT.out HCU.out S4.out.2.2.1).mono ?_
    rintro e w5 ⟨hs,B5⟩
    have S5:=aa (S4.out.below B5)
    clear B5 S4 X4 Y4
    rcases hs with ⟨hs,i2,rfl⟩|⟨hs,rfl⟩
    ·have E:Hid ((ag L 9 i t m r).1=aF 5):=(by rw[EH.out];exact EH2.out.1 (HHS.out.2 (Or.inr ⟨s2,hs⟩)):(ag L 9 i t m r).1=aF 5)
     clear hs
     unfold jn
     go_wp2
     go_ret
     exact ⟨aM.ref i2 5 (by omega) E.out (by decide),S5.out.2.2.2.1⟩
    ·have E:Hid ((ag L 9 i t m r).1=0):=(by rw[EH.out];exact EH2.out.2 (fun h=>(HHS.out.1 h).elim (fun h'=>by have:=h'.1;omega) (fun h'=>hs h'.2)):(ag L 9 i t m r).1=0)
     clear hs
     go_wp2
     go_ret
     exact ⟨aM.ok E.out,S5.out.2.2.2.1⟩
   have E:Hid ((ag L 9 i t m r).1=0):=(by rw[EH.out];exact EH2.out.2 (fun h=>(HHS.out.1 h).elim (fun h'=>s1 h'.1) (fun h'=>s2 h'.1)):(ag L 9 i t m r).1=0)
   go_wp2
   go_ret
   exact ⟨aM.ok E.out,S4.out.2.2.2.1⟩
set_option maxHeartbeats 1000000
set_option maxRecDepth 8000
theorem u6 (i t m r:Int) (w:World):
  Calls Pg 166 #[.agg #[Ii Jj 1,Ii Jj i,Ii Jj t,Ii Jj m,Ii Jj r]] w fun e w'=>e=.returned (.iface 210 (.agg #[Ii Jj i,Ii Jj t,Ii Jj m,Ii Jj r,Ii Jj (-1),.bool false,Ii Jj 0,Ii Jj 0]))/\Below w.heap.size w w':=by
 go_enter Tryz.func166,Tryz.ntmps166
 go_wp2
 go_ret
 exact ⟨rfl,(Bf _ _).alloc (Nf _) _⟩
theorem u7 (i t m r:Int) (w:World):
  Calls Pg 166 #[.agg #[Ii Jj 2,Ii Jj i,Ii Jj t,Ii Jj m,Ii Jj r]] w fun e w'=>e=.returned (.iface 212 (.agg #[Ii Jj i,.bool true]))/\Below w.heap.size w w':=by
 go_enter Tryz.func166,Tryz.ntmps166
 go_wp2
 go_ret
 exact ⟨rfl,(Bf _ _).alloc (Nf _) _⟩
theorem ub (i t m r:Int) (w:World):
  Calls Pg 166 #[.agg #[Ii Jj 3,Ii Jj i,Ii Jj t,Ii Jj m,Ii Jj r]] w fun e w'=>e=.returned (.iface 212 (.agg #[Ii Jj i,.bool false]))/\Below w.heap.size w w':=by
 go_enter Tryz.func166,Tryz.ntmps166
 go_wp2
 go_ret
 exact ⟨rfl,(Bf _ _).alloc (Nf _) _⟩
theorem ud (i t m r:Int) (w:World):
  Calls Pg 166 #[.agg #[Ii Jj 4,Ii Jj i,Ii Jj t,Ii Jj m,Ii Jj r]] w fun e w'=>e=.returned (.iface 214 (.agg #[Ii Jj i]))/\Below w.heap.size w w':=by
 go_enter Tryz.func166,Tryz.ntmps166
 go_wp2
 go_ret
 exact ⟨rfl,(Bf _ _).alloc (Nf _) _⟩
theorem ue (i t m r:Int) (w:World):
  Calls Pg 166 #[.agg #[Ii Jj 5,Ii Jj i,Ii Jj t,Ii Jj m,Ii Jj r]] w fun e w'=>e=.returned (.iface 216 (.agg #[Ii Jj i,Ii Jj m]))/\Below w.heap.size w w':=by
 go_enter Tryz.func166,Tryz.ntmps166
 go_wp2
 go_ret
 exact ⟨rfl,(Bf _ _).alloc (Nf _) _⟩
theorem uf (i t m r:Int) (w:World):
  Calls Pg 166 #[.agg #[Ii Jj 6,Ii Jj i,Ii Jj t,Ii Jj m,Ii Jj r]] w fun e w'=>e=.returned (.iface 217 (.agg #[Ii Jj i,Ii Jj m]))/\Below w.heap.size w w':=by
 go_enter Tryz.func166,Tryz.ntmps166
 go_wp2
 go_ret
 exact ⟨rfl,(Bf _ _).alloc (Nf _) _⟩
theorem ug (i t m r:Int) (w:World):
  Calls Pg 166 #[.agg #[Ii Jj 7,Ii Jj i,Ii Jj t,Ii Jj m,Ii Jj r]] w fun e w'=>e=.returned (.iface 219 (.agg #[Ii Jj i,Ii Jj t,Ii Jj m]))/\Below w.heap.size w w':=by
 go_enter Tryz.func166,Tryz.ntmps166
 go_wp2
 go_ret
 exact ⟨rfl,(Bf _ _).alloc (Nf _) _⟩
theorem uh (i t m r:Int) (w:World):
  Calls Pg 166 #[.agg #[Ii Jj 8,Ii Jj i,Ii Jj t,Ii Jj m,Ii Jj r]] w fun e w'=>e=.returned (.iface 221 (.agg #[Ii Jj i,Ii Jj m]))/\Below w.heap.size w w':=by
 go_enter Tryz.func166,Tryz.ntmps166
 go_wp2
 go_ret
 exact ⟨rfl,(Bf _ _).alloc (Nf _) _⟩
theorem tx (i t m r:Int) (w:World):
  Calls Pg 166 #[.agg #[Ii Jj 10,Ii Jj i,Ii Jj t,Ii Jj m,Ii Jj r]] w fun e w'=>e=.returned (.iface 223 (.agg #[Ii Jj i,Ii Jj m]))/\Below w.heap.size w w':=by
 go_enter Tryz.func166,Tryz.ntmps166
 go_wp2
 go_ret
 exact ⟨rfl,(Bf _ _).alloc (Nf _) _⟩
theorem ui (i t m r:Int) (w:World):
  Calls Pg 166 #[.agg #[Ii Jj 9,Ii Jj i,Ii Jj t,Ii Jj m,Ii Jj r]] w fun e w'=>e=.returned (.iface 225 (.agg #[Ii Jj i,Ii Jj t]))/\Below w.heap.size w w':=by
 go_enter Tryz.func166,Tryz.ntmps166
 go_wp2
 go_ret
 exact ⟨rfl,(Bf _ _).alloc (Nf _) _⟩
end Go.Proofs.YtghkbhggopiajaaGreatDoor
