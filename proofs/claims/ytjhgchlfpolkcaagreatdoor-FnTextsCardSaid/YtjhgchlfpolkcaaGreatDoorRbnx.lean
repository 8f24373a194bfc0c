/- What the specification's loose reading of a bank's text has read. -/
import Derived.Test.YtjhgchlfpolkcaaGreatDoorRngx
import Derived.Test.YtjhgchlfpolkcaaGreatDoorBwx
import Derived.Deep.RegionHeld3
import Derived.Deep.AppendLies
import Derived.Deep.LoopGhost
import Derived.Test.YtjhgchlfpolkcaaGreatDoorInwx
import Derived.Lib.Strings
import Derived.OwnWalk
namespace Go.Proofs.YtjhgchlfpolkcaaGreatDoor
section
open Go.RowKit Go.Shelf
set_option maxRecDepth 8000
theorem fV (s S:List UInt8):Lib.hasPrefix s S=true↔S <+: s:=by
 unfold Lib.hasPrefix
 exact List.isPrefixOf_iff_prefix
theorem mr {s S:ByteArray} (h:Lib.hasPrefix s.data.toList S.data.toList=true):S.size<=s.size:=by
 have:=((fV _ _).1 h).length_le
 rwa [dB,dB] at this
def sQ (w:World) (p lo:Nat) (s S:ByteArray) (n:Nat) (Q:List Int->World->Prop) (e:Ending) (w':World):Prop:=ft p lo w w'/\((∃(ns:List Int) (t:ByteArray),aD S.data.toList n s.data.toList=some (ns,t.data.toList)/\e=.returned (.tuple #[])/\bp w' p t/\ba w'/\Q ns w')\/(aD S.data.toList n s.data.toList=none/\lI e))
theorem lP (s S:ByteArray):(s.extract S.size s.size).data.toList=s.data.toList.drop S.data.toList.length:=by
 rw[ig,dB,List.take_of_length_le (by simp)]
theorem nD {S s:List UInt8} {n:Nat} (h:Lib.hasPrefix s S=false):aD S n s=none:=by
 unfold aD
 rw[if_neg (fun e=>by rw[(fV s S).2 e] at h;cases h)]
theorem nE {S s:List UInt8} {n:Nat} (h:aH n (s.drop S.length)=none):aD S n s=none:=by
 unfold aD
 split
 ·rw[h]
 ·rfl
theorem nF {S s t:List UInt8} {n:Nat} {ns:List Int} (h:aH n (s.drop S.length)=some (ns,t)) (h10:Lib.hasPrefix t [10]=false):aD S n s=none:=by
 unfold aD
 split
 ·rw[h]
  cases t with
  | nil=>rfl
  | cons b l=>
   have:¬b=10:=by
    unfold Lib.hasPrefix at h10
    intro e
    subst e
    simp at h10
   simp[this]
 ·rfl
theorem pj {S s t:List UInt8} {n:Nat} {ns:List Int} (h0:Lib.hasPrefix s S=true) (h:aH n (s.drop S.length)=some (ns,t)) (h10:Lib.hasPrefix t [10]=true):aD S n s=some (ns,t.drop 1):=by
 unfold aD
 rw[if_pos ((fV s S).1 h0),h]
 cases t with
 | nil=>unfold Lib.hasPrefix at h10;simp at h10
 | cons b l=>
  have:b=10:=by
   unfold Lib.hasPrefix at h10
   exact (by simpa using h10:(10:UInt8)=b).symm
  simp[this]
set_option maxHeartbeats 2000000 in
theorem qE (p lo:Nat) (a:Option Addr) (n c:Nat) (s S:ByteArray) (T:Nat->Nat×Nat) (Q:List Int->World->Prop) (w:World) (h:bp w p s) (g:ba w) (hP:sR p lo a n T Q) (hQ:Q [] w) (hpl:p<lo) (hn:n<=100):
  Calls Tryz.prog 59 #[.pointer (some ⟨p,0,none⟩),.string S,.slice a n c] w fun e w'=>sQ w p lo s S n Q e w':=by
 have H0:Hid (bp w p s/\ba w/\Q [] w):=⟨h,g,hQ⟩
 have HP:Hid (sR p lo a n T Q):=hP
 have h7:7<=p:=h.2.2.1
 clear h g hP hQ
 go_enter Tryz.func59,Tryz.ntmps59
 go_wp2_with fail
 refine (oQ p s S w H0.out.1 H0.out.2.1 mr).mono ?_
 rintro e w1 ⟨S1,hor⟩
 rcases hor with ⟨hp1,rfl,R1⟩|⟨hp1,t9,p9,rfl⟩
 rotate_left
 ·exact ⟨rfl,ft.ofStp S1,Or.inr ⟨nD hp1,t9,p9,rfl⟩⟩
 obtain ⟨u,hu⟩:∃u,s.extract S.size s.size=u:=⟨_,rfl⟩
 have HU:Hid (u.data.toList=s.data.toList.drop S.data.toList.length/\Lib.hasPrefix s.data.toList S.data.toList=true):=⟨by rw[←hu,lP],hp1⟩
 rw[hu] at R1
 have H1:Hid (bp w1 p u/\ba w1/\Q [] w1/\ft p lo w w1):=⟨R1,H0.out.2.1.stp S1 h7,HP.out.keep _ _ _ H0.out.2.2 S1,ft.ofStp S1⟩
 clear S1 R1 hp1 hu H0
 go_wp2_with fail
 refine (qP p lo a n c u T Q w1 H1.out.1 H1.out.2.1 HP.out H1.out.2.2.1 hpl hn).mono ?_
 rintro e w2 ⟨S2,hor⟩
 rcases hor with ⟨ns,t,hns,rfl,R2,G2,Q2⟩|⟨hns,t9,p9,rfl⟩
 rotate_left
 ·exact ⟨rfl,H1.out.2.2.2.trans S2,Or.inr ⟨nE (by rw[←HU.out.1];exact hns),t9,p9,rfl⟩⟩
 have H2:Hid (bp w2 p t/\ba w2/\Q ns w2/\ft p lo w w2/\aH n (s.data.toList.drop S.data.toList.length)=some (ns,t.data.toList)):=⟨R2,G2,Q2,H1.out.2.2.2.trans S2,by rw[←HU.out.1];exact hns⟩
 clear S2 R2 G2 Q2 hns H1
 go_wp2_with fail
 refine (oQ p t ⟨#[10]⟩ w2 H2.out.1 H2.out.2.1 mr).mono ?_
 rintro e w3 ⟨S3,hor⟩
 rcases hor with ⟨hp3,rfl,R3⟩|⟨hp3,t9,p9,rfl⟩
 rotate_left
 ·exact ⟨rfl,H2.out.2.2.2.1.trans (ft.ofStp S3),Or.inr ⟨nF H2.out.2.2.2.2 hp3,t9,p9,rfl⟩⟩
 have FI:Hid (sQ w p lo s S n Q (.returned (.tuple #[])) w3):=⟨H2.out.2.2.2.1.trans (ft.ofStp S3),Or.inl ⟨ns,_,by rw[pj HU.out.2 H2.out.2.2.2.2 hp3,lP];rfl,rfl,R3,H2.out.2.1.stp S3 h7,HP.out.keep _ _ _ H2.out.2.2.1 S3⟩⟩
 clear S3 R3 hp3 H2 HU
 go_wp2
 refine bodyPost_end (results_none rfl _ _ _) rfl ?_
 exact FI.out
end
section
set_option maxHeartbeats 2000000
open Go.RowKit Go.Shelf
set_option maxRecDepth 8000
def QT (T:Nat->Nat×Nat) (n b:Nat) (X:World->Prop) (pre:List Int) (w:World):Prop:=b<w.heap.size/\(∀i,i<n->w.cell? ⟨b,i,none⟩=some (.pointer (some ⟨(T i).1,(T i).2,none⟩)))/\(∀i,i<n->w.cell? ⟨(T i).1,(T i).2,none⟩=some (.int .i64 (pre.getD i 0))/\w.frozen? ⟨(T i).1,(T i).2,none⟩=false/\(T i).1<w.heap.size)/\X w
theorem oY (pre:List Int) (m:Int) (i:Nat):(pre++[m]).getD i 0=if i=pre.length then m else pre.getD i 0:=by
 simp only[List.getD]
 split
 ·rename_i h
  rw[h]
  simp
 ·rename_i h
  by_cases hl:i<pre.length
  ·rw[List.getElem?_append_left hl]
  ·rw[List.getElem?_append_right (by omega),List.getElem?_eq_none (by simp;omega),List.getElem?_eq_none (by omega)]
theorem qX {p lo b n:Nat} {T:Nat->Nat×Nat} {X:World->Prop} (hinj:∀i j,i<n->j<n->T i=T j->i=j) (hlo:∀i,i<n->lo<=(T i).1/\(T i).1≠b) (hp:p<lo) (hb:b≠p) (hX:∀w w',X w->an p w w'->X w') (hXs:∀w i (m:Int),i<n->X w->X (w.setCell ⟨(T i).1,(T i).2,none⟩ (.int .i64 m))):sR p lo (some ⟨b,0,none⟩) n T (QT T n b X):=by
 refine ⟨fun pre w w' h hs=>⟨Nat.lt_of_lt_of_le h.1 hs.size,fun i hi=>(hs.cell (p:=⟨b,i,none⟩) h.1 hb).trans (h.2.1 i hi),fun i hi=>?_,hX _ _ h.2.2.2 hs⟩,fun pre w h hl=>?_⟩
 ·have h1:=hlo i hi
  obtain ⟨a1,a2,a3⟩:=h.2.2.1 i hi
  exact ⟨(hs.cell (p:=⟨(T i).1,(T i).2,none⟩) a3 (by show (T i).1≠p;omega)).trans a1,(hs.frozen (p:=⟨(T i).1,(T i).2,none⟩) a3 (by show (T i).1≠p;omega)).trans a2,Nat.lt_of_lt_of_le a3 hs.size⟩
 ·obtain ⟨a1,a2,a3⟩:=h.2.2.1 _ hl
  refine ⟨b,_,rfl,h.2.1 _ hl,(hlo _ hl).1,a1,a2,fun m=>⟨by simpa [World.setCell] using h.1,fun i hi=>?_,fun i hi=>?_,hXs _ _ m hl h.2.2.2⟩⟩
  ·exact (World.cell?_setCell_other _ _ _ _ (by intro e;exact (hlo _ hl).2 (congrArg Addr.block e))).trans (h.2.1 i hi)
  ·obtain ⟨b1,b2,b3⟩:=h.2.2.1 i hi
   refine ⟨?_,by rw[World.frozen?_setCell];exact b2,by simpa [World.setCell] using b3⟩
   rw[oY]
   by_cases e:i=pre.length
   ·rw[if_pos e]
    subst e
    exact World.cell?_setCell_same _ _ _ (by rw[a1])
   ·rw[if_neg e]
    refine (World.cell?_setCell_other _ _ _ _ (by
     intro e'
     refine e (hinj i _ hi hl ?_)
     have e1:=congrArg Addr.block e'
     have e2:=congrArg Addr.off e'
     simp only at e1 e2
     exact (Prod.ext e1 e2).symm)).trans b1
def ei (w:World) (L:List (Nat×Nat)) (e:Ending) (w':World):Prop:=∃b c,e=.returned (.slice (some ⟨b,0,none⟩) L.length c)/\w.heap.size<=b/\b<w'.heap.size/\(∀i,i<L.length->w'.cell? ⟨b,i,none⟩=some (.pointer (some ⟨(L.getD i (0,0)).1,(L.getD i (0,0)).2,none⟩)))/\Below w.heap.size w w'
theorem ei.lit (w:World) (L:List (Nat×Nat)):ei w L (.returned (.slice (some ⟨w.heap.size,0,none⟩) L.length L.length)) ((w.alloc (.cells (L.map fun q=>Value.pointer (some ⟨q.1,q.2,none⟩)).toArray 57)).drew):=by
 refine ⟨_,_,rfl,Nat.le_refl _,by show _<(w.alloc _).heap.size;simp,fun i hi=>?_,((Below.refl _ _).alloc (Nat.le_refl _) _).drew⟩
 show (w.alloc _).cell? _=_
 rw[World.cell?_alloc_mark]
 simp[hi,List.getD]
theorem tG (R:Nat) (w:World):Calls Tryz.prog 25 #[.pointer (some ⟨R,0,none⟩)] w fun e w'=>ei w [(R,0),(R,1),(R,2),(R,3),(R,4),(R,5),(R,6)] e w':=by
 have FI:Hid (ei w [(R,0),(R,1),(R,2),(R,3),(R,4),(R,5),(R,6)] (.returned (.slice (some ⟨w.heap.size,0,none⟩) 7 7)) ((w.alloc (.cells #[.pointer (some ⟨R,0,none⟩),.pointer (some ⟨R,1,none⟩),.pointer (some ⟨R,2,none⟩),.pointer (some ⟨R,3,none⟩),.pointer (some ⟨R,4,none⟩),.pointer (some ⟨R,5,none⟩),.pointer (some ⟨R,6,none⟩)] 57)).drew)):=ei.lit w _
 go_enter Tryz.func25,Tryz.ntmps25
 go_wp2_with fail
 go_region
 all_goals go_wp2
 all_goals go_ret
 all_goals exact FI.out
theorem th (R Q:Nat) (w:World):Calls Tryz.prog 24 #[.pointer (some ⟨R,0,none⟩),.pointer (some ⟨Q,0,none⟩)] w fun e w'=>ei w [(R,0),(R,1),(R,2),(R,3),(R,4),(Q,0),(R,6),(R,7)] e w':=by
 have FI:Hid (ei w [(R,0),(R,1),(R,2),(R,3),(R,4),(Q,0),(R,6),(R,7)] (.returned (.slice (some ⟨w.heap.size,0,none⟩) 8 8)) ((w.alloc (.cells #[.pointer (some ⟨R,0,none⟩),.pointer (some ⟨R,1,none⟩),.pointer (some ⟨R,2,none⟩),.pointer (some ⟨R,3,none⟩),.pointer (some ⟨R,4,none⟩),.pointer (some ⟨Q,0,none⟩),.pointer (some ⟨R,6,none⟩),.pointer (some ⟨R,7,none⟩)] 57)).drew)):=ei.lit w _
 go_enter Tryz.func24,Tryz.ntmps24
 go_wp2_with fail
 go_region
 all_goals go_wp2
 all_goals go_ret
 all_goals exact FI.out
theorem rQ (R:Nat) (w:World):Calls Tryz.prog 22 #[.pointer (some ⟨R,0,none⟩)] w fun e w'=>ei w [(R,0),(R,3),(R,4),(R,5),(R,6)] e w':=by
 have FI:Hid (ei w [(R,0),(R,3),(R,4),(R,5),(R,6)] (.returned (.slice (some ⟨w.heap.size,0,none⟩) 5 5)) ((w.alloc (.cells #[.pointer (some ⟨R,0,none⟩),.pointer (some ⟨R,3,none⟩),.pointer (some ⟨R,4,none⟩),.pointer (some ⟨R,5,none⟩),.pointer (some ⟨R,6,none⟩)] 57)).drew)):=ei.lit w _
 go_enter Tryz.func22,Tryz.ntmps22
 go_wp2_with fail
 go_region
 all_goals go_wp2
 all_goals go_ret
 all_goals exact FI.out
end
section
open Value renaming int → Ii,slice → Sl
open IntKind renaming i64 → Jj
open Nat renaming le_refl → Nf
open Go.RowKit Go.Shelf
set_option maxRecDepth 8000
def tR (w:World) (p:Nat) (s:ByteArray) (e:Ending) (w':World):Prop:=an p w w'/\((∃(o:am) (t:ByteArray),aD bK.data.toList 7 s.data.toList=some (dz o,t.data.toList)/\e=.returned (.agg (au o).toArray)/\bp w' p t/\ba w')\/(aD bK.data.toList 7 s.data.toList=none/\lI e))
theorem sm {ns:List Int} (h:ns.length=7):∃o:am,ns=dz o:=by
 match ns,h with
 | [a,b,c,d,e,f,g],_=>exact ⟨⟨a,b,c,d,e,f,g⟩,rfl⟩
def z7:List Value:=[Ii Jj 0,Ii Jj 0,Ii Jj 0,Ii Jj 0,Ii Jj 0,Ii Jj 0,Ii Jj 0]
set_option maxHeartbeats 4000000 in
theorem qU (p:Nat) (s:ByteArray) (w:World) (h:bp w p s) (g:ba w):Calls Tryz.prog 62 #[.pointer (some ⟨p,0,none⟩)] w fun e w'=>tR w p s e w':=by
 obtain ⟨H,hh⟩:∃H,w.heap.size=H:=⟨_,rfl⟩
 have HH:Hid (w.heap.size=H):=hh
 have hpH:p<H:=by rw[←hh];exact h.2.2.2.1
 have h7:7<=p:=h.2.2.1
 obtain ⟨W0,hW0,X0⟩:∃W0,W0=(w.alloc (.cells #[Ii Jj 0,Ii Jj 0,Ii Jj 0,Ii Jj 0,Ii Jj 0,Ii Jj 0,Ii Jj 0] 35)).alloc (.cells #[Ii Jj 0,Ii Jj 0,Ii Jj 0,Ii Jj 0,Ii Jj 0,Ii Jj 0,Ii Jj 0] 35)/\Hid (ah W0 H z7/\ah W0 (H+1) z7/\an p w W0/\bp W0 p s/\ba W0):=by
  have b1:∀(V:World) (o:Obj),Below V.heap.size V (V.alloc o):=fun V o=>(Below.refl _ _).alloc (Nf _) _
  have v0:=(ah.new w z7 35).kept (b1 _ (.cells #[Ii Jj 0,Ii Jj 0,Ii Jj 0,Ii Jj 0,Ii Jj 0,Ii Jj 0,Ii Jj 0] 35)) (by simp)
  have v1:=ah.new (w.alloc (.cells #[Ii Jj 0,Ii Jj 0,Ii Jj 0,Ii Jj 0,Ii Jj 0,Ii Jj 0,Ii Jj 0] 35)) z7 35
  simp only[World.size_alloc] at v1
  rw[hh] at v0 v1
  have bb:Below w.heap.size w ((w.alloc (.cells #[Ii Jj 0,Ii Jj 0,Ii Jj 0,Ii Jj 0,Ii Jj 0,Ii Jj 0,Ii Jj 0] 35)).alloc (.cells #[Ii Jj 0,Ii Jj 0,Ii Jj 0,Ii Jj 0,Ii Jj 0,Ii Jj 0,Ii Jj 0] 35)):=((Below.refl _ _).alloc (Nf _) _).alloc (by simp) _
  exact ⟨_,rfl,v0,v1,an.ofBelow bb,h.below bb,g.below bb⟩
 have HW0:Hid (W0=_):=hW0
 clear hW0 h g
 go_enter Tryz.func62,Tryz.ntmps62
 go_wp2_with fail
 rw[←HW0.out]
 clear HW0 hh
 refine (tG (H+1) W0).mono ?_
 rintro e w1 ⟨b,c,rfl,hb1,hb2,hbc,B1⟩
 have hHW:H+1<W0.heap.size:=X0.out.2.1.2.2
 have X1:Hid (ah w1 H z7/\ah w1 (H+1) z7/\an p w w1/\bp w1 p s/\ba w1):=⟨X0.out.1.kept B1 X0.out.1.2.2,X0.out.2.1.kept B1 hHW,X0.out.2.2.1.trans (an.ofBelow B1),X0.out.2.2.2.1.below B1,X0.out.2.2.2.2.below B1⟩
 have PL:Hid (sR p H (some ⟨b,0,none⟩) 7 (fun i=>(H+1,i)) (QT (fun i=>(H+1,i)) 7 b (fun w=>ah w H z7))):=qX (fun i j _ _ e=>(Prod.ext_iff.1 e).2) (fun i _=>⟨by show H<=H+1;omega,by show H+1≠b;omega⟩) hpH (by omega) (fun w w' hx hs=>hx.stp hs (by omega)) (fun w i m _ hx=>hx.far (by show H+1≠H;omega) _ _)
 have Q1:Hid (QT (fun i=>(H+1,i)) 7 b (fun w=>ah w H z7) [] w1):=by
  refine ⟨hb2,fun i hi=>?_,fun i hi=>?_,X1.out.1⟩
  ·have:=hbc i hi
   rw[this]
   have hc:i=0\/i=1\/i=2\/i=3\/i=4\/i=5\/i=6:=by omega
   rcases hc with rfl|rfl|rfl|rfl|rfl|rfl|rfl <;>rfl
  ·have hc:i=0\/i=1\/i=2\/i=3\/i=4\/i=5\/i=6:=by omega
   refine ⟨?_,X1.out.2.1.2.1 i,X1.out.2.1.2.2⟩
   rcases hc with rfl|rfl|rfl|rfl|rfl|rfl|rfl
   ·exact X1.out.2.1.1 0 _ rfl
   ·exact X1.out.2.1.1 1 _ rfl
   ·exact X1.out.2.1.1 2 _ rfl
   ·exact X1.out.2.1.1 3 _ rfl
   ·exact X1.out.2.1.1 4 _ rfl
   ·exact X1.out.2.1.1 5 _ rfl
   ·exact X1.out.2.1.1 6 _ rfl
 clear hbc B1 X0 hb1 hb2
 go_wp2_with fail
 refine (qE p H (some ⟨b,0,none⟩) 7 c s ⟨#[111,114,100,101,114]⟩ _ _ w1 X1.out.2.2.2.1 X1.out.2.2.2.2 PL.out Q1.out hpH (by omega)).mono ?_
 rintro e w2 ⟨S2,hor⟩
 rcases hor with ⟨ns,t,hns,rfl,R2,G2,Q2⟩|⟨hns,t9,p9,rfl⟩
 rotate_left
 ·exact ⟨rfl,ft.stp X1.out.2.2.1 S2 (by rw[HH.out];exact Nf _),Or.inr ⟨hns,t9,p9,rfl⟩⟩
 obtain ⟨x,rfl⟩:=sm (bM hns).2.1
 have X2:Hid (an p w w2/\bp w2 p t/\ba w2/\aD bK.data.toList 7 s.data.toList=some (dz x,t.data.toList)/\ah w2 H z7):=⟨ft.stp X1.out.2.2.1 S2 (by rw[HH.out];exact Nf _),R2,G2,hns,Q2.2.2.2⟩
 have c0:w2.cell? ⟨H+1,0,none⟩=some (Ii Jj x.id):=(Q2.2.2.1 0 (by omega)).1
 have c1:w2.cell? ⟨H+1,1,none⟩=some (Ii Jj x.src):=(Q2.2.2.1 1 (by omega)).1
 have c2:w2.cell? ⟨H+1,2,none⟩=some (Ii Jj x.dst):=(Q2.2.2.1 2 (by omega)).1
 have c3:w2.cell? ⟨H+1,3,none⟩=some (Ii Jj x.amount):=(Q2.2.2.1 3 (by omega)).1
 have c4:w2.cell? ⟨H+1,4,none⟩=some (Ii Jj x.first):=(Q2.2.2.1 4 (by omega)).1
 have c5:w2.cell? ⟨H+1,5,none⟩=some (Ii Jj x.every):=(Q2.2.2.1 5 (by omega)).1
 have c6:w2.cell? ⟨H+1,6,none⟩=some (Ii Jj x.times):=(Q2.2.2.1 6 (by omega)).1
 have r0:=X2.out.2.2.2.2.1 0 _ rfl
 have r1:=X2.out.2.2.2.2.1 1 _ rfl
 have r2:=X2.out.2.2.2.2.1 2 _ rfl
 have r3:=X2.out.2.2.2.2.1 3 _ rfl
 have r4:=X2.out.2.2.2.2.1 4 _ rfl
 have r5:=X2.out.2.2.2.2.1 5 _ rfl
 have r6:=X2.out.2.2.2.2.1 6 _ rfl
 have FI:Hid (tR w p s (.returned (.agg (au x).toArray)) ((((((((w2).setCell ⟨H,0,none⟩ (Ii Jj x.id)).setCell ⟨H,1,none⟩ (Ii Jj x.src)).setCell ⟨H,2,none⟩ (Ii Jj x.dst)).setCell ⟨H,3,none⟩ (Ii Jj x.amount)).setCell ⟨H,4,none⟩ (Ii Jj x.first)).setCell ⟨H,5,none⟩ (Ii Jj x.every)).setCell ⟨H,6,none⟩ (Ii Jj x.times))):=⟨(((((((X2.out.1).setNew (p:=⟨H,0,none⟩) (by show w.heap.size<=H;rw[HH.out];exact Nf _) (Ii Jj x.id)).setNew (p:=⟨H,1,none⟩) (by show w.heap.size<=H;rw[HH.out];exact Nf _) (Ii Jj x.src)).setNew (p:=⟨H,2,none⟩) (by show w.heap.size<=H;rw[HH.out];exact Nf _) (Ii Jj x.dst)).setNew (p:=⟨H,3,none⟩) (by show w.heap.size<=H;rw[HH.out];exact Nf _) (Ii Jj x.amount)).setNew (p:=⟨H,4,none⟩) (by show w.heap.size<=H;rw[HH.out];exact Nf _) (Ii Jj x.first)).setNew (p:=⟨H,5,none⟩) (by show w.heap.size<=H;rw[HH.out];exact Nf _) (Ii Jj x.every)).setNew (p:=⟨H,6,none⟩) (by show w.heap.size<=H;rw[HH.out];exact Nf _) (Ii Jj x.times),Or.inl ⟨x,t,X2.out.2.2.2.1,rfl,(((((((X2.out.2.1).far (by omega) 0 (Ii Jj x.id)).far (by omega) 1 (Ii Jj x.src)).far (by omega) 2 (Ii Jj x.dst)).far (by omega) 3 (Ii Jj x.amount)).far (by omega) 4 (Ii Jj x.first)).far (by omega) 5 (Ii Jj x.every)).far (by omega) 6 (Ii Jj x.times),(((((((X2.out.2.2.1).far (by omega) 0 (Ii Jj x.id)).far (by omega) 1 (Ii Jj x.src)).far (by omega) 2 (Ii Jj x.dst)).far (by omega) 3 (Ii Jj x.amount)).far (by omega) 4 (Ii Jj x.first)).far (by omega) 5 (Ii Jj x.every)).far (by omega) 6 (Ii Jj x.times)⟩⟩
 have fz:=X2.out.2.2.2.2.2.1
 have nh:¬H=H+1:=by omega
 clear S2 R2 G2 Q2 hns PL Q1 X1
 go_wp2
 refine bodyPost_ret (v:=.agg #[Ii Jj x.id,Ii Jj x.src,Ii Jj x.dst,Ii Jj x.amount,Ii Jj x.first,Ii Jj x.every,Ii Jj x.times]) (by simp[results,Tryz.results62,go_sem,r0,r1,r2,r3,r4,r5,r6]) rfl ?_
 exact FI.out
end
section
open Value renaming int → Ii,slice → Sl
open IntKind renaming i64 → Jj
open Nat renaming le_refl → Nf
open List renaming setIfInBounds_toArray → La,set_cons_zero → Lz,set_cons_succ → Lc
set_option linter.unusedSimpArgs false
open Go.RowKit Go.Shelf
set_option maxRecDepth 8000
def pO (w:World) (p:Nat) (s:ByteArray) (e:Ending) (w':World):Prop:=an p w w'/\((∃(a:al) (t:ByteArray),aD bH.data.toList 8 s.data.toList=some (dn a,t.data.toList)/\e=.returned (.agg (ab a).toArray)/\bp w' p t/\ba w')\/((∀a t,aD bH.data.toList 8 s.data.toList≠some (dn a,t))/\lI e))
theorem tW {ns:List Int} (h:ns.length=8):∃a b c d e f g i,ns=[a,b,c,d,e,f,g,i]:=by
 match ns,h with
 | [a,b,c,d,e,f,g,i],_=>exact ⟨a,b,c,d,e,f,g,i,rfl⟩
def z8:List Value:=[Ii Jj 0,Ii Jj 0,Ii Jj 0,Ii Jj 0,Ii Jj 0,.bool false,Ii Jj 0,Ii Jj 0]
def TA (A Q:Nat) (i:Nat):Nat×Nat:=([(A,0),(A,1),(A,2),(A,3),(A,4),(Q,0),(A,6),(A,7)]:List (Nat×Nat)).getD i (0,0)
theorem lK {i:Nat} (h:i<8):i=0\/i=1\/i=2\/i=3\/i=4\/i=5\/i=6\/i=7:=by omega
theorem te {A Q:Nat} (h:A≠Q):∀i j,i<8->j<8->TA A Q i=TA A Q j->i=j:=by
 intro i j hi hj e
 rcases lK hi with rfl|rfl|rfl|rfl|rfl|rfl|rfl|rfl <;>rcases lK hj with rfl|rfl|rfl|rfl|rfl|rfl|rfl|rfl <;>first|rfl|(exfalso;simp[TA] at e;omega)|(exfalso;simp[TA] at e)
theorem pS (A Q:Nat) (i:Nat) (hi:i<8):(TA A Q i).1=A\/(TA A Q i).1=Q:=by
 rcases lK hi with rfl|rfl|rfl|rfl|rfl|rfl|rfl|rfl <;>simp[TA]
theorem an.drewd {B:Nat} {a w:World} (h:an B a w):an B a w.drew:=⟨h.os,h.tape,h.output,h.size,h.block⟩
theorem bp.drewd {w:World} {p:Nat} {s:ByteArray} (h:bp w p s):bp w.drew p s:=h
theorem ba.drewd {w:World} (h:ba w):ba w.drew:=h.below ((Below.refl _ _).drew)
def XA (H:Nat) (w:World):Prop:=ah w H z8/\w.cell? ⟨H+1,5,none⟩=some (.bool false)/\w.frozen? ⟨H+1,5,none⟩=false/\H+1<w.heap.size
set_option maxHeartbeats 4000000 in
theorem lJ (p:Nat) (s:ByteArray) (w:World) (h:bp w p s) (g:ba w):Calls Tryz.prog 61 #[.pointer (some ⟨p,0,none⟩)] w fun e w'=>pO w p s e w':=by
 obtain ⟨H,hh⟩:∃H,w.heap.size=H:=⟨_,rfl⟩
 have HH:Hid (w.heap.size=H):=hh
 have hpH:p<H:=by rw[←hh];exact h.2.2.2.1
 have h7:7<=p:=h.2.2.1
 obtain ⟨W0,hW0,X0⟩:∃W0,W0=((w.alloc (.cells #[Ii Jj 0,Ii Jj 0,Ii Jj 0,Ii Jj 0,Ii Jj 0,.bool false,Ii Jj 0,Ii Jj 0] 53)).alloc (.cells #[Ii Jj 0,Ii Jj 0,Ii Jj 0,Ii Jj 0,Ii Jj 0,.bool false,Ii Jj 0,Ii Jj 0] 53)).alloc (.cells #[Ii Jj 0] 2)/\Hid (ah W0 H z8/\ah W0 (H+1) z8/\ah W0 (H+1+1) [Ii Jj 0]/\an p w W0/\bp W0 p s/\ba W0):=by
  have b1:∀(V:World) (o:Obj),Below V.heap.size V (V.alloc o):=fun V o=>(Below.refl _ _).alloc (Nf _) _
  have v0:=((ah.new w z8 53).kept (b1 _ (.cells #[Ii Jj 0,Ii Jj 0,Ii Jj 0,Ii Jj 0,Ii Jj 0,.bool false,Ii Jj 0,Ii Jj 0] 53)) (by simp)).kept (b1 _ (.cells #[Ii Jj 0] 2)) (by simp;omega)
  have v1:=(ah.new (w.alloc (.cells #[Ii Jj 0,Ii Jj 0,Ii Jj 0,Ii Jj 0,Ii Jj 0,.bool false,Ii Jj 0,Ii Jj 0] 53)) z8 53).kept (b1 _ (.cells #[Ii Jj 0] 2)) (by simp)
  have v2:=ah.new ((w.alloc (.cells #[Ii Jj 0,Ii Jj 0,Ii Jj 0,Ii Jj 0,Ii Jj 0,.bool false,Ii Jj 0,Ii Jj 0] 53)).alloc (.cells #[Ii Jj 0,Ii Jj 0,Ii Jj 0,Ii Jj 0,Ii Jj 0,.bool false,Ii Jj 0,Ii Jj 0] 53)) [Ii Jj 0] 2
  simp only[World.size_alloc] at v0 v1 v2
  rw[hh] at v0 v1 v2
  have bb:Below w.heap.size w (((w.alloc (.cells #[Ii Jj 0,Ii Jj 0,Ii Jj 0,Ii Jj 0,Ii Jj 0,.bool false,Ii Jj 0,Ii Jj 0] 53)).alloc (.cells #[Ii Jj 0,Ii Jj 0,Ii Jj 0,Ii Jj 0,Ii Jj 0,.bool false,Ii Jj 0,Ii Jj 0] 53)).alloc (.cells #[Ii Jj 0] 2)):=(((Below.refl _ _).alloc (Nf _) _).alloc (by simp) _).alloc (by simp;omega) _
  exact ⟨_,rfl,v0,v1,v2,an.ofBelow bb,h.below bb,g.below bb⟩
 have HW0:Hid (W0=_):=hW0
 clear hW0 h g
 go_enter Tryz.func61,Tryz.ntmps61
 go_wp2_with fail
 rw[←HW0.out]
 clear HW0 hh
 refine (th (H+1) (H+1+1) W0).mono ?_
 rintro e w1 ⟨b,c,rfl,hb1,hb2,hbc,B1⟩
 have hHW:H+1+1<W0.heap.size:=X0.out.2.2.1.2.2
 have X1:Hid (ah w1 H z8/\ah w1 (H+1) z8/\ah w1 (H+1+1) [Ii Jj 0]/\an p w w1/\bp w1 p s/\ba w1):=⟨X0.out.1.kept B1 X0.out.1.2.2,X0.out.2.1.kept B1 X0.out.2.1.2.2,X0.out.2.2.1.kept B1 hHW,X0.out.2.2.2.1.trans (an.ofBelow B1),X0.out.2.2.2.2.1.below B1,X0.out.2.2.2.2.2.below B1⟩
 have PL:Hid (sR p H (some ⟨b,0,none⟩) 8 (TA (H+1) (H+1+1)) (QT (TA (H+1) (H+1+1)) 8 b (XA H))):=qX (te (by omega)) (fun i hi=>by rcases pS (H+1) (H+1+1) i hi with e|e <;>rw[e] <;>omega) hpH (by omega)
  (fun w w' hx hs=>⟨hx.1.stp hs (by omega),(hs.cell (p:=⟨H+1,5,none⟩) hx.2.2.2 (by show H+1≠p;omega)).trans hx.2.1,(hs.frozen (p:=⟨H+1,5,none⟩) hx.2.2.2 (by show H+1≠p;omega)).trans hx.2.2.1,Nat.lt_of_lt_of_le hx.2.2.2 hs.size⟩)
  (fun w i m hi hx=>⟨hx.1.far (by rcases pS (H+1) (H+1+1) i hi with e|e <;>rw[e] <;>omega) _ _,(World.cell?_setCell_other _ _ _ _ (by
   intro e
   have e1:=congrArg Addr.block e
   have e2:=congrArg Addr.off e
   rcases lK hi with rfl|rfl|rfl|rfl|rfl|rfl|rfl|rfl <;>simp[TA] at e1 e2)).trans hx.2.1,by rw[World.frozen?_setCell];exact hx.2.2.1,by simpa [World.setCell] using hx.2.2.2⟩)
 have Q1:Hid (QT (TA (H+1) (H+1+1)) 8 b (XA H) [] w1):=by
  refine ⟨hb2,fun i hi=>?_,fun i hi=>?_,X1.out.1,X1.out.2.1.1 5 _ rfl,X1.out.2.1.2.1 5,X1.out.2.1.2.2⟩
  ·exact hbc i hi
  ·rcases lK hi with rfl|rfl|rfl|rfl|rfl|rfl|rfl|rfl
   ·exact ⟨X1.out.2.1.1 0 _ rfl,X1.out.2.1.2.1 0,X1.out.2.1.2.2⟩
   ·exact ⟨X1.out.2.1.1 1 _ rfl,X1.out.2.1.2.1 1,X1.out.2.1.2.2⟩
   ·exact ⟨X1.out.2.1.1 2 _ rfl,X1.out.2.1.2.1 2,X1.out.2.1.2.2⟩
   ·exact ⟨X1.out.2.1.1 3 _ rfl,X1.out.2.1.2.1 3,X1.out.2.1.2.2⟩
   ·exact ⟨X1.out.2.1.1 4 _ rfl,X1.out.2.1.2.1 4,X1.out.2.1.2.2⟩
   ·exact ⟨X1.out.2.2.1.1 0 _ rfl,X1.out.2.2.1.2.1 0,X1.out.2.2.1.2.2⟩
   ·exact ⟨X1.out.2.1.1 6 _ rfl,X1.out.2.1.2.1 6,X1.out.2.1.2.2⟩
   ·exact ⟨X1.out.2.1.1 7 _ rfl,X1.out.2.1.2.1 7,X1.out.2.1.2.2⟩
 clear hbc B1 X0 hb1 hb2
 go_wp2_with fail
 refine (qE p H (some ⟨b,0,none⟩) 8 c s ⟨#[97,99,99,111,117,110,116]⟩ _ _ w1 X1.out.2.2.2.2.1 X1.out.2.2.2.2.2 PL.out Q1.out hpH (by omega)).mono ?_
 rintro e w2 ⟨S2,hor⟩
 rcases hor with ⟨ns,t,hns,rfl,R2,G2,Q2⟩|⟨hns,t9,p9,rfl⟩
 rotate_left
 ·exact ⟨rfl,ft.stp X1.out.2.2.2.1 S2 (by rw[HH.out];exact Nf _),Or.inr ⟨fun a t e=>(by
   have e':aD (⟨#[97,99,99,111,117,110,116]⟩:ByteArray).data.toList 8 s.data.toList=some (dn a,t):=e
   rw[hns] at e';cases e'),t9,p9,rfl⟩⟩
 obtain ⟨n0,n1,n2,n3,n4,n5,n6,n7,rfl⟩:=tW (bM hns).2.1
 have hns':aD bH.data.toList 8 s.data.toList=some ([n0,n1,n2,n3,n4,n5,n6,n7],t.data.toList):=hns
 have X2:Hid (an p w w2/\bp w2 p t/\ba w2/\aD bH.data.toList 8 s.data.toList=some ([n0,n1,n2,n3,n4,n5,n6,n7],t.data.toList)/\ah w2 H z8):=⟨ft.stp X1.out.2.2.2.1 S2 (by rw[HH.out];exact Nf _),R2,G2,hns',Q2.2.2.2.1⟩
 have c0:w2.cell? ⟨H+1,0,none⟩=some (Ii Jj n0):=(Q2.2.2.1 0 (by omega)).1
 have c1:w2.cell? ⟨H+1,1,none⟩=some (Ii Jj n1):=(Q2.2.2.1 1 (by omega)).1
 have c2:w2.cell? ⟨H+1,2,none⟩=some (Ii Jj n2):=(Q2.2.2.1 2 (by omega)).1
 have c3:w2.cell? ⟨H+1,3,none⟩=some (Ii Jj n3):=(Q2.2.2.1 3 (by omega)).1
 have c4:w2.cell? ⟨H+1,4,none⟩=some (Ii Jj n4):=(Q2.2.2.1 4 (by omega)).1
 have d5:w2.cell? ⟨H+1+1,0,none⟩=some (Ii Jj n5):=(Q2.2.2.1 5 (by omega)).1
 have c5:=Q2.2.2.2.2.1
 have f5:=Q2.2.2.2.2.2.1
 have c6:w2.cell? ⟨H+1,6,none⟩=some (Ii Jj n6):=(Q2.2.2.1 6 (by omega)).1
 have c7:w2.cell? ⟨H+1,7,none⟩=some (Ii Jj n7):=(Q2.2.2.1 7 (by omega)).1
 have r0:=X2.out.2.2.2.2.1 0 _ rfl
 have r1:=X2.out.2.2.2.2.1 1 _ rfl
 have r2:=X2.out.2.2.2.2.1 2 _ rfl
 have r3:=X2.out.2.2.2.2.1 3 _ rfl
 have r4:=X2.out.2.2.2.2.1 4 _ rfl
 have r5:=X2.out.2.2.2.2.1 5 _ rfl
 have r6:=X2.out.2.2.2.2.1 6 _ rfl
 have r7:=X2.out.2.2.2.2.1 7 _ rfl
 obtain ⟨bb,hbb⟩:∃bb,(n5 == 1)=bb:=⟨_,rfl⟩
 have FY:Hid (ci bb=n5->pO w p s (.returned (.agg (ab ⟨n0,n1,n2,n3,n4,bb,n6,n7⟩).toArray)) ((((((((((w2.setCell ⟨H+1,5,none⟩ (.bool bb)).setCell ⟨H,0,none⟩ (Ii Jj n0)).setCell ⟨H,1,none⟩ (Ii Jj n1)).setCell ⟨H,2,none⟩ (Ii Jj n2)).setCell ⟨H,3,none⟩ (Ii Jj n3)).setCell ⟨H,4,none⟩ (Ii Jj n4)).setCell ⟨H,5,none⟩ (.bool bb)).setCell ⟨H,6,none⟩ (Ii Jj n6)).setCell ⟨H,7,none⟩ (Ii Jj n7)).drew)):=fun hf=>⟨(((((((((X2.out.1.setNew (p:=⟨H+1,5,none⟩) (by show w.heap.size<=H+1;rw[HH.out];omega) (.bool bb)).setNew (p:=⟨H,0,none⟩) (by show w.heap.size<=H;rw[HH.out];exact Nf _) (Ii Jj n0)).setNew (p:=⟨H,1,none⟩) (by show w.heap.size<=H;rw[HH.out];exact Nf _) (Ii Jj n1)).setNew (p:=⟨H,2,none⟩) (by show w.heap.size<=H;rw[HH.out];exact Nf _) (Ii Jj n2)).setNew (p:=⟨H,3,none⟩) (by show w.heap.size<=H;rw[HH.out];exact Nf _) (Ii Jj n3)).setNew (p:=⟨H,4,none⟩) (by show w.heap.size<=H;rw[HH.out];exact Nf _) (Ii Jj n4)).setNew (p:=⟨H,5,none⟩) (by show w.heap.size<=H;rw[HH.out];exact Nf _) (.bool bb)).setNew (p:=⟨H,6,none⟩) (by show w.heap.size<=H;rw[HH.out];exact Nf _) (Ii Jj n6)).setNew (p:=⟨H,7,none⟩) (by show w.heap.size<=H;rw[HH.out];exact Nf _) (Ii Jj n7)).drewd,Or.inl ⟨⟨n0,n1,n2,n3,n4,bb,n6,n7⟩,t,by rw[X2.out.2.2.2.1];simp[dn,hf],rfl,bp.drewd (((((((((X2.out.2.1.far (by omega) 5 (.bool bb)).far (by omega) 0 (Ii Jj n0)).far (by omega) 1 (Ii Jj n1)).far (by omega) 2 (Ii Jj n2)).far (by omega) 3 (Ii Jj n3)).far (by omega) 4 (Ii Jj n4)).far (by omega) 5 (.bool bb)).far (by omega) 6 (Ii Jj n6)).far (by omega) 7 (Ii Jj n7)),ba.drewd (((((((((X2.out.2.2.1.far (by omega) 5 (.bool bb)).far (by omega) 0 (Ii Jj n0)).far (by omega) 1 (Ii Jj n1)).far (by omega) 2 (Ii Jj n2)).far (by omega) 3 (Ii Jj n3)).far (by omega) 4 (Ii Jj n4)).far (by omega) 5 (.bool bb)).far (by omega) 6 (Ii Jj n6)).far (by omega) 7 (Ii Jj n7))⟩⟩
 have FN:Hid (ci bb≠n5->∀e W,an p (w2.setCell ⟨H+1,5,none⟩ (.bool bb)) W->lI e->pO w p s e W):=fun hf e W hs hp=>⟨(X2.out.1.setNew (p:=⟨H+1,5,none⟩) (by show w.heap.size<=H+1;rw[HH.out];omega) (.bool bb)).trans hs,Or.inr ⟨fun a t' ee=>by
  rw[X2.out.2.2.2.1] at ee
  have e1:=congrArg Prod.fst (Option.some.inj ee)
  simp only[dn,List.cons.injEq] at e1
  have e5:n5=ci a.frozen:=e1.2.2.2.2.2.1
  refine hf ?_
  rw[←hbb,e5]
  cases a.frozen <;>rfl,hp⟩⟩
 have G3:Hid (ba ((w2.setCell ⟨H+1,5,none⟩ (.bool bb)).drew)):=ba.drewd (X2.out.2.2.1.far (by omega) 5 (.bool bb))
 have fz:=X2.out.2.2.2.2.2.1
 have nh:¬H=H+1:=by omega
 have nh2:¬H+1+1=H+1:=by omega
 clear S2 R2 G2 Q2 hns hns' PL Q1 X1
 obtain ⟨V3,hV3,x5,xd⟩:∃V3,V3=w2.setCell ⟨H+1,5,none⟩ (.bool bb)/\V3.drew.cell? ⟨H+1,5,none⟩=some (.bool bb)/\V3.drew.cell? ⟨H+1+1,0,none⟩=some (Ii Jj n5):=⟨_,rfl,World.cell?_setCell_same _ _ _ (by rw[c5]),(World.cell?_setCell_other _ _ _ _ (by intro e;have:=congrArg Addr.block e;simp at this)).trans d5⟩
 have HV3:Hid (V3=w2.setCell ⟨H+1,5,none⟩ (.bool bb)):=hV3
 clear hV3
 go_upto_region 5 with fail
 rw[←HV3.out]
 clear hbb d5 f5
 by_cases hf:ci bb=n5
 ·have hfe:((ci bb:Int) == n5)=true:=beq_iff_eq.2 hf
  have FI:Hid (pO w p s (.returned (.agg (ab ⟨n0,n1,n2,n3,n4,bb,n6,n7⟩).toArray)) ((((((((((w2.setCell ⟨H+1,5,none⟩ (.bool bb)).setCell ⟨H,0,none⟩ (Ii Jj n0)).setCell ⟨H,1,none⟩ (Ii Jj n1)).setCell ⟨H,2,none⟩ (Ii Jj n2)).setCell ⟨H,3,none⟩ (Ii Jj n3)).setCell ⟨H,4,none⟩ (Ii Jj n4)).setCell ⟨H,5,none⟩ (.bool bb)).setCell ⟨H,6,none⟩ (Ii Jj n6)).setCell ⟨H,7,none⟩ (Ii Jj n7)).drew)):=FY.out hf
  clear FY FN X2 hf
  go_cut[2] (fun s2 wx=>s2=.pointer (some ⟨H,0,none⟩)/\wx=V3.drew)
  case first=>
   go_region_with (first|(go_at_call 23;refine (jg bb _).mono ?_;rintro e u1 ⟨rfl,hu1⟩;subst u1)|(go_at_call 58;refine (dY _ _).mono ?_;rintro e u2 ⟨rfl,hu2⟩;subst u2))
   all_goals (go_wp2_with fail;go_meet;exact ⟨rfl,rfl⟩)
  obtain ⟨rfl,hwc⟩:=hcut
  rw[HV3.out] at hwc
  subst hwc
  clear HV3 x5 xd V3 hfe
  go_wp2
  refine bodyPost_ret (v:=.agg #[Ii Jj n0,Ii Jj n1,Ii Jj n2,Ii Jj n3,Ii Jj n4,.bool bb,Ii Jj n6,Ii Jj n7]) (by simp[results,Tryz.results61,go_sem,r0,r1,r2,r3,r4,r5,r6,r7]) rfl ?_
  exact FI.out
 ·have hfe:((ci bb:Int) == n5)=false:=beq_eq_false_iff_ne.2 hf
  have FI:Hid (∀e,lI e->pO w p s e V3.drew):=fun e hp=>FN.out hf e _ (by rw[HV3.out];exact (an.refl _ _).drewd) hp
  rw[←HV3.out] at G3
  clear FY FN X2 hf
  have SS:V3.drew.cell? ⟨H+1,5,none⟩=some (.bool bb)/\V3.drew.cell? ⟨H+1+1,0,none⟩=some (Ii Jj n5):=⟨x5,xd⟩
  refine wp_region_held_drew (S:=fun V=>V.cell? ⟨H+1,5,none⟩=some (.bool bb)/\V.cell? ⟨H+1+1,0,none⟩=some (Ii Jj n5)) (by kernel_rfl) SS (fun hHeld=>?_)
  refine wpAnyH_take (i:=0) (v:=?_) rfl (by kernel_rfl) (by kernel_rfl) (by kernel_rfl) (fun _ _ _ h=>h) (Or.inl ⟨by rfl,?_⟩) (by assumption) ?_
  rotate_left
  ·intro wq hSw
   (try dsimp only at hSw)
   go_simp
   all_goals (with_reducible rfl)
  (try simp only[Act.put,La,Lz,Lc])
  refine wpAnyH_take (i:=1) (v:=?_) rfl (by kernel_rfl) (by kernel_rfl) (by kernel_rfl) (fun _ _ _ h=>h) (Or.inl ⟨by rfl,?_⟩) (by assumption) ?_
  rotate_left
  ·intro wq hSw
   (try dsimp only at hSw)
   go_simp
   all_goals (with_reducible rfl)
  (try simp only[Act.put,La,Lz,Lc])
  refine wpAnyH_take (i:=2) (v:=?_) rfl (by kernel_rfl) (by kernel_rfl) (by kernel_rfl) (fun _ _ _ h=>h) (Or.inl ⟨by rfl,?_⟩) (by assumption) ?_
  rotate_left
  ·intro wq hSw
   (try dsimp only at hSw)
   go_simp
   all_goals (with_reducible rfl)
  (try simp only[Act.put,La,Lz,Lc])
  refine wpAnyH_take (i:=4) (v:=?_) rfl (by kernel_rfl) (by kernel_rfl) (by kernel_rfl) (fun _ _ _ h=>h) (Or.inl ⟨by rfl,?_⟩) (by assumption) ?_
  rotate_left
  ·intro wq hSw
   (try dsimp only at hSw)
   go_simp
   all_goals (with_reducible rfl)
  (try simp only[Act.put,La,Lz,Lc])
  refine wpAnyH_ready (rs:=[3]) (by kernel_rfl) (by simp) ?_
  refine AllReadyH.cons rfl (fun K hK=>?_) AllReadyH.nil
  go_simp
  refine (jg bb _).mono ?_
  rintro e u1 ⟨rfl,hu1⟩
  subst u1
  refine hK.out _ _ SS (fun hHeld=>?_)
  clear hK
  (try simp only[Act.put,La,Lz,Lc])
  refine wpAnyH_take (i:=5) (v:=?_) rfl (by kernel_rfl) (by kernel_rfl) (by kernel_rfl) (fun _ _ _ h=>h) (Or.inl ⟨by rfl,?_⟩) (by assumption) ?_
  rotate_left
  ·intro wq hSw
   (try dsimp only at hSw)
   go_simp
   all_goals (with_reducible rfl)
  (try simp only[Act.put,La,Lz,Lc])
  refine wpAnyH_ready (rs:=[6]) (by kernel_rfl) (by simp) ?_
  refine AllReadyH.cons rfl (fun K hK=>?_) AllReadyH.nil
  go_simp
  refine (dO _ _ G3.out).mono ?_
  rintro e u2 ⟨⟨t9,p9,rfl⟩,hu2⟩
  subst u2
  exact ⟨rfl,FI.out _ ⟨_,_,rfl⟩⟩
end
section
open Go.RowKit Go.Shelf
set_option maxRecDepth 8000
def cQ:List Value:=[.int .i64 0,.slice none 0 0,.slice none 0 0,.int .i64 0,.int .i64 0,.int .i64 0,.int .i64 0]
def di (H:Nat) (v u:Value) (k:Bk) (L:List al) (O:List am) (w:World):Prop:=ah w H cQ/\af w (H+1) (.int .i64 k.day) v u (.int .i64 k.inn) (.int .i64 k.out) (.int .i64 k.posted) (.int .i64 k.missed)/\AL w (H+1+1) v L/\ag w (H+1+1) u O
theorem ke {p:Nat} {w w':World} (h:an p w w'):w.grownBy w' (some p):=⟨h.os,h.tape,h.output,h.size,fun i hi hn=>h.block i hi (fun e=>hn (by rw[e]))⟩
theorem di.grown {H q:Nat} {v u:Value} {k:Bk} {L:List al} {O:List am} {w w':World} (h:di H v u k L O w) (hg:w.grownBy w' (some q)) (hq:q≠H/\q≠H+1) (h1:v.ownBlock≠some q) (h2:u.ownBlock≠some q):di H v u k L O w':=by
 have e0:w'.heap[H]? =w.heap[H]? :=hg.block H h.1.2.2 (by simp;omega)
 have e1:w'.heap[H+1]? =w.heap[H+1]? :=hg.block (H+1) h.2.1.2.2 (by simp;omega)
 refine ⟨⟨fun j x hj=>(World.cell?_of_block (w:=w) e0).trans (h.1.1 j x hj),fun o=>(World.frozen?_of_block (w:=w) e0).trans (h.1.2.1 o),Nat.lt_of_lt_of_le h.1.2.2 hg.size⟩,h.2.1.same e1,World.ownsRow.kept h.2.2.1 hg (Or.inr h1),World.ownsRow.kept h.2.2.2 hg (Or.inr h2)⟩
theorem di.blk {H:Nat} {v u:Value} {k:Bk} {L:List al} {O:List am} {w:World} (h:di H v u k L O w):(∀q,v.ownBlock=some q->H+1+1<=q/\q<w.heap.size)/\(∀q,u.ownBlock=some q->H+1+1<=q/\q<w.heap.size):=⟨fun q hq=>World.ownsRow.lt h.2.2.1 q hq,fun q hq=>World.ownsRow.lt h.2.2.2 q hq⟩
theorem di.stp {H p:Nat} {v u:Value} {k:Bk} {L:List al} {O:List am} {w w':World} (h:di H v u k L O w) (hs:an p w w') (hp:p<H):di H v u k L O w':=
 h.grown (ke hs) ⟨by omega,by omega⟩ (fun e=>by have:=(h.blk.1 p e).1;omega) (fun e=>by have:=(h.blk.2 p e).1;omega)
theorem di.alloc {H:Nat} {v u:Value} {k:Bk} {L:List al} {O:List am} {w:World} (h:di H v u k L O w) (o:Obj):di H v u k L O (w.alloc o):=by
 have hb:Below w.heap.size w (w.alloc o):=(Below.refl _ _).alloc (Nat.le_refl _) _
 exact ⟨h.1.kept hb h.1.2.2,h.2.1.kept hb h.2.1.2.2,AL.kept h.2.2.1 hb,ag.kept h.2.2.2 hb⟩
theorem di.addA {H:Nat} {v u v':Value} {k:Bk} {L:List al} {O:List am} {w w':World} {a:al} (h:di H v u k L O w) (hown:w'.ownsRow (H+1+1) 53 8 v' (L.length+1) (L.flatMap ab++ab a)) (hg:w.grownBy w' v.ownBlock):di H v' u k (L++[a]) O (w'.setCell ⟨H+1,1,none⟩ v'):=by
 have hne:∀q,v.ownBlock=some q->q≠H/\q≠H+1:=fun q hq=>⟨by have:=(h.blk.1 q hq).1;omega,by have:=(h.blk.1 q hq).1;omega⟩
 have e0:w'.heap[H]? =w.heap[H]? :=hg.block H h.1.2.2 (fun e=>(hne H e.symm).1 rfl)
 have e1:w'.heap[H+1]? =w.heap[H+1]? :=hg.block (H+1) h.2.1.2.2 (fun e=>(hne (H+1) e.symm).2 rfl)
 have hal:AL w' (H+1+1) v' (L++[a]):=by unfold AL;simpa using hown
 have hor:ag w' (H+1+1) u O:=World.ownsRow.kept h.2.2.2 hg (by
  cases hb:u.ownBlock with
  | none=>exact Or.inl rfl
  | some q=>right;intro e;exact gD h.2.2.1 h.2.2.2 q e.symm hb)
 have gs:w'.grownBy (w'.setCell ⟨H+1,1,none⟩ v') (some (H+1)):=aS w' (H+1) 1 v'
 refine ⟨?_,(h.2.1.same e1).set1 v',World.ownsRow.kept hal gs (Or.inr (fun e=>by have:=(World.ownsRow.lt hal _ e).1;omega)),World.ownsRow.kept hor gs (Or.inr (fun e=>by have:=(World.ownsRow.lt hor _ e).1;omega))⟩
 exact ah.far ⟨fun j x hj=>(World.cell?_of_block (w:=w) e0).trans (h.1.1 j x hj),fun o=>(World.frozen?_of_block (w:=w) e0).trans (h.1.2.1 o),Nat.lt_of_lt_of_le h.1.2.2 hg.size⟩ (by omega) _ _
theorem di.addO {H:Nat} {v u u':Value} {k:Bk} {L:List al} {O:List am} {w w':World} {a:am} (h:di H v u k L O w) (hown:w'.ownsRow (H+1+1) 35 7 u' (O.length+1) (O.flatMap au++au a)) (hg:w.grownBy w' u.ownBlock):di H v u' k L (O++[a]) (w'.setCell ⟨H+1,2,none⟩ u'):=by
 have hne:∀q,u.ownBlock=some q->q≠H/\q≠H+1:=fun q hq=>⟨by have:=(h.blk.2 q hq).1;omega,by have:=(h.blk.2 q hq).1;omega⟩
 have e0:w'.heap[H]? =w.heap[H]? :=hg.block H h.1.2.2 (fun e=>(hne H e.symm).1 rfl)
 have e1:w'.heap[H+1]? =w.heap[H+1]? :=hg.block (H+1) h.2.1.2.2 (fun e=>(hne (H+1) e.symm).2 rfl)
 have hor:ag w' (H+1+1) u' (O++[a]):=by unfold ag;simpa using hown
 have hal:AL w' (H+1+1) v L:=World.ownsRow.kept h.2.2.1 hg (by
  cases hb:v.ownBlock with
  | none=>exact Or.inl rfl
  | some q=>right;intro e;exact gD h.2.2.1 h.2.2.2 q hb e.symm)
 have gs:w'.grownBy (w'.setCell ⟨H+1,2,none⟩ u') (some (H+1)):=aS w' (H+1) 2 u'
 refine ⟨?_,(h.2.1.same e1).set2 u',World.ownsRow.kept hal gs (Or.inr (fun e=>by have:=(World.ownsRow.lt hal _ e).1;omega)),World.ownsRow.kept hor gs (Or.inr (fun e=>by have:=(World.ownsRow.lt hor _ e).1;omega))⟩
 exact ah.far ⟨fun j x hj=>(World.cell?_of_block (w:=w) e0).trans (h.1.1 j x hj),fun o=>(World.frozen?_of_block (w:=w) e0).trans (h.1.2.1 o),Nat.lt_of_lt_of_le h.1.2.2 hg.size⟩ (by omega) _ _
def kK (S:List UInt8) (n f:Nat) (s:List UInt8) (ls:List (List Int)) (t:List UInt8):Prop:=ls.length<f/\ls.length+t.length<=s.length/\aP S n f s=(aP S n (f-ls.length) t).map (fun x=>(ls++x.1,x.2))
theorem kK.start (S:List UInt8) (n f:Nat) (s:List UInt8) (h:0<f):kK S n f s [] s:=⟨h,by simp,by simp⟩
theorem kK.over {S:List UInt8} {n f:Nat} {s t:List UInt8} {ls:List (List Int)} (h:kK S n f s ls t) (hp:Lib.hasPrefix t S=false):aP S n f s=some (ls,t):=by
 rw[h.2.2,show f-ls.length=(f-ls.length-1)+1 by have:=h.1;omega]
 unfold aP
 rw[if_neg (fun e=>by rw[(fV t S).2 e] at hp;cases hp)]
 simp
theorem kK.step {S:List UInt8} {n f:Nat} {s t u:List UInt8} {ls:List (List Int)} {ns:List Int} (h:kK S n f s ls t) (hf:s.length<f) (hp:Lib.hasPrefix t S=true) (hr:aD S n t=some (ns,u)):kK S n f s (ls++[ns]) u:=by
 have hlt:u.length<t.length:=by
  have:=(bM hr).1
  rw[this]
  simp[cy]
  omega
 refine ⟨by simp;have:=h.2.1;omega,by simp;have:=h.2.1;omega,?_⟩
 rw[h.2.2,show f-ls.length=(f-(ls++[ns]).length)+1 by simp;have:=h.2.1;omega]
 conv=>lhs;unfold aP
 rw[if_pos ((fV t S).1 hp),hr]
 cases h3:aP S n (f-(ls++[ns]).length) u with
 | none=>simp only[h3];rfl
 | some x=>simp only[h3];simp
theorem kK.bad {α :Type} {N: α ->List Int} {S:List UInt8} {n f:Nat} {s t:List UInt8} {L:List α} (h:kK S n f s (L.map N) t) (hp:Lib.hasPrefix t S=true) (hr:∀a u,aD S n t≠some (N a,u)):∀(L':List α) (u:List UInt8),aP S n f s≠some (L'.map N,u):=by
 intro L' u e
 have h1:=h.1
 rw[h.2.2,show f-(L.map N).length=(f-(L.map N).length-1)+1 by omega] at e
 unfold aP at e
 rw[if_pos ((fV t S).1 hp)] at e
 cases hh:aD S n t with
 | none=>rw[hh] at e;simp at e
 | some x=>
  rw[hh] at e
  simp only at e
  cases h3:aP S n (f-(L.map N).length-1) x.2 with
  | none=>rw[h3] at e;simp at e
  | some y=>
   rw[h3] at e
   simp only[Option.map_some,Option.some.injEq,Prod.mk.injEq] at e
   have e1:=congrArg (fun l=>l[(L.map N).length]?) e.1
   simp only[List.getElem?_append_right (Nat.le_refl _),Nat.sub_self] at e1
   simp at e1
   obtain ⟨a,ha,hb⟩:∃a,L'[L.length]? =some a/\N a=x.1:=by
    cases hq:L'[L.length]? with
    | none=>rw[hq] at e1;simp at e1
    | some a=>exact ⟨a,rfl,by rw[hq] at e1;simpa using e1.symm⟩
   exact hr a x.2 (by rw[hh,hb])
end
section
open Go.RowKit Go.Shelf
set_option maxRecDepth 8000
section
variable {P:Program} (w:World)
end
def f8 (s:List UInt8) (k:Bk) (L:List al) (O:List am) (t:List UInt8):Prop:=∃s1 s2,aD cD.data.toList 5 s=some (ex k,s1)/\aP bH.data.toList 8 1048577 s1=some (L.map dn,s2)/\aP bK.data.toList 7 1048577 s2=some (O.map dz,t)/\aj (FL L) L.length (ai O) O.length k
def ur (w:World) (p:Nat) (s:ByteArray) (e:Ending) (w':World):Prop:=an p w w'/\((∃(k:Bk) (L:List al) (O:List am) (v u:Value) (t:ByteArray),f8 s.data.toList k L O t.data.toList/\e=.returned (.agg #[.int .i64 k.day,v,u,.int .i64 k.inn,.int .i64 k.out,.int .i64 k.posted,.int .i64 k.missed])/\AL w' w.heap.size v L/\ag w' w.heap.size u O/\bp w' p t/\ba w')\/((∀k L O t,¬f8 s.data.toList k L O t)/\lI e))
theorem sU:(Tryz.prog.info? 53).map (fun i=>(i.zero,i.size,i.bytes))=some (some (.agg #[.int .i64 0,.int .i64 0,.int .i64 0,.int .i64 0,.int .i64 0,.bool false,.int .i64 0,.int .i64 0]),8,64):=by kernel_rfl
theorem sV:(Tryz.prog.info? 35).map (fun i=>(i.zero,i.size,i.bytes))=some (some (.agg #[.int .i64 0,.int .i64 0,.int .i64 0,.int .i64 0,.int .i64 0,.int .i64 0,.int .i64 0]),7,56):=by kernel_rfl
end
section
open Go.RowKit
set_option maxRecDepth 8000
theorem ef:∀(ns:List Int) (S:ByteArray),(be S ns).data.toList=fK S.data.toList ns
 | [],S=>rfl
 | n::r,S=>by
  show (be (S++⟨#[32]⟩++jJ n) r).data.toList=fK (S.data.toList++32::Lib.itoa n) r
  rw[ef r]
  congr 1
  simp[ByteArray.data_append,jJ]
theorem gh (S:ByteArray) (ns:List Int):(cX S ns).data.toList=cy S.data.toList ns:=by
 simp[cX,cy,ByteArray.data_append,ef]
theorem gi (S:List UInt8):∀(a b:List (List Int)),aO S (a++b)=aO S a++aO S b
 | [],b=>rfl
 | l::r,b=>by simp[aO,gi S r b]
theorem jX (T:ByteArray) (F:Nat->al):∀j,(ev T F j).data.toList=T.data.toList++aO bH.data.toList ((List.range j).map (fun i=>dn (F i)))
 | 0=>by simp[ev,aO]
 | j+1=>by
  simp only[ev,ByteArray.data_append,Array.toList_append,jX T F j,gh,List.range_succ,List.map_append,gi,List.map_cons,List.map_nil,aO,List.append_nil,List.append_assoc]
theorem kq (T:ByteArray) (F:Nat->am):∀j,(gL T F j).data.toList=T.data.toList++aO bK.data.toList ((List.range j).map (fun i=>dz (F i)))
 | 0=>by simp[gL,aO]
 | j+1=>by
  simp only[gL,ByteArray.data_append,Array.toList_append,kq T F j,gh,List.range_succ,List.map_append,gi,List.map_cons,List.map_nil,aO,List.append_nil,List.append_assoc]
theorem rO (L:List al):(List.range L.length).map (fun i=>dn (FL L i))=L.map dn:=by
 apply List.ext_getElem
 ·simp
 ·intro i h1 h2
  have hi:i<L.length:=by simpa using h1
  simp[eB hi]
theorem sl (L:List am):(List.range L.length).map (fun i=>dz (ai L i))=L.map dz:=by
 apply List.ext_getElem
 ·simp
 ·intro i h1 h2
  have hi:i<L.length:=by simpa using h1
  simp[eD hi]
def gC (k:Bk) (L:List al) (O:List am):List UInt8:=cy cD.data.toList (ex k)++(aO bH.data.toList (L.map dn)++aO bK.data.toList (O.map dz))
theorem ga (k:Bk) (L:List al) (O:List am):(cZ (FL L) L.length (ai O) O.length k).data.toList=gC k L O:=by
 simp only[cZ,kq,jX,gh,rO,sl,gC,List.append_assoc]
theorem rN {a:al} (h:ey a):∀z ∈ dn a,dj (Lib.itoa z) z:=by
 unfold ey at h
 intro z hz
 simp only[dn,List.mem_cons,List.not_mem_nil,or_false] at hz
 rcases hz with rfl|rfl|rfl|rfl|rfl|rfl|rfl|rfl
 case inr.inr.inr.inr.inr.inl=>cases a.frozen <;>exact ⟨rfl,by decide,by decide⟩
 all_goals exact ⟨rfl,by omega,by omega⟩
theorem sj {o:am} (h:aE o):∀z ∈ dz o,dj (Lib.itoa z) z:=by
 unfold aE at h
 intro z hz
 simp only[dz,List.mem_cons,List.not_mem_nil,or_false] at hz
 rcases hz with rfl|rfl|rfl|rfl|rfl|rfl|rfl <;>exact ⟨rfl,by omega,by omega⟩
theorem oe {F:Nat->al} {n:Nat} {O:Nat->am} {m:Nat} {k:Bk} (h:aj F n O m k):∀z ∈ ex k,dj (Lib.itoa z) z:=by
 unfold aj at h
 obtain ⟨h0,_,_,h1,h2,h3,h4⟩:=h
 intro z hz
 simp only[ex,List.mem_cons,List.not_mem_nil,or_false] at hz
 rcases hz with rfl|rfl|rfl|rfl|rfl <;>exact ⟨rfl,by omega,by omega⟩
theorem sY {k:Bk} {L:List al} {O:List am} (h:aj (FL L) L.length (ai O) O.length k):∀l ∈ L.map dn,l.length=8/\∀n ∈ l,dj (Lib.itoa n) n:=by
 intro l hl
 obtain ⟨a,ha,rfl⟩:=List.mem_map.1 hl
 refine ⟨rfl,rN ?_⟩
 obtain ⟨i,hi,e⟩:=List.getElem_of_mem ha
 rw[←e,←eB hi]
 exact h.2.1.2.1 i hi
theorem sZ {k:Bk} {L:List al} {O:List am} (h:aj (FL L) L.length (ai O) O.length k):∀l ∈ O.map dz,l.length=7/\∀n ∈ l,dj (Lib.itoa n) n:=by
 intro l hl
 obtain ⟨a,ha,rfl⟩:=List.mem_map.1 hl
 refine ⟨rfl,sj ?_⟩
 obtain ⟨i,hi,e⟩:=List.getElem_of_mem ha
 rw[←e,←eD hi]
 exact h.2.2.1.2.1 i hi
theorem se (ls:List (List Int)):¬bH.data.toList <+: aO bK.data.toList ls:=by
 cases ls with
 | nil=>intro h;have:=h.length_le;simp[aO,bH] at this
 | cons l r=>
  intro h
  obtain ⟨t,ht⟩:=h
  simp only[aO,cy,cV,bH,bK,List.append_assoc] at ht
  simp at ht
theorem sg:¬bK.data.toList <+: ([]:List UInt8):=by
 intro h
 have:=h.length_le
 simp[bK] at this
theorem tJ {k:Bk} {L:List al} {O:List am} (h:aj (FL L) L.length (ai O) O.length k):f8 (gC k L O) k L O []:=by
 refine ⟨aO bH.data.toList (L.map dn)++aO bK.data.toList (O.map dz),aO bK.data.toList (O.map dz),?_,?_,?_,h⟩
 ·exact ir cD.data.toList (ex k) _ (oe h)
 ·exact fi bH.data.toList 8 (L.map dn) 1048577 _ (sY h) (se _) (by have:=h.2.1.1;simp only[List.length_map];omega)
 ·have:=fi bK.data.toList 7 (O.map dz) 1048577 [] (sZ h) sg (by have:=h.2.2.1.1;simp only[List.length_map];omega)
  simpa using this
theorem rg {s t:List UInt8} {k:Bk} {L:List al} {O:List am} (h:f8 s k L O t):aj (FL L) L.length (ai O) O.length k/\s=gC k L O++t:=by
 obtain ⟨s1,s2,e1,e2,e3,h4⟩:=h
 refine ⟨h4,?_⟩
 have f1:=(bM e1).1
 have f2:=(fh _ _ _ _ _ _ e2).1
 have f3:=(fh _ _ _ _ _ _ e3).1
 rw[f1,f2,f3]
 simp[gC]
theorem dd (s:ByteArray) (k:Bk) (L:List al) (O:List am):f8 s.data.toList k L O []↔aj (FL L) L.length (ai O) O.length k/\s=cZ (FL L) L.length (ai O) O.length k:=by
 constructor
 ·intro h
  obtain ⟨h1,h2⟩:=rg h
  refine ⟨h1,ca ?_⟩
  rw[ga,h2]
  simp
 ·rintro ⟨h1,rfl⟩
  rw[ga]
  exact tJ h1
theorem dH {k:Bk} {L:List al} {O:List am} (h:aj (FL L) L.length (ai O) O.length k):(cZ (FL L) L.length (ai O) O.length k).size<=5313/\0<(cZ (FL L) L.length (ai O) O.length k).size:=by
 constructor
 ·have h0:=df (S:=cD) (ns:=ex k) (by decide) (by simp[ex]) (fP h)
  have h1:=ec (F:=FL L) h0 L.length h.2.1.2.1
  have h2:=fT (O:=ai O) h1 O.length h.2.2.1.2.1
  have:=h.2.1.1
  have:=h.2.2.1.1
  unfold cZ
  omega
 ·rw[←dB,ga]
  simp[gC,cy]
  omega
end
section
open Go.RowKit
theorem gl:∀(k:Nat) (s:List UInt8),s.length<k->ej k s=ej (s.length+1) s
 | 0,s,h=>by omega
 | k+1,s,h=>by
  unfold ej
  have hl:=iW 32 s
  cases hi:fd (bF 32 s).1 with
  | none=>rfl
  | some n=>
   by_cases hb:(bF 32 s).2.2=true
   ·simp only[hb,if_true]
    have:=hl hb
    rw[gl k _ (by omega),gl s.length _ (by omega)]
   ·simp only[hb];simp
noncomputable def bR (s:List UInt8):Option (List Int):=if s=[] then some [] else ej (s.length+1) s
def ct (S:ByteArray) (t:ByteArray) (pre:List Int) (more:Bool):Prop:=bR S.data.toList=if more then (ej (t.data.toList.length+1) t.data.toList).map (pre++ ·) else some pre
theorem ct.start {S:ByteArray} (h:S.data.toList≠[]):ct S S [] true:=by
 unfold ct bR
 rw[if_neg h]
 simp
theorem ct.none0 {S:ByteArray} (h:S.data.toList=[]):ct S S [] false:=by
 unfold ct bR
 rw[if_pos h]
 simp
theorem ct.bad {S t x y:ByteArray} {pre:List Int} {b:Bool} (h:ct S t pre true) (hc:bF 32 t.data.toList=(x.data.toList,y.data.toList,b)) (hi:fd x.data.toList=none):bR S.data.toList=none:=by
 unfold ct at h
 rw[h,if_pos rfl]
 unfold ej
 rw[hc]
 simp[hi]
theorem ct.step {S t x y:ByteArray} {pre:List Int} {b:Bool} {n:Int} (h:ct S t pre true) (hc:bF 32 t.data.toList=(x.data.toList,y.data.toList,b)) (hi:fd x.data.toList=some n):ct S y (pre++[n]) b:=by
 unfold ct at h ⊢
 rw[h,if_pos rfl]
 have hl:=iW 32 t.data.toList
 rw[hc] at hl
 conv=>lhs;unfold ej
 rw[hc]
 simp only[hi]
 cases b with
 | false=>simp
 | true=>
  simp only[if_true]
  rw[gl _ _ (hl rfl)]
  simp[Option.map_map]
  congr 1
def kL (S:ByteArray) (w:World) (e:Ending) (w':World):Prop:=Below w.heap.size w w'/\((∃ns v,bR S.data.toList=some ns/\ns.length<=S.size+1/\e=.returned (.tuple #[v,.bool true])/\f7 w' w.heap.size v ns)\/(bR S.data.toList=none/\e=.returned (.tuple #[.slice none 0 0,.bool false])))
end
section
open Go.RowKit
set_option maxRecDepth 8000
def iT (k':Bk) (L':List al) (O':List am) (r:List UInt8) (k:Bk) (L:List al) (O:List am):Prop:=
 (r=gC k' L' O'/\L=[]/\O=[])\/(k=k'/\∃L2 O2,L'=L++L2/\O'=O++O2/\r=aO bH.data.toList (L2.map dn)++aO bK.data.toList (O2.map dz))
theorem pt {ns:List Int} (h0:ns≠[]) (h:∀n ∈ ns,dj (Lib.itoa n) n):bR (dr ns)=some ns:=by
 unfold bR
 have hl:∀ms:List Int,ms≠[]->ms.length<=(dr ms).length:=by
  intro ms
  induction ms with
  | nil=>intro h;exact absurd rfl h
  | cons n r ih=>
   intro _
   have h1:1<=(Lib.itoa n).length:=by
    have:Lib.itoa n≠[]:=by
     intro e
     unfold Lib.itoa at e
     split at e
     ·simp at e
     ·exact iY _ e
    exact List.length_pos_iff.2 this
   cases r with
   | nil=>simpa [dr] using h1
   | cons m q=>
    have:=ih (by simp)
    simp only[dr,List.length_append,List.length_cons] at this ⊢
    omega
 have hn:dr ns≠[]:=by
  intro e
  have:=hl ns h0
  rw[e] at this
  simp at this
  exact h0 this
 rw[if_neg hn]
 exact gm ns _ h0 h (by have:=hl ns h0;omega)
theorem gY {S:List UInt8} (hS:∀b ∈ S,b≠32/\b≠10) {ns:List Int} (h0:ns≠[]) (h:∀n ∈ ns,dj (Lib.itoa n) n) (t:List UInt8):bF 10 (cy S ns++t)=(fK S ns,t,true)/\bF 32 (fK S ns)=(S,dr ns,true)/\bR (dr ns)=some ns:=
 ⟨qF (fun b hb=>(hS b hb).2) ns t,oJ (fun b hb=>(hS b hb).1) h0,pt h0 h⟩
theorem iT.next {k' k:Bk} {L' L:List al} {O' O:List am} {r:List UInt8} (hb:aj (FL L') L'.length (ai O') O'.length k') (h:iT k' L' O' r k L O) (hr:r≠[]):
  ∃W ns t,bF 10 r=(fK W ns,t,true)/\bF 32 (fK W ns)=(W,dr ns,true)/\bR (dr ns)=some ns/\
   ((W=cD.data.toList/\ns=ex k'/\iT k' L' O' t k' L O)\/(W=bH.data.toList/\∃a,ns=dn a/\iT k' L' O' t k (L++[a]) O)\/(W=bK.data.toList/\∃o,ns=dz o/\iT k' L' O' t k L (O++[o]))):=by
 rcases h with ⟨rfl,rfl,rfl⟩|⟨rfl,L2,O2,e1,e2,rfl⟩
 ·obtain ⟨h1,h2,h3⟩:=gY (S:=cD.data.toList) (by decide) (ns:=ex k') (by simp[ex]) (oe hb) (aO bH.data.toList (L'.map dn)++aO bK.data.toList (O'.map dz))
  exact ⟨_,_,_,h1,h2,h3,Or.inl ⟨rfl,rfl,Or.inr ⟨rfl,L',O',rfl,rfl,rfl⟩⟩⟩
 ·cases L2 with
  | cons a L3=>
   obtain ⟨h1,h2,h3⟩:=gY (S:=bH.data.toList) (by decide) (ns:=dn a) (by simp[dn]) ((sY hb (dn a) (by rw[e1];simp)).2) (aO bH.data.toList (L3.map dn)++aO bK.data.toList (O2.map dz))
   refine ⟨_,_,_,by simpa [aO] using h1,h2,h3,Or.inr (Or.inl ⟨rfl,a,rfl,Or.inr ⟨rfl,L3,O2,by simp[e1],e2,rfl⟩⟩)⟩
  | nil=>
   cases O2 with
   | nil=>simp[aO] at hr
   | cons o O3=>
    obtain ⟨h1,h2,h3⟩:=gY (S:=bK.data.toList) (by decide) (ns:=dz o) (by simp[dz]) ((sZ hb (dz o) (by rw[e2];simp)).2) (aO bK.data.toList (O3.map dz))
    refine ⟨_,_,_,by simpa [aO] using h1,h2,h3,Or.inr (Or.inr ⟨rfl,o,rfl,Or.inr ⟨rfl,[],O3,e1,by simp[e2],by simp[aO]⟩⟩)⟩
theorem iT.over {k' k:Bk} {L' L:List al} {O' O:List am} (h:iT k' L' O' [] k L O):k=k'/\L=L'/\O=O':=by
 rcases h with ⟨e,_,_⟩|⟨rfl,L2,O2,e1,e2,e3⟩
 ·simp[gC,cy] at e
 ·have e4:aO bH.data.toList (L2.map dn)=[]/\aO bK.data.toList (O2.map dz)=[]:=by simpa using e3.symm
  have z:∀(S:List UInt8) (ls:List (List Int)),aO S ls=[]->ls=[]:=by
   intro S ls
   cases ls with
   | nil=>intro _;rfl
   | cons l r=>intro e;simp[aO,cy] at e
  have z1:=z _ _ e4.1
  have z2:=z _ _ e4.2
  simp only[List.map_eq_nil_iff] at z1 z2
  subst z1
  subst z2
  simp at e1 e2
  exact ⟨rfl,e1.symm,e2.symm⟩
def g8 (s r:List UInt8) (k:Bk) (L:List al) (O:List am):Prop:=∀k' L' O',f8 s k' L' O' []->iT k' L' O' r k L O
theorem gN {s:List UInt8} {k:Bk} {L:List al} {O:List am} (h:f8 s k L O []):aj (FL L) L.length (ai O) O.length k/\s=gC k L O:=by
 obtain ⟨h1,h2⟩:=rg h
 exact ⟨h1,by simpa using h2⟩
theorem g8.start (s:List UInt8) (k:Bk):g8 s s k [] []:=fun _ _ _ h=>Or.inl ⟨(gN h).2,rfl,rfl⟩
theorem g8.bad {s r x y:List UInt8} {k:Bk} {L:List al} {O:List am} (h:g8 s r k L O) (hr:r≠[]) (hc:bF 10 r=(x,y,false)):∀k' L' O',¬f8 s k' L' O' []:=by
 intro k' L' O' hh
 obtain ⟨W,ns,t,h1,_⟩:=(h k' L' O' hh).next (gN hh).1 hr
 rw[hc] at h1
 simp at h1
theorem g8.bad2 {s r x y z u:List UInt8} {b c:Bool} {k:Bk} {L:List al} {O:List am} (h:g8 s r k L O) (hr:r≠[]) (hc:bF 10 r=(x,y,b)) (h2:bF 32 x=(z,u,c)) (h3:bR u=none):∀k' L' O',¬f8 s k' L' O' []:=by
 intro k' L' O' hh
 obtain ⟨W,ns,t,e1,e2,e3,_⟩:=(h k' L' O' hh).next (gN hh).1 hr
 rw[hc] at e1
 simp only[Prod.mk.injEq] at e1
 rw[e1.1,e2] at h2
 simp only[Prod.mk.injEq] at h2
 rw[←h2.2.1,e3] at h3
 cases h3
theorem g8.line {s r x y z u:List UInt8} {b c:Bool} {k:Bk} {L:List al} {O:List am} {ns:List Int} (h:g8 s r k L O) (hr:r≠[]) (hc:bF 10 r=(x,y,b)) (h2:bF 32 x=(z,u,c)) (h3:bR u=some ns):
  ∀k' L' O',f8 s k' L' O' []->((z=cD.data.toList/\ns=ex k'/\iT k' L' O' y k' L O)\/(z=bH.data.toList/\∃a,ns=dn a/\iT k' L' O' y k (L++[a]) O)\/(z=bK.data.toList/\∃o,ns=dz o/\iT k' L' O' y k L (O++[o]))):=by
 intro k' L' O' hh
 obtain ⟨W,ms,t,e1,e2,e3,e4⟩:=(h k' L' O' hh).next (gN hh).1 hr
 rw[hc] at e1
 simp only[Prod.mk.injEq] at e1
 rw[e1.1,e2] at h2
 simp only[Prod.mk.injEq] at h2
 rw[←h2.2.1,e3] at h3
 cases h3
 rw[←h2.1,e1.2.1]
 exact e4
theorem pN:cD.data.toList≠bH.data.toList/\cD.data.toList≠bK.data.toList/\bH.data.toList≠bK.data.toList:=by decide
section
variable {s r x y z u:List UInt8} {b c:Bool} {k:Bk} {L:List al} {O:List am} {ns:List Int}
theorem g8.bank (h:g8 s r k L O) (hr:r≠[]) (hc:bF 10 r=(x,y,b)) (h2:bF 32 x=(z,u,c)) (h3:bR u=some ns) (hz:z=cD.data.toList) {k2:Bk} (hk:ns=ex k2):g8 s y k2 L O:=by
 intro k' L' O' hh
 rcases h.line hr hc h2 h3 k' L' O' hh with ⟨_,e,g⟩|⟨e,_⟩|⟨e,_⟩
 ·rw[hk] at e
  have:k2=k':=by
   obtain ⟨a1,a2,a3,a4,a5⟩:=k2
   obtain ⟨b1,b2,b3,b4,b5⟩:=k'
   simp[ex] at e
   simp[e]
  rw[this]
  exact g
 ·exact absurd (hz.symm.trans e) pN.1
 ·exact absurd (hz.symm.trans e) pN.2.1
theorem g8.acc (h:g8 s r k L O) (hr:r≠[]) (hc:bF 10 r=(x,y,b)) (h2:bF 32 x=(z,u,c)) (h3:bR u=some ns) (hz:z=bH.data.toList) {a:al} (hk:∀a',ns=dn a'->a=a'):g8 s y k (L++[a]) O:=by
 intro k' L' O' hh
 rcases h.line hr hc h2 h3 k' L' O' hh with ⟨e,_⟩|⟨_,a',e,g⟩|⟨e,_⟩
 ·exact absurd (e.symm.trans hz) pN.1
 ·rw[hk a' e]
  exact g
 ·exact absurd (hz.symm.trans e) pN.2.2
theorem g8.ord (h:g8 s r k L O) (hr:r≠[]) (hc:bF 10 r=(x,y,b)) (h2:bF 32 x=(z,u,c)) (h3:bR u=some ns) (hz:z=bK.data.toList) {a:am} (hk:∀a',ns=dz a'->a=a'):g8 s y k L (O++[a]):=by
 intro k' L' O' hh
 rcases h.line hr hc h2 h3 k' L' O' hh with ⟨e,_⟩|⟨e,_⟩|⟨_,a',e,g⟩
 ·exact absurd (e.symm.trans hz) pN.2.1
 ·exact absurd (e.symm.trans hz) pN.2.2
 ·rw[hk a' e]
  exact g
theorem g8.other (h:g8 s r k L O) (hr:r≠[]) (hc:bF 10 r=(x,y,b)) (h2:bF 32 x=(z,u,c)) (h3:bR u=some ns) (h5:¬(z=cD.data.toList/\ns.length=5)) (h8:¬(z=bH.data.toList/\ns.length=8)) (h7:¬(z=bK.data.toList/\ns.length=7)):g8 s y k L O:=by
 intro k' L' O' hh
 rcases h.line hr hc h2 h3 k' L' O' hh with ⟨e,e',_⟩|⟨e,a',e',_⟩|⟨e,a',e',_⟩
 ·exact absurd ⟨e,by rw[e'];rfl⟩ h5
 ·exact absurd ⟨e,by rw[e'];rfl⟩ h8
 ·exact absurd ⟨e,by rw[e'];rfl⟩ h7
theorem g8.over (h:g8 s [] k L O):∀k' L' O',f8 s k' L' O' []->k=k'/\L=L'/\O=O':=fun k' L' O' hh=>(h k' L' O' hh).over
end
theorem pT {ns:List Int} (h:ns.length=8):∃n0 n1 n2 n3 n4 n5 n6 n7,ns=[n0,n1,n2,n3,n4,n5,n6,n7]/\∀a',ns=dn a'->(⟨n0,n1,n2,n3,n4,n5 == 1,n6,n7⟩:al)=a':=by
 match ns,h with
 | [n0,n1,n2,n3,n4,n5,n6,n7],_=>
  refine ⟨n0,n1,n2,n3,n4,n5,n6,n7,rfl,?_⟩
  rintro ⟨a1,a2,a3,a4,a5,a6,a7,a8⟩ e
  simp[dn] at e
  obtain ⟨rfl,rfl,rfl,rfl,rfl,rfl,rfl,rfl⟩:=e
  cases a6 <;>rfl
theorem qT {ns:List Int} (h:ns.length=7):∃n0 n1 n2 n3 n4 n5 n6,ns=[n0,n1,n2,n3,n4,n5,n6]/\∀a',ns=dz a'->(⟨n0,n1,n2,n3,n4,n5,n6⟩:am)=a':=by
 match ns,h with
 | [n0,n1,n2,n3,n4,n5,n6],_=>
  refine ⟨n0,n1,n2,n3,n4,n5,n6,rfl,?_⟩
  rintro ⟨a1,a2,a3,a4,a5,a6,a7⟩ e
  simp[dz] at e
  obtain ⟨rfl,rfl,rfl,rfl,rfl,rfl,rfl⟩:=e
  rfl
end
end Go.Proofs.YtjhgchlfpolkcaaGreatDoor
