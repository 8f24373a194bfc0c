/- The reader's numbers, one behind the other, into whatever places. -/
import Derived.Test.YtjhgchlfpolkcaaGreatDoorRdrx
namespace Go.Proofs.YtjhgchlfpolkcaaGreatDoor
section
set_option maxHeartbeats 2000000
open Go.RowKit Go.Shelf
set_option maxRecDepth 8000
def kP (w:World) (p:Nat) (s:ByteArray) (e:Ending) (w':World):Prop:=∃x t:ByteArray,e=.returned (.string x)/\x.data.toList=bk s.data.toList/\t.data.toList=bY s.data.toList/\x.size<=s.size/\bp w' p t/\an p w w'
theorem t8 (p:Nat) (s:ByteArray) (w:World) (h:bp w p s):Calls Tryz.prog 72 #[.pointer (some ⟨p,0,none⟩)] w fun e w'=>kP w p s e w':=by
 have H:Hid (bp w p s):=h
 obtain ⟨h0,hz,_,hp,hs⟩:=h
 have C:=tv s hs w
 have hp':0<w.heap.size:=by omega
 rcases jl s.data.toList with ⟨hi,hw,hr⟩|⟨i,hi,hil,hw,hr⟩
 ·rw[hi] at C
  have FI:Hid (∀w1,Below w.heap.size w w1->kP w p s (.returned (.string s)) (w1.setCell ⟨p,0,none⟩ (.string ByteArray.empty))):=fun w1 hb=>⟨s,ByteArray.empty,rfl,hw.symm,hr.symm ▸ rfl,Nat.le_refl _,(H.out.below hb).set (by show 0<=_;omega),(an.ofBelow hb).setCell 0 _⟩
  clear hi hw hr
  go_enter Tryz.func72,Tryz.ntmps72
  go_wp2_with fail
  refine C.mono ?_
  rintro e w1 ⟨rfl,B1⟩
  have R1:Hid (Below w.heap.size w w1):=B1
  have g0:=(H.out.below B1).1
  have gz:=(H.out.below B1).2.1
  clear B1 C h0 hz
  go_wp2
  go_ret
  exact FI.out _ R1.out
 ·rw[hi] at C
  have FI:Hid (∀w1,Below w.heap.size w w1->kP w p s (.returned (.string (s.extract 0 i))) (w1.setCell ⟨p,0,none⟩ (.string (s.extract i s.size)))):=fun w1 hb=>⟨_,_,rfl,by rw[ig,hw];simp,by rw[ig,hr,List.take_of_length_le (by simp)],by rw[ByteArray.size_extract];omega,(H.out.below hb).set (by rw[ByteArray.size_extract];omega),(an.ofBelow hb).setCell 0 _⟩
  rw[dB] at hil
  clear hi hw hr
  go_enter Tryz.func72,Tryz.ntmps72
  go_wp2_with fail
  refine C.mono ?_
  rintro e w1 ⟨rfl,B1⟩
  have R1:Hid (Below w.heap.size w w1):=B1
  have g0:=(H.out.below B1).1
  have gz:=(H.out.below B1).2.1
  clear B1 C h0 hz
  go_wp2
  go_ret
  exact FI.out _ R1.out
shelf_lay LaysC.n174 Nm 174 at Tryz as Tryz.lays174
def td (w:World) (x:ByteArray) (e:Ending) (w':World):Prop:=Below w.heap.size w w'/\((∃v,Lib.parseIntB 64 x.data.toList=.ok v/\e=.returned (.tuple #[.int .i64 v,.nilIface]))\/((∀v,Lib.parseIntB 64 x.data.toList≠ .ok v)/\∃n t q,e=.returned (.tuple #[.int .i64 n,.iface t q])))
theorem un (x:ByteArray) (w:World) (hx:x.size<=1048576) (g:ba w):Calls Tryz.prog 116 #[.string x,.int .i64 10,.int .i64 64] w fun e w'=>td w x e w':=by
 obtain ⟨_,⟨t2,p2,h2⟩,⟨t3,p3,h3⟩,_⟩:=g
 cases hp:Lib.parseIntB 64 x.data.toList
 ·rename_i v
  refine (Any.strconv_ParseInt_10_at64_ok Tryz.lays174 x (by omega) v hp w).mono fun e w' ⟨h1,h2⟩=>⟨?_,Or.inl ⟨v,hp,h1⟩⟩
  rcases h2 with rfl|⟨t,rfl⟩
  ·exact Below.refl _ _
  ·exact Lib.bytesWorld_below w _ t
 ·exact (Any.strconv_ParseInt_10_at64_syntax Tryz.lays174 x (by omega) hp _ w h2 (Or.inr ⟨_,_,rfl⟩)).mono fun e w' ⟨n,h1,_,_,hb⟩=>⟨hb,Or.inr ⟨fun v h=>(by rw[hp] at h;cases h),_,_,_,h1⟩⟩
 ·exact (Any.strconv_ParseInt_10_at64_range Tryz.lays174 x (by omega) hp _ w h3 (Or.inr ⟨_,_,rfl⟩)).mono fun e w' ⟨n,h1,_,_,hb⟩=>⟨hb,Or.inr ⟨fun v h=>(by rw[hp] at h;cases h),_,_,_,h1⟩⟩
def pR (w:World) (p:Nat) (s:ByteArray) (e:Ending) (w':World):Prop:=an p w w'/\((∃(n:Int) (t:ByteArray),dj (bk s.data.toList) n/\t.data.toList=bY s.data.toList/\e=.returned (.int .i64 n)/\bp w' p t)\/((∀n,¬dj (bk s.data.toList) n)/\lI e))
theorem oy (p:Nat) (s:ByteArray) (w:World) (h:bp w p s) (g:ba w):Calls Tryz.prog 99 #[.pointer (some ⟨p,0,none⟩)] w fun e w'=>pR w p s e w':=by
 have H:Hid (bp w p s/\ba w):=⟨h,g⟩
 clear h g
 go_enter Tryz.func99,Tryz.ntmps99
 go_wp2_with fail
 refine (t8 p s w H.out.1).mono ?_
 rintro e w1 ⟨x,t,rfl,hx,ht,hxs,R1,S1⟩
 have H1:Hid (x.data.toList=bk s.data.toList/\t.data.toList=bY s.data.toList/\x.size<=1048576/\bp w1 p t/\an p w w1/\ba w1):=⟨hx,ht,Nat.le_trans hxs H.out.1.2.2.2.2,R1,S1,H.out.2.stp S1 H.out.1.2.2.1⟩
 clear hx ht hxs R1 S1 H
 go_wp2_with fail
 refine (un x w1 H1.out.2.2.1 H1.out.2.2.2.2.2).mono ?_
 rintro e w2 ⟨B2,hor⟩
 have H2:Hid (x.data.toList=bk s.data.toList/\t.data.toList=bY s.data.toList/\bp w2 p t/\an p w w2/\ba w2):=⟨H1.out.1,H1.out.2.1,H1.out.2.2.2.1.below B2,H1.out.2.2.2.2.1.trans (an.ofBelow B2),H1.out.2.2.2.2.2.below B2⟩
 clear H1 B2
 rcases hor with ⟨v,hv,rfl⟩|⟨hv,n,t0,q0,rfl⟩
 ·by_cases hr: -9999999999999999<=v/\v<=9999999999999999
  ·obtain ⟨hr1,hr2⟩:=hr
   go_wp2_with (go_at_call 58;refine (dY _ _).mono ?_;rintro e w3 ⟨rfl,rfl⟩)
   refine (ot v ⟨by omega,by omega⟩ _ H2.out.2.2.2.2.2.2.2.1).mono ?_
   rintro e w4 ⟨rfl,B4⟩
   have H4:Hid (x.data.toList=bk s.data.toList/\t.data.toList=bY s.data.toList/\bp w4 p t/\an p w w4/\ba w4):=⟨H2.out.1,H2.out.2.1,H2.out.2.2.1.below B4,H2.out.2.2.2.1.trans (an.ofBelow B4),H2.out.2.2.2.2.below B4⟩
   have HV:Hid (Lib.parseIntB 64 x.data.toList=.ok v/\ -9999999999999999<=v/\v<=9999999999999999):=⟨hv,hr1,hr2⟩
   have HD:Hid ((jJ v).data.toList=Lib.itoa v):=rfl
   clear B4 H2 hv
   generalize jJ v=d at*
   by_cases he:d=x
   ·have FI:Hid (pR w p s (.returned (.int .i64 v)) w4):=⟨H4.out.2.2.2.1,Or.inl ⟨v,t,⟨by rw[←HD.out,he,H4.out.1],HV.out.2.1,HV.out.2.2⟩,H4.out.2.1,rfl,H4.out.2.2.1⟩⟩
    subst he
    clear H4 HV HD
    go_wp2_with (go_at_call 58;refine (dY _ _).mono ?_;rintro e w3 ⟨rfl,rfl⟩)
    go_ret
    exact FI.out
   ·have FI:Hid (∀e,lI e->pR w p s e w4):=fun e hp=>⟨H4.out.2.2.2.1,Or.inr ⟨fun m hm=>he (ca (by
     have h1:=i4 hm
     rw[←H4.out.1,HV.out.1] at h1
     cases h1
     rw[HD.out,H4.out.1];exact hm.1)),hp⟩⟩
    have G4:Hid (ba w4):=H4.out.2.2.2.2
    have he':=lc he
    clear H4 HV HD he
    go_wp2_with (go_at_call 58;refine (dO _ _ G4.out).mono ?_;rintro e w3 ⟨⟨t9,p9,rfl⟩,rfl⟩)
    exact ⟨rfl,FI.out _ ⟨_,_,rfl⟩⟩
  ·have FI:Hid (∀e,lI e->pR w p s e w2):=fun e hp=>⟨H2.out.2.2.2.1,Or.inr ⟨fun m hm=>by
    have h1:=i4 hm
    rw[←H2.out.1,hv] at h1
    cases h1
    exact hr hm.2,hp⟩⟩
   have G2:Hid (ba w2):=H2.out.2.2.2.2
   have hlh:v< -9999999999999999\/(-9999999999999999<=v/\9999999999999999<v):=by omega
   clear H2 hv hr
   rcases hlh with hl|⟨hl,hh⟩
   ·go_wp2_with (go_at_call 58;refine (dO _ _ G2.out).mono ?_;rintro e w3 ⟨⟨t9,p9,rfl⟩,rfl⟩)
    exact ⟨rfl,FI.out _ ⟨_,_,rfl⟩⟩
   ·have hq:decide (v<=9999999999999999)=false:=decide_eq_false (by omega)
    go_wp2_with (go_at_call 58;refine (dO _ _ G2.out).mono ?_;rintro e w3 ⟨⟨t9,p9,rfl⟩,rfl⟩)
    exact ⟨rfl,FI.out _ ⟨_,_,rfl⟩⟩
 ·have FI:Hid (∀e,lI e->pR w p s e w2):=fun e hp=>⟨H2.out.2.2.2.1,Or.inr ⟨fun m hm=>by
   have h1:=i4 hm
   rw[←H2.out.1] at h1
   exact hv m h1,hp⟩⟩
  have G2:Hid (ba w2):=H2.out.2.2.2.2
  clear H2 hv
  go_wp2_with (go_at_call 58;refine (dO _ _ G2.out).mono ?_;rintro e w3 ⟨⟨t9,p9,rfl⟩,rfl⟩)
  exact ⟨rfl,FI.out _ ⟨_,_,rfl⟩⟩
end
section
open Go.RowKit Go.Shelf
set_option maxRecDepth 8000
structure ft (p lo:Nat) (w w':World):Prop where
 os:w'.os=w.os
 tape:w'.tape=w.tape
 output:w'.output=w.output
 size:w.heap.size<=w'.heap.size
 block:∀k,k<w.heap.size->k≠p->k<lo->w'.heap[k]? =w.heap[k]?
theorem ft.refl (p lo:Nat) (w:World):ft p lo w w:=⟨rfl,rfl,rfl,Nat.le_refl _,fun _ _ _ _=>rfl⟩
theorem ft.trans {p lo:Nat} {a b c:World} (h:ft p lo a b) (k:ft p lo b c):ft p lo a c:=
 ⟨k.os.trans h.os,k.tape.trans h.tape,k.output.trans h.output,Nat.le_trans h.size k.size,fun j hj h1 h2=>(k.block j (Nat.lt_of_lt_of_le hj h.size) h1 h2).trans (h.block j hj h1 h2)⟩
theorem ft.ofStp {p lo:Nat} {w w':World} (h:an p w w'):ft p lo w w':=⟨h.os,h.tape,h.output,h.size,fun k hk h1 _=>h.block k hk h1⟩
theorem ft.setCell {p lo:Nat} {a w:World} (h:ft p lo a w) {R:Nat} (hR:lo<=R) (off:Nat) (u:Value):ft p lo a (w.setCell ⟨R,off,none⟩ u):=
 h.trans ((an.refl R w).setCell off u |> fun k=>⟨k.os,k.tape,k.output,k.size,fun j hj _ h2=>k.block j hj (by omega)⟩)
theorem ft.stp {p lo:Nat} {w0 w w':World} (h:an p w0 w) (k:ft p lo w w') (hlo:w0.heap.size<=lo):an p w0 w':=
 ⟨k.os.trans h.os,k.tape.trans h.tape,k.output.trans h.output,Nat.le_trans h.size k.size,fun j hj hp=>(k.block j (Nat.lt_of_lt_of_le hj h.size) hp (by omega)).trans (h.block j hj hp)⟩
theorem bp.far {w:World} {p R:Nat} {s:ByteArray} (h:bp w p s) (hne:p≠R) (o:Nat) (u:Value):bp (w.setCell ⟨R,o,none⟩ u) p s:=
 ⟨(World.cell?_setCell_other _ _ _ _ (by intro e;exact hne (congrArg Addr.block e).symm)).trans h.1,by rw[World.frozen?_setCell];exact h.2.1,h.2.2.1,by simpa [World.setCell] using h.2.2.2.1,h.2.2.2.2⟩
theorem ba.far {w:World} {R:Nat} (h:ba w) (hR:7<=R) (o:Nat) (u:Value):ba (w.setCell ⟨R,o,none⟩ u):=h.stp ((an.refl R w).setCell o u) hR
structure sR (p lo:Nat) (a:Option Addr) (n:Nat) (T:Nat->Nat×Nat) (Q:List Int->World->Prop):Prop where
 keep:∀pre w w',Q pre w->an p w w'->Q pre w'
 place:∀pre w,Q pre w->pre.length<n->∃b z,a=some ⟨b,0,none⟩/\w.cell? ⟨b,pre.length,none⟩=some (.pointer (some ⟨(T pre.length).1,(T pre.length).2,none⟩))/\lo<=(T pre.length).1/\w.cell? ⟨(T pre.length).1,(T pre.length).2,none⟩=some z/\w.frozen? ⟨(T pre.length).1,(T pre.length).2,none⟩=false/\∀m:Int,Q (pre++[m]) (w.setCell ⟨(T pre.length).1,(T pre.length).2,none⟩ (.int .i64 m))
def lH (n:Nat) (S:List UInt8) (k:Nat) (pre:List Int) (t:List UInt8):Prop:=pre.length=k/\aH n S=(aH (n-k) t).map (fun x=>(pre++x.1,x.2))
theorem lH.start (n:Nat) (S:List UInt8):lH n S 0 [] S:=⟨rfl,by simp⟩
theorem lH.over {n:Nat} {S t:List UInt8} {pre:List Int} (h:lH n S n pre t):aH n S=some (pre,t):=by
 rw[h.2,Nat.sub_self]
 simp[aH]
theorem f9 {t:List UInt8} (h:Lib.hasPrefix t [32]=true):t=32::t.drop 1:=by
 unfold Lib.hasPrefix at h
 cases t with
 | nil=>simp at h
 | cons b l=>simp at h;simp[h]
theorem lH.step {n k:Nat} {S t:List UInt8} {pre:List Int} (h:lH n S k pre t) (hk:k<n) (hp:Lib.hasPrefix t [32]=true) {m:Int} (hm:fd (bk (t.drop 1))=some m):lH n S (k+1) (pre++[m]) (bY (t.drop 1)):=by
 refine ⟨by simp[h.1],?_⟩
 rw[h.2,f9 hp,show n-k=(n-(k+1))+1 by omega]
 simp only[aH,List.drop_succ_cons,List.drop_zero,if_true,hm]
 cases aH (n-(k+1)) (bY (t.drop 1)) with
 | none=>rfl
 | some x=>simp
theorem lH.noBlank {n k:Nat} {S t:List UInt8} {pre:List Int} (h:lH n S k pre t) (hk:k<n) (hp:Lib.hasPrefix t [32]=false):aH n S=none:=by
 rw[h.2,show n-k=(n-(k+1))+1 by omega]
 cases t with
 | nil=>rfl
 | cons b l=>
  have:¬b=32:=by
   unfold Lib.hasPrefix at hp
   intro e
   subst e
   simp at hp
  simp[aH,this]
theorem lH.noNum {n k:Nat} {S t:List UInt8} {pre:List Int} (h:lH n S k pre t) (hk:k<n) (hp:Lib.hasPrefix t [32]=true) (hm:fd (bk (t.drop 1))=none):aH n S=none:=by
 rw[h.2,f9 hp,show n-k=(n-(k+1))+1 by omega]
 simp only[aH,if_true,hm]
 rfl
def rM (w:World) (p lo:Nat) (s:ByteArray) (n:Nat) (Q:List Int->World->Prop) (e:Ending) (w':World):Prop:=ft p lo w w'/\((∃(ns:List Int) (t:ByteArray),aH n s.data.toList=some (ns,t.data.toList)/\e=.returned (.tuple #[])/\bp w' p t/\ba w'/\Q ns w')\/(aH n s.data.toList=none/\lI e))
set_option maxHeartbeats 2000000 in
theorem qP (p lo:Nat) (a:Option Addr) (n c:Nat) (s:ByteArray) (T:Nat->Nat×Nat) (Q:List Int->World->Prop) (w:World) (h:bp w p s) (g:ba w) (hP:sR p lo a n T Q) (hQ:Q [] w) (hpl:p<lo) (hn:n<=100):
  Calls Tryz.prog 74 #[.pointer (some ⟨p,0,none⟩),.slice a n c] w fun e w'=>rM w p lo s n Q e w':=by
 have H0:Hid (bp w p s/\ba w/\Q [] w):=⟨h,g,hQ⟩
 have HP:Hid (sR p lo a n T Q):=hP
 have h7:7<=p:=h.2.2.1
 clear h g hP hQ
 go_enter Tryz.func74,Tryz.ntmps74
 go_wp2
 go_loopw[8] (fun i wr=>∃(k:Nat) (t:ByteArray) (pre:List Int),k<=n/\i=.int .i64 k/\Hid (lH n s.data.toList k pre t.data.toList)/\Hid (bp wr p t/\ba wr/\Q pre wr/\ft p lo w wr)) (fun i _=>n-(intOf i).toNat)
 case atStart=>exact ⟨0,s,[],Nat.zero_le _,rfl,lH.start _ _,(⟨H0.out.1,H0.out.2.1,H0.out.2.2,ft.refl _ _ _⟩:bp w p s/\ba w/\Q [] w/\ft p lo w w)⟩
 case round=>
  obtain ⟨k,t,pre,hk,rfl,HN,H1⟩:=hrel
  by_cases hlt:k<n
  ·have hpk:Hid (pre.length=k):=HN.out.1
   obtain ⟨b,z0,ha,hc,_⟩:=HP.out.place pre wr H1.out.2.2.1 (by rw[hpk.out];exact hlt)
   subst ha
   obtain ⟨R,hR⟩:∃R,(T pre.length).1=R:=⟨_,rfl⟩
   obtain ⟨q,hq⟩:∃q,(T pre.length).2=q:=⟨_,rfl⟩
   have HRQ:Hid ((T pre.length).1=R/\(T pre.length).2=q):=⟨hR,hq⟩
   rw[hR,hq,hpk.out] at hc
   clear hR hq
   go_wp2_with fail
   refine (oQ p t ⟨#[32]⟩ wr H1.out.1 H1.out.2.1 (fun hh=>by
    have:=f9 hh
    have hl:=congrArg List.length this
    rw[dB] at hl
    simp at hl
    show 1<=_
    omega)).mono ?_
   rintro e w1 ⟨S1,hor⟩
   rcases hor with ⟨hp1,rfl,R1⟩|⟨hp1,t9,p9,rfl⟩
   ·obtain ⟨u,hu⟩:∃u,t.extract 1 t.size=u:=⟨_,rfl⟩
    have HU:Hid (u.data.toList=t.data.toList.drop 1):=by show _=_;rw[←hu,ig,List.take_of_length_le (by simp)]
    have hu':t.extract (⟨#[32]⟩:ByteArray).size t.size=u:=hu
    rw[hu'] at R1
    have H2:Hid (bp w1 p u/\ba w1/\Q pre w1/\ft p lo w w1/\Lib.hasPrefix t.data.toList [32]=true):=⟨R1,H1.out.2.1.stp S1 h7,HP.out.keep _ _ _ H1.out.2.2.1 S1,H1.out.2.2.2.trans (ft.ofStp S1),hp1⟩
    have S1':Hid (an p wr w1):=S1
    clear S1 R1 hp1 hu hu'
    go_wp2_with fail
    refine (oy p u w1 H2.out.1 H2.out.2.1).mono ?_
    rintro e w2 ⟨S2,hor⟩
    rcases hor with ⟨m,v,hm,hv,rfl,R2⟩|⟨hm,t9,p9,rfl⟩
    ·have HN2:Hid (lH n s.data.toList (k+1) (pre++[m]) v.data.toList):=by
      have:=HN.out.step hlt H2.out.2.2.2.2 (m:=m) (by rw[←HU.out];exact dU hm)
      rw[hv,HU.out]
      exact this
     have Q2:=HP.out.keep _ _ _ H2.out.2.2.1 S2
     obtain ⟨b',z,ha',hc',hlo,hz,hfz,hQ⟩:=HP.out.place pre w2 Q2 (by rw[hpk.out];exact hlt)
     clear ha' hc'
     rw[HRQ.out.1,HRQ.out.2] at hz hfz hQ
     rw[HRQ.out.1] at hlo
     have H3:Hid (bp (w2.setCell ⟨R,q,none⟩ (.int .i64 m)) p v/\ba (w2.setCell ⟨R,q,none⟩ (.int .i64 m))/\Q (pre++[m]) (w2.setCell ⟨R,q,none⟩ (.int .i64 m))/\ft p lo w (w2.setCell ⟨R,q,none⟩ (.int .i64 m))):=⟨R2.far (by omega) _ _,(H2.out.2.1.stp S2 h7).far (by omega) _ _,hQ m,(H2.out.2.2.2.1.trans (ft.ofStp S2)).setCell hlo _ _⟩
     clear S2 R2 H2 hm hv HN HU Q2 hQ H1 HRQ hpk S1'
     go_wp2
     go_roundw
     case rel=>exact ⟨k+1,v,pre++[m],by omega,by go_num,HN2,H3⟩
     case measure=>simp[intOf];omega
    ·have FI:Hid (rM w p lo s n Q (.panicked [{v:=.iface t9 p9,recovered:=false}]) w2):=⟨H2.out.2.2.2.1.trans (ft.ofStp S2),Or.inr ⟨by
      refine HN.out.noNum hlt H2.out.2.2.2.2 ?_
      rw[←HU.out]
      cases hi:fd (bk u.data.toList) with
      | none=>rfl
      | some y=>exact absurd (jn hi) (hm y),t9,p9,rfl⟩⟩
     exact ⟨rfl,FI.out⟩
   ·have FI:Hid (rM w p lo s n Q (.panicked [{v:=.iface t9 p9,recovered:=false}]) w1):=⟨H1.out.2.2.2.trans (ft.ofStp S1),Or.inr ⟨HN.out.noBlank hlt hp1,t9,p9,rfl⟩⟩
    exact ⟨rfl,FI.out⟩
  ·obtain rfl:k=n:=by omega
   have FI:Hid (rM w p lo s k Q (.returned (.tuple #[])) wr):=⟨H1.out.2.2.2,Or.inl ⟨pre,t,HN.out.over,rfl,H1.out.1,H1.out.2.1,H1.out.2.2.1⟩⟩
   clear HN H1 H0
   go_wp2
   refine bodyPost_end (results_none rfl _ _ _) rfl ?_
   exact FI.out
end
end Go.Proofs.YtjhgchlfpolkcaaGreatDoor
