/- The program's tried. -/
import Derived.Test.YtghkbhggopiajaaGreatDoorChgsr
import Derived.Test.YtghkbhggopiajaaGreatDoorDeedr
import Derived.Test.YtghkbhggopiajaaGreatDoorDonesr
set_option maxHeartbeats 4000000
set_option maxRecDepth 8000
namespace Go.Proofs.YtghkbhggopiajaaGreatDoor
open Go.RowKit
theorem meth75 (v : Value) (w : World) : (Go.method 409 210 v "loop.example/g00362/impl.hindrance").run Tryz.prog w = .ok (232, v) w := by kernel_rfl
theorem meth77 (v : Value) (w : World) : (Go.method 409 212 v "loop.example/g00362/impl.hindrance").run Tryz.prog w = .ok (234, v) w := by kernel_rfl
theorem meth79 (v : Value) (w : World) : (Go.method 409 214 v "loop.example/g00362/impl.hindrance").run Tryz.prog w = .ok (235, v) w := by kernel_rfl
theorem meth81 (v : Value) (w : World) : (Go.method 409 216 v "loop.example/g00362/impl.hindrance").run Tryz.prog w = .ok (237, v) w := by kernel_rfl
theorem meth82 (v : Value) (w : World) : (Go.method 409 217 v "loop.example/g00362/impl.hindrance").run Tryz.prog w = .ok (238, v) w := by kernel_rfl
theorem meth84 (v : Value) (w : World) : (Go.method 409 219 v "loop.example/g00362/impl.hindrance").run Tryz.prog w = .ok (244, v) w := by kernel_rfl
theorem meth86 (v : Value) (w : World) : (Go.method 409 221 v "loop.example/g00362/impl.hindrance").run Tryz.prog w = .ok (245, v) w := by kernel_rfl
theorem meth88 (v : Value) (w : World) : (Go.method 409 223 v "loop.example/g00362/impl.hindrance").run Tryz.prog w = .ok (246, v) w := by kernel_rfl
theorem meth90 (v : Value) (w : World) : (Go.method 409 225 v "loop.example/g00362/impl.hindrance").run Tryz.prog w = .ok (247, v) w := by kernel_rfl
def TOut (p:Nat->Addr) (R:Int×List Acc) (w:World) (e:Ending) (w':World):Prop:=
 (R.1=0/\∃v,e=.returned (.tuple #[v,.nilIface])/\AL w' w.heap.size v R.2/\Below w.heap.size w w')\/
 (R.1≠0/\∃i g,g<7/\codeG g=R.1/\e=.returned (.tuple #[.slice none 0 0,refV p i g])/\Below w.heap.size w w')
theorem implOpOk_yes (k i t m r:Int) (w:World) (h:opOk k i t m r):
  Calls Tryz.prog 156 #[.agg #[.int .i64 k,.int .i64 i,.int .i64 t,.int .i64 m,.int .i64 r]] w fun e w'=>e=.returned (.bool true)/\Below w.heap.size w w':=
 (implOpOk_b k i t m r w).mono fun e w' ⟨⟨b,he,hb⟩,hB⟩=>⟨by cases b with|true=>exact he|false=>exact absurd h (hb.2 rfl),hB⟩
theorem implOpOk_no (k i t m r:Int) (w:World) (h:¬opOk k i t m r):
  Calls Tryz.prog 156 #[.agg #[.int .i64 k,.int .i64 i,.int .i64 t,.int .i64 m,.int .i64 r]] w fun e w'=>e=.returned (.bool false)/\Below w.heap.size w w':=
 (implOpOk_b k i t m r w).mono fun e w' ⟨⟨b,he,hb⟩,hB⟩=>⟨by cases b with|false=>exact he|true=>exact absurd (hb.1 rfl) h,hB⟩
theorem below_drewN {B:Nat} {w w':World} (h:Below B w w') (n:Nat):Below B w (w'.drewN n):=⟨h.os,h.tape,h.output,h.size,h.block⟩
theorem triedNo (a:Option Addr) (c:Nat) (L:List Acc) (k i t m r:Int) (p:Nat->Addr) (w:World) (hG:GE w p) (ho:¬opOk k i t m r):
  Calls Tryz.prog 149 #[.slice a L.length c,.agg #[.int .i64 k,.int .i64 i,.int .i64 t,.int .i64 m,.int .i64 r]] w fun e w'=>TOut p (2,L) w e w':=by
 obtain ⟨W,hW⟩:∃W,W=w.alloc (.cells #[.int .i64 k,.int .i64 i,.int .i64 t,.int .i64 m,.int .i64 r] 49):=⟨_,rfl⟩
 have OW:Hid (OpBox W w.heap.size k i t m r):=by rw[hW];exact OpBox.new w _ _ _ _ _ 49
 have BW:Hid (Below w.heap.size w W):=by rw[hW];exact (Below.refl _ _).alloc (Nat.le_refl _) _
 have GW:=hidOf (hG.below BW.out)
 have HO:=hidOf ho
 clear hG ho
 obtain ⟨o0,o1,o2,o3,o4,oz⟩:=OW.out
 go_enter Tryz.func149,Tryz.ntmps149
 go_upto_region 1 with fail
 rw[←hW]
 clear hW
 go_wp2_with fail
 refine (implOpOk_no k i t m r _ HO.out).mono ?_
 rintro e w1 ⟨rfl,B1⟩
 have S1:Hid (OpBox w1 w.heap.size k i t m r/\Below w.heap.size w w1/\GE w1 p):=⟨OW.out.below B1,BW.out.trans (B1.mono BW.out.size),GW.out.below B1⟩
 clear B1 o0 o1 o2 o3 o4 oz OW BW GW
 obtain ⟨o0,o1,o2,o3,o4,oz⟩:=S1.out.1
 have gv:=S1.out.2.2.var 0 (by omega)
 go_wp2_with fail
 go_quiet (fail)
 go_wp2
 go_ret2
 exact Or.inr ⟨(by decide:(2:Int)≠0),i,0,by omega,rfl,rfl,below_drewN S1.out.2.1 _⟩
open Go.RowKit
theorem triedG (T M:Nat) (d:Value) (a:Option Addr) (c:Nat) (L:List Acc) (k i t m r:Int) (p:Nat->Addr) (w:World) (h:Fo w a L.length (FL L)) (hG:GE w p) (ho:opOk k i t m r) (R:Int×List Acc) (hl:R.2.length<=1048576)
  (hd:∀W,Calls Tryz.prog 166 #[.agg #[.int .i64 k,.int .i64 i,.int .i64 t,.int .i64 m,.int .i64 r]] W fun e w'=>e=.returned (.iface T d)/\Below W.heap.size W w')
  (hm : ∀ W, (Go.method 409 T d "loop.example/g00362/impl.hindrance").run Tryz.prog W = .ok (M, d) W)
  (entered:∀args W,(callFunc M args).run Tryz.prog W=.ok (.enter M args) W)
  (hh:∀W,Fo W a L.length (FL L)->GE W p->Calls Tryz.prog M #[d,.slice a L.length c] W fun e w'=>HEnds p R.1 e/\Below W.heap.size W w')
  (hc:∀W,Fo W a L.length (FL L)->R.1=0->Calls Tryz.prog 167 #[.slice a L.length c,.iface T d] W fun e w'=>∃v,e=.returned v/\AL w' W.heap.size v R.2/\Below W.heap.size W w'):
  Calls Tryz.prog 149 #[.slice a L.length c,.agg #[.int .i64 k,.int .i64 i,.int .i64 t,.int .i64 m,.int .i64 r]] w fun e w'=>TOut p (finS L R) w e w':=by
 obtain ⟨W,hW⟩:∃W,W=w.alloc (.cells #[.int .i64 k,.int .i64 i,.int .i64 t,.int .i64 m,.int .i64 r] 49):=⟨_,rfl⟩
 have OW:Hid (OpBox W w.heap.size k i t m r):=by rw[hW];exact OpBox.new w _ _ _ _ _ 49
 have BW:Hid (Below w.heap.size w W):=by rw[hW];exact (Below.refl _ _).alloc (Nat.le_refl _) _
 have GW:=hidOf (hG.below BW.out)
 have HO:=hidOf ho
 have HF:=hidOf h
 have HD:Hid (∀W,Calls Tryz.prog 166 #[.agg #[.int .i64 k,.int .i64 i,.int .i64 t,.int .i64 m,.int .i64 r]] W fun e w'=>e=.returned (.iface T d)/\Below W.heap.size W w'):=hd
 have HH:Hid (∀W,Fo W a L.length (FL L)->GE W p->Calls Tryz.prog M #[d,.slice a L.length c] W fun e w'=>HEnds p R.1 e/\Below W.heap.size W w'):=hh
 have HC:Hid (∀W,Fo W a L.length (FL L)->R.1=0->Calls Tryz.prog 167 #[.slice a L.length c,.iface T d] W fun e w'=>∃v,e=.returned v/\AL w' W.heap.size v R.2/\Below W.heap.size W w'):=hc
 clear hG ho hd hh hc h
 obtain ⟨o0,o1,o2,o3,o4,oz⟩:=OW.out
 go_enter Tryz.func149,Tryz.ntmps149
 go_upto_region 1 with fail
 rw[←hW]
 clear hW
 go_wp2_with fail
 refine (implOpOk_yes k i t m r _ HO.out).mono ?_
 rintro e w1 ⟨rfl,B1⟩
 have S1:Hid (OpBox w1 w.heap.size k i t m r/\Below w.heap.size w w1/\GE w1 p):=⟨OW.out.below B1,BW.out.trans (B1.mono BW.out.size),GW.out.below B1⟩
 clear B1 o0 o1 o2 o3 o4 oz OW BW GW
 obtain ⟨o0,o1,o2,o3,o4,oz⟩:=S1.out.1
 go_wp2_with fail
 refine (HD.out _).mono ?_
 rintro e w2 ⟨rfl,B2⟩
 have S2:Hid (OpBox w2 w.heap.size k i t m r/\Below w.heap.size w w2/\GE w2 p):=⟨S1.out.1.below B2,S1.out.2.1.trans (B2.mono S1.out.2.1.size),S1.out.2.2.below B2⟩
 clear B2 o0 o1 o2 o3 o4 oz S1
 go_wp2_with fail
 refine (HH.out _ (HF.out.below S2.out.2.1) S2.out.2.2).mono ?_
 rintro e w3 ⟨E3,B3⟩
 have S3:Hid (OpBox w3 w.heap.size k i t m r/\Below w.heap.size w w3/\GE w3 p):=⟨S2.out.1.below B3,S2.out.2.1.trans (B3.mono S2.out.2.1.size),S2.out.2.2.below B3⟩
 clear B3 S2
 rcases E3 with ⟨h0,rfl⟩|⟨x,g,hg,hcg,hne,rfl⟩
 ·have H0:Hid (R.1=0):=h0
  clear h0
  go_wp2_with fail
  refine (HC.out _ (HF.out.below S3.out.2.1) H0.out).mono ?_
  rintro e w4 ⟨v,rfl,A4,B4⟩
  have S4:Hid (OpBox w4 w.heap.size k i t m r/\Below w.heap.size w w4/\GE w4 p/\AL w4 w.heap.size v R.2):=⟨S3.out.1.below B4,S3.out.2.1.trans (B4.mono S3.out.2.1.size),S3.out.2.2.below B4,A4.mono S3.out.2.1.size⟩
  obtain ⟨va,vc,hv⟩:=A4.len
  obtain ⟨n',hn'⟩:∃n',n'=R.2.length:=⟨_,rfl⟩
  rw[←hn'] at hv
  have FV:Hid (Fo w4 va n' (FL R.2)):=by
   have:=S4.out.2.2.2
   rw[hv] at this
   exact (this.fo hl).2
  subst hv
  have N':=hidOf hn'
  clear A4 B4 hn' S3
  by_cases hr:Right (FL R.2) R.2.length
  ·have HR:Hid (Right (FL R.2) n'):=by rw[N'.out];exact hr
   have EF:Hid (finS L R=R):=(by unfold finS;rw[if_pos H0.out,if_pos hr]:finS L R=R)
   clear hr
   go_wp2_with fail
   refine (implOk_yes va n' vc (FL R.2) _ FV.out HR.out).mono ?_
   rintro e w5 ⟨rfl,B5⟩
   have S5:Hid (Below w.heap.size w w5/\AL w5 w.heap.size (.slice va n' vc) R.2):=⟨S4.out.2.1.trans (B5.mono S4.out.2.1.size),S4.out.2.2.2.kept B5⟩
   clear B5 S4
   go_wp2
   go_ret2
   rw[EF.out]
   exact Or.inl ⟨H0.out,_,rfl,S5.out.2,S5.out.1⟩
  ·have HR:Hid (¬Right (FL R.2) n'):=by rw[N'.out];exact hr
   have EF:Hid (finS L R=(7,L)):=(by unfold finS;rw[if_pos H0.out,if_neg hr]:finS L R=(7,L))
   clear hr
   go_wp2_with fail
   refine (implOk_no va n' vc (FL R.2) _ FV.out HR.out).mono ?_
   rintro e w5 ⟨rfl,B5⟩
   have S5:Hid (OpBox w5 w.heap.size k i t m r/\Below w.heap.size w w5/\GE w5 p):=⟨S4.out.1.below B5,S4.out.2.1.trans (B5.mono S4.out.2.1.size),S4.out.2.2.1.below B5⟩
   clear B5 S4
   obtain ⟨o0,o1,o2,o3,o4,oz⟩:=S5.out.1
   have gv:=S5.out.2.2.var 1 (by omega)
   go_wp2_with fail
   go_quiet (fail)
   go_wp2
   go_ret2
   rw[EF.out]
   exact Or.inr ⟨(by decide:(7:Int)≠0),i,1,by omega,rfl,rfl,below_drewN S5.out.2.1 _⟩
 ·have EF:Hid (finS L R=(R.1,L)):=(by unfold finS;rw[if_neg hne]:finS L R=(R.1,L))
  have HX:Hid (g<7/\codeG g=R.1/\R.1≠0):=⟨hg,hcg,hne⟩
  unfold refV
  clear hne hcg hg
  go_wp2
  go_ret2
  rw[EF.out]
  exact Or.inr ⟨HX.out.2.2,x,g,HX.out.1,HX.out.2.1,rfl,S3.out.2.1⟩
open Go.RowKit
theorem bal_in {L:List Acc} (hR:Right (FL L) L.length) {j:Nat} (hj:j<L.length): -1000000000000<=(FL L j).balance/\(FL L j).balance<=1000000000000:=((okS_iff _).1 (hR.2.1 j hj)).1.2.2.2.1
theorem tri2 (a:Option Addr) (c:Nat) (L:List Acc) (i t m r:Int) (p:Nat->Addr) (w:World) (h:Fo w a L.length (FL L)) (hR:Right (FL L) L.length) (hG:GE w p) (ho:opOk 2 i t m r):
  Calls Tryz.prog 149 #[.slice a L.length c,.agg #[.int .i64 2,.int .i64 i,.int .i64 t,.int .i64 m,.int .i64 r]] w fun e w'=>TOut p (finS L (partS L 2 i t m r)) w e w':=by
 have hl:(partS L 2 i t m r).2.length<=1048576:=by have h1:=partS_len L 2 i t m r;have h2:=hR.1;omega
 refine triedG 212 234 (.agg #[.int .i64 i,.bool true]) a c L 2 i t m r p w h hG ho (partS L 2 i t m r) hl (fun W=>deed2 i t m r W) (fun W=>meth77 _ W) (enters_of Tryz.func234 (by kernel_rfl) rfl) (fun W hF hG'=>hFrost2 a c L i t m r p W hF hR hG') (fun W hF h0=>?_)
 cases hp:place (FL L) L.length i with
 | none=>simp[partS,hp] at h0
 | some j=>
  have hj:=(place_some hp).1
  have e:partS L 2 i t m r=actS L j 2 m:=by simp[partS,hp]
  rw[e] at h0 ⊢
  cases hf:(FL L j).frozen with
  | true=>simp[actS,hf] at h0
  | false=>
   have e2:(actS L j 2 m).2=L.set j {FL L j with frozen:=true}:=by simp[actS,hf]
   rw[e2]
   exact chgFrost a c L i true j W hF hp
theorem tri3 (a:Option Addr) (c:Nat) (L:List Acc) (i t m r:Int) (p:Nat->Addr) (w:World) (h:Fo w a L.length (FL L)) (hR:Right (FL L) L.length) (hG:GE w p) (ho:opOk 3 i t m r):
  Calls Tryz.prog 149 #[.slice a L.length c,.agg #[.int .i64 3,.int .i64 i,.int .i64 t,.int .i64 m,.int .i64 r]] w fun e w'=>TOut p (finS L (partS L 3 i t m r)) w e w':=by
 have hl:(partS L 3 i t m r).2.length<=1048576:=by have h1:=partS_len L 3 i t m r;have h2:=hR.1;omega
 refine triedG 212 234 (.agg #[.int .i64 i,.bool false]) a c L 3 i t m r p w h hG ho (partS L 3 i t m r) hl (fun W=>deed3 i t m r W) (fun W=>meth77 _ W) (enters_of Tryz.func234 (by kernel_rfl) rfl) (fun W hF hG'=>hFrost3 a c L i t m r p W hF hR hG') (fun W hF h0=>?_)
 cases hp:place (FL L) L.length i with
 | none=>simp[partS,hp] at h0
 | some j=>
  have hj:=(place_some hp).1
  have e:partS L 3 i t m r=actS L j 3 m:=by simp[partS,hp]
  rw[e] at h0 ⊢
  cases hf:(FL L j).frozen with
  | false=>simp[actS,hf] at h0
  | true=>
   have e2:(actS L j 3 m).2=L.set j {FL L j with frozen:=false}:=by simp[actS,hf]
   rw[e2]
   exact chgFrost a c L i false j W hF hp
theorem tri4 (a:Option Addr) (c:Nat) (L:List Acc) (i t m r:Int) (p:Nat->Addr) (w:World) (h:Fo w a L.length (FL L)) (hR:Right (FL L) L.length) (hG:GE w p) (ho:opOk 4 i t m r):
  Calls Tryz.prog 149 #[.slice a L.length c,.agg #[.int .i64 4,.int .i64 i,.int .i64 t,.int .i64 m,.int .i64 r]] w fun e w'=>TOut p (finS L (partS L 4 i t m r)) w e w':=by
 have hl:(partS L 4 i t m r).2.length<=1048576:=by have h1:=partS_len L 4 i t m r;have h2:=hR.1;omega
 refine triedG 214 235 (.agg #[.int .i64 i]) a c L 4 i t m r p w h hG ho (partS L 4 i t m r) hl (fun W=>deed4 i t m r W) (fun W=>meth79 _ W) (enters_of Tryz.func235 (by kernel_rfl) rfl) (fun W hF hG'=>hClose a c L i t m r p W hF hR hG') (fun W hF h0=>?_)
 cases hp:place (FL L) L.length i with
 | none=>simp[partS,hp] at h0
 | some j=>
  have hj:=(place_some hp).1
  have e:partS L 4 i t m r=actS L j 4 m:=by simp[partS,hp]
  rw[e] at h0 ⊢
  cases hf:(FL L j).frozen with
  | true=>simp[actS,hf] at h0
  | false=>
   have e1:actS L j 4 m=closeS L j:=by simp[actS,hf]
   rw[e1] at h0 ⊢
   unfold closeS at h0 ⊢
   split at h0
   ·simp at h0
   ·rename_i hcd
    rw[if_neg hcd]
    exact chgClose a c L i j W hF hp
theorem tri5 (a:Option Addr) (c:Nat) (L:List Acc) (i t m r:Int) (p:Nat->Addr) (w:World) (h:Fo w a L.length (FL L)) (hR:Right (FL L) L.length) (hG:GE w p) (ho:opOk 5 i t m r):
  Calls Tryz.prog 149 #[.slice a L.length c,.agg #[.int .i64 5,.int .i64 i,.int .i64 t,.int .i64 m,.int .i64 r]] w fun e w'=>TOut p (finS L (partS L 5 i t m r)) w e w':=by
 have hl:(partS L 5 i t m r).2.length<=1048576:=by have h1:=partS_len L 5 i t m r;have h2:=hR.1;omega
 refine triedG 216 237 (.agg #[.int .i64 i,.int .i64 m]) a c L 5 i t m r p w h hG ho (partS L 5 i t m r) hl (fun W=>deed5 i t m r W) (fun W=>meth81 _ W) (enters_of Tryz.func237 (by kernel_rfl) rfl) (fun W hF hG'=>hPut a c L i t m r p W hF hR hG') (fun W hF h0=>?_)
 cases hp:place (FL L) L.length i with
 | none=>simp[partS,hp] at h0
 | some j=>
  have hj:=(place_some hp).1
  have e:partS L 5 i t m r=actS L j 5 m:=by simp[partS,hp]
  rw[e] at h0 ⊢
  cases hf:(FL L j).frozen with
  | true=>simp[actS,hf] at h0
  | false=>
   have e2:(actS L j 5 m).2=L.set j {FL L j with balance:=(FL L j).balance+m}:=by simp[actS,hf]
   rw[e2]
   have hb:=bal_in hR hj
   unfold opOk at ho
   exact chgPut a c L i m j W hF hp (by omega) (by omega) hb.1 hb.2
theorem tri6 (a:Option Addr) (c:Nat) (L:List Acc) (i t m r:Int) (p:Nat->Addr) (w:World) (h:Fo w a L.length (FL L)) (hR:Right (FL L) L.length) (hG:GE w p) (ho:opOk 6 i t m r):
  Calls Tryz.prog 149 #[.slice a L.length c,.agg #[.int .i64 6,.int .i64 i,.int .i64 t,.int .i64 m,.int .i64 r]] w fun e w'=>TOut p (finS L (partS L 6 i t m r)) w e w':=by
 have hl:(partS L 6 i t m r).2.length<=1048576:=by have h1:=partS_len L 6 i t m r;have h2:=hR.1;omega
 refine triedG 217 238 (.agg #[.int .i64 i,.int .i64 m]) a c L 6 i t m r p w h hG ho (partS L 6 i t m r) hl (fun W=>deed6 i t m r W) (fun W=>meth82 _ W) (enters_of Tryz.func238 (by kernel_rfl) rfl) (fun W hF hG'=>hTake a c L i t m r p W hF hR hG') (fun W hF h0=>?_)
 cases hp:place (FL L) L.length i with
 | none=>simp[partS,hp] at h0
 | some j=>
  have hj:=(place_some hp).1
  have e:partS L 6 i t m r=actS L j 6 m:=by simp[partS,hp]
  rw[e] at h0 ⊢
  cases hf:(FL L j).frozen with
  | true=>simp[actS,hf] at h0
  | false=>
   have e1:actS L j 6 m=takeS L j m:=by simp[actS,hf]
   rw[e1] at h0 ⊢
   unfold takeS at h0 ⊢
   split at h0
   ·simp at h0
   ·rename_i hcd
    rw[if_neg hcd]
    have hb:=bal_in hR hj
    unfold opOk at ho
    exact chgTake a c L i m j W hF hp (by omega) (by omega) hb.1 hb.2
theorem tri8 (a:Option Addr) (c:Nat) (L:List Acc) (i t m r:Int) (p:Nat->Addr) (w:World) (h:Fo w a L.length (FL L)) (hR:Right (FL L) L.length) (hG:GE w p) (ho:opOk 8 i t m r):
  Calls Tryz.prog 149 #[.slice a L.length c,.agg #[.int .i64 8,.int .i64 i,.int .i64 t,.int .i64 m,.int .i64 r]] w fun e w'=>TOut p (finS L (partS L 8 i t m r)) w e w':=by
 have hl:(partS L 8 i t m r).2.length<=1048576:=by have h1:=partS_len L 8 i t m r;have h2:=hR.1;omega
 refine triedG 221 245 (.agg #[.int .i64 i,.int .i64 m]) a c L 8 i t m r p w h hG ho (partS L 8 i t m r) hl (fun W=>deed8 i t m r W) (fun W=>meth86 _ W) (enters_of Tryz.func245 (by kernel_rfl) rfl) (fun W hF hG'=>hLimit a c L i t m r p W hF hR hG' (by unfold opOk at ho;omega)) (fun W hF h0=>?_)
 cases hp:place (FL L) L.length i with
 | none=>simp[partS,hp] at h0
 | some j=>
  have hj:=(place_some hp).1
  have e:partS L 8 i t m r=actS L j 8 m:=by simp[partS,hp]
  rw[e] at h0 ⊢
  have e1:actS L j 8 m=(if (FL L j).up=0/\m<0 then (8,L) else (0,L.set j {FL L j with limit:=m})):=by simp[actS]
  rw[e1] at h0 ⊢
  split at h0
  ·simp at h0
  ·rename_i hcd
   rw[if_neg hcd]
   exact chgLimit a c L i m j W hF hp
theorem tri10 (a:Option Addr) (c:Nat) (L:List Acc) (i t m r:Int) (p:Nat->Addr) (w:World) (h:Fo w a L.length (FL L)) (hR:Right (FL L) L.length) (hG:GE w p) (ho:opOk 10 i t m r):
  Calls Tryz.prog 149 #[.slice a L.length c,.agg #[.int .i64 10,.int .i64 i,.int .i64 t,.int .i64 m,.int .i64 r]] w fun e w'=>TOut p (finS L (partS L 10 i t m r)) w e w':=by
 have hl:(partS L 10 i t m r).2.length<=1048576:=by have h1:=partS_len L 10 i t m r;have h2:=hR.1;omega
 refine triedG 223 246 (.agg #[.int .i64 i,.int .i64 m]) a c L 10 i t m r p w h hG ho (partS L 10 i t m r) hl (fun W=>deed10 i t m r W) (fun W=>meth88 _ W) (enters_of Tryz.func246 (by kernel_rfl) rfl) (fun W hF hG'=>hTarget a c L i t m r p W hF hR hG') (fun W hF h0=>?_)
 cases hp:place (FL L) L.length i with
 | none=>simp[partS,hp] at h0
 | some j=>
  have hj:=(place_some hp).1
  have e:partS L 10 i t m r=actS L j 10 m:=by simp[partS,hp]
  rw[e] at h0 ⊢
  have e1:actS L j 10 m=(if (FL L j).up=0 then (8,L) else (0,L.set j {FL L j with target:=m})):=by simp[actS]
  rw[e1] at h0 ⊢
  split at h0
  ·simp at h0
  ·rename_i hcd
   rw[if_neg hcd]
   exact chgTarget a c L i m j W hF hp
theorem tri7 (a:Option Addr) (c:Nat) (L:List Acc) (i t m r:Int) (p:Nat->Addr) (w:World) (h:Fo w a L.length (FL L)) (hR:Right (FL L) L.length) (hG:GE w p) (ho:opOk 7 i t m r):
  Calls Tryz.prog 149 #[.slice a L.length c,.agg #[.int .i64 7,.int .i64 i,.int .i64 t,.int .i64 m,.int .i64 r]] w fun e w'=>TOut p (finS L (partS L 7 i t m r)) w e w':=by
 have hl:(partS L 7 i t m r).2.length<=1048576:=by have h1:=partS_len L 7 i t m r;have h2:=hR.1;omega
 refine triedG 219 244 (.agg #[.int .i64 i,.int .i64 t,.int .i64 m]) a c L 7 i t m r p w h hG ho (partS L 7 i t m r) hl (fun W=>deed7 i t m r W) (fun W=>meth84 _ W) (enters_of Tryz.func244 (by kernel_rfl) rfl) (fun W hF hG'=>hPay a c L i t m r p W hF hR hG') (fun W hF h0=>?_)
 cases hp:place (FL L) L.length i with
 | none=>simp[partS,hp] at h0
 | some j=>
  have hj:=(place_some hp).1
  cases hq:place (FL L) L.length t with
  | none=>simp[partS,hp,hq] at h0
  | some q=>
   have hql:=(place_some hq).1
   have e:partS L 7 i t m r=payS L j q m:=by simp[partS,hp,hq]
   rw[e] at h0 ⊢
   unfold payS at h0 ⊢
   split at h0
   ·simp at h0
   ·rename_i hc1
    rw[if_neg hc1]
    split at h0
    ·simp at h0
    ·rename_i hc2
     rw[if_neg hc2]
     have hb:=bal_in hR hj
     have hb2:=bal_in hR hql
     have hne:j≠q:=fun e=>by
      have e1:=(place_some hp).2
      have e2:=(place_some hq).2
      subst e
      unfold opOk at ho
      omega
     unfold opOk at ho
     exact chgPay a c L i t m j q W hF hp hq hne (by omega) (by omega) hb.1 hb.2 hb2.1 hb2.2
theorem tri9 (a:Option Addr) (c:Nat) (L:List Acc) (i t m r:Int) (p:Nat->Addr) (w:World) (h:Fo w a L.length (FL L)) (hR:Right (FL L) L.length) (hG:GE w p) (ho:opOk 9 i t m r):
  Calls Tryz.prog 149 #[.slice a L.length c,.agg #[.int .i64 9,.int .i64 i,.int .i64 t,.int .i64 m,.int .i64 r]] w fun e w'=>TOut p (finS L (partS L 9 i t m r)) w e w':=by
 have hl:(partS L 9 i t m r).2.length<=1048576:=by have h1:=partS_len L 9 i t m r;have h2:=hR.1;omega
 refine triedG 225 247 (.agg #[.int .i64 i,.int .i64 t]) a c L 9 i t m r p w h hG ho (partS L 9 i t m r) hl (fun W=>deed9 i t m r W) (fun W=>meth90 _ W) (enters_of Tryz.func247 (by kernel_rfl) rfl) (fun W hF hG'=>hHang a c L i t m r p W hF hR hG') (fun W hF h0=>?_)
 cases hp:place (FL L) L.length i with
 | none=>simp[partS,hp] at h0
 | some j=>
  have hj:=(place_some hp).1
  cases hq:place (FL L) L.length t with
  | none=>simp[partS,hp,hq] at h0
  | some q=>
   have hql:=(place_some hq).1
   have e:partS L 9 i t m r=hangS L j q ((place (FL L) L.length (FL L j).up).getD 0):=by simp[partS,hp,hq]
   rw[e] at h0 ⊢
   unfold hangS at h0 ⊢
   split at h0
   ·simp at h0
   ·rename_i hc1
    rw[if_neg hc1]
    split at h0
    ·simp at h0
    ·rename_i hc2
     rw[if_neg hc2,(place_some hq).2]
     exact chgHang a c L i t j W hF hp
theorem tri1 (a:Option Addr) (c:Nat) (L:List Acc) (i t m r:Int) (p:Nat->Addr) (w:World) (h:Fo w a L.length (FL L)) (hR:Right (FL L) L.length) (hG:GE w p) (ho:opOk 1 i t m r):
  Calls Tryz.prog 149 #[.slice a L.length c,.agg #[.int .i64 1,.int .i64 i,.int .i64 t,.int .i64 m,.int .i64 r]] w fun e w'=>TOut p (finS L (partS L 1 i t m r)) w e w':=by
 have hl:(partS L 1 i t m r).2.length<=1048576:=by have h1:=partS_len L 1 i t m r;have h2:=hR.1;omega
 refine triedG 210 232 (.agg #[.int .i64 i,.int .i64 t,.int .i64 m,.int .i64 r,.int .i64 (-1),.bool false,.int .i64 0,.int .i64 0]) a c L 1 i t m r p w h hG ho (partS L 1 i t m r) hl (fun W=>deed1 i t m r W) (fun W=>meth75 _ W) (enters_of Tryz.func232 (by kernel_rfl) rfl) (fun W hF hG'=>hOpen a c L i t m r p W hF hR hG') (fun W hF h0=>?_)
 have e:partS L 1 i t m r=openS L i t m r:=by simp[partS]
 rw[e] at h0 ⊢
 unfold openS at h0 ⊢
 split at h0
 ·simp at h0
 ·rename_i hc1
  rw[if_neg hc1]
  split at h0
  ·simp at h0
  ·rename_i hc2
   rw[if_neg hc2]
   refine chgOpen a c L i t m r W hF (fun j hj e=>hc1 ?_)
   rw[←e,place_self hR.2.2.1 hj]
   rfl
theorem tried (a:Option Addr) (c:Nat) (L:List Acc) (k i t m r:Int) (p:Nat->Addr) (w:World) (h:Fo w a L.length (FL L)) (hR:Right (FL L) L.length) (hG:GE w p):
  Calls Tryz.prog 149 #[.slice a L.length c,.agg #[.int .i64 k,.int .i64 i,.int .i64 t,.int .i64 m,.int .i64 r]] w fun e w'=>TOut p (doneS L k i t m r) w e w':=by
 unfold doneS
 by_cases ho:opOk k i t m r
 ·rw[if_pos ho]
  have hk:k=1\/k=2\/k=3\/k=4\/k=5\/k=6\/k=7\/k=8\/k=9\/k=10:=by have:=ho;unfold opOk at this;omega
  rcases hk with e|e|e|e|e|e|e|e|e|e <;>subst e
  ·exact tri1 a c L i t m r p w h hR hG ho
  ·exact tri2 a c L i t m r p w h hR hG ho
  ·exact tri3 a c L i t m r p w h hR hG ho
  ·exact tri4 a c L i t m r p w h hR hG ho
  ·exact tri5 a c L i t m r p w h hR hG ho
  ·exact tri6 a c L i t m r p w h hR hG ho
  ·exact tri7 a c L i t m r p w h hR hG ho
  ·exact tri8 a c L i t m r p w h hR hG ho
  ·exact tri9 a c L i t m r p w h hR hG ho
  ·exact tri10 a c L i t m r p w h hR hG ho
 ·rw[if_neg ho]
  exact triedNo a c L k i t m r p w hG ho
end Go.Proofs.YtghkbhggopiajaaGreatDoor
