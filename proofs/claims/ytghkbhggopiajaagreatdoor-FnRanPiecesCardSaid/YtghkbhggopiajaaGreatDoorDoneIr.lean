/- The program's tried. -/
import Derived.Test.YtghkbhggopiajaaGreatDoorChgsr
import Derived.Test.YtghkbhggopiajaaGreatDoorDeedr
import Derived.Test.YtghkbhggopiajaaGreatDoorDonesr
namespace Go.Proofs.YtghkbhggopiajaaGreatDoor
open Value renaming int → Ii,slice → Sl
open IntKind renaming i64 → Jj
open Go.Proofs.Tryz renaming prog → Pg
set_option maxHeartbeats 4000000
set_option maxRecDepth 8000
open Go.RowKit
theorem tB (v : Value) (w : World) : (Go.method 409 210 v "loop.example/g00362/impl.hindrance").run Pg w = .ok (232, v) w := by kernel_rfl
theorem rZ (v : Value) (w : World) : (Go.method 409 212 v "loop.example/g00362/impl.hindrance").run Pg w = .ok (234, v) w := by kernel_rfl
theorem tC (v : Value) (w : World) : (Go.method 409 214 v "loop.example/g00362/impl.hindrance").run Pg w = .ok (235, v) w := by kernel_rfl
theorem tD (v : Value) (w : World) : (Go.method 409 216 v "loop.example/g00362/impl.hindrance").run Pg w = .ok (237, v) w := by kernel_rfl
theorem tE (v : Value) (w : World) : (Go.method 409 217 v "loop.example/g00362/impl.hindrance").run Pg w = .ok (238, v) w := by kernel_rfl
theorem tF (v : Value) (w : World) : (Go.method 409 219 v "loop.example/g00362/impl.hindrance").run Pg w = .ok (244, v) w := by kernel_rfl
theorem tG (v : Value) (w : World) : (Go.method 409 221 v "loop.example/g00362/impl.hindrance").run Pg w = .ok (245, v) w := by kernel_rfl
theorem tH (v : Value) (w : World) : (Go.method 409 223 v "loop.example/g00362/impl.hindrance").run Pg w = .ok (246, v) w := by kernel_rfl
theorem tI (v : Value) (w : World) : (Go.method 409 225 v "loop.example/g00362/impl.hindrance").run Pg w = .ok (247, v) w := by kernel_rfl
def iv (p:Nat->Addr) (R:Int×List aj) (w:World) (e:Ending) (w':World):Prop:=
 (R.1=0/\∃v,e=.returned (.tuple #[v,.nilIface])/\AL w' w.heap.size v R.2/\Below w.heap.size w w')\/
 (R.1≠0/\∃i g,g<7/\aF g=R.1/\e=.returned (.tuple #[Sl none 0 0,jn p i g])/\Below w.heap.size w w')
theorem m0 (k i t m r:Int) (w:World) (h:az k i t m r):
  Calls Pg 156 #[.agg #[Ii Jj k,Ii Jj i,Ii Jj t,Ii Jj m,Ii Jj r]] w fun e w'=>e=.returned (.bool true)/\Below w.heap.size w w':=
 (gw k i t m r w).mono fun e w' ⟨⟨b,he,hb⟩,hB⟩=>⟨by cases b with|true=>exact he|false=>exact absurd h (hb.2 rfl),hB⟩
theorem nY (k i t m r:Int) (w:World) (h:¬az k i t m r):
  Calls Pg 156 #[.agg #[Ii Jj k,Ii Jj i,Ii Jj t,Ii Jj m,Ii Jj r]] w fun e w'=>e=.returned (.bool false)/\Below w.heap.size w w':=
 (gw k i t m r w).mono fun e w' ⟨⟨b,he,hb⟩,hB⟩=>⟨by cases b with|false=>exact he|true=>exact absurd (hb.1 rfl) h,hB⟩
theorem below_drewN {B:Nat} {w w':World} (h:Below B w w') (n:Nat):Below B w (w'.drewN n):=⟨h.os,h.tape,h.output,h.size,h.block⟩
theorem sU (a:Option Addr) (c:Nat) (L:List aj) (k i t m r:Int) (p:Nat->Addr) (w:World) (hG:GE w p) (ho:¬az k i t m r):
  Calls Pg 149 #[Sl a L.length c,.agg #[Ii Jj k,Ii Jj i,Ii Jj t,Ii Jj m,Ii Jj r]] w fun e w'=>iv p (2,L) w e w':=by
 obtain ⟨W,hW⟩:∃W,W=w.alloc (.cells #[Ii Jj k,Ii Jj i,Ii Jj t,Ii Jj m,Ii Jj r] 49):=⟨_,rfl⟩
 have OW:Hid (aN W w.heap.size k i t m r):=by rw[hW];exact aN.new w _ _ _ _ _ 49
 have BW:Hid (Below w.heap.size w W):=by rw[hW];exact (Below.refl _ _).alloc (Nat.le_refl _) _
 have GW:=aa (hG.below BW.out)
 have HO:=aa ho
 clear hG ho
 obtain ⟨o0,o1,o2,o3,o4,oz⟩:=OW.out
 go_enter Tryz.func149,Tryz.ntmps149
 go_upto_region 1 with fail
 rw[←hW]
 clear hW
 go_wp2_with fail
 refine (nY k i t m r _ HO.out).mono ?_
 rintro e w1 ⟨rfl,B1⟩
 have S1:Hid (aN w1 w.heap.size k i t m r/\Below w.heap.size w w1/\GE w1 p):=⟨OW.out.below B1,BW.out.trans (B1.mono BW.out.size),GW.out.below B1⟩
 clear B1 o0 o1 o2 o3 o4 oz OW BW GW
 obtain ⟨o0,o1,o2,o3,o4,oz⟩:=S1.out.1
 have gv:=S1.out.2.2.var 0 (by omega)
 go_wp2_with fail
 go_quiet (fail)
 go_wp2
 go_ret2
 exact Or.inr ⟨(by decide:(2:Int)≠0),i,0,by omega,rfl,rfl,below_drewN S1.out.2.1 _⟩
theorem eV (T M:Nat) (d:Value) (a:Option Addr) (c:Nat) (L:List aj) (k i t m r:Int) (p:Nat->Addr) (w:World) (h:Fo w a L.length (FL L)) (hG:GE w p) (ho:az k i t m r) (R:Int×List aj) (hl:R.2.length<=1048576)
  (hd:∀W,Calls Pg 166 #[.agg #[Ii Jj k,Ii Jj i,Ii Jj t,Ii Jj m,Ii Jj r]] W fun e w'=>e=.returned (.iface T d)/\Below W.heap.size W w')
  (hm : ∀ W, (Go.method 409 T d "loop.example/g00362/impl.hindrance").run Pg W = .ok (M, d) W)
  (entered:∀args W,(callFunc M args).run Pg W=.ok (.enter M args) W)
  (hh:∀W,Fo W a L.length (FL L)->GE W p->Calls Pg M #[d,Sl a L.length c] W fun e w'=>aM p R.1 e/\Below W.heap.size W w')
  (hc:∀W,Fo W a L.length (FL L)->R.1=0->Calls Pg 167 #[Sl a L.length c,.iface T d] W fun e w'=>∃v,e=.returned v/\AL w' W.heap.size v R.2/\Below W.heap.size W w'):
  Calls Pg 149 #[Sl a L.length c,.agg #[Ii Jj k,Ii Jj i,Ii Jj t,Ii Jj m,Ii Jj r]] w fun e w'=>iv p (bm L R) w e w':=by
 obtain ⟨W,hW⟩:∃W,W=w.alloc (.cells #[Ii Jj k,Ii Jj i,Ii Jj t,Ii Jj m,Ii Jj r] 49):=⟨_,rfl⟩
 have OW:Hid (aN W w.heap.size k i t m r):=by rw[hW];exact aN.new w _ _ _ _ _ 49
 have BW:Hid (Below w.heap.size w W):=by rw[hW];exact (Below.refl _ _).alloc (Nat.le_refl _) _
 have GW:=aa (hG.below BW.out)
 have HO:=aa ho
 have HF:=aa h
 have HD:Hid (∀W,Calls Pg 166 #[.agg #[Ii Jj k,Ii Jj i,Ii Jj t,Ii Jj m,Ii Jj r]] W fun e w'=>e=.returned (.iface T d)/\Below W.heap.size W w'):=hd
 have HH:Hid (∀W,Fo W a L.length (FL L)->GE W p->Calls Pg M #[d,Sl a L.length c] W fun e w'=>aM p R.1 e/\Below W.heap.size W w'):=hh
 have HC:Hid (∀W,Fo W a L.length (FL L)->R.1=0->Calls Pg 167 #[Sl a L.length c,.iface T d] W fun e w'=>∃v,e=.returned v/\AL w' W.heap.size v R.2/\Below W.heap.size W w'):=hc
 clear hG ho hd hh hc h
 obtain ⟨o0,o1,o2,o3,o4,oz⟩:=OW.out
 go_enter Tryz.func149,Tryz.ntmps149
 go_upto_region 1 with fail
 rw[←hW]
 clear hW
 go_wp2_with fail
 refine (m0 k i t m r _ HO.out).mono ?_
 rintro e w1 ⟨rfl,B1⟩
 have S1:Hid (aN w1 w.heap.size k i t m r/\Below w.heap.size w w1/\GE w1 p):=⟨OW.out.below B1,BW.out.trans (B1.mono BW.out.size),GW.out.below B1⟩
 clear B1 o0 o1 o2 o3 o4 oz OW BW GW
 obtain ⟨o0,o1,o2,o3,o4,oz⟩:=S1.out.1
 go_wp2_with fail
 refine (HD.out _).mono ?_
 rintro e w2 ⟨rfl,B2⟩
 have S2:Hid (aN w2 w.heap.size k i t m r/\Below w.heap.size w w2/\GE w2 p):=⟨S1.out.1.below B2,S1.out.2.1.trans (B2.mono S1.out.2.1.size),S1.out.2.2.below B2⟩
 clear B2 o0 o1 o2 o3 o4 oz S1
 go_wp2_with fail
 refine (HH.out _ (HF.out.below S2.out.2.1) S2.out.2.2).mono ?_
 rintro e w3 ⟨E3,B3⟩
 have S3:Hid (aN w3 w.heap.size k i t m r/\Below w.heap.size w w3/\GE w3 p):=⟨S2.out.1.below B3,S2.out.2.1.trans (B3.mono S2.out.2.1.size),S2.out.2.2.below B3⟩
 clear B3 S2
 rcases E3 with ⟨h0,rfl⟩|⟨x,g,hg,hcg,hne,rfl⟩
 ·have H0:Hid (R.1=0):=h0
  clear h0
  go_wp2_with fail
  refine (HC.out _ (HF.out.below S3.out.2.1) H0.out).mono ?_
  rintro e w4 ⟨v,rfl,A4,B4⟩
  have S4:Hid (aN w4 w.heap.size k i t m r/\Below w.heap.size w w4/\GE w4 p/\AL w4 w.heap.size v R.2):=⟨S3.out.1.below B4,S3.out.2.1.trans (B4.mono S3.out.2.1.size),S3.out.2.2.below B4,A4.mono S3.out.2.1.size⟩
  obtain ⟨va,vc,hv⟩:=A4.len
  obtain ⟨n',hn'⟩:∃n',n'=R.2.length:=⟨_,rfl⟩
  rw[←hn'] at hv
  have FV:Hid (Fo w4 va n' (FL R.2)):=by
   have:=S4.out.2.2.2
   rw[hv] at this
   exact (this.fo hl).2
  subst hv
  have N':=aa hn'
  clear A4 B4 hn' S3
  by_cases hr:al (FL R.2) R.2.length
  ·have HR:Hid (al (FL R.2) n'):=by rw[N'.out];exact hr
   have EF:Hid (bm L R=R):=(by unfold bm;rw[if_pos H0.out,if_pos hr]:bm L R=R)
   clear hr
   go_wp2_with fail
   refine (dt va n' vc (FL R.2) _ FV.out HR.out).mono ?_
   rintro e w5 ⟨rfl,B5⟩
   have S5:Hid (Below w.heap.size w w5/\AL w5 w.heap.size (Sl va n' vc) R.2):=⟨S4.out.2.1.trans (B5.mono S4.out.2.1.size),S4.out.2.2.2.kept B5⟩
   clear B5 S4
   go_wp2
   go_ret2
   rw[EF.out]
   exact Or.inl ⟨H0.out,_,rfl,S5.out.2,S5.out.1⟩
  ·have HR:Hid (¬al (FL R.2) n'):=by rw[N'.out];exact hr
   have EF:Hid (bm L R=(7,L)):=(by unfold bm;rw[if_pos H0.out,if_neg hr]:bm L R=(7,L))
   clear hr
   go_wp2_with fail
   refine (i7 va n' vc (FL R.2) _ FV.out HR.out).mono ?_
   rintro e w5 ⟨rfl,B5⟩
   have S5:Hid (aN w5 w.heap.size k i t m r/\Below w.heap.size w w5/\GE w5 p):=⟨S4.out.1.below B5,S4.out.2.1.trans (B5.mono S4.out.2.1.size),S4.out.2.2.1.below B5⟩
   clear B5 S4
   obtain ⟨o0,o1,o2,o3,o4,oz⟩:=S5.out.1
   have gv:=S5.out.2.2.var 1 (by omega)
   go_wp2_with fail
   go_quiet (fail)
   go_wp2
   go_ret2
   rw[EF.out]
   exact Or.inr ⟨(by decide:(7:Int)≠0),i,1,by omega,rfl,rfl,below_drewN S5.out.2.1 _⟩
 ·have EF:Hid (bm L R=(R.1,L)):=(by unfold bm;rw[if_neg hne]:bm L R=(R.1,L))
  have HX:Hid (g<7/\aF g=R.1/\R.1≠0):=⟨hg,hcg,hne⟩
  unfold jn
  clear hne hcg hg
  go_wp2
  go_ret2
  rw[EF.out]
  exact Or.inr ⟨HX.out.2.2,x,g,HX.out.1,HX.out.2.1,rfl,S3.out.2.1⟩
theorem m7 {L:List aj} (hR:al (FL L) L.length) {j:Nat} (hj:j<L.length): -1000000000000<=(FL L j).balance/\(FL L j).balance<=1000000000000:=((iU _).1 (hR.2.1 j hj)).1.2.2.2.1
theorem vD (a:Option Addr) (c:Nat) (L:List aj) (i t m r:Int) (p:Nat->Addr) (w:World) (h:Fo w a L.length (FL L)) (hR:al (FL L) L.length) (hG:GE w p) (ho:az 2 i t m r):
  Calls Pg 149 #[Sl a L.length c,.agg #[Ii Jj 2,Ii Jj i,Ii Jj t,Ii Jj m,Ii Jj r]] w fun e w'=>iv p (bm L (ag L 2 i t m r)) w e w':=by
 have hl:(ag L 2 i t m r).2.length<=1048576:=by have h1:=bC L 2 i t m r;have h2:=hR.1;omega
 refine eV 212 234 (.agg #[Ii Jj i,.bool true]) a c L 2 i t m r p w h hG ho (ag L 2 i t m r) hl (fun W=>u7 i t m r W) (fun W=>rZ _ W) (enters_of Tryz.func234 (by kernel_rfl) rfl) (fun W hF hG'=>sP a c L i t m r p W hF hR hG') (fun W hF h0=>?_)
 cases hp:ao (FL L) L.length i with
 | none=>simp[ag,hp] at h0
 | some j=>
  have hj:=(ar hp).1
  have e:ag L 2 i t m r=aJ L j 2 m:=by simp[ag,hp]
  rw[e] at h0 ⊢
  cases hf:(FL L j).frozen with
  | true=>simp[aJ,hf] at h0
  | false=>
   have e2:(aJ L j 2 m).2=L.set j {FL L j with frozen:=true}:=by simp[aJ,hf]
   rw[e2]
   exact nx a c L i true j W hF hp
theorem vF (a:Option Addr) (c:Nat) (L:List aj) (i t m r:Int) (p:Nat->Addr) (w:World) (h:Fo w a L.length (FL L)) (hR:al (FL L) L.length) (hG:GE w p) (ho:az 3 i t m r):
  Calls Pg 149 #[Sl a L.length c,.agg #[Ii Jj 3,Ii Jj i,Ii Jj t,Ii Jj m,Ii Jj r]] w fun e w'=>iv p (bm L (ag L 3 i t m r)) w e w':=by
 have hl:(ag L 3 i t m r).2.length<=1048576:=by have h1:=bC L 3 i t m r;have h2:=hR.1;omega
 refine eV 212 234 (.agg #[Ii Jj i,.bool false]) a c L 3 i t m r p w h hG ho (ag L 3 i t m r) hl (fun W=>ub i t m r W) (fun W=>rZ _ W) (enters_of Tryz.func234 (by kernel_rfl) rfl) (fun W hF hG'=>sQ a c L i t m r p W hF hR hG') (fun W hF h0=>?_)
 cases hp:ao (FL L) L.length i with
 | none=>simp[ag,hp] at h0
 | some j=>
  have hj:=(ar hp).1
  have e:ag L 3 i t m r=aJ L j 3 m:=by simp[ag,hp]
  rw[e] at h0 ⊢
  cases hf:(FL L j).frozen with
  | false=>simp[aJ,hf] at h0
  | true=>
   have e2:(aJ L j 3 m).2=L.set j {FL L j with frozen:=false}:=by simp[aJ,hf]
   rw[e2]
   exact nx a c L i false j W hF hp
theorem vG (a:Option Addr) (c:Nat) (L:List aj) (i t m r:Int) (p:Nat->Addr) (w:World) (h:Fo w a L.length (FL L)) (hR:al (FL L) L.length) (hG:GE w p) (ho:az 4 i t m r):
  Calls Pg 149 #[Sl a L.length c,.agg #[Ii Jj 4,Ii Jj i,Ii Jj t,Ii Jj m,Ii Jj r]] w fun e w'=>iv p (bm L (ag L 4 i t m r)) w e w':=by
 have hl:(ag L 4 i t m r).2.length<=1048576:=by have h1:=bC L 4 i t m r;have h2:=hR.1;omega
 refine eV 214 235 (.agg #[Ii Jj i]) a c L 4 i t m r p w h hG ho (ag L 4 i t m r) hl (fun W=>ud i t m r W) (fun W=>tC _ W) (enters_of Tryz.func235 (by kernel_rfl) rfl) (fun W hF hG'=>tw a c L i t m r p W hF hR hG') (fun W hF h0=>?_)
 cases hp:ao (FL L) L.length i with
 | none=>simp[ag,hp] at h0
 | some j=>
  have hj:=(ar hp).1
  have e:ag L 4 i t m r=aJ L j 4 m:=by simp[ag,hp]
  rw[e] at h0 ⊢
  cases hf:(FL L j).frozen with
  | true=>simp[aJ,hf] at h0
  | false=>
   have e1:aJ L j 4 m=bJ L j:=by simp[aJ,hf]
   rw[e1] at h0 ⊢
   unfold bJ at h0 ⊢
   split at h0
   ·simp at h0
   ·rename_i hcd
    rw[if_neg hcd]
    exact rL a c L i j W hF hp
theorem vH (a:Option Addr) (c:Nat) (L:List aj) (i t m r:Int) (p:Nat->Addr) (w:World) (h:Fo w a L.length (FL L)) (hR:al (FL L) L.length) (hG:GE w p) (ho:az 5 i t m r):
  Calls Pg 149 #[Sl a L.length c,.agg #[Ii Jj 5,Ii Jj i,Ii Jj t,Ii Jj m,Ii Jj r]] w fun e w'=>iv p (bm L (ag L 5 i t m r)) w e w':=by
 have hl:(ag L 5 i t m r).2.length<=1048576:=by have h1:=bC L 5 i t m r;have h2:=hR.1;omega
 refine eV 216 237 (.agg #[Ii Jj i,Ii Jj m]) a c L 5 i t m r p w h hG ho (ag L 5 i t m r) hl (fun W=>ue i t m r W) (fun W=>tD _ W) (enters_of Tryz.func237 (by kernel_rfl) rfl) (fun W hF hG'=>vB a c L i t m r p W hF hR hG') (fun W hF h0=>?_)
 cases hp:ao (FL L) L.length i with
 | none=>simp[ag,hp] at h0
 | some j=>
  have hj:=(ar hp).1
  have e:ag L 5 i t m r=aJ L j 5 m:=by simp[ag,hp]
  rw[e] at h0 ⊢
  cases hf:(FL L j).frozen with
  | true=>simp[aJ,hf] at h0
  | false=>
   have e2:(aJ L j 5 m).2=L.set j {FL L j with balance:=(FL L j).balance+m}:=by simp[aJ,hf]
   rw[e2]
   have hb:=m7 hR hj
   unfold az at ho
   exact ti a c L i m j W hF hp (by omega) (by omega) hb.1 hb.2
theorem vI (a:Option Addr) (c:Nat) (L:List aj) (i t m r:Int) (p:Nat->Addr) (w:World) (h:Fo w a L.length (FL L)) (hR:al (FL L) L.length) (hG:GE w p) (ho:az 6 i t m r):
  Calls Pg 149 #[Sl a L.length c,.agg #[Ii Jj 6,Ii Jj i,Ii Jj t,Ii Jj m,Ii Jj r]] w fun e w'=>iv p (bm L (ag L 6 i t m r)) w e w':=by
 have hl:(ag L 6 i t m r).2.length<=1048576:=by have h1:=bC L 6 i t m r;have h2:=hR.1;omega
 refine eV 217 238 (.agg #[Ii Jj i,Ii Jj m]) a c L 6 i t m r p w h hG ho (ag L 6 i t m r) hl (fun W=>uf i t m r W) (fun W=>tE _ W) (enters_of Tryz.func238 (by kernel_rfl) rfl) (fun W hF hG'=>tY a c L i t m r p W hF hR hG') (fun W hF h0=>?_)
 cases hp:ao (FL L) L.length i with
 | none=>simp[ag,hp] at h0
 | some j=>
  have hj:=(ar hp).1
  have e:ag L 6 i t m r=aJ L j 6 m:=by simp[ag,hp]
  rw[e] at h0 ⊢
  cases hf:(FL L j).frozen with
  | true=>simp[aJ,hf] at h0
  | false=>
   have e1:aJ L j 6 m=dy L j m:=by simp[aJ,hf]
   rw[e1] at h0 ⊢
   unfold dy at h0 ⊢
   split at h0
   ·simp at h0
   ·rename_i hcd
    rw[if_neg hcd]
    have hb:=m7 hR hj
    unfold az at ho
    exact sy a c L i m j W hF hp (by omega) (by omega) hb.1 hb.2
theorem vJ (a:Option Addr) (c:Nat) (L:List aj) (i t m r:Int) (p:Nat->Addr) (w:World) (h:Fo w a L.length (FL L)) (hR:al (FL L) L.length) (hG:GE w p) (ho:az 8 i t m r):
  Calls Pg 149 #[Sl a L.length c,.agg #[Ii Jj 8,Ii Jj i,Ii Jj t,Ii Jj m,Ii Jj r]] w fun e w'=>iv p (bm L (ag L 8 i t m r)) w e w':=by
 have hl:(ag L 8 i t m r).2.length<=1048576:=by have h1:=bC L 8 i t m r;have h2:=hR.1;omega
 refine eV 221 245 (.agg #[Ii Jj i,Ii Jj m]) a c L 8 i t m r p w h hG ho (ag L 8 i t m r) hl (fun W=>uh i t m r W) (fun W=>tG _ W) (enters_of Tryz.func245 (by kernel_rfl) rfl) (fun W hF hG'=>tv a c L i t m r p W hF hR hG' (by unfold az at ho;omega)) (fun W hF h0=>?_)
 cases hp:ao (FL L) L.length i with
 | none=>simp[ag,hp] at h0
 | some j=>
  have hj:=(ar hp).1
  have e:ag L 8 i t m r=aJ L j 8 m:=by simp[ag,hp]
  rw[e] at h0 ⊢
  have e1:aJ L j 8 m=(if (FL L j).up=0/\m<0 then (8,L) else (0,L.set j {FL L j with limit:=m})):=by simp[aJ]
  rw[e1] at h0 ⊢
  split at h0
  ·simp at h0
  ·rename_i hcd
   rw[if_neg hcd]
   exact rJ a c L i m j W hF hp
theorem uj (a:Option Addr) (c:Nat) (L:List aj) (i t m r:Int) (p:Nat->Addr) (w:World) (h:Fo w a L.length (FL L)) (hR:al (FL L) L.length) (hG:GE w p) (ho:az 10 i t m r):
  Calls Pg 149 #[Sl a L.length c,.agg #[Ii Jj 10,Ii Jj i,Ii Jj t,Ii Jj m,Ii Jj r]] w fun e w'=>iv p (bm L (ag L 10 i t m r)) w e w':=by
 have hl:(ag L 10 i t m r).2.length<=1048576:=by have h1:=bC L 10 i t m r;have h2:=hR.1;omega
 refine eV 223 246 (.agg #[Ii Jj i,Ii Jj m]) a c L 10 i t m r p w h hG ho (ag L 10 i t m r) hl (fun W=>tx i t m r W) (fun W=>tH _ W) (enters_of Tryz.func246 (by kernel_rfl) rfl) (fun W hF hG'=>sS a c L i t m r p W hF hR hG') (fun W hF h0=>?_)
 cases hp:ao (FL L) L.length i with
 | none=>simp[ag,hp] at h0
 | some j=>
  have hj:=(ar hp).1
  have e:ag L 10 i t m r=aJ L j 10 m:=by simp[ag,hp]
  rw[e] at h0 ⊢
  have e1:aJ L j 10 m=(if (FL L j).up=0 then (8,L) else (0,L.set j {FL L j with target:=m})):=by simp[aJ]
  rw[e1] at h0 ⊢
  split at h0
  ·simp at h0
  ·rename_i hcd
   rw[if_neg hcd]
   exact qw a c L i m j W hF hp
theorem vK (a:Option Addr) (c:Nat) (L:List aj) (i t m r:Int) (p:Nat->Addr) (w:World) (h:Fo w a L.length (FL L)) (hR:al (FL L) L.length) (hG:GE w p) (ho:az 7 i t m r):
  Calls Pg 149 #[Sl a L.length c,.agg #[Ii Jj 7,Ii Jj i,Ii Jj t,Ii Jj m,Ii Jj r]] w fun e w'=>iv p (bm L (ag L 7 i t m r)) w e w':=by
 have hl:(ag L 7 i t m r).2.length<=1048576:=by have h1:=bC L 7 i t m r;have h2:=hR.1;omega
 refine eV 219 244 (.agg #[Ii Jj i,Ii Jj t,Ii Jj m]) a c L 7 i t m r p w h hG ho (ag L 7 i t m r) hl (fun W=>ug i t m r W) (fun W=>tF _ W) (enters_of Tryz.func244 (by kernel_rfl) rfl) (fun W hF hG'=>vC a c L i t m r p W hF hR hG') (fun W hF h0=>?_)
 cases hp:ao (FL L) L.length i with
 | none=>simp[ag,hp] at h0
 | some j=>
  have hj:=(ar hp).1
  cases hq:ao (FL L) L.length t with
  | none=>simp[ag,hp,hq] at h0
  | some q=>
   have hql:=(ar hq).1
   have e:ag L 7 i t m r=dh L j q m:=by simp[ag,hp,hq]
   rw[e] at h0 ⊢
   unfold dh at h0 ⊢
   split at h0
   ·simp at h0
   ·rename_i hc1
    rw[if_neg hc1]
    split at h0
    ·simp at h0
    ·rename_i hc2
     rw[if_neg hc2]
     have hb:=m7 hR hj
     have hb2:=m7 hR hql
     have hne:j≠q:=fun e=>by
      have e1:=(ar hp).2
      have e2:=(ar hq).2
      subst e
      unfold az at ho
      omega
     unfold az at ho
     exact tj a c L i t m j q W hF hp hq hne (by omega) (by omega) hb.1 hb.2 hb2.1 hb2.2
theorem vL (a:Option Addr) (c:Nat) (L:List aj) (i t m r:Int) (p:Nat->Addr) (w:World) (h:Fo w a L.length (FL L)) (hR:al (FL L) L.length) (hG:GE w p) (ho:az 9 i t m r):
  Calls Pg 149 #[Sl a L.length c,.agg #[Ii Jj 9,Ii Jj i,Ii Jj t,Ii Jj m,Ii Jj r]] w fun e w'=>iv p (bm L (ag L 9 i t m r)) w e w':=by
 have hl:(ag L 9 i t m r).2.length<=1048576:=by have h1:=bC L 9 i t m r;have h2:=hR.1;omega
 refine eV 225 247 (.agg #[Ii Jj i,Ii Jj t]) a c L 9 i t m r p w h hG ho (ag L 9 i t m r) hl (fun W=>ui i t m r W) (fun W=>tI _ W) (enters_of Tryz.func247 (by kernel_rfl) rfl) (fun W hF hG'=>u0 a c L i t m r p W hF hR hG') (fun W hF h0=>?_)
 cases hp:ao (FL L) L.length i with
 | none=>simp[ag,hp] at h0
 | some j=>
  have hj:=(ar hp).1
  cases hq:ao (FL L) L.length t with
  | none=>simp[ag,hp,hq] at h0
  | some q=>
   have hql:=(ar hq).1
   have e:ag L 9 i t m r=bR L j q ((ao (FL L) L.length (FL L j).up).getD 0):=by simp[ag,hp,hq]
   rw[e] at h0 ⊢
   unfold bR at h0 ⊢
   split at h0
   ·simp at h0
   ·rename_i hc1
    rw[if_neg hc1]
    split at h0
    ·simp at h0
    ·rename_i hc2
     rw[if_neg hc2,(ar hq).2]
     exact sx a c L i t j W hF hp
theorem vM (a:Option Addr) (c:Nat) (L:List aj) (i t m r:Int) (p:Nat->Addr) (w:World) (h:Fo w a L.length (FL L)) (hR:al (FL L) L.length) (hG:GE w p) (ho:az 1 i t m r):
  Calls Pg 149 #[Sl a L.length c,.agg #[Ii Jj 1,Ii Jj i,Ii Jj t,Ii Jj m,Ii Jj r]] w fun e w'=>iv p (bm L (ag L 1 i t m r)) w e w':=by
 have hl:(ag L 1 i t m r).2.length<=1048576:=by have h1:=bC L 1 i t m r;have h2:=hR.1;omega
 refine eV 210 232 (.agg #[Ii Jj i,Ii Jj t,Ii Jj m,Ii Jj r,Ii Jj (-1),.bool false,Ii Jj 0,Ii Jj 0]) a c L 1 i t m r p w h hG ho (ag L 1 i t m r) hl (fun W=>u6 i t m r W) (fun W=>tB _ W) (enters_of Tryz.func232 (by kernel_rfl) rfl) (fun W hF hG'=>tZ a c L i t m r p W hF hR hG') (fun W hF h0=>?_)
 have e:ag L 1 i t m r=cj L i t m r:=by simp[ag]
 rw[e] at h0 ⊢
 unfold cj at h0 ⊢
 split at h0
 ·simp at h0
 ·rename_i hc1
  rw[if_neg hc1]
  split at h0
  ·simp at h0
  ·rename_i hc2
   rw[if_neg hc2]
   refine sB a c L i t m r W hF (fun j hj e=>hc1 ?_)
   rw[←e,bL hR.2.2.1 hj]
   rfl
theorem uk (a:Option Addr) (c:Nat) (L:List aj) (k i t m r:Int) (p:Nat->Addr) (w:World) (h:Fo w a L.length (FL L)) (hR:al (FL L) L.length) (hG:GE w p):
  Calls Pg 149 #[Sl a L.length c,.agg #[Ii Jj k,Ii Jj i,Ii Jj t,Ii Jj m,Ii Jj r]] w fun e w'=>iv p (am L k i t m r) w e w':=by
 unfold am
 by_cases ho:az k i t m r
 ·rw[if_pos ho]
  have hk:k=1\/k=2\/k=3\/k=4\/k=5\/k=6\/k=7\/k=8\/k=9\/k=10:=by have:=ho;unfold az at this;omega
  rcases hk with e|e|e|e|e|e|e|e|e|e <;>subst e
  ·exact vM a c L i t m r p w h hR hG ho
  ·exact vD a c L i t m r p w h hR hG ho
  ·exact vF a c L i t m r p w h hR hG ho
  ·exact vG a c L i t m r p w h hR hG ho
  ·exact vH a c L i t m r p w h hR hG ho
  ·exact vI a c L i t m r p w h hR hG ho
  ·exact vK a c L i t m r p w h hR hG ho
  ·exact vJ a c L i t m r p w h hR hG ho
  ·exact vL a c L i t m r p w h hR hG ho
  ·exact uj a c L i t m r p w h hR hG ho
 ·rw[if_neg ho]
  exact sU a c L k i t m r p w hG ho
set_option maxRecDepth 8000
theorem nZ {L:List aj} {k i t m r:Int} (h:(am L k i t m r).1≠0):(am L k i t m r).2=L:=by
 unfold am at h ⊢
 split
 ·rename_i ho
  rw[if_pos ho] at h
  unfold bm at h ⊢
  split
  ·rename_i h0
   rw[if_pos h0] at h
   split
   ·rename_i hr
    rw[if_pos hr] at h
    exact absurd h0 h
   ·rfl
  ·rfl
 ·rfl
set_option maxRecDepth 8000 in
set_option maxHeartbeats 2000000 in
theorem fO (a:Option Addr) (c:Nat) (L:List aj) (k i t m r:Int) (p:Nat->Addr) (w:World) (h:Fo w a L.length (FL L)) (hG:GE w p):
  Calls Pg 115 #[Sl a L.length c,.agg #[Ii Jj k,Ii Jj i,Ii Jj t,Ii Jj m,Ii Jj r]] w fun e w'=>fb (cC L k i t m r) w.heap.size w e w':=by
 obtain ⟨W,hW⟩:∃W,W=w.alloc (.cells #[Ii Jj k,Ii Jj i,Ii Jj t,Ii Jj m,Ii Jj r] 49):=⟨_,rfl⟩
 have OW:Hid (aN W w.heap.size k i t m r):=by rw[hW];exact aN.new w _ _ _ _ _ 49
 have BW:Hid (Below w.heap.size w W):=by rw[hW];exact (Below.refl _ _).alloc (Nat.le_refl _) _
 have GW:=aa (hG.below BW.out)
 have HF:=aa h
 clear h hG
 by_cases hR:al (FL L) L.length
 ·have E:Hid (cC L k i t m r=am L k i t m r):=(by unfold cC;rw[if_pos hR]:cC L k i t m r=am L k i t m r)
  have HR:=aa hR
  clear hR
  go_enter Tryz.func115,Tryz.ntmps115
  go_upto_region 1 with fail
  rw[←hW]
  clear hW
  go_wp2_with fail
  refine (dt a L.length c (FL L) _ (HF.out.below BW.out) HR.out).mono ?_
  rintro e w1 ⟨rfl,B1⟩
  have S1:Hid (aN w1 w.heap.size k i t m r/\Below w.heap.size w w1/\GE w1 p):=⟨OW.out.below B1,BW.out.trans (B1.mono BW.out.size),GW.out.below B1⟩
  clear B1 OW BW GW
  obtain ⟨o0,o1,o2,o3,o4,oz⟩:=S1.out.1
  go_wp2_with fail
  refine (uk a c L k i t m r p _ (HF.out.below S1.out.2.1) HR.out S1.out.2.2).mono ?_
  rintro e w2 (⟨h0,v,rfl,A2,B2⟩|⟨hne,x,g,hg,hcg,rfl,B2⟩)
  ·have S2:Hid (Below w.heap.size w w2/\AL w2 w.heap.size v (am L k i t m r).2):=⟨S1.out.2.1.trans (B2.mono S1.out.2.1.size),A2.mono S1.out.2.1.size⟩
   have H0:=aa h0
   obtain ⟨va,vc,hv⟩:=A2.len
   obtain ⟨n',hn'⟩:∃n',n'=(am L k i t m r).2.length:=⟨_,rfl⟩
   rw[←hn'] at hv
   subst hv
   clear A2 B2 hn' h0 o0 o1 o2 o3 o4 oz S1
   go_wp2_with fail
   refine (oy _).mono ?_
   rintro e w3 ⟨rfl,B3⟩
   have S3:Hid (Below w.heap.size w w3/\AL w3 w.heap.size (Sl va n' vc) (am L k i t m r).2):=⟨S2.out.1.trans (B3.mono S2.out.1.size),S2.out.2.kept B3⟩
   clear B3 S2
   go_wp2
   go_ret2
   rw[E.out]
   exact ⟨_,by rw[H0.out];rfl,S3.out.2,S3.out.1⟩
  ·have S2:Hid (Below w.heap.size w w2/\GE w2 p):=⟨S1.out.2.1.trans (B2.mono S1.out.2.1.size),S1.out.2.2.below B2⟩
   have HX:Hid (g<7/\aF g=(am L k i t m r).1):=⟨hg,hcg⟩
   have HL:Hid ((am L k i t m r).2=L):=nZ hne
   clear B2 hg hcg hne o0 o1 o2 o3 o4 oz S1
   unfold jn
   go_wp2_with fail
   refine (fg a L.length c L _ rfl (HF.out.below S2.out.1)).mono ?_
   rintro e w3 ⟨v,rfl,A3,B3⟩
   have S3:Hid (Below w.heap.size w w3/\GE w3 p/\AL w3 w.heap.size v L):=⟨S2.out.1.trans (B3.mono S2.out.1.size),S2.out.2.below B3,A3.mono S2.out.1.size⟩
   obtain ⟨va,vc,hv⟩:=A3.len
   obtain ⟨n',hn'⟩:∃n',n'=L.length:=⟨_,rfl⟩
   rw[←hn'] at hv
   subst hv
   clear A3 B3 hn' S2
   go_wp2_with fail
   refine (oA x p g _ S3.out.2.1 HX.out.1).mono ?_
   rintro e w4 ⟨rfl,B4⟩
   have S4:Hid (Below w.heap.size w w4/\AL w4 w.heap.size (Sl va n' vc) L):=⟨S3.out.1.trans (B4.mono S3.out.1.size),S3.out.2.2.kept B4⟩
   clear B4 S3
   go_wp2
   go_ret2
   rw[E.out]
   exact ⟨_,by rw[←HX.out.2];rfl,by rw[HL.out];exact S4.out.2,S4.out.1⟩
 ·have E:Hid (cC L k i t m r=(1,[])):=(by unfold cC;rw[if_neg hR]:cC L k i t m r=(1,[]))
  have HR:=aa hR
  clear hR
  go_enter Tryz.func115,Tryz.ntmps115
  go_upto_region 1 with fail
  rw[←hW]
  clear hW
  go_wp2_with fail
  refine (i7 a L.length c (FL L) _ (HF.out.below BW.out) HR.out).mono ?_
  rintro e w1 ⟨rfl,B1⟩
  have BW1:=aa (BW.out.trans (B1.mono BW.out.size))
  clear B1 OW BW
  go_wp2
  go_ret2
  rw[E.out]
  exact ⟨_,rfl,World.ownsRow_nil _ _ 30 8,BW1.out⟩
end Go.Proofs.YtghkbhggopiajaaGreatDoor
