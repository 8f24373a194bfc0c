/- FnExactRanAll. -/
import Derived.Test.YtghkbhggopiajaaGreatDoorLawRallq
import Derived.Test.YtghkbhggopiajaaGreatDoorFrameXq
namespace Go.Proofs.YtghkbhggopiajaaGreatDoor
open Go.ChangeShapes Go.WideShapes Go.ChangeAt Go.RowKit
set_option maxRecDepth 8000
theorem list14 {l:List Value} (h:l.length=14):∃c0 c1 c2 c3 c4 c5 c6 c7 c8 c9 c10 c11 c12 c13,l=[c0,c1,c2,c3,c4,c5,c6,c7,c8,c9,c10,c11,c12,c13]:=by
 match l,h with
 | [c0,c1,c2,c3,c4,c5,c6,c7,c8,c9,c10,c11,c12,c13],_=>exact ⟨c0,c1,c2,c3,c4,c5,c6,c7,c8,c9,c10,c11,c12,c13,rfl⟩
theorem cellsBop:Tryz.prog.cellsOf 77=14:=by kernel_rfl
theorem bop_of_trod {H:Type} {enc:TypeId×Value->H} {W:World} {base:Nat} {spare:Nat->Bool} {held:Bool} {fuel:Nat} {cs:List Value} {x:DataW H×List MemPlace}
  (h:DataW.trod enc Tryz.prog W base spare held fuel 77 cs=some x):∃(KK nn:Int) (x:OpF) (o:Ord),cs=[.int .i64 KK,.int .i64 x.k,.int .i64 x.i,.int .i64 x.t,.int .i64 x.m,.int .i64 x.r,.int .i64 o.id,.int .i64 o.src,.int .i64 o.dst,.int .i64 o.amount,.int .i64 o.first,.int .i64 o.every,.int .i64 o.times,.int .i64 nn]:=by
 obtain ⟨xs,n,_,_,hl,hlen,hf⟩:=DataW.trod_struct Tryz.underlying77 h
 rw[cellsBop] at hl
 obtain ⟨c0,c1,c2,c3,c4,c5,c6,c7,c8,c9,c10,c11,c12,c13,rfl⟩:=list14 hl
 have hx:xs.length=4:=by simpa using hlen
 have g0:DataW.trod enc Tryz.prog W base spare held n 2 [c0]=xs[0]? :=by have:=hf 0 _ rfl;simpa [cellsInt,cellsOp,cellsOrd] using this
 have g1:DataW.trod enc Tryz.prog W base spare held n 74 [c1,c2,c3,c4,c5]=xs[1]? :=by have:=hf 1 _ rfl;simpa [cellsInt,cellsOp,cellsOrd] using this
 have g2:DataW.trod enc Tryz.prog W base spare held n 75 [c6,c7,c8,c9,c10,c11,c12]=xs[2]? :=by have:=hf 2 _ rfl;simpa [cellsInt,cellsOp,cellsOrd] using this
 have g3:DataW.trod enc Tryz.prog W base spare held n 2 [c13]=xs[3]? :=by have:=hf 3 _ rfl;simpa [cellsInt,cellsOp,cellsOrd] using this
 rw[List.getElem?_eq_getElem (by omega)] at g0 g1 g2 g3
 obtain ⟨x0,e0,_,_⟩:=DataW.trod_int Tryz.underlying2 g0
 obtain ⟨x13,e13,_,_⟩:=DataW.trod_int Tryz.underlying2 g3
 obtain ⟨k,i,t,m,r,e1⟩:=op_of_trod g1
 obtain ⟨o,e2⟩:=ord_of_trod g2
 simp only[List.cons.injEq,and_true] at e0 e13 e1 e2
 obtain ⟨rfl,rfl,rfl,rfl,rfl⟩:=e1
 obtain ⟨rfl,rfl,rfl,rfl,rfl,rfl,rfl⟩:=e2
 subst e0 e13
 exact ⟨x0,x13,⟨k,i,t,m,r⟩,o,rfl⟩
theorem bp_of_trod {H:Type} {enc:TypeId×Value->H} {W:World} {base:Nat} {spare:Nat->Bool} {held:Bool} {fuel:Nat} {cs:List Value} {x:DataW H×List MemPlace}
  (h:DataW.trod enc Tryz.prog W base spare held fuel 77 cs=some x):∃A:Bp,cs=[.int .i64 A.K,.int .i64 A.x.k,.int .i64 A.x.i,.int .i64 A.x.t,.int .i64 A.x.m,.int .i64 A.x.r,.int .i64 A.o.id,.int .i64 A.o.src,.int .i64 A.o.dst,.int .i64 A.o.amount,.int .i64 A.o.first,.int .i64 A.o.every,.int .i64 A.o.times,.int .i64 A.n]:=by
 obtain ⟨KK,nn,x,o,e⟩:=bop_of_trod h
 exact ⟨⟨KK,x,o,nn⟩,e⟩
theorem Bps_of_trod {H:Type} {enc:TypeId×Value->H} {W:World} {a:Option Addr} {len cap:Nat} {d:DataW H} {p:List MemPlace}
  (h:DataW.Trod enc Tryz.prog W 0 (fun _=>true) true 80 (.slice a len cap) d p):len<=9223372036854775807/\∃F:Nat->Bp,len<=1048576->Bps W a len F:=by
 obtain ⟨fuel,hf⟩:=h
 rcases Go.Deep.open_slice Tryz.underlying80 hf with ⟨hcs,_⟩|⟨x,l,c,m,n,D,Pl,hcs,_,hlc,hm,hmm,_,hel⟩
 ·simp[Value.cells] at hcs
  obtain ⟨rfl,rfl,rfl⟩:=hcs
  exact ⟨by omega,fun _=>⟨0,⟨0,0,0,0,0⟩,⟨0,0,0,0,0,0,0⟩,0⟩,fun _=>⟨by omega,Or.inl rfl⟩⟩
 ·simp[Value.cells] at hcs
  obtain ⟨rfl,rfl,rfl⟩:=hcs
  unfold maxLen at hm
  refine ⟨by omega,?_⟩
  have hex:∀i,i<len->∃A:Bp,∀j,j<14->W.cell? ((x.add (i*14)).add j)=[Value.int .i64 A.K,.int .i64 A.x.k,.int .i64 A.x.i,.int .i64 A.x.t,.int .i64 A.x.m,.int .i64 A.x.r,.int .i64 A.o.id,.int .i64 A.o.src,.int .i64 A.o.dst,.int .i64 A.o.amount,.int .i64 A.o.first,.int .i64 A.o.every,.int .i64 A.o.times,.int .i64 A.n][j]? :=by
   intro i hi
   obtain ⟨cs',hc,ht⟩:=hel i (by rw[hmm];simp;omega)
   obtain ⟨A,rfl⟩:=bp_of_trod ht
   rw[cellsBop] at hc
   obtain ⟨_,_,hall⟩:=World.cells?_some hc
   exact ⟨A,fun j hj=>hall j hj⟩
  haveI:Inhabited Bp:=⟨⟨0,⟨0,0,0,0,0⟩,⟨0,0,0,0,0,0,0⟩,0⟩⟩
  obtain ⟨F,hF⟩:=Go.Deep.choose_lt hex
  refine ⟨F,fun hle=>⟨hle,?_⟩⟩
  by_cases h0:len=0
  ·exact Or.inl h0
  right
  obtain ⟨b,off,spot⟩:=x
  have c00:=hF 0 (by omega) 0 (by omega)
  have hspot:spot=none:=by simpa [Addr.add] using World.cell?_spot c00
  subst hspot
  have hadd:∀q,(⟨b,off,none⟩:Addr).add q=⟨b,off+q,none⟩:=fun q=>by
   by_cases e:q=0
   ·subst e;simp[Addr.add]
   ·simp[Addr.add,e]
  have hadd2:∀q r,((⟨b,off,none⟩:Addr).add q).add r=⟨b,off+q+r,none⟩:=fun q r=>by
   rw[Go.Deep.add_add,hadd,Nat.add_assoc]
  refine ⟨b,off,rfl,World.block_lt_of_cell? W _ c00,fun i hi=>?_⟩
  have g:=hF i hi
  simp only[hadd2] at g
  exact ⟨g 0 (by omega),g 1 (by omega),g 2 (by omega),g 3 (by omega),g 4 (by omega),g 5 (by omega),g 6 (by omega),g 7 (by omega),g 8 (by omega),g 9 (by omega),g 10 (by omega),g 11 (by omega),g 12 (by omega),g 13 (by omega)⟩
theorem lawRall (a b:Option Addr) (n c m d:Nat) (F:Nat->Acc) (Q:Nat->Ord) (k:Bk) (oa:Option Addr) (nl oc:Nat) (T:Nat->Bp) (p:Nat->Addr) (w:World) (hn:n<=9223372036854775807) (hm:m<=9223372036854775807) (hl:nl<=9223372036854775807) (hF:n<=1048576->Fo w a n F) (hO:m<=1048576->Ords w b m Q) (hB:nl<=1048576->Bps w oa nl T) (hG:GE w p):
  Calls Tryz.prog 10 #[.agg #[.int .i64 k.day,.slice a n c,.slice b m d,.int .i64 k.inn,.int .i64 k.out,.int .i64 k.posted,.int .i64 k.missed],.slice oa nl oc] w fun e w'=>e=.returned (.bool true)/\Below w.heap.size w w':=by
 by_cases hs:n+m<=1048576
 ·by_cases ht:n+m+nl<=1048576
  ·have h1:(toL F n).length=n:=toL_len _ _
   have h2:((List.range m).map Q).length=m:=by simp
   have h3:((List.range nl).map T).length=nl:=by simp
   have hq:∀j,j<m->OrdF ((List.range m).map Q) j=Q j:=fun j hj=>by rw[OrdF_lt (by rw[h2];exact hj)];simp
   have hr:∀j,j<nl->BpF ((List.range nl).map T) j=T j:=fun j hj=>by rw[BpF_lt (by rw[h3];exact hj)];simp
   have:=lawRall_yes a b c d (toL F n) ((List.range m).map Q) k oa oc ((List.range nl).map T) p w (by rw[h1,h2,h3];exact ht) (by rw[h1];exact (hF (by omega)).congr (fun j hj=>(FL_toL hj).symm)) (by
    rw[h2]
    refine ⟨by omega,?_⟩
    rcases (hO (by omega)).2 with h0|⟨bb,oo,he,hbb,hat⟩
    ·exact Or.inl h0
    ·exact Or.inr ⟨bb,oo,he,hbb,fun i hi=>by rw[hq i hi];exact hat i hi⟩) (by
    rw[h3]
    refine ⟨by omega,?_⟩
    rcases (hB (by omega)).2 with h0|⟨bb,oo,he,hbb,hat⟩
    ·exact Or.inl h0
    ·exact Or.inr ⟨bb,oo,he,hbb,fun i hi=>by rw[hr i hi];exact hat i hi⟩) hG
   rwa [h1,h2,h3] at this
  ·clear hF hO hB hG
   have g1:decide (1048576-(n:Int)-(m:Int)<0)=false:=by simp;omega
   go_enter Tryz.func10,Tryz.ntmps10
   go_wp2_with (first|(go_at_call 41;refine (szBank_yes a b n c m d k _ hs).mono ?_;rintro e w1 ⟨rfl,B1⟩)|(go_at_call 47;refine (szSBp_no oa nl oc (1048576-(n:Int)-(m:Int)) _ (by omega) (by omega) hl).mono ?_;rintro e w2 ⟨rfl,hw2⟩;subst w2))
   go_ret
   exact ⟨rfl,((Below.refl _ _).alloc (Nat.le_refl _) _).trans (B1.mono (by simp))⟩
 ·clear hF hO hB hG
  go_enter Tryz.func10,Tryz.ntmps10
  go_wp2_with (go_at_call 41;refine (szBank_no a b n c m d k _ (by omega) hn hm).mono ?_;rintro e w1 ⟨rfl,B1⟩)
  go_ret
  exact ⟨rfl,((Below.refl _ _).alloc (Nat.le_refl _) _).trans (B1.mono (by simp))⟩
open Go.ChangeShapes Go.WideShapes Go.ChangeAt Go.RowKit
set_option linter.unusedVariables false
set_option maxRecDepth 100000 in
theorem fnExactRanAll_lifted (os:Os) (started:os.Started) (H:Type) (enc:TypeId×Value->H):
  ReturnsInHanded {} Tryz.checked os 10 .any (fun w args=>(Rows.fnExactRanAllSpec.pre enc Tryz.prog Tryz.f10 [] false w args/\laidMetH Tryz.prog Rows.fnExactRanAllRow.laid w)/\sizedMet enc Tryz.prog Tryz.f10 (OpenSpec.ofChange Rows.fnExactRanAllSpec) false w args)
   (Rows.fnExactRanAllSpec.post enc Tryz.prog Tryz.f10 false true false false):=by
 refine returnsInHanded_of_change_and (C:=Tryz.checked) (X:=fun w _=>laidMetH Tryz.prog Rows.fnExactRanAllRow.laid w) (fun _ _ _ hh h=>h.of_heap hh) own started (by kernel_rfl) Tryz.func10
  (ChangeSpec.witness_shaped (enc:=enc) (C:=Tryz.checked) (os:=os) (X:=fun w _=>laidMetH Tryz.prog Rows.fnExactRanAllRow.laid w) false (World.doorLaid Tryz.prog 4000 os) #[.agg #[.int .i64 0,.slice none 0 0,.slice none 0 0,.int .i64 0,.int .i64 0,.int .i64 0,.int .i64 0],.slice none 0 0] 8 rfl (World.shaped_of_RefB (by kernel_rfl) (by kernel_rfl)) (by kernel_rfl) (by kernel_rfl) (by kernel_rfl) (door_met os _)) ?_
 intro W base args ds gs before hval0 hW _ _ hL _
 have hval:∀(j:Nat) t v,Tryz.f10.params[j]? =some t->args[j]? =some v->Value.okWide Tryz.prog W .any base t v:=hval0
 have hW':=hW
 obtain ⟨p,q,hA0,hV0,rfl,hfz,hnd⟩:=hW
 have hA:DataW.TrodAll enc Tryz.prog W 0 (fun _=>true) true Tryz.f10.params.toList args.toList ds p:=hA0
 have hV:DataW.TrodVars enc Tryz.prog W (fun _=>true) vars7 gs q:=hV0
 rw[Tryz.params10] at hA hval
 obtain ⟨v0,v1,d0,d1,p0,p1,rfl,rfl,rfl,h0,h1⟩:=trodAll_two hA
 obtain ⟨g1,g2,g3,g4,g5,g6,g7,rfl⟩:=list7 (trodVars_len vars7 gs q hV)
 have k0:=h0
 have k1:=h1
 have lt0:∀x ∈ p0,x.block<W.heap.size:=by obtain ⟨m,hm⟩:=k0;exact DataW.trod_lt m _ _ _ hm
 have lt1:∀x ∈ p1,x.block<W.heap.size:=by obtain ⟨m,hm⟩:=k1;exact DataW.trod_lt m _ _ _ hm
 obtain ⟨a1,len1,cap1,rfl⟩:=okWide_slice Tryz.underlying80 (hval 1 80 v1 rfl rfl)
 obtain ⟨hl1,T1,hT1⟩:=Bps_of_trod h1
 obtain ⟨cs0,rfl,_⟩:=okWide_struct Tryz.underlying69 (hval 0 69 v0 rfl rfl)
 obtain ⟨fuel0,hf0⟩:=h0
 obtain ⟨y0,y3,y4,y5,y6,a0,n0,c0,b0,m0,d0x,ecs,hn0,hm0,F0,O0,hF0,hO0⟩:=bank_of_trod hf0
 obtain ⟨l0⟩:=cs0
 simp[Value.cells] at ecs
 subst ecs
 obtain ⟨pe,hG⟩:=ge_of_laid hL
 clear hA0 hV0 hval0
 refine (lawRall a0 b0 n0 c0 m0 d0x F0 O0 ⟨y0,y3,y4,y5,y6⟩ a1 len1 cap1 T1 pe W hn0 hm0 hl1 hF0 hO0 hT1 hG).mono fun e W' ⟨he,bel⟩=>?_
 subst he
 exact ⟨_,rfl,_,_,_,[],_,_,hW',trodAll_mk1 (shut_bool Tryz.underlying4 _),trodAll_mk2 (Below.trod laidOut (by kernel_rfl) (of_decide_eq_true (by kernel_rfl)) k0 bel lt0) (Below.trod laidOut (by kernel_rfl) (of_decide_eq_true (by kernel_rfl)) k1 bel lt1),Below.trodVars laidOut bel rowed hV,bel.frame _,fun h=>by cases h⟩
end Go.Proofs.YtghkbhggopiajaaGreatDoor
