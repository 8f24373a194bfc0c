/- The law FnExactRan returns true. -/
import Derived.Test.YtghkbhggopiajaaGreatDoorRanSq
import Derived.Test.YtghkbhggopiajaaGreatDoorSzBq
import Derived.Test.YtghkbhggopiajaaGreatDoorToBq
namespace Go.Proofs.YtghkbhggopiajaaGreatDoor
open Go.RowKit
set_option maxRecDepth 8000
theorem Bx14.same {w w' : World} {R : Nat} {K : Int} {x : OpF} {o : Ord} {n : Int} (h : Bx14 w R K x o n) (e : w'.heap[R]? = w.heap[R]?) : Bx14 w' R K x o n := by
 have hc : ∀ o,w'.cell? ⟨R,o,none⟩ = w.cell? ⟨R,o,none⟩ := fun o => by unfold World.cell?; simp only; rw [e]
 refine ⟨?_,?_⟩
 ·simp only [hc]; exact h.1
 ·by_cases hlt : R < w'.heap.size
  ·exact hlt
  ·rw [Array.getElem?_eq_none (by omega)] at e
   have h2 := h.2
   rw [Array.getElem?_eq_getElem h2] at e
   cases e
def RgS (V : World) (R Q : Nat) (v u : Value) (k : Bk) (KK : Int) (x : OpF) (o : Ord) (n : Int) : Prop := (V.cell? ⟨R,0,none⟩ = some (.int .i64 k.day) /\ V.cell? ⟨R,1,none⟩ = some (v) /\ V.cell? ⟨R,2,none⟩ = some (u) /\ V.cell? ⟨R,3,none⟩ = some (.int .i64 k.inn) /\ V.cell? ⟨R,4,none⟩ = some (.int .i64 k.out) /\ V.cell? ⟨R,5,none⟩ = some (.int .i64 k.posted) /\ V.cell? ⟨R,6,none⟩ = some (.int .i64 k.missed)) /\ V.cell? ⟨Q,0,none⟩ = some (.int .i64 KK) /\ V.cell? ⟨Q,1,none⟩ = some (.int .i64 x.k) /\ V.cell? ⟨Q,2,none⟩ = some (.int .i64 x.i) /\ V.cell? ⟨Q,3,none⟩ = some (.int .i64 x.t) /\ V.cell? ⟨Q,4,none⟩ = some (.int .i64 x.m) /\ V.cell? ⟨Q,5,none⟩ = some (.int .i64 x.r) /\ V.cell? ⟨Q,6,none⟩ = some (.int .i64 o.id) /\ V.cell? ⟨Q,7,none⟩ = some (.int .i64 o.src) /\ V.cell? ⟨Q,8,none⟩ = some (.int .i64 o.dst) /\ V.cell? ⟨Q,9,none⟩ = some (.int .i64 o.amount) /\ V.cell? ⟨Q,10,none⟩ = some (.int .i64 o.first) /\ V.cell? ⟨Q,11,none⟩ = some (.int .i64 o.every) /\ V.cell? ⟨Q,12,none⟩ = some (.int .i64 o.times) /\ V.cell? ⟨Q,13,none⟩ = some (.int .i64 n)
theorem ranAny_len (L : List Acc) (O : List Ord) (k : Bk) (K n : Int) (x : OpF) (o : Ord) : (ranAny L O k K x o n).L.length <= 12 /\ (ranAny L O k K x o n).O.length <= 8 := by
 unfold ranAny
 split
 ·rename_i hb
  have := ranS_bank K n x o hb
  exact ⟨this.2.1.1,this.2.2.1.1⟩
 ·simp
set_option maxHeartbeats 16000000 in
theorem lawRan_yes (a b : Option Addr) (c d : Nat) (L : List Acc) (O : List Ord) (k : Bk) (KK n : Int) (x : OpF) (o : Ord) (p : Nat -> Addr) (w : World) (hnm : L.length + O.length <= 1048576) (hF : Fo w a L.length (FL L)) (hO : Ords w b O.length (OrdF O)) (hG : GE w p) :
  Calls Tryz.prog 9 #[.agg #[.int .i64 k.day,.slice a L.length c,.slice b O.length d,.int .i64 k.inn,.int .i64 k.out,.int .i64 k.posted,.int .i64 k.missed],.agg #[.int .i64 KK,.int .i64 x.k,.int .i64 x.i,.int .i64 x.t,.int .i64 x.m,.int .i64 x.r,.int .i64 o.id,.int .i64 o.src,.int .i64 o.dst,.int .i64 o.amount,.int .i64 o.first,.int .i64 o.every,.int .i64 o.times,.int .i64 n]] w fun e w' => e = .returned (.bool true) /\ Below w.heap.size w w' := by
 have F0 := hidOf hF
 have O0 := hidOf hO
 have G0 := hidOf hG
 have hn' : L.length <= 1048576 := by omega
 have hm' : O.length <= 1048576 := by omega
 obtain ⟨q,hq⟩ : ∃ q,q = ranAny L O k KK x o n := ⟨_,rfl⟩
 have hGH := ranAny_len L O k KK n x o
 rw [← hq] at hGH
 have SP : Hid (∀ w (R1 R2 : Nat),Fo w (some ⟨R1,0,none⟩) L.length (FL L) -> Ords w (some ⟨R2,0,none⟩) O.length (OrdF O) -> Calls Tryz.prog 30 #[.agg #[.int .i64 k.day,.slice (some ⟨R1,0,none⟩) L.length L.length,.slice (some ⟨R2,0,none⟩) O.length O.length,.int .i64 k.inn,.int .i64 k.out,.int .i64 k.posted,.int .i64 k.missed],.agg #[.int .i64 KK,.int .i64 x.k,.int .i64 x.i,.int .i64 x.t,.int .i64 x.m,.int .i64 x.r,.int .i64 o.id,.int .i64 o.src,.int .i64 o.dst,.int .i64 o.amount,.int .i64 o.first,.int .i64 o.every,.int .i64 o.times,.int .i64 n]] w fun e w' => RanOut q w e w') := fun w R1 R2 h1 h2 => by
  rw [hq]; exact specRan _ _ _ _ L O k KK n x o w h1 h2 (Nat.le_refl _) ⟨R2,0,rfl⟩
 have IM : Hid (∀ w (R1 R2 : Nat),Fo w (some ⟨R1,0,none⟩) L.length (FL L) -> Ords w (some ⟨R2,0,none⟩) O.length (OrdF O) -> GE w p -> Calls Tryz.prog 29 #[.agg #[.int .i64 k.day,.slice (some ⟨R1,0,none⟩) L.length L.length,.slice (some ⟨R2,0,none⟩) O.length O.length,.int .i64 k.inn,.int .i64 k.out,.int .i64 k.posted,.int .i64 k.missed],.agg #[.int .i64 KK,.int .i64 x.k,.int .i64 x.i,.int .i64 x.t,.int .i64 x.m,.int .i64 x.r,.int .i64 o.id,.int .i64 o.src,.int .i64 o.dst,.int .i64 o.amount,.int .i64 o.first,.int .i64 o.every,.int .i64 o.times,.int .i64 n]] w fun e w' => RanOut q w e w') := fun w R1 R2 h1 h2 h3 => by
  rw [hq]; exact implRan _ _ _ _ L O k KK n x o p w h1 h2 h3
 have TOB : Hid (∀ w,Calls Tryz.prog 46 #[.agg #[.int .i64 KK,.int .i64 x.k,.int .i64 x.i,.int .i64 x.t,.int .i64 x.m,.int .i64 x.r,.int .i64 o.id,.int .i64 o.src,.int .i64 o.dst,.int .i64 o.amount,.int .i64 o.first,.int .i64 o.every,.int .i64 o.times,.int .i64 n]] w fun e w' => e = .returned (.agg #[.int .i64 KK,.int .i64 x.k,.int .i64 x.i,.int .i64 x.t,.int .i64 x.m,.int .i64 x.r,.int .i64 o.id,.int .i64 o.src,.int .i64 o.dst,.int .i64 o.amount,.int .i64 o.first,.int .i64 o.every,.int .i64 o.times,.int .i64 n]) /\ Below w.heap.size w w') := fun w => toBOp KK n x o w
 clear hq
 obtain ⟨cd,G,H,K⟩ := q
 dsimp only at hGH
 have hGl : G.length <= 1048576 := by omega
 have hHl : H.length <= 1048576 := by omega
 have EQ : Hid (∀ w B1 B2 C1 C2 v1 v2 u1 u2,AL w B1 v1 G -> AL w B2 v2 G -> OrdL w C1 u1 H -> OrdL w C2 u2 H -> Calls Tryz.prog 43 #[.agg #[.int .i64 K.day,v1,u1,.int .i64 K.inn,.int .i64 K.out,.int .i64 K.posted,.int .i64 K.missed],.agg #[.int .i64 K.day,v2,u2,.int .i64 K.inn,.int .i64 K.out,.int .i64 K.posted,.int .i64 K.missed]] w fun e w' => e = .returned (.bool true) /\ Below w.heap.size w w') := fun w B1 B2 C1 C2 v1 v2 u1 u2 h1 h2 h3 h4 => by
  obtain ⟨a1,m1,rfl,_,_⟩ := h1.shape
  obtain ⟨a2,m2,rfl,_,_⟩ := h2.shape
  obtain ⟨b1,p1,rfl,_,_⟩ := h3.shape
  obtain ⟨b2,p2,rfl,_,_⟩ := h4.shape
  exact eqBank_same a1 a2 b1 b2 G.length m1 m2 H.length p1 p2 (FL G) (OrdF H) K w (h1.fo hGl).2 (h2.fo hGl).2 (h3.list hHl).2 (h4.list hHl).2
 have hcdb : (cd != cd) = false := by simp
 clear hF hO hG
 have hsz : decide (1048576 - (L.length : Int) - (O.length : Int) < 0) = false := by simp; omega
 obtain ⟨W0,hW0⟩ : ∃ W0,W0 = (w.alloc (.cells #[.int .i64 k.day,.slice a L.length c,.slice b O.length d,.int .i64 k.inn,.int .i64 k.out,.int .i64 k.posted,.int .i64 k.missed] 69)).alloc (.cells #[.int .i64 KK,.int .i64 x.k,.int .i64 x.i,.int .i64 x.t,.int .i64 x.m,.int .i64 x.r,.int .i64 o.id,.int .i64 o.src,.int .i64 o.dst,.int .i64 o.amount,.int .i64 o.first,.int .i64 o.every,.int .i64 o.times,.int .i64 n] 77) := ⟨_,rfl⟩
 have BBz : Hid (Below w.heap.size w W0) := by show Below _ _ _; rw [hW0]; exact ((Below.refl _ _).alloc (Nat.le_refl _) _).alloc (by simp) _
 have Z : Hid (BxK W0 w.heap.size (.slice a L.length c) (.slice b O.length d) k) := by show Box7 _ _ _ _ _ _ _ _ _; rw [hW0]; exact (Box7.new w _ _ _ _ _ _ _ 69).kept ((Below.refl _ _).alloc (Nat.le_refl _) _) (by simp)
 have ZO : Hid (Bx14 W0 (w.heap.size + 1) KK x o n) := by
  show Bx14 _ _ _ _ _ _; rw [hW0]
  have := Bx14.new (w.alloc (.cells #[.int .i64 k.day,.slice a L.length c,.slice b O.length d,.int .i64 k.inn,.int .i64 k.out,.int .i64 k.posted,.int .i64 k.missed] 69)) KK x o n 77
  rw [World.size_alloc] at this
  exact this
 have z0 : W0.heap.size = w.heap.size + 2 := by rw [hW0]; simp
 have HW0 := hidOf hW0
 clear hW0
 go_enter Tryz.func9,Tryz.ntmps9
 go_upto_region 2 with fail
 rw [← HW0.out]
 clear HW0
 obtain ⟨⟨Zc0,Zc1,Zc2,Zc3,Zc4,Zc5,Zc6⟩,Zcf,Zcz⟩ := Z.out
 go_wp2_with fail
 refine (szBank_yes a b L.length c O.length d k _ hnm).mono ?_
 rintro e w1 ⟨rfl,E⟩
 clear Zc0 Zc1 Zc2 Zc3 Zc4 Zc5 Zc6 Zcf Zcz
 have BB1 := hidOf (BBz.out.trans (E.mono BBz.out.size))
 have z1 : W0.heap.size <= w1.heap.size := E.size
 replace Z := hidOf (Z.out.kept E (by omega))
 replace ZO := hidOf (ZO.out.kept E (by omega))
 clear E BBz 
 go_upto_region 5 with fail
 have SA : Hid (∀ V,Below w1.heap.size w1 V -> RgS V w.heap.size (w.heap.size + 1) (.slice a L.length c) (.slice b O.length d) k KK x o n) := fun V h => ⟨(Z.out.kept h Z.out.2.2).1,(ZO.out.kept h ZO.out.2).1⟩
 have E0 : Hid (Below w1.heap.size w1 w1.drew) := ⟨rfl,rfl,rfl,Nat.le_refl _,fun _ _ => rfl⟩
 have BG : Hid (∀ V,Below w1.heap.size w1 V -> Below w.heap.size w V) := fun V h => BB1.out.trans (h.mono BB1.out.size)
 have TOBK : Hid (∀ X,Below w1.heap.size w1 X -> Calls Tryz.prog 46 #[.agg #[.int .i64 KK,.int .i64 x.k,.int .i64 x.i,.int .i64 x.t,.int .i64 x.m,.int .i64 x.r,.int .i64 o.id,.int .i64 o.src,.int .i64 o.dst,.int .i64 o.amount,.int .i64 o.first,.int .i64 o.every,.int .i64 o.times,.int .i64 n]] X fun e w' => e = .returned (.agg #[.int .i64 KK,.int .i64 x.k,.int .i64 x.i,.int .i64 x.t,.int .i64 x.m,.int .i64 x.r,.int .i64 o.id,.int .i64 o.src,.int .i64 o.dst,.int .i64 o.amount,.int .i64 o.first,.int .i64 o.every,.int .i64 o.times,.int .i64 n]) /\ Below X.heap.size X w' /\ Below w1.heap.size w1 w') := fun X hX => (TOB.out X).mono fun e w' h => ⟨h.1,h.2,hX.trans (h.2.mono hX.size)⟩
 have TBK : Hid (∀ X,Below w1.heap.size w1 X -> Calls Tryz.prog 42 #[.agg #[.int .i64 k.day,.slice a L.length c,.slice b O.length d,.int .i64 k.inn,.int .i64 k.out,.int .i64 k.posted,.int .i64 k.missed]] X fun e w' => ∃ R1 R2,e = .returned (.agg #[.int .i64 k.day,.slice (some ⟨R1,0,none⟩) L.length L.length,.slice (some ⟨R2,0,none⟩) O.length O.length,.int .i64 k.inn,.int .i64 k.out,.int .i64 k.posted,.int .i64 k.missed]) /\ Row w' R1 L.length L.length (FL L) /\ RowOrd w' R2 O.length O.length (OrdF O) /\ Below X.heap.size X w' /\ Below w1.heap.size w1 w') := fun X hX => (toBank a b L.length c O.length d (FL L) (OrdF O) k X (F0.out.below (BG.out X hX)) (O0.out.below (BG.out X hX))).mono fun e w' ⟨R1,R2,h1,h2,h3,_,_,h4⟩ => ⟨R1,R2,h1,h2,h3,h4,hX.trans (h4.mono hX.size)⟩
 have RNK : Hid (∀ X R1 R2,Below w1.heap.size w1 X -> Row X R1 L.length L.length (FL L) -> RowOrd X R2 O.length O.length (OrdF O) -> Calls Tryz.prog 30 #[.agg #[.int .i64 k.day,.slice (some ⟨R1,0,none⟩) L.length L.length,.slice (some ⟨R2,0,none⟩) O.length O.length,.int .i64 k.inn,.int .i64 k.out,.int .i64 k.posted,.int .i64 k.missed],.agg #[.int .i64 KK,.int .i64 x.k,.int .i64 x.i,.int .i64 x.t,.int .i64 x.m,.int .i64 x.r,.int .i64 o.id,.int .i64 o.src,.int .i64 o.dst,.int .i64 o.amount,.int .i64 o.first,.int .i64 o.every,.int .i64 o.times,.int .i64 n]] X fun e w' => ∃ av cv bu du,e = .returned (.tuple #[.agg #[.int .i64 K.day,.slice av G.length cv,.slice bu H.length du,.int .i64 K.inn,.int .i64 K.out,.int .i64 K.posted,.int .i64 K.missed],.int .i64 cd]) /\ AL w' X.heap.size (.slice av G.length cv) G /\ OrdL w' X.heap.size (.slice bu H.length du) H /\ Below X.heap.size X w' /\ Below w1.heap.size w1 w') := fun X R1 R2 hX h1 h2 => (SP.out X R1 R2 (h1.fo hn') (h2.list hm')).mono fun e w' ⟨v,u,h3,h4,h5,h6⟩ => by
  obtain ⟨av,cv,rfl⟩ := AL.len h4
  obtain ⟨bu,du,rfl⟩ := OrdL.len h5
  exact ⟨av,cv,bu,du,h3,h4,h5,h6,hX.trans (h6.mono hX.size)⟩
 go_cut [6,7] (fun s6 s7 wx => s7 = .int .i64 cd /\ Hid (∃ rJ0 av0 cv0 bu0 du0,s6 = .pointer (some ⟨rJ0,0,none⟩) /\ BxK wx rJ0 (.slice av0 G.length cv0) (.slice bu0 H.length du0) K /\ w1.heap.size <= rJ0 /\ AL wx w1.heap.size (.slice av0 G.length cv0) G /\ OrdL wx w1.heap.size (.slice bu0 H.length du0) H /\ (∀ q,(Value.slice av0 G.length cv0).ownBlock = some q -> q ≠ rJ0) /\ (∀ q,(Value.slice bu0 H.length du0).ownBlock = some q -> q ≠ rJ0) /\ Below w1.heap.size w1 wx))
 case first =>
  refine wp_region_held_drew (S := fun V => RgS V w.heap.size (w.heap.size + 1) (.slice a L.length c) (.slice b O.length d) k KK x o n) (by kernel_rfl) (SA.out _ E0.out) (fun hHeld => ?_)
  refine wpAnyH_take (i := 0) (oi := { dst := some 22,op := Go.Op.load 69 (Go.Operand.tmp 2),type := 69,pos := "exact.go:2116",after := #[],guard := none }) (v := ?_) rfl (by kernel_rfl) (by kernel_rfl) (by kernel_rfl) (fun _ _ _ h => h) (Or.inl ⟨by rfl,?_⟩) (by assumption) ?_
  rotate_left
  ·intro wq hSw
   simp only [RgS] at hSw
   go_simp
   all_goals (with_reducible rfl)
  (try simp only [Act.put,List.setIfInBounds_toArray,List.set_cons_zero,List.set_cons_succ])
  refine wpAnyH_take (i := 2) (oi := { dst := some 24,op := Go.Op.load 77 (Go.Operand.tmp 3),type := 77,pos := "exact.go:2116",after := #[],guard := none }) (v := ?_) rfl (by kernel_rfl) (by kernel_rfl) (by kernel_rfl) (fun _ _ _ h => h) (Or.inl ⟨by rfl,?_⟩) (by assumption) ?_
  rotate_left
  ·intro wq hSw
   simp only [RgS] at hSw
   go_simp
   all_goals (with_reducible rfl)
  (try simp only [Act.put,List.setIfInBounds_toArray,List.set_cons_zero,List.set_cons_succ])
  refine wpAnyH_ready (rs := [1,8]) (by kernel_rfl) (by simp) ?_
  refine AllReadyH.cons (o := { dst := some 23,op := Go.Op.call { callee := Go.Callee.value (Go.Operand.func 42),args := #[Go.Operand.tmp 22],argTypes := #[69] },type := 38,pos := "exact.go:2116",after := #[{ on := 0,ground := Go.Ground.data }],guard := none }) rfl (fun K' hK => ?_) ?_
  ·skip
   go_simp
   refine (TBK.out _ E0.out).mono ?_
   rintro e y1 ⟨R1,R2,rfl,TA,TO,Ex,Ey1⟩
   go_wp2_with fail
   refine hK.out _ _ ?_ (fun hHeld => ?_)
   ·exact SA.out _ Ey1
   clear hK K'
   refine wpAnyH_ready (rs := [3,8]) (by kernel_rfl) (by simp) ?_
   refine AllReadyH.cons (o := { dst := some 25,op := Go.Op.call { callee := Go.Callee.value (Go.Operand.func 46),args := #[Go.Operand.tmp 24],argTypes := #[77] },type := 51,pos := "exact.go:2116",after := #[{ on := 2,ground := Go.Ground.data },{ on := 1,ground := Go.Ground.chain }],guard := none }) rfl (fun K' hK => ?_) ?_
   ·skip
    go_simp
    refine (TOBK.out _ Ey1).mono ?_
    rintro e y2 ⟨rfl,Ex,Ey2⟩
    have TA2 := TA.below Ex
    have TO2 := TO.below Ex
    go_wp2_with fail
    refine hK.out _ _ ?_ (fun hHeld => ?_)
    ·exact SA.out _ Ey2
    clear hK K'
    refine wpAnyH_ready (rs := [4,8]) (by kernel_rfl) (by simp) ?_
    refine AllReadyH.cons (o := { dst := some 26,op := Go.Op.call { callee := Go.Callee.value (Go.Operand.func 30),args := #[Go.Operand.tmp 23,Go.Operand.tmp 25],argTypes := #[38,51] },type := 54,pos := "exact.go:2116",after := #[{ on := 1,ground := Go.Ground.data },{ on := 3,ground := Go.Ground.data },{ on := 3,ground := Go.Ground.chain }],guard := none }) rfl (fun K' hK => ?_) ?_
    ·skip
     go_simp
     refine (RNK.out _ _ _ Ey2 TA2 TO2).mono ?_
     rintro e y3 ⟨av0,cv0,bu0,du0,rfl,AA,AB,Ex,Ey3⟩
     go_wp2_with fail
     refine hK.out _ _ ?_ (fun hHeld => ?_)
     ·exact SA.out _ Ey3
     clear hK K'
     refine wpAnyH_take (i := 5) (oi := { dst := some 21,op := Go.Op.move (Go.Operand.tmp 26),type := 54,pos := "exact.go:2116",after := #[{ on := 4,ground := Go.Ground.data }],guard := none }) (v := ?_) rfl (by kernel_rfl) (by kernel_rfl) (by kernel_rfl) (fun _ _ _ h => h) (Or.inl ⟨by rfl,?_⟩) (by assumption) ?_
     rotate_left
     ·intro wq hSw
      simp only [RgS] at hSw
      go_simp
      all_goals (with_reducible rfl)
     (try simp only [Act.put,List.setIfInBounds_toArray,List.set_cons_zero,List.set_cons_succ])
     refine wpAnyH_take (i := 6) (oi := { dst := some 27,op := Go.Op.extract (Go.Operand.tmp 21) 0,type := 38,pos := "exact.go:2116",after := #[{ on := 5,ground := Go.Ground.data }],guard := none }) (v := ?_) rfl (by kernel_rfl) (by kernel_rfl) (by kernel_rfl) (fun _ _ _ h => h) (Or.inl ⟨by rfl,?_⟩) (by assumption) ?_
     rotate_left
     ·intro wq hSw
      simp only [RgS] at hSw
      go_simp
      all_goals (with_reducible rfl)
     (try simp only [Act.put,List.setIfInBounds_toArray,List.set_cons_zero,List.set_cons_succ])
     refine wpAnyH_take (i := 7) (oi := { dst := some 28,op := Go.Op.extract (Go.Operand.tmp 21) 1,type := 2,pos := "exact.go:2116",after := #[{ on := 5,ground := Go.Ground.data },{ on := 9,ground := Go.Ground.gcOnly Go.Departure.lateStores }],guard := none }) (v := ?_) rfl (by kernel_rfl) (by kernel_rfl) (by kernel_rfl) (fun _ _ _ h => h) (Or.inl ⟨by rfl,?_⟩) (by assumption) ?_
     rotate_left
     ·intro wq hSw
      simp only [RgS] at hSw
      go_simp
      all_goals (with_reducible rfl)
     (try simp only [Act.put,List.setIfInBounds_toArray,List.set_cons_zero,List.set_cons_succ])
     refine wpAnyH_ready (rs := [8]) (by kernel_rfl) (by simp) ?_
     refine AllReadyH.cons (o := { dst := some 6,op := Go.Op.alloc 38,type := 0,pos := "exact.go:2116",after := #[],guard := none }) rfl (fun K' hK => ?_) AllReadyH.nil
     go_simp
     refine hK.out _ _ ?_ (fun hHeld => ?_)
     ·exact SA.out _ (Ey3.alloc Ey3.size _)
     clear hK K'
     refine wpAnyH_ready (rs := [9]) (by kernel_rfl) (by simp) ?_
     refine AllReadyH.cons (o := { dst := none,op := Go.Op.store 38 (Go.Operand.tmp 6) (Go.Operand.tmp 27),type := 0,pos := "exact.go:2116",after := #[{ on := 8,ground := Go.Ground.data },{ on := 6,ground := Go.Ground.data },{ on := 4,ground := Go.Ground.chain },{ on := 0,ground := Go.Ground.phase },{ on := 1,ground := Go.Ground.phase },{ on := 2,ground := Go.Ground.phase },{ on := 3,ground := Go.Ground.phase },{ on := 4,ground := Go.Ground.phase },{ on := 5,ground := Go.Ground.phase },{ on := 6,ground := Go.Ground.phase },{ on := 7,ground := Go.Ground.textOnly Go.Departure.lateStores },{ on := 8,ground := Go.Ground.phase }],guard := none }) rfl (fun K' hK => ?_) AllReadyH.nil
     go_simp
     refine hK.out _ _ ?_ (fun hHeld => ?_)
     ·exact SA.out _ (Ey3.alloc Ey3.size _)
     clear hK K'
     refine wpAnyH_take (i := 10) (oi := { dst := some 7,op := Go.Op.assign (Go.Operand.tmp 28),type := 2,pos := "exact.go:2116",after := #[{ on := 7,ground := Go.Ground.data },{ on := 9,ground := Go.Ground.chain },{ on := 0,ground := Go.Ground.phase },{ on := 1,ground := Go.Ground.phase },{ on := 2,ground := Go.Ground.phase },{ on := 3,ground := Go.Ground.phase },{ on := 4,ground := Go.Ground.phase },{ on := 5,ground := Go.Ground.phase },{ on := 6,ground := Go.Ground.phase },{ on := 7,ground := Go.Ground.phase },{ on := 8,ground := Go.Ground.phase },{ on := 9,ground := Go.Ground.phase }],guard := none }) (v := ?_) rfl (by kernel_rfl) (by kernel_rfl) (by kernel_rfl) (fun _ _ _ h => h) (Or.inl ⟨by rfl,?_⟩) (by assumption) ?_
     rotate_left
     ·intro wq hSw
      simp only [RgS] at hSw
      go_simp
      all_goals (with_reducible rfl)
     (try simp only [Act.put,List.setIfInBounds_toArray,List.set_cons_zero,List.set_cons_succ])
     refine wpAnyH_done (by kernel_rfl) ?_ _
     go_wp2_with fail
     go_meet
     exact ⟨rfl,hidOf ⟨y3.heap.size,av0,cv0,bu0,du0,rfl,Box7.new y3 _ _ _ _ _ _ _ 38,Ey3.size,(AA.kept ((Below.refl _ _).alloc (Nat.le_refl _) _)).mono (Ey2).size,(AB.kept ((Below.refl _ _).alloc (Nat.le_refl _) _)).mono (Ey2).size,fun q hq => by have := (World.ownsRow.lt AA q hq).2; omega,fun q hq => by have := (World.ownsRow.lt AB q hq).2; omega,(Ey3.alloc Ey3.size _)⟩⟩
    refine AllReadyH.cons (o := { dst := some 6,op := Go.Op.alloc 38,type := 0,pos := "exact.go:2116",after := #[],guard := none }) rfl (fun K' hK => ?_) AllReadyH.nil
    go_simp
    refine hK.out _ _ ?_ (fun hHeld => ?_)
    ·exact SA.out _ (Ey2.alloc Ey2.size _)
    clear hK K'
    have TA4 := Row.below TA2 ((Below.refl _ _).alloc (Nat.le_refl _) (.cells #[.int .i64 0,.slice none 0 0,.slice none 0 0,.int .i64 0,.int .i64 0,.int .i64 0,.int .i64 0] 38))
    have TO4 := RowOrd.below TO2 ((Below.refl _ _).alloc (Nat.le_refl _) (.cells #[.int .i64 0,.slice none 0 0,.slice none 0 0,.int .i64 0,.int .i64 0,.int .i64 0,.int .i64 0] 38))
    refine wpAnyH_ready (rs := [4]) (by kernel_rfl) (by simp) ?_
    refine AllReadyH.cons (o := { dst := some 26,op := Go.Op.call { callee := Go.Callee.value (Go.Operand.func 30),args := #[Go.Operand.tmp 23,Go.Operand.tmp 25],argTypes := #[38,51] },type := 54,pos := "exact.go:2116",after := #[{ on := 1,ground := Go.Ground.data },{ on := 3,ground := Go.Ground.data },{ on := 3,ground := Go.Ground.chain }],guard := none }) rfl (fun K' hK => ?_) AllReadyH.nil
    go_simp
    refine (RNK.out _ _ _ (Ey2.alloc Ey2.size _) TA4 TO4).mono ?_
    rintro e y5 ⟨av0,cv0,bu0,du0,rfl,AA,AB,Ex,Ey5⟩
    have hlt : y2.heap.size < (y2.alloc (.cells #[.int .i64 0,.slice none 0 0,.slice none 0 0,.int .i64 0,.int .i64 0,.int .i64 0,.int .i64 0] 38)).heap.size := by simp
    have Jy5 : BxZ y5 y2.heap.size := (Box7.new y2 _ _ _ _ _ _ _ 38).kept Ex (by simp)
    go_wp2_with fail
    refine hK.out _ _ ?_ (fun hHeld => ?_)
    ·exact SA.out _ Ey5
    clear hK K'
    refine wpAnyH_take (i := 5) (oi := { dst := some 21,op := Go.Op.move (Go.Operand.tmp 26),type := 54,pos := "exact.go:2116",after := #[{ on := 4,ground := Go.Ground.data }],guard := none }) (v := ?_) rfl (by kernel_rfl) (by kernel_rfl) (by kernel_rfl) (fun _ _ _ h => h) (Or.inl ⟨by rfl,?_⟩) (by assumption) ?_
    rotate_left
    ·intro wq hSw
     simp only [RgS] at hSw
     go_simp
     all_goals (with_reducible rfl)
    (try simp only [Act.put,List.setIfInBounds_toArray,List.set_cons_zero,List.set_cons_succ])
    refine wpAnyH_take (i := 6) (oi := { dst := some 27,op := Go.Op.extract (Go.Operand.tmp 21) 0,type := 38,pos := "exact.go:2116",after := #[{ on := 5,ground := Go.Ground.data }],guard := none }) (v := ?_) rfl (by kernel_rfl) (by kernel_rfl) (by kernel_rfl) (fun _ _ _ h => h) (Or.inl ⟨by rfl,?_⟩) (by assumption) ?_
    rotate_left
    ·intro wq hSw
     simp only [RgS] at hSw
     go_simp
     all_goals (with_reducible rfl)
    (try simp only [Act.put,List.setIfInBounds_toArray,List.set_cons_zero,List.set_cons_succ])
    refine wpAnyH_take (i := 7) (oi := { dst := some 28,op := Go.Op.extract (Go.Operand.tmp 21) 1,type := 2,pos := "exact.go:2116",after := #[{ on := 5,ground := Go.Ground.data },{ on := 9,ground := Go.Ground.gcOnly Go.Departure.lateStores }],guard := none }) (v := ?_) rfl (by kernel_rfl) (by kernel_rfl) (by kernel_rfl) (fun _ _ _ h => h) (Or.inl ⟨by rfl,?_⟩) (by assumption) ?_
    rotate_left
    ·intro wq hSw
     simp only [RgS] at hSw
     go_simp
     all_goals (with_reducible rfl)
    (try simp only [Act.put,List.setIfInBounds_toArray,List.set_cons_zero,List.set_cons_succ])
    refine wpAnyH_ready (rs := [9]) (by kernel_rfl) (by simp) ?_
    refine AllReadyH.cons (o := { dst := none,op := Go.Op.store 38 (Go.Operand.tmp 6) (Go.Operand.tmp 27),type := 0,pos := "exact.go:2116",after := #[{ on := 8,ground := Go.Ground.data },{ on := 6,ground := Go.Ground.data },{ on := 4,ground := Go.Ground.chain },{ on := 0,ground := Go.Ground.phase },{ on := 1,ground := Go.Ground.phase },{ on := 2,ground := Go.Ground.phase },{ on := 3,ground := Go.Ground.phase },{ on := 4,ground := Go.Ground.phase },{ on := 5,ground := Go.Ground.phase },{ on := 6,ground := Go.Ground.phase },{ on := 7,ground := Go.Ground.textOnly Go.Departure.lateStores },{ on := 8,ground := Go.Ground.phase }],guard := none }) rfl (fun K' hK => ?_) AllReadyH.nil
    obtain ⟨⟨j0,j1,j2,j3,j4,j5,j6⟩,jf,jz⟩ := id Jy5
    have hRJ : w1.heap.size <= y2.heap.size := Ey2.size
    go_simp
    refine hK.out _ _ ?_ (fun hHeld => ?_)
    ·exact SA.out _ (below_far (below_far (below_far (below_far (below_far (below_far (below_far Ey5 (by omega) _ _) (by omega) _ _) (by omega) _ _) (by omega) _ _) (by omega) _ _) (by omega) _ _) (by omega) _ _)
    clear hK K'
    refine wpAnyH_take (i := 10) (oi := { dst := some 7,op := Go.Op.assign (Go.Operand.tmp 28),type := 2,pos := "exact.go:2116",after := #[{ on := 7,ground := Go.Ground.data },{ on := 9,ground := Go.Ground.chain },{ on := 0,ground := Go.Ground.phase },{ on := 1,ground := Go.Ground.phase },{ on := 2,ground := Go.Ground.phase },{ on := 3,ground := Go.Ground.phase },{ on := 4,ground := Go.Ground.phase },{ on := 5,ground := Go.Ground.phase },{ on := 6,ground := Go.Ground.phase },{ on := 7,ground := Go.Ground.phase },{ on := 8,ground := Go.Ground.phase },{ on := 9,ground := Go.Ground.phase }],guard := none }) (v := ?_) rfl (by kernel_rfl) (by kernel_rfl) (by kernel_rfl) (fun _ _ _ h => h) (Or.inl ⟨by rfl,?_⟩) (by assumption) ?_
    rotate_left
    ·intro wq hSw
     simp only [RgS] at hSw
     go_simp
     all_goals (with_reducible rfl)
    (try simp only [Act.put,List.setIfInBounds_toArray,List.set_cons_zero,List.set_cons_succ])
    refine wpAnyH_done (by kernel_rfl) ?_ _
    go_wp2_with fail
    go_meet
    exact ⟨rfl,hidOf ⟨y2.heap.size,av0,cv0,bu0,du0,rfl,(((((((Jy5.set0 _).set1 _).set2 _).set3 _).set4 _).set5 _).set6 _),hRJ,(((((((AA.far hlt _ _).far hlt _ _).far hlt _ _).far hlt _ _).far hlt _ _).far hlt _ _).far hlt _ _).mono ((Ey2.alloc Ey2.size _)).size,(((((((AB.far hlt _ _).far hlt _ _).far hlt _ _).far hlt _ _).far hlt _ _).far hlt _ _).far hlt _ _).mono ((Ey2.alloc Ey2.size _)).size,fun q hq => by have := (World.ownsRow.lt AA q hq).1; omega,fun q hq => by have := (World.ownsRow.lt AB q hq).1; omega,(below_far (below_far (below_far (below_far (below_far (below_far (below_far Ey5 (by omega) _ _) (by omega) _ _) (by omega) _ _) (by omega) _ _) (by omega) _ _) (by omega) _ _) (by omega) _ _)⟩⟩
   refine AllReadyH.cons (o := { dst := some 6,op := Go.Op.alloc 38,type := 0,pos := "exact.go:2116",after := #[],guard := none }) rfl (fun K' hK => ?_) AllReadyH.nil
   go_simp
   refine hK.out _ _ ?_ (fun hHeld => ?_)
   ·exact SA.out _ (Ey1.alloc Ey1.size _)
   clear hK K'
   have TA6 := Row.below TA ((Below.refl _ _).alloc (Nat.le_refl _) (.cells #[.int .i64 0,.slice none 0 0,.slice none 0 0,.int .i64 0,.int .i64 0,.int .i64 0,.int .i64 0] 38))
   have TO6 := RowOrd.below TO ((Below.refl _ _).alloc (Nat.le_refl _) (.cells #[.int .i64 0,.slice none 0 0,.slice none 0 0,.int .i64 0,.int .i64 0,.int .i64 0,.int .i64 0] 38))
   refine wpAnyH_ready (rs := [3]) (by kernel_rfl) (by simp) ?_
   refine AllReadyH.cons (o := { dst := some 25,op := Go.Op.call { callee := Go.Callee.value (Go.Operand.func 46),args := #[Go.Operand.tmp 24],argTypes := #[77] },type := 51,pos := "exact.go:2116",after := #[{ on := 2,ground := Go.Ground.data },{ on := 1,ground := Go.Ground.chain }],guard := none }) rfl (fun K' hK => ?_) AllReadyH.nil
   go_simp
   refine (TOBK.out _ (Ey1.alloc Ey1.size _)).mono ?_
   rintro e y7 ⟨rfl,Ex,Ey7⟩
   have TA7 := TA6.below Ex
   have TO7 := TO6.below Ex
   have Jy7 : BxZ y7 y1.heap.size := (Box7.new y1 _ _ _ _ _ _ _ 38).kept Ex (by simp)
   go_wp2_with fail
   refine hK.out _ _ ?_ (fun hHeld => ?_)
   ·exact SA.out _ Ey7
   clear hK K'
   refine wpAnyH_ready (rs := [4]) (by kernel_rfl) (by simp) ?_
   refine AllReadyH.cons (o := { dst := some 26,op := Go.Op.call { callee := Go.Callee.value (Go.Operand.func 30),args := #[Go.Operand.tmp 23,Go.Operand.tmp 25],argTypes := #[38,51] },type := 54,pos := "exact.go:2116",after := #[{ on := 1,ground := Go.Ground.data },{ on := 3,ground := Go.Ground.data },{ on := 3,ground := Go.Ground.chain }],guard := none }) rfl (fun K' hK => ?_) AllReadyH.nil
   go_simp
   refine (RNK.out _ _ _ Ey7 TA7 TO7).mono ?_
   rintro e y8 ⟨av0,cv0,bu0,du0,rfl,AA,AB,Ex,Ey8⟩
   have hlt : y1.heap.size < y7.heap.size := Jy7.2.2
   have Jy8 : BxZ y8 y1.heap.size := Jy7.kept Ex (by exact Jy7.2.2)
   go_wp2_with fail
   refine hK.out _ _ ?_ (fun hHeld => ?_)
   ·exact SA.out _ Ey8
   clear hK K'
   refine wpAnyH_take (i := 5) (oi := { dst := some 21,op := Go.Op.move (Go.Operand.tmp 26),type := 54,pos := "exact.go:2116",after := #[{ on := 4,ground := Go.Ground.data }],guard := none }) (v := ?_) rfl (by kernel_rfl) (by kernel_rfl) (by kernel_rfl) (fun _ _ _ h => h) (Or.inl ⟨by rfl,?_⟩) (by assumption) ?_
   rotate_left
   ·intro wq hSw
    simp only [RgS] at hSw
    go_simp
    all_goals (with_reducible rfl)
   (try simp only [Act.put,List.setIfInBounds_toArray,List.set_cons_zero,List.set_cons_succ])
   refine wpAnyH_take (i := 6) (oi := { dst := some 27,op := Go.Op.extract (Go.Operand.tmp 21) 0,type := 38,pos := "exact.go:2116",after := #[{ on := 5,ground := Go.Ground.data }],guard := none }) (v := ?_) rfl (by kernel_rfl) (by kernel_rfl) (by kernel_rfl) (fun _ _ _ h => h) (Or.inl ⟨by rfl,?_⟩) (by assumption) ?_
   rotate_left
   ·intro wq hSw
    simp only [RgS] at hSw
    go_simp
    all_goals (with_reducible rfl)
   (try simp only [Act.put,List.setIfInBounds_toArray,List.set_cons_zero,List.set_cons_succ])
   refine wpAnyH_take (i := 7) (oi := { dst := some 28,op := Go.Op.extract (Go.Operand.tmp 21) 1,type := 2,pos := "exact.go:2116",after := #[{ on := 5,ground := Go.Ground.data },{ on := 9,ground := Go.Ground.gcOnly Go.Departure.lateStores }],guard := none }) (v := ?_) rfl (by kernel_rfl) (by kernel_rfl) (by kernel_rfl) (fun _ _ _ h => h) (Or.inl ⟨by rfl,?_⟩) (by assumption) ?_
   rotate_left
   ·intro wq hSw
    simp only [RgS] at hSw
    go_simp
    all_goals (with_reducible rfl)
   (try simp only [Act.put,List.setIfInBounds_toArray,List.set_cons_zero,List.set_cons_succ])
   refine wpAnyH_ready (rs := [9]) (by kernel_rfl) (by simp) ?_
   refine AllReadyH.cons (o := { dst := none,op := Go.Op.store 38 (Go.Operand.tmp 6) (Go.Operand.tmp 27),type := 0,pos := "exact.go:2116",after := #[{ on := 8,ground := Go.Ground.data },{ on := 6,ground := Go.Ground.data },{ on := 4,ground := Go.Ground.chain },{ on := 0,ground := Go.Ground.phase },{ on := 1,ground := Go.Ground.phase },{ on := 2,ground := Go.Ground.phase },{ on := 3,ground := Go.Ground.phase },{ on := 4,ground := Go.Ground.phase },{ on := 5,ground := Go.Ground.phase },{ on := 6,ground := Go.Ground.phase },{ on := 7,ground := Go.Ground.textOnly Go.Departure.lateStores },{ on := 8,ground := Go.Ground.phase }],guard := none }) rfl (fun K' hK => ?_) AllReadyH.nil
   obtain ⟨⟨j0,j1,j2,j3,j4,j5,j6⟩,jf,jz⟩ := id Jy8
   have hRJ : w1.heap.size <= y1.heap.size := Ey1.size
   go_simp
   refine hK.out _ _ ?_ (fun hHeld => ?_)
   ·exact SA.out _ (below_far (below_far (below_far (below_far (below_far (below_far (below_far Ey8 (by omega) _ _) (by omega) _ _) (by omega) _ _) (by omega) _ _) (by omega) _ _) (by omega) _ _) (by omega) _ _)
   clear hK K'
   refine wpAnyH_take (i := 10) (oi := { dst := some 7,op := Go.Op.assign (Go.Operand.tmp 28),type := 2,pos := "exact.go:2116",after := #[{ on := 7,ground := Go.Ground.data },{ on := 9,ground := Go.Ground.chain },{ on := 0,ground := Go.Ground.phase },{ on := 1,ground := Go.Ground.phase },{ on := 2,ground := Go.Ground.phase },{ on := 3,ground := Go.Ground.phase },{ on := 4,ground := Go.Ground.phase },{ on := 5,ground := Go.Ground.phase },{ on := 6,ground := Go.Ground.phase },{ on := 7,ground := Go.Ground.phase },{ on := 8,ground := Go.Ground.phase },{ on := 9,ground := Go.Ground.phase }],guard := none }) (v := ?_) rfl (by kernel_rfl) (by kernel_rfl) (by kernel_rfl) (fun _ _ _ h => h) (Or.inl ⟨by rfl,?_⟩) (by assumption) ?_
   rotate_left
   ·intro wq hSw
    simp only [RgS] at hSw
    go_simp
    all_goals (with_reducible rfl)
   (try simp only [Act.put,List.setIfInBounds_toArray,List.set_cons_zero,List.set_cons_succ])
   refine wpAnyH_done (by kernel_rfl) ?_ _
   go_wp2_with fail
   go_meet
   exact ⟨rfl,hidOf ⟨y1.heap.size,av0,cv0,bu0,du0,rfl,(((((((Jy8.set0 _).set1 _).set2 _).set3 _).set4 _).set5 _).set6 _),hRJ,(((((((AA.far hlt _ _).far hlt _ _).far hlt _ _).far hlt _ _).far hlt _ _).far hlt _ _).far hlt _ _).mono (Ey7).size,(((((((AB.far hlt _ _).far hlt _ _).far hlt _ _).far hlt _ _).far hlt _ _).far hlt _ _).far hlt _ _).mono (Ey7).size,fun q hq => by have := (World.ownsRow.lt AA q hq).1; omega,fun q hq => by have := (World.ownsRow.lt AB q hq).1; omega,(below_far (below_far (below_far (below_far (below_far (below_far (below_far Ey8 (by omega) _ _) (by omega) _ _) (by omega) _ _) (by omega) _ _) (by omega) _ _) (by omega) _ _) (by omega) _ _)⟩⟩
  refine AllReadyH.cons (o := { dst := some 6,op := Go.Op.alloc 38,type := 0,pos := "exact.go:2116",after := #[],guard := none }) rfl (fun K' hK => ?_) AllReadyH.nil
  go_simp
  refine hK.out _ _ ?_ (fun hHeld => ?_)
  ·exact SA.out _ (E0.out.alloc E0.out.size _)
  clear hK K'
  refine wpAnyH_ready (rs := [1]) (by kernel_rfl) (by simp) ?_
  refine AllReadyH.cons (o := { dst := some 23,op := Go.Op.call { callee := Go.Callee.value (Go.Operand.func 42),args := #[Go.Operand.tmp 22],argTypes := #[69] },type := 38,pos := "exact.go:2116",after := #[{ on := 0,ground := Go.Ground.data }],guard := none }) rfl (fun K' hK => ?_) AllReadyH.nil
  go_simp
  refine (TBK.out _ (E0.out.alloc E0.out.size _)).mono ?_
  rintro e y9 ⟨R1,R2,rfl,TA,TO,Ex,Ey9⟩
  have Jy9 : BxZ y9 w1.heap.size := (Box7.new w1.drew _ _ _ _ _ _ _ 38).kept Ex (by simp)
  go_wp2_with fail
  refine hK.out _ _ ?_ (fun hHeld => ?_)
  ·exact SA.out _ Ey9
  clear hK K'
  refine wpAnyH_ready (rs := [3]) (by kernel_rfl) (by simp) ?_
  refine AllReadyH.cons (o := { dst := some 25,op := Go.Op.call { callee := Go.Callee.value (Go.Operand.func 46),args := #[Go.Operand.tmp 24],argTypes := #[77] },type := 51,pos := "exact.go:2116",after := #[{ on := 2,ground := Go.Ground.data },{ on := 1,ground := Go.Ground.chain }],guard := none }) rfl (fun K' hK => ?_) AllReadyH.nil
  go_simp
  refine (TOBK.out _ Ey9).mono ?_
  rintro e y10 ⟨rfl,Ex,Ey10⟩
  have TA10 := TA.below Ex
  have TO10 := TO.below Ex
  have Jy10 : BxZ y10 w1.heap.size := Jy9.kept Ex (by exact Jy9.2.2)
  go_wp2_with fail
  refine hK.out _ _ ?_ (fun hHeld => ?_)
  ·exact SA.out _ Ey10
  clear hK K'
  refine wpAnyH_ready (rs := [4]) (by kernel_rfl) (by simp) ?_
  refine AllReadyH.cons (o := { dst := some 26,op := Go.Op.call { callee := Go.Callee.value (Go.Operand.func 30),args := #[Go.Operand.tmp 23,Go.Operand.tmp 25],argTypes := #[38,51] },type := 54,pos := "exact.go:2116",after := #[{ on := 1,ground := Go.Ground.data },{ on := 3,ground := Go.Ground.data },{ on := 3,ground := Go.Ground.chain }],guard := none }) rfl (fun K' hK => ?_) AllReadyH.nil
  go_simp
  refine (RNK.out _ _ _ Ey10 TA10 TO10).mono ?_
  rintro e y11 ⟨av0,cv0,bu0,du0,rfl,AA,AB,Ex,Ey11⟩
  have hlt : w1.heap.size < y10.heap.size := Jy10.2.2
  have Jy11 : BxZ y11 w1.heap.size := Jy10.kept Ex (by exact Jy10.2.2)
  go_wp2_with fail
  refine hK.out _ _ ?_ (fun hHeld => ?_)
  ·exact SA.out _ Ey11
  clear hK K'
  refine wpAnyH_take (i := 5) (oi := { dst := some 21,op := Go.Op.move (Go.Operand.tmp 26),type := 54,pos := "exact.go:2116",after := #[{ on := 4,ground := Go.Ground.data }],guard := none }) (v := ?_) rfl (by kernel_rfl) (by kernel_rfl) (by kernel_rfl) (fun _ _ _ h => h) (Or.inl ⟨by rfl,?_⟩) (by assumption) ?_
  rotate_left
  ·intro wq hSw
   simp only [RgS] at hSw
   go_simp
   all_goals (with_reducible rfl)
  (try simp only [Act.put,List.setIfInBounds_toArray,List.set_cons_zero,List.set_cons_succ])
  refine wpAnyH_take (i := 6) (oi := { dst := some 27,op := Go.Op.extract (Go.Operand.tmp 21) 0,type := 38,pos := "exact.go:2116",after := #[{ on := 5,ground := Go.Ground.data }],guard := none }) (v := ?_) rfl (by kernel_rfl) (by kernel_rfl) (by kernel_rfl) (fun _ _ _ h => h) (Or.inl ⟨by rfl,?_⟩) (by assumption) ?_
  rotate_left
  ·intro wq hSw
   simp only [RgS] at hSw
   go_simp
   all_goals (with_reducible rfl)
  (try simp only [Act.put,List.setIfInBounds_toArray,List.set_cons_zero,List.set_cons_succ])
  refine wpAnyH_take (i := 7) (oi := { dst := some 28,op := Go.Op.extract (Go.Operand.tmp 21) 1,type := 2,pos := "exact.go:2116",after := #[{ on := 5,ground := Go.Ground.data },{ on := 9,ground := Go.Ground.gcOnly Go.Departure.lateStores }],guard := none }) (v := ?_) rfl (by kernel_rfl) (by kernel_rfl) (by kernel_rfl) (fun _ _ _ h => h) (Or.inl ⟨by rfl,?_⟩) (by assumption) ?_
  rotate_left
  ·intro wq hSw
   simp only [RgS] at hSw
   go_simp
   all_goals (with_reducible rfl)
  (try simp only [Act.put,List.setIfInBounds_toArray,List.set_cons_zero,List.set_cons_succ])
  refine wpAnyH_ready (rs := [9]) (by kernel_rfl) (by simp) ?_
  refine AllReadyH.cons (o := { dst := none,op := Go.Op.store 38 (Go.Operand.tmp 6) (Go.Operand.tmp 27),type := 0,pos := "exact.go:2116",after := #[{ on := 8,ground := Go.Ground.data },{ on := 6,ground := Go.Ground.data },{ on := 4,ground := Go.Ground.chain },{ on := 0,ground := Go.Ground.phase },{ on := 1,ground := Go.Ground.phase },{ on := 2,ground := Go.Ground.phase },{ on := 3,ground := Go.Ground.phase },{ on := 4,ground := Go.Ground.phase },{ on := 5,ground := Go.Ground.phase },{ on := 6,ground := Go.Ground.phase },{ on := 7,ground := Go.Ground.textOnly Go.Departure.lateStores },{ on := 8,ground := Go.Ground.phase }],guard := none }) rfl (fun K' hK => ?_) AllReadyH.nil
  obtain ⟨⟨j0,j1,j2,j3,j4,j5,j6⟩,jf,jz⟩ := id Jy11
  have hRJ : w1.heap.size <= w1.heap.size := Nat.le_refl _
  go_simp
  refine hK.out _ _ ?_ (fun hHeld => ?_)
  ·exact SA.out _ (below_far (below_far (below_far (below_far (below_far (below_far (below_far Ey11 (by omega) _ _) (by omega) _ _) (by omega) _ _) (by omega) _ _) (by omega) _ _) (by omega) _ _) (by omega) _ _)
  clear hK K'
  refine wpAnyH_take (i := 10) (oi := { dst := some 7,op := Go.Op.assign (Go.Operand.tmp 28),type := 2,pos := "exact.go:2116",after := #[{ on := 7,ground := Go.Ground.data },{ on := 9,ground := Go.Ground.chain },{ on := 0,ground := Go.Ground.phase },{ on := 1,ground := Go.Ground.phase },{ on := 2,ground := Go.Ground.phase },{ on := 3,ground := Go.Ground.phase },{ on := 4,ground := Go.Ground.phase },{ on := 5,ground := Go.Ground.phase },{ on := 6,ground := Go.Ground.phase },{ on := 7,ground := Go.Ground.phase },{ on := 8,ground := Go.Ground.phase },{ on := 9,ground := Go.Ground.phase }],guard := none }) (v := ?_) rfl (by kernel_rfl) (by kernel_rfl) (by kernel_rfl) (fun _ _ _ h => h) (Or.inl ⟨by rfl,?_⟩) (by assumption) ?_
  rotate_left
  ·intro wq hSw
   simp only [RgS] at hSw
   go_simp
   all_goals (with_reducible rfl)
  (try simp only [Act.put,List.setIfInBounds_toArray,List.set_cons_zero,List.set_cons_succ])
  refine wpAnyH_done (by kernel_rfl) ?_ _
  go_wp2_with fail
  go_meet
  exact ⟨rfl,hidOf ⟨w1.heap.size,av0,cv0,bu0,du0,rfl,(((((((Jy11.set0 _).set1 _).set2 _).set3 _).set4 _).set5 _).set6 _),hRJ,(((((((AA.far hlt _ _).far hlt _ _).far hlt _ _).far hlt _ _).far hlt _ _).far hlt _ _).far hlt _ _).mono (Ey10).size,(((((((AB.far hlt _ _).far hlt _ _).far hlt _ _).far hlt _ _).far hlt _ _).far hlt _ _).far hlt _ _).mono (Ey10).size,fun q hq => by have := (World.ownsRow.lt AA q hq).1; omega,fun q hq => by have := (World.ownsRow.lt AB q hq).1; omega,(below_far (below_far (below_far (below_far (below_far (below_far (below_far Ey11 (by omega) _ _) (by omega) _ _) (by omega) _ _) (by omega) _ _) (by omega) _ _) (by omega) _ _) (by omega) _ _)⟩⟩
 obtain ⟨w2,hw2⟩ : ∃ w2,w2 = wc := ⟨_,rfl⟩
 subst hw2
 obtain ⟨rfl,hcutx⟩ := hcut
 obtain ⟨rJ0,av0,cv0,bu0,du0,rfl,hJbx,hJle,hJA,hJO,hJa,hJo,E⟩ := hcutx.out
 have BB2 := hidOf (BB1.out.trans (E.mono BB1.out.size))
 have z2 : w1.heap.size <= w2.heap.size := E.size
 have J0 := hidOf hJA
 have J1 := hidOf hJO
 have JB := hidOf hJbx
 have NJ0 := hidOf hJa
 have NJ1 := hidOf hJo
 have yJ0 : w1.heap.size <= rJ0 /\ rJ0 < w2.heap.size := ⟨hJle,hJbx.2.2⟩
 have LJ0 : Hid (∀ q,(Value.slice av0 G.length cv0).ownBlock = some q -> w1.heap.size <= q /\ q < w2.heap.size) := fun q hq => World.ownsRow.lt J0.out q hq
 have LJ1 : Hid (∀ q,(Value.slice bu0 H.length du0).ownBlock = some q -> w1.heap.size <= q /\ q < w2.heap.size) := fun q hq => World.ownsRow.lt J1.out q hq
 replace Z := hidOf (Z.out.kept E (by omega))
 replace ZO := hidOf (ZO.out.kept E (by omega))
 clear E BB1 SA E0 BG TOBK RNK hcutx hJbx hJle hJA hJO hJa hJo TBK
 obtain ⟨⟨Zc0,Zc1,Zc2,Zc3,Zc4,Zc5,Zc6⟩,Zcf,Zcz⟩ := Z.out
 go_wp2_with fail
 refine (toBank a b L.length c O.length d (FL L) (OrdF O) k _ (F0.out.below BB2.out) (O0.out.below BB2.out)).mono ?_
 rintro e w3 ⟨rX0,rX1,rfl,RA,RB,hr1,hr2,E⟩
 clear Zc0 Zc1 Zc2 Zc3 Zc4 Zc5 Zc6 Zcf Zcz
 have BB3 := hidOf (BB2.out.trans (E.mono BB2.out.size))
 have z3 : w2.heap.size <= w3.heap.size := E.size
 have X0 := hidOf RA
 have X1 := hidOf RB
 replace Z := hidOf (Z.out.kept E (by omega))
 replace ZO := hidOf (ZO.out.kept E (by omega))
 replace J0 := hidOf (J0.out.kept E)
 replace J1 := hidOf (J1.out.kept E)
 replace JB := hidOf (JB.out.kept E (by omega))
 clear E BB2 RA RB
 have yX0 : w2.heap.size <= rX0 /\ rX0 < rX1 /\ rX1 < w3.heap.size := ⟨hr1,hr2,X1.out.2.2.1⟩
 clear hr1 hr2
 obtain ⟨w4,hw4⟩ : ∃ w4,w4 = w3.alloc (.cells #[.int .i64 k.day,.slice (some ⟨rX0,0,none⟩) L.length L.length,.slice (some ⟨rX1,0,none⟩) O.length O.length,.int .i64 k.inn,.int .i64 k.out,.int .i64 k.posted,.int .i64 k.missed] 38) := ⟨_,rfl⟩
 have E : Below w3.heap.size w3 w4 := by rw [hw4]; exact (Below.refl _ _).alloc (Nat.le_refl _) _
 have z4 : w3.heap.size + 1 <= w4.heap.size /\ w4.heap.size <= w3.heap.size + 1 := by rw [hw4]; simp
 have BB4 := hidOf (BB3.out.trans (E.mono BB3.out.size))
 have XB : Hid (BxK w4 w3.heap.size (.slice (some ⟨rX0,0,none⟩) L.length L.length) (.slice (some ⟨rX1,0,none⟩) O.length O.length) k) := by show Box7 _ _ _ _ _ _ _ _ _; rw [hw4]; exact Box7.new w3 _ _ _ _ _ _ _ 38
 replace Z := hidOf (Z.out.kept E (by omega))
 replace ZO := hidOf (ZO.out.kept E (by omega))
 replace J0 := hidOf (J0.out.kept E)
 replace J1 := hidOf (J1.out.kept E)
 replace JB := hidOf (JB.out.kept E (by omega))
 replace X0 := hidOf (X0.out.below E)
 replace X1 := hidOf (X1.out.below E)
 have Hw4 := hidOf hw4
 clear E BB3 hw4
 go_upto_region 7 with fail
 rw [← Hw4.out]
 clear Hw4
 have SA : Hid (∀ V,Below w4.heap.size w4 V -> RgS V w3.heap.size (w.heap.size + 1) (.slice (some ⟨rX0,0,none⟩) L.length L.length) (.slice (some ⟨rX1,0,none⟩) O.length O.length) k KK x o n) := fun V h => ⟨(XB.out.kept h XB.out.2.2).1,(ZO.out.kept h ZO.out.2).1⟩
 have E0 : Hid (Below w4.heap.size w4 w4.drew) := ⟨rfl,rfl,rfl,Nat.le_refl _,fun _ _ => rfl⟩
 have BG : Hid (∀ V,Below w4.heap.size w4 V -> Below w.heap.size w V) := fun V h => BB4.out.trans (h.mono BB4.out.size)
 have TOBK : Hid (∀ X,Below w4.heap.size w4 X -> Calls Tryz.prog 46 #[.agg #[.int .i64 KK,.int .i64 x.k,.int .i64 x.i,.int .i64 x.t,.int .i64 x.m,.int .i64 x.r,.int .i64 o.id,.int .i64 o.src,.int .i64 o.dst,.int .i64 o.amount,.int .i64 o.first,.int .i64 o.every,.int .i64 o.times,.int .i64 n]] X fun e w' => e = .returned (.agg #[.int .i64 KK,.int .i64 x.k,.int .i64 x.i,.int .i64 x.t,.int .i64 x.m,.int .i64 x.r,.int .i64 o.id,.int .i64 o.src,.int .i64 o.dst,.int .i64 o.amount,.int .i64 o.first,.int .i64 o.every,.int .i64 o.times,.int .i64 n]) /\ Below X.heap.size X w' /\ Below w4.heap.size w4 w') := fun X hX => (TOB.out X).mono fun e w' h => ⟨h.1,h.2,hX.trans (h.2.mono hX.size)⟩
 have RNK : Hid (∀ X R1 R2,Below w4.heap.size w4 X -> Row X R1 L.length L.length (FL L) -> RowOrd X R2 O.length O.length (OrdF O) -> Calls Tryz.prog 29 #[.agg #[.int .i64 k.day,.slice (some ⟨R1,0,none⟩) L.length L.length,.slice (some ⟨R2,0,none⟩) O.length O.length,.int .i64 k.inn,.int .i64 k.out,.int .i64 k.posted,.int .i64 k.missed],.agg #[.int .i64 KK,.int .i64 x.k,.int .i64 x.i,.int .i64 x.t,.int .i64 x.m,.int .i64 x.r,.int .i64 o.id,.int .i64 o.src,.int .i64 o.dst,.int .i64 o.amount,.int .i64 o.first,.int .i64 o.every,.int .i64 o.times,.int .i64 n]] X fun e w' => ∃ av cv bu du,e = .returned (.tuple #[.agg #[.int .i64 K.day,.slice av G.length cv,.slice bu H.length du,.int .i64 K.inn,.int .i64 K.out,.int .i64 K.posted,.int .i64 K.missed],.int .i64 cd]) /\ AL w' X.heap.size (.slice av G.length cv) G /\ OrdL w' X.heap.size (.slice bu H.length du) H /\ Below X.heap.size X w' /\ Below w4.heap.size w4 w') := fun X R1 R2 hX h1 h2 => (IM.out X R1 R2 (h1.fo hn') (h2.list hm') (G0.out.below (BG.out X hX))).mono fun e w' ⟨v,u,h3,h4,h5,h6⟩ => by
  obtain ⟨av,cv,rfl⟩ := AL.len h4
  obtain ⟨bu,du,rfl⟩ := OrdL.len h5
  exact ⟨av,cv,bu,du,h3,h4,h5,h6,hX.trans (h6.mono hX.size)⟩
 go_cut [9,10] (fun s6 s7 wx => s7 = .int .i64 cd /\ Hid (∃ rJ1 av1 cv1 bu1 du1,s6 = .pointer (some ⟨rJ1,0,none⟩) /\ BxK wx rJ1 (.slice av1 G.length cv1) (.slice bu1 H.length du1) K /\ w4.heap.size <= rJ1 /\ AL wx w4.heap.size (.slice av1 G.length cv1) G /\ OrdL wx w4.heap.size (.slice bu1 H.length du1) H /\ (∀ q,(Value.slice av1 G.length cv1).ownBlock = some q -> q ≠ rJ1) /\ (∀ q,(Value.slice bu1 H.length du1).ownBlock = some q -> q ≠ rJ1) /\ Below w4.heap.size w4 wx))
 case first =>
  refine wp_region_held_drew (S := fun V => RgS V w3.heap.size (w.heap.size + 1) (.slice (some ⟨rX0,0,none⟩) L.length L.length) (.slice (some ⟨rX1,0,none⟩) O.length O.length) k KK x o n) (by kernel_rfl) (SA.out _ E0.out) (fun hHeld => ?_)
  refine wpAnyH_take (i := 0) (oi := { dst := some 32,op := Go.Op.load 38 (Go.Operand.tmp 8),type := 38,pos := "exact.go:2118",after := #[],guard := none }) (v := ?_) rfl (by kernel_rfl) (by kernel_rfl) (by kernel_rfl) (fun _ _ _ h => h) (Or.inl ⟨by rfl,?_⟩) (by assumption) ?_
  rotate_left
  ·intro wq hSw
   simp only [RgS] at hSw
   go_simp
   all_goals (with_reducible rfl)
  (try simp only [Act.put,List.setIfInBounds_toArray,List.set_cons_zero,List.set_cons_succ])
  refine wpAnyH_take (i := 1) (oi := { dst := some 33,op := Go.Op.load 77 (Go.Operand.tmp 3),type := 77,pos := "exact.go:2118",after := #[],guard := none }) (v := ?_) rfl (by kernel_rfl) (by kernel_rfl) (by kernel_rfl) (fun _ _ _ h => h) (Or.inl ⟨by rfl,?_⟩) (by assumption) ?_
  rotate_left
  ·intro wq hSw
   simp only [RgS] at hSw
   go_simp
   all_goals (with_reducible rfl)
  (try simp only [Act.put,List.setIfInBounds_toArray,List.set_cons_zero,List.set_cons_succ])
  refine wpAnyH_ready (rs := [2,7]) (by kernel_rfl) (by simp) ?_
  refine AllReadyH.cons (o := { dst := some 34,op := Go.Op.call { callee := Go.Callee.value (Go.Operand.func 46),args := #[Go.Operand.tmp 33],argTypes := #[77] },type := 51,pos := "exact.go:2118",after := #[{ on := 1,ground := Go.Ground.data }],guard := none }) rfl (fun K' hK => ?_) ?_
  ·skip
   go_simp
   refine (TOBK.out _ E0.out).mono ?_
   rintro e y1 ⟨rfl,Ex,Ey1⟩
   go_wp2_with fail
   refine hK.out _ _ ?_ (fun hHeld => ?_)
   ·exact SA.out _ Ey1
   clear hK K'
   refine wpAnyH_ready (rs := [3,7]) (by kernel_rfl) (by simp) ?_
   refine AllReadyH.cons (o := { dst := some 35,op := Go.Op.call { callee := Go.Callee.value (Go.Operand.func 29),args := #[Go.Operand.tmp 32,Go.Operand.tmp 34],argTypes := #[38,51] },type := 54,pos := "exact.go:2118",after := #[{ on := 0,ground := Go.Ground.data },{ on := 2,ground := Go.Ground.data },{ on := 2,ground := Go.Ground.chain }],guard := none }) rfl (fun K' hK => ?_) ?_
   ·skip
    go_simp
    refine (RNK.out _ _ _ Ey1 (X0.out.below Ey1) (X1.out.below Ey1)).mono ?_
    rintro e y2 ⟨av1,cv1,bu1,du1,rfl,AA,AB,Ex,Ey2⟩
    go_wp2_with fail
    refine hK.out _ _ ?_ (fun hHeld => ?_)
    ·exact SA.out _ Ey2
    clear hK K'
    refine wpAnyH_take (i := 4) (oi := { dst := some 31,op := Go.Op.move (Go.Operand.tmp 35),type := 54,pos := "exact.go:2118",after := #[{ on := 3,ground := Go.Ground.data }],guard := none }) (v := ?_) rfl (by kernel_rfl) (by kernel_rfl) (by kernel_rfl) (fun _ _ _ h => h) (Or.inl ⟨by rfl,?_⟩) (by assumption) ?_
    rotate_left
    ·intro wq hSw
     simp only [RgS] at hSw
     go_simp
     all_goals (with_reducible rfl)
    (try simp only [Act.put,List.setIfInBounds_toArray,List.set_cons_zero,List.set_cons_succ])
    refine wpAnyH_take (i := 5) (oi := { dst := some 36,op := Go.Op.extract (Go.Operand.tmp 31) 0,type := 38,pos := "exact.go:2118",after := #[{ on := 4,ground := Go.Ground.data }],guard := none }) (v := ?_) rfl (by kernel_rfl) (by kernel_rfl) (by kernel_rfl) (fun _ _ _ h => h) (Or.inl ⟨by rfl,?_⟩) (by assumption) ?_
    rotate_left
    ·intro wq hSw
     simp only [RgS] at hSw
     go_simp
     all_goals (with_reducible rfl)
    (try simp only [Act.put,List.setIfInBounds_toArray,List.set_cons_zero,List.set_cons_succ])
    refine wpAnyH_take (i := 6) (oi := { dst := some 37,op := Go.Op.extract (Go.Operand.tmp 31) 1,type := 2,pos := "exact.go:2118",after := #[{ on := 4,ground := Go.Ground.data },{ on := 8,ground := Go.Ground.gcOnly Go.Departure.lateStores }],guard := none }) (v := ?_) rfl (by kernel_rfl) (by kernel_rfl) (by kernel_rfl) (fun _ _ _ h => h) (Or.inl ⟨by rfl,?_⟩) (by assumption) ?_
    rotate_left
    ·intro wq hSw
     simp only [RgS] at hSw
     go_simp
     all_goals (with_reducible rfl)
    (try simp only [Act.put,List.setIfInBounds_toArray,List.set_cons_zero,List.set_cons_succ])
    refine wpAnyH_ready (rs := [7]) (by kernel_rfl) (by simp) ?_
    refine AllReadyH.cons (o := { dst := some 9,op := Go.Op.alloc 38,type := 0,pos := "exact.go:2118",after := #[],guard := none }) rfl (fun K' hK => ?_) AllReadyH.nil
    go_simp
    refine hK.out _ _ ?_ (fun hHeld => ?_)
    ·exact SA.out _ (Ey2.alloc Ey2.size _)
    clear hK K'
    refine wpAnyH_ready (rs := [8]) (by kernel_rfl) (by simp) ?_
    refine AllReadyH.cons (o := { dst := none,op := Go.Op.store 38 (Go.Operand.tmp 9) (Go.Operand.tmp 36),type := 0,pos := "exact.go:2118",after := #[{ on := 7,ground := Go.Ground.data },{ on := 5,ground := Go.Ground.data },{ on := 3,ground := Go.Ground.chain },{ on := 0,ground := Go.Ground.phase },{ on := 1,ground := Go.Ground.phase },{ on := 2,ground := Go.Ground.phase },{ on := 3,ground := Go.Ground.phase },{ on := 4,ground := Go.Ground.phase },{ on := 5,ground := Go.Ground.phase },{ on := 6,ground := Go.Ground.textOnly Go.Departure.lateStores },{ on := 7,ground := Go.Ground.phase }],guard := none }) rfl (fun K' hK => ?_) AllReadyH.nil
    go_simp
    refine hK.out _ _ ?_ (fun hHeld => ?_)
    ·exact SA.out _ (Ey2.alloc Ey2.size _)
    clear hK K'
    refine wpAnyH_take (i := 9) (oi := { dst := some 10,op := Go.Op.assign (Go.Operand.tmp 37),type := 2,pos := "exact.go:2118",after := #[{ on := 6,ground := Go.Ground.data },{ on := 8,ground := Go.Ground.chain },{ on := 0,ground := Go.Ground.phase },{ on := 1,ground := Go.Ground.phase },{ on := 2,ground := Go.Ground.phase },{ on := 3,ground := Go.Ground.phase },{ on := 4,ground := Go.Ground.phase },{ on := 5,ground := Go.Ground.phase },{ on := 6,ground := Go.Ground.phase },{ on := 7,ground := Go.Ground.phase },{ on := 8,ground := Go.Ground.phase }],guard := none }) (v := ?_) rfl (by kernel_rfl) (by kernel_rfl) (by kernel_rfl) (fun _ _ _ h => h) (Or.inl ⟨by rfl,?_⟩) (by assumption) ?_
    rotate_left
    ·intro wq hSw
     simp only [RgS] at hSw
     go_simp
     all_goals (with_reducible rfl)
    (try simp only [Act.put,List.setIfInBounds_toArray,List.set_cons_zero,List.set_cons_succ])
    refine wpAnyH_done (by kernel_rfl) ?_ _
    go_wp2_with fail
    go_meet
    exact ⟨rfl,hidOf ⟨y2.heap.size,av1,cv1,bu1,du1,rfl,Box7.new y2 _ _ _ _ _ _ _ 38,Ey2.size,(AA.kept ((Below.refl _ _).alloc (Nat.le_refl _) _)).mono (Ey1).size,(AB.kept ((Below.refl _ _).alloc (Nat.le_refl _) _)).mono (Ey1).size,fun q hq => by have := (World.ownsRow.lt AA q hq).2; omega,fun q hq => by have := (World.ownsRow.lt AB q hq).2; omega,(Ey2.alloc Ey2.size _)⟩⟩
   refine AllReadyH.cons (o := { dst := some 9,op := Go.Op.alloc 38,type := 0,pos := "exact.go:2118",after := #[],guard := none }) rfl (fun K' hK => ?_) AllReadyH.nil
   go_simp
   refine hK.out _ _ ?_ (fun hHeld => ?_)
   ·exact SA.out _ (Ey1.alloc Ey1.size _)
   clear hK K'
   have TA3 := Row.below (X0.out.below Ey1) ((Below.refl _ _).alloc (Nat.le_refl _) (.cells #[.int .i64 0,.slice none 0 0,.slice none 0 0,.int .i64 0,.int .i64 0,.int .i64 0,.int .i64 0] 38))
   have TO3 := RowOrd.below (X1.out.below Ey1) ((Below.refl _ _).alloc (Nat.le_refl _) (.cells #[.int .i64 0,.slice none 0 0,.slice none 0 0,.int .i64 0,.int .i64 0,.int .i64 0,.int .i64 0] 38))
   refine wpAnyH_ready (rs := [3]) (by kernel_rfl) (by simp) ?_
   refine AllReadyH.cons (o := { dst := some 35,op := Go.Op.call { callee := Go.Callee.value (Go.Operand.func 29),args := #[Go.Operand.tmp 32,Go.Operand.tmp 34],argTypes := #[38,51] },type := 54,pos := "exact.go:2118",after := #[{ on := 0,ground := Go.Ground.data },{ on := 2,ground := Go.Ground.data },{ on := 2,ground := Go.Ground.chain }],guard := none }) rfl (fun K' hK => ?_) AllReadyH.nil
   go_simp
   refine (RNK.out _ _ _ (Ey1.alloc Ey1.size _) TA3 TO3).mono ?_
   rintro e y4 ⟨av1,cv1,bu1,du1,rfl,AA,AB,Ex,Ey4⟩
   have hlt : y1.heap.size < (y1.alloc (.cells #[.int .i64 0,.slice none 0 0,.slice none 0 0,.int .i64 0,.int .i64 0,.int .i64 0,.int .i64 0] 38)).heap.size := by simp
   have Jy4 : BxZ y4 y1.heap.size := (Box7.new y1 _ _ _ _ _ _ _ 38).kept Ex (by simp)
   go_wp2_with fail
   refine hK.out _ _ ?_ (fun hHeld => ?_)
   ·exact SA.out _ Ey4
   clear hK K'
   refine wpAnyH_take (i := 4) (oi := { dst := some 31,op := Go.Op.move (Go.Operand.tmp 35),type := 54,pos := "exact.go:2118",after := #[{ on := 3,ground := Go.Ground.data }],guard := none }) (v := ?_) rfl (by kernel_rfl) (by kernel_rfl) (by kernel_rfl) (fun _ _ _ h => h) (Or.inl ⟨by rfl,?_⟩) (by assumption) ?_
   rotate_left
   ·intro wq hSw
    simp only [RgS] at hSw
    go_simp
    all_goals (with_reducible rfl)
   (try simp only [Act.put,List.setIfInBounds_toArray,List.set_cons_zero,List.set_cons_succ])
   refine wpAnyH_take (i := 5) (oi := { dst := some 36,op := Go.Op.extract (Go.Operand.tmp 31) 0,type := 38,pos := "exact.go:2118",after := #[{ on := 4,ground := Go.Ground.data }],guard := none }) (v := ?_) rfl (by kernel_rfl) (by kernel_rfl) (by kernel_rfl) (fun _ _ _ h => h) (Or.inl ⟨by rfl,?_⟩) (by assumption) ?_
   rotate_left
   ·intro wq hSw
    simp only [RgS] at hSw
    go_simp
    all_goals (with_reducible rfl)
   (try simp only [Act.put,List.setIfInBounds_toArray,List.set_cons_zero,List.set_cons_succ])
   refine wpAnyH_take (i := 6) (oi := { dst := some 37,op := Go.Op.extract (Go.Operand.tmp 31) 1,type := 2,pos := "exact.go:2118",after := #[{ on := 4,ground := Go.Ground.data },{ on := 8,ground := Go.Ground.gcOnly Go.Departure.lateStores }],guard := none }) (v := ?_) rfl (by kernel_rfl) (by kernel_rfl) (by kernel_rfl) (fun _ _ _ h => h) (Or.inl ⟨by rfl,?_⟩) (by assumption) ?_
   rotate_left
   ·intro wq hSw
    simp only [RgS] at hSw
    go_simp
    all_goals (with_reducible rfl)
   (try simp only [Act.put,List.setIfInBounds_toArray,List.set_cons_zero,List.set_cons_succ])
   refine wpAnyH_ready (rs := [8]) (by kernel_rfl) (by simp) ?_
   refine AllReadyH.cons (o := { dst := none,op := Go.Op.store 38 (Go.Operand.tmp 9) (Go.Operand.tmp 36),type := 0,pos := "exact.go:2118",after := #[{ on := 7,ground := Go.Ground.data },{ on := 5,ground := Go.Ground.data },{ on := 3,ground := Go.Ground.chain },{ on := 0,ground := Go.Ground.phase },{ on := 1,ground := Go.Ground.phase },{ on := 2,ground := Go.Ground.phase },{ on := 3,ground := Go.Ground.phase },{ on := 4,ground := Go.Ground.phase },{ on := 5,ground := Go.Ground.phase },{ on := 6,ground := Go.Ground.textOnly Go.Departure.lateStores },{ on := 7,ground := Go.Ground.phase }],guard := none }) rfl (fun K' hK => ?_) AllReadyH.nil
   obtain ⟨⟨j0,j1,j2,j3,j4,j5,j6⟩,jf,jz⟩ := id Jy4
   have hRJ : w4.heap.size <= y1.heap.size := Ey1.size
   go_simp
   refine hK.out _ _ ?_ (fun hHeld => ?_)
   ·exact SA.out _ (below_far (below_far (below_far (below_far (below_far (below_far (below_far Ey4 (by omega) _ _) (by omega) _ _) (by omega) _ _) (by omega) _ _) (by omega) _ _) (by omega) _ _) (by omega) _ _)
   clear hK K'
   refine wpAnyH_take (i := 9) (oi := { dst := some 10,op := Go.Op.assign (Go.Operand.tmp 37),type := 2,pos := "exact.go:2118",after := #[{ on := 6,ground := Go.Ground.data },{ on := 8,ground := Go.Ground.chain },{ on := 0,ground := Go.Ground.phase },{ on := 1,ground := Go.Ground.phase },{ on := 2,ground := Go.Ground.phase },{ on := 3,ground := Go.Ground.phase },{ on := 4,ground := Go.Ground.phase },{ on := 5,ground := Go.Ground.phase },{ on := 6,ground := Go.Ground.phase },{ on := 7,ground := Go.Ground.phase },{ on := 8,ground := Go.Ground.phase }],guard := none }) (v := ?_) rfl (by kernel_rfl) (by kernel_rfl) (by kernel_rfl) (fun _ _ _ h => h) (Or.inl ⟨by rfl,?_⟩) (by assumption) ?_
   rotate_left
   ·intro wq hSw
    simp only [RgS] at hSw
    go_simp
    all_goals (with_reducible rfl)
   (try simp only [Act.put,List.setIfInBounds_toArray,List.set_cons_zero,List.set_cons_succ])
   refine wpAnyH_done (by kernel_rfl) ?_ _
   go_wp2_with fail
   go_meet
   exact ⟨rfl,hidOf ⟨y1.heap.size,av1,cv1,bu1,du1,rfl,(((((((Jy4.set0 _).set1 _).set2 _).set3 _).set4 _).set5 _).set6 _),hRJ,(((((((AA.far hlt _ _).far hlt _ _).far hlt _ _).far hlt _ _).far hlt _ _).far hlt _ _).far hlt _ _).mono ((Ey1.alloc Ey1.size _)).size,(((((((AB.far hlt _ _).far hlt _ _).far hlt _ _).far hlt _ _).far hlt _ _).far hlt _ _).far hlt _ _).mono ((Ey1.alloc Ey1.size _)).size,fun q hq => by have := (World.ownsRow.lt AA q hq).1; omega,fun q hq => by have := (World.ownsRow.lt AB q hq).1; omega,(below_far (below_far (below_far (below_far (below_far (below_far (below_far Ey4 (by omega) _ _) (by omega) _ _) (by omega) _ _) (by omega) _ _) (by omega) _ _) (by omega) _ _) (by omega) _ _)⟩⟩
  refine AllReadyH.cons (o := { dst := some 9,op := Go.Op.alloc 38,type := 0,pos := "exact.go:2118",after := #[],guard := none }) rfl (fun K' hK => ?_) AllReadyH.nil
  go_simp
  refine hK.out _ _ ?_ (fun hHeld => ?_)
  ·exact SA.out _ (E0.out.alloc E0.out.size _)
  clear hK K'
  refine wpAnyH_ready (rs := [2]) (by kernel_rfl) (by simp) ?_
  refine AllReadyH.cons (o := { dst := some 34,op := Go.Op.call { callee := Go.Callee.value (Go.Operand.func 46),args := #[Go.Operand.tmp 33],argTypes := #[77] },type := 51,pos := "exact.go:2118",after := #[{ on := 1,ground := Go.Ground.data }],guard := none }) rfl (fun K' hK => ?_) AllReadyH.nil
  go_simp
  refine (TOBK.out _ (E0.out.alloc E0.out.size _)).mono ?_
  rintro e y5 ⟨rfl,Ex,Ey5⟩
  have Jy5 : BxZ y5 w4.heap.size := (Box7.new w4.drew _ _ _ _ _ _ _ 38).kept Ex (by simp)
  go_wp2_with fail
  refine hK.out _ _ ?_ (fun hHeld => ?_)
  ·exact SA.out _ Ey5
  clear hK K'
  refine wpAnyH_ready (rs := [3]) (by kernel_rfl) (by simp) ?_
  refine AllReadyH.cons (o := { dst := some 35,op := Go.Op.call { callee := Go.Callee.value (Go.Operand.func 29),args := #[Go.Operand.tmp 32,Go.Operand.tmp 34],argTypes := #[38,51] },type := 54,pos := "exact.go:2118",after := #[{ on := 0,ground := Go.Ground.data },{ on := 2,ground := Go.Ground.data },{ on := 2,ground := Go.Ground.chain }],guard := none }) rfl (fun K' hK => ?_) AllReadyH.nil
  go_simp
  refine (RNK.out _ _ _ Ey5 (X0.out.below Ey5) (X1.out.below Ey5)).mono ?_
  rintro e y6 ⟨av1,cv1,bu1,du1,rfl,AA,AB,Ex,Ey6⟩
  have hlt : w4.heap.size < y5.heap.size := Jy5.2.2
  have Jy6 : BxZ y6 w4.heap.size := Jy5.kept Ex (by exact Jy5.2.2)
  go_wp2_with fail
  refine hK.out _ _ ?_ (fun hHeld => ?_)
  ·exact SA.out _ Ey6
  clear hK K'
  refine wpAnyH_take (i := 4) (oi := { dst := some 31,op := Go.Op.move (Go.Operand.tmp 35),type := 54,pos := "exact.go:2118",after := #[{ on := 3,ground := Go.Ground.data }],guard := none }) (v := ?_) rfl (by kernel_rfl) (by kernel_rfl) (by kernel_rfl) (fun _ _ _ h => h) (Or.inl ⟨by rfl,?_⟩) (by assumption) ?_
  rotate_left
  ·intro wq hSw
   simp only [RgS] at hSw
   go_simp
   all_goals (with_reducible rfl)
  (try simp only [Act.put,List.setIfInBounds_toArray,List.set_cons_zero,List.set_cons_succ])
  refine wpAnyH_take (i := 5) (oi := { dst := some 36,op := Go.Op.extract (Go.Operand.tmp 31) 0,type := 38,pos := "exact.go:2118",after := #[{ on := 4,ground := Go.Ground.data }],guard := none }) (v := ?_) rfl (by kernel_rfl) (by kernel_rfl) (by kernel_rfl) (fun _ _ _ h => h) (Or.inl ⟨by rfl,?_⟩) (by assumption) ?_
  rotate_left
  ·intro wq hSw
   simp only [RgS] at hSw
   go_simp
   all_goals (with_reducible rfl)
  (try simp only [Act.put,List.setIfInBounds_toArray,List.set_cons_zero,List.set_cons_succ])
  refine wpAnyH_take (i := 6) (oi := { dst := some 37,op := Go.Op.extract (Go.Operand.tmp 31) 1,type := 2,pos := "exact.go:2118",after := #[{ on := 4,ground := Go.Ground.data },{ on := 8,ground := Go.Ground.gcOnly Go.Departure.lateStores }],guard := none }) (v := ?_) rfl (by kernel_rfl) (by kernel_rfl) (by kernel_rfl) (fun _ _ _ h => h) (Or.inl ⟨by rfl,?_⟩) (by assumption) ?_
  rotate_left
  ·intro wq hSw
   simp only [RgS] at hSw
   go_simp
   all_goals (with_reducible rfl)
  (try simp only [Act.put,List.setIfInBounds_toArray,List.set_cons_zero,List.set_cons_succ])
  refine wpAnyH_ready (rs := [8]) (by kernel_rfl) (by simp) ?_
  refine AllReadyH.cons (o := { dst := none,op := Go.Op.store 38 (Go.Operand.tmp 9) (Go.Operand.tmp 36),type := 0,pos := "exact.go:2118",after := #[{ on := 7,ground := Go.Ground.data },{ on := 5,ground := Go.Ground.data },{ on := 3,ground := Go.Ground.chain },{ on := 0,ground := Go.Ground.phase },{ on := 1,ground := Go.Ground.phase },{ on := 2,ground := Go.Ground.phase },{ on := 3,ground := Go.Ground.phase },{ on := 4,ground := Go.Ground.phase },{ on := 5,ground := Go.Ground.phase },{ on := 6,ground := Go.Ground.textOnly Go.Departure.lateStores },{ on := 7,ground := Go.Ground.phase }],guard := none }) rfl (fun K' hK => ?_) AllReadyH.nil
  obtain ⟨⟨j0,j1,j2,j3,j4,j5,j6⟩,jf,jz⟩ := id Jy6
  have hRJ : w4.heap.size <= w4.heap.size := Nat.le_refl _
  go_simp
  refine hK.out _ _ ?_ (fun hHeld => ?_)
  ·exact SA.out _ (below_far (below_far (below_far (below_far (below_far (below_far (below_far Ey6 (by omega) _ _) (by omega) _ _) (by omega) _ _) (by omega) _ _) (by omega) _ _) (by omega) _ _) (by omega) _ _)
  clear hK K'
  refine wpAnyH_take (i := 9) (oi := { dst := some 10,op := Go.Op.assign (Go.Operand.tmp 37),type := 2,pos := "exact.go:2118",after := #[{ on := 6,ground := Go.Ground.data },{ on := 8,ground := Go.Ground.chain },{ on := 0,ground := Go.Ground.phase },{ on := 1,ground := Go.Ground.phase },{ on := 2,ground := Go.Ground.phase },{ on := 3,ground := Go.Ground.phase },{ on := 4,ground := Go.Ground.phase },{ on := 5,ground := Go.Ground.phase },{ on := 6,ground := Go.Ground.phase },{ on := 7,ground := Go.Ground.phase },{ on := 8,ground := Go.Ground.phase }],guard := none }) (v := ?_) rfl (by kernel_rfl) (by kernel_rfl) (by kernel_rfl) (fun _ _ _ h => h) (Or.inl ⟨by rfl,?_⟩) (by assumption) ?_
  rotate_left
  ·intro wq hSw
   simp only [RgS] at hSw
   go_simp
   all_goals (with_reducible rfl)
  (try simp only [Act.put,List.setIfInBounds_toArray,List.set_cons_zero,List.set_cons_succ])
  refine wpAnyH_done (by kernel_rfl) ?_ _
  go_wp2_with fail
  go_meet
  exact ⟨rfl,hidOf ⟨w4.heap.size,av1,cv1,bu1,du1,rfl,(((((((Jy6.set0 _).set1 _).set2 _).set3 _).set4 _).set5 _).set6 _),hRJ,(((((((AA.far hlt _ _).far hlt _ _).far hlt _ _).far hlt _ _).far hlt _ _).far hlt _ _).far hlt _ _).mono (Ey5).size,(((((((AB.far hlt _ _).far hlt _ _).far hlt _ _).far hlt _ _).far hlt _ _).far hlt _ _).far hlt _ _).mono (Ey5).size,fun q hq => by have := (World.ownsRow.lt AA q hq).1; omega,fun q hq => by have := (World.ownsRow.lt AB q hq).1; omega,(below_far (below_far (below_far (below_far (below_far (below_far (below_far Ey6 (by omega) _ _) (by omega) _ _) (by omega) _ _) (by omega) _ _) (by omega) _ _) (by omega) _ _) (by omega) _ _)⟩⟩
 obtain ⟨w5,hw5⟩ : ∃ w5,w5 = wc := ⟨_,rfl⟩
 subst hw5
 obtain ⟨rfl,hcutx⟩ := hcut
 obtain ⟨rJ1,av1,cv1,bu1,du1,rfl,hJbx,hJle,hJA,hJO,hJa,hJo,E⟩ := hcutx.out
 have BB5 := hidOf (BB4.out.trans (E.mono BB4.out.size))
 have z5 : w4.heap.size <= w5.heap.size := E.size
 have K0 := hidOf hJA
 have K1 := hidOf hJO
 have KB := hidOf hJbx
 have NK0 := hidOf hJa
 have NK1 := hidOf hJo
 have yJ1 : w4.heap.size <= rJ1 /\ rJ1 < w5.heap.size := ⟨hJle,hJbx.2.2⟩
 have LK0 : Hid (∀ q,(Value.slice av1 G.length cv1).ownBlock = some q -> w4.heap.size <= q /\ q < w5.heap.size) := fun q hq => World.ownsRow.lt K0.out q hq
 have LK1 : Hid (∀ q,(Value.slice bu1 H.length du1).ownBlock = some q -> w4.heap.size <= q /\ q < w5.heap.size) := fun q hq => World.ownsRow.lt K1.out q hq
 replace Z := hidOf (Z.out.kept E (by omega))
 replace ZO := hidOf (ZO.out.kept E (by omega))
 replace J0 := hidOf (J0.out.kept E)
 replace J1 := hidOf (J1.out.kept E)
 replace JB := hidOf (JB.out.kept E (by omega))
 replace X0 := hidOf (X0.out.below E)
 replace X1 := hidOf (X1.out.below E)
 replace XB := hidOf (XB.out.kept E (by omega))
 clear E BB4 SA E0 BG TOBK RNK hcutx hJbx hJle hJA hJO hJa hJo
 obtain ⟨⟨KBc0,KBc1,KBc2,KBc3,KBc4,KBc5,KBc6⟩,KBcf,KBcz⟩ := KB.out
 obtain ⟨⟨JBc0,JBc1,JBc2,JBc3,JBc4,JBc5,JBc6⟩,JBcf,JBcz⟩ := JB.out
 go_wp2_with fail
 refine (EQ.out _ _ _ _ _ _ _ _ _ K0.out J0.out K1.out J1.out).mono ?_
 rintro e w6 ⟨rfl,E⟩
 clear KBc0 KBc1 KBc2 KBc3 KBc4 KBc5 KBc6 KBcf KBcz
 clear JBc0 JBc1 JBc2 JBc3 JBc4 JBc5 JBc6 JBcf JBcz
 have BB6 := hidOf (BB5.out.trans (E.mono BB5.out.size))
 have z6 : w5.heap.size <= w6.heap.size := E.size
 replace Z := hidOf (Z.out.kept E (by omega))
 replace ZO := hidOf (ZO.out.kept E (by omega))
 replace J0 := hidOf (J0.out.kept E)
 replace J1 := hidOf (J1.out.kept E)
 replace JB := hidOf (JB.out.kept E (by omega))
 replace X0 := hidOf (X0.out.below E)
 replace X1 := hidOf (X1.out.below E)
 replace XB := hidOf (XB.out.kept E (by omega))
 replace K0 := hidOf (K0.out.kept E)
 replace K1 := hidOf (K1.out.kept E)
 replace KB := hidOf (KB.out.kept E (by omega))
 clear E BB5 
 go_upto_region 10 with fail
 obtain ⟨w7,hw7⟩ : ∃ w7,w7 = w6.drew := ⟨_,rfl⟩
 have E : Below w6.heap.size w6 w7 := by have BR := Below.refl w6.heap.size w6; rw [hw7]; exact ⟨BR.os,BR.tape,BR.output,BR.size,BR.block⟩
 have z7 : w7.heap.size = w6.heap.size := by rw [hw7]; rfl
 have SA : Hid ((w6.cell? ⟨w3.heap.size,0,none⟩ = some (.int .i64 k.day) /\ w6.cell? ⟨w3.heap.size,1,none⟩ = some (.slice (some ⟨rX0,0,none⟩) L.length L.length) /\ w6.cell? ⟨w3.heap.size,2,none⟩ = some (.slice (some ⟨rX1,0,none⟩) O.length O.length) /\ w6.cell? ⟨w3.heap.size,3,none⟩ = some (.int .i64 k.inn) /\ w6.cell? ⟨w3.heap.size,4,none⟩ = some (.int .i64 k.out) /\ w6.cell? ⟨w3.heap.size,5,none⟩ = some (.int .i64 k.posted) /\ w6.cell? ⟨w3.heap.size,6,none⟩ = some (.int .i64 k.missed)) /\ (w6.cell? ⟨w.heap.size,0,none⟩ = some (.int .i64 k.day) /\ w6.cell? ⟨w.heap.size,1,none⟩ = some (.slice a L.length c) /\ w6.cell? ⟨w.heap.size,2,none⟩ = some (.slice b O.length d) /\ w6.cell? ⟨w.heap.size,3,none⟩ = some (.int .i64 k.inn) /\ w6.cell? ⟨w.heap.size,4,none⟩ = some (.int .i64 k.out) /\ w6.cell? ⟨w.heap.size,5,none⟩ = some (.int .i64 k.posted) /\ w6.cell? ⟨w.heap.size,6,none⟩ = some (.int .i64 k.missed))) := ⟨XB.out.1,Z.out.1⟩
 have BB7 := hidOf (BB6.out.trans (E.mono BB6.out.size))
 replace Z := hidOf (Z.out.kept E (by omega))
 replace ZO := hidOf (ZO.out.kept E (by omega))
 replace J0 := hidOf (J0.out.kept E)
 replace J1 := hidOf (J1.out.kept E)
 replace JB := hidOf (JB.out.kept E (by omega))
 replace X0 := hidOf (X0.out.below E)
 replace X1 := hidOf (X1.out.below E)
 replace XB := hidOf (XB.out.kept E (by omega))
 replace K0 := hidOf (K0.out.kept E)
 replace K1 := hidOf (K1.out.kept E)
 replace KB := hidOf (KB.out.kept E (by omega))
 have Hw7 := hidOf hw7
 clear E BB6 hw7
 have TB : Hid (∀ B,B = w7 -> Calls Tryz.prog 42 #[.agg #[.int .i64 k.day,.slice a L.length c,.slice b O.length d,.int .i64 k.inn,.int .i64 k.out,.int .i64 k.posted,.int .i64 k.missed]] B fun e w' => ∃ R1 R2,e = .returned (.agg #[.int .i64 k.day,.slice (some ⟨R1,0,none⟩) L.length L.length,.slice (some ⟨R2,0,none⟩) O.length O.length,.int .i64 k.inn,.int .i64 k.out,.int .i64 k.posted,.int .i64 k.missed]) /\ Row w' R1 L.length L.length (FL L) /\ RowOrd w' R2 O.length O.length (OrdF O) /\ Below w7.heap.size w7 w') := fun B hB => by subst hB; exact (toBank a b L.length c O.length d (FL L) (OrdF O) k _ (F0.out.below BB7.out) (O0.out.below BB7.out)).mono fun e w' ⟨R1,R2,h1,h2,h3,_,_,h4⟩ => ⟨R1,R2,h1,h2,h3,h4⟩
 have hXBl : w3.heap.size < w7.heap.size := by omega
 have hZl : w.heap.size < w7.heap.size := by omega
 go_region_held3 (fun V => (V.cell? ⟨w3.heap.size,0,none⟩ = some (.int .i64 k.day) /\ V.cell? ⟨w3.heap.size,1,none⟩ = some (.slice (some ⟨rX0,0,none⟩) L.length L.length) /\ V.cell? ⟨w3.heap.size,2,none⟩ = some (.slice (some ⟨rX1,0,none⟩) O.length O.length) /\ V.cell? ⟨w3.heap.size,3,none⟩ = some (.int .i64 k.inn) /\ V.cell? ⟨w3.heap.size,4,none⟩ = some (.int .i64 k.out) /\ V.cell? ⟨w3.heap.size,5,none⟩ = some (.int .i64 k.posted) /\ V.cell? ⟨w3.heap.size,6,none⟩ = some (.int .i64 k.missed)) /\ (V.cell? ⟨w.heap.size,0,none⟩ = some (.int .i64 k.day) /\ V.cell? ⟨w.heap.size,1,none⟩ = some (.slice a L.length c) /\ V.cell? ⟨w.heap.size,2,none⟩ = some (.slice b O.length d) /\ V.cell? ⟨w.heap.size,3,none⟩ = some (.int .i64 k.inn) /\ V.cell? ⟨w.heap.size,4,none⟩ = some (.int .i64 k.out) /\ V.cell? ⟨w.heap.size,5,none⟩ = some (.int .i64 k.posted) /\ V.cell? ⟨w.heap.size,6,none⟩ = some (.int .i64 k.missed))) (first | exact SA.out | exact ⟨(XB.out.kept E hXBl).1,(Z.out.kept E hZl).1⟩ | exact ⟨((XB.out.kept E hXBl).kept E2 (Nat.lt_of_lt_of_le hXBl E.size)).1,((Z.out.kept E hZl).kept E2 (Nat.lt_of_lt_of_le hZl E.size)).1⟩)
  (first
   | (go_at_call 42; refine (TB.out _ Hw7.out.symm).mono ?_; rintro e w8 ⟨R1,R2,rfl,RA,RB,E⟩)
   | (go_at_call 43; refine (eqBank_same _ _ _ _ L.length L.length L.length O.length O.length O.length (FL L) (OrdF O) k _ ((X0.out.below E).fo hn') (RA.fo hn') ((X1.out.below E).list hm') (RB.list hm')).mono ?_; rintro e w9 ⟨rfl,E2⟩))
 have E3 : Below w7.heap.size w7 w9 := E.trans (E2.mono E.size)
 have BB9 := hidOf (BB7.out.trans (E3.mono BB7.out.size))
 have z9 : w7.heap.size <= w9.heap.size := E3.size
 replace Z := hidOf (Z.out.kept E3 (by omega))
 replace ZO := hidOf (ZO.out.kept E3 (by omega))
 replace J0 := hidOf (J0.out.kept E3)
 replace J1 := hidOf (J1.out.kept E3)
 replace JB := hidOf (JB.out.kept E3 (by omega))
 replace X0 := hidOf (X0.out.below E3)
 replace X1 := hidOf (X1.out.below E3)
 replace XB := hidOf (XB.out.kept E3 (by omega))
 replace K0 := hidOf (K0.out.kept E3)
 replace K1 := hidOf (K1.out.kept E3)
 replace KB := hidOf (KB.out.kept E3 (by omega))
 clear E E2 E3 RA RB SA TB Hw7 BB7
 have C0 : Hid (Cells8 w9 rX0 (L.length * 8)) := ⟨X0.out.1,X0.out.2.1,X0.out.2.2.1⟩
 have C1 : Hid (Cells8 w9 rX1 (O.length * 7)) := ⟨X1.out.1,X1.out.2.1,X1.out.2.2.1⟩
 clear X0
 clear X1
 obtain ⟨⟨XBc0,XBc1,XBc2,XBc3,XBc4,XBc5,XBc6⟩,XBcf,XBcz⟩ := XB.out
 go_wp2_with fail
 refine (markBankRow rX0 rX1 L.length L.length O.length O.length k _ hn' hm' C0.out C1.out (by omega)).mono ?_
 rintro e w10 ⟨rfl,wm,E1,E2⟩
 clear XBc0 XBc1 XBc2 XBc3 XBc4 XBc5 XBc6 XBcf XBcz
 have J0' : Hid (AL w10 w1.heap.size (.slice av0 G.length cv0) G) := (J0.out.past E1 (fun q h1 h2 => by have := LJ0.out q h1; simp at h2; omega)).past E2 (fun q h1 h2 => by have := LJ0.out q h1; simp at h2; omega)
 have J1' : Hid (OrdL w10 w1.heap.size (.slice bu0 H.length du0) H) := (J1.out.past E1 (fun q h1 h2 => by have := LJ1.out q h1; simp at h2; omega)).past E2 (fun q h1 h2 => by have := LJ1.out q h1; simp at h2; omega)
 have K0' : Hid (AL w10 w4.heap.size (.slice av1 G.length cv1) G) := (K0.out.past E1 (fun q h1 h2 => by have := LK0.out q h1; simp at h2; omega)).past E2 (fun q h1 h2 => by have := LK0.out q h1; simp at h2; omega)
 have K1' : Hid (OrdL w10 w4.heap.size (.slice bu1 H.length du1) H) := (K1.out.past E1 (fun q h1 h2 => by have := LK1.out q h1; simp at h2; omega)).past E2 (fun q h1 h2 => by have := LK1.out q h1; simp at h2; omega)
 have Z' := hidOf ((Z.out.same (E1.block _ Z.out.2.2 (by simp; omega))).same (E2.block _ (Nat.lt_of_lt_of_le Z.out.2.2 E1.size) (by simp; omega)))
 have ZO' := hidOf ((ZO.out.same (E1.block _ ZO.out.2 (by simp; omega))).same (E2.block _ (Nat.lt_of_lt_of_le ZO.out.2 E1.size) (by simp; omega)))
 have JB' := hidOf ((JB.out.same (E1.block _ JB.out.2.2 (by simp; omega))).same (E2.block _ (Nat.lt_of_lt_of_le JB.out.2.2 E1.size) (by simp; omega)))
 have XB' := hidOf ((XB.out.same (E1.block _ XB.out.2.2 (by simp; omega))).same (E2.block _ (Nat.lt_of_lt_of_le XB.out.2.2 E1.size) (by simp; omega)))
 have KB' := hidOf ((KB.out.same (E1.block _ KB.out.2.2 (by simp; omega))).same (E2.block _ (Nat.lt_of_lt_of_le KB.out.2.2 E1.size) (by simp; omega)))
 have BB10 : Hid (Below w.heap.size w w10) := (BB9.out.grown E1 BB9.out.size (fun q hq => by simp at hq; omega)).grown E2 (Nat.le_trans BB9.out.size E1.size) (fun q hq => by simp at hq; omega)
 have z10 : w9.heap.size <= w10.heap.size := Nat.le_trans E1.size E2.size
 clear Z
 have Z := Z'
 clear Z'
 clear ZO
 have ZO := ZO'
 clear ZO'
 clear J0
 have J0 := J0'
 clear J0'
 clear J1
 have J1 := J1'
 clear J1'
 clear JB
 have JB := JB'
 clear JB'
 clear XB
 have XB := XB'
 clear XB'
 clear K0
 have K0 := K0'
 clear K0'
 clear K1
 have K1 := K1'
 clear K1'
 clear KB
 have KB := KB'
 clear KB'
 clear E1 E2 BB9 C0 C1
 have hk8 : decide (1 + 8 * (L.length : Int) + 7 * (O.length : Int) < 0) = false := by simp; omega
 obtain ⟨⟨KBc0,KBc1,KBc2,KBc3,KBc4,KBc5,KBc6⟩,KBcf,KBcz⟩ := KB.out
 obtain ⟨⟨JBc0,JBc1,JBc2,JBc3,JBc4,JBc5,JBc6⟩,JBcf,JBcz⟩ := JB.out
 go_wp2_with fail
 refine (EQ.out _ _ _ _ _ _ _ _ _ K0.out J0.out K1.out J1.out).mono ?_
 rintro e w11 ⟨rfl,E⟩
 clear KBc0 KBc1 KBc2 KBc3 KBc4 KBc5 KBc6 KBcf KBcz
 clear JBc0 JBc1 JBc2 JBc3 JBc4 JBc5 JBc6 JBcf JBcz
 have BB11 := hidOf (BB10.out.trans (E.mono BB10.out.size))
 have z11 : w10.heap.size <= w11.heap.size := E.size
 replace Z := hidOf (Z.out.kept E (by omega))
 replace ZO := hidOf (ZO.out.kept E (by omega))
 replace J0 := hidOf (J0.out.kept E)
 replace J1 := hidOf (J1.out.kept E)
 replace JB := hidOf (JB.out.kept E (by omega))
 replace XB := hidOf (XB.out.kept E (by omega))
 replace K0 := hidOf (K0.out.kept E)
 replace K1 := hidOf (K1.out.kept E)
 replace KB := hidOf (KB.out.kept E (by omega))
 clear E BB10 
 obtain ⟨⟨KBc0,KBc1,KBc2,KBc3,KBc4,KBc5,KBc6⟩,KBcf,KBcz⟩ := KB.out
 go_wp2_with fail
 refine (markBankOwn _ _ (.slice av1 G.length cv1) (.slice bu1 H.length du1) G H K _ hGl hHl K0.out K1.out (fun q hq => by have := LK0.out q hq; omega)).mono ?_
 rintro e w12 ⟨rfl,⟨M,hM1,hM2,A1⟩,⟨P,hP1,hP2,A2⟩,wm2,E1,E2⟩
 clear KBc0 KBc1 KBc2 KBc3 KBc4 KBc5 KBc6 KBcf KBcz
 have J0' : Hid (AL w12 w1.heap.size (.slice av0 G.length cv0) G) := (J0.out.past E1 (fun q h1 h2 => by have := LJ0.out q h1; have := LK0.out q h2; omega)).past E2 (fun q h1 h2 => by have := LJ0.out q h1; have := LK1.out q h2; omega)
 have J1' : Hid (OrdL w12 w1.heap.size (.slice bu0 H.length du0) H) := (J1.out.past E1 (fun q h1 h2 => by have := LJ1.out q h1; have := LK0.out q h2; omega)).past E2 (fun q h1 h2 => by have := LJ1.out q h1; have := LK1.out q h2; omega)
 have Z' := hidOf ((Z.out.same (E1.block _ Z.out.2.2 (fun e => by have := LK0.out _ e.symm; omega))).same (E2.block _ (Nat.lt_of_lt_of_le Z.out.2.2 E1.size) (fun e => by have := LK1.out _ e.symm; omega)))
 have ZO' := hidOf ((ZO.out.same (E1.block _ ZO.out.2 (fun e => by have := LK0.out _ e.symm; omega))).same (E2.block _ (Nat.lt_of_lt_of_le ZO.out.2 E1.size) (fun e => by have := LK1.out _ e.symm; omega)))
 have JB' := hidOf ((JB.out.same (E1.block _ JB.out.2.2 (fun e => by have := LK0.out _ e.symm; omega))).same (E2.block _ (Nat.lt_of_lt_of_le JB.out.2.2 E1.size) (fun e => by have := LK1.out _ e.symm; omega)))
 have XB' := hidOf ((XB.out.same (E1.block _ XB.out.2.2 (fun e => by have := LK0.out _ e.symm; omega))).same (E2.block _ (Nat.lt_of_lt_of_le XB.out.2.2 E1.size) (fun e => by have := LK1.out _ e.symm; omega)))
 have KB' := hidOf ((KB.out.same (E1.block _ KB.out.2.2 (fun e => NK0.out _ e.symm rfl))).same (E2.block _ (Nat.lt_of_lt_of_le KB.out.2.2 E1.size) (fun e => NK1.out _ e.symm rfl)))
 have K0' := hidOf A1
 have K1' := hidOf A2
 have BB12 : Hid (Below w.heap.size w w12) := (BB11.out.grown E1 BB11.out.size (fun q hq => by have := LK0.out q hq; omega)).grown E2 (Nat.le_trans BB11.out.size E1.size) (fun q hq => by have := LK1.out q hq; omega)
 have z12 : w11.heap.size <= w12.heap.size := Nat.le_trans E1.size E2.size
 clear Z
 have Z := Z'
 clear Z'
 clear ZO
 have ZO := ZO'
 clear ZO'
 clear J0
 have J0 := J0'
 clear J0'
 clear J1
 have J1 := J1'
 clear J1'
 clear JB
 have JB := JB'
 clear JB'
 clear XB
 have XB := XB'
 clear XB'
 clear K0
 have K0 := K0'
 clear K0'
 clear K1
 have K1 := K1'
 clear K1'
 clear KB
 have KB := KB'
 clear KB'
 clear E1 E2 BB11 A1 A2
 have HM1 := hidOf hM1
 have HM2 := hidOf hM2
 have HP1 := hidOf hP1
 have HP2 : Hid (MarkedOrd (1 + 8 * (M.length : Int)) P.length P) := by show MarkedOrd _ _ _; rw [hM1]; exact hP2
 have hMl : M.length <= 1048576 := by omega
 have hPl : P.length <= 1048576 := by omega
 clear hM1 hM2 hP1 hP2
 have hk9 : decide (1 + 8 * (G.length : Int) + 7 * (H.length : Int) < 0) = false := by simp; omega
 have hk11 : (1 + 8 * (G.length : Int) + 7 * (H.length : Int) != 1 + 8 * (G.length : Int) + 7 * (H.length : Int)) = false := by simp
 obtain ⟨⟨KBc0,KBc1,KBc2,KBc3,KBc4,KBc5,KBc6⟩,KBcf,KBcz⟩ := KB.out
 go_wp2_with fail
 refine (heldBank _ _ (.slice av1 G.length cv1) (.slice bu1 H.length du1) M P K _ hMl hPl K0.out K1.out HM2.out HP2.out).mono ?_
 rintro e w13 ⟨rfl,E⟩
 clear KBc0 KBc1 KBc2 KBc3 KBc4 KBc5 KBc6 KBcf KBcz
 have BB13 := hidOf (BB12.out.trans (E.mono BB12.out.size))
 have z13 : w12.heap.size <= w13.heap.size := E.size
 replace Z := hidOf (Z.out.kept E (by omega))
 replace ZO := hidOf (ZO.out.kept E (by omega))
 replace J0 := hidOf (J0.out.kept E)
 replace J1 := hidOf (J1.out.kept E)
 replace JB := hidOf (JB.out.kept E (by omega))
 replace XB := hidOf (XB.out.kept E (by omega))
 replace K0 := hidOf (K0.out.kept E)
 replace K1 := hidOf (K1.out.kept E)
 replace KB := hidOf (KB.out.kept E (by omega))
 clear E BB12 
 rw [HM1.out,HP1.out]
 go_upto_region 24 with fail
 have SA : Hid (∀ V,Below w13.heap.size w13 V -> RgS V w.heap.size (w.heap.size + 1) (.slice a L.length c) (.slice b O.length d) k KK x o n) := fun V h => ⟨(Z.out.kept h Z.out.2.2).1,(ZO.out.kept h ZO.out.2).1⟩
 have E0 : Hid (Below w13.heap.size w13 w13.drew) := ⟨rfl,rfl,rfl,Nat.le_refl _,fun _ _ => rfl⟩
 have BG : Hid (∀ V,Below w13.heap.size w13 V -> Below w.heap.size w V) := fun V h => BB13.out.trans (h.mono BB13.out.size)
 have TOBK : Hid (∀ X,Below w13.heap.size w13 X -> Calls Tryz.prog 46 #[.agg #[.int .i64 KK,.int .i64 x.k,.int .i64 x.i,.int .i64 x.t,.int .i64 x.m,.int .i64 x.r,.int .i64 o.id,.int .i64 o.src,.int .i64 o.dst,.int .i64 o.amount,.int .i64 o.first,.int .i64 o.every,.int .i64 o.times,.int .i64 n]] X fun e w' => e = .returned (.agg #[.int .i64 KK,.int .i64 x.k,.int .i64 x.i,.int .i64 x.t,.int .i64 x.m,.int .i64 x.r,.int .i64 o.id,.int .i64 o.src,.int .i64 o.dst,.int .i64 o.amount,.int .i64 o.first,.int .i64 o.every,.int .i64 o.times,.int .i64 n]) /\ Below X.heap.size X w' /\ Below w13.heap.size w13 w') := fun X hX => (TOB.out X).mono fun e w' h => ⟨h.1,h.2,hX.trans (h.2.mono hX.size)⟩
 have TBK : Hid (∀ X,Below w13.heap.size w13 X -> Calls Tryz.prog 42 #[.agg #[.int .i64 k.day,.slice a L.length c,.slice b O.length d,.int .i64 k.inn,.int .i64 k.out,.int .i64 k.posted,.int .i64 k.missed]] X fun e w' => ∃ R1 R2,e = .returned (.agg #[.int .i64 k.day,.slice (some ⟨R1,0,none⟩) L.length L.length,.slice (some ⟨R2,0,none⟩) O.length O.length,.int .i64 k.inn,.int .i64 k.out,.int .i64 k.posted,.int .i64 k.missed]) /\ Row w' R1 L.length L.length (FL L) /\ RowOrd w' R2 O.length O.length (OrdF O) /\ Below X.heap.size X w' /\ Below w13.heap.size w13 w') := fun X hX => (toBank a b L.length c O.length d (FL L) (OrdF O) k X (F0.out.below (BG.out X hX)) (O0.out.below (BG.out X hX))).mono fun e w' ⟨R1,R2,h1,h2,h3,_,_,h4⟩ => ⟨R1,R2,h1,h2,h3,h4,hX.trans (h4.mono hX.size)⟩
 have RNK : Hid (∀ X R1 R2,Below w13.heap.size w13 X -> Row X R1 L.length L.length (FL L) -> RowOrd X R2 O.length O.length (OrdF O) -> Calls Tryz.prog 29 #[.agg #[.int .i64 k.day,.slice (some ⟨R1,0,none⟩) L.length L.length,.slice (some ⟨R2,0,none⟩) O.length O.length,.int .i64 k.inn,.int .i64 k.out,.int .i64 k.posted,.int .i64 k.missed],.agg #[.int .i64 KK,.int .i64 x.k,.int .i64 x.i,.int .i64 x.t,.int .i64 x.m,.int .i64 x.r,.int .i64 o.id,.int .i64 o.src,.int .i64 o.dst,.int .i64 o.amount,.int .i64 o.first,.int .i64 o.every,.int .i64 o.times,.int .i64 n]] X fun e w' => ∃ av cv bu du,e = .returned (.tuple #[.agg #[.int .i64 K.day,.slice av G.length cv,.slice bu H.length du,.int .i64 K.inn,.int .i64 K.out,.int .i64 K.posted,.int .i64 K.missed],.int .i64 cd]) /\ AL w' X.heap.size (.slice av G.length cv) G /\ OrdL w' X.heap.size (.slice bu H.length du) H /\ Below X.heap.size X w' /\ Below w13.heap.size w13 w') := fun X R1 R2 hX h1 h2 => (IM.out X R1 R2 (h1.fo hn') (h2.list hm') (G0.out.below (BG.out X hX))).mono fun e w' ⟨v,u,h3,h4,h5,h6⟩ => by
  obtain ⟨av,cv,rfl⟩ := AL.len h4
  obtain ⟨bu,du,rfl⟩ := OrdL.len h5
  exact ⟨av,cv,bu,du,h3,h4,h5,h6,hX.trans (h6.mono hX.size)⟩
 go_cut [14,15] (fun s6 s7 wx => s7 = .int .i64 cd /\ Hid (∃ rJ2 av2 cv2 bu2 du2,s6 = .pointer (some ⟨rJ2,0,none⟩) /\ BxK wx rJ2 (.slice av2 G.length cv2) (.slice bu2 H.length du2) K /\ w13.heap.size <= rJ2 /\ AL wx w13.heap.size (.slice av2 G.length cv2) G /\ OrdL wx w13.heap.size (.slice bu2 H.length du2) H /\ (∀ q,(Value.slice av2 G.length cv2).ownBlock = some q -> q ≠ rJ2) /\ (∀ q,(Value.slice bu2 H.length du2).ownBlock = some q -> q ≠ rJ2) /\ Below w13.heap.size w13 wx))
 case first =>
  refine wp_region_held_drew (S := fun V => RgS V w.heap.size (w.heap.size + 1) (.slice a L.length c) (.slice b O.length d) k KK x o n) (by kernel_rfl) (SA.out _ E0.out) (fun hHeld => ?_)
  refine wpAnyH_take (i := 0) (oi := { dst := some 80,op := Go.Op.load 69 (Go.Operand.tmp 2),type := 69,pos := "exact.go:2140",after := #[],guard := none }) (v := ?_) rfl (by kernel_rfl) (by kernel_rfl) (by kernel_rfl) (fun _ _ _ h => h) (Or.inl ⟨by rfl,?_⟩) (by assumption) ?_
  rotate_left
  ·intro wq hSw
   simp only [RgS] at hSw
   go_simp
   all_goals (with_reducible rfl)
  (try simp only [Act.put,List.setIfInBounds_toArray,List.set_cons_zero,List.set_cons_succ])
  refine wpAnyH_take (i := 2) (oi := { dst := some 82,op := Go.Op.load 77 (Go.Operand.tmp 3),type := 77,pos := "exact.go:2140",after := #[],guard := none }) (v := ?_) rfl (by kernel_rfl) (by kernel_rfl) (by kernel_rfl) (fun _ _ _ h => h) (Or.inl ⟨by rfl,?_⟩) (by assumption) ?_
  rotate_left
  ·intro wq hSw
   simp only [RgS] at hSw
   go_simp
   all_goals (with_reducible rfl)
  (try simp only [Act.put,List.setIfInBounds_toArray,List.set_cons_zero,List.set_cons_succ])
  refine wpAnyH_ready (rs := [1,8]) (by kernel_rfl) (by simp) ?_
  refine AllReadyH.cons (o := { dst := some 81,op := Go.Op.call { callee := Go.Callee.value (Go.Operand.func 42),args := #[Go.Operand.tmp 80],argTypes := #[69] },type := 38,pos := "exact.go:2140",after := #[{ on := 0,ground := Go.Ground.data }],guard := none }) rfl (fun K' hK => ?_) ?_
  ·skip
   go_simp
   refine (TBK.out _ E0.out).mono ?_
   rintro e y1 ⟨R1,R2,rfl,TA,TO,Ex,Ey1⟩
   go_wp2_with fail
   refine hK.out _ _ ?_ (fun hHeld => ?_)
   ·exact SA.out _ Ey1
   clear hK K'
   refine wpAnyH_ready (rs := [3,8]) (by kernel_rfl) (by simp) ?_
   refine AllReadyH.cons (o := { dst := some 83,op := Go.Op.call { callee := Go.Callee.value (Go.Operand.func 46),args := #[Go.Operand.tmp 82],argTypes := #[77] },type := 51,pos := "exact.go:2140",after := #[{ on := 2,ground := Go.Ground.data },{ on := 1,ground := Go.Ground.chain }],guard := none }) rfl (fun K' hK => ?_) ?_
   ·skip
    go_simp
    refine (TOBK.out _ Ey1).mono ?_
    rintro e y2 ⟨rfl,Ex,Ey2⟩
    have TA2 := TA.below Ex
    have TO2 := TO.below Ex
    go_wp2_with fail
    refine hK.out _ _ ?_ (fun hHeld => ?_)
    ·exact SA.out _ Ey2
    clear hK K'
    refine wpAnyH_ready (rs := [4,8]) (by kernel_rfl) (by simp) ?_
    refine AllReadyH.cons (o := { dst := some 84,op := Go.Op.call { callee := Go.Callee.value (Go.Operand.func 29),args := #[Go.Operand.tmp 81,Go.Operand.tmp 83],argTypes := #[38,51] },type := 54,pos := "exact.go:2140",after := #[{ on := 1,ground := Go.Ground.data },{ on := 3,ground := Go.Ground.data },{ on := 3,ground := Go.Ground.chain }],guard := none }) rfl (fun K' hK => ?_) ?_
    ·skip
     go_simp
     refine (RNK.out _ _ _ Ey2 TA2 TO2).mono ?_
     rintro e y3 ⟨av2,cv2,bu2,du2,rfl,AA,AB,Ex,Ey3⟩
     go_wp2_with fail
     refine hK.out _ _ ?_ (fun hHeld => ?_)
     ·exact SA.out _ Ey3
     clear hK K'
     refine wpAnyH_take (i := 5) (oi := { dst := some 79,op := Go.Op.move (Go.Operand.tmp 84),type := 54,pos := "exact.go:2140",after := #[{ on := 4,ground := Go.Ground.data }],guard := none }) (v := ?_) rfl (by kernel_rfl) (by kernel_rfl) (by kernel_rfl) (fun _ _ _ h => h) (Or.inl ⟨by rfl,?_⟩) (by assumption) ?_
     rotate_left
     ·intro wq hSw
      simp only [RgS] at hSw
      go_simp
      all_goals (with_reducible rfl)
     (try simp only [Act.put,List.setIfInBounds_toArray,List.set_cons_zero,List.set_cons_succ])
     refine wpAnyH_take (i := 6) (oi := { dst := some 85,op := Go.Op.extract (Go.Operand.tmp 79) 0,type := 38,pos := "exact.go:2140",after := #[{ on := 5,ground := Go.Ground.data }],guard := none }) (v := ?_) rfl (by kernel_rfl) (by kernel_rfl) (by kernel_rfl) (fun _ _ _ h => h) (Or.inl ⟨by rfl,?_⟩) (by assumption) ?_
     rotate_left
     ·intro wq hSw
      simp only [RgS] at hSw
      go_simp
      all_goals (with_reducible rfl)
     (try simp only [Act.put,List.setIfInBounds_toArray,List.set_cons_zero,List.set_cons_succ])
     refine wpAnyH_take (i := 7) (oi := { dst := some 86,op := Go.Op.extract (Go.Operand.tmp 79) 1,type := 2,pos := "exact.go:2140",after := #[{ on := 5,ground := Go.Ground.data },{ on := 9,ground := Go.Ground.gcOnly Go.Departure.lateStores }],guard := none }) (v := ?_) rfl (by kernel_rfl) (by kernel_rfl) (by kernel_rfl) (fun _ _ _ h => h) (Or.inl ⟨by rfl,?_⟩) (by assumption) ?_
     rotate_left
     ·intro wq hSw
      simp only [RgS] at hSw
      go_simp
      all_goals (with_reducible rfl)
     (try simp only [Act.put,List.setIfInBounds_toArray,List.set_cons_zero,List.set_cons_succ])
     refine wpAnyH_ready (rs := [8]) (by kernel_rfl) (by simp) ?_
     refine AllReadyH.cons (o := { dst := some 14,op := Go.Op.alloc 38,type := 0,pos := "exact.go:2140",after := #[],guard := none }) rfl (fun K' hK => ?_) AllReadyH.nil
     go_simp
     refine hK.out _ _ ?_ (fun hHeld => ?_)
     ·exact SA.out _ (Ey3.alloc Ey3.size _)
     clear hK K'
     refine wpAnyH_ready (rs := [9]) (by kernel_rfl) (by simp) ?_
     refine AllReadyH.cons (o := { dst := none,op := Go.Op.store 38 (Go.Operand.tmp 14) (Go.Operand.tmp 85),type := 0,pos := "exact.go:2140",after := #[{ on := 8,ground := Go.Ground.data },{ on := 6,ground := Go.Ground.data },{ on := 4,ground := Go.Ground.chain },{ on := 0,ground := Go.Ground.phase },{ on := 1,ground := Go.Ground.phase },{ on := 2,ground := Go.Ground.phase },{ on := 3,ground := Go.Ground.phase },{ on := 4,ground := Go.Ground.phase },{ on := 5,ground := Go.Ground.phase },{ on := 6,ground := Go.Ground.phase },{ on := 7,ground := Go.Ground.textOnly Go.Departure.lateStores },{ on := 8,ground := Go.Ground.phase }],guard := none }) rfl (fun K' hK => ?_) AllReadyH.nil
     go_simp
     refine hK.out _ _ ?_ (fun hHeld => ?_)
     ·exact SA.out _ (Ey3.alloc Ey3.size _)
     clear hK K'
     refine wpAnyH_take (i := 10) (oi := { dst := some 15,op := Go.Op.assign (Go.Operand.tmp 86),type := 2,pos := "exact.go:2140",after := #[{ on := 7,ground := Go.Ground.data },{ on := 9,ground := Go.Ground.chain },{ on := 0,ground := Go.Ground.phase },{ on := 1,ground := Go.Ground.phase },{ on := 2,ground := Go.Ground.phase },{ on := 3,ground := Go.Ground.phase },{ on := 4,ground := Go.Ground.phase },{ on := 5,ground := Go.Ground.phase },{ on := 6,ground := Go.Ground.phase },{ on := 7,ground := Go.Ground.phase },{ on := 8,ground := Go.Ground.phase },{ on := 9,ground := Go.Ground.phase }],guard := none }) (v := ?_) rfl (by kernel_rfl) (by kernel_rfl) (by kernel_rfl) (fun _ _ _ h => h) (Or.inl ⟨by rfl,?_⟩) (by assumption) ?_
     rotate_left
     ·intro wq hSw
      simp only [RgS] at hSw
      go_simp
      all_goals (with_reducible rfl)
     (try simp only [Act.put,List.setIfInBounds_toArray,List.set_cons_zero,List.set_cons_succ])
     refine wpAnyH_done (by kernel_rfl) ?_ _
     go_wp2_with fail
     go_meet
     exact ⟨rfl,hidOf ⟨y3.heap.size,av2,cv2,bu2,du2,rfl,Box7.new y3 _ _ _ _ _ _ _ 38,Ey3.size,(AA.kept ((Below.refl _ _).alloc (Nat.le_refl _) _)).mono (Ey2).size,(AB.kept ((Below.refl _ _).alloc (Nat.le_refl _) _)).mono (Ey2).size,fun q hq => by have := (World.ownsRow.lt AA q hq).2; omega,fun q hq => by have := (World.ownsRow.lt AB q hq).2; omega,(Ey3.alloc Ey3.size _)⟩⟩
    refine AllReadyH.cons (o := { dst := some 14,op := Go.Op.alloc 38,type := 0,pos := "exact.go:2140",after := #[],guard := none }) rfl (fun K' hK => ?_) AllReadyH.nil
    go_simp
    refine hK.out _ _ ?_ (fun hHeld => ?_)
    ·exact SA.out _ (Ey2.alloc Ey2.size _)
    clear hK K'
    have TA4 := Row.below TA2 ((Below.refl _ _).alloc (Nat.le_refl _) (.cells #[.int .i64 0,.slice none 0 0,.slice none 0 0,.int .i64 0,.int .i64 0,.int .i64 0,.int .i64 0] 38))
    have TO4 := RowOrd.below TO2 ((Below.refl _ _).alloc (Nat.le_refl _) (.cells #[.int .i64 0,.slice none 0 0,.slice none 0 0,.int .i64 0,.int .i64 0,.int .i64 0,.int .i64 0] 38))
    refine wpAnyH_ready (rs := [4]) (by kernel_rfl) (by simp) ?_
    refine AllReadyH.cons (o := { dst := some 84,op := Go.Op.call { callee := Go.Callee.value (Go.Operand.func 29),args := #[Go.Operand.tmp 81,Go.Operand.tmp 83],argTypes := #[38,51] },type := 54,pos := "exact.go:2140",after := #[{ on := 1,ground := Go.Ground.data },{ on := 3,ground := Go.Ground.data },{ on := 3,ground := Go.Ground.chain }],guard := none }) rfl (fun K' hK => ?_) AllReadyH.nil
    go_simp
    refine (RNK.out _ _ _ (Ey2.alloc Ey2.size _) TA4 TO4).mono ?_
    rintro e y5 ⟨av2,cv2,bu2,du2,rfl,AA,AB,Ex,Ey5⟩
    have hlt : y2.heap.size < (y2.alloc (.cells #[.int .i64 0,.slice none 0 0,.slice none 0 0,.int .i64 0,.int .i64 0,.int .i64 0,.int .i64 0] 38)).heap.size := by simp
    have Jy5 : BxZ y5 y2.heap.size := (Box7.new y2 _ _ _ _ _ _ _ 38).kept Ex (by simp)
    go_wp2_with fail
    refine hK.out _ _ ?_ (fun hHeld => ?_)
    ·exact SA.out _ Ey5
    clear hK K'
    refine wpAnyH_take (i := 5) (oi := { dst := some 79,op := Go.Op.move (Go.Operand.tmp 84),type := 54,pos := "exact.go:2140",after := #[{ on := 4,ground := Go.Ground.data }],guard := none }) (v := ?_) rfl (by kernel_rfl) (by kernel_rfl) (by kernel_rfl) (fun _ _ _ h => h) (Or.inl ⟨by rfl,?_⟩) (by assumption) ?_
    rotate_left
    ·intro wq hSw
     simp only [RgS] at hSw
     go_simp
     all_goals (with_reducible rfl)
    (try simp only [Act.put,List.setIfInBounds_toArray,List.set_cons_zero,List.set_cons_succ])
    refine wpAnyH_take (i := 6) (oi := { dst := some 85,op := Go.Op.extract (Go.Operand.tmp 79) 0,type := 38,pos := "exact.go:2140",after := #[{ on := 5,ground := Go.Ground.data }],guard := none }) (v := ?_) rfl (by kernel_rfl) (by kernel_rfl) (by kernel_rfl) (fun _ _ _ h => h) (Or.inl ⟨by rfl,?_⟩) (by assumption) ?_
    rotate_left
    ·intro wq hSw
     simp only [RgS] at hSw
     go_simp
     all_goals (with_reducible rfl)
    (try simp only [Act.put,List.setIfInBounds_toArray,List.set_cons_zero,List.set_cons_succ])
    refine wpAnyH_take (i := 7) (oi := { dst := some 86,op := Go.Op.extract (Go.Operand.tmp 79) 1,type := 2,pos := "exact.go:2140",after := #[{ on := 5,ground := Go.Ground.data },{ on := 9,ground := Go.Ground.gcOnly Go.Departure.lateStores }],guard := none }) (v := ?_) rfl (by kernel_rfl) (by kernel_rfl) (by kernel_rfl) (fun _ _ _ h => h) (Or.inl ⟨by rfl,?_⟩) (by assumption) ?_
    rotate_left
    ·intro wq hSw
     simp only [RgS] at hSw
     go_simp
     all_goals (with_reducible rfl)
    (try simp only [Act.put,List.setIfInBounds_toArray,List.set_cons_zero,List.set_cons_succ])
    refine wpAnyH_ready (rs := [9]) (by kernel_rfl) (by simp) ?_
    refine AllReadyH.cons (o := { dst := none,op := Go.Op.store 38 (Go.Operand.tmp 14) (Go.Operand.tmp 85),type := 0,pos := "exact.go:2140",after := #[{ on := 8,ground := Go.Ground.data },{ on := 6,ground := Go.Ground.data },{ on := 4,ground := Go.Ground.chain },{ on := 0,ground := Go.Ground.phase },{ on := 1,ground := Go.Ground.phase },{ on := 2,ground := Go.Ground.phase },{ on := 3,ground := Go.Ground.phase },{ on := 4,ground := Go.Ground.phase },{ on := 5,ground := Go.Ground.phase },{ on := 6,ground := Go.Ground.phase },{ on := 7,ground := Go.Ground.textOnly Go.Departure.lateStores },{ on := 8,ground := Go.Ground.phase }],guard := none }) rfl (fun K' hK => ?_) AllReadyH.nil
    obtain ⟨⟨j0,j1,j2,j3,j4,j5,j6⟩,jf,jz⟩ := id Jy5
    have hRJ : w13.heap.size <= y2.heap.size := Ey2.size
    go_simp
    refine hK.out _ _ ?_ (fun hHeld => ?_)
    ·exact SA.out _ (below_far (below_far (below_far (below_far (below_far (below_far (below_far Ey5 (by omega) _ _) (by omega) _ _) (by omega) _ _) (by omega) _ _) (by omega) _ _) (by omega) _ _) (by omega) _ _)
    clear hK K'
    refine wpAnyH_take (i := 10) (oi := { dst := some 15,op := Go.Op.assign (Go.Operand.tmp 86),type := 2,pos := "exact.go:2140",after := #[{ on := 7,ground := Go.Ground.data },{ on := 9,ground := Go.Ground.chain },{ on := 0,ground := Go.Ground.phase },{ on := 1,ground := Go.Ground.phase },{ on := 2,ground := Go.Ground.phase },{ on := 3,ground := Go.Ground.phase },{ on := 4,ground := Go.Ground.phase },{ on := 5,ground := Go.Ground.phase },{ on := 6,ground := Go.Ground.phase },{ on := 7,ground := Go.Ground.phase },{ on := 8,ground := Go.Ground.phase },{ on := 9,ground := Go.Ground.phase }],guard := none }) (v := ?_) rfl (by kernel_rfl) (by kernel_rfl) (by kernel_rfl) (fun _ _ _ h => h) (Or.inl ⟨by rfl,?_⟩) (by assumption) ?_
    rotate_left
    ·intro wq hSw
     simp only [RgS] at hSw
     go_simp
     all_goals (with_reducible rfl)
    (try simp only [Act.put,List.setIfInBounds_toArray,List.set_cons_zero,List.set_cons_succ])
    refine wpAnyH_done (by kernel_rfl) ?_ _
    go_wp2_with fail
    go_meet
    exact ⟨rfl,hidOf ⟨y2.heap.size,av2,cv2,bu2,du2,rfl,(((((((Jy5.set0 _).set1 _).set2 _).set3 _).set4 _).set5 _).set6 _),hRJ,(((((((AA.far hlt _ _).far hlt _ _).far hlt _ _).far hlt _ _).far hlt _ _).far hlt _ _).far hlt _ _).mono ((Ey2.alloc Ey2.size _)).size,(((((((AB.far hlt _ _).far hlt _ _).far hlt _ _).far hlt _ _).far hlt _ _).far hlt _ _).far hlt _ _).mono ((Ey2.alloc Ey2.size _)).size,fun q hq => by have := (World.ownsRow.lt AA q hq).1; omega,fun q hq => by have := (World.ownsRow.lt AB q hq).1; omega,(below_far (below_far (below_far (below_far (below_far (below_far (below_far Ey5 (by omega) _ _) (by omega) _ _) (by omega) _ _) (by omega) _ _) (by omega) _ _) (by omega) _ _) (by omega) _ _)⟩⟩
   refine AllReadyH.cons (o := { dst := some 14,op := Go.Op.alloc 38,type := 0,pos := "exact.go:2140",after := #[],guard := none }) rfl (fun K' hK => ?_) AllReadyH.nil
   go_simp
   refine hK.out _ _ ?_ (fun hHeld => ?_)
   ·exact SA.out _ (Ey1.alloc Ey1.size _)
   clear hK K'
   have TA6 := Row.below TA ((Below.refl _ _).alloc (Nat.le_refl _) (.cells #[.int .i64 0,.slice none 0 0,.slice none 0 0,.int .i64 0,.int .i64 0,.int .i64 0,.int .i64 0] 38))
   have TO6 := RowOrd.below TO ((Below.refl _ _).alloc (Nat.le_refl _) (.cells #[.int .i64 0,.slice none 0 0,.slice none 0 0,.int .i64 0,.int .i64 0,.int .i64 0,.int .i64 0] 38))
   refine wpAnyH_ready (rs := [3]) (by kernel_rfl) (by simp) ?_
   refine AllReadyH.cons (o := { dst := some 83,op := Go.Op.call { callee := Go.Callee.value (Go.Operand.func 46),args := #[Go.Operand.tmp 82],argTypes := #[77] },type := 51,pos := "exact.go:2140",after := #[{ on := 2,ground := Go.Ground.data },{ on := 1,ground := Go.Ground.chain }],guard := none }) rfl (fun K' hK => ?_) AllReadyH.nil
   go_simp
   refine (TOBK.out _ (Ey1.alloc Ey1.size _)).mono ?_
   rintro e y7 ⟨rfl,Ex,Ey7⟩
   have TA7 := TA6.below Ex
   have TO7 := TO6.below Ex
   have Jy7 : BxZ y7 y1.heap.size := (Box7.new y1 _ _ _ _ _ _ _ 38).kept Ex (by simp)
   go_wp2_with fail
   refine hK.out _ _ ?_ (fun hHeld => ?_)
   ·exact SA.out _ Ey7
   clear hK K'
   refine wpAnyH_ready (rs := [4]) (by kernel_rfl) (by simp) ?_
   refine AllReadyH.cons (o := { dst := some 84,op := Go.Op.call { callee := Go.Callee.value (Go.Operand.func 29),args := #[Go.Operand.tmp 81,Go.Operand.tmp 83],argTypes := #[38,51] },type := 54,pos := "exact.go:2140",after := #[{ on := 1,ground := Go.Ground.data },{ on := 3,ground := Go.Ground.data },{ on := 3,ground := Go.Ground.chain }],guard := none }) rfl (fun K' hK => ?_) AllReadyH.nil
   go_simp
   refine (RNK.out _ _ _ Ey7 TA7 TO7).mono ?_
   rintro e y8 ⟨av2,cv2,bu2,du2,rfl,AA,AB,Ex,Ey8⟩
   have hlt : y1.heap.size < y7.heap.size := Jy7.2.2
   have Jy8 : BxZ y8 y1.heap.size := Jy7.kept Ex (by exact Jy7.2.2)
   go_wp2_with fail
   refine hK.out _ _ ?_ (fun hHeld => ?_)
   ·exact SA.out _ Ey8
   clear hK K'
   refine wpAnyH_take (i := 5) (oi := { dst := some 79,op := Go.Op.move (Go.Operand.tmp 84),type := 54,pos := "exact.go:2140",after := #[{ on := 4,ground := Go.Ground.data }],guard := none }) (v := ?_) rfl (by kernel_rfl) (by kernel_rfl) (by kernel_rfl) (fun _ _ _ h => h) (Or.inl ⟨by rfl,?_⟩) (by assumption) ?_
   rotate_left
   ·intro wq hSw
    simp only [RgS] at hSw
    go_simp
    all_goals (with_reducible rfl)
   (try simp only [Act.put,List.setIfInBounds_toArray,List.set_cons_zero,List.set_cons_succ])
   refine wpAnyH_take (i := 6) (oi := { dst := some 85,op := Go.Op.extract (Go.Operand.tmp 79) 0,type := 38,pos := "exact.go:2140",after := #[{ on := 5,ground := Go.Ground.data }],guard := none }) (v := ?_) rfl (by kernel_rfl) (by kernel_rfl) (by kernel_rfl) (fun _ _ _ h => h) (Or.inl ⟨by rfl,?_⟩) (by assumption) ?_
   rotate_left
   ·intro wq hSw
    simp only [RgS] at hSw
    go_simp
    all_goals (with_reducible rfl)
   (try simp only [Act.put,List.setIfInBounds_toArray,List.set_cons_zero,List.set_cons_succ])
   refine wpAnyH_take (i := 7) (oi := { dst := some 86,op := Go.Op.extract (Go.Operand.tmp 79) 1,type := 2,pos := "exact.go:2140",after := #[{ on := 5,ground := Go.Ground.data },{ on := 9,ground := Go.Ground.gcOnly Go.Departure.lateStores }],guard := none }) (v := ?_) rfl (by kernel_rfl) (by kernel_rfl) (by kernel_rfl) (fun _ _ _ h => h) (Or.inl ⟨by rfl,?_⟩) (by assumption) ?_
   rotate_left
   ·intro wq hSw
    simp only [RgS] at hSw
    go_simp
    all_goals (with_reducible rfl)
   (try simp only [Act.put,List.setIfInBounds_toArray,List.set_cons_zero,List.set_cons_succ])
   refine wpAnyH_ready (rs := [9]) (by kernel_rfl) (by simp) ?_
   refine AllReadyH.cons (o := { dst := none,op := Go.Op.store 38 (Go.Operand.tmp 14) (Go.Operand.tmp 85),type := 0,pos := "exact.go:2140",after := #[{ on := 8,ground := Go.Ground.data },{ on := 6,ground := Go.Ground.data },{ on := 4,ground := Go.Ground.chain },{ on := 0,ground := Go.Ground.phase },{ on := 1,ground := Go.Ground.phase },{ on := 2,ground := Go.Ground.phase },{ on := 3,ground := Go.Ground.phase },{ on := 4,ground := Go.Ground.phase },{ on := 5,ground := Go.Ground.phase },{ on := 6,ground := Go.Ground.phase },{ on := 7,ground := Go.Ground.textOnly Go.Departure.lateStores },{ on := 8,ground := Go.Ground.phase }],guard := none }) rfl (fun K' hK => ?_) AllReadyH.nil
   obtain ⟨⟨j0,j1,j2,j3,j4,j5,j6⟩,jf,jz⟩ := id Jy8
   have hRJ : w13.heap.size <= y1.heap.size := Ey1.size
   go_simp
   refine hK.out _ _ ?_ (fun hHeld => ?_)
   ·exact SA.out _ (below_far (below_far (below_far (below_far (below_far (below_far (below_far Ey8 (by omega) _ _) (by omega) _ _) (by omega) _ _) (by omega) _ _) (by omega) _ _) (by omega) _ _) (by omega) _ _)
   clear hK K'
   refine wpAnyH_take (i := 10) (oi := { dst := some 15,op := Go.Op.assign (Go.Operand.tmp 86),type := 2,pos := "exact.go:2140",after := #[{ on := 7,ground := Go.Ground.data },{ on := 9,ground := Go.Ground.chain },{ on := 0,ground := Go.Ground.phase },{ on := 1,ground := Go.Ground.phase },{ on := 2,ground := Go.Ground.phase },{ on := 3,ground := Go.Ground.phase },{ on := 4,ground := Go.Ground.phase },{ on := 5,ground := Go.Ground.phase },{ on := 6,ground := Go.Ground.phase },{ on := 7,ground := Go.Ground.phase },{ on := 8,ground := Go.Ground.phase },{ on := 9,ground := Go.Ground.phase }],guard := none }) (v := ?_) rfl (by kernel_rfl) (by kernel_rfl) (by kernel_rfl) (fun _ _ _ h => h) (Or.inl ⟨by rfl,?_⟩) (by assumption) ?_
   rotate_left
   ·intro wq hSw
    simp only [RgS] at hSw
    go_simp
    all_goals (with_reducible rfl)
   (try simp only [Act.put,List.setIfInBounds_toArray,List.set_cons_zero,List.set_cons_succ])
   refine wpAnyH_done (by kernel_rfl) ?_ _
   go_wp2_with fail
   go_meet
   exact ⟨rfl,hidOf ⟨y1.heap.size,av2,cv2,bu2,du2,rfl,(((((((Jy8.set0 _).set1 _).set2 _).set3 _).set4 _).set5 _).set6 _),hRJ,(((((((AA.far hlt _ _).far hlt _ _).far hlt _ _).far hlt _ _).far hlt _ _).far hlt _ _).far hlt _ _).mono (Ey7).size,(((((((AB.far hlt _ _).far hlt _ _).far hlt _ _).far hlt _ _).far hlt _ _).far hlt _ _).far hlt _ _).mono (Ey7).size,fun q hq => by have := (World.ownsRow.lt AA q hq).1; omega,fun q hq => by have := (World.ownsRow.lt AB q hq).1; omega,(below_far (below_far (below_far (below_far (below_far (below_far (below_far Ey8 (by omega) _ _) (by omega) _ _) (by omega) _ _) (by omega) _ _) (by omega) _ _) (by omega) _ _) (by omega) _ _)⟩⟩
  refine AllReadyH.cons (o := { dst := some 14,op := Go.Op.alloc 38,type := 0,pos := "exact.go:2140",after := #[],guard := none }) rfl (fun K' hK => ?_) AllReadyH.nil
  go_simp
  refine hK.out _ _ ?_ (fun hHeld => ?_)
  ·exact SA.out _ (E0.out.alloc E0.out.size _)
  clear hK K'
  refine wpAnyH_ready (rs := [1]) (by kernel_rfl) (by simp) ?_
  refine AllReadyH.cons (o := { dst := some 81,op := Go.Op.call { callee := Go.Callee.value (Go.Operand.func 42),args := #[Go.Operand.tmp 80],argTypes := #[69] },type := 38,pos := "exact.go:2140",after := #[{ on := 0,ground := Go.Ground.data }],guard := none }) rfl (fun K' hK => ?_) AllReadyH.nil
  go_simp
  refine (TBK.out _ (E0.out.alloc E0.out.size _)).mono ?_
  rintro e y9 ⟨R1,R2,rfl,TA,TO,Ex,Ey9⟩
  have Jy9 : BxZ y9 w13.heap.size := (Box7.new w13.drew _ _ _ _ _ _ _ 38).kept Ex (by simp)
  go_wp2_with fail
  refine hK.out _ _ ?_ (fun hHeld => ?_)
  ·exact SA.out _ Ey9
  clear hK K'
  refine wpAnyH_ready (rs := [3]) (by kernel_rfl) (by simp) ?_
  refine AllReadyH.cons (o := { dst := some 83,op := Go.Op.call { callee := Go.Callee.value (Go.Operand.func 46),args := #[Go.Operand.tmp 82],argTypes := #[77] },type := 51,pos := "exact.go:2140",after := #[{ on := 2,ground := Go.Ground.data },{ on := 1,ground := Go.Ground.chain }],guard := none }) rfl (fun K' hK => ?_) AllReadyH.nil
  go_simp
  refine (TOBK.out _ Ey9).mono ?_
  rintro e y10 ⟨rfl,Ex,Ey10⟩
  have TA10 := TA.below Ex
  have TO10 := TO.below Ex
  have Jy10 : BxZ y10 w13.heap.size := Jy9.kept Ex (by exact Jy9.2.2)
  go_wp2_with fail
  refine hK.out _ _ ?_ (fun hHeld => ?_)
  ·exact SA.out _ Ey10
  clear hK K'
  refine wpAnyH_ready (rs := [4]) (by kernel_rfl) (by simp) ?_
  refine AllReadyH.cons (o := { dst := some 84,op := Go.Op.call { callee := Go.Callee.value (Go.Operand.func 29),args := #[Go.Operand.tmp 81,Go.Operand.tmp 83],argTypes := #[38,51] },type := 54,pos := "exact.go:2140",after := #[{ on := 1,ground := Go.Ground.data },{ on := 3,ground := Go.Ground.data },{ on := 3,ground := Go.Ground.chain }],guard := none }) rfl (fun K' hK => ?_) AllReadyH.nil
  go_simp
  refine (RNK.out _ _ _ Ey10 TA10 TO10).mono ?_
  rintro e y11 ⟨av2,cv2,bu2,du2,rfl,AA,AB,Ex,Ey11⟩
  have hlt : w13.heap.size < y10.heap.size := Jy10.2.2
  have Jy11 : BxZ y11 w13.heap.size := Jy10.kept Ex (by exact Jy10.2.2)
  go_wp2_with fail
  refine hK.out _ _ ?_ (fun hHeld => ?_)
  ·exact SA.out _ Ey11
  clear hK K'
  refine wpAnyH_take (i := 5) (oi := { dst := some 79,op := Go.Op.move (Go.Operand.tmp 84),type := 54,pos := "exact.go:2140",after := #[{ on := 4,ground := Go.Ground.data }],guard := none }) (v := ?_) rfl (by kernel_rfl) (by kernel_rfl) (by kernel_rfl) (fun _ _ _ h => h) (Or.inl ⟨by rfl,?_⟩) (by assumption) ?_
  rotate_left
  ·intro wq hSw
   simp only [RgS] at hSw
   go_simp
   all_goals (with_reducible rfl)
  (try simp only [Act.put,List.setIfInBounds_toArray,List.set_cons_zero,List.set_cons_succ])
  refine wpAnyH_take (i := 6) (oi := { dst := some 85,op := Go.Op.extract (Go.Operand.tmp 79) 0,type := 38,pos := "exact.go:2140",after := #[{ on := 5,ground := Go.Ground.data }],guard := none }) (v := ?_) rfl (by kernel_rfl) (by kernel_rfl) (by kernel_rfl) (fun _ _ _ h => h) (Or.inl ⟨by rfl,?_⟩) (by assumption) ?_
  rotate_left
  ·intro wq hSw
   simp only [RgS] at hSw
   go_simp
   all_goals (with_reducible rfl)
  (try simp only [Act.put,List.setIfInBounds_toArray,List.set_cons_zero,List.set_cons_succ])
  refine wpAnyH_take (i := 7) (oi := { dst := some 86,op := Go.Op.extract (Go.Operand.tmp 79) 1,type := 2,pos := "exact.go:2140",after := #[{ on := 5,ground := Go.Ground.data },{ on := 9,ground := Go.Ground.gcOnly Go.Departure.lateStores }],guard := none }) (v := ?_) rfl (by kernel_rfl) (by kernel_rfl) (by kernel_rfl) (fun _ _ _ h => h) (Or.inl ⟨by rfl,?_⟩) (by assumption) ?_
  rotate_left
  ·intro wq hSw
   simp only [RgS] at hSw
   go_simp
   all_goals (with_reducible rfl)
  (try simp only [Act.put,List.setIfInBounds_toArray,List.set_cons_zero,List.set_cons_succ])
  refine wpAnyH_ready (rs := [9]) (by kernel_rfl) (by simp) ?_
  refine AllReadyH.cons (o := { dst := none,op := Go.Op.store 38 (Go.Operand.tmp 14) (Go.Operand.tmp 85),type := 0,pos := "exact.go:2140",after := #[{ on := 8,ground := Go.Ground.data },{ on := 6,ground := Go.Ground.data },{ on := 4,ground := Go.Ground.chain },{ on := 0,ground := Go.Ground.phase },{ on := 1,ground := Go.Ground.phase },{ on := 2,ground := Go.Ground.phase },{ on := 3,ground := Go.Ground.phase },{ on := 4,ground := Go.Ground.phase },{ on := 5,ground := Go.Ground.phase },{ on := 6,ground := Go.Ground.phase },{ on := 7,ground := Go.Ground.textOnly Go.Departure.lateStores },{ on := 8,ground := Go.Ground.phase }],guard := none }) rfl (fun K' hK => ?_) AllReadyH.nil
  obtain ⟨⟨j0,j1,j2,j3,j4,j5,j6⟩,jf,jz⟩ := id Jy11
  have hRJ : w13.heap.size <= w13.heap.size := Nat.le_refl _
  go_simp
  refine hK.out _ _ ?_ (fun hHeld => ?_)
  ·exact SA.out _ (below_far (below_far (below_far (below_far (below_far (below_far (below_far Ey11 (by omega) _ _) (by omega) _ _) (by omega) _ _) (by omega) _ _) (by omega) _ _) (by omega) _ _) (by omega) _ _)
  clear hK K'
  refine wpAnyH_take (i := 10) (oi := { dst := some 15,op := Go.Op.assign (Go.Operand.tmp 86),type := 2,pos := "exact.go:2140",after := #[{ on := 7,ground := Go.Ground.data },{ on := 9,ground := Go.Ground.chain },{ on := 0,ground := Go.Ground.phase },{ on := 1,ground := Go.Ground.phase },{ on := 2,ground := Go.Ground.phase },{ on := 3,ground := Go.Ground.phase },{ on := 4,ground := Go.Ground.phase },{ on := 5,ground := Go.Ground.phase },{ on := 6,ground := Go.Ground.phase },{ on := 7,ground := Go.Ground.phase },{ on := 8,ground := Go.Ground.phase },{ on := 9,ground := Go.Ground.phase }],guard := none }) (v := ?_) rfl (by kernel_rfl) (by kernel_rfl) (by kernel_rfl) (fun _ _ _ h => h) (Or.inl ⟨by rfl,?_⟩) (by assumption) ?_
  rotate_left
  ·intro wq hSw
   simp only [RgS] at hSw
   go_simp
   all_goals (with_reducible rfl)
  (try simp only [Act.put,List.setIfInBounds_toArray,List.set_cons_zero,List.set_cons_succ])
  refine wpAnyH_done (by kernel_rfl) ?_ _
  go_wp2_with fail
  go_meet
  exact ⟨rfl,hidOf ⟨w13.heap.size,av2,cv2,bu2,du2,rfl,(((((((Jy11.set0 _).set1 _).set2 _).set3 _).set4 _).set5 _).set6 _),hRJ,(((((((AA.far hlt _ _).far hlt _ _).far hlt _ _).far hlt _ _).far hlt _ _).far hlt _ _).far hlt _ _).mono (Ey10).size,(((((((AB.far hlt _ _).far hlt _ _).far hlt _ _).far hlt _ _).far hlt _ _).far hlt _ _).far hlt _ _).mono (Ey10).size,fun q hq => by have := (World.ownsRow.lt AA q hq).1; omega,fun q hq => by have := (World.ownsRow.lt AB q hq).1; omega,(below_far (below_far (below_far (below_far (below_far (below_far (below_far Ey11 (by omega) _ _) (by omega) _ _) (by omega) _ _) (by omega) _ _) (by omega) _ _) (by omega) _ _) (by omega) _ _)⟩⟩
 obtain ⟨w14,hw14⟩ : ∃ w14,w14 = wc := ⟨_,rfl⟩
 subst hw14
 obtain ⟨rfl,hcutx⟩ := hcut
 obtain ⟨rJ2,av2,cv2,bu2,du2,rfl,hJbx,hJle,hJA,hJO,hJa,hJo,E⟩ := hcutx.out
 have BB14 := hidOf (BB13.out.trans (E.mono BB13.out.size))
 have z14 : w13.heap.size <= w14.heap.size := E.size
 have I0 := hidOf hJA
 have I1 := hidOf hJO
 have IB := hidOf hJbx
 have NI0 := hidOf hJa
 have NI1 := hidOf hJo
 have yJ2 : w13.heap.size <= rJ2 /\ rJ2 < w14.heap.size := ⟨hJle,hJbx.2.2⟩
 have LI0 : Hid (∀ q,(Value.slice av2 G.length cv2).ownBlock = some q -> w13.heap.size <= q /\ q < w14.heap.size) := fun q hq => World.ownsRow.lt I0.out q hq
 have LI1 : Hid (∀ q,(Value.slice bu2 H.length du2).ownBlock = some q -> w13.heap.size <= q /\ q < w14.heap.size) := fun q hq => World.ownsRow.lt I1.out q hq
 replace Z := hidOf (Z.out.kept E (by omega))
 replace ZO := hidOf (ZO.out.kept E (by omega))
 replace J0 := hidOf (J0.out.kept E)
 replace J1 := hidOf (J1.out.kept E)
 replace JB := hidOf (JB.out.kept E (by omega))
 replace XB := hidOf (XB.out.kept E (by omega))
 replace K0 := hidOf (K0.out.kept E)
 replace K1 := hidOf (K1.out.kept E)
 replace KB := hidOf (KB.out.kept E (by omega))
 clear E BB13 SA E0 BG TOBK RNK hcutx hJbx hJle hJA hJO hJa hJo TBK
 obtain ⟨⟨IBc0,IBc1,IBc2,IBc3,IBc4,IBc5,IBc6⟩,IBcf,IBcz⟩ := IB.out
 obtain ⟨⟨JBc0,JBc1,JBc2,JBc3,JBc4,JBc5,JBc6⟩,JBcf,JBcz⟩ := JB.out
 go_wp2_with fail
 refine (EQ.out _ _ _ _ _ _ _ _ _ I0.out J0.out I1.out J1.out).mono ?_
 rintro e w15 ⟨rfl,E⟩
 clear IBc0 IBc1 IBc2 IBc3 IBc4 IBc5 IBc6 IBcf IBcz
 clear JBc0 JBc1 JBc2 JBc3 JBc4 JBc5 JBc6 JBcf JBcz
 have BB15 := hidOf (BB14.out.trans (E.mono BB14.out.size))
 have z15 : w14.heap.size <= w15.heap.size := E.size
 replace Z := hidOf (Z.out.kept E (by omega))
 replace ZO := hidOf (ZO.out.kept E (by omega))
 replace J0 := hidOf (J0.out.kept E)
 replace J1 := hidOf (J1.out.kept E)
 replace JB := hidOf (JB.out.kept E (by omega))
 replace XB := hidOf (XB.out.kept E (by omega))
 replace K0 := hidOf (K0.out.kept E)
 replace K1 := hidOf (K1.out.kept E)
 replace KB := hidOf (KB.out.kept E (by omega))
 replace I0 := hidOf (I0.out.kept E)
 replace I1 := hidOf (I1.out.kept E)
 replace IB := hidOf (IB.out.kept E (by omega))
 clear E BB14 
 obtain ⟨⟨KBc0,KBc1,KBc2,KBc3,KBc4,KBc5,KBc6⟩,KBcf,KBcz⟩ := KB.out
 go_wp2_with fail
 refine (heldBank _ _ (.slice av1 G.length cv1) (.slice bu1 H.length du1) M P K _ hMl hPl K0.out K1.out HM2.out HP2.out).mono ?_
 rintro e w16 ⟨rfl,E⟩
 clear KBc0 KBc1 KBc2 KBc3 KBc4 KBc5 KBc6 KBcf KBcz
 have BB16 := hidOf (BB15.out.trans (E.mono BB15.out.size))
 have z16 : w15.heap.size <= w16.heap.size := E.size
 replace Z := hidOf (Z.out.kept E (by omega))
 replace ZO := hidOf (ZO.out.kept E (by omega))
 replace J0 := hidOf (J0.out.kept E)
 replace J1 := hidOf (J1.out.kept E)
 replace JB := hidOf (JB.out.kept E (by omega))
 replace XB := hidOf (XB.out.kept E (by omega))
 replace K0 := hidOf (K0.out.kept E)
 replace K1 := hidOf (K1.out.kept E)
 replace KB := hidOf (KB.out.kept E (by omega))
 replace I0 := hidOf (I0.out.kept E)
 replace I1 := hidOf (I1.out.kept E)
 replace IB := hidOf (IB.out.kept E (by omega))
 clear E BB15 
 rw [HM1.out,HP1.out]
 go_wp2
 go_ret
 exact ⟨rfl,BB16.out⟩
end Go.Proofs.YtghkbhggopiajaaGreatDoor
