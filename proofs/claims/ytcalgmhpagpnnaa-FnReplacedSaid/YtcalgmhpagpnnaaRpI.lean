/- Replace of the program. Conditions: the disk's lists lie in memory; the name's and the data's bytes are at most 1048576. -/
import Derived.Test.YtcalgmhpagpnnaaRpS
namespace Go.Proofs.Ytcalgmhpagpnnaa
open Go.RowKit
set_option maxRecDepth 8000

theorem readL {V : World} {q q' q'' : Option Addr} {n m r : Nat} (c c' c'' : Nat) {L1 L2 : List Fl} {L3 : List Dp} (h : DkL V q n q' m q'' r L1 L2 L3) (s : ByteArray) : Calls Try.prog 22 #[.agg #[.slice q n c, .slice q' m c', .slice q'' r c''], .string s] V fun e w' => RdOut (rdF (diskB L1 L2 L3) L1 s) e ∧ Below V.heap.size V w' := by
  obtain ⟨F, G, O, hd, rfl, rfl, rfl⟩ := h
  exact implRead q q' q'' n m r c c' c'' F G O s V hd
theorem RBx.grown {w V V' : World} {v0 v1 v2 : Value} {row : Option Nat} (h : RBx w V v0 v1 v2) (g : V.grownBy V' row) (hr : ∀ k, row = some k → w.heap.size + 1 < k) : RBx w V' v0 v1 v2 :=
  ⟨h.d.grown g (fun e => by have := hr _ e.symm; omega), h.z.grown g (fun e => by have := hr _ e.symm; omega), h.b.grown g h.b.size (fun k hk => by have := hr k hk; omega)⟩
theorem dpNews2 {w : World} {b : Nat} (hb : b = w.heap.size) (f g : Dp) : ∀ j u, (DpC f ++ DpC g)[j]? = some u → (w.alloc (.cells #[.int .i64 f.kind, .string f.name, .string f.dst, .string f.data, .int .i64 g.kind, .string g.name, .string g.dst, .string g.data] 36)).cell? (Addr.add ⟨b, 0, none⟩ j) = some u := by
  subst hb
  intro j u h
  have hj : j < 8 := (List.getElem?_eq_some_iff.1 h).1
  have e : (w.alloc (.cells #[.int .i64 f.kind, .string f.name, .string f.dst, .string f.data, .int .i64 g.kind, .string g.name, .string g.dst, .string g.data] 36)).heap[w.heap.size]? = some (.cells #[.int .i64 f.kind, .string f.name, .string f.dst, .string f.data, .int .i64 g.kind, .string g.name, .string g.dst, .string g.data] 36) := (MapKept.heap_alloc w _).1
  have ea : Addr.add ⟨w.heap.size, 0, none⟩ j = ⟨w.heap.size, j, none⟩ := by
    unfold Addr.add
    by_cases h0 : j = 0 <;> simp [h0]
  rw [ea, ← h]
  unfold World.cell?
  simp only [e]
  simp [DpC]
theorem dpOne2 (f g : Dp) : ∀ u ∈ DpC f ++ DpC g, u.oneCell' = true := by
  intro u hu
  rcases List.mem_append.1 hu with k | k
  · exact dpOne f u k
  · exact dpOne g u k
theorem DpL.snoc2 {w2 : World} {B : Nat} {v : Value} {M : List Dp} {f g : Dp} (h : w2.ownsRow B 36 4 v (M.length + 2) (M.flatMap DpC ++ (DpC f ++ DpC g))) : DpL w2 B v (M ++ [f, g]) := by
  unfold DpL
  rw [List.flatMap_append, List.length_append]
  simpa using h
theorem DkAns.alloc {w W : World} {L1 L2 : List Fl} {L3 : List Dp} {v : Value} (h : DkAns w L1 L2 L3 v W) (o : Obj) : DkAns w L1 L2 L3 v (W.alloc o) := by
  obtain ⟨a1, c1, a2, c2, a3, c3, e, O, D⟩ := h
  exact ⟨a1, c1, a2, c2, a3, c3, e, O.kept ((Below.refl _ _).alloc (Nat.le_refl _) _), D.alloc D.size _⟩
theorem rep_at {t : T3} {L : List Dp} {k : Nat} (h : k < L.length) : rep t (L.drop k) = if cod t (DpF L k) = 0 then rep (nxt t (DpF L k)) (L.drop (k + 1)) else (cod t (DpF L k), t) := by
  rw [List.drop_eq_getElem_cons h, DpF_lt h, rep]

set_option maxHeartbeats 8000000 in
theorem implRepl (q q' q'' : Option Addr) (n m r c c' c'' : Nat) (L1 L2 : List Fl) (L3 : List Dp) (nm dt : ByteArray) (w : World) (h : DkL w q n q' m q'' r L1 L2 L3) (hso : ∀ x ∈ L3, x.data.size ≤ 1048576) (hdt : dt.size ≤ 1048576) (hnm : nm.size ≤ 1048576) :
    Calls Try.prog 24 #[.agg #[.slice q n c, .slice q' m c', .slice q'' r c''], .string nm, .string dt] w fun e w' => ∃ v, e = .returned (.tuple #[v, .int .i64 (repC (L1, L2, L3) nm dt)]) ∧ DkAns w (repT (L1, L2, L3) nm dt).1 (repT (L1, L2, L3) nm dt).2.1 (repT (L1, L2, L3) nm dt).2.2 v w' := by
  have SO : Hid (∀ x ∈ L3, x.data.size ≤ 1048576) := hso
  have HDT : Hid (dt.size ≤ 1048576) := hdt
  have DW : Hid (∀ V, Below w.heap.size w V → DkL V q n q' m q'' r L1 L2 L3) := fun V hV => h.below hV
  clear h hso hdt
  obtain ⟨i0, hi, hz0, hz1, hz2⟩ := info_parts infoDp
  obtain ⟨W0, hW0, X⟩ : ∃ W0, W0 = (w.alloc (.cells #[.slice q n c, .slice q' m c', .slice q'' r c''] 27)).alloc (.cells #[.slice none 0 0, .slice none 0 0, .slice none 0 0] 27) ∧ RBx w W0 (.slice q n c) (.slice q' m c') (.slice q'' r c'') := ⟨_, rfl, RBx.new w _ _ _⟩
  have HW0 : Hid (W0 = _) := hW0
  have X0 : Hid (RBx w W0 (.slice q n c) (.slice q' m c') (.slice q'' r c'')) := X
  clear hW0 X
  go_enter Try.func24, Try.ntmps24
  go_wp2_with fail
  rw [← HW0.out]
  refine (readL _ _ _ (DW.out _ X0.out.b) _).mono ?_
  rintro e w1 ⟨hR, D1⟩
  have XR : Hid (RBx w w1 (.slice q n c) (.slice q' m c') (.slice q'' r c'')) := X0.out.kept D1
  clear D1 X0 HW0
  have hw1 : w.heap.size + 1 < w1.heap.size := XR.out.z.2.2
  obtain ⟨⟨⟨s0, s1, s2⟩, _, _⟩, _, _⟩ := XR.out
  cases hrd : rdF (diskB L1 L2 L3) L1 (nm ++ ⟨#[46, 110, 101, 119]⟩) with
  | none =>
    rw [hrd] at hR
    obtain rfl : e = .returned (.tuple #[.string ⟨#[]⟩, .bool false]) := hR
    obtain ⟨OL, hOL⟩ : ∃ OL, OL = [(⟨1, tmpN nm, ⟨#[]⟩, dt⟩ : Dp), (⟨2, tmpN nm, nm, ⟨#[]⟩⟩ : Dp)] := ⟨_, rfl⟩
    have EE : (repC (L1, L2, L3) nm dt = (rep (L1, L2, L3) OL).1 ∧ repT (L1, L2, L3) nm dt = if (rep (L1, L2, L3) OL).1 = 0 then (rep (L1, L2, L3) OL).2 else if (rep (L1, L2, L3) OL).1 = 1 then ([], [], []) else (L1, L2, L3)) := by
      rw [hOL]
      cases hx : diskB L1 L2 L3
      · rw [repC_no nm dt hx, repT_no nm dt hx]
        simp [rep, cod, doC, hx]
      · rw [hx] at hrd
        have hg : (getN Fl.name (tmpN nm) L1).isSome = false := by
          simp only [rdF, if_true, Option.map_eq_none_iff] at hrd
          show (getN Fl.name (nm ++ ⟨#[46, 110, 101, 119]⟩) L1).isSome = false
          rw [hrd]; rfl
        simp [repT, repC, rOps, hg]
    have EC : Hid (repC (L1, L2, L3) nm dt = (rep (L1, L2, L3) OL).1) := EE.1
    have ET : Hid (repT (L1, L2, L3) nm dt = if (rep (L1, L2, L3) OL).1 = 0 then (rep (L1, L2, L3) OL).2 else if (rep (L1, L2, L3) OL).1 = 1 then ([], [], []) else (L1, L2, L3)) := EE.2
    have OS : Hid (∀ x ∈ OL, x.data.size ≤ 1048576) := by
      rw [hOL]
      intro x hx
      simp at hx
      rcases hx with rfl | rfl
      · exact HDT.out
      · show (0 : Nat) ≤ _; omega
    have HOL : Hid (OL = _) := hOL
    clear EE hrd hOL
    go_wp2_with (at_builtin; refine wpList_append_own_at _ rfl _ _ 25 rfl (w.heap.size + 1 + 1) 36 i0 _ 4 56 Try.underlying25 hi hz0 hz1 hz2 rfl (by decide) _ _ _ rfl (DpL.nil _ _) ⟨_, 0, none⟩ 2 2 (DpC (⟨1, tmpN nm, ⟨#[]⟩, dt⟩ : Dp) ++ DpC (⟨2, tmpN nm, nm, ⟨#[]⟩⟩ : Dp)) rfl rfl (dpNews2 (by simp) (⟨1, tmpN nm, ⟨#[]⟩, dt⟩ : Dp) (⟨2, tmpN nm, nm, ⟨#[]⟩⟩ : Dp)) (dpOne2 _ _) (by unfold maxLen; simp) (by simp) (by simp; omega) ?_; intro v8 w8 own8 grow8 _ at8; have O8' : DpL w8 (w.heap.size + 1 + 1) v8 OL := (by rw [HOL.out]; exact DpL.snoc2 (M := []) own8); obtain ⟨oa, Nn, oc, hNn, hv8⟩ : ∃ oa Nn oc, Nn = OL.length ∧ v8 = .slice oa Nn oc := (by obtain ⟨x, y, hh, _, _⟩ := O8'.shape; exact ⟨x, _, y, rfl, hh⟩); have HN : Hid (OL.length = Nn) := hNn.symm; clear hNn; have O8 : Hid (DpL w8 (w.heap.size + 1 + 1) v8 OL) := O8'; have XR8 : Hid (RBx w w8 (.slice q n c) (.slice q' m c') (.slice q'' r c'')) := (XR.out.kept ((Below.refl _ _).alloc (Nat.le_refl _) _)).grown grow8 (fun k hk => by cases hk); clear s0 s1 s2; obtain ⟨⟨⟨s0, s1, s2⟩, _, _⟩, _, _⟩ := XR8.out; subst hv8; clear own8 grow8 at8 O8')
    have hNn0 : 0 < Nn := by rw [← HN.out, HOL.out]; simp
    have hNl : Nn ≤ 1048576 := by rw [← HN.out, HOL.out]; simp
    have OD : Hid (Dps w8 oa Nn (DpF OL)) := (O8.out.list (by rw [HN.out]; exact hNl)).2
    clear HOL O8
    have hw8 : w.heap.size + 1 < w8.heap.size := XR8.out.z.2.2
    have Y0 : Hid (Below w8.heap.size w8 (w8.alloc (.cells #[.slice q n c, .slice q' m c', .slice q'' r c''] 27)) ∧ Box3 (w8.alloc (.cells #[.slice q n c, .slice q' m c', .slice q'' r c''] 27)) w8.heap.size (.slice q n c) (.slice q' m c') (.slice q'' r c'') ∧ DkL (w8.alloc (.cells #[.slice q n c, .slice q' m c', .slice q'' r c''] 27)) q n q' m q'' r L1 L2 L3) := ⟨(Below.refl _ _).alloc (Nat.le_refl _) _, Box3.new w8 _ _ _ 27, DW.out _ (XR8.out.kept ((Below.refl _ _).alloc (Nat.le_refl _) _)).b⟩
    go_loopw [43] (fun i wr => ∃ (k : Nat) (X1 X2 : List Fl) (X3 : List Dp) (a1 : Option Addr) (an1 ac1 : Nat) (a2 : Option Addr) (an2 ac2 : Nat) (a3 : Option Addr) (an3 ac3 : Nat), k ≤ Nn ∧ i = .int .i64 k ∧ Hid (Below w8.heap.size w8 wr ∧ Box3 wr w8.heap.size (.slice a1 an1 ac1) (.slice a2 an2 ac2) (.slice a3 an3 ac3) ∧ DkL wr a1 an1 a2 an2 a3 an3 X1 X2 X3 ∧ (∀ x ∈ X3, x.data.size ≤ 1048576) ∧ rep (L1, L2, L3) OL = rep (X1, X2, X3) (OL.drop k) ∧ (k = 0 ∨ Own3 wr (w.heap.size + 1 + 1) (.slice a1 an1 ac1) (.slice a2 an2 ac2) (.slice a3 an3 ac3) X1 X2 X3))) (fun i _ => Nn - (intOf i).toNat)
    case atStart => exact ⟨0, L1, L2, L3, q, n, c, q', m, c', q'', r, c'', Nat.zero_le _, rfl, ⟨Y0.out.1, Y0.out.2.1, Y0.out.2.2, SO.out, rfl, Or.inl rfl⟩⟩
    case round =>
      obtain ⟨k, X1, X2, X3, a1, an1, ac1, a2, an2, ac2, a3, an3, ac3, hk, rfl, HH⟩ := hrel
      clear Y0 s0 s1 s2
      have XRr : Hid (RBx w wr (.slice q n c) (.slice q' m c') (.slice q'' r c'')) := XR8.out.low HH.out.1 hw8
      obtain ⟨⟨p0, p1, p2⟩, pf, pl⟩ := HH.out.2.1
      obtain ⟨⟨⟨s0, s1, s2⟩, _, _⟩, ⟨⟨z0, z1, z2⟩, zf, zl⟩, _⟩ := XRr.out
      by_cases hlt : k < Nn
      · obtain ⟨b, oo, rfl, hb0, hA0⟩ := OD.out.acc hlt
        have hcc := hA0.of_cells (w' := wr) (fun x => HH.out.1.cell (p := ⟨b, x, none⟩) hb0)
        clear hA0
        have hb : b < wr.heap.size := Nat.lt_of_lt_of_le hb0 HH.out.1.size
        have RA : Hid (rep (L1, L2, L3) OL = if cod (X1, X2, X3) (DpF OL k) = 0 then rep (nxt (X1, X2, X3) (DpF OL k)) (OL.drop (k + 1)) else (cod (X1, X2, X3) (DpF OL k), (X1, X2, X3))) := HH.out.2.2.2.2.1.trans (rep_at (by rw [HN.out]; exact hlt))
        have HD : Hid ((DpF OL k).data.size ≤ 1048576) := OS.out _ (by rw [DpF_lt (by rw [HN.out]; exact hlt)]; exact List.getElem_mem _)
        obtain ⟨f, hf⟩ : ∃ f, f = DpF OL k := ⟨_, rfl⟩
        rw [← hf] at RA HD hcc
        clear hf
        obtain ⟨c0, c1, c2, c3⟩ := hcc
        have bA : Hid (Below wr.heap.size wr (wr.alloc (.cells #[.int .i64 f.kind, .string f.name, .string f.dst, .string f.data] 36))) := (Below.refl _ _).alloc (Nat.le_refl _) _
        go_wp2_with fail
        refine (doL _ _ _ (HH.out.2.2.1.below bA.out) f HD.out).mono ?_
        rintro e u ⟨g1, gn1, gc1, g2, gn2, gc2, g3, gn3, gc3, rfl, OG, DG⟩
        have XA : Hid (RBx w (wr.alloc (.cells #[.int .i64 f.kind, .string f.name, .string f.dst, .string f.data] 36)) (.slice q n c) (.slice q' m c') (.slice q'' r c'')) := XRr.out.kept bA.out
        have BA : Hid (Below u.heap.size u (u.alloc (.cells #[.slice g1 gn1 gc1, .slice g2 gn2 gc2, .slice g3 gn3 gc3] 27))) := (Below.refl _ _).alloc (Nat.le_refl _) _
        have XU : Hid (RBx w u (.slice q n c) (.slice q' m c') (.slice q'' r c'')) := XA.out.kept DG
        have XV : Hid (RBx w (u.alloc (.cells #[.slice g1 gn1 gc1, .slice g2 gn2 gc2, .slice g3 gn3 gc3] 27)) (.slice q n c) (.slice q' m c') (.slice q'' r c'')) := XU.out.kept BA.out
        have PA := HH.out.2.1.keptS bA.out
        clear p0 p1 p2 pf pl s0 s1 s2 z0 z1 z2 zf zl c0 c1 c2 c3
        obtain ⟨⟨⟨s0, s1, s2⟩, _, _⟩, ⟨⟨z0, z1, z2⟩, zf, zl⟩, _⟩ := XU.out
        obtain ⟨⟨p0, p1, p2⟩, pf, pl⟩ := PA.keptS DG
        by_cases h1 : doC X1 X2 X3 f = 1
        · have E : Hid (repC (L1, L2, L3) nm dt = 1) := (by rw [EC.out, RA.out, cod, h1]; rfl : repC (L1, L2, L3) nm dt = 1)
          have E2 : Hid (repT (L1, L2, L3) nm dt = ([], [], [])) := (by rw [ET.out, RA.out, cod, h1]; rfl : repT (L1, L2, L3) nm dt = ([], [], []))
          rw [h1]
          clear h1 RA
          obtain ⟨⟨y0, y1, y2⟩, _, _⟩ := (((XU.out.z.set0 (.slice none 0 0)).set1 (.slice none 0 0)).set2 (.slice none 0 0)).keptS ((Below.refl _ _).alloc (Nat.le_refl _) (.cells #[.slice g1 gn1 gc1, .slice g2 gn2 gc2, .slice g3 gn3 gc3] 27))
          go_wp2
          exact bodyPost_ret (v := .tuple #[.agg #[.slice none 0 0, .slice none 0 0, .slice none 0 0], .int .i64 1]) (by simp [results, Try.results24, go_sem, y0, y1, y2]) rfl ⟨_, by rw [E.out], by rw [E2.out]; exact DkAns.alloc (ansAt (B := w.heap.size + 1 + 1) (u := u) ⟨FlL.nil _ _, FlL.nil _ _, DpL.nil _ _, fun g h => by cases h⟩ (by omega) (by omega) XU.out.b) _⟩
        by_cases h0 : doC X1 X2 X3 f = 0
        · have E : Hid (rep (L1, L2, L3) OL = rep (nxt (X1, X2, X3) f) (OL.drop (k + 1))) := (by rw [RA.out, cod, if_pos h0] : rep (L1, L2, L3) OL = rep (nxt (X1, X2, X3) f) (OL.drop (k + 1)))
          obtain ⟨AR, AP, AO⟩ := afterAct XA.out PA hw8 DG OG
          have NX := next_ok h0
          have SN := so_next (Lv := X1) (Sf := X2) HH.out.2.2.2.1 HD.out
          have BC : Below (((u.setCell ⟨w8.heap.size, 0, none⟩ (.slice g1 gn1 gc1)).setCell ⟨w8.heap.size, 1, none⟩ (.slice g2 gn2 gc2)).setCell ⟨w8.heap.size, 2, none⟩ (.slice g3 gn3 gc3)).heap.size (((u.setCell ⟨w8.heap.size, 0, none⟩ (.slice g1 gn1 gc1)).setCell ⟨w8.heap.size, 1, none⟩ (.slice g2 gn2 gc2)).setCell ⟨w8.heap.size, 2, none⟩ (.slice g3 gn3 gc3)) ((((u.setCell ⟨w8.heap.size, 0, none⟩ (.slice g1 gn1 gc1)).setCell ⟨w8.heap.size, 1, none⟩ (.slice g2 gn2 gc2)).setCell ⟨w8.heap.size, 2, none⟩ (.slice g3 gn3 gc3)).alloc (.cells #[.slice g1 gn1 gc1, .slice g2 gn2 gc2, .slice g3 gn3 gc3] 27)) := (Below.refl _ _).alloc (Nat.le_refl _) _
          have B8 : Below w8.heap.size w8 (((u.setCell ⟨w8.heap.size, 0, none⟩ (.slice g1 gn1 gc1)).setCell ⟨w8.heap.size, 1, none⟩ (.slice g2 gn2 gc2)).setCell ⟨w8.heap.size, 2, none⟩ (.slice g3 gn3 gc3)) := below_far (below_far (below_far ((HH.out.1.trans (bA.out.mono HH.out.1.size)).trans (DG.mono (Nat.le_trans HH.out.1.size bA.out.size))) (Nat.le_refl _) _ _) (Nat.le_refl _) _ _) (Nat.le_refl _) _ _
          have FI : Hid (Below w8.heap.size w8 ((((u.setCell ⟨w8.heap.size, 0, none⟩ (.slice g1 gn1 gc1)).setCell ⟨w8.heap.size, 1, none⟩ (.slice g2 gn2 gc2)).setCell ⟨w8.heap.size, 2, none⟩ (.slice g3 gn3 gc3)).alloc (.cells #[.slice g1 gn1 gc1, .slice g2 gn2 gc2, .slice g3 gn3 gc3] 27)) ∧ Box3 ((((u.setCell ⟨w8.heap.size, 0, none⟩ (.slice g1 gn1 gc1)).setCell ⟨w8.heap.size, 1, none⟩ (.slice g2 gn2 gc2)).setCell ⟨w8.heap.size, 2, none⟩ (.slice g3 gn3 gc3)).alloc (.cells #[.slice g1 gn1 gc1, .slice g2 gn2 gc2, .slice g3 gn3 gc3] 27)) w8.heap.size (.slice g1 gn1 gc1) (.slice g2 gn2 gc2) (.slice g3 gn3 gc3) ∧ DkL ((((u.setCell ⟨w8.heap.size, 0, none⟩ (.slice g1 gn1 gc1)).setCell ⟨w8.heap.size, 1, none⟩ (.slice g2 gn2 gc2)).setCell ⟨w8.heap.size, 2, none⟩ (.slice g3 gn3 gc3)).alloc (.cells #[.slice g1 gn1 gc1, .slice g2 gn2 gc2, .slice g3 gn3 gc3] 27)) g1 gn1 g2 gn2 g3 gn3 (doLv X1 X2 X3 f) (doSf X1 X2 X3 f) (doOs X1 X2 X3 f) ∧ (∀ x ∈ doOs X1 X2 X3 f, x.data.size ≤ 1048576) ∧ rep (L1, L2, L3) OL = rep (nxt (X1, X2, X3) f) (OL.drop (k + 1)) ∧ (k + 1 = 0 ∨ Own3 ((((u.setCell ⟨w8.heap.size, 0, none⟩ (.slice g1 gn1 gc1)).setCell ⟨w8.heap.size, 1, none⟩ (.slice g2 gn2 gc2)).setCell ⟨w8.heap.size, 2, none⟩ (.slice g3 gn3 gc3)).alloc (.cells #[.slice g1 gn1 gc1, .slice g2 gn2 gc2, .slice g3 gn3 gc3] 27)) (w.heap.size + 1 + 1) (.slice g1 gn1 gc1) (.slice g2 gn2 gc2) (.slice g3 gn3 gc3) (doLv X1 X2 X3 f) (doSf X1 X2 X3 f) (doOs X1 X2 X3 f))) := ⟨B8.trans (BC.mono B8.size), AP.keptS BC, own_dkL (AO.kept BC) NX SN, SN, E.out, Or.inr ((AO.mono (Nat.le_trans (Nat.le_trans hw8 HH.out.1.size) bA.out.size)).kept BC)⟩
          rw [h0]
          clear h0 h1 RA E AR AP AO NX SN OG DG PA BC B8
          go_wp2
          go_roundw
          case rel => exact ⟨k + 1, _, _, _, g1, gn1, gc1, g2, gn2, gc2, g3, gn3, gc3, by omega, by go_num, FI⟩
          case measure => simp [intOf]; omega
        · have E : Hid (repC (L1, L2, L3) nm dt = doC X1 X2 X3 f) := (by rw [EC.out, RA.out, cod, if_neg h0] : repC (L1, L2, L3) nm dt = doC X1 X2 X3 f)
          have E2 : Hid (repT (L1, L2, L3) nm dt = (L1, L2, L3)) := (by rw [ET.out, RA.out, cod, if_neg h0]; simp [h0, h1] : repT (L1, L2, L3) nm dt = (L1, L2, L3))
          generalize doC X1 X2 X3 f = kk at *
          have hk0 : (kk == 0) = false := by simpa using h0
          have hk1 : (kk == 1) = false := by simpa using h1
          have DV : Hid (DkL (u.alloc (.cells #[.slice g1 gn1 gc1, .slice g2 gn2 gc2, .slice g3 gn3 gc3] 27)) q n q' m q'' r L1 L2 L3) := DW.out _ XV.out.b
          clear OG DG PA RA
          go_wp2_with fail
          refine (copyL58 _ _ _ DV.out).mono ?_
          rintro e z9 ⟨y1, yn1, yc1, y2, yn2, yc2, y3, yn3, yc3, rfl, O9, D9⟩
          have X9 : Hid (RBx w z9 (.slice q n c) (.slice q' m c') (.slice q'' r c'')) := XV.out.kept D9
          have O9 : Hid (Own3 z9 (w.heap.size + 1 + 1) (.slice y1 yn1 yc1) (.slice y2 yn2 yc2) (.slice y3 yn3 yc3) L1 L2 L3) := O9.mono XV.out.z.2.2
          clear D9 z0 z1 z2 zf zl
          obtain ⟨_, ⟨⟨z0, z1, z2⟩, zf, zl⟩, _⟩ := X9.out
          go_wp2
          exact bodyPost_ret (v := .tuple #[.agg #[.slice y1 yn1 yc1, .slice y2 yn2 yc2, .slice y3 yn3 yc3], .int .i64 kk]) (by simp [results, Try.results24, go_sem, z0, z1, z2]) rfl ⟨_, by rw [E.out], by rw [E2.out]; exact ansAt O9.out (by omega) (by omega) X9.out.b⟩
      · obtain rfl : k = Nn := by omega
        have RE : rep (L1, L2, L3) OL = (0, (X1, X2, X3)) := by rw [HH.out.2.2.2.2.1, List.drop_eq_nil_of_le (by rw [HN.out]; exact Nat.le_refl _)]; rfl
        have E : Hid (repC (L1, L2, L3) nm dt = 0) := (by rw [EC.out, RE] : repC (L1, L2, L3) nm dt = 0)
        have E2 : Hid (repT (L1, L2, L3) nm dt = (X1, X2, X3)) := (by rw [ET.out, RE]; rfl : repT (L1, L2, L3) nm dt = (X1, X2, X3))
        have OX : Hid (Own3 wr (w.heap.size + 1 + 1) (.slice a1 an1 ac1) (.slice a2 an2 ac2) (.slice a3 an3 ac3) X1 X2 X3) := by
          rcases HH.out.2.2.2.2.2 with k0 | k0
          · omega
          · exact k0
        clear RE
        go_wp2
        exact bodyPost_ret (v := .tuple #[.agg #[.slice a1 an1 ac1, .slice a2 an2 ac2, .slice a3 an3 ac3], .int .i64 0]) (by simp [results, Try.results24, go_sem, z0, z1, z2]) rfl ⟨_, by rw [E.out], by rw [E2.out]; exact ansAt OX.out (by omega) (by omega) XRr.out.b⟩
  | some xd =>
    rw [hrd] at hR
    obtain rfl : e = .returned (.tuple #[.string xd, .bool true]) := hR
    obtain ⟨OL, hOL⟩ : ∃ OL, OL = [(⟨3, tmpN nm, ⟨#[]⟩, ⟨#[]⟩⟩ : Dp), (⟨1, tmpN nm, ⟨#[]⟩, dt⟩ : Dp), (⟨2, tmpN nm, nm, ⟨#[]⟩⟩ : Dp)] := ⟨_, rfl⟩
    have EE : (repC (L1, L2, L3) nm dt = (rep (L1, L2, L3) OL).1 ∧ repT (L1, L2, L3) nm dt = if (rep (L1, L2, L3) OL).1 = 0 then (rep (L1, L2, L3) OL).2 else if (rep (L1, L2, L3) OL).1 = 1 then ([], [], []) else (L1, L2, L3)) := by
      rw [hOL]
      have hg : (getN Fl.name (tmpN nm) L1).isSome = true := by
        show (getN Fl.name (nm ++ ⟨#[46, 110, 101, 119]⟩) L1).isSome = true
        cases hx : diskB L1 L2 L3
        · rw [hx] at hrd; cases hrd
        · rw [hx] at hrd
          simp only [rdF, if_true, Option.map_eq_some_iff] at hrd
          obtain ⟨f, hf, _⟩ := hrd
          rw [hf]; rfl
      simp [repT, repC, rOps, hg]
    have EC : Hid (repC (L1, L2, L3) nm dt = (rep (L1, L2, L3) OL).1) := EE.1
    have ET : Hid (repT (L1, L2, L3) nm dt = if (rep (L1, L2, L3) OL).1 = 0 then (rep (L1, L2, L3) OL).2 else if (rep (L1, L2, L3) OL).1 = 1 then ([], [], []) else (L1, L2, L3)) := EE.2
    have OS : Hid (∀ x ∈ OL, x.data.size ≤ 1048576) := by
      rw [hOL]
      intro x hx
      simp at hx
      rcases hx with rfl | rfl | rfl
      · show (0 : Nat) ≤ _; omega
      · exact HDT.out
      · show (0 : Nat) ≤ _; omega
    have HOL : Hid (OL = _) := hOL
    clear EE hrd hOL
    go_wp2_with (first | (at_builtin; refine wpList_append_own_at _ rfl _ _ 25 rfl (w.heap.size + 1 + 1) 36 i0 _ 4 56 Try.underlying25 hi hz0 hz1 hz2 rfl (by decide) _ _ _ rfl (World.ownsRow.alloc O7.out _) ⟨_, 0, none⟩ 2 2 (DpC (⟨1, tmpN nm, ⟨#[]⟩, dt⟩ : Dp) ++ DpC (⟨2, tmpN nm, nm, ⟨#[]⟩⟩ : Dp)) rfl rfl (dpNews2 (by simp) (⟨1, tmpN nm, ⟨#[]⟩, dt⟩ : Dp) (⟨2, tmpN nm, nm, ⟨#[]⟩⟩ : Dp)) (dpOne2 _ _) (by unfold maxLen; simp) (by simp) (by simp; omega) ?_; intro v8 w8 own8 grow8 _ at8; have O8' : DpL w8 (w.heap.size + 1 + 1) v8 OL := (by rw [HOL.out]; exact DpL.snoc2 (M := [(⟨3, tmpN nm, ⟨#[]⟩, ⟨#[]⟩⟩ : Dp)]) own8); obtain ⟨oa, Nn, oc, hNn, hv8⟩ : ∃ oa Nn oc, Nn = OL.length ∧ v8 = .slice oa Nn oc := (by obtain ⟨x, y, hh, _, _⟩ := O8'.shape; exact ⟨x, _, y, rfl, hh⟩); have HN : Hid (OL.length = Nn) := hNn.symm; clear hNn; have O8 : Hid (DpL w8 (w.heap.size + 1 + 1) v8 OL) := O8'; have XR8 : Hid (RBx w w8 (.slice q n c) (.slice q' m c') (.slice q'' r c'')) := (X7.out.kept ((Below.refl _ _).alloc (Nat.le_refl _) _)).grown grow8 (fun k hk => (by have := O7.out.lt k hk; omega)); clear s0 s1 s2; obtain ⟨⟨⟨s0, s1, s2⟩, _, _⟩, _, _⟩ := XR8.out; subst hv8; clear own8 grow8 at8 O8' O7 X7) | (at_builtin; refine wpList_append_own_at _ rfl _ _ 25 rfl (w.heap.size + 1 + 1) 36 i0 _ 4 56 Try.underlying25 hi hz0 hz1 hz2 rfl (by decide) _ _ _ rfl (DpL.nil _ _) ⟨_, 0, none⟩ 1 1 (DpC (⟨3, tmpN nm, ⟨#[]⟩, ⟨#[]⟩⟩ : Dp)) rfl rfl (dpNewsAt (by simp) (⟨3, tmpN nm, ⟨#[]⟩, ⟨#[]⟩⟩ : Dp)) (dpOne _) (by unfold maxLen; simp) (by simp) (by simp; omega) ?_; intro v7 w7 own7 grow7 _ at7; have O7' : DpL w7 (w.heap.size + 1 + 1) v7 [(⟨3, tmpN nm, ⟨#[]⟩, ⟨#[]⟩⟩ : Dp)] := DpL.snoc (M := []) own7; obtain ⟨va7, k7, vc7, hv7⟩ : ∃ va7 k7 vc7, v7 = .slice va7 k7 vc7 := (by obtain ⟨x, y, hh, _, _⟩ := O7'.shape; exact ⟨x, _, y, hh⟩); have O7 : Hid (DpL w7 (w.heap.size + 1 + 1) v7 [(⟨3, tmpN nm, ⟨#[]⟩, ⟨#[]⟩⟩ : Dp)]) := O7'; have X7 : Hid (RBx w w7 (.slice q n c) (.slice q' m c') (.slice q'' r c'')) := (XR.out.kept ((Below.refl _ _).alloc (Nat.le_refl _) _)).grown grow7 (fun k hk => (by cases hk)); have hw7 : w.heap.size + 1 < w7.heap.size := X7.out.z.2.2; subst hv7; clear own7 grow7 at7 O7'))
    have hNn0 : 0 < Nn := by rw [← HN.out, HOL.out]; simp
    have hNl : Nn ≤ 1048576 := by rw [← HN.out, HOL.out]; simp
    have OD : Hid (Dps w8 oa Nn (DpF OL)) := (O8.out.list (by rw [HN.out]; exact hNl)).2
    clear HOL O8
    have hw8 : w.heap.size + 1 < w8.heap.size := XR8.out.z.2.2
    have Y0 : Hid (Below w8.heap.size w8 (w8.alloc (.cells #[.slice q n c, .slice q' m c', .slice q'' r c''] 27)) ∧ Box3 (w8.alloc (.cells #[.slice q n c, .slice q' m c', .slice q'' r c''] 27)) w8.heap.size (.slice q n c) (.slice q' m c') (.slice q'' r c'') ∧ DkL (w8.alloc (.cells #[.slice q n c, .slice q' m c', .slice q'' r c''] 27)) q n q' m q'' r L1 L2 L3) := ⟨(Below.refl _ _).alloc (Nat.le_refl _) _, Box3.new w8 _ _ _ 27, DW.out _ (XR8.out.kept ((Below.refl _ _).alloc (Nat.le_refl _) _)).b⟩
    go_loopw [43] (fun i wr => ∃ (k : Nat) (X1 X2 : List Fl) (X3 : List Dp) (a1 : Option Addr) (an1 ac1 : Nat) (a2 : Option Addr) (an2 ac2 : Nat) (a3 : Option Addr) (an3 ac3 : Nat), k ≤ Nn ∧ i = .int .i64 k ∧ Hid (Below w8.heap.size w8 wr ∧ Box3 wr w8.heap.size (.slice a1 an1 ac1) (.slice a2 an2 ac2) (.slice a3 an3 ac3) ∧ DkL wr a1 an1 a2 an2 a3 an3 X1 X2 X3 ∧ (∀ x ∈ X3, x.data.size ≤ 1048576) ∧ rep (L1, L2, L3) OL = rep (X1, X2, X3) (OL.drop k) ∧ (k = 0 ∨ Own3 wr (w.heap.size + 1 + 1) (.slice a1 an1 ac1) (.slice a2 an2 ac2) (.slice a3 an3 ac3) X1 X2 X3))) (fun i _ => Nn - (intOf i).toNat)
    case atStart => exact ⟨0, L1, L2, L3, q, n, c, q', m, c', q'', r, c'', Nat.zero_le _, rfl, ⟨Y0.out.1, Y0.out.2.1, Y0.out.2.2, SO.out, rfl, Or.inl rfl⟩⟩
    case round =>
      obtain ⟨k, X1, X2, X3, a1, an1, ac1, a2, an2, ac2, a3, an3, ac3, hk, rfl, HH⟩ := hrel
      clear Y0 s0 s1 s2
      have XRr : Hid (RBx w wr (.slice q n c) (.slice q' m c') (.slice q'' r c'')) := XR8.out.low HH.out.1 hw8
      obtain ⟨⟨p0, p1, p2⟩, pf, pl⟩ := HH.out.2.1
      obtain ⟨⟨⟨s0, s1, s2⟩, _, _⟩, ⟨⟨z0, z1, z2⟩, zf, zl⟩, _⟩ := XRr.out
      by_cases hlt : k < Nn
      · obtain ⟨b, oo, rfl, hb0, hA0⟩ := OD.out.acc hlt
        have hcc := hA0.of_cells (w' := wr) (fun x => HH.out.1.cell (p := ⟨b, x, none⟩) hb0)
        clear hA0
        have hb : b < wr.heap.size := Nat.lt_of_lt_of_le hb0 HH.out.1.size
        have RA : Hid (rep (L1, L2, L3) OL = if cod (X1, X2, X3) (DpF OL k) = 0 then rep (nxt (X1, X2, X3) (DpF OL k)) (OL.drop (k + 1)) else (cod (X1, X2, X3) (DpF OL k), (X1, X2, X3))) := HH.out.2.2.2.2.1.trans (rep_at (by rw [HN.out]; exact hlt))
        have HD : Hid ((DpF OL k).data.size ≤ 1048576) := OS.out _ (by rw [DpF_lt (by rw [HN.out]; exact hlt)]; exact List.getElem_mem _)
        obtain ⟨f, hf⟩ : ∃ f, f = DpF OL k := ⟨_, rfl⟩
        rw [← hf] at RA HD hcc
        clear hf
        obtain ⟨c0, c1, c2, c3⟩ := hcc
        have bA : Hid (Below wr.heap.size wr (wr.alloc (.cells #[.int .i64 f.kind, .string f.name, .string f.dst, .string f.data] 36))) := (Below.refl _ _).alloc (Nat.le_refl _) _
        go_wp2_with fail
        refine (doL _ _ _ (HH.out.2.2.1.below bA.out) f HD.out).mono ?_
        rintro e u ⟨g1, gn1, gc1, g2, gn2, gc2, g3, gn3, gc3, rfl, OG, DG⟩
        have XA : Hid (RBx w (wr.alloc (.cells #[.int .i64 f.kind, .string f.name, .string f.dst, .string f.data] 36)) (.slice q n c) (.slice q' m c') (.slice q'' r c'')) := XRr.out.kept bA.out
        have BA : Hid (Below u.heap.size u (u.alloc (.cells #[.slice g1 gn1 gc1, .slice g2 gn2 gc2, .slice g3 gn3 gc3] 27))) := (Below.refl _ _).alloc (Nat.le_refl _) _
        have XU : Hid (RBx w u (.slice q n c) (.slice q' m c') (.slice q'' r c'')) := XA.out.kept DG
        have XV : Hid (RBx w (u.alloc (.cells #[.slice g1 gn1 gc1, .slice g2 gn2 gc2, .slice g3 gn3 gc3] 27)) (.slice q n c) (.slice q' m c') (.slice q'' r c'')) := XU.out.kept BA.out
        have PA := HH.out.2.1.keptS bA.out
        clear p0 p1 p2 pf pl s0 s1 s2 z0 z1 z2 zf zl c0 c1 c2 c3
        obtain ⟨⟨⟨s0, s1, s2⟩, _, _⟩, ⟨⟨z0, z1, z2⟩, zf, zl⟩, _⟩ := XU.out
        obtain ⟨⟨p0, p1, p2⟩, pf, pl⟩ := PA.keptS DG
        by_cases h1 : doC X1 X2 X3 f = 1
        · have E : Hid (repC (L1, L2, L3) nm dt = 1) := (by rw [EC.out, RA.out, cod, h1]; rfl : repC (L1, L2, L3) nm dt = 1)
          have E2 : Hid (repT (L1, L2, L3) nm dt = ([], [], [])) := (by rw [ET.out, RA.out, cod, h1]; rfl : repT (L1, L2, L3) nm dt = ([], [], []))
          rw [h1]
          clear h1 RA
          obtain ⟨⟨y0, y1, y2⟩, _, _⟩ := (((XU.out.z.set0 (.slice none 0 0)).set1 (.slice none 0 0)).set2 (.slice none 0 0)).keptS ((Below.refl _ _).alloc (Nat.le_refl _) (.cells #[.slice g1 gn1 gc1, .slice g2 gn2 gc2, .slice g3 gn3 gc3] 27))
          go_wp2
          exact bodyPost_ret (v := .tuple #[.agg #[.slice none 0 0, .slice none 0 0, .slice none 0 0], .int .i64 1]) (by simp [results, Try.results24, go_sem, y0, y1, y2]) rfl ⟨_, by rw [E.out], by rw [E2.out]; exact DkAns.alloc (ansAt (B := w.heap.size + 1 + 1) (u := u) ⟨FlL.nil _ _, FlL.nil _ _, DpL.nil _ _, fun g h => by cases h⟩ (by omega) (by omega) XU.out.b) _⟩
        by_cases h0 : doC X1 X2 X3 f = 0
        · have E : Hid (rep (L1, L2, L3) OL = rep (nxt (X1, X2, X3) f) (OL.drop (k + 1))) := (by rw [RA.out, cod, if_pos h0] : rep (L1, L2, L3) OL = rep (nxt (X1, X2, X3) f) (OL.drop (k + 1)))
          obtain ⟨AR, AP, AO⟩ := afterAct XA.out PA hw8 DG OG
          have NX := next_ok h0
          have SN := so_next (Lv := X1) (Sf := X2) HH.out.2.2.2.1 HD.out
          have BC : Below (((u.setCell ⟨w8.heap.size, 0, none⟩ (.slice g1 gn1 gc1)).setCell ⟨w8.heap.size, 1, none⟩ (.slice g2 gn2 gc2)).setCell ⟨w8.heap.size, 2, none⟩ (.slice g3 gn3 gc3)).heap.size (((u.setCell ⟨w8.heap.size, 0, none⟩ (.slice g1 gn1 gc1)).setCell ⟨w8.heap.size, 1, none⟩ (.slice g2 gn2 gc2)).setCell ⟨w8.heap.size, 2, none⟩ (.slice g3 gn3 gc3)) ((((u.setCell ⟨w8.heap.size, 0, none⟩ (.slice g1 gn1 gc1)).setCell ⟨w8.heap.size, 1, none⟩ (.slice g2 gn2 gc2)).setCell ⟨w8.heap.size, 2, none⟩ (.slice g3 gn3 gc3)).alloc (.cells #[.slice g1 gn1 gc1, .slice g2 gn2 gc2, .slice g3 gn3 gc3] 27)) := (Below.refl _ _).alloc (Nat.le_refl _) _
          have B8 : Below w8.heap.size w8 (((u.setCell ⟨w8.heap.size, 0, none⟩ (.slice g1 gn1 gc1)).setCell ⟨w8.heap.size, 1, none⟩ (.slice g2 gn2 gc2)).setCell ⟨w8.heap.size, 2, none⟩ (.slice g3 gn3 gc3)) := below_far (below_far (below_far ((HH.out.1.trans (bA.out.mono HH.out.1.size)).trans (DG.mono (Nat.le_trans HH.out.1.size bA.out.size))) (Nat.le_refl _) _ _) (Nat.le_refl _) _ _) (Nat.le_refl _) _ _
          have FI : Hid (Below w8.heap.size w8 ((((u.setCell ⟨w8.heap.size, 0, none⟩ (.slice g1 gn1 gc1)).setCell ⟨w8.heap.size, 1, none⟩ (.slice g2 gn2 gc2)).setCell ⟨w8.heap.size, 2, none⟩ (.slice g3 gn3 gc3)).alloc (.cells #[.slice g1 gn1 gc1, .slice g2 gn2 gc2, .slice g3 gn3 gc3] 27)) ∧ Box3 ((((u.setCell ⟨w8.heap.size, 0, none⟩ (.slice g1 gn1 gc1)).setCell ⟨w8.heap.size, 1, none⟩ (.slice g2 gn2 gc2)).setCell ⟨w8.heap.size, 2, none⟩ (.slice g3 gn3 gc3)).alloc (.cells #[.slice g1 gn1 gc1, .slice g2 gn2 gc2, .slice g3 gn3 gc3] 27)) w8.heap.size (.slice g1 gn1 gc1) (.slice g2 gn2 gc2) (.slice g3 gn3 gc3) ∧ DkL ((((u.setCell ⟨w8.heap.size, 0, none⟩ (.slice g1 gn1 gc1)).setCell ⟨w8.heap.size, 1, none⟩ (.slice g2 gn2 gc2)).setCell ⟨w8.heap.size, 2, none⟩ (.slice g3 gn3 gc3)).alloc (.cells #[.slice g1 gn1 gc1, .slice g2 gn2 gc2, .slice g3 gn3 gc3] 27)) g1 gn1 g2 gn2 g3 gn3 (doLv X1 X2 X3 f) (doSf X1 X2 X3 f) (doOs X1 X2 X3 f) ∧ (∀ x ∈ doOs X1 X2 X3 f, x.data.size ≤ 1048576) ∧ rep (L1, L2, L3) OL = rep (nxt (X1, X2, X3) f) (OL.drop (k + 1)) ∧ (k + 1 = 0 ∨ Own3 ((((u.setCell ⟨w8.heap.size, 0, none⟩ (.slice g1 gn1 gc1)).setCell ⟨w8.heap.size, 1, none⟩ (.slice g2 gn2 gc2)).setCell ⟨w8.heap.size, 2, none⟩ (.slice g3 gn3 gc3)).alloc (.cells #[.slice g1 gn1 gc1, .slice g2 gn2 gc2, .slice g3 gn3 gc3] 27)) (w.heap.size + 1 + 1) (.slice g1 gn1 gc1) (.slice g2 gn2 gc2) (.slice g3 gn3 gc3) (doLv X1 X2 X3 f) (doSf X1 X2 X3 f) (doOs X1 X2 X3 f))) := ⟨B8.trans (BC.mono B8.size), AP.keptS BC, own_dkL (AO.kept BC) NX SN, SN, E.out, Or.inr ((AO.mono (Nat.le_trans (Nat.le_trans hw8 HH.out.1.size) bA.out.size)).kept BC)⟩
          rw [h0]
          clear h0 h1 RA E AR AP AO NX SN OG DG PA BC B8
          go_wp2
          go_roundw
          case rel => exact ⟨k + 1, _, _, _, g1, gn1, gc1, g2, gn2, gc2, g3, gn3, gc3, by omega, by go_num, FI⟩
          case measure => simp [intOf]; omega
        · have E : Hid (repC (L1, L2, L3) nm dt = doC X1 X2 X3 f) := (by rw [EC.out, RA.out, cod, if_neg h0] : repC (L1, L2, L3) nm dt = doC X1 X2 X3 f)
          have E2 : Hid (repT (L1, L2, L3) nm dt = (L1, L2, L3)) := (by rw [ET.out, RA.out, cod, if_neg h0]; simp [h0, h1] : repT (L1, L2, L3) nm dt = (L1, L2, L3))
          generalize doC X1 X2 X3 f = kk at *
          have hk0 : (kk == 0) = false := by simpa using h0
          have hk1 : (kk == 1) = false := by simpa using h1
          have DV : Hid (DkL (u.alloc (.cells #[.slice g1 gn1 gc1, .slice g2 gn2 gc2, .slice g3 gn3 gc3] 27)) q n q' m q'' r L1 L2 L3) := DW.out _ XV.out.b
          clear OG DG PA RA
          go_wp2_with fail
          refine (copyL58 _ _ _ DV.out).mono ?_
          rintro e z9 ⟨y1, yn1, yc1, y2, yn2, yc2, y3, yn3, yc3, rfl, O9, D9⟩
          have X9 : Hid (RBx w z9 (.slice q n c) (.slice q' m c') (.slice q'' r c'')) := XV.out.kept D9
          have O9 : Hid (Own3 z9 (w.heap.size + 1 + 1) (.slice y1 yn1 yc1) (.slice y2 yn2 yc2) (.slice y3 yn3 yc3) L1 L2 L3) := O9.mono XV.out.z.2.2
          clear D9 z0 z1 z2 zf zl
          obtain ⟨_, ⟨⟨z0, z1, z2⟩, zf, zl⟩, _⟩ := X9.out
          go_wp2
          exact bodyPost_ret (v := .tuple #[.agg #[.slice y1 yn1 yc1, .slice y2 yn2 yc2, .slice y3 yn3 yc3], .int .i64 kk]) (by simp [results, Try.results24, go_sem, z0, z1, z2]) rfl ⟨_, by rw [E.out], by rw [E2.out]; exact ansAt O9.out (by omega) (by omega) X9.out.b⟩
      · obtain rfl : k = Nn := by omega
        have RE : rep (L1, L2, L3) OL = (0, (X1, X2, X3)) := by rw [HH.out.2.2.2.2.1, List.drop_eq_nil_of_le (by rw [HN.out]; exact Nat.le_refl _)]; rfl
        have E : Hid (repC (L1, L2, L3) nm dt = 0) := (by rw [EC.out, RE] : repC (L1, L2, L3) nm dt = 0)
        have E2 : Hid (repT (L1, L2, L3) nm dt = (X1, X2, X3)) := (by rw [ET.out, RE]; rfl : repT (L1, L2, L3) nm dt = (X1, X2, X3))
        have OX : Hid (Own3 wr (w.heap.size + 1 + 1) (.slice a1 an1 ac1) (.slice a2 an2 ac2) (.slice a3 an3 ac3) X1 X2 X3) := by
          rcases HH.out.2.2.2.2.2 with k0 | k0
          · omega
          · exact k0
        clear RE
        go_wp2
        exact bodyPost_ret (v := .tuple #[.agg #[.slice a1 an1 ac1, .slice a2 an2 ac2, .slice a3 an3 ac3], .int .i64 0]) (by simp [results, Try.results24, go_sem, z0, z1, z2]) rfl ⟨_, by rw [E.out], by rw [E2.out]; exact ansAt OX.out (by omega) (by omega) XRr.out.b⟩
end Go.Proofs.Ytcalgmhpagpnnaa
