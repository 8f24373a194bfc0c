/- Crash of the specification. Conditions: the disk's lists and the places lie in memory, the safe list is not nil. -/
import Derived.Test.YtcalgmhpagpnnaaCrS
import Derived.Test.YtcalgmhpagpnnaaRpI
namespace Go.Proofs.Ytcalgmhpagpnnaa
open Go.RowKit
set_option maxRecDepth 8000

theorem torn_same {f : Dp} {t : Int} (hf : formB f = true) (_ : 0 ≤ t) (h : f.kind ≠ 1 ∨ (f.data.size : Int) ≤ t) : tornD f t = f := by
  have e : f.data.extract 0 (min t (f.data.size : Int)).toNat = f.data := by
    have hs : f.data.size = (min t (f.data.size : Int)).toNat := by
      rcases h with h | h
      · have : f.data.size = 0 := by
          have he : empB f.data = true := by
            cases he : empB f.data
            · simp [formB, h, he] at hf
            · rfl
          have : f.data = ByteArray.empty := by simpa [empB] using he
          rw [this]; rfl
        omega
      · omega
    rw [← hs]
    simp
  obtain ⟨k, nm, ds, dt⟩ := f
  simp only [tornD] at *
  rw [e]
theorem wpList_append_nilFl {w : World} {ops : Array Oper} {rest : List Oper} {o : Oper} {a : Act} {Q : Exit → Act → World → Prop} (hgd : o.guard = none) (s x : Operand)
    (ho : o.op = .call { callee := .builtin .append, args := #[s, x], argTypes := #[24, 24] }) {p c : Nat} (hs : a.eval s = .slice (some ⟨p, 0, none⟩) 0 0) (hx : a.eval x = .slice none 0 c)
    (h : wpList Try.prog ops Q rest (a.put o.dst (.slice (some ⟨p, 0, none⟩) 0 0)) w) : wpList Try.prog ops Q (o :: rest) a w := by
  refine wpList_plain hgd fun K hK => ?_
  unfold Oper.wp execOp
  simp only [ho, resolve, invoke, builtin, Sem.run_bind, Sem.run_pure, Result.andThen_ok, List.map_toArray, List.map_cons, List.map_nil, hs, hx, app_nilFl]
  exact hK _ _ h
theorem do_step {V : World} {B nM vc : Nat} {va : Option Addr} {L : List Fl} {g : Dp} (A : FlL V B (.slice va nM vc) L) (hR : Ris Fl.name L) (hl : L.length ≤ 1048576) (hS : byt L + g.data.size ≤ 2199023255552) :
    Calls Try.prog 47 #[.slice va nM vc, .agg #[.int .i64 g.kind, .string g.name, .string g.dst, .string g.data]] V fun e w' => ∃ va' n' vc' bb, e = .returned (.tuple #[.slice va' n' vc', .bool bb]) ∧ FlL w' V.heap.size (.slice va' n' vc') ((doF L g).getD L) ∧ Below V.heap.size V w' := by
  obtain ⟨hk, hF⟩ := A.list hl
  subst hk
  have := specDo va L.length vc (FlF L) g V hF (by rw [lst_FlF]; exact hR) (by rw [lst_FlF]; exact hS)
  refine this.mono ?_
  rw [lst_FlF]
  rintro e w' ⟨⟨v, rfl, A'⟩, D⟩
  obtain ⟨x, y, hh, _, _⟩ := A'.shape
  subst hh
  exact ⟨x, _, y, _, rfl, A', D⟩
set_option maxHeartbeats 8000000 in
theorem specCr_yes (q q'' : Option Addr) (p' : Addr) (l m r c c' c'' : Nat) (F G : Nat → Fl) (O : Nat → Dp) (a : Option Addr) (n ck : Nat) (K : Nat → Int) (t : Int) (w : World) (h : Dk w q l F (some p') m G q'' r O) (hk : Ints w a n K) (hx : diskB (lst F l) (lst G m) (lst O r) = true) (hy : kpB r K n = true) (ht : 0 ≤ t) :
    Calls Try.prog 34 #[.agg #[.slice q l c, .slice (some p') m c', .slice q'' r c''], .slice a n ck, .int .i64 t] w fun e w' => ∃ v, e = .returned (.tuple #[v, .bool (filesB (crF O K n t (lst G m) n))]) ∧ DkAns w (sy1 (filesB (crF O K n t (lst G m) n)) (crF O K n t (lst G m) n)) (sy1 (filesB (crF O K n t (lst G m) n)) (crF O K n t (lst G m) n)) [] v w' := by
  have H : Hid (Dk w q l F (some p') m G q'' r O) := h
  have HK : Hid (Ints w a n K) := hk
  have HX : Hid (diskB (lst F l) (lst G m) (lst O r) = true) := hx
  have KP : Hid (∀ i, i < n → KpAt r K i) := kpB_yes.1 hy
  have hnr : n ≤ r := kp_len (kpB_yes.1 hy)
  have hr2 : r ≤ 200 := by
    simp only [diskB, Bool.and_eq_true, decide_eq_true_eq, lst_len] at hx
    exact hx.1.2
  have hS : filesB (lst G m) = true := by
    simp only [diskB, Bool.and_eq_true] at hx
    exact hx.1.1.2
  have COP := crOps t hx (kpB_yes.1 hy) h.so
  have RF : Hid (∀ i, i < r → formB (O i) = true) := fun i hi => by
    simp only [diskB, Bool.and_eq_true, decide_eq_true_eq] at hx
    exact run_forms _ _ _ hx.2 _ (lst_mem.2 ⟨i, hi, rfl⟩)
  have CF : Hid (∀ k, k < n → formB (crOp O K n t k) = true) := COP.1
  have CD : Hid (∀ k, k < n → (crOp O K n t k).data.size ≤ 1048576) := COP.2
  have CO : Hid (∀ k, k ≤ n → CrOk (crF O K n t (lst G m) k) k) := crF_ok hS COP.1 COP.2
  have hn1 := hk.1
  have hm1 := h.safe.1
  obtain ⟨i0, hi, hz0, hz1, hz2⟩ := info_parts infoFl
  clear hx hy hS COP
  obtain ⟨W0, hW0, X⟩ : ∃ W0, W0 = (w.alloc (.cells #[.slice q l c, .slice (some p') m c', .slice q'' r c''] 27)).alloc (.cells #[.slice none 0 0, .slice none 0 0, .slice none 0 0] 27) ∧ RBx w W0 (.slice q l c) (.slice (some p') m c') (.slice q'' r c'') := ⟨_, rfl, RBx.new w _ _ _⟩
  have HW0 : Hid (W0 = _) := hW0
  have X0 : Hid (RBx w W0 (.slice q l c) (.slice (some p') m c') (.slice q'' r c'')) := X
  clear hW0 X h hk
  go_enter Try.func34, Try.ntmps34
  go_wp2_with fail
  rw [← HW0.out]
  refine (specDisk q (some p') q'' l m r c c' c'' F G O _ (H.out.below X0.out.b)).mono ?_
  rintro e w1 ⟨rfl, D1⟩
  have X1 : Hid (RBx w w1 (.slice q l c) (.slice (some p') m c') (.slice q'' r c'')) := X0.out.kept D1
  clear D1 X0 HW0
  obtain ⟨⟨⟨s0, s1, s2⟩, _, _⟩, ⟨⟨z0, z1, z2⟩, zf, zl⟩, _⟩ := X1.out
  rw [HX.out]
  have htb : decide (t < 0) = false := decide_eq_false (by omega)
  go_wp2_with fail
  go_loopw [8] (fun i wr => ∃ k : Nat, k ≤ n ∧ i = .int .i64 k ∧ Hid (RBx w wr (.slice q l c) (.slice (some p') m c') (.slice q'' r c''))) (fun i _ => n - (intOf i).toNat)
  case atStart => exact ⟨0, Nat.zero_le _, rfl, X1⟩
  case round =>
    obtain ⟨k, hkn, rfl, HH⟩ := hrel
    clear s0 s1 s2 z0 z1 z2 zf zl
    by_cases hlt : k < n
    · have h1 := KP.out k hlt
      obtain ⟨b, o, rfl, hb0, hA0⟩ := HK.out.acc hlt
      have hb : b < wr.heap.size := Nat.lt_of_lt_of_le hb0 HH.out.b.size
      have c0 : wr.cell? ⟨b, o + k, none⟩ = some (.int .i64 (K k)) := (HH.out.b.cell (p := ⟨b, o + k, none⟩) hb0).trans hA0
      clear hA0
      obtain ⟨⟨⟨s0, s1, s2⟩, _, _⟩, ⟨⟨z0, z1, z2⟩, zf, zl⟩, _⟩ := HH.out
      have hov : ∀ v x, (over wr v).cell? ⟨b, x, none⟩ = wr.cell? ⟨b, x, none⟩ := fun v x => (below_over wr v).cell (p := ⟨b, x, none⟩) hb
      have hov2 : ∀ v x, (over wr v).cell? ⟨w.heap.size, x, none⟩ = wr.cell? ⟨w.heap.size, x, none⟩ := fun v x => (below_over wr v).cell (p := ⟨w.heap.size, x, none⟩) (by omega)
      have IN74 : Hid (∀ W, Calls Try.prog 74 #[.int .i64 (K k), .int .i64 0, .int .i64 ((r : Int) - 1)] W fun e w' => e = .returned (.bool true) ∧ Below W.heap.size W w') := fun W => by have := specIn (K k) 0 ((r : Int) - 1) W; rwa [show decide (0 ≤ K k ∧ K k ≤ (r : Int) - 1) = true from decide_eq_true ⟨h1.1, by have := h1.2.1; omega⟩] at this
      by_cases hk0 : 0 < k
      · obtain ⟨b', o', e', hb0', hA0'⟩ := HK.out.acc (show k - 1 < n by omega)
        obtain ⟨rfl, rfl⟩ : b = b' ∧ o = o' := by simpa using e'
        have d0 : wr.cell? ⟨b, o + (k - 1), none⟩ = some (.int .i64 (K (k - 1))) := (HH.out.b.cell (p := ⟨b, o + (k - 1), none⟩) hb0).trans hA0'
        clear e' hA0' hb0'
        have g0 : (0 : Int) < (k : Int) := by omega
        have h3' : decide (K k ≤ K (k - 1)) = false := decide_eq_false (by have := h1.2.2 hk0; omega)
        clear h1
        go_wp2
        refine wp_region_over (by kernel_rfl) (by kernel_rfl) ?_
        repeat (go_big_quiet_step ((first | (go_at_call 74; exact Calls.over_of (IN74.out _)))))
        refine wpQuiet_nil ?_
        intro _ hw'
        obtain ⟨vq, hw''⟩ := hw'
        subst hw''
        have XQ : Hid (RBx w (over wr vq) (.slice q l c) (.slice (some p') m c') (.slice q'' r c'')) := HH.out.kept (below_over _ vq)
        obtain ⟨⟨⟨s0, s1, s2⟩, _, _⟩, ⟨⟨z0, z1, z2⟩, zf, zl⟩, _⟩ := XQ.out
        go_wp2
        go_roundw
        case rel => exact ⟨k + 1, by omega, by go_num, XQ⟩
        case measure => simp [intOf]; omega
      · have g0 : decide (0 < k) = false := decide_eq_false (by omega)
        have hk1 : k ≤ 0 := by omega
        clear h1 hk0
        go_wp2
        refine wp_region_over (by kernel_rfl) (by kernel_rfl) ?_
        repeat (go_big_quiet_step ((first | (go_at_call 74; exact Calls.over_of (IN74.out _)))))
        refine wpQuiet_nil ?_
        intro _ hw'
        obtain ⟨vq, hw''⟩ := hw'
        subst hw''
        have XQ : Hid (RBx w (over wr vq) (.slice q l c) (.slice (some p') m c') (.slice q'' r c'')) := HH.out.kept (below_over _ vq)
        obtain ⟨⟨⟨s0, s1, s2⟩, _, _⟩, ⟨⟨z0, z1, z2⟩, zf, zl⟩, _⟩ := XQ.out
        go_wp2
        go_roundw
        case rel => exact ⟨k + 1, by omega, by go_num, XQ⟩
        case measure => simp [intOf]; omega
    · obtain ⟨⟨⟨s0, s1, s2⟩, _, _⟩, _, _⟩ := HH.out
      have hwr : w.heap.size + 1 < wr.heap.size := HH.out.z.2.2
      have bE : Hid (Below wr.heap.size wr (wr.alloc (.cells #[] 75))) := (Below.refl _ _).alloc (Nat.le_refl _) _
      have SV : Hid (Fls (wr.alloc (.cells #[] 75)) (some p') m G) := H.out.safe.below (HH.out.kept bE.out).b
      go_wp2_with (at_builtin; refine wpList_append_own_at _ rfl _ _ 24 rfl (w.heap.size + 1 + 1) 75 i0 _ 2 32 Try.underlying24 hi hz0 hz1 hz2 rfl (by decide) _ _ _ rfl (FlL.emptyAt (by omega) (new_at _ _)) p' m c' ((lst G m).flatMap FlC) rfl (by rw [flatFl_len, lst_len]) SV.out.news (Fls.ones _) (by unfold maxLen; simp; omega) (by simp; omega) (by simp; omega) ?_; intro v2 w2 own2 grow2 _ at2; have A2' : FlL w2 (w.heap.size + 1 + 1) v2 (lst G m) := (by unfold FlL; rw [lst_len]; simpa using own2); obtain ⟨va, nM, vc, hv2⟩ : ∃ va nM vc, v2 = .slice va nM vc := (by obtain ⟨x, y, hh, _, _⟩ := A2'.shape; exact ⟨x, _, y, hh⟩); have X2 : Hid (RBx w w2 (.slice q l c) (.slice (some p') m c') (.slice q'' r c'')) := (HH.out.kept bE.out).grown grow2 (fun kx hkx => (by have e : some wr.heap.size = some kx := hkx; have e := Option.some.inj e; omega)); have A2 : Hid (FlL w2 (w.heap.size + 1 + 1) v2 (lst G m)) := A2'; subst hv2; clear own2 grow2 at2 A2')
      clear s0 s1 s2 bE SV HH
      go_loopw [9, 10] (fun x i wr => ∃ (k2 : Nat) (va : Option Addr) (nM vc : Nat), k2 ≤ n ∧ x = .slice va nM vc ∧ i = .int .i64 k2 ∧ Hid (FlL wr (w.heap.size + 1 + 1) (.slice va nM vc) (crF O K n t (lst G m) k2) ∧ RBx w wr (.slice q l c) (.slice (some p') m c') (.slice q'' r c''))) (fun _ i _ => n - (intOf i).toNat)
      case atStart => exact ⟨0, va, nM, vc, Nat.zero_le _, rfl, rfl, ⟨A2.out, X2.out⟩⟩
      case round =>
        obtain ⟨k2, va, nM, vc, hk2, rfl, rfl, H2⟩ := hrel
        by_cases hlt2 : k2 < n
        · have hkp := KP.out k2 hlt2
          obtain ⟨j, hj⟩ : ∃ j : Nat, K k2 = (j : Int) := ⟨(K k2).toNat, by have := hkp.1; omega⟩
          have hjr : j < r := by have := hkp.2.1; omega
          obtain ⟨kb, ko, rfl, hkb, hkA⟩ := HK.out.acc hlt2
          obtain ⟨ob, oo, rfl, hob, hoA⟩ := H.out.ops.acc hjr
          obtain ⟨f, hf⟩ : ∃ f, f = O j := ⟨_, rfl⟩
          rw [hj] at hkA
          rw [← hf] at hoA
          have SV2 : ∀ V, Below wr.heap.size wr V → (V.cell? ⟨w.heap.size, 2, none⟩ = some (.slice (some ⟨ob, oo, none⟩) r c'') ∧ V.cell? ⟨kb, ko + k2, none⟩ = some (.int .i64 j) ∧ V.cell? ⟨ob, oo + j * 4, none⟩ = some (.int .i64 f.kind) ∧ V.cell? ⟨ob, oo + j * 4 + 1, none⟩ = some (.string f.name) ∧ V.cell? ⟨ob, oo + j * 4 + 2, none⟩ = some (.string f.dst) ∧ V.cell? ⟨ob, oo + j * 4 + 3, none⟩ = some (.string f.data)) := fun V hV => by
            have hB := H2.out.2.b.trans (hV.mono H2.out.2.b.size)
            have hoB := hoA.of_cells (w' := V) (fun x => hB.cell (p := ⟨ob, x, none⟩) hob)
            exact ⟨(H2.out.2.kept hV).d.1.2.2, (hB.cell (p := ⟨kb, ko + k2, none⟩) hkb).trans hkA, hoB.1, hoB.2.1, hoB.2.2.1, hoB.2.2.2⟩
          have k0 : (wr.drew.cell? ⟨w.heap.size, 2, none⟩ = some (.slice (some ⟨ob, oo, none⟩) r c'') ∧ wr.drew.cell? ⟨kb, ko + k2, none⟩ = some (.int .i64 j) ∧ wr.drew.cell? ⟨ob, oo + j * 4, none⟩ = some (.int .i64 f.kind) ∧ wr.drew.cell? ⟨ob, oo + j * 4 + 1, none⟩ = some (.string f.name) ∧ wr.drew.cell? ⟨ob, oo + j * 4 + 2, none⟩ = some (.string f.dst) ∧ wr.drew.cell? ⟨ob, oo + j * 4 + 3, none⟩ = some (.string f.data)) := SV2 _ ⟨rfl, rfl, rfl, Nat.le_refl _, fun _ _ => rfl⟩
          have k0b : ∀ x, ((wr.alloc x).drew.cell? ⟨w.heap.size, 2, none⟩ = some (.slice (some ⟨ob, oo, none⟩) r c'') ∧ (wr.alloc x).drew.cell? ⟨kb, ko + k2, none⟩ = some (.int .i64 j) ∧ (wr.alloc x).drew.cell? ⟨ob, oo + j * 4, none⟩ = some (.int .i64 f.kind) ∧ (wr.alloc x).drew.cell? ⟨ob, oo + j * 4 + 1, none⟩ = some (.string f.name) ∧ (wr.alloc x).drew.cell? ⟨ob, oo + j * 4 + 2, none⟩ = some (.string f.dst) ∧ (wr.alloc x).drew.cell? ⟨ob, oo + j * 4 + 3, none⟩ = some (.string f.data)) := fun x => SV2 _ ((Below.refl _ _).alloc (Nat.le_refl _) x).drew
          clear hkA hoA SV2 hkp
          have hff : formB f = true := by rw [hf]; exact RF.out j hjr
          have hfs : f.data.size ≤ 1048576 := by rw [hf]; exact H.out.so j hjr
          have HCO0 : crOp O K n t k2 = if k2 + 1 = n then tornD f t else f := by rw [crOp, hj, Int.toNat_natCast, hf]
          have CK : Hid (CrOk (crF O K n t (lst G m) k2) k2) := CO.out k2 hk2
          have CL : Hid ((crF O K n t (lst G m) k2).length ≤ 1048576) := Nat.le_trans CK.out.len (by omega)
          have cb : byt (crF O K n t (lst G m) k2) ≤ 200000 + 200 * 1048576 := Nat.le_trans CK.out.byt (Nat.add_le_add_left (Nat.mul_le_mul_right _ (by omega)) _)
          have bD : Hid (∀ x, Below wr.heap.size wr (wr.alloc x).drew) := fun x => ((Below.refl _ _).alloc (Nat.le_refl _) x).drew
          clear hf hj
          generalize hcb : byt (crF O K n t (lst G m) k2) = cbv at cb
          have HSZ : Hid (byt (crF O K n t (lst G m) k2) + f.data.size ≤ 2199023255552) := (by rw [hcb]; omega : byt (crF O K n t (lst G m) k2) + f.data.size ≤ 2199023255552)
          clear hcb cb
          by_cases hl : k2 + 1 = n
          · rw [if_pos hl] at HCO0
            have hlb : ((k2 : Int) == (n : Int) - 1) = true := by simp; omega
            by_cases h1 : f.kind = 1
            · by_cases h2 : t < (f.data.size : Int)
              · have hk1 : (f.kind == 1) = true := by simp [h1]
                have HSZ : Hid (byt (crF O K n t (lst G m) k2) + (⟨f.kind, f.name, f.dst, f.data.extract 0 t.toNat⟩ : Dp).data.size ≤ 2199023255552) := Nat.le_trans (Nat.add_le_add_left (by show (f.data.extract 0 t.toNat).size ≤ f.data.size; simp; omega) _) HSZ.out
                have EQ : tornD f t = (⟨f.kind, f.name, f.dst, f.data.extract 0 t.toNat⟩ : Dp) := by simp only [tornD]; rw [Int.min_eq_left (Int.le_of_lt h2)]
                clear h1
                skip
                have HC1 : Hid (crF O K n t (lst G m) (k2 + 1) = (doF (crF O K n t (lst G m) k2) (⟨f.kind, f.name, f.dst, f.data.extract 0 t.toNat⟩ : Dp)).getD (crF O K n t (lst G m) k2)) := (by rw [crF, HCO0, EQ] : crF O K n t (lst G m) (k2 + 1) = (doF (crF O K n t (lst G m) k2) (⟨f.kind, f.name, f.dst, f.data.extract 0 t.toNat⟩ : Dp)).getD (crF O K n t (lst G m) k2))
                clear HCO0 hff
                go_wp2_with fail
                go_region_held3 (fun V => (V.cell? ⟨w.heap.size, 2, none⟩ = some (.slice (some ⟨ob, oo, none⟩) r c'') ∧ V.cell? ⟨kb, ko + k2, none⟩ = some (.int .i64 j) ∧ V.cell? ⟨ob, oo + j * 4, none⟩ = some (.int .i64 f.kind) ∧ V.cell? ⟨ob, oo + j * 4 + 1, none⟩ = some (.string f.name) ∧ V.cell? ⟨ob, oo + j * 4 + 2, none⟩ = some (.string f.dst) ∧ V.cell? ⟨ob, oo + j * 4 + 3, none⟩ = some (.string f.data))) (first | with_reducible exact k0 | with_reducible exact k0b _) (fail)
                all_goals go_wp2_with fail
                all_goals refine (do_step (g := (⟨f.kind, f.name, f.dst, f.data.extract 0 t.toNat⟩ : Dp)) (H2.out.1.kept (bD.out _)) CK.out.ris CL.out HSZ.out).mono ?_
                all_goals rintro e u ⟨va', n', vc', bb, rfl, A', E'⟩
                all_goals have FI : Hid (FlL u (w.heap.size + 1 + 1) (.slice va' n' vc') (crF O K n t (lst G m) (k2 + 1)) ∧ RBx w u (.slice q l c) (.slice (some p') m c') (.slice (some ⟨ob, oo, none⟩) r c'')) := ⟨by rw [HC1.out]; exact A'.mono (Nat.le_trans H2.out.2.z.2.2 (bD.out _).size), (H2.out.2.kept (bD.out _)).kept E'⟩
                all_goals clear A' E'
                all_goals go_wp2
                all_goals go_roundw
                all_goals first | exact ⟨k2 + 1, va', n', vc', by omega, rfl, by go_num, FI⟩ | (simp [intOf]; omega)
              · have h2' : decide (t < (f.data.size : Int)) = false := decide_eq_false h2
                have hk1 : (f.kind == 1) = true := by simp [h1]
                have EQ : tornD f t = f := torn_same hff ht (Or.inr (by omega))
                clear h1 h2
                skip
                have HC1 : Hid (crF O K n t (lst G m) (k2 + 1) = (doF (crF O K n t (lst G m) k2) f).getD (crF O K n t (lst G m) k2)) := (by rw [crF, HCO0, EQ] : crF O K n t (lst G m) (k2 + 1) = (doF (crF O K n t (lst G m) k2) f).getD (crF O K n t (lst G m) k2))
                clear HCO0 hff
                go_wp2_with fail
                go_region_held3 (fun V => (V.cell? ⟨w.heap.size, 2, none⟩ = some (.slice (some ⟨ob, oo, none⟩) r c'') ∧ V.cell? ⟨kb, ko + k2, none⟩ = some (.int .i64 j) ∧ V.cell? ⟨ob, oo + j * 4, none⟩ = some (.int .i64 f.kind) ∧ V.cell? ⟨ob, oo + j * 4 + 1, none⟩ = some (.string f.name) ∧ V.cell? ⟨ob, oo + j * 4 + 2, none⟩ = some (.string f.dst) ∧ V.cell? ⟨ob, oo + j * 4 + 3, none⟩ = some (.string f.data))) (first | with_reducible exact k0 | with_reducible exact k0b _) (fail)
                all_goals go_wp2_with fail
                all_goals refine (do_step (g := f) (H2.out.1.kept (bD.out _)) CK.out.ris CL.out HSZ.out).mono ?_
                all_goals rintro e u ⟨va', n', vc', bb, rfl, A', E'⟩
                all_goals have FI : Hid (FlL u (w.heap.size + 1 + 1) (.slice va' n' vc') (crF O K n t (lst G m) (k2 + 1)) ∧ RBx w u (.slice q l c) (.slice (some p') m c') (.slice (some ⟨ob, oo, none⟩) r c'')) := ⟨by rw [HC1.out]; exact A'.mono (Nat.le_trans H2.out.2.z.2.2 (bD.out _).size), (H2.out.2.kept (bD.out _)).kept E'⟩
                all_goals clear A' E'
                all_goals go_wp2
                all_goals go_roundw
                all_goals first | exact ⟨k2 + 1, va', n', vc', by omega, rfl, by go_num, FI⟩ | (simp [intOf]; omega)
            · have hk1 : (f.kind == 1) = false := by simp [h1]
              have EQ : tornD f t = f := torn_same hff ht (Or.inl h1)
              clear h1
              skip
              have HC1 : Hid (crF O K n t (lst G m) (k2 + 1) = (doF (crF O K n t (lst G m) k2) f).getD (crF O K n t (lst G m) k2)) := (by rw [crF, HCO0, EQ] : crF O K n t (lst G m) (k2 + 1) = (doF (crF O K n t (lst G m) k2) f).getD (crF O K n t (lst G m) k2))
              clear HCO0 hff
              go_wp2_with fail
              go_region_held3 (fun V => (V.cell? ⟨w.heap.size, 2, none⟩ = some (.slice (some ⟨ob, oo, none⟩) r c'') ∧ V.cell? ⟨kb, ko + k2, none⟩ = some (.int .i64 j) ∧ V.cell? ⟨ob, oo + j * 4, none⟩ = some (.int .i64 f.kind) ∧ V.cell? ⟨ob, oo + j * 4 + 1, none⟩ = some (.string f.name) ∧ V.cell? ⟨ob, oo + j * 4 + 2, none⟩ = some (.string f.dst) ∧ V.cell? ⟨ob, oo + j * 4 + 3, none⟩ = some (.string f.data))) (first | with_reducible exact k0 | with_reducible exact k0b _) (fail)
              all_goals go_wp2_with fail
              all_goals refine (do_step (g := f) (H2.out.1.kept (bD.out _)) CK.out.ris CL.out HSZ.out).mono ?_
              all_goals rintro e u ⟨va', n', vc', bb, rfl, A', E'⟩
              all_goals have FI : Hid (FlL u (w.heap.size + 1 + 1) (.slice va' n' vc') (crF O K n t (lst G m) (k2 + 1)) ∧ RBx w u (.slice q l c) (.slice (some p') m c') (.slice (some ⟨ob, oo, none⟩) r c'')) := ⟨by rw [HC1.out]; exact A'.mono (Nat.le_trans H2.out.2.z.2.2 (bD.out _).size), (H2.out.2.kept (bD.out _)).kept E'⟩
              all_goals clear A' E'
              all_goals go_wp2
              all_goals go_roundw
              all_goals first | exact ⟨k2 + 1, va', n', vc', by omega, rfl, by go_num, FI⟩ | (simp [intOf]; omega)
          · rw [if_neg hl] at HCO0
            have hlb : ((k2 : Int) == (n : Int) - 1) = false := by simp; omega
            skip
            have HC1 : Hid (crF O K n t (lst G m) (k2 + 1) = (doF (crF O K n t (lst G m) k2) f).getD (crF O K n t (lst G m) k2)) := (by rw [crF, HCO0] : crF O K n t (lst G m) (k2 + 1) = (doF (crF O K n t (lst G m) k2) f).getD (crF O K n t (lst G m) k2))
            clear HCO0 hff
            go_wp2_with fail
            go_region_held3 (fun V => (V.cell? ⟨w.heap.size, 2, none⟩ = some (.slice (some ⟨ob, oo, none⟩) r c'') ∧ V.cell? ⟨kb, ko + k2, none⟩ = some (.int .i64 j) ∧ V.cell? ⟨ob, oo + j * 4, none⟩ = some (.int .i64 f.kind) ∧ V.cell? ⟨ob, oo + j * 4 + 1, none⟩ = some (.string f.name) ∧ V.cell? ⟨ob, oo + j * 4 + 2, none⟩ = some (.string f.dst) ∧ V.cell? ⟨ob, oo + j * 4 + 3, none⟩ = some (.string f.data))) (first | with_reducible exact k0 | with_reducible exact k0b _) (fail)
            all_goals go_wp2_with fail
            all_goals refine (do_step (g := f) (H2.out.1.kept (bD.out _)) CK.out.ris CL.out HSZ.out).mono ?_
            all_goals rintro e u ⟨va', n', vc', bb, rfl, A', E'⟩
            all_goals have FI : Hid (FlL u (w.heap.size + 1 + 1) (.slice va' n' vc') (crF O K n t (lst G m) (k2 + 1)) ∧ RBx w u (.slice q l c) (.slice (some p') m c') (.slice (some ⟨ob, oo, none⟩) r c'')) := ⟨by rw [HC1.out]; exact A'.mono (Nat.le_trans H2.out.2.z.2.2 (bD.out _).size), (H2.out.2.kept (bD.out _)).kept E'⟩
            all_goals clear A' E'
            all_goals go_wp2
            all_goals go_roundw
            all_goals first | exact ⟨k2 + 1, va', n', vc', by omega, rfl, by go_num, FI⟩ | (simp [intOf]; omega)
        · obtain rfl : k2 = n := by omega
          have FT : Hid (Calls Try.prog 46 #[.slice va nM vc] wr fun e w' => e = .returned (.bool (filesB (crF O K k2 t (lst G m) k2))) ∧ Below wr.heap.size wr w') := files_own H2.out.1 (Nat.le_trans (CO.out k2 (Nat.le_refl _)).len (by omega)) (Nat.le_trans (CO.out k2 (Nat.le_refl _)).byt (by omega))
          have LLn : Hid ((crF O K k2 t (lst G m) k2).length ≤ 1048576) := Nat.le_trans (CO.out k2 (Nat.le_refl _)).len (by omega)
          have HA : Hid (FlL wr (w.heap.size + 1 + 1) (.slice va nM vc) (crF O K k2 t (lst G m) k2) ∧ RBx w wr (.slice q l c) (.slice (some p') m c') (.slice q'' r c'')) := H2.out
          obtain ⟨LL, hLL⟩ : ∃ LL, LL = crF O K k2 t (lst G m) k2 := ⟨_, rfl⟩
          rw [← hLL] at FT LLn HA
          have HLL : Hid (LL = crF O K k2 t (lst G m) k2) := hLL
          clear hLL H2 CO CF CD RF
          go_wp2_with fail
          refine FT.out.mono ?_
          rintro e v1 ⟨rfl, E1⟩
          have Z1 : Hid (FlL v1 (w.heap.size + 1 + 1) (.slice va nM vc) LL ∧ RBx w v1 (.slice q l c) (.slice (some p') m c') (.slice q'' r c'')) := ⟨HA.out.1.kept E1, HA.out.2.kept E1⟩
          clear E1 HA FT
          cases hfit : filesB LL
          · have HFT : Hid (filesB LL = false) := hfit
            clear hfit
            obtain ⟨_, ⟨⟨z0, z1, z2⟩, zf, zl⟩, _⟩ := Z1.out.2
            go_wp2
            exact bodyPost_ret (v := .tuple #[.agg #[.slice none 0 0, .slice none 0 0, .slice none 0 0], .bool false]) (by simp [results, Try.results34, go_sem, z0, z1, z2]) rfl ⟨_, by rw [← HLL.out, HFT.out], by rw [← HLL.out, HFT.out]; exact ansAt (B := w.heap.size + 1 + 1) ⟨FlL.nil _ _, FlL.nil _ _, DpL.nil _ _, fun g h => by cases h⟩ (by omega) (by omega) Z1.out.2.b⟩
          · have HFT : Hid (filesB LL = true) := hfit
            clear hfit
            have hv1 : w.heap.size + 1 < v1.heap.size := Z1.out.2.z.2.2
            have bE : Hid (Below v1.heap.size v1 (v1.alloc (.cells #[] 75))) := (Below.refl _ _).alloc (Nat.le_refl _) _
            cases va with
            | none =>
              obtain ⟨e0, hF0⟩ := Z1.out.1.list LLn.out
              have hn0 : nM = 0 := by
                rcases hF0.2 with x | ⟨_, _, x, _⟩
                · exact x
                · cases x
              have hL0 : LL = [] := List.eq_nil_of_length_eq_zero (by omega)
              subst hn0
              have HL0 : Hid (LL = []) := hL0
              clear e0 hF0 hL0
              have hsz : (((v1.setCell ⟨w.heap.size + 1, 0, none⟩ (.slice none 0 vc)).setCell ⟨w.heap.size + 1, 1, none⟩ (.slice (some ⟨v1.heap.size, 0, none⟩) 0 0)).setCell ⟨w.heap.size + 1, 2, none⟩ (.slice none 0 0)).heap.size = v1.heap.size := by simp [World.setCell]
              have FA : Hid (DkAns w [] [] [] (.agg #[.slice none 0 vc, .slice (some ⟨v1.heap.size, 0, none⟩) 0 0, .slice none 0 0]) ((((v1.setCell ⟨w.heap.size + 1, 0, none⟩ (.slice none 0 vc)).setCell ⟨w.heap.size + 1, 1, none⟩ (.slice (some ⟨v1.heap.size, 0, none⟩) 0 0)).setCell ⟨w.heap.size + 1, 2, none⟩ (.slice none 0 0)).alloc (.cells #[] 75))) := by
                have A1 := Z1.out.1
                rw [HL0.out] at A1
                have nw := new_at (((v1.setCell ⟨w.heap.size + 1, 0, none⟩ (.slice none 0 vc)).setCell ⟨w.heap.size + 1, 1, none⟩ (.slice (some ⟨v1.heap.size, 0, none⟩) 0 0)).setCell ⟨w.heap.size + 1, 2, none⟩ (.slice none 0 0)) (.cells #[] 75)
                rw [hsz] at nw
                refine ⟨none, vc, some ⟨v1.heap.size, 0, none⟩, 0, none, 0, rfl, ⟨(A1.same (fun g h => by cases h)).mono (by omega), FlL.emptyAt (by omega) nw, DpL.nil _ _, fun g h => by cases h⟩, ?_⟩
                exact (below_far (below_far (below_far Z1.out.2.b (by omega) _ _) (by omega) _ _) (by omega) _ _).alloc (by rw [hsz]; omega) _
              obtain ⟨⟨y0, y1, y2⟩, _, _⟩ := (((Z1.out.2.z.set0 (.slice none 0 vc)).set1 (.slice (some ⟨v1.heap.size, 0, none⟩) 0 0)).set2 (.slice none 0 0)).keptS ((Below.refl _ _).alloc (Nat.le_refl _) (.cells #[] 75))
              clear hsz
              obtain ⟨_, ⟨⟨z0, z1, z2⟩, zf, zl⟩, _⟩ := Z1.out.2
              go_wp2_with (at_builtin; refine wpList_append_nilFl rfl _ _ rfl rfl rfl ?_)
              exact bodyPost_ret (v := .tuple #[.agg #[.slice none 0 vc, .slice (some ⟨v1.heap.size, 0, none⟩) 0 0, .slice none 0 0], .bool true]) (by simp [results, Try.results34, go_sem, y0, y1, y2]) rfl ⟨_, by rw [← HLL.out, HFT.out], by rw [← HLL.out, HFT.out, HL0.out]; exact FA.out⟩
            | some p =>
              have SV : Hid (Fls (v1.alloc (.cells #[] 75)) (some p) nM (FlF LL)) := ((Z1.out.1.list LLn.out).2).below bE.out
              have hnM : nM ≤ 1048576 := by have := (Z1.out.1.list LLn.out).1; have := LLn.out; omega
              have HnM : Hid (nM = LL.length) := (Z1.out.1.list LLn.out).1
              obtain ⟨_, ⟨⟨z0, z1, z2⟩, zf, zl⟩, _⟩ := Z1.out.2
              go_wp2_with (at_builtin; refine wpList_append_own_at _ rfl _ _ 24 rfl (w.heap.size + 1 + 1) 75 i0 _ 2 32 Try.underlying24 hi hz0 hz1 hz2 rfl (by decide) _ _ _ rfl (FlL.emptyAt (by omega) (new_at _ _)) p nM vc ((lst (FlF LL) nM).flatMap FlC) rfl (by rw [flatFl_len, lst_len]) SV.out.news (Fls.ones _) (by unfold maxLen; simp; omega) (by simp; omega) (by simp; omega) ?_; intro v2 w2 own2 grow2 _ at2; have A2' : FlL w2 (w.heap.size + 1 + 1) v2 LL := (by have e : lst (FlF LL) nM = LL := (by rw [HnM.out, lst_FlF]); rw [e] at own2; unfold FlL; rw [← HnM.out]; simpa using own2); obtain ⟨vb, nN, vd, hv2⟩ : ∃ vb nN vd, v2 = .slice vb nN vd := (by obtain ⟨x, y, hh, _, _⟩ := A2'.shape; exact ⟨x, _, y, hh⟩); have X2 : Hid (RBx w w2 (.slice q l c) (.slice (some p') m c') (.slice q'' r c'')) := (Z1.out.2.kept bE.out).grown grow2 (fun kx hkx => (by have e : some v1.heap.size = some kx := hkx; have e := Option.some.inj e; omega)); have AL : FlL w2 (w.heap.size + 1 + 1) (.slice (some p) nM vc) LL := FlL.grown (Z1.out.1.kept bE.out) grow2 (Or.inr (fun e => (by have e' : (Value.slice (some p) nM vc).ownBlock = some v1.heap.size := e; have := (World.ownsRow.lt Z1.out.1 _ e').2; omega))); have O3 : Hid (Own3 w2 (w.heap.size + 1 + 1) (.slice (some p) nM vc) v2 (.slice none 0 0) LL LL []) := ⟨AL, A2', DpL.nil _ _, fun g h1 h2 => (by have e1 := (World.ownsRow.lt Z1.out.1 g h1).2; rcases at2 with e2 | e2; (have e3 : v2.ownBlock = some v1.heap.size := e2; rw [e3] at h2; have := Option.some.inj h2; omega); (rw [e2] at h2; have := Option.some.inj h2; simp at this; omega))⟩; subst hv2; clear own2 grow2 at2 A2' AL z0 z1 z2 zf zl; obtain ⟨_, ⟨⟨z0, z1, z2⟩, zf, zl⟩, _⟩ := X2.out)
              exact bodyPost_ret (v := .tuple #[.agg #[.slice (some p) nM vc, .slice vb nN vd, .slice none 0 0], .bool true]) (by simp [results, Try.results34, go_sem, z0, z1, z2]) rfl ⟨_, by rw [← HLL.out, HFT.out], by rw [← HLL.out, HFT.out]; exact ansAt O3.out (by omega) (by omega) X2.out.b⟩
end Go.Proofs.Ytcalgmhpagpnnaa
