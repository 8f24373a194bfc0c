/- The law FnCrashed returns true, whatever its code. Conditions: the code's bytes lie in memory. -/
import Derived.Test.YtcalgmhpagpnnaaRdQ
import Derived.Test.YtcalgmhpagpnnaaIt
namespace Go.Proofs.Ytcalgmhpagpnnaa
open Go.RowKit
set_option maxRecDepth 8000

/-- A disk that is asked, in its box. -/
structure DX (w : World) (D : Nat) (q : Option Addr) (n c : Nat) (q' : Option Addr) (m c' : Nat) (q'' : Option Addr) (r c'' : Nat) (L1 L2 : List Fl) (L3 : List Dp) (V : World) : Prop where
  box : Box3 V D (.slice q n c) (.slice q' m c') (.slice q'' r c'')
  dk : DkL V q n q' m q'' r L1 L2 L3
  b : Below w.heap.size w V
theorem DX.kept {w V V' : World} {D : Nat} {q q' q'' : Option Addr} {n c m c' r c'' : Nat} {L1 L2 : List Fl} {L3 : List Dp} (h : DX w D q n c q' m c' q'' r c'' L1 L2 L3 V) (hb : Below V.heap.size V V') : DX w D q n c q' m c' q'' r c'' L1 L2 L3 V' :=
  ⟨h.box.kept hb h.box.2.2, h.dk.below hb, h.b.trans (hb.mono h.b.size)⟩
/-- An answer in its box. -/
structure QX (P : Nat) (a1 : Option Addr) (n1 c1 : Nat) (a2 : Option Addr) (n2 c2 : Nat) (a3 : Option Addr) (c3 : Nat) (M1 M2 : List Fl) (V : World) : Prop where
  box : Box3 V P (.slice a1 n1 c1) (.slice a2 n2 c2) (.slice a3 0 c3)
  f1 : FlsL V a1 n1 M1
  f2 : FlsL V a2 n2 M2
theorem QX.kept {V V' : World} {P : Nat} {a1 a2 a3 : Option Addr} {n1 c1 n2 c2 c3 : Nat} {M1 M2 : List Fl} (h : QX P a1 n1 c1 a2 n2 c2 a3 c3 M1 M2 V) (hb : Below V.heap.size V V') : QX P a1 n1 c1 a2 n2 c2 a3 c3 M1 M2 V' :=
  ⟨h.box.kept hb h.box.2.2, h.f1.below hb, h.f2.below hb⟩
def idl (k : Nat) : List Value := (List.range k).map fun i : Nat => Value.int .i64 (i : Int)
theorem idl_len (k : Nat) : (idl k).length = k := by simp [idl]
theorem idl_succ (k : Nat) : idl (k + 1) = idl k ++ [.int .i64 (k : Int)] := by simp [idl, List.range_succ]
theorem idl_ints {w : World} {B k vc : Nat} {va : Option Addr} (h : w.ownsRow B 2 1 (.slice va k vc) k (idl k)) (hk : k ≤ 1048576) : Ints w va k (fun i => (i : Int)) := by
  refine ⟨hk, ?_⟩
  have hlt := World.ownsRow.lt h
  rcases h.2 with ⟨h0, h1⟩ | ⟨g, cap, cur, hv, hg, r⟩
  · exact Or.inl h1
  · cases hv
    refine Or.inr ⟨g, 0, rfl, (hlt g rfl).2, fun i hi => ?_⟩
    have := World.ownsRow.cellAt h i (by omega)
    rw [Nat.zero_add, this]
    simp [idl, hi]
theorem news1 (w : World) (z : Int) : ∀ j u, [Value.int .i64 z][j]? = some u → (w.alloc (.cells #[.int .i64 z] 2)).cell? (Addr.add ⟨w.heap.size, 0, none⟩ j) = some u := by
  intro j u hj
  match j, hj with
  | 0, hj => simp at hj; subst hj; simp [Addr.add, go_sem]
theorem ones1 (z : Int) : ∀ u ∈ [Value.int .i64 z], u.oneCell' = true := by
  intro u hu
  simp at hu
  subst hu
  rfl


set_option maxHeartbeats 8000000 in
theorem lawCrashed (a : Option Addr) (len cap : Nat) (w : World) (hc : Code w a len) : Calls Try.prog 3 #[.slice a len cap] w fun e w' => e = .returned (.bool true) ∧ Below w.heap.size w w' := by
  have HC : Hid (Code w a len) := hc
  clear hc
  by_cases hb : 1048576 < len
  · go_enter Try.func3, Try.ntmps3
    go_wp2_with fail
    refine (big_yes a len cap _ hb).mono ?_
    rintro e wz ⟨rfl, rfl⟩
    go_wp2
    go_ret
    exact ⟨rfl, Below.refl _ _⟩
  go_enter Try.func3, Try.ntmps3
  go_wp2_with fail
  refine (big_no a len cap _ (by omega)).mono ?_
  rintro e wz ⟨rfl, hwz⟩
  rw [hwz]
  clear hwz
  go_wp2_with fail
  refine (drawDisk a len cap _ HC.out).mono ?_
  rintro e w1 ⟨q, n, c, q', m, c', q'', r, c'', L1, L2, L3, rfl, D1, B1⟩
  clear hb HC
  cases hx : diskB L1 L2 L3 with
  | false =>
    obtain ⟨V1, hV1, X1⟩ : ∃ V1, V1 = w1.alloc (.cells #[.slice q n c, .slice q' m c', .slice q'' r c''] 27) ∧ Hid (DX w w1.heap.size q n c q' m c' q'' r c'' L1 L2 L3 V1) := ⟨_, rfl, ⟨Box3.new w1 _ _ _ 27, D1.below ((Below.refl _ _).alloc (Nat.le_refl _) _), B1.trans (((Below.refl _ _).alloc (Nat.le_refl _) _).mono B1.size)⟩⟩
    have HV1 : Hid (V1 = _) := hV1
    obtain ⟨l1, l2, l3, l4, l5, l6⟩ := D1.lens
    have ID : Hid (∀ V, DX w w1.heap.size q n c q' m c' q'' r c'' L1 L2 L3 V → Calls Try.prog 14 #[.agg #[.slice q n c, .slice q' m c', .slice q'' r c'']] V fun e w' => e = .returned (.bool false) ∧ Below V.heap.size V w') := fun V hV => by have := implDiskL c c' c'' hV.dk; rwa [hx] at this
    have SD : Hid (∀ V, DX w w1.heap.size q n c q' m c' q'' r c'' L1 L2 L3 V → Calls Try.prog 15 #[.agg #[.slice q n c, .slice q' m c', .slice q'' r c'']] V fun e w' => e = .returned (.bool false) ∧ Below V.heap.size V w') := fun V hV => by have := specDiskL c c' c'' hV.dk; rwa [hx] at this
    have CA : Hid (∀ V k kc, DX w w1.heap.size q n c q' m c' q'' r c'' L1 L2 L3 V → Ints V k r (fun i => (i : Int)) → Calls Try.prog 16 #[.agg #[.slice q n c, .slice q' m c', .slice q'' r c''], .slice k r kc, .int .i64 1099511627776] V fun e w' => ∃ v, e = .returned (.tuple #[v, .bool false]) ∧ AnsQ V [] [] v w') := fun V k kc hV hk => by have := crashAll c c' c'' hV.dk k kc hk; rwa [hx] at this
    have CN : Hid (∀ V, DX w w1.heap.size q n c q' m c' q'' r c'' L1 L2 L3 V → Calls Try.prog 16 #[.agg #[.slice q n c, .slice q' m c', .slice q'' r c''], .slice none 0 0, .int .i64 0] V fun e w' => ∃ v, e = .returned (.tuple #[v, .bool false]) ∧ AnsQ V [] [] v w') := fun V hV => by have := crashNone c c' c'' hV.dk; rwa [hx] at this
    clear hV1 D1 B1 hx l1 l2 l3 l5 l6
    obtain ⟨i0, hi0, hz0, hz1, hz2⟩ := info_parts infoIt
    go_wp2_with fail
    rw [← HV1.out]
    clear HV1
    have s0 : ∀ v, (over V1 v).cell? ⟨w1.heap.size, 0, none⟩ = some (.slice q n c) := fun v => (X1.out.kept (below_over _ v)).box.1.1
    have s1 : ∀ v, (over V1 v).cell? ⟨w1.heap.size, 1, none⟩ = some (.slice q' m c') := fun v => (X1.out.kept (below_over _ v)).box.1.2.1
    have s2 : ∀ v, (over V1 v).cell? ⟨w1.heap.size, 2, none⟩ = some (.slice q'' r c'') := fun v => (X1.out.kept (below_over _ v)).box.1.2.2
    refine wp_region_over (by kernel_rfl) (by kernel_rfl) ?_
    repeat (go_big_quiet_step ((first | (go_at_call 14; exact Calls.over_of (ID.out _ (X1.out.kept (below_over _ _)))) | (go_at_call 15; exact Calls.over_of (SD.out _ (X1.out.kept (below_over _ _)))))))
    refine wpQuiet_nil ?_
    intro _ hw'
    obtain ⟨vq, hw''⟩ := hw'
    subst hw''
    have X2 : Hid (DX w w1.heap.size q n c q' m c' q'' r c'' L1 L2 L3 (over V1 vq)) := X1.out.kept (below_over _ vq)
    clear X1 s0 s1 s2 SD
    generalize over V1 vq = V2 at *
    have A0 : Hid ((V2.alloc (.cells #[] 2)).ownsRow V2.heap.size 2 1 (.slice (some ⟨V2.heap.size, 0, none⟩) 0 0) 0 (idl 0)) := World.ownsRow_lit V2 #[] 0 (Nat.le_refl _) (Nat.zero_le _) (by simp)
    have B0 : Hid (Below V2.heap.size V2 (V2.alloc (.cells #[] 2))) := (Below.refl _ _).alloc (Nat.le_refl _) _
    go_wp2
    go_loopw [4, 5] (fun s i wr => ∃ (k : Nat) (va : Option Addr) (vc : Nat), k ≤ r ∧ i = .int .i64 k ∧ s = .slice va k vc ∧ Hid (wr.ownsRow V2.heap.size 2 1 (.slice va k vc) k (idl k)) ∧ Hid (Below V2.heap.size V2 wr)) (fun _ i _ => r - (intOf i).toNat)
    case atStart => exact ⟨0, _, _, Nat.zero_le _, rfl, rfl, A0, B0⟩
    case round =>
      obtain ⟨k, va, vc, hk, rfl, rfl, hA, hB⟩ := hrel
      clear A0 B0
      obtain ⟨⟨s0, s1, s2⟩, _, _⟩ := (X2.out.kept hB.out).box
      by_cases hlt : k < r
      · have hlt' : (k : Int) < (r : Int) := by omega
        go_wp2_with (at_builtin; refine wpList_append_own _ rfl _ _ 30 rfl V2.heap.size 2 i0 _ 1 8 Try.underlying30 hi0 hz0 hz1 hz2 rfl (by decide) _ k _ rfl (World.ownsRow.alloc hA.out _) ⟨_, 0, none⟩ 1 1 [.int .i64 (k : Int)] rfl rfl (news1 _ (k : Int)) (ones1 _) (by unfold maxLen; omega) (by omega) (by have := hB.out.size; simp; omega) ?_; intro v3 w3 own3 grow3 _; have H3 : Hid (w3.ownsRow V2.heap.size 2 1 v3 (k + 1) (idl (k + 1))) := (by rw [idl_succ]; exact own3); have G3 : Hid (Below V2.heap.size V2 w3) := (by have g := grown_below (C := V2.heap.size) grow3 (fun x hx => (World.ownsRow.lt hA.out x hx).1) (by have := hB.out.size; simp; omega); exact (hB.out.alloc hB.out.size _).trans g); obtain ⟨va', vc', hv⟩ : ∃ va' vc', v3 = .slice va' (k + 1) vc' := (by rcases H3.out.2 with ⟨h0, h1⟩ | ⟨g, cp, cur, h0, _⟩; (omega); exact ⟨_, _, h0⟩); subst hv; clear own3 grow3)
        go_roundw
        case rel => exact ⟨k + 1, va', vc', by omega, by go_num, rfl, H3, G3⟩
        case measure => simp [intOf]; omega
      · obtain rfl : k = r := by omega
        have IN : Hid (Ints wr va k (fun i => (i : Int))) := idl_ints hA.out l4
        have X3 : Hid (DX w w1.heap.size q n c q' m c' q'' k c'' L1 L2 L3 wr) := X2.out.kept hB.out
        clear hA hB hlt hk X2
        go_wp2_with fail
        refine (CA.out _ va vc X3.out IN.out).mono ?_
        rintro e w4 ⟨v4, rfl, A4⟩
        obtain ⟨f1, fn1, fc1, f2, fn2, fc2, f3, fc3, rfl, hf1, F1, F2, D4⟩ := A4
        obtain ⟨V4, hV4, X4⟩ : ∃ V4, V4 = w4.alloc (.cells #[.slice f1 fn1 fc1, .slice f2 fn2 fc2, .slice f3 0 fc3] 27) ∧ Hid (DX w w1.heap.size q n c q' m c' q'' k c'' L1 L2 L3 V4 ∧ QX w4.heap.size f1 fn1 fc1 f2 fn2 fc2 f3 fc3 [] [] V4) := ⟨_, rfl, (X3.out.kept D4).kept ((Below.refl _ _).alloc (Nat.le_refl _) _), ⟨Box3.new w4 _ _ _ 27, F1.below ((Below.refl _ _).alloc (Nat.le_refl _) _), F2.below ((Below.refl _ _).alloc (Nat.le_refl _) _)⟩⟩
        have HV4 : Hid (V4 = _) := hV4
        obtain ⟨⟨t0, t1, t2⟩, _, _⟩ := (X3.out.kept D4).box
        have hf0 : Hid (fn1 = 0) := hf1
        clear hV4 X3 IN F1 F2 D4 hf1 s0 s1 s2
        go_wp2_with fail
        rw [← HV4.out]
        refine (CN.out _ X4.out.1).mono ?_
        rintro e w5 ⟨v5, rfl, A5⟩
        obtain ⟨g1, gn1, gc1, g2, gn2, gc2, g3, gc3, rfl, hg1, G1, G2, D5⟩ := A5
        obtain ⟨V5, hV5, X5⟩ : ∃ V5, V5 = w5.alloc (.cells #[.slice g1 gn1 gc1, .slice g2 gn2 gc2, .slice g3 0 gc3] 27) ∧ Hid (DX w w1.heap.size q n c q' m c' q'' k c'' L1 L2 L3 V5 ∧ QX w4.heap.size f1 fn1 fc1 f2 fn2 fc2 f3 fc3 [] [] V5 ∧ QX w5.heap.size g1 gn1 gc1 g2 gn2 gc2 g3 gc3 [] [] V5) := ⟨_, rfl, (X4.out.1.kept D5).kept ((Below.refl _ _).alloc (Nat.le_refl _) _), (X4.out.2.kept D5).kept ((Below.refl _ _).alloc (Nat.le_refl _) _), ⟨Box3.new w5 _ _ _ 27, G1.below ((Below.refl _ _).alloc (Nat.le_refl _) _), G2.below ((Below.refl _ _).alloc (Nat.le_refl _) _)⟩⟩
        have HV5 : Hid (V5 = _) := hV5
        obtain ⟨⟨s0, s1, s2⟩, _, _⟩ := (X4.out.1.kept D5).box
        clear hV5 X4 G1 G2 D5 hg1 t0 t1 t2 HV4
        go_wp2_with fail
        rw [← HV5.out]
        refine (ID.out _ X5.out.1).mono ?_
        rintro e w6 ⟨rfl, D6⟩
        have X6 : Hid (DX w w1.heap.size q n c q' m c' q'' k c'' L1 L2 L3 w6 ∧ QX w4.heap.size f1 fn1 fc1 f2 fn2 fc2 f3 fc3 [] [] w6 ∧ QX w5.heap.size g1 gn1 gc1 g2 gn2 gc2 g3 gc3 [] [] w6) := ⟨X5.out.1.kept D6, X5.out.2.1.kept D6, X5.out.2.2.kept D6⟩
        obtain ⟨⟨⟨d0, d1, d2⟩, _, _⟩, _, _⟩ := X6.out.1
        obtain ⟨⟨⟨e0, e1, e2⟩, _, _⟩, _, _⟩ := X6.out.2.1
        clear D6 X5 HV5 s0 s1 s2
        have hf1 := hf0.out
        subst hf1
        go_wp2
        go_ret
        exact ⟨rfl, X6.out.1.b⟩
  | true =>
    obtain ⟨V1, hV1, X1⟩ : ∃ V1, V1 = w1.alloc (.cells #[.slice q n c, .slice q' m c', .slice q'' r c''] 27) ∧ Hid (DX w w1.heap.size q n c q' m c' q'' r c'' L1 L2 L3 V1) := ⟨_, rfl, ⟨Box3.new w1 _ _ _ 27, D1.below ((Below.refl _ _).alloc (Nat.le_refl _) _), B1.trans (((Below.refl _ _).alloc (Nat.le_refl _) _).mono B1.size)⟩⟩
    have HV1 : Hid (V1 = _) := hV1
    obtain ⟨l1, l2, l3, l4, l5, l6⟩ := D1.lens
    have ID : Hid (∀ V, DX w w1.heap.size q n c q' m c' q'' r c'' L1 L2 L3 V → Calls Try.prog 14 #[.agg #[.slice q n c, .slice q' m c', .slice q'' r c'']] V fun e w' => e = .returned (.bool true) ∧ Below V.heap.size V w') := fun V hV => by have := implDiskL c c' c'' hV.dk; rwa [hx] at this
    have SD : Hid (∀ V, DX w w1.heap.size q n c q' m c' q'' r c'' L1 L2 L3 V → Calls Try.prog 15 #[.agg #[.slice q n c, .slice q' m c', .slice q'' r c'']] V fun e w' => e = .returned (.bool true) ∧ Below V.heap.size V w') := fun V hV => by have := specDiskL c c' c'' hV.dk; rwa [hx] at this
    have CA : Hid (∀ V k kc, DX w w1.heap.size q n c q' m c' q'' r c'' L1 L2 L3 V → Ints V k r (fun i => (i : Int)) → Calls Try.prog 16 #[.agg #[.slice q n c, .slice q' m c', .slice q'' r c''], .slice k r kc, .int .i64 1099511627776] V fun e w' => ∃ v, e = .returned (.tuple #[v, .bool true]) ∧ AnsQ V L1 L1 v w') := fun V k kc hV hk => by have := crashAll c c' c'' hV.dk k kc hk; rwa [hx] at this
    have CN : Hid (∀ V, DX w w1.heap.size q n c q' m c' q'' r c'' L1 L2 L3 V → Calls Try.prog 16 #[.agg #[.slice q n c, .slice q' m c', .slice q'' r c''], .slice none 0 0, .int .i64 0] V fun e w' => ∃ v, e = .returned (.tuple #[v, .bool true]) ∧ AnsQ V L2 L2 v w') := fun V hV => by have := crashNone c c' c'' hV.dk; rwa [hx] at this
    have SY : Hid (∀ V, DX w w1.heap.size q n c q' m c' q'' r c'' L1 L2 L3 V → Calls Try.prog 17 #[.agg #[.slice q n c, .slice q' m c', .slice q'' r c'']] V fun e w' => ∃ v, e = .returned v ∧ AnsQ V L1 L1 v w') := fun V hV => by have := syncQ c c' c'' hV.dk; rwa [hx] at this
    clear hV1 D1 B1 hx l1 l2 l3 l5 l6
    obtain ⟨i0, hi0, hz0, hz1, hz2⟩ := info_parts infoIt
    go_wp2_with fail
    rw [← HV1.out]
    clear HV1
    have s0 : ∀ v, (over V1 v).cell? ⟨w1.heap.size, 0, none⟩ = some (.slice q n c) := fun v => (X1.out.kept (below_over _ v)).box.1.1
    have s1 : ∀ v, (over V1 v).cell? ⟨w1.heap.size, 1, none⟩ = some (.slice q' m c') := fun v => (X1.out.kept (below_over _ v)).box.1.2.1
    have s2 : ∀ v, (over V1 v).cell? ⟨w1.heap.size, 2, none⟩ = some (.slice q'' r c'') := fun v => (X1.out.kept (below_over _ v)).box.1.2.2
    refine wp_region_over (by kernel_rfl) (by kernel_rfl) ?_
    repeat (go_big_quiet_step ((first | (go_at_call 14; exact Calls.over_of (ID.out _ (X1.out.kept (below_over _ _)))) | (go_at_call 15; exact Calls.over_of (SD.out _ (X1.out.kept (below_over _ _)))))))
    refine wpQuiet_nil ?_
    intro _ hw'
    obtain ⟨vq, hw''⟩ := hw'
    subst hw''
    have X2 : Hid (DX w w1.heap.size q n c q' m c' q'' r c'' L1 L2 L3 (over V1 vq)) := X1.out.kept (below_over _ vq)
    clear X1 s0 s1 s2 SD
    generalize over V1 vq = V2 at *
    have A0 : Hid ((V2.alloc (.cells #[] 2)).ownsRow V2.heap.size 2 1 (.slice (some ⟨V2.heap.size, 0, none⟩) 0 0) 0 (idl 0)) := World.ownsRow_lit V2 #[] 0 (Nat.le_refl _) (Nat.zero_le _) (by simp)
    have B0 : Hid (Below V2.heap.size V2 (V2.alloc (.cells #[] 2))) := (Below.refl _ _).alloc (Nat.le_refl _) _
    go_wp2
    go_loopw [4, 5] (fun s i wr => ∃ (k : Nat) (va : Option Addr) (vc : Nat), k ≤ r ∧ i = .int .i64 k ∧ s = .slice va k vc ∧ Hid (wr.ownsRow V2.heap.size 2 1 (.slice va k vc) k (idl k)) ∧ Hid (Below V2.heap.size V2 wr)) (fun _ i _ => r - (intOf i).toNat)
    case atStart => exact ⟨0, _, _, Nat.zero_le _, rfl, rfl, A0, B0⟩
    case round =>
      obtain ⟨k, va, vc, hk, rfl, rfl, hA, hB⟩ := hrel
      clear A0 B0
      obtain ⟨⟨s0, s1, s2⟩, _, _⟩ := (X2.out.kept hB.out).box
      by_cases hlt : k < r
      · have hlt' : (k : Int) < (r : Int) := by omega
        go_wp2_with (at_builtin; refine wpList_append_own _ rfl _ _ 30 rfl V2.heap.size 2 i0 _ 1 8 Try.underlying30 hi0 hz0 hz1 hz2 rfl (by decide) _ k _ rfl (World.ownsRow.alloc hA.out _) ⟨_, 0, none⟩ 1 1 [.int .i64 (k : Int)] rfl rfl (news1 _ (k : Int)) (ones1 _) (by unfold maxLen; omega) (by omega) (by have := hB.out.size; simp; omega) ?_; intro v3 w3 own3 grow3 _; have H3 : Hid (w3.ownsRow V2.heap.size 2 1 v3 (k + 1) (idl (k + 1))) := (by rw [idl_succ]; exact own3); have G3 : Hid (Below V2.heap.size V2 w3) := (by have g := grown_below (C := V2.heap.size) grow3 (fun x hx => (World.ownsRow.lt hA.out x hx).1) (by have := hB.out.size; simp; omega); exact (hB.out.alloc hB.out.size _).trans g); obtain ⟨va', vc', hv⟩ : ∃ va' vc', v3 = .slice va' (k + 1) vc' := (by rcases H3.out.2 with ⟨h0, h1⟩ | ⟨g, cp, cur, h0, _⟩; (omega); exact ⟨_, _, h0⟩); subst hv; clear own3 grow3)
        go_roundw
        case rel => exact ⟨k + 1, va', vc', by omega, by go_num, rfl, H3, G3⟩
        case measure => simp [intOf]; omega
      · obtain rfl : k = r := by omega
        have IN : Hid (Ints wr va k (fun i => (i : Int))) := idl_ints hA.out l4
        have X3 : Hid (DX w w1.heap.size q n c q' m c' q'' k c'' L1 L2 L3 wr) := X2.out.kept hB.out
        clear hA hB hlt hk X2
        go_wp2_with fail
        refine (CA.out _ va vc X3.out IN.out).mono ?_
        rintro e w4 ⟨v4, rfl, A4⟩
        obtain ⟨f1, fn1, fc1, f2, fn2, fc2, f3, fc3, rfl, hf1, F1, F2, D4⟩ := A4
        obtain ⟨V4, hV4, X4⟩ : ∃ V4, V4 = w4.alloc (.cells #[.slice f1 fn1 fc1, .slice f2 fn2 fc2, .slice f3 0 fc3] 27) ∧ Hid (DX w w1.heap.size q n c q' m c' q'' k c'' L1 L2 L3 V4 ∧ QX w4.heap.size f1 fn1 fc1 f2 fn2 fc2 f3 fc3 L1 L1 V4) := ⟨_, rfl, (X3.out.kept D4).kept ((Below.refl _ _).alloc (Nat.le_refl _) _), ⟨Box3.new w4 _ _ _ 27, F1.below ((Below.refl _ _).alloc (Nat.le_refl _) _), F2.below ((Below.refl _ _).alloc (Nat.le_refl _) _)⟩⟩
        have HV4 : Hid (V4 = _) := hV4
        obtain ⟨⟨t0, t1, t2⟩, _, _⟩ := (X3.out.kept D4).box
        clear hV4 X3 IN F1 F2 D4 hf1 s0 s1 s2
        go_wp2_with fail
        rw [← HV4.out]
        refine (CN.out _ X4.out.1).mono ?_
        rintro e w5 ⟨v5, rfl, A5⟩
        obtain ⟨g1, gn1, gc1, g2, gn2, gc2, g3, gc3, rfl, hg1, G1, G2, D5⟩ := A5
        obtain ⟨V5, hV5, X5⟩ : ∃ V5, V5 = w5.alloc (.cells #[.slice g1 gn1 gc1, .slice g2 gn2 gc2, .slice g3 0 gc3] 27) ∧ Hid (DX w w1.heap.size q n c q' m c' q'' k c'' L1 L2 L3 V5 ∧ QX w4.heap.size f1 fn1 fc1 f2 fn2 fc2 f3 fc3 L1 L1 V5 ∧ QX w5.heap.size g1 gn1 gc1 g2 gn2 gc2 g3 gc3 L2 L2 V5) := ⟨_, rfl, (X4.out.1.kept D5).kept ((Below.refl _ _).alloc (Nat.le_refl _) _), (X4.out.2.kept D5).kept ((Below.refl _ _).alloc (Nat.le_refl _) _), ⟨Box3.new w5 _ _ _ 27, G1.below ((Below.refl _ _).alloc (Nat.le_refl _) _), G2.below ((Below.refl _ _).alloc (Nat.le_refl _) _)⟩⟩
        have HV5 : Hid (V5 = _) := hV5
        obtain ⟨⟨s0, s1, s2⟩, _, _⟩ := (X4.out.1.kept D5).box
        clear hV5 X4 G1 G2 D5 hg1 t0 t1 t2 HV4
        go_wp2_with fail
        rw [← HV5.out]
        refine (ID.out _ X5.out.1).mono ?_
        rintro e w6 ⟨rfl, D6⟩
        have X6 : Hid (DX w w1.heap.size q n c q' m c' q'' k c'' L1 L2 L3 w6 ∧ QX w4.heap.size f1 fn1 fc1 f2 fn2 fc2 f3 fc3 L1 L1 w6 ∧ QX w5.heap.size g1 gn1 gc1 g2 gn2 gc2 g3 gc3 L2 L2 w6) := ⟨X5.out.1.kept D6, X5.out.2.1.kept D6, X5.out.2.2.kept D6⟩
        obtain ⟨⟨⟨d0, d1, d2⟩, _, _⟩, _, _⟩ := X6.out.1
        obtain ⟨⟨⟨e0, e1, e2⟩, _, _⟩, _, _⟩ := X6.out.2.1
        clear D6 X5 HV5 s0 s1 s2
        go_wp2_with fail
        refine (SY.out _ X6.out.1).mono ?_
        rintro e w7 ⟨v7, rfl, A7⟩
        obtain ⟨h1, hn1, hc1, h2, hn2, hc2, h3, hc3, rfl, hh1, H1, H2, D7⟩ := A7
        obtain ⟨V7, hV7, X7⟩ : ∃ V7, V7 = w7.alloc (.cells #[.slice h1 hn1 hc1, .slice h2 hn2 hc2, .slice h3 0 hc3] 27) ∧ Hid (DX w w1.heap.size q n c q' m c' q'' k c'' L1 L2 L3 V7 ∧ QX w4.heap.size f1 fn1 fc1 f2 fn2 fc2 f3 fc3 L1 L1 V7 ∧ QX w5.heap.size g1 gn1 gc1 g2 gn2 gc2 g3 gc3 L2 L2 V7 ∧ QX w7.heap.size h1 hn1 hc1 h2 hn2 hc2 h3 hc3 L1 L1 V7) := ⟨_, rfl, (X6.out.1.kept D7).kept ((Below.refl _ _).alloc (Nat.le_refl _) _), (X6.out.2.1.kept D7).kept ((Below.refl _ _).alloc (Nat.le_refl _) _), (X6.out.2.2.kept D7).kept ((Below.refl _ _).alloc (Nat.le_refl _) _), ⟨Box3.new w7 _ _ _ 27, H1.below ((Below.refl _ _).alloc (Nat.le_refl _) _), H2.below ((Below.refl _ _).alloc (Nat.le_refl _) _)⟩⟩
        have HV7 : Hid (V7 = _) := hV7
        have K7 : Hid (Below w7.heap.size w7 V7) := by rw [hV7]; exact (Below.refl _ _).alloc (Nat.le_refl _) _
        obtain ⟨⟨⟨d0, d1, d2⟩, _, _⟩, _, _⟩ := X6.out.1.kept D7
        obtain ⟨⟨⟨e0, e1, e2⟩, _, _⟩, _, _⟩ := X6.out.2.1.kept D7
        clear hV7 X6 D7 H1 H2 hh1 K7
        go_wp2_with fail
        rw [← HV7.out]
        clear d0 d1 d2 e0 e1 e2
        refine (same_yes _ _ (X7.out.2.1.f1) (X7.out.1.dk.files.1)).mono ?_
        rintro e w8 ⟨rfl, D8⟩
        have X8 : Hid (DX w w1.heap.size q n c q' m c' q'' k c'' L1 L2 L3 w8 ∧ QX w4.heap.size f1 fn1 fc1 f2 fn2 fc2 f3 fc3 L1 L1 w8 ∧ QX w5.heap.size g1 gn1 gc1 g2 gn2 gc2 g3 gc3 L2 L2 w8 ∧ QX w7.heap.size h1 hn1 hc1 h2 hn2 hc2 h3 hc3 L1 L1 w8) := ⟨X7.out.1.kept D8, X7.out.2.1.kept D8, X7.out.2.2.1.kept D8, X7.out.2.2.2.kept D8⟩
        clear HV7
        clear D8 X7
        obtain ⟨⟨⟨d0, d1, d2⟩, _, _⟩, _, _⟩ := X8.out.1
        obtain ⟨⟨⟨e0, e1, e2⟩, _, _⟩, _, _⟩ := X8.out.2.1
        obtain ⟨⟨⟨f0', f1', f2'⟩, _, _⟩, _, _⟩ := X8.out.2.2.1
        obtain ⟨⟨⟨g0', g1', g2'⟩, _, _⟩, _, _⟩ := X8.out.2.2.2
        go_wp2_with fail
        refine (same_yes _ _ (X8.out.2.1.f2) (X8.out.1.dk.files.1)).mono ?_
        rintro e w9 ⟨rfl, D9⟩
        have X9 : Hid (DX w w1.heap.size q n c q' m c' q'' k c'' L1 L2 L3 w9 ∧ QX w4.heap.size f1 fn1 fc1 f2 fn2 fc2 f3 fc3 L1 L1 w9 ∧ QX w5.heap.size g1 gn1 gc1 g2 gn2 gc2 g3 gc3 L2 L2 w9 ∧ QX w7.heap.size h1 hn1 hc1 h2 hn2 hc2 h3 hc3 L1 L1 w9) := ⟨X8.out.1.kept D9, X8.out.2.1.kept D9, X8.out.2.2.1.kept D9, X8.out.2.2.2.kept D9⟩
        clear d0 d1 d2 e0 e1 e2 f0' f1' f2' g0' g1' g2'
        clear D9 X8
        obtain ⟨⟨⟨d0, d1, d2⟩, _, _⟩, _, _⟩ := X9.out.1
        obtain ⟨⟨⟨e0, e1, e2⟩, _, _⟩, _, _⟩ := X9.out.2.1
        obtain ⟨⟨⟨f0', f1', f2'⟩, _, _⟩, _, _⟩ := X9.out.2.2.1
        obtain ⟨⟨⟨g0', g1', g2'⟩, _, _⟩, _, _⟩ := X9.out.2.2.2
        go_wp2_with fail
        refine (same_yes _ _ (X9.out.2.2.1.f1) (X9.out.1.dk.files.2)).mono ?_
        rintro e w10 ⟨rfl, D10⟩
        have X10 : Hid (DX w w1.heap.size q n c q' m c' q'' k c'' L1 L2 L3 w10 ∧ QX w4.heap.size f1 fn1 fc1 f2 fn2 fc2 f3 fc3 L1 L1 w10 ∧ QX w5.heap.size g1 gn1 gc1 g2 gn2 gc2 g3 gc3 L2 L2 w10 ∧ QX w7.heap.size h1 hn1 hc1 h2 hn2 hc2 h3 hc3 L1 L1 w10) := ⟨X9.out.1.kept D10, X9.out.2.1.kept D10, X9.out.2.2.1.kept D10, X9.out.2.2.2.kept D10⟩
        clear d0 d1 d2 e0 e1 e2 f0' f1' f2' g0' g1' g2'
        clear D10 X9
        obtain ⟨⟨⟨d0, d1, d2⟩, _, _⟩, _, _⟩ := X10.out.1
        obtain ⟨⟨⟨e0, e1, e2⟩, _, _⟩, _, _⟩ := X10.out.2.1
        obtain ⟨⟨⟨f0', f1', f2'⟩, _, _⟩, _, _⟩ := X10.out.2.2.1
        obtain ⟨⟨⟨g0', g1', g2'⟩, _, _⟩, _, _⟩ := X10.out.2.2.2
        go_wp2_with fail
        refine (same_yes _ _ (X10.out.2.2.2.f2) (X10.out.1.dk.files.1)).mono ?_
        rintro e w11 ⟨rfl, D11⟩
        have X11 : Hid (DX w w1.heap.size q n c q' m c' q'' k c'' L1 L2 L3 w11 ∧ QX w4.heap.size f1 fn1 fc1 f2 fn2 fc2 f3 fc3 L1 L1 w11 ∧ QX w5.heap.size g1 gn1 gc1 g2 gn2 gc2 g3 gc3 L2 L2 w11 ∧ QX w7.heap.size h1 hn1 hc1 h2 hn2 hc2 h3 hc3 L1 L1 w11) := ⟨X10.out.1.kept D11, X10.out.2.1.kept D11, X10.out.2.2.1.kept D11, X10.out.2.2.2.kept D11⟩
        clear d0 d1 d2 e0 e1 e2 f0' f1' f2' g0' g1' g2'
        clear D11 X10
        obtain ⟨⟨⟨d0, d1, d2⟩, _, _⟩, _, _⟩ := X11.out.1
        obtain ⟨⟨⟨e0, e1, e2⟩, _, _⟩, _, _⟩ := X11.out.2.1
        obtain ⟨⟨⟨f0', f1', f2'⟩, _, _⟩, _, _⟩ := X11.out.2.2.1
        obtain ⟨⟨⟨g0', g1', g2'⟩, _, _⟩, _, _⟩ := X11.out.2.2.2
        go_wp2
        go_ret
        exact ⟨rfl, X11.out.1.b⟩
end Go.Proofs.Ytcalgmhpagpnnaa
