/- The law FnFrames returns true, whatever the bytes of the code. Conditions: the bytes lie in memory. -/
import Derived.Test.YthmmlcmeaokdnaaFrL
namespace Go.Proofs.Ythmmlcmeaokdnaa
open Go.RowKit

set_option maxHeartbeats 1000000 in
theorem sameT (B1 B2 : Nat) (v1 v2 : Value) (l : List ByteArray) (w : World) (hl : l.length ≤ 1048576) (h1 : SL w B1 v1 l) (h2 : SL w B2 v2 l) :
    Calls Try.prog 10 #[v1, v2] w fun e w' => e = .returned (.bool true) ∧ Below w.heap.size w w' := by
  obtain ⟨a1, m1, rfl, s1⟩ := h1.cells
  obtain ⟨a2, m2, rfl, s2⟩ := h2.cells
  have S1 : Hid (∀ i, i < l.length → ∃ g, a1 = some ⟨g, 0, none⟩ ∧ w.cell? ⟨g, i, none⟩ = some (.string (l.getD i emp))) := fun i hi => by obtain ⟨g, e, _, _, _, hc, _⟩ := s1 i hi; exact ⟨g, e, hc⟩
  have S2 : Hid (∀ i, i < l.length → ∃ g, a2 = some ⟨g, 0, none⟩ ∧ w.cell? ⟨g, i, none⟩ = some (.string (l.getD i emp))) := fun i hi => by obtain ⟨g, e, _, _, _, hc, _⟩ := s2 i hi; exact ⟨g, e, hc⟩
  clear s1 s2 h1 h2
  generalize hn : l.length = n at *
  go_enter Try.func10, Try.ntmps10
  go_wp2
  go_loopw [5] (fun i wr => ∃ (k q : Nat), k ≤ n ∧ i = .int .i64 k ∧ wr = w.drewN q) (fun i _ => n - (intOf i).toNat)
  case atStart => exact ⟨0, 0, Nat.zero_le _, rfl, rfl⟩
  case round =>
    obtain ⟨k, q, hk, rfl, rfl⟩ := hrel
    by_cases hlt : k < n
    · obtain ⟨g, rfl, c1⟩ := S1.out k hlt
      obtain ⟨g', rfl, c2⟩ := S2.out k hlt
      generalize l.getD k emp = z at c1 c2
      have hk0 : (k : Int) < (n : Int) := by omega
      go_wp2
      go_quiet (fail)
      go_wp2
      go_roundw
      case rel => exact ⟨k + 1, _, by omega, by go_num, rfl⟩
      case measure => simp [intOf]; omega
    · go_wp2
      go_ret
      exact ⟨rfl, below_drewQ (Below.refl _ _) _⟩


theorem catF_app (A : List ByteArray) : ∀ B : List ByteArray, (catF A).size ≤ (catF (A ++ B)).size := by
  intro B
  unfold catF
  rw [List.foldl_append]
  generalize List.foldl (fun x d => x ++ frameB d) ⟨#[]⟩ A = x
  induction B generalizing x with
  | nil => exact Nat.le_refl _
  | cons d B ih =>
    refine Nat.le_trans ?_ (ih (x ++ frameB d))
    rw [ByteArray.size_append]
    omega
theorem catF_take (L : List ByteArray) (i : Nat) : (catF (L.take i)).size ≤ (catF L).size := by
  have := catF_app (L.take i) (L.drop i)
  rw [List.take_append_drop] at this
  exact this
theorem catF_next {L : List ByteArray} {i : Nat} (h : i < L.length) : catF (L.take (i + 1)) = catF (L.take i) ++ frameB (L.getD i emp) := by
  rw [List.take_succ_eq_append_getElem h, catF_snoc]
  simp [List.getD, List.getElem?_eq_getElem h]
theorem SL.take {w : World} {B : Nat} {a : Option Addr} {c : Nat} {L : List ByteArray} (h : SL w B (.slice a L.length c) L) (f : Nat) (hf : f ≤ L.length) : SL w B (.slice a f c) (L.take f) := by
  unfold SL
  rw [List.length_take, Nat.min_eq_left hf]
  rcases h.2 with ⟨hv, hn⟩ | ⟨g, cap, cur, hv, hg, h1, h2, h3, h4, h5⟩
  · have : f = 0 := by omega
    subst this
    refine ⟨by simp, Or.inl ⟨?_, rfl⟩⟩
    have e := hv
    simp at e
    obtain ⟨rfl, _, rfl⟩ := e
    rfl
  · obtain ⟨rfl, rfl⟩ : a = some ⟨g, 0, none⟩ ∧ c = cap := by simpa using hv
    refine ⟨by simp; omega, Or.inr ⟨g, c, cur, rfl, hg, h1, by omega, h3, h4, ?_⟩⟩
    rw [List.map_take]
    have : (cur.toList.take (L.length * 1)).take (f * 1) = (L.map Value.string).take (f * 1) := by rw [h5]
    rw [List.take_take, Nat.min_eq_left (by omega), Nat.mul_one] at this
    rw [Nat.mul_one]
    simpa using this
theorem SL.caps {w : World} {B : Nat} {a : Option Addr} {c : Nat} {L : List ByteArray} (h : SL w B (.slice a L.length c) L) : L.length ≤ c := by
  rcases h.2 with ⟨hv, hn⟩ | ⟨g, cap, cur, hv, hg, h1, h2, _⟩
  · omega
  · have : c = cap := by
      have := hv
      simp at this
      exact this.2
    omega

theorem Code.below {w w' : World} {a : Option Addr} {len : Nat} (h : Code w a len) (hb : Below w.heap.size w w') : Code w' a len :=
  ⟨h.1, fun i hi => by
    obtain ⟨b, off, z, ha, hlt, hc, hz⟩ := h.2 i hi
    exact ⟨b, off, z, ha, Nat.lt_of_lt_of_le hlt hb.size, by rw [hb.cell (p := ⟨b, off + i, none⟩) hlt]; exact hc, hz⟩⟩
set_option maxHeartbeats 4000000 in
theorem lawFrames (a : Option Addr) (len cap : Nat) (w : World) (h : Code w a len) :
    Calls Try.prog 3 #[.slice a len cap] w fun e w' => e = .returned (.bool true) ∧ Below w.heap.size w w' := by
  have H : Hid (Code w a len) := h
  clear h
  by_cases hbig : 1048576 < len
  · go_enter Try.func3, Try.ntmps3
    go_wp2_with (go_at_call 6; refine (big_yes _ _ _ _ hbig).mono ?_; rintro e w' ⟨rfl, rfl⟩)
    go_ret
    exact ⟨rfl, Below.refl _ _⟩
  go_enter Try.func3, Try.ntmps3
  go_wp2_with (go_at_call 6; refine (big_no _ _ _ _ (by omega)).mono ?_; rintro e w' ⟨rfl, rfl⟩)
  refine (drawTake a len cap _ H.out).mono ?_
  rintro e w1 ⟨s, rfl, hs, B1⟩
  have BB1 : Hid (Below w'.heap.size w' w1) := B1
  clear B1
  have IM : Hid (∀ (x : ByteArray), x.size ≤ 1048576 → ∀ w, Calls Try.prog 8 #[.string x] w fun e w' => ∃ v L, ∃ a : Nat, e = .returned (.tuple #[v, .int .i64 a]) ∧ Res x L a ∧ SL w' w.heap.size v L ∧ Below w.heap.size w w') := fun x hx w => implTake x w hx
  have SP : Hid (∀ w, Calls Try.prog 9 #[.string s] w fun e w' => ∃ v L, ∃ a : Nat, e = .returned (.tuple #[v, .int .i64 a]) ∧ Res s L a ∧ SL w' w.heap.size v L ∧ Below w.heap.size w w') := fun w => specTake s w (by omega)
  go_wp2_with fail
  refine (IM.out s (by omega) _).mono ?_
  rintro e w2 ⟨v, L, n, rfl, R2, A2, B2⟩
  have HR : Hid (Res s L n) := R2
  have A2' : Hid (SL w2 w1.heap.size v L) := A2
  have BB2 : Hid (Below w'.heap.size w' w2) := BB1.out.trans (B2.mono BB1.out.size)
  clear R2 A2 B2 BB1
  go_wp2_with fail
  refine (SP.out _).mono ?_
  rintro e w3 ⟨v3, M, m, rfl, R3, A3, B3⟩
  obtain ⟨rfl, rfl⟩ := R3.one HR.out
  have A3' : Hid (SL w3 w2.heap.size v3 M) := A3
  have V3 : Hid (SL w3 w1.heap.size v M) := A2'.out.kept B3
  have BB3 : Hid (Below w'.heap.size w' w3) := BB2.out.trans (B3.mono BB2.out.size)
  clear R3 A3 B3 BB2 A2' SP
  have hMl : M.length ≤ 1048576 := by
    obtain ⟨j, ej, _⟩ := HR.out
    have hb := stF_bd s j
    rw [ej] at hb
    have := hb.1
    have := hb.2
    simp only at *
    omega
  have hm : m ≤ s.size := by
    obtain ⟨j, ej, _⟩ := HR.out
    have hb := stF_bd s j
    rw [ej] at hb
    exact hb.1
  obtain ⟨hcat, hML⟩ : catF M = s.extract 0 m ∧ ∀ d ∈ M, d.size ≤ 100000 := by obtain ⟨j, ej, _⟩ := HR.out; exact stF_cat s j m M ej
  have HCAT : Hid (catF M = s.extract 0 m) := hcat
  have HML : Hid (∀ d ∈ M, d.size ≤ 100000) := hML
  have hcs : (catF M).size = m := by rw [hcat, ByteArray.size_extract]; omega
  have hee : (((m : Nat) : Int) != (m : Int)) = false := by simp
  have hgt : decide ((s.size : Int) < (m : Int)) = false := decide_eq_false (by omega)
  have hgt2 : decide (s.size < m) = false := decide_eq_false (by omega)
  clear hcat hML
  go_wp2_with fail
  refine (sameT _ _ _ _ M _ hMl V3.out A3'.out).mono ?_
  rintro e w4 ⟨rfl, B4⟩
  have V4 : Hid (SL w4 w1.heap.size v M) := V3.out.kept B4
  have BB4 : Hid (Below w'.heap.size w' w4) := BB3.out.trans (B4.mono BB3.out.size)
  clear B4 V3 A3' BB3
  rcases V4.out.2 with ⟨hv, hk0⟩ | ⟨g, vc, cur, hv, _⟩
  · subst hv
    have HK : Hid (0 = M.length) := hk0.symm
    clear hk0
    go_wp2
    go_loopw [8, 9] (fun o q wr => ∃ i : Nat, i ≤ 0 ∧ q = .int .i64 i ∧ o = .string (catF (M.take i)) ∧ Hid (SL wr w1.heap.size (.slice none 0 0) M) ∧ Hid (Below w'.heap.size w' wr)) (fun _ q _ => 0 - (intOf q).toNat)
    case atStart => exact ⟨0, Nat.zero_le _, rfl, rfl, V4, BB4⟩
    case round =>
      obtain ⟨i, hi, rfl, rfl, hV, hB⟩ := hrel
      clear V4 BB4
      have hi0 : i = 0 := by omega
      subst hi0
      have htk : M.take 0 = M := by rw [List.length_eq_zero_iff.1 HK.out.symm]; rfl
      rw [htk]
      clear hi htk
      go_wp2_with fail
      refine (drawFrame a len cap _ (H.out.below hB.out)).mono ?_
      rintro e w6 ⟨t, rfl, ht, B6⟩
      have V6 : Hid (SL w6 w1.heap.size (.slice none 0 0) M) := hV.out.kept B6
      have BB6 : Hid (Below w'.heap.size w' w6) := hB.out.trans (B6.mono hB.out.size)
      clear B6 hV hB
      obtain ⟨y, hy⟩ : ∃ y, y = frameB t := ⟨_, rfl⟩
      have hys : y.size = 8 + t.size := by rw [hy]; exact frameB_size t
      have HIF : Hid (∀ w, Calls Try.prog 11 #[.string t] w fun e w' => e = .returned (.string y) ∧ Below w.heap.size w w') := fun w => by rw [hy]; exact impl_yes t w (by omega)
      obtain ⟨z, hz⟩ : ∃ z, z = catF M ++ y := ⟨_, rfl⟩
      have hzs : z.size = m + (8 + t.size) := by rw [hz, ByteArray.size_append]; omega
      have HRM : Hid (Res z (M ++ [t]) (m + (8 + t.size))) := by
        have := res_more HML.out t (by omega)
        rw [hcs, ← hy, ← hz] at this
        exact this
      have ha : ∀ W, (Op.stringOp .add (catF M) y).run Try.prog W = .ok (.string z) W := fun W => by rw [hz]; exact run_string_add_sum W _ _ (by omega)
      clear hy hz
      go_wp2_with fail
      refine (HIF.out _).mono ?_
      rintro e w7 ⟨rfl, B7⟩
      have V7 : Hid (SL w7 w1.heap.size (.slice none 0 0) M) := V6.out.kept B7
      have BB7 : Hid (Below w'.heap.size w' w7) := BB6.out.trans (B7.mono BB6.out.size)
      clear B7 V6 BB6
      go_wp2_with fail
      refine (IM.out z (by omega) _).mono ?_
      rintro e w8 ⟨o8, O, b, rfl, R8, A8, B8⟩
      obtain ⟨hO, hb⟩ := R8.one HRM.out
      subst hO
      obtain ⟨oa, oc, ho8, so⟩ := A8.cells
      obtain ⟨go, hoa, _, hgo1, hgo2, hoc, _⟩ := so 0 (by rw [HK.out]; simp)
      have HO8 : Hid (w8.cell? ⟨go, 0, none⟩ = some (.string t) ∧ go < w8.heap.size) := ⟨by
        rw [hoc, HK.out]
        simp [List.getD], hgo2⟩
      have hol : (M ++ [t]).length = 1 := by rw [List.length_append, ← HK.out]; rfl
      rw [hol] at ho8
      subst ho8
      subst hoa
      have V8 : Hid (SL w8 w1.heap.size (.slice none 0 0) M) := V7.out.kept B8
      have BB8 : Hid (Below w'.heap.size w' w8) := BB7.out.trans (B8.mono BB7.out.size)
      clear R8 A8 B8 V7 BB7 so hoc hol hgo1 hgo2 HRM
      obtain ⟨kk, hkk⟩ : ∃ kk : Nat, kk = len % (m + 1) := ⟨_, rfl⟩
      have hkm : kk ≤ m := by have := Nat.mod_lt len (show 0 < m + 1 by omega); omega
      have hke : (len : Int) % ((m : Int) + 1) = (kk : Int) := by rw [hkk]; simp
      have hcsi : ((catF M).size : Int) = (m : Int) := by omega
      clear hkk
      have hk1 : (kk : Int) ≤ (m : Int) := by omega
      have hk0 : (0 : Int) ≤ (kk : Int) := by omega
      have hk2 : kk ≤ (catF M).size := by omega
      go_wp2_with fail
      refine (IM.out ((catF M).extract 0 kk) (by rw [ByteArray.size_extract]; omega) _).mono ?_
      rintro e w9 ⟨f9, F, fb, rfl, R9, A9, B9⟩
      obtain ⟨hfl, hFt⟩ := res_few HML.out hk2 R9
      obtain ⟨fa, fc, hf9, _⟩ := A9.cells
      obtain ⟨f, hfe⟩ : ∃ f, f = F.length := ⟨_, rfl⟩
      rw [← hfe] at hf9 hfl hFt
      subst hf9
      rw [← HK.out] at hfl
      have hfz : f = 0 := by omega
      subst hfz
      have VT : Hid (SL w9 w1.heap.size (.slice none 0 0) (M.take 0)) := by
        have h9 := V8.out.kept B9
        have e := HK.out
        have h10 : SL w9 w1.heap.size (.slice none M.length 0) M := by rw [← e]; exact h9
        exact h10.take 0 (by omega)
      have FT : Hid (SL w9 w8.heap.size (.slice fa 0 fc) (M.take 0)) := by rw [← hFt]; exact A9
      have hvc : 0 ≤ 0 := by
        have h9 := V8.out
        have e := HK.out
        have h10 : SL w8 w1.heap.size (.slice none M.length 0) M := by rw [← e]; exact h9
        have := h10.caps
        omega
      have hco : w9.cell? ⟨go, 0, none⟩ = some (.string t) := by rw [B9.cell (p := ⟨go, 0, none⟩) HO8.out.2]; exact HO8.out.1
      have BB9 : Hid (Below w'.heap.size w' w9) := BB8.out.trans (B9.mono BB8.out.size)
      have hsx : s.extract 0 m = catF M := HCAT.out.symm
      have hbq : ((b : Int) == (m : Int) + (y.size : Int)) = true := by rw [hb, hys]; simp
      have hfk : ((0 : Nat) : Int) ≤ (0 : Int) := by omega
      have hfk2 : decide (((0 : Nat) : Int) ≤ (0 : Int)) = true := decide_eq_true hfk
      have hfv : ((0 : Nat) : Int) ≤ (0 : Int) := by omega
      have hf0 : (0 : Int) ≤ ((0 : Nat) : Int) := by omega
      have hml : (M.take 0).length ≤ 1048576 := by simp
      have hmi : (m : Int) ≤ (s.size : Int) := by omega
      have hlen1 : (((0 : Int) + 1) == ((0 : Int) + 1)) = true := by simp
      clear R9 A9 B9 V8 BB8 hFt hfe HO8 hfl hb hke
      go_wp2_with fail
      refine (HIF.out _).mono ?_
      rintro e w10 ⟨rfl, B10⟩
      have VT10 : Hid (SL w10 w1.heap.size (.slice none 0 0) (M.take 0)) := VT.out.kept B10
      have FT10 : Hid (SL w10 w8.heap.size (.slice fa 0 fc) (M.take 0)) := FT.out.kept B10
      have BB10 : Hid (Below w'.heap.size w' w10) := BB9.out.trans (B10.mono BB9.out.size)
      clear B10 VT FT BB9 hco
      go_wp2_with fail
      refine (sameT _ _ _ _ (M.take 0) _ hml FT10.out VT10.out).mono ?_
      rintro e w11 ⟨rfl, B11⟩
      have BB11 : Hid (Below w'.heap.size w' w11) := BB10.out.trans (B11.mono BB10.out.size)
      clear B11
      go_wp2
      go_ret
      exact ⟨rfl, BB11.out⟩
  · subst hv
    obtain ⟨k, hk⟩ : ∃ k, k = M.length := ⟨_, rfl⟩
    have HK : Hid (k = M.length) := hk
    rw [← hk] at V4 hMl
    rw [← hk]
    clear hk
    go_wp2
    go_loopw [8, 9] (fun o q wr => ∃ i : Nat, i ≤ k ∧ q = .int .i64 i ∧ o = .string (catF (M.take i)) ∧ Hid (SL wr w1.heap.size (.slice (some ⟨g, 0, none⟩) k vc) M) ∧ Hid (Below w'.heap.size w' wr)) (fun _ q _ => k - (intOf q).toNat)
    case atStart => exact ⟨0, Nat.zero_le _, rfl, rfl, V4, BB4⟩
    case round =>
      obtain ⟨i, hi, rfl, rfl, hV, hB⟩ := hrel
      clear V4 BB4
      by_cases hlt : i < k
      · have hlt' : (i : Int) < (k : Int) := by omega
        have hiM : i < M.length := by rw [← HK.out]; exact hlt
        obtain ⟨a', c', e', sh⟩ := hV.out.cells
        obtain ⟨g', ea, _, _, _, cc, _⟩ := sh i hiM
        have eg : g = g' := by
          have := congrArg Value.ownBlock e'
          rw [ea] at this
          simpa [Value.ownBlock] using this
        subst eg
        clear e' sh ea
        have hds : (M.getD i emp).size ≤ 100000 := by
          have : M.getD i emp = M[i] := by simp [List.getD, List.getElem?_eq_getElem hiM]
          rw [this]
          exact HML.out _ (List.getElem_mem _)
        have hnx : Hid (catF (M.take (i + 1)) = catF (M.take i) ++ frameB (M.getD i emp)) := catF_next hiM
        have hb1 : (catF (M.take i)).size ≤ 1001 := by have := catF_take M i; omega
        obtain ⟨d, hd⟩ : ∃ d, d = M.getD i emp := ⟨_, rfl⟩
        rw [← hd] at cc hds hnx
        have hfs := frameB_size d
        have HIF : Hid (∀ w, Calls Try.prog 11 #[.string d] w fun e w' => e = .returned (.string (frameB d)) ∧ Below w.heap.size w w') := fun w => impl_yes d w hds
        have ha := fun W => run_string_add_sum (P := Try.prog) W (catF (M.take i)) (frameB d) (by omega)
        clear hd hiM
        generalize catF (M.take i) = x at *
        go_wp2_with fail
        refine (HIF.out _).mono ?_
        rintro e w5 ⟨rfl, B5⟩
        have V5 : Hid (SL w5 w1.heap.size (.slice (some ⟨g, 0, none⟩) k vc) M) := hV.out.kept B5
        have BB5 : Hid (Below w'.heap.size w' w5) := hB.out.trans (B5.mono hB.out.size)
        clear B5 hV hB cc
        go_wp2
        go_roundw
        case rel => exact ⟨i + 1, by omega, by go_num, by rw [hnx.out], V5, BB5⟩
        case measure => simp [intOf]; omega
      · have hik : i = k := by omega
        subst hik
        have htk : M.take i = M := by rw [HK.out]; exact List.take_length
        rw [htk]
        clear hlt hi htk
        go_wp2_with fail
        refine (drawFrame a len cap _ (H.out.below hB.out)).mono ?_
        rintro e w6 ⟨t, rfl, ht, B6⟩
        have V6 : Hid (SL w6 w1.heap.size (.slice (some ⟨g, 0, none⟩) i vc) M) := hV.out.kept B6
        have BB6 : Hid (Below w'.heap.size w' w6) := hB.out.trans (B6.mono hB.out.size)
        clear B6 hV hB
        obtain ⟨y, hy⟩ : ∃ y, y = frameB t := ⟨_, rfl⟩
        have hys : y.size = 8 + t.size := by rw [hy]; exact frameB_size t
        have HIF : Hid (∀ w, Calls Try.prog 11 #[.string t] w fun e w' => e = .returned (.string y) ∧ Below w.heap.size w w') := fun w => by rw [hy]; exact impl_yes t w (by omega)
        obtain ⟨z, hz⟩ : ∃ z, z = catF M ++ y := ⟨_, rfl⟩
        have hzs : z.size = m + (8 + t.size) := by rw [hz, ByteArray.size_append]; omega
        have HRM : Hid (Res z (M ++ [t]) (m + (8 + t.size))) := by
          have := res_more HML.out t (by omega)
          rw [hcs, ← hy, ← hz] at this
          exact this
        have ha : ∀ W, (Op.stringOp .add (catF M) y).run Try.prog W = .ok (.string z) W := fun W => by rw [hz]; exact run_string_add_sum W _ _ (by omega)
        clear hy hz
        go_wp2_with fail
        refine (HIF.out _).mono ?_
        rintro e w7 ⟨rfl, B7⟩
        have V7 : Hid (SL w7 w1.heap.size (.slice (some ⟨g, 0, none⟩) i vc) M) := V6.out.kept B7
        have BB7 : Hid (Below w'.heap.size w' w7) := BB6.out.trans (B7.mono BB6.out.size)
        clear B7 V6 BB6
        go_wp2_with fail
        refine (IM.out z (by omega) _).mono ?_
        rintro e w8 ⟨o8, O, b, rfl, R8, A8, B8⟩
        obtain ⟨hO, hb⟩ := R8.one HRM.out
        subst hO
        obtain ⟨oa, oc, ho8, so⟩ := A8.cells
        obtain ⟨go, hoa, _, hgo1, hgo2, hoc, _⟩ := so i (by rw [HK.out]; simp)
        have HO8 : Hid (w8.cell? ⟨go, i, none⟩ = some (.string t) ∧ go < w8.heap.size) := ⟨by
          rw [hoc, HK.out]
          simp [List.getD], hgo2⟩
        have hol : (M ++ [t]).length = i + 1 := by rw [HK.out]; simp
        rw [hol] at ho8
        subst ho8
        subst hoa
        have V8 : Hid (SL w8 w1.heap.size (.slice (some ⟨g, 0, none⟩) i vc) M) := V7.out.kept B8
        have BB8 : Hid (Below w'.heap.size w' w8) := BB7.out.trans (B8.mono BB7.out.size)
        clear R8 A8 B8 V7 BB7 so hoc hol hgo1 hgo2 HRM
        obtain ⟨kk, hkk⟩ : ∃ kk : Nat, kk = len % (m + 1) := ⟨_, rfl⟩
        have hkm : kk ≤ m := by have := Nat.mod_lt len (show 0 < m + 1 by omega); omega
        have hke : (len : Int) % ((m : Int) + 1) = (kk : Int) := by rw [hkk]; simp
        have hcsi : ((catF M).size : Int) = (m : Int) := by omega
        clear hkk
        have hk1 : (kk : Int) ≤ (m : Int) := by omega
        have hk0 : (0 : Int) ≤ (kk : Int) := by omega
        have hk2 : kk ≤ (catF M).size := by omega
        go_wp2_with fail
        refine (IM.out ((catF M).extract 0 kk) (by rw [ByteArray.size_extract]; omega) _).mono ?_
        rintro e w9 ⟨f9, F, fb, rfl, R9, A9, B9⟩
        obtain ⟨hfl, hFt⟩ := res_few HML.out hk2 R9
        obtain ⟨fa, fc, hf9, _⟩ := A9.cells
        obtain ⟨f, hfe⟩ : ∃ f, f = F.length := ⟨_, rfl⟩
        rw [← hfe] at hf9 hfl hFt
        subst hf9
        rw [← HK.out] at hfl
        have VT : Hid (SL w9 w1.heap.size (.slice (some ⟨g, 0, none⟩) f vc) (M.take f)) := by
          have h9 := V8.out.kept B9
          have e := HK.out
          have h10 : SL w9 w1.heap.size (.slice (some ⟨g, 0, none⟩) M.length vc) M := by rw [← e]; exact h9
          exact h10.take f (by omega)
        have FT : Hid (SL w9 w8.heap.size (.slice fa f fc) (M.take f)) := by rw [← hFt]; exact A9
        have hvc : i ≤ vc := by
          have h9 := V8.out
          have e := HK.out
          have h10 : SL w8 w1.heap.size (.slice (some ⟨g, 0, none⟩) M.length vc) M := by rw [← e]; exact h9
          have := h10.caps
          omega
        have hco : w9.cell? ⟨go, i, none⟩ = some (.string t) := by rw [B9.cell (p := ⟨go, i, none⟩) HO8.out.2]; exact HO8.out.1
        have BB9 : Hid (Below w'.heap.size w' w9) := BB8.out.trans (B9.mono BB8.out.size)
        have hsx : s.extract 0 m = catF M := HCAT.out.symm
        have hbq : ((b : Int) == (m : Int) + (y.size : Int)) = true := by rw [hb, hys]; simp
        have hfk : (f : Int) ≤ (i : Int) := by omega
        have hfk2 : decide ((f : Int) ≤ (i : Int)) = true := decide_eq_true hfk
        have hfv : (f : Int) ≤ (vc : Int) := by omega
        have hf0 : (0 : Int) ≤ (f : Int) := by omega
        have hml : (M.take f).length ≤ 1048576 := by simp; omega
        have hmi : (m : Int) ≤ (s.size : Int) := by omega
        have hlen1 : (((i : Int) + 1) == ((i : Int) + 1)) = true := by simp
        clear R9 A9 B9 V8 BB8 hFt hfe HO8 hfl hb hke
        go_wp2_with fail
        refine (HIF.out _).mono ?_
        rintro e w10 ⟨rfl, B10⟩
        have VT10 : Hid (SL w10 w1.heap.size (.slice (some ⟨g, 0, none⟩) f vc) (M.take f)) := VT.out.kept B10
        have FT10 : Hid (SL w10 w8.heap.size (.slice fa f fc) (M.take f)) := FT.out.kept B10
        have BB10 : Hid (Below w'.heap.size w' w10) := BB9.out.trans (B10.mono BB9.out.size)
        clear B10 VT FT BB9 hco
        go_wp2_with fail
        refine (sameT _ _ _ _ (M.take f) _ hml FT10.out VT10.out).mono ?_
        rintro e w11 ⟨rfl, B11⟩
        have BB11 : Hid (Below w'.heap.size w' w11) := BB10.out.trans (B11.mono BB10.out.size)
        clear B11
        go_wp2
        go_ret
        exact ⟨rfl, BB11.out⟩
end Go.Proofs.Ythmmlcmeaokdnaa
