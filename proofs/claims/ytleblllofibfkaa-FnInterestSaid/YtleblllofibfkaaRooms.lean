/- RoomOf, of the program and of the specification: both answer the same room. Conditions: the accounts lie in memory. -/
import Derived.Test.YtleblllofibfkaaSumS
namespace Go.Proofs.Ytleblllofibfkaa
open Go.RowKit
set_option maxRecDepth 8000

theorem chain_mem (F : Nat → Acc) (n : Nat) : ∀ (m : Nat) (x y : Int) (l : List Int), chain F n m x = some l → y ∈ l → ∃ j, place F n y = some j
  | 0, x, y, l, h, hy => by
    by_cases h0 : x = 0
    · simp [chain, h0] at h; subst h; cases hy
    · simp [chain, h0] at h
  | m + 1, x, y, l, h, hy => by
    by_cases h0 : x = 0
    · simp [chain, h0] at h; subst h; cases hy
    · simp only [chain, if_neg h0] at h
      cases hp : place F n x with
      | none => rw [hp] at h; cases h
      | some i =>
        rw [hp] at h
        simp only [Option.map_eq_some_iff] at h
        obtain ⟨l1, h1, rfl⟩ := h
        rcases List.mem_cons.1 hy with e | e
        · exact ⟨i, by rw [e]; exact hp⟩
        · exact chain_mem F n m _ y l1 h1 e
section
variable {F : Nat → Acc} {n : Nat}
theorem Right.on_path (h : Right F n) {i : Nat} (hi : i < n) {x : Int} (hx : x ∈ pathL F n i) : ∃ j, j < n ∧ (F j).id = x ∧ place F n x = some j := by
  obtain ⟨j, hj⟩ := chain_mem F n n _ x _ (h.path hi) hx
  exact ⟨j, (place_some hj).1, (place_some hj).2, hj⟩
/-- A path ends in a root. -/
theorem Right.has_root (h : Right F n) : ∀ (d i : Nat), i < n → (pathL F n i).length ≤ d → ∃ j, j < n ∧ (F j).id ∈ pathL F n i ∧ (F j).up = 0
  | 0, i, hi, hd => by
    by_cases hu : (F i).up = 0
    · rw [h.path_root hi hu] at hd; simp at hd
    · obtain ⟨p, _, _, e⟩ := h.path_up hi hu
      rw [e] at hd; simp at hd
  | d + 1, i, hi, hd => by
    by_cases hu : (F i).up = 0
    · exact ⟨i, hi, by rw [h.path_root hi hu]; simp, hu⟩
    · obtain ⟨p, hp, _, e⟩ := h.path_up hi hu
      obtain ⟨j, hj, hm, h0⟩ := has_root h d p hp (by rw [e] at hd; simp at hd; omega)
      exact ⟨j, hj, by rw [e]; simp [hm], h0⟩
end

/-- One account of a path more. -/
def step (F : Nat → Acc) (n : Nat) (but : List Int) (r : Option Int) (x : Int) : Option Int :=
  if (F ((place F n x).getD 0)).limit < 0 ∨ x ∈ but then r else
    some (match r with | none => sumAll F n ((place F n x).getD 0) + (F ((place F n x).getD 0)).limit | some q => if sumAll F n ((place F n x).getD 0) + (F ((place F n x).getD 0)).limit < q then sumAll F n ((place F n x).getD 0) + (F ((place F n x).getD 0)).limit else q)
/-- What may be taken, as to those on the path that are not among others. -/
def room (F : Nat → Acc) (n : Nat) (but : List Int) (i : Nat) : Option Int := (pathL F n i).foldl (step F n but) none
section
variable {F : Nat → Acc} {n : Nat} {but : List Int} {j : Nat} {x : Int}
theorem step_skip (hp : place F n x = some j) (h : (F j).limit < 0 ∨ x ∈ but) (r : Option Int) : step F n but r x = r := by
  simp only [step, hp, Option.getD_some, if_pos h]
theorem step_first (hp : place F n x = some j) (h : ¬ ((F j).limit < 0 ∨ x ∈ but)) : step F n but none x = some (sumAll F n j + (F j).limit) := by
  simp only [step, hp, Option.getD_some, if_neg h]
theorem step_less (hp : place F n x = some j) (h : ¬ ((F j).limit < 0 ∨ x ∈ but)) {q : Int} (hq : sumAll F n j + (F j).limit < q) : step F n but (some q) x = some (sumAll F n j + (F j).limit) := by
  simp only [step, hp, Option.getD_some, if_neg h, if_pos hq]
theorem step_more (hp : place F n x = some j) (h : ¬ ((F j).limit < 0 ∨ x ∈ but)) {q : Int} (hq : ¬ sumAll F n j + (F j).limit < q) : step F n but (some q) x = some q := by
  simp only [step, hp, Option.getD_some, if_neg h, if_neg hq]
theorem step_some (r : Option Int) (h : r.isSome = true) (y : Int) : (step F n but r y).isSome = true := by
  unfold step
  split
  · exact h
  · rfl
theorem fold_some : ∀ (l : List Int) (r : Option Int), r.isSome = true → (l.foldl (step F n but) r).isSome = true
  | [], _, h => h
  | y :: l, r, h => fold_some l _ (step_some r h y)
theorem fold_hit (hp : place F n x = some j) (h : ¬ ((F j).limit < 0 ∨ x ∈ but)) : ∀ (l : List Int) (r : Option Int), x ∈ l → (l.foldl (step F n but) r).isSome = true
  | [], _, hx => by cases hx
  | y :: l, _, hx => by
    by_cases e : x = y
    · subst e
      refine fold_some l _ ?_
      unfold step
      rw [hp]
      simp only [Option.getD_some, if_neg h]
      rfl
    · refine fold_hit hp h l _ ?_
      rcases List.mem_cons.1 hx with e' | e'
      · exact absurd e' e
      · exact e'
theorem room_some (h : Right F n) {i : Nat} (hi : i < n) : (room F n [] i).isSome = true := by
  obtain ⟨q, hq, hm, h0⟩ := h.has_root _ i hi (Nat.le_refl _)
  refine fold_hit (place_self h.2.2.1 hq) ?_ _ _ hm
  have := ((h.2.1 q hq).2.2.2.2.2.2.2.1 h0).1
  simp
  omega
theorem fold_take (F : Nat → Acc) (n : Nat) (but : List Int) (l : List Int) (k : Nat) (hk : k < l.length) : (l.take (k + 1)).foldl (step F n but) none = step F n but ((l.take k).foldl (step F n but) none) (l.getD k 0) := by
  rw [List.take_succ_eq_append_getElem hk, List.foldl_append]
  simp [List.getD, List.getElem?_eq_getElem hk]
end

set_option maxHeartbeats 4000000 in
theorem specRoom (a : Option Addr) (n c : Nat) (F : Nat → Acc) (but : List Int) (i B : Nat) (vb : Value) (w : World) (h : Fo w a n F) (hR : Right F n) (hi : i < n) (hb : IL w B vb but) (hbl : but.length ≤ 1048576) :
    Calls Try.prog 69 #[.slice a n c, .int .i64 (F i).id, vb] w fun e w' => e = .returned (.tuple #[.int .i64 ((room F n but i).getD 0), .bool (room F n but i).isSome]) ∧ Below w.heap.size w w' := by
  have H : Hid (Fo w a n F) := h
  have HR : Hid (Right F n) := hR
  have HB : Hid (IL w B vb but) := hb
  have hn := hR.1
  clear h hR hb
  go_enter Try.func69, Try.ntmps69
  go_wp2_with fail
  refine (specPath_right a n c F i _ H.out HR.out hi).mono ?_
  rintro e w0 ⟨v, rfl, I0, B0⟩
  have hpl : (pathL F n i).length ≤ n := path_len HR.out hi
  have HM : Hid (∀ x, x ∈ pathL F n i → ∃ j, j < n ∧ (F j).id = x ∧ place F n x = some j) := fun x hx => HR.out.on_path hi hx
  have HO : Hid (room F n but i = (pathL F n i).foldl (step F n but) none) := rfl
  have HT : Hid (∀ k, k < (pathL F n i).length → ((pathL F n i).take (k + 1)).foldl (step F n but) none = step F n but (((pathL F n i).take k).foldl (step F n but) none) ((pathL F n i).getD k 0)) := fun k hk => fold_take F n but _ k hk
  obtain ⟨pa, pm, rfl, _, s⟩ := I0.shape
  have S : Hid (∀ q, q < (pathL F n i).length → ∃ g, pa = some ⟨g, 0, none⟩ ∧ g < w0.heap.size ∧ w0.cell? ⟨g, q, none⟩ = some (.int .i64 ((pathL F n i).getD q 0))) := fun q hq => by obtain ⟨g, e, _, _, hz, hc, _⟩ := s q hq; exact ⟨g, e, hz, hc⟩
  have HG : Hid (∀ q, q < (pathL F n i).length → (pathL F n i).getD q 0 ∈ pathL F n i) := fun q hq => getD_mem hq
  have B0' : Hid (Below w.heap.size w w0) := B0
  clear s I0 B0
  generalize pathL F n i = l at *
  generalize hL : l.length = L at *
  have HTE : Hid (l.take L = l) := (by rw [← hL]; exact List.take_length : l.take L = l)
  clear hL
  go_wp2
  go_loopw [10, 11, 12] (fun r s q wr => ∃ (k : Nat) (z : Option Int), k ≤ L ∧ q = .int .i64 k ∧ r = .int .i64 (z.getD 0) ∧ s = .bool z.isSome ∧ Hid (z = (l.take k).foldl (step F n but) none) ∧ Hid (Below w0.heap.size w0 wr)) (fun _ _ q _ => L - (intOf q).toNat)
  case atStart => exact ⟨0, none, Nat.zero_le _, rfl, rfl, rfl, (by simp : none = (l.take 0).foldl (step F n but) none), Below.refl _ _⟩
  case round =>
    obtain ⟨k, z, hk, rfl, rfl, rfl, hz, hB⟩ := hrel
    have hBw : Hid (Below w.heap.size w wr) := B0'.out.trans (hB.out.mono B0'.out.size)
    by_cases hlt : k < L
    · obtain ⟨g, rfl, hg, cg0⟩ := S.out k hlt
      have cg : wr.cell? ⟨g, k, none⟩ = some (.int .i64 (l.getD k 0)) := by rw [hB.out.cell (p := ⟨g, k, none⟩) hg]; exact cg0
      obtain ⟨j, hj, hid, hp⟩ := HM.out _ (HG.out k hlt)
      have HTk : Hid ((l.take (k + 1)).foldl (step F n but) none = step F n but z (l.getD k 0)) := by
        have e := HT.out k hlt
        rw [← hz.out] at e
        exact e
      clear cg0
      generalize l.getD k 0 = x at *
      have HP : Hid (placeI F n x = j) := placeI_some hp
      have HPl : Hid (place F n x = some j) := hp
      clear hp
      obtain ⟨b, o, rfl, hb0, hA0⟩ := H.out.acc hj
      have hA := hA0.of_cells (w' := wr) (fun q => hBw.out.cell (p := ⟨b, q, none⟩) hb0)
      obtain ⟨c0, c1, c2, c3, c4, c5, c6, c7⟩ := hA
      obtain ⟨lb1, lb2⟩ := (HR.out.2.1 j hj).2.2.1
      obtain ⟨sb1, sb2⟩ := sumAll_bd HR.out j
      subst hid
      clear hA0
      go_wp2_with fail
      refine (specAt _ n c F _ _ (H.out.below hBw.out)).mono ?_
      rintro e w1 ⟨rfl, hw1⟩
      subst hw1
      rw [HP.out]
      have BA : Hid (∀ y, Below w0.heap.size w0 (w1.alloc y)) := fun y => hB.out.alloc hB.out.size y
      by_cases hl0 : (F j).limit < 0
      · have E : Hid (z = (l.take (k + 1)).foldl (step F n but) none) := (by rw [HTk.out, step_skip HPl.out (Or.inl hl0)] : z = (l.take (k + 1)).foldl (step F n but) none)
        go_wp2
        go_roundw
        case rel => exact ⟨k + 1, z, by omega, by go_num, rfl, rfl, E, BA.out _⟩
        case measure => simp [intOf]; omega
      · have hl1 : 0 ≤ (F j).limit := by omega
        have FA : Hid (∀ y, Fo (w1.alloc y) (some ⟨b, o, none⟩) n F) := fun y => (H.out.below hBw.out).alloc y
        have IA : Hid (∀ y, IL (w1.alloc y) B vb but) := fun y => (HB.out.kept hBw.out).kept ((Below.refl _ _).alloc (Nat.le_refl _) y)
        by_cases hm : (F j).id ∈ but
        · have E : Hid (z = (l.take (k + 1)).foldl (step F n but) none) := (by rw [HTk.out, step_skip HPl.out (Or.inr hm)] : z = (l.take (k + 1)).foldl (step F n but) none)
          have HMm : Hid ((F j).id ∈ but) := hm
          clear hm hl0
          go_wp2_with fail
          refine (specHas_yes B vb but _ _ hbl (IA.out _) HMm.out).mono ?_
          rintro e w2 ⟨rfl, hw2⟩
          subst hw2
          go_wp2
          go_roundw
          case rel => exact ⟨k + 1, z, by omega, by go_num, rfl, rfl, E, BA.out _⟩
          case measure => simp [intOf]; omega
        · have hnot : Hid (¬ ((F j).limit < 0 ∨ (F j).id ∈ but)) := (fun e => e.elim hl0 hm : ¬ ((F j).limit < 0 ∨ (F j).id ∈ but))
          have HMm : Hid ((F j).id ∉ but) := hm
          clear hm hl0
          go_wp2_with fail
          refine (specHas_no B vb but _ _ hbl (IA.out _) HMm.out).mono ?_
          rintro e w2 ⟨rfl, hw2⟩
          have X2 : Hid (Box w2 w1.heap.size (F j)) := by rw [hw2]; exact Box.new w1 (F j) 33
          have F2 : Hid (Fo w2 (some ⟨b, o, none⟩) n F) := by rw [hw2]; exact FA.out _
          have B2 : Hid (Below w0.heap.size w0 w2) := by rw [hw2]; exact BA.out _
          obtain ⟨⟨x0, x1, x2, x3, x4, x5, x6, x7⟩, _, hsz⟩ := X2.out
          simp only [Nat.zero_add] at x2
          have hov : ∀ v q, (over w2 v).cell? ⟨w1.heap.size, q, none⟩ = w2.cell? ⟨w1.heap.size, q, none⟩ := fun v q => (below_over w2 v).cell (p := ⟨w1.heap.size, q, none⟩) hsz
          clear hw2 x1 x3 x4 x5 x6 x7 X2
          go_wp2
          refine wp_region_over (by kernel_rfl) (by kernel_rfl) ?_
          repeat (go_big_quiet_step ((first | (go_at_call 44; exact Calls.over_of (specSum _ n c F j _ (F2.out.below (below_over _ _)) HR.out hj)))))
          refine wpQuiet_nil ?_
          intro w3 hw'
          obtain ⟨vq, hw''⟩ := hw'
          have B3' : Hid (Below w0.heap.size w0 w3) := by rw [hw'']; exact B2.out.trans ((below_over w2 vq).mono B2.out.size)
          clear hw''
          cases z with
          | none =>
            have E : Hid (some (sumAll F n j + (F j).limit) = (l.take (k + 1)).foldl (step F n but) none) := (by rw [HTk.out, step_first HPl.out hnot.out] : some (sumAll F n j + (F j).limit) = (l.take (k + 1)).foldl (step F n but) none)
            simp only [Option.isSome_none, Option.getD_none]
            go_wp2
            go_roundw
            case rel => exact ⟨k + 1, some (sumAll F n j + (F j).limit), by omega, by go_num, by simp only [Option.getD_some], rfl, E, B3'⟩
            case measure => simp [intOf]; omega
          | some q =>
            simp only [Option.isSome_some, Option.getD_some]
            by_cases hq : sumAll F n j + (F j).limit < q
            · have E : Hid (some (sumAll F n j + (F j).limit) = (l.take (k + 1)).foldl (step F n but) none) := (by rw [HTk.out, step_less HPl.out hnot.out hq] : some (sumAll F n j + (F j).limit) = (l.take (k + 1)).foldl (step F n but) none)
              go_wp2
              go_roundw
              case rel => exact ⟨k + 1, some (sumAll F n j + (F j).limit), by omega, by go_num, by simp only [Option.getD_some], rfl, E, B3'⟩
              case measure => simp [intOf]; omega
            · have E : Hid (some q = (l.take (k + 1)).foldl (step F n but) none) := (by rw [HTk.out, step_more HPl.out hnot.out hq] : some q = (l.take (k + 1)).foldl (step F n but) none)
              go_wp2
              go_roundw
              case rel => exact ⟨k + 1, some q, by omega, by go_num, by simp only [Option.getD_some], rfl, E, B3'⟩
              case measure => simp [intOf]; omega
    · have hkn : k = L := by omega
      subst hkn
      have E : Hid (z = room F n but i) := (by rw [HO.out, hz.out, HTE.out] : z = room F n but i)
      go_wp2
      go_ret2
      rw [E.out]
      exact ⟨rfl, hBw.out⟩
end Go.Proofs.Ytleblllofibfkaa
