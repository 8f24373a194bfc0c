/- What the specification does when an account is opened. Conditions: the accounts lie in memory of the call's own and are a right forest. -/
import Derived.Test.YtleblllofibfkaaClose
import Derived.Deep.DeepCutAuto
namespace Go.Proofs.Ytleblllofibfkaa
open Go.RowKit
set_option maxRecDepth 8000

/-- How many accounts stand ahead of an id. -/
def rankL (L : List Acc) (i : Int) : Nat := (L.takeWhile (fun a => decide (a.id < i))).length
theorem rank_eq : ∀ (L : List Acc) (i : Int) (k : Nat), k ≤ L.length → (∀ j, j < k → (FL L j).id < i) → (k < L.length → ¬ (FL L k).id < i) → rankL L i = k
  | [], i, k, hk, _, _ => by simp at hk; subst hk; rfl
  | x :: L, i, 0, _, _, h => by
    have h0 := h (by simp)
    have e : FL (x :: L) 0 = x := rfl
    rw [e] at h0
    simp [rankL, h0]
  | x :: L, i, k + 1, hk, hlo, hhi => by
    have h0 : x.id < i := hlo 0 (by omega)
    have ih := rank_eq L i k (by simpa using hk) (fun j hj => by have := hlo (j + 1) (by omega); simpa [FL, List.getD] using this) (fun hl => by have := hhi (by simpa using hl); simpa [FL, List.getD] using this)
    unfold rankL at ih ⊢
    simp [h0, ih]
open Classical in
/-- What opening comes to. -/
noncomputable def openS (L : List Acc) (i t m r : Int) : Int × List Acc :=
  if (place (FL L) L.length i).isSome = true then (4, L) else if t ≠ 0 ∧ place (FL L) L.length t = none then (3, L) else
    (0, L.take (rankL L i) ++ (⟨i, t, m, r, -1, false, 0, 0⟩ : Acc) :: L.drop (rankL L i))

theorem AL.fo_take {w : World} {B g c : Nat} {L : List Acc} (h : AL w B (.slice (some ⟨g, 0, none⟩) L.length c) L) {k : Nat} (hk : k ≤ L.length) (hl : L.length ≤ 1048576) : Fo w (some ⟨g, 0, none⟩) k (FL (L.take k)) := by
  refine ⟨by omega, ?_⟩
  by_cases h0 : k = 0
  · exact Or.inl h0
  · refine Or.inr ⟨g, 0, rfl, h.block.2, fun j hj => ?_⟩
    have e : FL (L.take k) j = FL L j := by
      rw [FL_lt (by simp; omega), FL_lt (show j < L.length by omega)]
      simp
    rw [e]
    simpa using h.acc (show j < L.length by omega)
theorem Box.grown {w w' : World} {R : Nat} {x : Acc} {row : Option Nat} (h : Box w R x) (hg : w.grownBy w' row) (hne : row ≠ some R) : Box w' R x := by
  have hb : w'.heap[R]? = w.heap[R]? := hg.block R h.2.2 (fun e => hne e.symm)
  refine ⟨h.1.of_cells (fun q => World.cell?_of_block hb), fun o => ?_, Nat.lt_of_lt_of_le h.2.2 hg.size⟩
  have := h.2.1 o
  unfold World.frozen? at this ⊢
  simp only [hb]
  exact this
theorem box8 {w : World} {R : Nat} {x : Acc} (h : Box w R x) : w.cell? ⟨R, 0, none⟩ = some (.int .i64 x.id) ∧ w.cell? ⟨R, 1, none⟩ = some (.int .i64 x.up) ∧ w.cell? ⟨R, 2, none⟩ = some (.int .i64 x.limit) ∧ w.cell? ⟨R, 3, none⟩ = some (.int .i64 x.rate) ∧
    w.cell? ⟨R, 4, none⟩ = some (.int .i64 x.target) ∧ w.cell? ⟨R, 5, none⟩ = some (.bool x.frozen) ∧ w.cell? ⟨R, 6, none⟩ = some (.int .i64 x.balance) ∧ w.cell? ⟨R, 7, none⟩ = some (.int .i64 x.carry) := by
  have := h.1
  unfold AccAt at this
  simpa only [Nat.zero_add] using this
theorem news_box {w : World} {R : Nat} {x : Acc} (h : Box w R x) : ∀ j u, (accCells x)[j]? = some u → w.cell? ((⟨R, 0, none⟩ : Addr).add j) = some u := by
  obtain ⟨c0, c1, c2, c3, c4, c5, c6, c7⟩ := box8 h
  intro j u hj
  have hj8 : j < 8 := by
    by_cases e : j < 8
    · exact e
    · rw [List.getElem?_eq_none (by simp [accCells]; omega)] at hj; cases hj
  have hcase : j = 0 ∨ j = 1 ∨ j = 2 ∨ j = 3 ∨ j = 4 ∨ j = 5 ∨ j = 6 ∨ j = 7 := by omega
  rcases hcase with e | e | e | e | e | e | e | e <;> subst e <;> simp [accCells] at hj <;> subst hj <;> simp [Addr.add, go_sem, *]
/-- What an account that is appended comes to. -/
theorem one_more {B V0 : Nat} {w V wx w3 : World} {k : Nat} {L : List Acc} {x : Acc} {v2 v3 : Value} (hV : V0 = V.heap.size) (hB : B ≤ V0) (BV : Below B w V) (h2 : Below V0 V wx) (hA : AL wx V0 v2 (L.take k)) (hown : w3.ownsRow V0 33 8 v3 ((L.take k).length + 1) ((L.take k).flatMap accCells ++ accCells x)) (hgrow : wx.grownBy w3 v2.ownBlock) :
    AL w3 B v3 (L.take k ++ [x]) ∧ (∀ q, v3.ownBlock = some q → V.heap.size ≤ q) ∧ Below B w w3 ∧ Below V.heap.size V w3 := by
  subst hV
  have a3 : AL w3 V.heap.size v3 (L.take k ++ [x]) := by
    unfold AL
    rw [List.flatMap_append, List.length_append]
    simpa using hown
  have hlt := World.ownsRow.lt hA
  refine ⟨a3.mono hB, fun q hq => (World.ownsRow.lt a3 q hq).1, ?_, ?_⟩
  · exact (BV.trans (h2.mono hB)).grown hgrow (Nat.le_trans hB h2.size) (fun q hq => Nat.le_trans hB (hlt q hq).1)
  · exact h2.grown hgrow h2.size (fun q hq => (hlt q hq).1)

set_option maxHeartbeats 2000000 in
theorem specOpen (B g c : Nat) (L : List Acc) (i t m r : Int) (w : World) (h : AL w B (.slice (some ⟨g, 0, none⟩) L.length c) L) (hBw : B ≤ w.heap.size) (hn : L.length ≤ 12) :
    Calls Try.prog 62 #[.slice (some ⟨g, 0, none⟩) L.length c, .agg #[.int .i64 1, .int .i64 i, .int .i64 t, .int .i64 m, .int .i64 r]] w fun e w' => Out (openS L i t m r) B w e w' := by
  have H : Hid (AL w B (.slice (some ⟨g, 0, none⟩) L.length c) L) := h
  obtain ⟨hBg, hgz⟩ := h.block
  have HF : Hid (Fo w (some ⟨g, 0, none⟩) L.length (FL L)) := h.kept_fo (by omega)
  clear h
  cases hpi : place (FL L) L.length i with
  | some q =>
    have E : Hid (openS L i t m r = (4, L)) := (by unfold openS; rw [hpi]; rfl : openS L i t m r = (4, L))
    have P : Hid (placeI (FL L) L.length i = (q : Int)) := placeI_some hpi
    clear hpi
    go_enter Try.func62, Try.ntmps62
    go_wp2_with fail
    refine (specAt _ L.length c (FL L) i _ (HF.out.alloc _)).mono ?_
    rintro e w0 ⟨rfl, hw0⟩
    subst hw0
    rw [P.out]
    go_wp2
    go_ret2
    rw [E.out]
    exact ⟨_, rfl, World.ownsRow.alloc H.out _, (Below.refl _ _).alloc hBw _⟩
  | none =>
    have P : Hid (placeI (FL L) L.length i = -1) := placeI_none hpi
    by_cases hno : t ≠ 0 ∧ place (FL L) L.length t = none
    · have E : Hid (openS L i t m r = (3, L)) := (by unfold openS; rw [hpi, if_neg (by simp), if_pos hno] : openS L i t m r = (3, L))
      have htb : (t != 0) = true := by simp [hno.1]
      have P2 : Hid (placeI (FL L) L.length t = -1) := placeI_none hno.2
      clear hpi hno
      go_enter Try.func62, Try.ntmps62
      go_wp2_with fail
      refine (specAt _ L.length c (FL L) i _ (HF.out.alloc _)).mono ?_
      rintro e w0 ⟨rfl, hw0⟩
      subst hw0
      rw [P.out]
      go_wp2_with fail
      refine (specAt _ L.length c (FL L) t _ (HF.out.alloc _)).mono ?_
      rintro e w0 ⟨rfl, hw0⟩
      subst hw0
      rw [P2.out]
      go_wp2
      go_ret2
      rw [E.out]
      exact ⟨_, rfl, World.ownsRow.alloc H.out _, (Below.refl _ _).alloc hBw _⟩
    · have E : Hid (openS L i t m r = (0, L.take (rankL L i) ++ (⟨i, t, m, r, -1, false, 0, 0⟩ : Acc) :: L.drop (rankL L i))) := (by unfold openS; rw [hpi, if_neg (by simp), if_neg hno] : openS L i t m r = (0, L.take (rankL L i) ++ (⟨i, t, m, r, -1, false, 0, 0⟩ : Acc) :: L.drop (rankL L i)))
      have HT : Hid (t = 0 ∨ t ≠ 0 ∧ ∃ q : Nat, placeI (FL L) L.length t = (q : Int)) := by
        by_cases ht : t = 0
        · exact Or.inl ht
        · refine Or.inr ⟨ht, ?_⟩
          cases hq : place (FL L) L.length t with
          | none => exact absurd ⟨ht, hq⟩ hno
          | some q => exact ⟨q, placeI_some hq⟩
      clear hpi hno
      go_enter Try.func62, Try.ntmps62
      go_wp2_with fail
      refine (specAt _ L.length c (FL L) i _ (HF.out.alloc _)).mono ?_
      rintro e w0 ⟨rfl, hw0⟩
      subst hw0
      rw [P.out]
      go_upto_region 3 with fail
      go_cut [24] (fun s24 wx => s24 = .bool false ∧ wx = w.alloc (.cells #[.int .i64 1, .int .i64 i, .int .i64 t, .int .i64 m, .int .i64 r] 68))
      case first =>
        rcases HT.out with ht | ⟨ht, q, hq⟩
        · have htb : (t != 0) = false := by simp [ht]
          clear ht
          go_wp2
          go_meet
          exact ⟨rfl, rfl⟩
        · have htb : (t != 0) = true := by simp [ht]
          have PQ : Hid (placeI (FL L) L.length t = (q : Int)) := hq
          clear ht hq
          go_wp2_with fail
          refine (specAt _ L.length c (FL L) t _ (HF.out.alloc _)).mono ?_
          rintro e w0 ⟨rfl, hw0⟩
          subst hw0
          rw [PQ.out]
          go_wp2
          go_meet
          exact ⟨rfl, rfl⟩
      case rest =>
        obtain ⟨rfl, rfl⟩ := hcut
        obtain ⟨W, hW⟩ : ∃ W, W = (w.alloc (.cells #[.int .i64 1, .int .i64 i, .int .i64 t, .int .i64 m, .int .i64 r] 68)).alloc (.cells #[.int .i64 i, .int .i64 t, .int .i64 m, .int .i64 r, .int .i64 (-1), .bool false, .int .i64 0, .int .i64 0] 33) := ⟨_, rfl⟩
        have AW : Hid (AL W B (.slice (some ⟨g, 0, none⟩) L.length c) L) := by rw [hW]; exact World.ownsRow.alloc (World.ownsRow.alloc H.out _) _
        have OW : Hid (OpBox W w.heap.size 1 i t m r) := by rw [hW]; exact (OpBox.new w 1 i t m r 68).below ((Below.refl _ _).alloc (Nat.le_refl _) _)
        have XW : Hid (Box W (w.heap.size + 1) ⟨i, t, m, r, -1, false, 0, 0⟩) := by
          have := Box.new (w.alloc (.cells #[.int .i64 1, .int .i64 i, .int .i64 t, .int .i64 m, .int .i64 r] 68)) ⟨i, t, m, r, -1, false, 0, 0⟩ 33
          have e : (w.alloc (.cells #[.int .i64 1, .int .i64 i, .int .i64 t, .int .i64 m, .int .i64 r] 68)).heap.size = w.heap.size + 1 := by simp
          rw [e] at this
          rw [hW]
          exact this
        have BW : Hid (Below B w W) := by rw [hW]; exact ((Below.refl _ _).alloc hBw _).alloc (by simp; omega) _
        obtain ⟨o0, o1, o2, o3, o4, oz⟩ := OW.out
        go_wp2
        rw [← hW]
        clear hW
        go_loopw [7] (fun q wr => ∃ (k d : Nat), k ≤ L.length ∧ q = .int .i64 k ∧ wr = W.drewN d ∧ Hid (∀ j, j < k → (FL L j).id < i)) (fun q _ => L.length - (intOf q).toNat)
        case atStart => exact ⟨0, 0, Nat.zero_le _, rfl, rfl, fun j hj => absurd hj (Nat.not_lt_zero _)⟩
        case round =>
          obtain ⟨k, d, hk, rfl, rfl, hlo⟩ := hrel
          by_cases hlt : k < L.length
          · have hA := AW.out.acc hlt
            have c0 := hA.1
            have hk0 : (k : Int) < (L.length : Int) := by omega
            clear hA
            by_cases hid : (FL L k).id < i
            · have HN : Hid (∀ j, j < k + 1 → (FL L j).id < i) := fun j hj => by
                by_cases e : j = k
                · rw [e]; exact hid
                · exact hlo.out j (by omega)
              go_wp2
              go_quiet (fail)
              go_wp2
              go_roundw
              case rel => exact ⟨k + 1, _, by omega, by go_num, rfl, HN⟩
              case measure => simp [intOf]; omega
            · have HK : Hid (rankL L i = k) := rank_eq L i k hk hlo.out (fun _ => hid)
              go_wp2
              go_quiet (fail)
              go_wp2_with fail
              generalize hV : (W.drewN d).drewN nq = V
              have AV : Hid (AL V B (.slice (some ⟨g, 0, none⟩) L.length c) L) := by rw [← hV]; exact AW.out
              have XV : Hid (Box V (w.heap.size + 1) ⟨i, t, m, r, -1, false, 0, 0⟩) := by rw [← hV]; exact XW.out
              have BV : Hid (Below B w V) := by rw [← hV]; exact ⟨BW.out.os, BW.out.tape, BW.out.output, BW.out.size, BW.out.block⟩
              clear hV
              go_cut [8] (fun s8 wx => Hid (AL wx B s8 (L.take k ++ [(⟨i, t, m, r, -1, false, 0, 0⟩ : Acc)]) ∧ (∀ q, s8.ownBlock = some q → V.heap.size ≤ q) ∧ Below B w wx ∧ Below V.heap.size V wx))
              case first =>
                obtain ⟨i0, hi, hz0, hz1, hz2⟩ := info_parts info33
                obtain ⟨hc1, hc2⟩ := AV.out.cap
                unfold maxLen at hc2
                have b0 : (0 : Int) ≤ (k : Int) := by omega
                have b1 : (k : Int) ≤ (c : Int) := by omega
                have HL : Hid (k = (L.take k).length) := (by simp; omega : k = (L.take k).length)
                have HFv : Hid (Fo V (some ⟨g, 0, none⟩) k (FL (L.take k))) := AV.out.fo_take hk (by omega)
                have HFa : Hid (Fo V.drew (some ⟨g, 0, none⟩) k (FL (L.take k))) := HFv.out
                have HFb : Hid (Fo (V.drew.alloc (.cells #[.int .i64 i, .int .i64 t, .int .i64 m, .int .i64 r, .int .i64 (-1), .bool false, .int .i64 0, .int .i64 0] 33)) (some ⟨g, 0, none⟩) k (FL (L.take k))) := Fo.alloc (w := V.drew) HFv.out _
                have hBV : B ≤ V.heap.size := Nat.le_trans hBw BV.out.size
                have BD : Hid (Below V.heap.size V V.drew) := ⟨rfl, rfl, rfl, Nat.le_refl _, fun _ _ => rfl⟩
                have hR : w.heap.size + 1 < V.heap.size := XV.out.2.2
                have hs1 : Hid (V.heap.size ≤ (V.drew.alloc (.cells #[.int .i64 i, .int .i64 t, .int .i64 m, .int .i64 r, .int .i64 (-1), .bool false, .int .i64 0, .int .i64 0] 33)).heap.size) := (by rw [World.size_alloc]; exact Nat.le_succ _ : V.heap.size ≤ (V.drew.alloc (.cells #[.int .i64 i, .int .i64 t, .int .i64 m, .int .i64 r, .int .i64 (-1), .bool false, .int .i64 0, .int .i64 0] 33)).heap.size)
                have NB : Hid (Box (V.drew.alloc (.cells #[.int .i64 i, .int .i64 t, .int .i64 m, .int .i64 r, .int .i64 (-1), .bool false, .int .i64 0, .int .i64 0] 33)) V.heap.size ⟨i, t, m, r, -1, false, 0, 0⟩) := Box.new V.drew ⟨i, t, m, r, -1, false, 0, 0⟩ 33
                have BA : Hid (Below V.heap.size V.drew (V.drew.alloc (.cells #[.int .i64 i, .int .i64 t, .int .i64 m, .int .i64 r, .int .i64 (-1), .bool false, .int .i64 0, .int .i64 0] 33))) := (Below.refl V.heap.size V.drew).alloc (Nat.le_refl V.heap.size) _
                have h63 : Hid ((L.take k).length + 1 ≤ maxLen) := (by unfold maxLen; simp; omega : (L.take k).length + 1 ≤ maxLen)
                have hby : Hid (((L.take k).length + 1) * 64 ≤ 140737488355328) := (by simp; omega : ((L.take k).length + 1) * 64 ≤ 140737488355328)
                have h1c : Hid (∀ u ∈ accCells ⟨i, t, m, r, -1, false, 0, 0⟩, u.oneCell' = true) := by
                  intro u hu
                  simp only [accCells, List.mem_cons, List.not_mem_nil, or_false] at hu
                  rcases hu with e | e | e | e | e | e | e | e <;> subst e <;> rfl
                go_region_held3 (fun w' => w'.cell? ⟨w.heap.size + 1, 0, none⟩ = some (.int .i64 i) ∧ w'.cell? ⟨w.heap.size + 1, 1, none⟩ = some (.int .i64 t) ∧ w'.cell? ⟨w.heap.size + 1, 2, none⟩ = some (.int .i64 m) ∧ w'.cell? ⟨w.heap.size + 1, 3, none⟩ = some (.int .i64 r) ∧ w'.cell? ⟨w.heap.size + 1, 4, none⟩ = some (.int .i64 (-1)) ∧ w'.cell? ⟨w.heap.size + 1, 5, none⟩ = some (.bool false) ∧ w'.cell? ⟨w.heap.size + 1, 6, none⟩ = some (.int .i64 0) ∧ w'.cell? ⟨w.heap.size + 1, 7, none⟩ = some (.int .i64 0))
                  (first | exact box8 Y3.out | exact box8 XV.out | exact box8 (Box.below (w := V.drew) XV.out B2) | exact box8 ((Box.below (w := V.drew) XV.out ((Below.refl _ _).alloc (Nat.le_refl _) _)).below B2) | exact box8 (Box.below (w := V.drew) XV.out ((Below.refl _ _).alloc (Nat.le_refl _) _)) | exact box8 ((Box.below (w := V.drew) XV.out B2).below ((Below.refl _ _).alloc (Nat.le_refl _) _)))
                  (first
                    | (go_at_call 42; refine (specCopy (some ⟨g, 0, none⟩) k c (L.take k) V.drew HL.out HFa.out).mono ?_; rintro e w2 ⟨v2, rfl, A2, B2⟩)
                    | (go_at_call 42; refine (specCopy (some ⟨g, 0, none⟩) k c (L.take k) (V.drew.alloc (.cells #[.int .i64 i, .int .i64 t, .int .i64 m, .int .i64 r, .int .i64 (-1), .bool false, .int .i64 0, .int .i64 0] 33)) HL.out HFb.out).mono ?_; rintro e w2 ⟨v2, rfl, A2, B2⟩)
                    | (refine step_append_own _ (by rfl) _ _ 24 (by rfl) V.heap.size 33 i0 _ 8 64 Try.underlying24 hi hz0 hz1 hz2 rfl (by decide) _ _ _ (by rfl) (World.ownsRow.alloc A2 (.cells #[.int .i64 i, .int .i64 t, .int .i64 m, .int .i64 r, .int .i64 (-1), .bool false, .int .i64 0, .int .i64 0] 33)) ⟨w2.heap.size, 0, none⟩ 1 1 (accCells ⟨i, t, m, r, -1, false, 0, 0⟩) (by rfl) rfl (news_box (Box.new w2 ⟨i, t, m, r, -1, false, 0, 0⟩ 33)) h1c.out h63.out hby.out (Nat.le_trans B2.size (by simp)) ?_; intro v3 w3 hown hgrow; have F3 := one_more rfl hBV BV.out (BD.out.trans (B2.alloc B2.size _)) (World.ownsRow.alloc A2 (.cells #[.int .i64 i, .int .i64 t, .int .i64 m, .int .i64 r, .int .i64 (-1), .bool false, .int .i64 0, .int .i64 0] 33)) hown hgrow; have Y3 : Hid (Box w3 (w.heap.size + 1) ⟨i, t, m, r, -1, false, 0, 0⟩) := Box.grown ((Box.below (w := V.drew) XV.out B2).below ((Below.refl _ _).alloc (Nat.le_refl _) _)) hgrow (fun e => by have := (World.ownsRow.lt A2 _ e).1; have : w.heap.size + 1 < V.heap.size := hR; simp at *; omega))
                    | (refine step_append_own _ (by rfl) _ _ 24 (by rfl) V.heap.size 33 i0 _ 8 64 Try.underlying24 hi hz0 hz1 hz2 rfl (by decide) _ _ _ (by rfl) (AL.mono A2 hs1.out) ⟨V.heap.size, 0, none⟩ 1 1 (accCells ⟨i, t, m, r, -1, false, 0, 0⟩) (by rfl) rfl (news_box ((NB.out).below B2)) h1c.out h63.out hby.out (Nat.le_trans hs1.out B2.size) ?_; intro v3 w3 hown hgrow; have F3 := one_more rfl hBV BV.out (BD.out.trans ((BA.out).trans (B2.mono hs1.out))) (AL.mono A2 hs1.out) hown hgrow; have Y3 : Hid (Box w3 (w.heap.size + 1) ⟨i, t, m, r, -1, false, 0, 0⟩) := Box.grown ((Box.below (w := V.drew) XV.out ((Below.refl _ _).alloc (Nat.le_refl _) _)).below B2) hgrow (fun e => by have := (World.ownsRow.lt A2 _ e).1; have : w.heap.size + 1 < V.heap.size := hR; simp at *; omega)))
                all_goals (go_wp2_with fail; go_meet; exact F3)
              case rest =>
                obtain ⟨A8, hq8, B8, BV8⟩ := hcut.out
                have A8' : Hid (AL wc B _ (L.take k ++ [(⟨i, t, m, r, -1, false, 0, 0⟩ : Acc)])) := A8
                have B8' : Hid (Below B w wc) := B8
                have AF : Hid (AL wc B (.slice (some ⟨g, 0, none⟩) L.length c) L) := AV.out.kept BV8
                clear hcut B8 BV8
                obtain ⟨a8, c8, h8⟩ := A8.len
                subst h8
                have Q8 : Hid (∀ n q, (Value.slice a8 n c8).ownBlock = some q → V.heap.size ≤ q) := fun n q h => hq8 q (by cases a8 <;> exact h)
                clear A8 hq8
                obtain ⟨i0, hi, hz0, hz1, hz2⟩ := info_parts info33
                obtain ⟨hc1, hc2⟩ := AF.out.cap
                unfold maxLen at hc2
                have hBwc : B ≤ wc.heap.size := Nat.le_trans hBw B8'.out.size
                have hl8 : (L.take k ++ [(⟨i, t, m, r, -1, false, 0, 0⟩ : Acc)]).length = k + 1 := by simp; omega
                have hDl : Hid (((L.drop k).flatMap accCells).length = (L.length - k) * 8) := (by rw [flat_len]; simp : ((L.drop k).flatMap accCells).length = (L.length - k) * 8)
                have h63 : Hid ((L.take k ++ [(⟨i, t, m, r, -1, false, 0, 0⟩ : Acc)]).length + (L.length - k) ≤ maxLen) := (by unfold maxLen; omega : (L.take k ++ [(⟨i, t, m, r, -1, false, 0, 0⟩ : Acc)]).length + (L.length - k) ≤ maxLen)
                have hby : Hid (((L.take k ++ [(⟨i, t, m, r, -1, false, 0, 0⟩ : Acc)]).length + (L.length - k)) * 64 ≤ 140737488355328) := (by omega : ((L.take k ++ [(⟨i, t, m, r, -1, false, 0, 0⟩ : Acc)]).length + (L.length - k)) * 64 ≤ 140737488355328)
                have E' : Hid (openS L i t m r = (0, L.take k ++ [(⟨i, t, m, r, -1, false, 0, 0⟩ : Acc)] ++ L.drop k)) := (by rw [E.out, HK.out]; simp : openS L i t m r = (0, L.take k ++ [(⟨i, t, m, r, -1, false, 0, 0⟩ : Acc)] ++ L.drop k))
                have b0 : (0 : Int) ≤ (k : Int) := by omega
                have b2 : (k : Int) ≤ (L.length : Int) := by omega
                by_cases hck : c = k
                · have hdrop : Hid (∀ (x : World) j u, ((L.drop k).flatMap accCells)[j]? = some u → x.cell? ((⟨g, 0, none⟩ : Addr).add j) = some u) := fun x j u hj => by
                    rw [List.drop_eq_nil_of_le (by omega)] at hj
                    simp at hj
                  subst hck
                  clear hc1 hc2
                  go_wp2_with (at_builtin; refine wpList_append_own _ rfl _ _ 24 rfl B 33 i0 _ 8 64 Try.underlying24 hi hz0 hz1 hz2 rfl (by decide) _ _ _ rfl A8'.out ⟨g, 0, none⟩ (L.length - c) _ ((L.drop c).flatMap accCells) rfl hDl.out (hdrop.out _) (flat_one _) h63.out hby.out hBwc ?_)
                  intro v3 w3 hown hgrow _
                  have A3 : Hid (AL w3 B v3 (L.take c ++ [(⟨i, t, m, r, -1, false, 0, 0⟩ : Acc)] ++ L.drop c)) := by
                    show AL w3 B v3 (L.take c ++ [(⟨i, t, m, r, -1, false, 0, 0⟩ : Acc)] ++ L.drop c)
                    have e1 : (L.take c ++ [(⟨i, t, m, r, -1, false, 0, 0⟩ : Acc)] ++ L.drop c).length = c + 1 + (L.length - c) := by simp; omega
                    have e2 : (L.take c ++ [(⟨i, t, m, r, -1, false, 0, 0⟩ : Acc)] ++ L.drop c).flatMap accCells = (L.take c).flatMap accCells ++ (accCells ⟨i, t, m, r, -1, false, 0, 0⟩ ++ (L.drop c).flatMap accCells) := by simp
                    unfold AL
                    rw [e1, e2]
                    simpa using hown
                  have B3 : Hid (Below B w w3) := B8'.out.grown hgrow hBwc (fun q hq => Nat.le_trans hBw (Nat.le_trans BV.out.size (Q8.out _ q hq)))
                  clear hown hgrow
                  obtain ⟨a3, c3, h3⟩ := A3.out.len
                  subst h3
                  go_wp2
                  go_ret2
                  rw [E'.out]
                  exact ⟨_, rfl, A3.out, B3.out⟩
                · have b1 : (k : Int) ≤ (c : Int) := by omega
                  go_wp2_with (at_builtin; refine wpList_append_own _ rfl _ _ 24 rfl B 33 i0 _ 8 64 Try.underlying24 hi hz0 hz1 hz2 rfl (by decide) _ _ _ rfl A8'.out ⟨g, k * 8, none⟩ (L.length - k) (c - k) ((L.drop k).flatMap accCells) rfl hDl.out (AF.out.news k) (flat_one _) h63.out hby.out hBwc ?_)
                  intro v3 w3 hown hgrow _
                  have A3 : Hid (AL w3 B v3 (L.take k ++ [(⟨i, t, m, r, -1, false, 0, 0⟩ : Acc)] ++ L.drop k)) := by
                    show AL w3 B v3 (L.take k ++ [(⟨i, t, m, r, -1, false, 0, 0⟩ : Acc)] ++ L.drop k)
                    have e1 : (L.take k ++ [(⟨i, t, m, r, -1, false, 0, 0⟩ : Acc)] ++ L.drop k).length = k + 1 + (L.length - k) := by simp; omega
                    have e2 : (L.take k ++ [(⟨i, t, m, r, -1, false, 0, 0⟩ : Acc)] ++ L.drop k).flatMap accCells = (L.take k).flatMap accCells ++ (accCells ⟨i, t, m, r, -1, false, 0, 0⟩ ++ (L.drop k).flatMap accCells) := by simp
                    unfold AL
                    rw [e1, e2]
                    exact hown
                  have B3 : Hid (Below B w w3) := B8'.out.grown hgrow hBwc (fun q hq => Nat.le_trans hBw (Nat.le_trans BV.out.size (Q8.out _ q hq)))
                  clear hown hgrow
                  obtain ⟨a3, c3, h3⟩ := A3.out.len
                  subst h3
                  go_wp2
                  go_ret2
                  rw [E'.out]
                  exact ⟨_, rfl, A3.out, B3.out⟩
          · have HK : Hid (rankL L i = k) := rank_eq L i k hk hlo.out (fun h => absurd h hlt)
            go_wp2
            go_quiet (fail)
            go_wp2_with fail
            generalize hV : (W.drewN d).drewN nq = V
            have AV : Hid (AL V B (.slice (some ⟨g, 0, none⟩) L.length c) L) := by rw [← hV]; exact AW.out
            have XV : Hid (Box V (w.heap.size + 1) ⟨i, t, m, r, -1, false, 0, 0⟩) := by rw [← hV]; exact XW.out
            have BV : Hid (Below B w V) := by rw [← hV]; exact ⟨BW.out.os, BW.out.tape, BW.out.output, BW.out.size, BW.out.block⟩
            clear hV
            go_cut [8] (fun s8 wx => Hid (AL wx B s8 (L.take k ++ [(⟨i, t, m, r, -1, false, 0, 0⟩ : Acc)]) ∧ (∀ q, s8.ownBlock = some q → V.heap.size ≤ q) ∧ Below B w wx ∧ Below V.heap.size V wx))
            case first =>
              obtain ⟨i0, hi, hz0, hz1, hz2⟩ := info_parts info33
              obtain ⟨hc1, hc2⟩ := AV.out.cap
              unfold maxLen at hc2
              have b0 : (0 : Int) ≤ (k : Int) := by omega
              have b1 : (k : Int) ≤ (c : Int) := by omega
              have HL : Hid (k = (L.take k).length) := (by simp; omega : k = (L.take k).length)
              have HFv : Hid (Fo V (some ⟨g, 0, none⟩) k (FL (L.take k))) := AV.out.fo_take hk (by omega)
              have HFa : Hid (Fo V.drew (some ⟨g, 0, none⟩) k (FL (L.take k))) := HFv.out
              have HFb : Hid (Fo (V.drew.alloc (.cells #[.int .i64 i, .int .i64 t, .int .i64 m, .int .i64 r, .int .i64 (-1), .bool false, .int .i64 0, .int .i64 0] 33)) (some ⟨g, 0, none⟩) k (FL (L.take k))) := Fo.alloc (w := V.drew) HFv.out _
              have hBV : B ≤ V.heap.size := Nat.le_trans hBw BV.out.size
              have BD : Hid (Below V.heap.size V V.drew) := ⟨rfl, rfl, rfl, Nat.le_refl _, fun _ _ => rfl⟩
              have hR : w.heap.size + 1 < V.heap.size := XV.out.2.2
              have hs1 : Hid (V.heap.size ≤ (V.drew.alloc (.cells #[.int .i64 i, .int .i64 t, .int .i64 m, .int .i64 r, .int .i64 (-1), .bool false, .int .i64 0, .int .i64 0] 33)).heap.size) := (by rw [World.size_alloc]; exact Nat.le_succ _ : V.heap.size ≤ (V.drew.alloc (.cells #[.int .i64 i, .int .i64 t, .int .i64 m, .int .i64 r, .int .i64 (-1), .bool false, .int .i64 0, .int .i64 0] 33)).heap.size)
              have NB : Hid (Box (V.drew.alloc (.cells #[.int .i64 i, .int .i64 t, .int .i64 m, .int .i64 r, .int .i64 (-1), .bool false, .int .i64 0, .int .i64 0] 33)) V.heap.size ⟨i, t, m, r, -1, false, 0, 0⟩) := Box.new V.drew ⟨i, t, m, r, -1, false, 0, 0⟩ 33
              have BA : Hid (Below V.heap.size V.drew (V.drew.alloc (.cells #[.int .i64 i, .int .i64 t, .int .i64 m, .int .i64 r, .int .i64 (-1), .bool false, .int .i64 0, .int .i64 0] 33))) := (Below.refl V.heap.size V.drew).alloc (Nat.le_refl V.heap.size) _
              have h63 : Hid ((L.take k).length + 1 ≤ maxLen) := (by unfold maxLen; simp; omega : (L.take k).length + 1 ≤ maxLen)
              have hby : Hid (((L.take k).length + 1) * 64 ≤ 140737488355328) := (by simp; omega : ((L.take k).length + 1) * 64 ≤ 140737488355328)
              have h1c : Hid (∀ u ∈ accCells ⟨i, t, m, r, -1, false, 0, 0⟩, u.oneCell' = true) := by
                intro u hu
                simp only [accCells, List.mem_cons, List.not_mem_nil, or_false] at hu
                rcases hu with e | e | e | e | e | e | e | e <;> subst e <;> rfl
              go_region_held3 (fun w' => w'.cell? ⟨w.heap.size + 1, 0, none⟩ = some (.int .i64 i) ∧ w'.cell? ⟨w.heap.size + 1, 1, none⟩ = some (.int .i64 t) ∧ w'.cell? ⟨w.heap.size + 1, 2, none⟩ = some (.int .i64 m) ∧ w'.cell? ⟨w.heap.size + 1, 3, none⟩ = some (.int .i64 r) ∧ w'.cell? ⟨w.heap.size + 1, 4, none⟩ = some (.int .i64 (-1)) ∧ w'.cell? ⟨w.heap.size + 1, 5, none⟩ = some (.bool false) ∧ w'.cell? ⟨w.heap.size + 1, 6, none⟩ = some (.int .i64 0) ∧ w'.cell? ⟨w.heap.size + 1, 7, none⟩ = some (.int .i64 0))
                (first | exact box8 Y3.out | exact box8 XV.out | exact box8 (Box.below (w := V.drew) XV.out B2) | exact box8 ((Box.below (w := V.drew) XV.out ((Below.refl _ _).alloc (Nat.le_refl _) _)).below B2) | exact box8 (Box.below (w := V.drew) XV.out ((Below.refl _ _).alloc (Nat.le_refl _) _)) | exact box8 ((Box.below (w := V.drew) XV.out B2).below ((Below.refl _ _).alloc (Nat.le_refl _) _)))
                (first
                  | (go_at_call 42; refine (specCopy (some ⟨g, 0, none⟩) k c (L.take k) V.drew HL.out HFa.out).mono ?_; rintro e w2 ⟨v2, rfl, A2, B2⟩)
                  | (go_at_call 42; refine (specCopy (some ⟨g, 0, none⟩) k c (L.take k) (V.drew.alloc (.cells #[.int .i64 i, .int .i64 t, .int .i64 m, .int .i64 r, .int .i64 (-1), .bool false, .int .i64 0, .int .i64 0] 33)) HL.out HFb.out).mono ?_; rintro e w2 ⟨v2, rfl, A2, B2⟩)
                  | (refine step_append_own _ (by rfl) _ _ 24 (by rfl) V.heap.size 33 i0 _ 8 64 Try.underlying24 hi hz0 hz1 hz2 rfl (by decide) _ _ _ (by rfl) (World.ownsRow.alloc A2 (.cells #[.int .i64 i, .int .i64 t, .int .i64 m, .int .i64 r, .int .i64 (-1), .bool false, .int .i64 0, .int .i64 0] 33)) ⟨w2.heap.size, 0, none⟩ 1 1 (accCells ⟨i, t, m, r, -1, false, 0, 0⟩) (by rfl) rfl (news_box (Box.new w2 ⟨i, t, m, r, -1, false, 0, 0⟩ 33)) h1c.out h63.out hby.out (Nat.le_trans B2.size (by simp)) ?_; intro v3 w3 hown hgrow; have F3 := one_more rfl hBV BV.out (BD.out.trans (B2.alloc B2.size _)) (World.ownsRow.alloc A2 (.cells #[.int .i64 i, .int .i64 t, .int .i64 m, .int .i64 r, .int .i64 (-1), .bool false, .int .i64 0, .int .i64 0] 33)) hown hgrow; have Y3 : Hid (Box w3 (w.heap.size + 1) ⟨i, t, m, r, -1, false, 0, 0⟩) := Box.grown ((Box.below (w := V.drew) XV.out B2).below ((Below.refl _ _).alloc (Nat.le_refl _) _)) hgrow (fun e => by have := (World.ownsRow.lt A2 _ e).1; have : w.heap.size + 1 < V.heap.size := hR; simp at *; omega))
                  | (refine step_append_own _ (by rfl) _ _ 24 (by rfl) V.heap.size 33 i0 _ 8 64 Try.underlying24 hi hz0 hz1 hz2 rfl (by decide) _ _ _ (by rfl) (AL.mono A2 hs1.out) ⟨V.heap.size, 0, none⟩ 1 1 (accCells ⟨i, t, m, r, -1, false, 0, 0⟩) (by rfl) rfl (news_box ((NB.out).below B2)) h1c.out h63.out hby.out (Nat.le_trans hs1.out B2.size) ?_; intro v3 w3 hown hgrow; have F3 := one_more rfl hBV BV.out (BD.out.trans ((BA.out).trans (B2.mono hs1.out))) (AL.mono A2 hs1.out) hown hgrow; have Y3 : Hid (Box w3 (w.heap.size + 1) ⟨i, t, m, r, -1, false, 0, 0⟩) := Box.grown ((Box.below (w := V.drew) XV.out ((Below.refl _ _).alloc (Nat.le_refl _) _)).below B2) hgrow (fun e => by have := (World.ownsRow.lt A2 _ e).1; have : w.heap.size + 1 < V.heap.size := hR; simp at *; omega)))
              all_goals (go_wp2_with fail; go_meet; exact F3)
            case rest =>
              obtain ⟨A8, hq8, B8, BV8⟩ := hcut.out
              have A8' : Hid (AL wc B _ (L.take k ++ [(⟨i, t, m, r, -1, false, 0, 0⟩ : Acc)])) := A8
              have B8' : Hid (Below B w wc) := B8
              have AF : Hid (AL wc B (.slice (some ⟨g, 0, none⟩) L.length c) L) := AV.out.kept BV8
              clear hcut B8 BV8
              obtain ⟨a8, c8, h8⟩ := A8.len
              subst h8
              have Q8 : Hid (∀ n q, (Value.slice a8 n c8).ownBlock = some q → V.heap.size ≤ q) := fun n q h => hq8 q (by cases a8 <;> exact h)
              clear A8 hq8
              obtain ⟨i0, hi, hz0, hz1, hz2⟩ := info_parts info33
              obtain ⟨hc1, hc2⟩ := AF.out.cap
              unfold maxLen at hc2
              have hBwc : B ≤ wc.heap.size := Nat.le_trans hBw B8'.out.size
              have hl8 : (L.take k ++ [(⟨i, t, m, r, -1, false, 0, 0⟩ : Acc)]).length = k + 1 := by simp; omega
              have hDl : Hid (((L.drop k).flatMap accCells).length = (L.length - k) * 8) := (by rw [flat_len]; simp : ((L.drop k).flatMap accCells).length = (L.length - k) * 8)
              have h63 : Hid ((L.take k ++ [(⟨i, t, m, r, -1, false, 0, 0⟩ : Acc)]).length + (L.length - k) ≤ maxLen) := (by unfold maxLen; omega : (L.take k ++ [(⟨i, t, m, r, -1, false, 0, 0⟩ : Acc)]).length + (L.length - k) ≤ maxLen)
              have hby : Hid (((L.take k ++ [(⟨i, t, m, r, -1, false, 0, 0⟩ : Acc)]).length + (L.length - k)) * 64 ≤ 140737488355328) := (by omega : ((L.take k ++ [(⟨i, t, m, r, -1, false, 0, 0⟩ : Acc)]).length + (L.length - k)) * 64 ≤ 140737488355328)
              have E' : Hid (openS L i t m r = (0, L.take k ++ [(⟨i, t, m, r, -1, false, 0, 0⟩ : Acc)] ++ L.drop k)) := (by rw [E.out, HK.out]; simp : openS L i t m r = (0, L.take k ++ [(⟨i, t, m, r, -1, false, 0, 0⟩ : Acc)] ++ L.drop k))
              have b0 : (0 : Int) ≤ (k : Int) := by omega
              have b2 : (k : Int) ≤ (L.length : Int) := by omega
              by_cases hck : c = k
              · have hdrop : Hid (∀ (x : World) j u, ((L.drop k).flatMap accCells)[j]? = some u → x.cell? ((⟨g, 0, none⟩ : Addr).add j) = some u) := fun x j u hj => by
                  rw [List.drop_eq_nil_of_le (by omega)] at hj
                  simp at hj
                subst hck
                clear hc1 hc2
                go_wp2_with (at_builtin; refine wpList_append_own _ rfl _ _ 24 rfl B 33 i0 _ 8 64 Try.underlying24 hi hz0 hz1 hz2 rfl (by decide) _ _ _ rfl A8'.out ⟨g, 0, none⟩ (L.length - c) _ ((L.drop c).flatMap accCells) rfl hDl.out (hdrop.out _) (flat_one _) h63.out hby.out hBwc ?_)
                intro v3 w3 hown hgrow _
                have A3 : Hid (AL w3 B v3 (L.take c ++ [(⟨i, t, m, r, -1, false, 0, 0⟩ : Acc)] ++ L.drop c)) := by
                  show AL w3 B v3 (L.take c ++ [(⟨i, t, m, r, -1, false, 0, 0⟩ : Acc)] ++ L.drop c)
                  have e1 : (L.take c ++ [(⟨i, t, m, r, -1, false, 0, 0⟩ : Acc)] ++ L.drop c).length = c + 1 + (L.length - c) := by simp; omega
                  have e2 : (L.take c ++ [(⟨i, t, m, r, -1, false, 0, 0⟩ : Acc)] ++ L.drop c).flatMap accCells = (L.take c).flatMap accCells ++ (accCells ⟨i, t, m, r, -1, false, 0, 0⟩ ++ (L.drop c).flatMap accCells) := by simp
                  unfold AL
                  rw [e1, e2]
                  simpa using hown
                have B3 : Hid (Below B w w3) := B8'.out.grown hgrow hBwc (fun q hq => Nat.le_trans hBw (Nat.le_trans BV.out.size (Q8.out _ q hq)))
                clear hown hgrow
                obtain ⟨a3, c3, h3⟩ := A3.out.len
                subst h3
                go_wp2
                go_ret2
                rw [E'.out]
                exact ⟨_, rfl, A3.out, B3.out⟩
              · have b1 : (k : Int) ≤ (c : Int) := by omega
                go_wp2_with (at_builtin; refine wpList_append_own _ rfl _ _ 24 rfl B 33 i0 _ 8 64 Try.underlying24 hi hz0 hz1 hz2 rfl (by decide) _ _ _ rfl A8'.out ⟨g, k * 8, none⟩ (L.length - k) (c - k) ((L.drop k).flatMap accCells) rfl hDl.out (AF.out.news k) (flat_one _) h63.out hby.out hBwc ?_)
                intro v3 w3 hown hgrow _
                have A3 : Hid (AL w3 B v3 (L.take k ++ [(⟨i, t, m, r, -1, false, 0, 0⟩ : Acc)] ++ L.drop k)) := by
                  show AL w3 B v3 (L.take k ++ [(⟨i, t, m, r, -1, false, 0, 0⟩ : Acc)] ++ L.drop k)
                  have e1 : (L.take k ++ [(⟨i, t, m, r, -1, false, 0, 0⟩ : Acc)] ++ L.drop k).length = k + 1 + (L.length - k) := by simp; omega
                  have e2 : (L.take k ++ [(⟨i, t, m, r, -1, false, 0, 0⟩ : Acc)] ++ L.drop k).flatMap accCells = (L.take k).flatMap accCells ++ (accCells ⟨i, t, m, r, -1, false, 0, 0⟩ ++ (L.drop k).flatMap accCells) := by simp
                  unfold AL
                  rw [e1, e2]
                  exact hown
                have B3 : Hid (Below B w w3) := B8'.out.grown hgrow hBwc (fun q hq => Nat.le_trans hBw (Nat.le_trans BV.out.size (Q8.out _ q hq)))
                clear hown hgrow
                obtain ⟨a3, c3, h3⟩ := A3.out.len
                subst h3
                go_wp2
                go_ret2
                rw [E'.out]
                exact ⟨_, rfl, A3.out, B3.out⟩
end Go.Proofs.Ytleblllofibfkaa
