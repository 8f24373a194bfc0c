/- Lists of one's own, marked and looked at as the exact laws do. Conditions: at most 1048576 of them. -/
import Derived.Test.YtcalgmhpagpnnaaTdM
namespace Go.Proofs.Ytcalgmhpagpnnaa
open Go.RowKit
set_option maxRecDepth 8000

/-- The record that the laws' marks make of the one at a place. -/
def markFl (k0 : Int) (i : Nat) : Fl := ⟨mt (k0 + 2 * (i : Int)), mt (k0 + 2 * (i : Int) + 1)⟩
/-- The first j bear their marks. -/
def MarkedFl (k0 : Int) (j : Nat) (L : List Fl) : Prop := ∀ i, i < j → FlF L i = markFl k0 i
theorem FlL.put1 {w : World} {B g cap n : Nat} {L : List Fl} (h : FlL w B (.slice (some ⟨g, 0, none⟩) n cap) L) (hn : L.length = n) {p : Nat} (hp : p < n) (j : Nat) (hj : j < 2) (u : Value) (A : Fl) (hA : (FlC (FlF L p)).set j u = FlC A) :
    FlL (w.setCell ⟨g, p * 2 + j, none⟩ u) B (.slice (some ⟨g, 0, none⟩) n cap) (L.set p A) := by
  subst hn
  have := h.stored1 hp j hj u A hA
  rwa [List.length_set] at this
theorem FlL.at {w : World} {B g cap n : Nat} {L : List Fl} (h : FlL w B (.slice (some ⟨g, 0, none⟩) n cap) L) (hn : L.length = n) {p : Nat} (hp : p < n) : FlAt w g (p * 2) (FlF L p) ∧ ∀ o, w.frozen? ⟨g, o, none⟩ = false := by
  subst hn
  obtain ⟨a', m', e', _, sh⟩ := h.shape
  obtain ⟨g', ea, _, _, cc⟩ := sh p hp
  have eg : g = g' := by
    have := congrArg Value.ownBlock e'
    rw [ea] at this
    simpa [Value.ownBlock] using this
  subst eg
  rw [FlF_lt hp]
  exact ⟨cc, fun o => World.ownsRow.frozenAt h o⟩

set_option maxHeartbeats 2000000 in
theorem markFls (B : Nat) (v : Value) (l : List Fl) (k0 : Int) (w : World) (hl : l.length ≤ 1048576) (k1 : 1 ≤ k0) (k2 : k0 ≤ 50000000) (h : FlL w B v l) :
    Calls Try.prog 70 #[v, .int .i64 k0] w fun e w' => e = .returned (.int .i64 (k0 + 2 * (l.length : Int))) ∧ (∃ L, L.length = l.length ∧ MarkedFl k0 l.length L ∧ FlL w' B v L) ∧ w.grownBy w' v.ownBlock := by
  obtain ⟨a, m, hv, _, sh⟩ := h.shape
  by_cases h0 : l.length = 0
  · have hl0 : l = [] := List.length_eq_zero_iff.1 h0
    subst hl0
    subst hv
    have H : Hid (FlL w B (.slice a [].length m) []) := h
    clear h sh
    simp only [List.length_nil]
    go_enter Try.func70, Try.ntmps70
    go_wp2
    refine wp_loop_rounds 1 ?_
    rw [rounds_succ]
    go_wp2
    go_ret
    exact ⟨congrArg (fun x => Ending.returned (.int .i64 x)) (by simp), ⟨[], rfl, fun i hi => absurd hi (Nat.not_lt_zero _), H.out⟩, World.grownBy.refl _ _⟩
  · obtain ⟨g, rfl, hg1, hg2, hx0⟩ := sh 0 (by omega)
    clear hx0
    subst hv
    have H : Hid (FlL w B (.slice (some ⟨g, 0, none⟩) l.length m) l) := h
    clear h sh
    generalize hn : l.length = n at *
    have HN : Hid (l.length = n) := hn
    clear hn
    go_enter Try.func70, Try.ntmps70
    go_wp2
    go_loopw [1, 5] (fun t i wr => ∃ (k : Nat) (L : List Fl), k ≤ n ∧ i = .int .i64 k ∧ t = .int .i64 (k0 + 2 * (k : Int)) ∧ Hid (L.length = n) ∧ Hid (MarkedFl k0 k L) ∧ Hid (FlL wr B (.slice (some ⟨g, 0, none⟩) n m) L) ∧ Hid (w.grownBy wr (some g))) (fun _ i _ => n - (intOf i).toNat)
    case atStart => exact ⟨0, l, Nat.zero_le _, rfl, by simp, HN, fun i hi => absurd hi (Nat.not_lt_zero _), H, World.grownBy.refl _ _⟩
    case round =>
      obtain ⟨k, L, hk, rfl, rfl, hL, hM, hI, hG⟩ := hrel
      by_cases hlt : k < n
      · clear H HN
        go_wp2_with fail
        refine (markText (k0 + 2 * (k : Int)) _ (by omega) (by omega)).mono ?_
        rintro e u0 ⟨rfl, B0⟩
        have I0 : Hid (FlL u0 B (.slice (some ⟨g, 0, none⟩) n m) (L)) := hI.out.kept B0
        have G0 : Hid (w.grownBy u0 (some g)) := grown_tr hG.out (grown_be B0)
        clear B0 hI hG 
        obtain ⟨⟨c0, c1⟩, cf⟩ := I0.out.at hL.out hlt
        have J0 : Hid (FlL (u0.setCell ⟨g, k * 2, none⟩ (.string (mt (k0 + 2 * (k : Int))))) B (.slice (some ⟨g, 0, none⟩) n m) ((L).set k (⟨(mt (k0 + 2 * (k : Int))), (FlF L k).data⟩ : Fl))) := I0.out.put1 hL.out hlt 0 (by omega) _ (⟨(mt (k0 + 2 * (k : Int))), (FlF L k).data⟩ : Fl) rfl
        have K0 : Hid (w.grownBy (u0.setCell ⟨g, k * 2, none⟩ (.string (mt (k0 + 2 * (k : Int))))) (some g)) := grown_tr G0.out (grown_set1Fl _ _ _ _)
        have M0 : Hid (((L).set k (⟨(mt (k0 + 2 * (k : Int))), (FlF L k).data⟩ : Fl)).length = n) := (by rw [List.length_set]; exact hL.out : ((L).set k (⟨(mt (k0 + 2 * (k : Int))), (FlF L k).data⟩ : Fl)).length = n)
        go_wp2_with fail
        refine (markText (k0 + 2 * (k : Int) + 1) _ (by omega) (by omega)).mono ?_
        rintro e u1 ⟨rfl, B1⟩
        have I1 : Hid (FlL u1 B (.slice (some ⟨g, 0, none⟩) n m) ((L).set k (⟨(mt (k0 + 2 * (k : Int))), (FlF L k).data⟩ : Fl))) := J0.out.kept B1
        have G1 : Hid (w.grownBy u1 (some g)) := grown_tr K0.out (grown_be B1)
        clear B1 J0 K0 c0 c1 cf
        obtain ⟨⟨c0, c1⟩, cf⟩ := I1.out.at M0.out hlt
        have J1 : Hid (FlL (u1.setCell ⟨g, k * 2 + 1, none⟩ (.string (mt (k0 + 2 * (k : Int) + 1)))) B (.slice (some ⟨g, 0, none⟩) n m) (((L).set k (⟨(mt (k0 + 2 * (k : Int))), (FlF L k).data⟩ : Fl)).set k (⟨(mt (k0 + 2 * (k : Int))), (mt (k0 + 2 * (k : Int) + 1))⟩ : Fl))) := I1.out.put1 M0.out hlt 1 (by omega) _ (⟨(mt (k0 + 2 * (k : Int))), (mt (k0 + 2 * (k : Int) + 1))⟩ : Fl) (by rw [FlF_set_at _ (by rw [hL.out]; exact hlt)]; rfl)
        have K1 : Hid (w.grownBy (u1.setCell ⟨g, k * 2 + 1, none⟩ (.string (mt (k0 + 2 * (k : Int) + 1)))) (some g)) := grown_tr G1.out (grown_set1Fl _ _ _ _)
        have M1 : Hid ((((L).set k (⟨(mt (k0 + 2 * (k : Int))), (FlF L k).data⟩ : Fl)).set k (⟨(mt (k0 + 2 * (k : Int))), (mt (k0 + 2 * (k : Int) + 1))⟩ : Fl)).length = n) := (by rw [List.length_set]; exact M0.out : (((L).set k (⟨(mt (k0 + 2 * (k : Int))), (FlF L k).data⟩ : Fl)).set k (⟨(mt (k0 + 2 * (k : Int))), (mt (k0 + 2 * (k : Int) + 1))⟩ : Fl)).length = n)
        have HM : Hid (MarkedFl k0 (k + 1) (((L).set k (⟨(mt (k0 + 2 * (k : Int))), (FlF L k).data⟩ : Fl)).set k (⟨(mt (k0 + 2 * (k : Int))), (mt (k0 + 2 * (k : Int) + 1))⟩ : Fl))) := fun i hi => by
          by_cases e : i = k
          · subst e
            exact FlF_set_at _ (by rw [List.length_set, hL.out]; exact hlt)
          · rw [FlF_set_ne _ e, FlF_set_ne _ e]
            exact hM.out i (by omega)
        go_wp2
        go_roundw
        case rel => exact ⟨k + 1, ((L).set k (⟨(mt (k0 + 2 * (k : Int))), (FlF L k).data⟩ : Fl)).set k (⟨(mt (k0 + 2 * (k : Int))), (mt (k0 + 2 * (k : Int) + 1))⟩ : Fl), by omega, by go_num, by go_num, M1, HM, J1, K1⟩
        case measure => simp [intOf]; omega
      · have hkn : k = n := by omega
        subst hkn
        go_wp2
        go_ret
        exact ⟨rfl, ⟨L, hL.out, hM.out, hI.out⟩, hG.out⟩

set_option maxHeartbeats 2000000 in
theorem heldFls (B : Nat) (v : Value) (L : List Fl) (k0 : Int) (w : World) (hl : L.length ≤ 1048576) (k1 : 1 ≤ k0) (k2 : k0 ≤ 50000000) (h : FlL w B v L) (hM : MarkedFl k0 L.length L) :
    Calls Try.prog 72 #[v, .int .i64 k0] w fun e w' => e = .returned (.int .i64 (k0 + 2 * (L.length : Int))) ∧ Below w.heap.size w w' := by
  obtain ⟨a, m, rfl, _, sh⟩ := h.shape
  have S : Hid (∀ i, i < L.length → ∃ g, a = some ⟨g, 0, none⟩ ∧ g < w.heap.size ∧ FlAt w g (i * 2) (markFl k0 i)) := fun i hi => by
    obtain ⟨g, e, _, hgl, hc⟩ := sh i hi
    have := hM i hi
    rw [FlF_lt hi] at this
    rw [this] at hc
    exact ⟨g, e, hgl, hc⟩
  clear sh h hM
  generalize hn : L.length = n at *
  clear hn
  have B0 : Hid (Below w.heap.size w w) := Below.refl _ _
  go_enter Try.func72, Try.ntmps72
  go_wp2
  go_loopw [1, 5] (fun t i wr => ∃ k : Nat, k ≤ n ∧ i = .int .i64 k ∧ t = .int .i64 (k0 + 2 * (k : Int)) ∧ Hid (Below w.heap.size w wr)) (fun _ i _ => n - (intOf i).toNat)
  case atStart => exact ⟨0, Nat.zero_le _, rfl, by simp, B0⟩
  case round =>
    obtain ⟨k, hk, rfl, rfl, hB⟩ := hrel
    clear B0
    by_cases hlt : k < n
    · obtain ⟨g, rfl, hgl, cc⟩ := S.out k hlt
      have CC : Hid (FlAt wr g (k * 2) (markFl k0 k)) := cc.of_cells (fun q => hB.out.cell (p := ⟨g, q, none⟩) hgl)
      have hgw : g < wr.heap.size := Nat.lt_of_lt_of_le hgl hB.out.size
      have HT : Hid (∀ z W, 1 ≤ z → z ≤ 100000000 → Calls Try.prog 90 #[.int .i64 z] W fun e w' => e = .returned (.string (mt z)) ∧ Below W.heap.size W w') := fun z W h1 h2 => markText z W h1 h2
      clear cc
      obtain ⟨c0, c1⟩ := CC.out
      simp only [markFl] at c0 c1
      have d0 : ∀ v, (over wr v).cell? ⟨g, k * 2, none⟩ = some (.string (mt (k0 + 2 * (k : Int)))) := fun v => by
        rw [over_cell (p := ⟨g, k * 2, none⟩) hgw]
        exact c0
      go_wp2
      refine wp_region_over (by kernel_rfl) (by kernel_rfl) ?_
      repeat (go_big_quiet_step ((first | (go_at_call 90; exact Calls.over_of (HT.out _ _ (by omega) (by omega))))))
      refine wpQuiet_nil ?_
      intro x0 hw0
      obtain ⟨vq0, hx0⟩ := hw0
      have Y0 : Hid (Below w.heap.size w x0) := (by rw [hx0]; exact hB.out.trans ((below_over _ vq0).mono hB.out.size) : Below w.heap.size w x0)
      have e1 : x0.cell? ⟨g, k * 2 + 1, none⟩ = some (.string (mt (k0 + 2 * (k : Int) + 1))) := by rw [hx0, over_cell (p := ⟨g, k * 2 + 1, none⟩) hgw]; exact c1
      have hg1 : g < x0.heap.size := Nat.lt_of_lt_of_le hgl Y0.out.size
      clear hx0 d0
      have d1 : ∀ v, (over x0 v).cell? ⟨g, k * 2 + 1, none⟩ = some (.string (mt (k0 + 2 * (k : Int) + 1))) := fun v => by
        rw [over_cell (p := ⟨g, k * 2 + 1, none⟩) hg1]
        exact e1
      go_wp2
      refine wp_region_over (by kernel_rfl) (by kernel_rfl) ?_
      repeat (go_big_quiet_step ((first | (go_at_call 90; exact Calls.over_of (HT.out _ _ (by omega) (by omega))))))
      refine wpQuiet_nil ?_
      intro x1 hw1
      obtain ⟨vq1, hx1⟩ := hw1
      have Y1 : Hid (Below w.heap.size w x1) := (by rw [hx1]; exact Y0.out.trans ((below_over _ vq1).mono Y0.out.size) : Below w.heap.size w x1)
      clear hx1 d1
      go_wp2
      go_roundw
      case rel => exact ⟨k + 1, by omega, by go_num, by go_num, Y1⟩
      case measure => simp [intOf]; omega
    · have hkn : k = n := by omega
      subst hkn
      go_wp2
      go_ret
      exact ⟨rfl, hB.out⟩
end Go.Proofs.Ytcalgmhpagpnnaa

/- Lists of one's own, marked and looked at as the exact laws do. Conditions: at most 1048576 of them. -/
namespace Go.Proofs.Ytcalgmhpagpnnaa
open Go.RowKit
set_option maxRecDepth 8000

/-- The record that the laws' marks make of the one at a place. -/
def markDp (k0 : Int) (i : Nat) : Dp := ⟨k0 + 4 * (i : Int), mt (k0 + 4 * (i : Int) + 1), mt (k0 + 4 * (i : Int) + 1 + 1), mt (k0 + 4 * (i : Int) + 1 + 1 + 1)⟩
/-- The first j bear their marks. -/
def MarkedDp (k0 : Int) (j : Nat) (L : List Dp) : Prop := ∀ i, i < j → DpF L i = markDp k0 i
theorem DpL.put1 {w : World} {B g cap n : Nat} {L : List Dp} (h : DpL w B (.slice (some ⟨g, 0, none⟩) n cap) L) (hn : L.length = n) {p : Nat} (hp : p < n) (j : Nat) (hj : j < 4) (u : Value) (A : Dp) (hA : (DpC (DpF L p)).set j u = DpC A) :
    DpL (w.setCell ⟨g, p * 4 + j, none⟩ u) B (.slice (some ⟨g, 0, none⟩) n cap) (L.set p A) := by
  subst hn
  have := h.stored1 hp j hj u A hA
  rwa [List.length_set] at this
theorem DpL.at {w : World} {B g cap n : Nat} {L : List Dp} (h : DpL w B (.slice (some ⟨g, 0, none⟩) n cap) L) (hn : L.length = n) {p : Nat} (hp : p < n) : DpAt w g (p * 4) (DpF L p) ∧ ∀ o, w.frozen? ⟨g, o, none⟩ = false := by
  subst hn
  obtain ⟨a', m', e', _, sh⟩ := h.shape
  obtain ⟨g', ea, _, _, cc⟩ := sh p hp
  have eg : g = g' := by
    have := congrArg Value.ownBlock e'
    rw [ea] at this
    simpa [Value.ownBlock] using this
  subst eg
  rw [DpF_lt hp]
  exact ⟨cc, fun o => World.ownsRow.frozenAt h o⟩

set_option maxHeartbeats 2000000 in
theorem markDps (B : Nat) (v : Value) (l : List Dp) (k0 : Int) (w : World) (hl : l.length ≤ 1048576) (k1 : 1 ≤ k0) (k2 : k0 ≤ 50000000) (h : DpL w B v l) :
    Calls Try.prog 71 #[v, .int .i64 k0] w fun e w' => e = .returned (.int .i64 (k0 + 4 * (l.length : Int))) ∧ (∃ L, L.length = l.length ∧ MarkedDp k0 l.length L ∧ DpL w' B v L) ∧ w.grownBy w' v.ownBlock := by
  obtain ⟨a, m, hv, _, sh⟩ := h.shape
  by_cases h0 : l.length = 0
  · have hl0 : l = [] := List.length_eq_zero_iff.1 h0
    subst hl0
    subst hv
    have H : Hid (DpL w B (.slice a [].length m) []) := h
    clear h sh
    simp only [List.length_nil]
    go_enter Try.func71, Try.ntmps71
    go_wp2
    refine wp_loop_rounds 1 ?_
    rw [rounds_succ]
    go_wp2
    go_ret
    exact ⟨congrArg (fun x => Ending.returned (.int .i64 x)) (by simp), ⟨[], rfl, fun i hi => absurd hi (Nat.not_lt_zero _), H.out⟩, World.grownBy.refl _ _⟩
  · obtain ⟨g, rfl, hg1, hg2, hx0⟩ := sh 0 (by omega)
    clear hx0
    subst hv
    have H : Hid (DpL w B (.slice (some ⟨g, 0, none⟩) l.length m) l) := h
    clear h sh
    generalize hn : l.length = n at *
    have HN : Hid (l.length = n) := hn
    clear hn
    go_enter Try.func71, Try.ntmps71
    go_wp2
    go_loopw [1, 5] (fun t i wr => ∃ (k : Nat) (L : List Dp), k ≤ n ∧ i = .int .i64 k ∧ t = .int .i64 (k0 + 4 * (k : Int)) ∧ Hid (L.length = n) ∧ Hid (MarkedDp k0 k L) ∧ Hid (DpL wr B (.slice (some ⟨g, 0, none⟩) n m) L) ∧ Hid (w.grownBy wr (some g))) (fun _ i _ => n - (intOf i).toNat)
    case atStart => exact ⟨0, l, Nat.zero_le _, rfl, by simp, HN, fun i hi => absurd hi (Nat.not_lt_zero _), H, World.grownBy.refl _ _⟩
    case round =>
      obtain ⟨k, L, hk, rfl, rfl, hL, hM, hI, hG⟩ := hrel
      by_cases hlt : k < n
      · clear H HN
        obtain ⟨⟨c0, c1, c2, c3⟩, cf⟩ := hI.out.at hL.out hlt
        have J0 : Hid (DpL (wr.setCell ⟨g, k * 4, none⟩ (.int .i64 (k0 + 4 * (k : Int)))) B (.slice (some ⟨g, 0, none⟩) n m) ((L).set k (⟨(k0 + 4 * (k : Int)), (DpF L k).name, (DpF L k).dst, (DpF L k).data⟩ : Dp))) := hI.out.put1 hL.out hlt 0 (by omega) _ (⟨(k0 + 4 * (k : Int)), (DpF L k).name, (DpF L k).dst, (DpF L k).data⟩ : Dp) rfl
        have K0 : Hid (w.grownBy (wr.setCell ⟨g, k * 4, none⟩ (.int .i64 (k0 + 4 * (k : Int)))) (some g)) := grown_tr hG.out (grown_set1Dp _ _ _ _)
        have M0 : Hid (((L).set k (⟨(k0 + 4 * (k : Int)), (DpF L k).name, (DpF L k).dst, (DpF L k).data⟩ : Dp)).length = n) := (by rw [List.length_set]; exact hL.out : ((L).set k (⟨(k0 + 4 * (k : Int)), (DpF L k).name, (DpF L k).dst, (DpF L k).data⟩ : Dp)).length = n)
        go_wp2_with fail
        refine (markText (k0 + 4 * (k : Int) + 1) _ (by omega) (by omega)).mono ?_
        rintro e u1 ⟨rfl, B1⟩
        have I1 : Hid (DpL u1 B (.slice (some ⟨g, 0, none⟩) n m) ((L).set k (⟨(k0 + 4 * (k : Int)), (DpF L k).name, (DpF L k).dst, (DpF L k).data⟩ : Dp))) := J0.out.kept B1
        have G1 : Hid (w.grownBy u1 (some g)) := grown_tr K0.out (grown_be B1)
        clear B1 J0 K0 c0 c1 c2 c3 cf
        obtain ⟨⟨c0, c1, c2, c3⟩, cf⟩ := I1.out.at M0.out hlt
        have J1 : Hid (DpL (u1.setCell ⟨g, k * 4 + 1, none⟩ (.string (mt (k0 + 4 * (k : Int) + 1)))) B (.slice (some ⟨g, 0, none⟩) n m) (((L).set k (⟨(k0 + 4 * (k : Int)), (DpF L k).name, (DpF L k).dst, (DpF L k).data⟩ : Dp)).set k (⟨(k0 + 4 * (k : Int)), (mt (k0 + 4 * (k : Int) + 1)), (DpF L k).dst, (DpF L k).data⟩ : Dp))) := I1.out.put1 M0.out hlt 1 (by omega) _ (⟨(k0 + 4 * (k : Int)), (mt (k0 + 4 * (k : Int) + 1)), (DpF L k).dst, (DpF L k).data⟩ : Dp) (by rw [DpF_set_at _ (by rw [hL.out]; exact hlt)]; rfl)
        have K1 : Hid (w.grownBy (u1.setCell ⟨g, k * 4 + 1, none⟩ (.string (mt (k0 + 4 * (k : Int) + 1)))) (some g)) := grown_tr G1.out (grown_set1Dp _ _ _ _)
        have M1 : Hid ((((L).set k (⟨(k0 + 4 * (k : Int)), (DpF L k).name, (DpF L k).dst, (DpF L k).data⟩ : Dp)).set k (⟨(k0 + 4 * (k : Int)), (mt (k0 + 4 * (k : Int) + 1)), (DpF L k).dst, (DpF L k).data⟩ : Dp)).length = n) := (by rw [List.length_set]; exact M0.out : (((L).set k (⟨(k0 + 4 * (k : Int)), (DpF L k).name, (DpF L k).dst, (DpF L k).data⟩ : Dp)).set k (⟨(k0 + 4 * (k : Int)), (mt (k0 + 4 * (k : Int) + 1)), (DpF L k).dst, (DpF L k).data⟩ : Dp)).length = n)
        go_wp2_with fail
        refine (markText (k0 + 4 * (k : Int) + 1 + 1) _ (by omega) (by omega)).mono ?_
        rintro e u2 ⟨rfl, B2⟩
        have I2 : Hid (DpL u2 B (.slice (some ⟨g, 0, none⟩) n m) (((L).set k (⟨(k0 + 4 * (k : Int)), (DpF L k).name, (DpF L k).dst, (DpF L k).data⟩ : Dp)).set k (⟨(k0 + 4 * (k : Int)), (mt (k0 + 4 * (k : Int) + 1)), (DpF L k).dst, (DpF L k).data⟩ : Dp))) := J1.out.kept B2
        have G2 : Hid (w.grownBy u2 (some g)) := grown_tr K1.out (grown_be B2)
        clear B2 J1 K1 c0 c1 c2 c3 cf
        obtain ⟨⟨c0, c1, c2, c3⟩, cf⟩ := I2.out.at M1.out hlt
        have J2 : Hid (DpL (u2.setCell ⟨g, k * 4 + 2, none⟩ (.string (mt (k0 + 4 * (k : Int) + 1 + 1)))) B (.slice (some ⟨g, 0, none⟩) n m) ((((L).set k (⟨(k0 + 4 * (k : Int)), (DpF L k).name, (DpF L k).dst, (DpF L k).data⟩ : Dp)).set k (⟨(k0 + 4 * (k : Int)), (mt (k0 + 4 * (k : Int) + 1)), (DpF L k).dst, (DpF L k).data⟩ : Dp)).set k (⟨(k0 + 4 * (k : Int)), (mt (k0 + 4 * (k : Int) + 1)), (mt (k0 + 4 * (k : Int) + 1 + 1)), (DpF L k).data⟩ : Dp))) := I2.out.put1 M1.out hlt 2 (by omega) _ (⟨(k0 + 4 * (k : Int)), (mt (k0 + 4 * (k : Int) + 1)), (mt (k0 + 4 * (k : Int) + 1 + 1)), (DpF L k).data⟩ : Dp) (by rw [DpF_set_at _ (by rw [List.length_set, hL.out]; exact hlt)]; rfl)
        have K2 : Hid (w.grownBy (u2.setCell ⟨g, k * 4 + 2, none⟩ (.string (mt (k0 + 4 * (k : Int) + 1 + 1)))) (some g)) := grown_tr G2.out (grown_set1Dp _ _ _ _)
        have M2 : Hid (((((L).set k (⟨(k0 + 4 * (k : Int)), (DpF L k).name, (DpF L k).dst, (DpF L k).data⟩ : Dp)).set k (⟨(k0 + 4 * (k : Int)), (mt (k0 + 4 * (k : Int) + 1)), (DpF L k).dst, (DpF L k).data⟩ : Dp)).set k (⟨(k0 + 4 * (k : Int)), (mt (k0 + 4 * (k : Int) + 1)), (mt (k0 + 4 * (k : Int) + 1 + 1)), (DpF L k).data⟩ : Dp)).length = n) := (by rw [List.length_set]; exact M1.out : ((((L).set k (⟨(k0 + 4 * (k : Int)), (DpF L k).name, (DpF L k).dst, (DpF L k).data⟩ : Dp)).set k (⟨(k0 + 4 * (k : Int)), (mt (k0 + 4 * (k : Int) + 1)), (DpF L k).dst, (DpF L k).data⟩ : Dp)).set k (⟨(k0 + 4 * (k : Int)), (mt (k0 + 4 * (k : Int) + 1)), (mt (k0 + 4 * (k : Int) + 1 + 1)), (DpF L k).data⟩ : Dp)).length = n)
        go_wp2_with fail
        refine (markText (k0 + 4 * (k : Int) + 1 + 1 + 1) _ (by omega) (by omega)).mono ?_
        rintro e u3 ⟨rfl, B3⟩
        have I3 : Hid (DpL u3 B (.slice (some ⟨g, 0, none⟩) n m) ((((L).set k (⟨(k0 + 4 * (k : Int)), (DpF L k).name, (DpF L k).dst, (DpF L k).data⟩ : Dp)).set k (⟨(k0 + 4 * (k : Int)), (mt (k0 + 4 * (k : Int) + 1)), (DpF L k).dst, (DpF L k).data⟩ : Dp)).set k (⟨(k0 + 4 * (k : Int)), (mt (k0 + 4 * (k : Int) + 1)), (mt (k0 + 4 * (k : Int) + 1 + 1)), (DpF L k).data⟩ : Dp))) := J2.out.kept B3
        have G3 : Hid (w.grownBy u3 (some g)) := grown_tr K2.out (grown_be B3)
        clear B3 J2 K2 c0 c1 c2 c3 cf
        obtain ⟨⟨c0, c1, c2, c3⟩, cf⟩ := I3.out.at M2.out hlt
        have J3 : Hid (DpL (u3.setCell ⟨g, k * 4 + 3, none⟩ (.string (mt (k0 + 4 * (k : Int) + 1 + 1 + 1)))) B (.slice (some ⟨g, 0, none⟩) n m) (((((L).set k (⟨(k0 + 4 * (k : Int)), (DpF L k).name, (DpF L k).dst, (DpF L k).data⟩ : Dp)).set k (⟨(k0 + 4 * (k : Int)), (mt (k0 + 4 * (k : Int) + 1)), (DpF L k).dst, (DpF L k).data⟩ : Dp)).set k (⟨(k0 + 4 * (k : Int)), (mt (k0 + 4 * (k : Int) + 1)), (mt (k0 + 4 * (k : Int) + 1 + 1)), (DpF L k).data⟩ : Dp)).set k (⟨(k0 + 4 * (k : Int)), (mt (k0 + 4 * (k : Int) + 1)), (mt (k0 + 4 * (k : Int) + 1 + 1)), (mt (k0 + 4 * (k : Int) + 1 + 1 + 1))⟩ : Dp))) := I3.out.put1 M2.out hlt 3 (by omega) _ (⟨(k0 + 4 * (k : Int)), (mt (k0 + 4 * (k : Int) + 1)), (mt (k0 + 4 * (k : Int) + 1 + 1)), (mt (k0 + 4 * (k : Int) + 1 + 1 + 1))⟩ : Dp) (by rw [DpF_set_at _ (by rw [List.length_set, List.length_set, hL.out]; exact hlt)]; rfl)
        have K3 : Hid (w.grownBy (u3.setCell ⟨g, k * 4 + 3, none⟩ (.string (mt (k0 + 4 * (k : Int) + 1 + 1 + 1)))) (some g)) := grown_tr G3.out (grown_set1Dp _ _ _ _)
        have M3 : Hid ((((((L).set k (⟨(k0 + 4 * (k : Int)), (DpF L k).name, (DpF L k).dst, (DpF L k).data⟩ : Dp)).set k (⟨(k0 + 4 * (k : Int)), (mt (k0 + 4 * (k : Int) + 1)), (DpF L k).dst, (DpF L k).data⟩ : Dp)).set k (⟨(k0 + 4 * (k : Int)), (mt (k0 + 4 * (k : Int) + 1)), (mt (k0 + 4 * (k : Int) + 1 + 1)), (DpF L k).data⟩ : Dp)).set k (⟨(k0 + 4 * (k : Int)), (mt (k0 + 4 * (k : Int) + 1)), (mt (k0 + 4 * (k : Int) + 1 + 1)), (mt (k0 + 4 * (k : Int) + 1 + 1 + 1))⟩ : Dp)).length = n) := (by rw [List.length_set]; exact M2.out : (((((L).set k (⟨(k0 + 4 * (k : Int)), (DpF L k).name, (DpF L k).dst, (DpF L k).data⟩ : Dp)).set k (⟨(k0 + 4 * (k : Int)), (mt (k0 + 4 * (k : Int) + 1)), (DpF L k).dst, (DpF L k).data⟩ : Dp)).set k (⟨(k0 + 4 * (k : Int)), (mt (k0 + 4 * (k : Int) + 1)), (mt (k0 + 4 * (k : Int) + 1 + 1)), (DpF L k).data⟩ : Dp)).set k (⟨(k0 + 4 * (k : Int)), (mt (k0 + 4 * (k : Int) + 1)), (mt (k0 + 4 * (k : Int) + 1 + 1)), (mt (k0 + 4 * (k : Int) + 1 + 1 + 1))⟩ : Dp)).length = n)
        have HM : Hid (MarkedDp k0 (k + 1) (((((L).set k (⟨(k0 + 4 * (k : Int)), (DpF L k).name, (DpF L k).dst, (DpF L k).data⟩ : Dp)).set k (⟨(k0 + 4 * (k : Int)), (mt (k0 + 4 * (k : Int) + 1)), (DpF L k).dst, (DpF L k).data⟩ : Dp)).set k (⟨(k0 + 4 * (k : Int)), (mt (k0 + 4 * (k : Int) + 1)), (mt (k0 + 4 * (k : Int) + 1 + 1)), (DpF L k).data⟩ : Dp)).set k (⟨(k0 + 4 * (k : Int)), (mt (k0 + 4 * (k : Int) + 1)), (mt (k0 + 4 * (k : Int) + 1 + 1)), (mt (k0 + 4 * (k : Int) + 1 + 1 + 1))⟩ : Dp))) := fun i hi => by
          by_cases e : i = k
          · subst e
            exact DpF_set_at _ (by rw [List.length_set, List.length_set, List.length_set, hL.out]; exact hlt)
          · rw [DpF_set_ne _ e, DpF_set_ne _ e, DpF_set_ne _ e, DpF_set_ne _ e]
            exact hM.out i (by omega)
        go_wp2
        go_roundw
        case rel => exact ⟨k + 1, ((((L).set k (⟨(k0 + 4 * (k : Int)), (DpF L k).name, (DpF L k).dst, (DpF L k).data⟩ : Dp)).set k (⟨(k0 + 4 * (k : Int)), (mt (k0 + 4 * (k : Int) + 1)), (DpF L k).dst, (DpF L k).data⟩ : Dp)).set k (⟨(k0 + 4 * (k : Int)), (mt (k0 + 4 * (k : Int) + 1)), (mt (k0 + 4 * (k : Int) + 1 + 1)), (DpF L k).data⟩ : Dp)).set k (⟨(k0 + 4 * (k : Int)), (mt (k0 + 4 * (k : Int) + 1)), (mt (k0 + 4 * (k : Int) + 1 + 1)), (mt (k0 + 4 * (k : Int) + 1 + 1 + 1))⟩ : Dp), by omega, by go_num, by go_num, M3, HM, J3, K3⟩
        case measure => simp [intOf]; omega
      · have hkn : k = n := by omega
        subst hkn
        go_wp2
        go_ret
        exact ⟨rfl, ⟨L, hL.out, hM.out, hI.out⟩, hG.out⟩

set_option maxHeartbeats 2000000 in
theorem heldDps (B : Nat) (v : Value) (L : List Dp) (k0 : Int) (w : World) (hl : L.length ≤ 1048576) (k1 : 1 ≤ k0) (k2 : k0 ≤ 50000000) (h : DpL w B v L) (hM : MarkedDp k0 L.length L) :
    Calls Try.prog 73 #[v, .int .i64 k0] w fun e w' => e = .returned (.int .i64 (k0 + 4 * (L.length : Int))) ∧ Below w.heap.size w w' := by
  obtain ⟨a, m, rfl, _, sh⟩ := h.shape
  have S : Hid (∀ i, i < L.length → ∃ g, a = some ⟨g, 0, none⟩ ∧ g < w.heap.size ∧ DpAt w g (i * 4) (markDp k0 i)) := fun i hi => by
    obtain ⟨g, e, _, hgl, hc⟩ := sh i hi
    have := hM i hi
    rw [DpF_lt hi] at this
    rw [this] at hc
    exact ⟨g, e, hgl, hc⟩
  clear sh h hM
  generalize hn : L.length = n at *
  clear hn
  have B0 : Hid (Below w.heap.size w w) := Below.refl _ _
  go_enter Try.func73, Try.ntmps73
  go_wp2
  go_loopw [1, 5] (fun t i wr => ∃ k : Nat, k ≤ n ∧ i = .int .i64 k ∧ t = .int .i64 (k0 + 4 * (k : Int)) ∧ Hid (Below w.heap.size w wr)) (fun _ i _ => n - (intOf i).toNat)
  case atStart => exact ⟨0, Nat.zero_le _, rfl, by simp, B0⟩
  case round =>
    obtain ⟨k, hk, rfl, rfl, hB⟩ := hrel
    clear B0
    by_cases hlt : k < n
    · obtain ⟨g, rfl, hgl, cc⟩ := S.out k hlt
      have CC : Hid (DpAt wr g (k * 4) (markDp k0 k)) := cc.of_cells (fun q => hB.out.cell (p := ⟨g, q, none⟩) hgl)
      have hgw : g < wr.heap.size := Nat.lt_of_lt_of_le hgl hB.out.size
      have HT : Hid (∀ z W, 1 ≤ z → z ≤ 100000000 → Calls Try.prog 90 #[.int .i64 z] W fun e w' => e = .returned (.string (mt z)) ∧ Below W.heap.size W w') := fun z W h1 h2 => markText z W h1 h2
      clear cc
      obtain ⟨c0, c1, c2, c3⟩ := CC.out
      simp only [markDp] at c0 c1 c2 c3
      have d1 : ∀ v, (over wr v).cell? ⟨g, k * 4 + 1, none⟩ = some (.string (mt (k0 + 4 * (k : Int) + 1))) := fun v => by
        rw [over_cell (p := ⟨g, k * 4 + 1, none⟩) hgw]
        exact c1
      go_wp2
      refine wp_region_over (by kernel_rfl) (by kernel_rfl) ?_
      repeat (go_big_quiet_step ((first | (go_at_call 90; exact Calls.over_of (HT.out _ _ (by omega) (by omega))))))
      refine wpQuiet_nil ?_
      intro x1 hw1
      obtain ⟨vq1, hx1⟩ := hw1
      have Y1 : Hid (Below w.heap.size w x1) := (by rw [hx1]; exact hB.out.trans ((below_over _ vq1).mono hB.out.size) : Below w.heap.size w x1)
      have e2 : x1.cell? ⟨g, k * 4 + 2, none⟩ = some (.string (mt (k0 + 4 * (k : Int) + 1 + 1))) := by rw [hx1, over_cell (p := ⟨g, k * 4 + 2, none⟩) hgw]; exact c2
      have f3 : x1.cell? ⟨g, k * 4 + 3, none⟩ = some (.string (mt (k0 + 4 * (k : Int) + 1 + 1 + 1))) := by rw [hx1, over_cell (p := ⟨g, k * 4 + 3, none⟩) hgw]; exact c3
      have hg2 : g < x1.heap.size := Nat.lt_of_lt_of_le hgl Y1.out.size
      clear hx1 d1
      have d2 : ∀ v, (over x1 v).cell? ⟨g, k * 4 + 2, none⟩ = some (.string (mt (k0 + 4 * (k : Int) + 1 + 1))) := fun v => by
        rw [over_cell (p := ⟨g, k * 4 + 2, none⟩) hg2]
        exact e2
      go_wp2
      refine wp_region_over (by kernel_rfl) (by kernel_rfl) ?_
      repeat (go_big_quiet_step ((first | (go_at_call 90; exact Calls.over_of (HT.out _ _ (by omega) (by omega))))))
      refine wpQuiet_nil ?_
      intro x2 hw2
      obtain ⟨vq2, hx2⟩ := hw2
      have Y2 : Hid (Below w.heap.size w x2) := (by rw [hx2]; exact Y1.out.trans ((below_over _ vq2).mono Y1.out.size) : Below w.heap.size w x2)
      have e3 : x2.cell? ⟨g, k * 4 + 3, none⟩ = some (.string (mt (k0 + 4 * (k : Int) + 1 + 1 + 1))) := by rw [hx2, over_cell (p := ⟨g, k * 4 + 3, none⟩) hg2]; exact f3
      have hg3 : g < x2.heap.size := Nat.lt_of_lt_of_le hgl Y2.out.size
      clear hx2 d2
      have d3 : ∀ v, (over x2 v).cell? ⟨g, k * 4 + 3, none⟩ = some (.string (mt (k0 + 4 * (k : Int) + 1 + 1 + 1))) := fun v => by
        rw [over_cell (p := ⟨g, k * 4 + 3, none⟩) hg3]
        exact e3
      go_wp2
      refine wp_region_over (by kernel_rfl) (by kernel_rfl) ?_
      repeat (go_big_quiet_step ((first | (go_at_call 90; exact Calls.over_of (HT.out _ _ (by omega) (by omega))))))
      refine wpQuiet_nil ?_
      intro x3 hw3
      obtain ⟨vq3, hx3⟩ := hw3
      have Y3 : Hid (Below w.heap.size w x3) := (by rw [hx3]; exact Y2.out.trans ((below_over _ vq3).mono Y2.out.size) : Below w.heap.size w x3)
      clear hx3 d3
      go_wp2
      go_roundw
      case rel => exact ⟨k + 1, by omega, by go_num, by go_num, Y3⟩
      case measure => simp [intOf]; omega
    · have hkn : k = n := by omega
      subst hkn
      go_wp2
      go_ret
      exact ⟨rfl, hB.out⟩
end Go.Proofs.Ytcalgmhpagpnnaa
