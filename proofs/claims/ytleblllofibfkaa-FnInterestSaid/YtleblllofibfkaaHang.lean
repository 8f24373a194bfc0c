/- What the specification does when an account is hung elsewhere. Conditions: the accounts lie in memory of the call's own and are a right forest. -/
import Derived.Test.YtleblllofibfkaaTake
import Derived.Deep.DeepCutAuto
namespace Go.Proofs.Ytleblllofibfkaa
open Go.RowKit
set_option maxRecDepth 8000

/-- A limit that is in the way of what is moved: s out of those on the path 'out' into those on the path 'into'. -/
def inWay (F : Nat → Acc) (n : Nat) (s : Int) (out into : List Int) (j : Nat) : Prop := 0 ≤ (F j).limit ∧ (F j).id ∈ out ∧ (F j).id ∉ into ∧ sumAll F n j + (F j).limit < s
/-- One is in the way when account p, with all below it, is hung under account q; u is the one above it so far. -/
def bad (L : List Acc) (p q u j : Nat) : Prop :=
  (0 < sumAll (FL L) L.length p ∧ inWay (FL L) L.length (sumAll (FL L) L.length p) (pathL (FL L) L.length u) (pathL (FL L) L.length q) j) ∨
  (sumAll (FL L) L.length p < 0 ∧ inWay (FL L) L.length (-sumAll (FL L) L.length p) (pathL (FL L) L.length q) (pathL (FL L) L.length u) j)
def hangShort (L : List Acc) (p q u : Nat) : Prop := ∃ j, j < L.length ∧ bad L p q u j
open Classical in
/-- What hanging comes to. -/
noncomputable def hangS (L : List Acc) (p q u : Nat) : Int × List Acc :=
  if (FL L p).up = 0 ∨ (FL L p).id ∈ pathL (FL L) L.length q then (8, L) else if hangShort L p q u then (6, L) else (0, L.set p { FL L p with up := (FL L q).id })

set_option maxRecDepth 4000 in
set_option maxHeartbeats 4000000 in
theorem specHang (B g c : Nat) (L : List Acc) (p q u : Nat) (m r : Int) (w : World) (h : AL w B (.slice (some ⟨g, 0, none⟩) L.length c) L) (hBw : B ≤ w.heap.size) (hR : Right (FL L) L.length) (hp : p < L.length) (hq : q < L.length) (hu : (FL L p).up ≠ 0 → u < L.length ∧ (FL L u).id = (FL L p).up) :
    Calls Try.prog 64 #[.slice (some ⟨g, 0, none⟩) L.length c, .int .i64 p, .agg #[.int .i64 9, .int .i64 (FL L p).id, .int .i64 (FL L q).id, .int .i64 m, .int .i64 r]] w fun e w' => Out (hangS L p q u) B w e w' := by
  have hn := hR.1
  have HR : Hid (Right (FL L) L.length) := hR
  obtain ⟨hBg, hgz⟩ := h.block
  obtain ⟨W, hW⟩ : ∃ W, W = w.alloc (.cells #[.int .i64 9, .int .i64 (FL L p).id, .int .i64 (FL L q).id, .int .i64 m, .int .i64 r] 68) := ⟨_, rfl⟩
  have AW : Hid (AL W B (.slice (some ⟨g, 0, none⟩) L.length c) L) := by rw [hW]; exact World.ownsRow.alloc h _
  have OW : Hid (OpBox W w.heap.size 9 (FL L p).id (FL L q).id m r) := by rw [hW]; exact OpBox.new w _ _ _ _ _ 68
  have BW : Hid (Below B w W) := by rw [hW]; exact (Below.refl _ _).alloc hBw _
  have FW : Hid (Fo W (some ⟨g, 0, none⟩) L.length (FL L)) := AW.out.kept_fo (by omega)
  have hWz : B ≤ W.heap.size := Nat.le_trans hBw BW.out.size
  have HU : Hid ((FL L p).up ≠ 0 → u < L.length ∧ (FL L u).id = (FL L p).up) := hu
  obtain ⟨o0, o1, o2, o3, o4, oz⟩ := OW.out
  clear h hR hu o0 o3 o4
  go_enter Try.func64, Try.ntmps64
  go_upto_region 1 with fail
  rw [← hW]
  clear hW
  go_wp2_with fail
  refine (specPath_right _ L.length c (FL L) q _ FW.out HR.out hq).mono ?_
  rintro e w1 ⟨v1, rfl, I1, B1⟩
  have I1' : Hid (IL w1 W.heap.size v1 (pathL (FL L) L.length q)) := I1
  have A1 : Hid (AL w1 B (.slice (some ⟨g, 0, none⟩) L.length c) L) := AW.out.kept B1
  have O1 : Hid (OpBox w1 w.heap.size 9 (FL L p).id (FL L q).id m r) := OW.out.below B1
  have BB1 : Hid (Below B w w1) := BW.out.trans (B1.mono hWz)
  have hlq : (pathL (FL L) L.length q).length ≤ 1048576 := by have := path_len HR.out hq; omega
  have z1 : W.heap.size ≤ w1.heap.size := B1.size
  clear B1 I1 o1 o2 oz FW OW AW BW
  obtain ⟨va1, vm1, hv1, _⟩ := I1'.out.shape
  subst hv1
  obtain ⟨p0, p1, p2, p3, p4, p5, p6, p7⟩ := A1.out.acc hp
  clear p0 p2 p3 p4 p5 p6 p7
  obtain ⟨o0, o1, o2, o3, o4, oz⟩ := O1.out
  clear o0 o2 o3 o4
  by_cases hup : (FL L p).up = 0
  · have E : Hid (hangS L p q u = (8, L)) := (by unfold hangS; rw [if_pos (Or.inl hup)] : hangS L p q u = (8, L))
    have hub : ((FL L p).up == 0) = true := by simp [hup]
    clear hup
    go_wp2
    go_ret2
    rw [E.out]
    exact ⟨_, rfl, A1.out, BB1.out⟩
  have hub : ((FL L p).up == 0) = false := by simp [hup]
  obtain ⟨hul, hui⟩ := HU.out hup
  by_cases hon : (FL L p).id ∈ pathL (FL L) L.length q
  · have E : Hid (hangS L p q u = (8, L)) := (by unfold hangS; rw [if_pos (Or.inr hon)] : hangS L p q u = (8, L))
    have HON : Hid ((FL L p).id ∈ pathL (FL L) L.length q) := hon
    clear hup hon hui
    go_wp2_with fail
    refine (specHas_yes _ _ _ _ _ hlq I1'.out HON.out).mono ?_
    rintro e w2 ⟨rfl, hw2⟩
    subst hw2
    go_wp2
    go_ret2
    rw [E.out]
    exact ⟨_, rfl, A1.out, BB1.out⟩
  have HNN : Hid (¬ ((FL L p).up = 0 ∨ (FL L p).id ∈ pathL (FL L) L.length q)) := fun e => e.elim hup hon
  have HON : Hid ((FL L p).id ∉ pathL (FL L) L.length q) := hon
  have HUI : Hid ((FL L u).id = (FL L p).up) := hui
  clear hup hon hui
  go_wp2_with fail
  refine (specHas_no _ _ _ _ _ hlq I1'.out HON.out).mono ?_
  rintro e w2 ⟨rfl, hw2⟩
  have ew : w1 = w2 := hw2.symm
  subst ew
  clear hw2
  go_wp2_with fail
  refine (specSum _ L.length c (FL L) p _ (A1.out.kept_fo (by omega)) HR.out hp).mono ?_
  rintro e w3 ⟨rfl, B3⟩
  have I3 : Hid (IL w3 W.heap.size (.slice va1 (pathL (FL L) L.length q).length vm1) (pathL (FL L) L.length q)) := I1'.out.kept B3
  have A3 : Hid (AL w3 B (.slice (some ⟨g, 0, none⟩) L.length c) L) := A1.out.kept B3
  have O3 : Hid (OpBox w3 w.heap.size 9 (FL L p).id (FL L q).id m r) := O1.out.below B3
  have BB3 : Hid (Below B w w3) := BB1.out.trans (B3.mono (Nat.le_trans hBw BB1.out.size))
  have z3 : w1.heap.size ≤ w3.heap.size := B3.size
  clear B3 I1' A1 O1 BB1 p1 o1 oz
  obtain ⟨p0, p1, p2, p3, p4, p5, p6, p7⟩ := A3.out.acc hp
  clear p0 p2 p3 p4 p5 p6 p7
  have SP : Hid (∀ w', Fo w' (some ⟨g, 0, none⟩) L.length (FL L) → Calls Try.prog 28 #[.slice (some ⟨g, 0, none⟩) L.length c, .int .i64 (FL L p).up] w' fun e w'' => ∃ v, e = .returned (.tuple #[v, .bool true]) ∧ IL w'' w'.heap.size v (pathL (FL L) L.length u) ∧ Below w'.heap.size w' w'') := fun w' h' => by
    have := specPath_right (some ⟨g, 0, none⟩) L.length c (FL L) u w' h' HR.out hul
    rw [HUI.out] at this
    exact this
  go_wp2_with fail
  refine (SP.out _ (A3.out.kept_fo (by omega))).mono ?_
  rintro e w4 ⟨v4, rfl, J4, B4⟩
  have J4' : Hid (IL w4 w3.heap.size v4 (pathL (FL L) L.length u)) := J4
  have I4 : Hid (IL w4 W.heap.size (.slice va1 (pathL (FL L) L.length q).length vm1) (pathL (FL L) L.length q)) := I3.out.kept B4
  have A4 : Hid (AL w4 B (.slice (some ⟨g, 0, none⟩) L.length c) L) := A3.out.kept B4
  have O4 : Hid (OpBox w4 w.heap.size 9 (FL L p).id (FL L q).id m r) := O3.out.below B4
  have BB4 : Hid (Below B w w4) := BB3.out.trans (B4.mono (Nat.le_trans hBw BB3.out.size))
  have hlu : (pathL (FL L) L.length u).length ≤ 1048576 := by have := path_len HR.out hul; omega
  clear B4 J4 I3 A3 O3 BB3 p1 SP
  obtain ⟨va4, vm4, hv4, _⟩ := J4'.out.shape
  subst hv4
  have HE6 : Hid (hangShort L p q u → hangS L p q u = (6, L)) := fun hs => by
    unfold hangS
    rw [if_neg HNN.out, if_pos hs]
  have HE0 : Hid (¬ hangShort L p q u → hangS L p q u = (0, L.set p { FL L p with up := (FL L q).id })) := fun hs => by
    unfold hangS
    rw [if_neg HNN.out, if_neg hs]
  clear HNN HON HU HUI
  have HB : Hid (∀ j, bad L p q u j ↔ (0 < sumAll (FL L) L.length p ∧ inWay (FL L) L.length (sumAll (FL L) L.length p) (pathL (FL L) L.length u) (pathL (FL L) L.length q) j) ∨
    (sumAll (FL L) L.length p < 0 ∧ inWay (FL L) L.length (-sumAll (FL L) L.length p) (pathL (FL L) L.length q) (pathL (FL L) L.length u) j)) := fun j => Iff.rfl
  obtain ⟨ss1, ss2⟩ := sumAll_bd HR.out p
  generalize hs : sumAll (FL L) L.length p = s at *
  clear hs
  generalize pathL (FL L) L.length u = PU at *
  generalize pathL (FL L) L.length q = PQ at *
  go_wp2
  go_loopw [13] (fun x wr => ∃ k : Nat, k ≤ L.length ∧ x = .int .i64 k ∧ Hid (∀ j, j < k → ¬ bad L p q u j) ∧ Hid (Below w4.heap.size w4 wr)) (fun x _ => L.length - (intOf x).toNat)
  case atStart => exact ⟨0, Nat.zero_le _, rfl, fun j hj => absurd hj (Nat.not_lt_zero _), Below.refl _ _⟩
  case round =>
    obtain ⟨k, hk, rfl, hno, hB⟩ := hrel
    have AR : Hid (AL wr B (.slice (some ⟨g, 0, none⟩) L.length c) L) := A4.out.kept hB.out
    by_cases hlt : k < L.length
    · obtain ⟨c0, c1, c2, c3, c4, c5, c6, c7⟩ := AR.out.acc hlt
      clear c1 c3 c4 c5 c6 c7
      have hgr : g < wr.heap.size := AR.out.block.2
      have hov : ∀ v o, (over wr v).cell? ⟨g, o, none⟩ = wr.cell? ⟨g, o, none⟩ := fun v o => (below_over wr v).cell (p := ⟨g, o, none⟩) hgr
      have FR : Hid (Fo wr (some ⟨g, 0, none⟩) L.length (FL L)) := AR.out.kept_fo (by omega)
      obtain ⟨sb1, sb2⟩ := sumAll_bd HR.out k
      obtain ⟨lb1, lb2⟩ := (HR.out.2.1 k hlt).2.2.1
      go_wp2
      refine wp_region_over (by kernel_rfl) (by kernel_rfl) ?_
      repeat (go_big_quiet_step ((first | (go_at_call 44; exact Calls.over_of (specSum _ L.length c (FL L) k _ (FR.out.below (below_over _ _)) HR.out hlt)))))
      refine wpQuiet_nil ?_
      intro w5 hw'
      obtain ⟨vq, hw''⟩ := hw'
      have B5 : Hid (Below w4.heap.size w4 w5) := by rw [hw'']; exact hB.out.trans ((below_over wr vq).mono hB.out.size)
      clear hw'' hov c0 c2 hgr FR AR
      have A5 : Hid (AL w5 B (.slice (some ⟨g, 0, none⟩) L.length c) L) := A4.out.kept B5.out
      have I5 : Hid (IL w5 W.heap.size (.slice va1 PQ.length vm1) PQ) := I4.out.kept B5.out
      have J5 : Hid (IL w5 w3.heap.size (.slice va4 PU.length vm4) PU) := J4'.out.kept B5.out
      have BB5 : Hid (Below B w w5) := BB4.out.trans (B5.out.mono (Nat.le_trans hBw BB4.out.size))
      obtain ⟨c0, c1, c2, c3, c4, c5, c6, c7⟩ := A5.out.acc hlt
      clear c1 c3 c4 c5 c6 c7
      by_cases hl0 : (FL L k).limit < 0
      · skip
        have NB : Hid (∀ j, j < k + 1 → ¬ bad L p q u j) := fun j hj hb => by
          by_cases e : j = k
          · subst e
            rcases (HB.out j).1 hb with ⟨a1, a2, a3, a4, a5⟩ | ⟨a1, a2, a3, a4, a5⟩
            · omega
            · omega
          · exact hno.out j (by omega) hb
        go_wp2
        go_roundw
        case rel => exact ⟨k + 1, by omega, by go_num, NB, B5⟩
        case measure => simp [intOf]; omega
      · have hl1 : 0 ≤ (FL L k).limit := by omega
        by_cases hs1 : 0 < s
        · have hs2 : ¬ s < 0 := by omega
          clear hl0
          by_cases mo : (FL L k).id ∈ PU
          · have MPU : Hid ((FL L k).id ∈ PU) := mo
            by_cases mt : (FL L k).id ∈ PQ
            · have MPQ : Hid ((FL L k).id ∈ PQ) := mt
              have NB : Hid (∀ j, j < k + 1 → ¬ bad L p q u j) := fun j hj hb => by
                by_cases e : j = k
                · subst e
                  rcases (HB.out j).1 hb with ⟨a1, a2, a3, a4, a5⟩ | ⟨a1, a2, a3, a4, a5⟩
                  · exact absurd mt a4
                  · omega
                · exact hno.out j (by omega) hb
              clear mo mt
              go_wp2_with fail
              refine (specHas_yes _ _ _ _ _ hlu J5.out MPU.out).mono ?_
              rintro e w6 ⟨rfl, hw6⟩
              have ew : w5 = w6 := hw6.symm
              subst ew
              clear hw6
              go_wp2_with fail
              refine (specHas_yes _ _ _ _ _ hlq I5.out MPQ.out).mono ?_
              rintro e w6 ⟨rfl, hw6⟩
              have ew : w5 = w6 := hw6.symm
              subst ew
              clear hw6
              go_wp2
              go_roundw
              case rel => exact ⟨k + 1, by omega, by go_num, NB, B5⟩
              case measure => simp [intOf]; omega
            · have MPQ : Hid ((FL L k).id ∉ PQ) := mt
              by_cases hlo : sumAll (FL L) L.length k + (FL L k).limit < s
              · have E : Hid (hangS L p q u = (6, L)) := HE6.out ⟨k, hlt, (HB.out k).2 (Or.inl ⟨by omega, by omega, mo, mt, hlo⟩)⟩
                clear mo mt
                go_wp2_with fail
                refine (specHas_yes _ _ _ _ _ hlu J5.out MPU.out).mono ?_
                rintro e w6 ⟨rfl, hw6⟩
                have ew : w5 = w6 := hw6.symm
                subst ew
                clear hw6
                go_wp2_with fail
                refine (specHas_no _ _ _ _ _ hlq I5.out MPQ.out).mono ?_
                rintro e w6 ⟨rfl, hw6⟩
                have ew : w5 = w6 := hw6.symm
                subst ew
                clear hw6
                go_wp2
                go_ret2
                rw [E.out]
                exact ⟨_, rfl, A5.out, BB5.out⟩
              · skip
                have NB : Hid (∀ j, j < k + 1 → ¬ bad L p q u j) := fun j hj hb => by
                  by_cases e : j = k
                  · subst e
                    rcases (HB.out j).1 hb with ⟨a1, a2, a3, a4, a5⟩ | ⟨a1, a2, a3, a4, a5⟩
                    · exact absurd a5 hlo
                    · omega
                  · exact hno.out j (by omega) hb
                clear mo mt
                go_wp2_with fail
                refine (specHas_yes _ _ _ _ _ hlu J5.out MPU.out).mono ?_
                rintro e w6 ⟨rfl, hw6⟩
                have ew : w5 = w6 := hw6.symm
                subst ew
                clear hw6
                go_wp2_with fail
                refine (specHas_no _ _ _ _ _ hlq I5.out MPQ.out).mono ?_
                rintro e w6 ⟨rfl, hw6⟩
                have ew : w5 = w6 := hw6.symm
                subst ew
                clear hw6
                go_wp2
                go_roundw
                case rel => exact ⟨k + 1, by omega, by go_num, NB, B5⟩
                case measure => simp [intOf]; omega
          · have MPU : Hid ((FL L k).id ∉ PU) := mo
            have NB : Hid (∀ j, j < k + 1 → ¬ bad L p q u j) := fun j hj hb => by
              by_cases e : j = k
              · subst e
                rcases (HB.out j).1 hb with ⟨a1, a2, a3, a4, a5⟩ | ⟨a1, a2, a3, a4, a5⟩
                · exact absurd a3 mo
                · omega
              · exact hno.out j (by omega) hb
            clear mo
            go_wp2_with fail
            refine (specHas_no _ _ _ _ _ hlu J5.out MPU.out).mono ?_
            rintro e w6 ⟨rfl, hw6⟩
            have ew : w5 = w6 := hw6.symm
            subst ew
            clear hw6
            go_wp2
            go_roundw
            case rel => exact ⟨k + 1, by omega, by go_num, NB, B5⟩
            case measure => simp [intOf]; omega
        · by_cases hs2 : s < 0
          · clear hl0
            by_cases mo : (FL L k).id ∈ PQ
            · have MPQ : Hid ((FL L k).id ∈ PQ) := mo
              by_cases mt : (FL L k).id ∈ PU
              · have MPU : Hid ((FL L k).id ∈ PU) := mt
                have NB : Hid (∀ j, j < k + 1 → ¬ bad L p q u j) := fun j hj hb => by
                  by_cases e : j = k
                  · subst e
                    rcases (HB.out j).1 hb with ⟨a1, a2, a3, a4, a5⟩ | ⟨a1, a2, a3, a4, a5⟩
                    · omega
                    · exact absurd mt a4
                  · exact hno.out j (by omega) hb
                clear mo mt
                go_wp2_with fail
                refine (specHas_yes _ _ _ _ _ hlq I5.out MPQ.out).mono ?_
                rintro e w6 ⟨rfl, hw6⟩
                have ew : w5 = w6 := hw6.symm
                subst ew
                clear hw6
                go_wp2_with fail
                refine (specHas_yes _ _ _ _ _ hlu J5.out MPU.out).mono ?_
                rintro e w6 ⟨rfl, hw6⟩
                have ew : w5 = w6 := hw6.symm
                subst ew
                clear hw6
                go_wp2
                go_roundw
                case rel => exact ⟨k + 1, by omega, by go_num, NB, B5⟩
                case measure => simp [intOf]; omega
              · have MPU : Hid ((FL L k).id ∉ PU) := mt
                by_cases hlo : sumAll (FL L) L.length k + (FL L k).limit < -s
                · have E : Hid (hangS L p q u = (6, L)) := HE6.out ⟨k, hlt, (HB.out k).2 (Or.inr ⟨by omega, by omega, mo, mt, hlo⟩)⟩
                  clear mo mt
                  go_wp2_with fail
                  refine (specHas_yes _ _ _ _ _ hlq I5.out MPQ.out).mono ?_
                  rintro e w6 ⟨rfl, hw6⟩
                  have ew : w5 = w6 := hw6.symm
                  subst ew
                  clear hw6
                  go_wp2_with fail
                  refine (specHas_no _ _ _ _ _ hlu J5.out MPU.out).mono ?_
                  rintro e w6 ⟨rfl, hw6⟩
                  have ew : w5 = w6 := hw6.symm
                  subst ew
                  clear hw6
                  go_wp2
                  go_ret2
                  rw [E.out]
                  exact ⟨_, rfl, A5.out, BB5.out⟩
                · skip
                  have NB : Hid (∀ j, j < k + 1 → ¬ bad L p q u j) := fun j hj hb => by
                    by_cases e : j = k
                    · subst e
                      rcases (HB.out j).1 hb with ⟨a1, a2, a3, a4, a5⟩ | ⟨a1, a2, a3, a4, a5⟩
                      · omega
                      · exact absurd a5 hlo
                    · exact hno.out j (by omega) hb
                  clear mo mt
                  go_wp2_with fail
                  refine (specHas_yes _ _ _ _ _ hlq I5.out MPQ.out).mono ?_
                  rintro e w6 ⟨rfl, hw6⟩
                  have ew : w5 = w6 := hw6.symm
                  subst ew
                  clear hw6
                  go_wp2_with fail
                  refine (specHas_no _ _ _ _ _ hlu J5.out MPU.out).mono ?_
                  rintro e w6 ⟨rfl, hw6⟩
                  have ew : w5 = w6 := hw6.symm
                  subst ew
                  clear hw6
                  go_wp2
                  go_roundw
                  case rel => exact ⟨k + 1, by omega, by go_num, NB, B5⟩
                  case measure => simp [intOf]; omega
            · have MPQ : Hid ((FL L k).id ∉ PQ) := mo
              have NB : Hid (∀ j, j < k + 1 → ¬ bad L p q u j) := fun j hj hb => by
                by_cases e : j = k
                · subst e
                  rcases (HB.out j).1 hb with ⟨a1, a2, a3, a4, a5⟩ | ⟨a1, a2, a3, a4, a5⟩
                  · omega
                  · exact absurd a3 mo
                · exact hno.out j (by omega) hb
              clear mo
              go_wp2_with fail
              refine (specHas_no _ _ _ _ _ hlq I5.out MPQ.out).mono ?_
              rintro e w6 ⟨rfl, hw6⟩
              have ew : w5 = w6 := hw6.symm
              subst ew
              clear hw6
              go_wp2
              go_roundw
              case rel => exact ⟨k + 1, by omega, by go_num, NB, B5⟩
              case measure => simp [intOf]; omega
          · skip
            have NB : Hid (∀ j, j < k + 1 → ¬ bad L p q u j) := fun j hj hb => by
              by_cases e : j = k
              · subst e
                rcases (HB.out j).1 hb with ⟨a1, a2, a3, a4, a5⟩ | ⟨a1, a2, a3, a4, a5⟩
                · omega
                · omega
              · exact hno.out j (by omega) hb
            clear hl0
            go_wp2
            go_roundw
            case rel => exact ⟨k + 1, by omega, by go_num, NB, B5⟩
            case measure => simp [intOf]; omega
    · have hkn : k = L.length := by omega
      subst hkn
      have NS : Hid (¬ hangShort L p q u) := fun ⟨j, hj, hb⟩ => hno.out j hj hb
      have E : Hid (hangS L p q u = (0, L.set p { FL L p with up := (FL L q).id })) := HE0.out NS.out
      obtain ⟨p0, p1, p2, p3, p4, p5, p6, p7⟩ := AR.out.acc hp
      have fz : ∀ j, wr.frozen? ⟨g, j, none⟩ = false := fun j => AR.out.frozen j
      obtain ⟨o0, o1, o2, o3, o4, oz⟩ := O4.out.below hB.out
      have A9 : Hid (AL (wr.setCell ⟨g, p * 8 + 1, none⟩ (.int .i64 (FL L q).id)) B (.slice (some ⟨g, 0, none⟩) L.length c) (L.set p { FL L p with up := (FL L q).id })) := by
        have s1 := AR.out.stored hp 1 (by omega) (.int .i64 (FL L q).id) { FL L p with up := (FL L q).id } rfl
        simp only [List.length_set] at s1
        exact s1
      have B9 : Hid (Below B w (wr.setCell ⟨g, p * 8 + 1, none⟩ (.int .i64 (FL L q).id))) := below_set (BB4.out.trans (hB.out.mono (Nat.le_trans hBw BB4.out.size))) hBg _ _
      clear p0 p2 p3 p4 p5 p6 p7 o0 o1 o3 o4
      go_wp2
      go_ret2
      rw [E.out]
      exact ⟨_, rfl, A9.out, B9.out⟩
end Go.Proofs.Ytleblllofibfkaa
