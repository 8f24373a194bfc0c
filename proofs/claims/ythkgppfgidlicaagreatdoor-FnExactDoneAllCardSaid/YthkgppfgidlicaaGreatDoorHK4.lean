/- What hinders hanging an account elsewhere, in the program. Conditions: the accounts lie in memory and are a right forest; the package's errors lie as they were laid. -/
import Derived.Test.YthkgppfgidlicaaGreatDoorHK2
namespace Go.Proofs.YthkgppfgidlicaaGreatDoor
open Go.RowKit

set_option maxRecDepth 8000 in
set_option maxHeartbeats 2000000 in
theorem hHang (a : Option Addr) (c : Nat) (L : List Acc) (i t m r : Int) (p : Nat → Addr) (w : World) (h : Fo w a L.length (FL L)) (hR : Right (FL L) L.length) (hG : GE w p) :
    Calls Tryz.prog 136 #[.agg #[.int .i64 i, .int .i64 t], .slice a L.length c] w fun e w' => HEnds p (partS L 9 i t m r).1 e ∧ Below w.heap.size w w' := by
  have S0 : Hid (HS w (w.alloc (.cells #[.int .i64 i, .int .i64 t] 126)) #[.int .i64 i, .int .i64 t] 126 a L.length (FL L) p) := HS.new _ _ h hG
  have HR : Hid (Right (FL L) L.length) := hR
  have hn12 := hR.1
  clear h hR hG
  cases hp : place (FL L) L.length i with
  | none =>
    have HJ : Hid (place (FL L) L.length i = none) := hp
    have E : Hid ((partS L 9 i t m r).1 = codeG 2) := part_none (by decide) hp
    clear hp
    go_enter Tryz.func136, Tryz.ntmps136
    go_wp2_with fail
    refine (found_no a L.length c (FL L) i p _ S0.out.2.1 HJ.out S0.out.2.2.1).mono ?_
    rintro e w1 ⟨rfl, B1⟩
    have S1 : Hid (HS w (w1.alloc (.cells #[.int .i64 0, .int .i64 0, .int .i64 0, .int .i64 0, .int .i64 0, .bool false, .int .i64 0, .int .i64 0] 38)) #[.int .i64 i, .int .i64 t] 126 a L.length (FL L) p) := (S0.out.below B1).alloc _
    have X1 := S1.out.1
    clear B1 S0
    go_wp2
    go_ret
    exact ⟨HEnds.ref i 2 (by omega) E.out (by decide), S1.out.2.2.2.1⟩
  | some j =>
    have HJ : Hid (place (FL L) L.length i = some j) := hp
    obtain ⟨hj, hid⟩ := place_some hp
    cases hq : place (FL L) L.length t with
    | none =>
      have HQ : Hid (place (FL L) L.length t = none) := hq
      have E : Hid ((partS L 9 i t m r).1 = codeG 2) := (by simp [partS, hp, hq, codeG] : (partS L 9 i t m r).1 = codeG 2)
      clear hp hq hid
      go_enter Tryz.func136, Tryz.ntmps136
      go_wp2_with fail
      refine (found_yes a L.length c (FL L) i j _ S0.out.2.1 HJ.out).mono ?_
      rintro e w1 ⟨rfl, B1⟩
      have S1 : Hid (HS w (w1.alloc (.cells #[.int .i64 (FL L j).id, .int .i64 (FL L j).up, .int .i64 (FL L j).limit, .int .i64 (FL L j).rate, .int .i64 (FL L j).target, .bool (FL L j).frozen, .int .i64 (FL L j).balance, .int .i64 (FL L j).carry] 38)) #[.int .i64 i, .int .i64 t] 126 a L.length (FL L) p) := (S0.out.below B1).alloc _
      have X1 := S1.out.1
      clear B1 S0
      go_wp2_with fail
      refine (found_no a L.length c (FL L) t p _ S1.out.2.1 HQ.out S1.out.2.2.1).mono ?_
      rintro e w2 ⟨rfl, B2⟩
      have S2 : Hid (HS w (w2.alloc (.cells #[.int .i64 0, .int .i64 0, .int .i64 0, .int .i64 0, .int .i64 0, .bool false, .int .i64 0, .int .i64 0] 38)) #[.int .i64 i, .int .i64 t] 126 a L.length (FL L) p) := (S1.out.below B2).alloc _
      have X2 := S2.out.1
      clear B2 S1 X1
      go_wp2
      go_ret
      exact ⟨HEnds.ref t 2 (by omega) E.out (by decide), S2.out.2.2.2.1⟩
    | some q =>
      have HQ : Hid (place (FL L) L.length t = some q) := hq
      obtain ⟨hql, hqid⟩ := place_some hq
      have HCT : Hid (chain (FL L) L.length L.length t = some (pathL (FL L) L.length q)) := by
        have := path_of HR.out hql
        rw [hqid] at this
        exact this
      have EH : Hid ((partS L 9 i t m r).1 = (hangS L j q ((place (FL L) L.length (FL L j).up).getD 0)).1) := (by simp [partS, hp, hq] : (partS L 9 i t m r).1 = (hangS L j q ((place (FL L) L.length (FL L j).up).getD 0)).1)
      have HID : Hid ((FL L j).id = i) := hid
      clear hp hq hid hqid
      by_cases hu : (FL L j).up = 0
      · have hub : ((FL L j).up == 0) = true := by simp [hu]
        have E : Hid ((partS L 9 i t m r).1 = codeG 6) := (by rw [EH.out]; simp [hangS, hu, codeG] : (partS L 9 i t m r).1 = codeG 6)
        clear hu
        go_enter Tryz.func136, Tryz.ntmps136
        go_wp2_with fail
        refine (found_yes a L.length c (FL L) i j _ S0.out.2.1 HJ.out).mono ?_
        rintro e w1 ⟨rfl, B1⟩
        have S1 : Hid (HS w (w1.alloc (.cells #[.int .i64 (FL L j).id, .int .i64 (FL L j).up, .int .i64 (FL L j).limit, .int .i64 (FL L j).rate, .int .i64 (FL L j).target, .bool (FL L j).frozen, .int .i64 (FL L j).balance, .int .i64 (FL L j).carry] 38)) #[.int .i64 i, .int .i64 t] 126 a L.length (FL L) p) := (S0.out.below B1).alloc _
        have X1 := S1.out.1
        clear B1 S0
        have hz1 : w1.heap.size < (w1.alloc (.cells #[.int .i64 (FL L j).id, .int .i64 (FL L j).up, .int .i64 (FL L j).limit, .int .i64 (FL L j).rate, .int .i64 (FL L j).target, .bool (FL L j).frozen, .int .i64 (FL L j).balance, .int .i64 (FL L j).carry] 38)).heap.size := by simp
        go_wp2_with fail
        refine (found_yes a L.length c (FL L) t q _ S1.out.2.1 HQ.out).mono ?_
        rintro e w2 ⟨rfl, B2⟩
        have hz2 : w1.heap.size < w2.heap.size := Nat.lt_of_lt_of_le hz1 B2.size
        have S2 : Hid (HS w (w2.alloc (.cells #[.int .i64 (FL L q).id, .int .i64 (FL L q).up, .int .i64 (FL L q).limit, .int .i64 (FL L q).rate, .int .i64 (FL L q).target, .bool (FL L q).frozen, .int .i64 (FL L q).balance, .int .i64 (FL L q).carry] 38)) #[.int .i64 i, .int .i64 t] 126 a L.length (FL L) p) := (S1.out.below B2).alloc _
        have X2 := S2.out.1
        have Y2 : ∀ y, (w2.alloc (.cells #[.int .i64 (FL L q).id, .int .i64 (FL L q).up, .int .i64 (FL L q).limit, .int .i64 (FL L q).rate, .int .i64 (FL L q).target, .bool (FL L q).frozen, .int .i64 (FL L q).balance, .int .i64 (FL L q).carry] 38)).cell? ⟨w1.heap.size, y, none⟩ = (w1.alloc (.cells #[.int .i64 (FL L j).id, .int .i64 (FL L j).up, .int .i64 (FL L j).limit, .int .i64 (FL L j).rate, .int .i64 (FL L j).target, .bool (FL L j).frozen, .int .i64 (FL L j).balance, .int .i64 (FL L j).carry] 38)).cell? ⟨w1.heap.size, y, none⟩ := fun y => by
          rw [World.cell?_alloc_lt _ _ ⟨w1.heap.size, y, none⟩ hz2, B2.cell (p := ⟨w1.heap.size, y, none⟩) hz1]
        clear B2 S1 X1
        have gv := S2.out.2.2.1.var 6 (by omega)
        go_wp2
        go_ret
        exact ⟨HEnds.ref i 6 (by omega) E.out (by decide), S2.out.2.2.2.1⟩
      have hub : ((FL L j).up == 0) = false := by simp [hu]
      obtain ⟨u, hun, huid, _⟩ := HR.out.path_up hj hu
      have hpu : place (FL L) L.length (FL L j).up = some u := by rw [← huid]; exact place_self HR.out.2.2.1 hun
      have HCU : Hid (chain (FL L) L.length L.length (FL L j).up = some (pathL (FL L) L.length u)) := by
        have := path_of HR.out hun
        rw [huid] at this
        exact this
      rw [hpu, Option.getD_some] at EH
      by_cases hm : i ∈ pathL (FL L) L.length q
      · have HM : Hid (i ∈ pathL (FL L) L.length q) := hm
        have E : Hid ((partS L 9 i t m r).1 = codeG 6) := (by rw [EH.out]; unfold hangS; rw [if_pos (Or.inr (by rw [HID.out]; exact hm))]; rfl : (partS L 9 i t m r).1 = codeG 6)
        clear hu hm huid hpu
        go_enter Tryz.func136, Tryz.ntmps136
        go_wp2_with fail
        refine (found_yes a L.length c (FL L) i j _ S0.out.2.1 HJ.out).mono ?_
        rintro e w1 ⟨rfl, B1⟩
        have S1 : Hid (HS w (w1.alloc (.cells #[.int .i64 (FL L j).id, .int .i64 (FL L j).up, .int .i64 (FL L j).limit, .int .i64 (FL L j).rate, .int .i64 (FL L j).target, .bool (FL L j).frozen, .int .i64 (FL L j).balance, .int .i64 (FL L j).carry] 38)) #[.int .i64 i, .int .i64 t] 126 a L.length (FL L) p) := (S0.out.below B1).alloc _
        have X1 := S1.out.1
        clear B1 S0
        have hz1 : w1.heap.size < (w1.alloc (.cells #[.int .i64 (FL L j).id, .int .i64 (FL L j).up, .int .i64 (FL L j).limit, .int .i64 (FL L j).rate, .int .i64 (FL L j).target, .bool (FL L j).frozen, .int .i64 (FL L j).balance, .int .i64 (FL L j).carry] 38)).heap.size := by simp
        go_wp2_with fail
        refine (found_yes a L.length c (FL L) t q _ S1.out.2.1 HQ.out).mono ?_
        rintro e w2 ⟨rfl, B2⟩
        have hz2 : w1.heap.size < w2.heap.size := Nat.lt_of_lt_of_le hz1 B2.size
        have S2 : Hid (HS w (w2.alloc (.cells #[.int .i64 (FL L q).id, .int .i64 (FL L q).up, .int .i64 (FL L q).limit, .int .i64 (FL L q).rate, .int .i64 (FL L q).target, .bool (FL L q).frozen, .int .i64 (FL L q).balance, .int .i64 (FL L q).carry] 38)) #[.int .i64 i, .int .i64 t] 126 a L.length (FL L) p) := (S1.out.below B2).alloc _
        have X2 := S2.out.1
        have Y2 : ∀ y, (w2.alloc (.cells #[.int .i64 (FL L q).id, .int .i64 (FL L q).up, .int .i64 (FL L q).limit, .int .i64 (FL L q).rate, .int .i64 (FL L q).target, .bool (FL L q).frozen, .int .i64 (FL L q).balance, .int .i64 (FL L q).carry] 38)).cell? ⟨w1.heap.size, y, none⟩ = (w1.alloc (.cells #[.int .i64 (FL L j).id, .int .i64 (FL L j).up, .int .i64 (FL L j).limit, .int .i64 (FL L j).rate, .int .i64 (FL L j).target, .bool (FL L j).frozen, .int .i64 (FL L j).balance, .int .i64 (FL L j).carry] 38)).cell? ⟨w1.heap.size, y, none⟩ := fun y => by
          rw [World.cell?_alloc_lt _ _ ⟨w1.heap.size, y, none⟩ hz2, B2.cell (p := ⟨w1.heap.size, y, none⟩) hz1]
        clear B2 S1 X1
        go_wp2_with fail
        refine (onPath_yes a L.length c (FL L) i t (pathL (FL L) L.length q) _ S2.out.2.1 HR.out HCT.out HM.out).mono ?_
        rintro e w3 ⟨rfl, B3⟩
        have S3 : Hid (HS w w3 #[.int .i64 i, .int .i64 t] 126 a L.length (FL L) p) := S2.out.below B3
        have X3 := S3.out.1
        clear B3 S2 X2 Y2
        have gv := S3.out.2.2.1.var 6 (by omega)
        go_wp2
        go_ret
        exact ⟨HEnds.ref i 6 (by omega) E.out (by decide), S3.out.2.2.2.1⟩
      have HM : Hid (i ∉ pathL (FL L) L.length q) := hm
      have HHS : Hid (hangShort L j q u ↔ (0 < sumAll (FL L) L.length j ∧ shortP (FL L) L.length (pathL (FL L) L.length u) (pathL (FL L) L.length q) (sumAll (FL L) L.length j)) ∨ (sumAll (FL L) L.length j < 0 ∧ shortP (FL L) L.length (pathL (FL L) L.length q) (pathL (FL L) L.length u) (-sumAll (FL L) L.length j))) := hang_short HR.out
      have EH2 : Hid ((hangShort L j q u → (hangS L j q u).1 = 6) ∧ (¬ hangShort L j q u → (hangS L j q u).1 = 0)) := by
        have hn : ¬ ((FL L j).up = 0 ∨ (FL L j).id ∈ pathL (FL L) L.length q) := by
          rintro (e | e)
          · exact hu e
          · rw [HID.out] at e; exact hm e
        exact ⟨fun h => by unfold hangS; rw [if_neg hn, if_pos h], fun h => by unfold hangS; rw [if_neg hn, if_neg h]⟩
      obtain ⟨sb1, sb2⟩ := sumAll_bd HR.out j
      clear hu hm huid hpu
      go_enter Tryz.func136, Tryz.ntmps136
      go_wp2_with fail
      refine (found_yes a L.length c (FL L) i j _ S0.out.2.1 HJ.out).mono ?_
      rintro e w1 ⟨rfl, B1⟩
      have S1 : Hid (HS w (w1.alloc (.cells #[.int .i64 (FL L j).id, .int .i64 (FL L j).up, .int .i64 (FL L j).limit, .int .i64 (FL L j).rate, .int .i64 (FL L j).target, .bool (FL L j).frozen, .int .i64 (FL L j).balance, .int .i64 (FL L j).carry] 38)) #[.int .i64 i, .int .i64 t] 126 a L.length (FL L) p) := (S0.out.below B1).alloc _
      have X1 := S1.out.1
      clear B1 S0
      have hz1 : w1.heap.size < (w1.alloc (.cells #[.int .i64 (FL L j).id, .int .i64 (FL L j).up, .int .i64 (FL L j).limit, .int .i64 (FL L j).rate, .int .i64 (FL L j).target, .bool (FL L j).frozen, .int .i64 (FL L j).balance, .int .i64 (FL L j).carry] 38)).heap.size := by simp
      go_wp2_with fail
      refine (found_yes a L.length c (FL L) t q _ S1.out.2.1 HQ.out).mono ?_
      rintro e w2 ⟨rfl, B2⟩
      have hz2 : w1.heap.size < w2.heap.size := Nat.lt_of_lt_of_le hz1 B2.size
      have S2 : Hid (HS w (w2.alloc (.cells #[.int .i64 (FL L q).id, .int .i64 (FL L q).up, .int .i64 (FL L q).limit, .int .i64 (FL L q).rate, .int .i64 (FL L q).target, .bool (FL L q).frozen, .int .i64 (FL L q).balance, .int .i64 (FL L q).carry] 38)) #[.int .i64 i, .int .i64 t] 126 a L.length (FL L) p) := (S1.out.below B2).alloc _
      have X2 := S2.out.1
      have Y2 : ∀ y, (w2.alloc (.cells #[.int .i64 (FL L q).id, .int .i64 (FL L q).up, .int .i64 (FL L q).limit, .int .i64 (FL L q).rate, .int .i64 (FL L q).target, .bool (FL L q).frozen, .int .i64 (FL L q).balance, .int .i64 (FL L q).carry] 38)).cell? ⟨w1.heap.size, y, none⟩ = (w1.alloc (.cells #[.int .i64 (FL L j).id, .int .i64 (FL L j).up, .int .i64 (FL L j).limit, .int .i64 (FL L j).rate, .int .i64 (FL L j).target, .bool (FL L j).frozen, .int .i64 (FL L j).balance, .int .i64 (FL L j).carry] 38)).cell? ⟨w1.heap.size, y, none⟩ := fun y => by
        rw [World.cell?_alloc_lt _ _ ⟨w1.heap.size, y, none⟩ hz2, B2.cell (p := ⟨w1.heap.size, y, none⟩) hz1]
      clear B2 S1 X1
      go_wp2_with fail
      refine (onPath_no a L.length c (FL L) i t (pathL (FL L) L.length q) _ S2.out.2.1 HR.out HCT.out HM.out).mono ?_
      rintro e w3 ⟨rfl, B3⟩
      have hz2' : w1.heap.size < (w2.alloc (.cells #[.int .i64 (FL L q).id, .int .i64 (FL L q).up, .int .i64 (FL L q).limit, .int .i64 (FL L q).rate, .int .i64 (FL L q).target, .bool (FL L q).frozen, .int .i64 (FL L q).balance, .int .i64 (FL L q).carry] 38)).heap.size := by simp; omega
      have S3 : Hid (HS w w3 #[.int .i64 i, .int .i64 t] 126 a L.length (FL L) p) := S2.out.below B3
      have X3 := S3.out.1
      have hz3 : w1.heap.size < w3.heap.size := Nat.lt_of_lt_of_le hz2' B3.size
      have Y3 : ∀ y, w3.cell? ⟨w1.heap.size, y, none⟩ = (w1.alloc (.cells #[.int .i64 (FL L j).id, .int .i64 (FL L j).up, .int .i64 (FL L j).limit, .int .i64 (FL L j).rate, .int .i64 (FL L j).target, .bool (FL L j).frozen, .int .i64 (FL L j).balance, .int .i64 (FL L j).carry] 38)).cell? ⟨w1.heap.size, y, none⟩ := fun y => by
        rw [B3.cell (p := ⟨w1.heap.size, y, none⟩) hz2']; exact Y2 y
      have hz3' := hz3
      clear B3 S2 X2 Y2
      go_wp2_with fail
      refine (implSumFrom a L.length c (FL L) j _ S3.out.2.1 HR.out hj).mono ?_
      rintro e w4 ⟨rfl, B4⟩
      have S4 : Hid (HS w w4 #[.int .i64 i, .int .i64 t] 126 a L.length (FL L) p) := S3.out.below B4
      have X4 := S4.out.1
      have hz4 : w1.heap.size < w4.heap.size := Nat.lt_of_lt_of_le hz3' B4.size
      have Y4 : ∀ y, w4.cell? ⟨w1.heap.size, y, none⟩ = (w1.alloc (.cells #[.int .i64 (FL L j).id, .int .i64 (FL L j).up, .int .i64 (FL L j).limit, .int .i64 (FL L j).rate, .int .i64 (FL L j).target, .bool (FL L j).frozen, .int .i64 (FL L j).balance, .int .i64 (FL L j).carry] 38)).cell? ⟨w1.heap.size, y, none⟩ := fun y => by
        rw [B4.cell (p := ⟨w1.heap.size, y, none⟩) hz3']; exact Y3 y
      have hz4' := hz4
      clear B4 S3 X3 Y3
      by_cases s1 : 0 < sumAll (FL L) L.length j
      · skip
        go_wp2_with fail
        refine (shortOn a L.length c (FL L) (FL L j).up t (sumAll (FL L) L.length j) (pathL (FL L) L.length u) (pathL (FL L) L.length q) p _ S4.out.2.1 HR.out HCU.out HCT.out S4.out.2.2.1).mono ?_
        rintro e w5 ⟨hs, B5⟩
        have S5 : Hid (HS w w5 #[.int .i64 i, .int .i64 t] 126 a L.length (FL L) p) := S4.out.below B5
        clear B5 S4 X4 Y4
        rcases hs with ⟨hs, i2, rfl⟩ | ⟨hs, rfl⟩
        · have E : Hid ((partS L 9 i t m r).1 = codeG 5) := (by rw [EH.out]; exact EH2.out.1 (HHS.out.2 (Or.inl ⟨s1, hs⟩)) : (partS L 9 i t m r).1 = codeG 5)
          clear hs
          unfold refV
          go_wp2
          go_ret
          exact ⟨HEnds.ref i2 5 (by omega) E.out (by decide), S5.out.2.2.2.1⟩
        · have E : Hid ((partS L 9 i t m r).1 = 0) := (by rw [EH.out]; exact EH2.out.2 (fun h => (HHS.out.1 h).elim (fun h' => hs h'.2) (fun h' => by have := h'.1; omega)) : (partS L 9 i t m r).1 = 0)
          clear hs
          go_wp2
          go_ret
          exact ⟨HEnds.ok E.out, S5.out.2.2.2.1⟩
      by_cases s2 : sumAll (FL L) L.length j < 0
      · skip
        go_wp2_with fail
        refine (shortOn a L.length c (FL L) t (FL L j).up (-sumAll (FL L) L.length j) (pathL (FL L) L.length q) (pathL (FL L) L.length u) p _ S4.out.2.1 HR.out HCT.out HCU.out S4.out.2.2.1).mono ?_
        rintro e w5 ⟨hs, B5⟩
        have S5 : Hid (HS w w5 #[.int .i64 i, .int .i64 t] 126 a L.length (FL L) p) := S4.out.below B5
        clear B5 S4 X4 Y4
        rcases hs with ⟨hs, i2, rfl⟩ | ⟨hs, rfl⟩
        · have E : Hid ((partS L 9 i t m r).1 = codeG 5) := (by rw [EH.out]; exact EH2.out.1 (HHS.out.2 (Or.inr ⟨s2, hs⟩)) : (partS L 9 i t m r).1 = codeG 5)
          clear hs
          unfold refV
          go_wp2
          go_ret
          exact ⟨HEnds.ref i2 5 (by omega) E.out (by decide), S5.out.2.2.2.1⟩
        · have E : Hid ((partS L 9 i t m r).1 = 0) := (by rw [EH.out]; exact EH2.out.2 (fun h => (HHS.out.1 h).elim (fun h' => by have := h'.1; omega) (fun h' => hs h'.2)) : (partS L 9 i t m r).1 = 0)
          clear hs
          go_wp2
          go_ret
          exact ⟨HEnds.ok E.out, S5.out.2.2.2.1⟩
      have E : Hid ((partS L 9 i t m r).1 = 0) := (by rw [EH.out]; exact EH2.out.2 (fun h => (HHS.out.1 h).elim (fun h' => s1 h'.1) (fun h' => s2 h'.1)) : (partS L 9 i t m r).1 = 0)
      go_wp2
      go_ret
      exact ⟨HEnds.ok E.out, S4.out.2.2.2.1⟩

end Go.Proofs.YthkgppfgidlicaaGreatDoor
