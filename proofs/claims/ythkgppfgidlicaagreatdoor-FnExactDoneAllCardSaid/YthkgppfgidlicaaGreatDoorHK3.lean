/- What hinders a payment, in the program. Conditions: the accounts lie in memory and are a right forest; the package's errors lie as they were laid. -/
import Derived.Test.YthkgppfgidlicaaGreatDoorHK2
namespace Go.Proofs.YthkgppfgidlicaaGreatDoor
open Go.RowKit

set_option maxRecDepth 8000 in
set_option maxHeartbeats 2000000 in
theorem hPay (a : Option Addr) (c : Nat) (L : List Acc) (i t m r : Int) (p : Nat → Addr) (w : World) (h : Fo w a L.length (FL L)) (hR : Right (FL L) L.length) (hG : GE w p) :
    Calls Tryz.prog 133 #[.agg #[.int .i64 i, .int .i64 t, .int .i64 m], .slice a L.length c] w fun e w' => HEnds p (partS L 7 i t m r).1 e ∧ Below w.heap.size w w' := by
  have S0 : Hid (HS w (w.alloc (.cells #[.int .i64 i, .int .i64 t, .int .i64 m] 120)) #[.int .i64 i, .int .i64 t, .int .i64 m] 120 a L.length (FL L) p) := HS.new _ _ h hG
  have HR : Hid (Right (FL L) L.length) := hR
  have hn12 := hR.1
  clear h hR hG
  cases hp : place (FL L) L.length i with
  | none =>
    have HJ : Hid (place (FL L) L.length i = none) := hp
    have E : Hid ((partS L 7 i t m r).1 = codeG 2) := part_none (by decide) hp
    clear hp
    go_enter Tryz.func133, Tryz.ntmps133
    go_wp2_with fail
    refine (found_no a L.length c (FL L) i p _ S0.out.2.1 HJ.out S0.out.2.2.1).mono ?_
    rintro e w1 ⟨rfl, B1⟩
    have S1 : Hid (HS w (w1.alloc (.cells #[.int .i64 0, .int .i64 0, .int .i64 0, .int .i64 0, .int .i64 0, .bool false, .int .i64 0, .int .i64 0] 38)) #[.int .i64 i, .int .i64 t, .int .i64 m] 120 a L.length (FL L) p) := (S0.out.below B1).alloc _
    have X1 := S1.out.1
    clear B1 S0
    go_wp2
    go_ret
    exact ⟨HEnds.ref i 2 (by omega) E.out (by decide), S1.out.2.2.2.1⟩
  | some j =>
    have HJ : Hid (place (FL L) L.length i = some j) := hp
    obtain ⟨hj, hid⟩ := place_some hp
    have HC : Hid (chain (FL L) L.length L.length i = some (pathL (FL L) L.length j)) := by
      have := path_of HR.out hj
      rw [hid] at this
      exact this
    cases hq : place (FL L) L.length t with
    | none =>
      have HQ : Hid (place (FL L) L.length t = none) := hq
      have E : Hid ((partS L 7 i t m r).1 = codeG 2) := (by simp [partS, hp, hq, codeG] : (partS L 7 i t m r).1 = codeG 2)
      clear hp hq hid
      go_enter Tryz.func133, Tryz.ntmps133
      go_wp2_with fail
      refine (found_yes a L.length c (FL L) i j _ S0.out.2.1 HJ.out).mono ?_
      rintro e w1 ⟨rfl, B1⟩
      have S1 : Hid (HS w (w1.alloc (.cells #[.int .i64 (FL L j).id, .int .i64 (FL L j).up, .int .i64 (FL L j).limit, .int .i64 (FL L j).rate, .int .i64 (FL L j).target, .bool (FL L j).frozen, .int .i64 (FL L j).balance, .int .i64 (FL L j).carry] 38)) #[.int .i64 i, .int .i64 t, .int .i64 m] 120 a L.length (FL L) p) := (S0.out.below B1).alloc _
      have X1 := S1.out.1
      clear B1 S0
      go_wp2_with fail
      refine (warm_no a L.length c (FL L) t p _ S1.out.2.1 HQ.out S1.out.2.2.1).mono ?_
      rintro e w2 ⟨rfl, B2⟩
      have S2 : Hid (HS w (w2.alloc (.cells #[.int .i64 0, .int .i64 0, .int .i64 0, .int .i64 0, .int .i64 0, .bool false, .int .i64 0, .int .i64 0] 38)) #[.int .i64 i, .int .i64 t, .int .i64 m] 120 a L.length (FL L) p) := (S1.out.below B2).alloc _
      have X2 := S2.out.1
      clear B2 S1 X1
      go_wp2
      go_ret
      exact ⟨HEnds.ref t 2 (by omega) E.out (by decide), S2.out.2.2.2.1⟩
    | some q =>
      have HQ : Hid (place (FL L) L.length t = some q) := hq
      obtain ⟨hql, hqid⟩ := place_some hq
      have HCT : Hid (chain (FL L) L.length L.length t = some (pathL (FL L) L.length q)) := by
        have := path_of HR.out hql
        rw [hqid] at this
        exact this
      have EP : Hid ((partS L 7 i t m r).1 = (payS L j q m).1) := (by simp [partS, hp, hq] : (partS L 7 i t m r).1 = (payS L j q m).1)
      have HPS : Hid (payShort L j q m ↔ shortP (FL L) L.length (pathL (FL L) L.length j) (pathL (FL L) L.length q) m) := pay_short HR.out hj
      clear hp hq hid hqid
      cases hfq : (FL L q).frozen with
      | true =>
        have HFQ : Hid ((FL L q).frozen = true) := hfq
        have E : Hid ((partS L 7 i t m r).1 = codeG 4) := (by rw [EP.out]; simp [payS, hfq, codeG] : (partS L 7 i t m r).1 = codeG 4)
        clear hfq
        go_enter Tryz.func133, Tryz.ntmps133
        go_wp2_with fail
        refine (found_yes a L.length c (FL L) i j _ S0.out.2.1 HJ.out).mono ?_
        rintro e w1 ⟨rfl, B1⟩
        have S1 : Hid (HS w (w1.alloc (.cells #[.int .i64 (FL L j).id, .int .i64 (FL L j).up, .int .i64 (FL L j).limit, .int .i64 (FL L j).rate, .int .i64 (FL L j).target, .bool (FL L j).frozen, .int .i64 (FL L j).balance, .int .i64 (FL L j).carry] 38)) #[.int .i64 i, .int .i64 t, .int .i64 m] 120 a L.length (FL L) p) := (S0.out.below B1).alloc _
        have X1 := S1.out.1
        clear B1 S0
        go_wp2_with fail
        refine (warm_frozen a L.length c (FL L) t q p _ S1.out.2.1 HQ.out HFQ.out S1.out.2.2.1).mono ?_
        rintro e w2 ⟨rfl, B2⟩
        have S2 : Hid (HS w (w2.alloc (.cells #[.int .i64 (FL L q).id, .int .i64 (FL L q).up, .int .i64 (FL L q).limit, .int .i64 (FL L q).rate, .int .i64 (FL L q).target, .bool true, .int .i64 (FL L q).balance, .int .i64 (FL L q).carry] 38)) #[.int .i64 i, .int .i64 t, .int .i64 m] 120 a L.length (FL L) p) := (S1.out.below B2).alloc _
        have X2 := S2.out.1
        clear B2 S1 X1
        go_wp2
        go_ret
        exact ⟨HEnds.ref t 4 (by omega) E.out (by decide), S2.out.2.2.2.1⟩
      | false =>
        have HFQ : Hid ((FL L q).frozen = false) := hfq
        cases hfj : (FL L j).frozen with
        | true =>
          have HFZ : Hid ((FL L j).frozen = true) := hfj
          have E : Hid ((partS L 7 i t m r).1 = codeG 4) := (by rw [EP.out]; simp [payS, hfj, codeG] : (partS L 7 i t m r).1 = codeG 4)
          clear hfq hfj
          go_enter Tryz.func133, Tryz.ntmps133
          go_wp2_with fail
          refine (found_yes a L.length c (FL L) i j _ S0.out.2.1 HJ.out).mono ?_
          rintro e w1 ⟨rfl, B1⟩
          have S1 : Hid (HS w (w1.alloc (.cells #[.int .i64 (FL L j).id, .int .i64 (FL L j).up, .int .i64 (FL L j).limit, .int .i64 (FL L j).rate, .int .i64 (FL L j).target, .bool (FL L j).frozen, .int .i64 (FL L j).balance, .int .i64 (FL L j).carry] 38)) #[.int .i64 i, .int .i64 t, .int .i64 m] 120 a L.length (FL L) p) := (S0.out.below B1).alloc _
          have X1 := S1.out.1
          clear B1 S0
          go_wp2_with fail
          refine (warm_yes a L.length c (FL L) t q _ S1.out.2.1 HQ.out HFQ.out).mono ?_
          rintro e w2 ⟨rfl, B2⟩
          have S2 : Hid (HS w (w2.alloc (.cells #[.int .i64 (FL L q).id, .int .i64 (FL L q).up, .int .i64 (FL L q).limit, .int .i64 (FL L q).rate, .int .i64 (FL L q).target, .bool false, .int .i64 (FL L q).balance, .int .i64 (FL L q).carry] 38)) #[.int .i64 i, .int .i64 t, .int .i64 m] 120 a L.length (FL L) p) := (S1.out.below B2).alloc _
          have X2 := S2.out.1
          clear B2 S1 X1
          go_wp2_with fail
          refine (warm_frozen a L.length c (FL L) i j p _ S2.out.2.1 HJ.out HFZ.out S2.out.2.2.1).mono ?_
          rintro e w3 ⟨rfl, B3⟩
          have S3 : Hid (HS w (w3.alloc (.cells #[.int .i64 (FL L j).id, .int .i64 (FL L j).up, .int .i64 (FL L j).limit, .int .i64 (FL L j).rate, .int .i64 (FL L j).target, .bool true, .int .i64 (FL L j).balance, .int .i64 (FL L j).carry] 38)) #[.int .i64 i, .int .i64 t, .int .i64 m] 120 a L.length (FL L) p) := (S2.out.below B3).alloc _
          have X3 := S3.out.1
          clear B3 S2 X2
          go_wp2
          go_ret
          exact ⟨HEnds.ref i 4 (by omega) E.out (by decide), S3.out.2.2.2.1⟩
        | false =>
          have HFZ : Hid ((FL L j).frozen = false) := hfj
          have EP2 : Hid ((payShort L j q m → (payS L j q m).1 = 6) ∧ (¬ payShort L j q m → (payS L j q m).1 = 0)) := ⟨fun h => by simp [payS, hfj, hfq, h], fun h => by simp [payS, hfj, hfq, h]⟩
          clear hfq hfj
          go_enter Tryz.func133, Tryz.ntmps133
          go_wp2_with fail
          refine (found_yes a L.length c (FL L) i j _ S0.out.2.1 HJ.out).mono ?_
          rintro e w1 ⟨rfl, B1⟩
          have S1 : Hid (HS w (w1.alloc (.cells #[.int .i64 (FL L j).id, .int .i64 (FL L j).up, .int .i64 (FL L j).limit, .int .i64 (FL L j).rate, .int .i64 (FL L j).target, .bool (FL L j).frozen, .int .i64 (FL L j).balance, .int .i64 (FL L j).carry] 38)) #[.int .i64 i, .int .i64 t, .int .i64 m] 120 a L.length (FL L) p) := (S0.out.below B1).alloc _
          have X1 := S1.out.1
          clear B1 S0
          go_wp2_with fail
          refine (warm_yes a L.length c (FL L) t q _ S1.out.2.1 HQ.out HFQ.out).mono ?_
          rintro e w2 ⟨rfl, B2⟩
          have S2 : Hid (HS w (w2.alloc (.cells #[.int .i64 (FL L q).id, .int .i64 (FL L q).up, .int .i64 (FL L q).limit, .int .i64 (FL L q).rate, .int .i64 (FL L q).target, .bool false, .int .i64 (FL L q).balance, .int .i64 (FL L q).carry] 38)) #[.int .i64 i, .int .i64 t, .int .i64 m] 120 a L.length (FL L) p) := (S1.out.below B2).alloc _
          have X2 := S2.out.1
          clear B2 S1 X1
          go_wp2_with fail
          refine (warm_yes a L.length c (FL L) i j _ S2.out.2.1 HJ.out HFZ.out).mono ?_
          rintro e w3 ⟨rfl, B3⟩
          have S3 : Hid (HS w (w3.alloc (.cells #[.int .i64 (FL L j).id, .int .i64 (FL L j).up, .int .i64 (FL L j).limit, .int .i64 (FL L j).rate, .int .i64 (FL L j).target, .bool false, .int .i64 (FL L j).balance, .int .i64 (FL L j).carry] 38)) #[.int .i64 i, .int .i64 t, .int .i64 m] 120 a L.length (FL L) p) := (S2.out.below B3).alloc _
          have X3 := S3.out.1
          clear B3 S2 X2
          go_wp2_with fail
          refine (shortOn a L.length c (FL L) i t m (pathL (FL L) L.length j) (pathL (FL L) L.length q) p _ S3.out.2.1 HR.out HC.out HCT.out S3.out.2.2.1).mono ?_
          rintro e w4 ⟨hs, B4⟩
          have S4 : Hid (HS w w4 #[.int .i64 i, .int .i64 t, .int .i64 m] 120 a L.length (FL L) p) := S3.out.below B4
          clear B4 S3 X3
          rcases hs with ⟨hs, i2, rfl⟩ | ⟨hs, rfl⟩
          · have E : Hid ((partS L 7 i t m r).1 = codeG 5) := (by rw [EP.out]; exact EP2.out.1 (HPS.out.2 hs) : (partS L 7 i t m r).1 = codeG 5)
            clear hs
            unfold refV
            go_wp2
            go_ret
            exact ⟨HEnds.ref i2 5 (by omega) E.out (by decide), S4.out.2.2.2.1⟩
          · have E : Hid ((partS L 7 i t m r).1 = 0) := (by rw [EP.out]; exact EP2.out.2 (fun h => hs (HPS.out.1 h)) : (partS L 7 i t m r).1 = 0)
            clear hs
            go_wp2
            go_ret
            exact ⟨HEnds.ok E.out, S4.out.2.2.2.1⟩

end Go.Proofs.YthkgppfgidlicaaGreatDoor
