/- What hinders an op, in the program: opening, closing, taking. Conditions: the accounts lie in memory and are a right forest; the package's errors lie as they were laid. -/
import Derived.Test.YthkgppfgidlicaaGreatDoorHK
import Derived.Test.YthkgppfgidlicaaGreatDoorRoomM
import Derived.Test.YthkgppfgidlicaaGreatDoorChB
namespace Go.Proofs.YthkgppfgidlicaaGreatDoor
open Go.RowKit

/-- What a look for hindrances knows of memory: its deed's box, the accounts, the package's errors. -/
def HS (w W : World) (X : Array Value) (T : Nat) (a : Option Addr) (n : Nat) (F : Nat → Acc) (p : Nat → Addr) : Prop :=
  (∀ q, W.cell? ⟨w.heap.size, q, none⟩ = (w.alloc (.cells X T)).cell? ⟨w.heap.size, q, none⟩) ∧ Fo W a n F ∧ GE W p ∧ Below w.heap.size w W ∧ w.heap.size < W.heap.size
theorem HS.new {w : World} (X : Array Value) (T : Nat) {a : Option Addr} {n : Nat} {F : Nat → Acc} {p : Nat → Addr} (h : Fo w a n F) (hG : GE w p) : HS w (w.alloc (.cells X T)) X T a n F p :=
  ⟨fun _ => rfl, h.alloc _, hG.below ((Below.refl _ _).alloc (Nat.le_refl _) _), (Below.refl _ _).alloc (Nat.le_refl _) _, by simp⟩
theorem HS.below {w W W' : World} {X : Array Value} {T : Nat} {a : Option Addr} {n : Nat} {F : Nat → Acc} {p : Nat → Addr} (h : HS w W X T a n F p) (hb : Below W.heap.size W W') : HS w W' X T a n F p :=
  ⟨fun q => by rw [hb.cell (p := ⟨w.heap.size, q, none⟩) h.2.2.2.2]; exact h.1 q, h.2.1.below hb, h.2.2.1.below hb, h.2.2.2.1.trans (hb.mono (Nat.le_of_lt h.2.2.2.2)), Nat.lt_of_lt_of_le h.2.2.2.2 hb.size⟩
theorem HS.alloc {w W : World} {X : Array Value} {T : Nat} {a : Option Addr} {n : Nat} {F : Nat → Acc} {p : Nat → Addr} (h : HS w W X T a n F p) (x : Obj) : HS w (W.alloc x) X T a n F p := h.below ((Below.refl _ _).alloc (Nat.le_refl _) x)

set_option maxRecDepth 8000 in
set_option maxHeartbeats 2000000 in
theorem hClose (a : Option Addr) (c : Nat) (L : List Acc) (i t m r : Int) (p : Nat → Addr) (w : World) (h : Fo w a L.length (FL L)) (hR : Right (FL L) L.length) (hG : GE w p) :
    Calls Tryz.prog 124 #[.agg #[.int .i64 i], .slice a L.length c] w fun e w' => HEnds p (partS L 4 i t m r).1 e ∧ Below w.heap.size w w' := by
  have S0 : Hid (HS w (w.alloc (.cells #[.int .i64 i] 115)) #[.int .i64 i] 115 a L.length (FL L) p) := HS.new _ _ h hG
  have HR : Hid (Right (FL L) L.length) := hR
  have hn12 := hR.1
  clear h hR hG
  cases hp : place (FL L) L.length i with
  | none =>
    have HJ : Hid (place (FL L) L.length i = none) := hp
    have E : Hid ((partS L 4 i t m r).1 = codeG 2) := part_none (by decide) hp
    clear hp
    go_enter Tryz.func124, Tryz.ntmps124
    go_wp2_with fail
    refine (warm_no a L.length c (FL L) i p _ S0.out.2.1 HJ.out S0.out.2.2.1).mono ?_
    rintro e w1 ⟨rfl, B1⟩
    have S1 : Hid (HS w (w1.alloc (.cells #[.int .i64 0, .int .i64 0, .int .i64 0, .int .i64 0, .int .i64 0, .bool false, .int .i64 0, .int .i64 0] 38)) #[.int .i64 i] 115 a L.length (FL L) p) := (S0.out.below B1).alloc _
    have X1 := S1.out.1
    clear B1 S0
    go_wp2
    go_ret
    exact ⟨HEnds.ref i 2 (by omega) E.out (by decide), S1.out.2.2.2.1⟩
  | some j =>
    have HJ : Hid (place (FL L) L.length i = some j) := hp
    obtain ⟨hj, hid⟩ := place_some hp
    have HID : Hid ((FL L j).id = i) := hid
    have EA : Hid ((partS L 4 i t m r).1 = (actS L j 4 m).1) := part_act (by decide) (by decide) (by decide) hp
    clear hp hid
    cases hf : (FL L j).frozen with
    | true =>
      have HFZ : Hid ((FL L j).frozen = true) := hf
      have E : Hid ((partS L 4 i t m r).1 = codeG 4) := (by rw [EA.out]; simp [actS, hf, codeG] : (partS L 4 i t m r).1 = codeG 4)
      clear hf
      go_enter Tryz.func124, Tryz.ntmps124
      go_wp2_with fail
      refine (warm_frozen a L.length c (FL L) i j p _ S0.out.2.1 HJ.out HFZ.out S0.out.2.2.1).mono ?_
      rintro e w1 ⟨rfl, B1⟩
      have S1 : Hid (HS w (w1.alloc (.cells #[.int .i64 (FL L j).id, .int .i64 (FL L j).up, .int .i64 (FL L j).limit, .int .i64 (FL L j).rate, .int .i64 (FL L j).target, .bool true, .int .i64 (FL L j).balance, .int .i64 (FL L j).carry] 38)) #[.int .i64 i] 115 a L.length (FL L) p) := (S0.out.below B1).alloc _
      have X1 := S1.out.1
      clear B1 S0
      go_wp2
      go_ret
      exact ⟨HEnds.ref i 4 (by omega) E.out (by decide), S1.out.2.2.2.1⟩
    | false =>
      have HFZ : Hid ((FL L j).frozen = false) := hf
      have EC : Hid ((actS L j 4 m).1 = (closeS L j).1) := (by simp [actS, hf] : (actS L j 4 m).1 = (closeS L j).1)
      clear hf
      by_cases hb : (FL L j).balance = 0
      rotate_left
      · have hbb : ((FL L j).balance != 0) = true := by simp [hb]
        have E : Hid ((partS L 4 i t m r).1 = codeG 6) := (by rw [EA.out, EC.out]; simp [closeS, hb, codeG] : (partS L 4 i t m r).1 = codeG 6)
        clear hb
        go_enter Tryz.func124, Tryz.ntmps124
        go_wp2_with fail
        refine (warm_yes a L.length c (FL L) i j _ S0.out.2.1 HJ.out HFZ.out).mono ?_
        rintro e w1 ⟨rfl, B1⟩
        have S1 : Hid (HS w (w1.alloc (.cells #[.int .i64 (FL L j).id, .int .i64 (FL L j).up, .int .i64 (FL L j).limit, .int .i64 (FL L j).rate, .int .i64 (FL L j).target, .bool false, .int .i64 (FL L j).balance, .int .i64 (FL L j).carry] 38)) #[.int .i64 i] 115 a L.length (FL L) p) := (S0.out.below B1).alloc _
        have X1 := S1.out.1
        clear B1 S0
        have gv := S1.out.2.2.1.var 6 (by omega)
        go_wp2
        go_ret
        exact ⟨HEnds.ref i 6 (by omega) E.out (by decide), S1.out.2.2.2.1⟩
      have hbb : ((FL L j).balance != 0) = false := by simp [hb]
      have EK : Hid ((closeS L j).1 = if kids (FL L) i L.length ≠ [] then 8 else 0) := by
        show (closeS L j).1 = _
        unfold closeS
        rw [HID.out]
        by_cases hk : kids (FL L) i L.length = []
        · simp [hb, hk]
        · simp [hk]
      have hkl : (kids (FL L) i L.length).length ≤ L.length := kids_len _ _ _
      clear hb
      go_enter Tryz.func124, Tryz.ntmps124
      go_wp2_with fail
      refine (warm_yes a L.length c (FL L) i j _ S0.out.2.1 HJ.out HFZ.out).mono ?_
      rintro e w1 ⟨rfl, B1⟩
      have S1 : Hid (HS w (w1.alloc (.cells #[.int .i64 (FL L j).id, .int .i64 (FL L j).up, .int .i64 (FL L j).limit, .int .i64 (FL L j).rate, .int .i64 (FL L j).target, .bool false, .int .i64 (FL L j).balance, .int .i64 (FL L j).carry] 38)) #[.int .i64 i] 115 a L.length (FL L) p) := (S0.out.below B1).alloc _
      have X1 := S1.out.1
      clear B1 S0
      go_wp2_with fail
      refine (implKids_yes a L.length c (FL L) i _ S1.out.2.1 HR.out).mono ?_
      rintro e w2 ⟨v, rfl, I2, B2⟩
      have S2 : Hid (HS w w2 #[.int .i64 i] 115 a L.length (FL L) p) := S1.out.below B2
      have X2 := S2.out.1
      obtain ⟨av, cv, hv, _, _⟩ := I2.shape
      subst hv
      clear B2 I2 S1 X1
      by_cases hk : kids (FL L) i L.length = []
      · have E : Hid ((partS L 4 i t m r).1 = 0) := (by rw [EA.out, EC.out, EK.out]; simp [hk] : (partS L 4 i t m r).1 = 0)
        rw [hk]
        clear hk
        go_wp2
        go_ret
        exact ⟨HEnds.ok E.out, S2.out.2.2.2.1⟩
      · have E : Hid ((partS L 4 i t m r).1 = codeG 6) := (by rw [EA.out, EC.out, EK.out]; simp [hk, codeG] : (partS L 4 i t m r).1 = codeG 6)
        have hkp : 0 < (kids (FL L) i L.length).length := List.length_pos_iff.2 hk
        have hkd : decide ((0 : Int) < ((kids (FL L) i L.length).length : Int)) = true := decide_eq_true (by omega)
        clear hk
        have gv := S2.out.2.2.1.var 6 (by omega)
        go_wp2
        go_ret
        exact ⟨HEnds.ref i 6 (by omega) E.out (by decide), S2.out.2.2.2.1⟩

set_option maxRecDepth 8000 in
set_option maxHeartbeats 2000000 in
theorem hTake (a : Option Addr) (c : Nat) (L : List Acc) (i t m r : Int) (p : Nat → Addr) (w : World) (h : Fo w a L.length (FL L)) (hR : Right (FL L) L.length) (hG : GE w p) :
    Calls Tryz.prog 128 #[.agg #[.int .i64 i, .int .i64 m], .slice a L.length c] w fun e w' => HEnds p (partS L 6 i t m r).1 e ∧ Below w.heap.size w w' := by
  have S0 : Hid (HS w (w.alloc (.cells #[.int .i64 i, .int .i64 m] 118)) #[.int .i64 i, .int .i64 m] 118 a L.length (FL L) p) := HS.new _ _ h hG
  have HR : Hid (Right (FL L) L.length) := hR
  have hn12 := hR.1
  clear h hR hG
  cases hp : place (FL L) L.length i with
  | none =>
    have HJ : Hid (place (FL L) L.length i = none) := hp
    have E : Hid ((partS L 6 i t m r).1 = codeG 2) := part_none (by decide) hp
    clear hp
    go_enter Tryz.func128, Tryz.ntmps128
    go_wp2_with fail
    refine (warm_no a L.length c (FL L) i p _ S0.out.2.1 HJ.out S0.out.2.2.1).mono ?_
    rintro e w1 ⟨rfl, B1⟩
    have S1 : Hid (HS w (w1.alloc (.cells #[.int .i64 0, .int .i64 0, .int .i64 0, .int .i64 0, .int .i64 0, .bool false, .int .i64 0, .int .i64 0] 38)) #[.int .i64 i, .int .i64 m] 118 a L.length (FL L) p) := (S0.out.below B1).alloc _
    have X1 := S1.out.1
    clear B1 S0
    go_wp2
    go_ret
    exact ⟨HEnds.ref i 2 (by omega) E.out (by decide), S1.out.2.2.2.1⟩
  | some j =>
    have HJ : Hid (place (FL L) L.length i = some j) := hp
    obtain ⟨hj, hid⟩ := place_some hp
    have HID : Hid ((FL L j).id = i) := hid
    have EA : Hid ((partS L 6 i t m r).1 = (actS L j 6 m).1) := part_act (by decide) (by decide) (by decide) hp
    clear hp hid
    cases hf : (FL L j).frozen with
    | true =>
      have HFZ : Hid ((FL L j).frozen = true) := hf
      have E : Hid ((partS L 6 i t m r).1 = codeG 4) := (by rw [EA.out]; simp [actS, hf, codeG] : (partS L 6 i t m r).1 = codeG 4)
      clear hf
      go_enter Tryz.func128, Tryz.ntmps128
      go_wp2_with fail
      refine (warm_frozen a L.length c (FL L) i j p _ S0.out.2.1 HJ.out HFZ.out S0.out.2.2.1).mono ?_
      rintro e w1 ⟨rfl, B1⟩
      have S1 : Hid (HS w (w1.alloc (.cells #[.int .i64 (FL L j).id, .int .i64 (FL L j).up, .int .i64 (FL L j).limit, .int .i64 (FL L j).rate, .int .i64 (FL L j).target, .bool true, .int .i64 (FL L j).balance, .int .i64 (FL L j).carry] 38)) #[.int .i64 i, .int .i64 m] 118 a L.length (FL L) p) := (S0.out.below B1).alloc _
      have X1 := S1.out.1
      clear B1 S0
      go_wp2
      go_ret
      exact ⟨HEnds.ref i 4 (by omega) E.out (by decide), S1.out.2.2.2.1⟩
    | false =>
      have HFZ : Hid ((FL L j).frozen = false) := hf
      have ET : Hid ((actS L j 6 m).1 = (takeS L j m).1) := (by simp [actS, hf] : (actS L j 6 m).1 = (takeS L j m).1)
      have HTS : Hid ((room (FL L) L.length [] j).getD 0 < m ↔ shortP (FL L) L.length (pathL (FL L) L.length j) [] m) := take_short HR.out hj
      have HC : Hid (chain (FL L) L.length L.length i = some (pathL (FL L) L.length j)) := by
        have := path_of HR.out hj
        rw [HID.out] at this
        exact this
      clear hf
      go_enter Tryz.func128, Tryz.ntmps128
      go_wp2_with fail
      refine (warm_yes a L.length c (FL L) i j _ S0.out.2.1 HJ.out HFZ.out).mono ?_
      rintro e w1 ⟨rfl, B1⟩
      have S1 : Hid (HS w (w1.alloc (.cells #[.int .i64 (FL L j).id, .int .i64 (FL L j).up, .int .i64 (FL L j).limit, .int .i64 (FL L j).rate, .int .i64 (FL L j).target, .bool false, .int .i64 (FL L j).balance, .int .i64 (FL L j).carry] 38)) #[.int .i64 i, .int .i64 m] 118 a L.length (FL L) p) := (S0.out.below B1).alloc _
      have X1 := S1.out.1
      clear B1 S0
      go_wp2_with fail
      refine (shortOn a L.length c (FL L) i 0 m (pathL (FL L) L.length j) [] p _ S1.out.2.1 HR.out HC.out (chain_zero _ _ _) S1.out.2.2.1).mono ?_
      rintro e w2 ⟨hs, B2⟩
      have S2 : Hid (HS w w2 #[.int .i64 i, .int .i64 m] 118 a L.length (FL L) p) := S1.out.below B2
      clear B2 S1 X1
      rcases hs with ⟨hs, i2, rfl⟩ | ⟨hs, rfl⟩
      · have E : Hid ((partS L 6 i t m r).1 = codeG 5) := (by rw [EA.out, ET.out]; unfold takeS; rw [if_pos (HTS.out.2 hs)]; rfl : (partS L 6 i t m r).1 = codeG 5)
        clear hs
        unfold refV
        go_wp2
        go_ret
        exact ⟨HEnds.ref i2 5 (by omega) E.out (by decide), S2.out.2.2.2.1⟩
      · have E : Hid ((partS L 6 i t m r).1 = 0) := (by rw [EA.out, ET.out]; unfold takeS; rw [if_neg (fun h => hs (HTS.out.1 h))] : (partS L 6 i t m r).1 = 0)
        clear hs
        go_wp2
        go_ret
        exact ⟨HEnds.ok E.out, S2.out.2.2.2.1⟩

set_option maxRecDepth 8000 in
set_option maxHeartbeats 2000000 in
theorem hOpen (a : Option Addr) (c : Nat) (L : List Acc) (i t m r : Int) (p : Nat → Addr) (w : World) (h : Fo w a L.length (FL L)) (hR : Right (FL L) L.length) (hG : GE w p) :
    Calls Tryz.prog 121 #[.agg #[.int .i64 i, .int .i64 t, .int .i64 m, .int .i64 r, .int .i64 (-1), .bool false, .int .i64 0, .int .i64 0], .slice a L.length c] w fun e w' => HEnds p (partS L 1 i t m r).1 e ∧ Below w.heap.size w w' := by
  have S0 : Hid (HS w (w.alloc (.cells #[.int .i64 i, .int .i64 t, .int .i64 m, .int .i64 r, .int .i64 (-1), .bool false, .int .i64 0, .int .i64 0] 111)) #[.int .i64 i, .int .i64 t, .int .i64 m, .int .i64 r, .int .i64 (-1), .bool false, .int .i64 0, .int .i64 0] 111 a L.length (FL L) p) := HS.new _ _ h hG
  have HR : Hid (Right (FL L) L.length) := hR
  have hn12 := hR.1
  clear h hR hG
  have EO : Hid ((partS L 1 i t m r).1 = (openS L i t m r).1) := (by simp [partS] : (partS L 1 i t m r).1 = (openS L i t m r).1)
  cases hp : place (FL L) L.length i with
  | some j =>
    have HJ : Hid (place (FL L) L.length i = some j) := hp
    have E : Hid ((partS L 1 i t m r).1 = codeG 3) := (by rw [EO.out]; simp [openS, hp, codeG] : (partS L 1 i t m r).1 = codeG 3)
    clear hp
    go_enter Tryz.func121, Tryz.ntmps121
    go_wp2_with fail
    refine (found_yes a L.length c (FL L) i j _ S0.out.2.1 HJ.out).mono ?_
    rintro e w1 ⟨rfl, B1⟩
    have S1 : Hid (HS w (w1.alloc (.cells #[.int .i64 (FL L j).id, .int .i64 (FL L j).up, .int .i64 (FL L j).limit, .int .i64 (FL L j).rate, .int .i64 (FL L j).target, .bool (FL L j).frozen, .int .i64 (FL L j).balance, .int .i64 (FL L j).carry] 38)) #[.int .i64 i, .int .i64 t, .int .i64 m, .int .i64 r, .int .i64 (-1), .bool false, .int .i64 0, .int .i64 0] 111 a L.length (FL L) p) := (S0.out.below B1).alloc _
    have X1 := S1.out.1
    clear B1 S0
    have gv := S1.out.2.2.1.var 3 (by omega)
    go_wp2
    go_ret
    exact ⟨HEnds.ref i 3 (by omega) E.out (by decide), S1.out.2.2.2.1⟩
  | none =>
    have HJ : Hid (place (FL L) L.length i = none) := hp
    by_cases ht : t = 0
    · have htb : (t == 0) = true := by simp [ht]
      have E : Hid ((partS L 1 i t m r).1 = 0) := (by rw [EO.out]; simp [openS, hp, ht] : (partS L 1 i t m r).1 = 0)
      clear hp ht
      go_enter Tryz.func121, Tryz.ntmps121
      go_wp2_with fail
      refine (found_no a L.length c (FL L) i p _ S0.out.2.1 HJ.out S0.out.2.2.1).mono ?_
      rintro e w1 ⟨rfl, B1⟩
      have S1 : Hid (HS w (w1.alloc (.cells #[.int .i64 0, .int .i64 0, .int .i64 0, .int .i64 0, .int .i64 0, .bool false, .int .i64 0, .int .i64 0] 38)) #[.int .i64 i, .int .i64 t, .int .i64 m, .int .i64 r, .int .i64 (-1), .bool false, .int .i64 0, .int .i64 0] 111 a L.length (FL L) p) := (S0.out.below B1).alloc _
      have X1 := S1.out.1
      clear B1 S0
      go_wp2
      go_ret
      exact ⟨HEnds.ok E.out, S1.out.2.2.2.1⟩
    have htb : (t == 0) = false := by simp [ht]
    cases hq : place (FL L) L.length t with
    | some q =>
      have HQ : Hid (place (FL L) L.length t = some q) := hq
      have E : Hid ((partS L 1 i t m r).1 = 0) := (by rw [EO.out]; simp [openS, hp, hq] : (partS L 1 i t m r).1 = 0)
      clear hp hq ht
      go_enter Tryz.func121, Tryz.ntmps121
      go_wp2_with fail
      refine (found_no a L.length c (FL L) i p _ S0.out.2.1 HJ.out S0.out.2.2.1).mono ?_
      rintro e w1 ⟨rfl, B1⟩
      have S1 : Hid (HS w (w1.alloc (.cells #[.int .i64 0, .int .i64 0, .int .i64 0, .int .i64 0, .int .i64 0, .bool false, .int .i64 0, .int .i64 0] 38)) #[.int .i64 i, .int .i64 t, .int .i64 m, .int .i64 r, .int .i64 (-1), .bool false, .int .i64 0, .int .i64 0] 111 a L.length (FL L) p) := (S0.out.below B1).alloc _
      have X1 := S1.out.1
      clear B1 S0
      go_wp2_with fail
      refine (found_yes a L.length c (FL L) t q _ S1.out.2.1 HQ.out).mono ?_
      rintro e w2 ⟨rfl, B2⟩
      have S2 : Hid (HS w (w2.alloc (.cells #[.int .i64 (FL L q).id, .int .i64 (FL L q).up, .int .i64 (FL L q).limit, .int .i64 (FL L q).rate, .int .i64 (FL L q).target, .bool (FL L q).frozen, .int .i64 (FL L q).balance, .int .i64 (FL L q).carry] 38)) #[.int .i64 i, .int .i64 t, .int .i64 m, .int .i64 r, .int .i64 (-1), .bool false, .int .i64 0, .int .i64 0] 111 a L.length (FL L) p) := (S1.out.below B2).alloc _
      have X2 := S2.out.1
      clear B2 S1 X1
      go_wp2
      go_ret
      exact ⟨HEnds.ok E.out, S2.out.2.2.2.1⟩
    | none =>
      have HQ : Hid (place (FL L) L.length t = none) := hq
      have E : Hid ((partS L 1 i t m r).1 = codeG 2) := (by rw [EO.out]; simp [openS, hp, hq, ht, codeG] : (partS L 1 i t m r).1 = codeG 2)
      clear hp hq ht
      go_enter Tryz.func121, Tryz.ntmps121
      go_wp2_with fail
      refine (found_no a L.length c (FL L) i p _ S0.out.2.1 HJ.out S0.out.2.2.1).mono ?_
      rintro e w1 ⟨rfl, B1⟩
      have S1 : Hid (HS w (w1.alloc (.cells #[.int .i64 0, .int .i64 0, .int .i64 0, .int .i64 0, .int .i64 0, .bool false, .int .i64 0, .int .i64 0] 38)) #[.int .i64 i, .int .i64 t, .int .i64 m, .int .i64 r, .int .i64 (-1), .bool false, .int .i64 0, .int .i64 0] 111 a L.length (FL L) p) := (S0.out.below B1).alloc _
      have X1 := S1.out.1
      clear B1 S0
      go_wp2_with fail
      refine (found_no a L.length c (FL L) t p _ S1.out.2.1 HQ.out S1.out.2.2.1).mono ?_
      rintro e w2 ⟨rfl, B2⟩
      have S2 : Hid (HS w (w2.alloc (.cells #[.int .i64 0, .int .i64 0, .int .i64 0, .int .i64 0, .int .i64 0, .bool false, .int .i64 0, .int .i64 0] 38)) #[.int .i64 i, .int .i64 t, .int .i64 m, .int .i64 r, .int .i64 (-1), .bool false, .int .i64 0, .int .i64 0] 111 a L.length (FL L) p) := (S1.out.below B2).alloc _
      have X2 := S2.out.1
      clear B2 S1 X1
      go_wp2
      go_ret
      exact ⟨HEnds.ref t 2 (by omega) E.out (by decide), S2.out.2.2.2.1⟩

end Go.Proofs.YthkgppfgidlicaaGreatDoor
