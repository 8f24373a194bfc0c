/- RoomOf, of the program and of the specification, and the law FnExactRoomOf. Conditions: the accounts lie in memory. -/
import Derived.Test.YtcmjndcpffodgaaRooms
namespace Go.Proofs.Ytcmjndcpffodgaa
open Go.RowKit

set_option maxHeartbeats 1000000 in
theorem specRoomOf_yes (a : Option Addr) (n c : Nat) (F : Nat → Acc) (id : Int) (i : Nat) (w : World) (h : Fo w a n F) (hR : Right F n) (hp : place F n id = some i) :
    Calls Try.prog 17 #[.slice a n c, .int .i64 id] w fun e w' => e = .returned (.tuple #[.int .i64 ((room F n [] i).getD 0), .bool true]) ∧ Below w.heap.size w w' := by
  have H : Hid (Fo w a n F) := h
  have HR : Hid (Right F n) := hR
  have HP : Hid (placeI F n id = i) := placeI_some hp
  obtain ⟨hin, hid⟩ := place_some hp
  have HS : Hid ((room F n [] i).isSome = true) := room_some hR hin
  clear h hR hp
  subst hid
  go_enter Try.func17, Try.ntmps17
  go_wp2_with fail
  refine (specOk_yes a n c F _ H.out HR.out).mono ?_
  rintro e w1 ⟨rfl, B1⟩
  have B1' : Hid (Below w.heap.size w w1) := B1
  clear B1
  go_wp2_with fail
  refine (specAt a n c F _ _ (H.out.below B1'.out)).mono ?_
  rintro e w2 ⟨rfl, hw2⟩
  subst hw2
  rw [HP.out]
  go_wp2_with fail
  refine (specRoom a n c F [] i 0 (.slice none 0 0) _ (H.out.below B1'.out) HR.out hin (IL.nil _ _) (by simp)).mono ?_
  rintro e w3 ⟨rfl, B3⟩
  have B3' : Hid (Below w.heap.size w w3) := B1'.out.trans (B3.mono B1'.out.size)
  clear B3
  rw [HS.out]
  go_wp2
  go_ret2
  exact ⟨rfl, B3'.out⟩
set_option maxHeartbeats 1000000 in
theorem specRoomOf_no (a : Option Addr) (n c : Nat) (F : Nat → Acc) (id : Int) (w : World) (h : Fo w a n F) (hR : ¬ (Right F n ∧ ∃ i, place F n id = some i)) :
    Calls Try.prog 17 #[.slice a n c, .int .i64 id] w fun e w' => e = .returned (.tuple #[.int .i64 0, .bool false]) ∧ Below w.heap.size w w' := by
  have H : Hid (Fo w a n F) := h
  have HR : Hid (¬ (Right F n ∧ ∃ i, place F n id = some i)) := hR
  clear h hR
  go_enter Try.func17, Try.ntmps17
  by_cases hr : Right F n
  · have hp : place F n id = none := by
      cases hp : place F n id with
      | none => rfl
      | some i => exact absurd ⟨hr, i, hp⟩ HR.out
    go_wp2_with fail
    refine (specOk_yes a n c F _ H.out hr).mono ?_
    rintro e w1 ⟨rfl, B1⟩
    have B1' : Hid (Below w.heap.size w w1) := B1
    clear B1 hr
    go_wp2_with fail
    refine (specAt a n c F id _ (H.out.below B1'.out)).mono ?_
    rintro e w2 ⟨rfl, hw2⟩
    subst hw2
    rw [placeI_none hp]
    clear hp
    go_wp2
    go_ret2
    exact ⟨rfl, B1'.out⟩
  · go_wp2_with fail
    refine (specOk_no a n c F _ H.out hr).mono ?_
    rintro e w1 ⟨rfl, B1⟩
    have B1' : Hid (Below w.heap.size w w1) := B1
    clear B1 hr
    go_wp2
    go_ret2
    exact ⟨rfl, B1'.out⟩
set_option maxHeartbeats 1000000 in
theorem implRoomOf_no (a : Option Addr) (n c : Nat) (F : Nat → Acc) (id : Int) (w : World) (h : Fo w a n F) (hR : ¬ (Right F n ∧ ∃ i, place F n id = some i)) :
    Calls Try.prog 18 #[.slice a n c, .int .i64 id] w fun e w' => e = .returned (.tuple #[.int .i64 0, .bool false]) ∧ Below w.heap.size w w' := by
  have H : Hid (Fo w a n F) := h
  have HR : Hid (¬ (Right F n ∧ ∃ i, place F n id = some i)) := hR
  clear h hR
  go_enter Try.func18, Try.ntmps18
  go_wp2_with fail
  refine (implFind_no a n c F id _ H.out HR.out).mono ?_
  rintro e w1 ⟨rfl, B1⟩
  have B1' : Hid (Below w.heap.size w w1) := B1
  clear B1
  go_wp2
  go_ret2
  exact ⟨rfl, B1'.out.alloc B1'.out.size _⟩

theorem room_bd {F : Nat → Acc} {n : Nat} (h : Right F n) {j : Nat} (hj : j < n) : -13000000000000 ≤ sumAll F n j + (F j).limit ∧ sumAll F n j + (F j).limit ≤ 13000000000000 := by
  have := sumAll_bd h j
  have := (h.2.1 j hj).2.2.1
  omega

set_option maxHeartbeats 4000000 in
theorem implRoomOf_yes (a : Option Addr) (n c : Nat) (F : Nat → Acc) (id : Int) (i : Nat) (w : World) (h : Fo w a n F) (hR : Right F n) (hp : place F n id = some i) :
    Calls Try.prog 18 #[.slice a n c, .int .i64 id] w fun e w' => e = .returned (.tuple #[.int .i64 ((room F n [] i).getD 0), .bool true]) ∧ Below w.heap.size w w' := by
  have H : Hid (Fo w a n F) := h
  have HR : Hid (Right F n) := hR
  have HP : Hid (place F n id = some i) := hp
  obtain ⟨hin, hid⟩ := place_some hp
  have HS : Hid ((room F n [] i).isSome = true) := room_some hR hin
  have HO : Hid (room F n [] i = (pathL F n i).foldl (step F n []) none) := rfl
  have hn := hR.1
  clear h hR hp
  subst hid
  go_enter Try.func18, Try.ntmps18
  go_wp2_with fail
  refine (implFind_yes a n c F _ i _ H.out HR.out HP.out).mono ?_
  rintro e w1 ⟨rfl, B1⟩
  have B1' : Hid (Below w.heap.size w w1) := B1
  clear B1
  go_wp2_with fail
  refine (implPathFull a n c F _ (pathL F n i) _ ((H.out.below B1'.out).alloc _) HR.out (HR.out.path hin)).mono ?_
  rintro e w2 ⟨pv, P, rfl, A2, hPl, hPn, hPin, B2⟩
  have B2' : Hid (Below w.heap.size w w2) := (B1'.out.alloc B1'.out.size _).trans (B2.mono (by have := B1'.out.size; simp; omega))
  have HPin : Hid (∀ x, x ∈ P → ∃ j, j < n ∧ x = F j) := hPin
  obtain ⟨pa, pc, hpv, _, psh⟩ := A2.shape
  subst hpv
  have PS : Hid (∀ i (hi : i < P.length), ∃ g, pa = some ⟨g, 0, none⟩ ∧ g < w2.heap.size ∧ AccAt w2 g (i * 8) P[i]) := fun i hi => by obtain ⟨g, e1, _, e2, e3⟩ := psh i hi; exact ⟨g, e1, e2, e3⟩
  have HT : Hid (∀ k (hk : k < P.length), ((pathL F n i).take (k + 1)).foldl (step F n []) none = step F n [] (((pathL F n i).take k).foldl (step F n []) none) P[k].id) := fun k hk => by
    have e := fold_take F n [] (pathL F n i) k (by rw [← hPl]; simpa using hk)
    rw [e]
    congr 1
    have e2 : (pathL F n i)[k]? = some P[k].id := by rw [← hPl]; simp [List.getElem?_eq_getElem hk]
    simp [List.getD, e2]
  have HTE : Hid ((pathL F n i).take P.length = pathL F n i) := by
    have e : (pathL F n i).length = P.length := by rw [← hPl]; simp
    show (pathL F n i).take P.length = pathL F n i
    rw [← e]
    exact List.take_length
  clear psh A2 hPl hPin B2
  go_wp2
  go_loopw [8, 23] (fun r q wr => ∃ (k : Nat) (z : Option Int), k ≤ P.length ∧ q = .int .i64 k ∧ r = .int .i64 (z.getD 9223372036854775807) ∧ Hid (z = ((pathL F n i).take k).foldl (step F n []) none) ∧ Hid (Below w2.heap.size w2 wr)) (fun _ q _ => P.length - (intOf q).toNat)
  case atStart => exact ⟨0, none, Nat.zero_le _, rfl, rfl, (by simp : none = ((pathL F n i).take 0).foldl (step F n []) none), Below.refl _ _⟩
  case round =>
    obtain ⟨k, z, hk, rfl, rfl, hz, hB⟩ := hrel
    have hBw : Hid (Below w.heap.size w wr) := B2'.out.trans (hB.out.mono B2'.out.size)
    by_cases hlt : k < P.length
    · obtain ⟨g, rfl, hg, hA0⟩ := PS.out k hlt
      obtain ⟨j, hj, hPj⟩ := HPin.out P[k] (List.getElem_mem hlt)
      have HTk : Hid (((pathL F n i).take (k + 1)).foldl (step F n []) none = step F n [] z (F j).id) := by
        have e := HT.out k hlt
        rw [← hz.out, hPj] at e
        exact e
      rw [hPj] at hA0
      clear hPj
      have hA := hA0.of_cells (w' := wr) (fun q => hB.out.cell (p := ⟨g, q, none⟩) hg)
      obtain ⟨c0, c1, c2, c3, c4, c5, c6, c7⟩ := hA
      have HPl : Hid (place F n (F j).id = some j) := place_self HR.out.2.2.1 hj
      obtain ⟨lb1, lb2⟩ := (HR.out.2.1 j hj).2.2.1
      obtain ⟨sb1, sb2⟩ := room_bd HR.out hj
      clear hA0
      have BA : Hid (∀ y, Below w2.heap.size w2 (wr.alloc y)) := fun y => hB.out.alloc hB.out.size y
      by_cases hl0 : (F j).limit = -1
      · have E : Hid (z = ((pathL F n i).take (k + 1)).foldl (step F n []) none) := (by rw [HTk.out, step_skip HPl.out (Or.inl (by omega))] : z = ((pathL F n i).take (k + 1)).foldl (step F n []) none)
        have hb : ((F j).limit != -1) = false := by simp [hl0]
        clear hl0
        go_wp2
        go_roundw
        case rel => exact ⟨k + 1, z, by omega, by go_num, rfl, E, BA.out _⟩
        case measure => simp [intOf]; omega
      · have hnot : Hid (¬ ((F j).limit < 0 ∨ (F j).id ∈ ([] : List Int))) := (by simp; omega : ¬ ((F j).limit < 0 ∨ (F j).id ∈ ([] : List Int)))
        have hb : ((F j).limit != -1) = true := by simp [hl0]
        obtain ⟨W, hW⟩ : ∃ W, W = wr.alloc (.cells #[.int .i64 (F j).id, .int .i64 (F j).up, .int .i64 (F j).limit, .int .i64 (F j).rate, .int .i64 (F j).target, .bool (F j).frozen, .int .i64 (F j).balance, .int .i64 (F j).carry] 41) := ⟨_, rfl⟩
        have FW : Hid (Fo W a n F) := by rw [hW]; exact (H.out.below hBw.out).alloc _
        have BW : Hid (Below w2.heap.size w2 W) := by rw [hW]; exact BA.out _
        have XW : Hid (Box W wr.heap.size (F j)) := by rw [hW]; exact Box.new wr (F j) 41
        obtain ⟨⟨x0, x1, x2, x3, x4, x5, x6, x7⟩, _, hsz⟩ := XW.out
        simp only [Nat.zero_add] at x1 x2 x3 x4 x5 x6 x7
        have hov : ∀ v q, (over W v).cell? ⟨wr.heap.size, q, none⟩ = W.cell? ⟨wr.heap.size, q, none⟩ := fun v q => (below_over W v).cell (p := ⟨wr.heap.size, q, none⟩) hsz
        clear hl0
        go_wp2
        rw [← hW]
        clear hW XW
        refine wp_region_over (by kernel_rfl) (by kernel_rfl) ?_
        cases z with
        | none =>
          have E : Hid (some (sumAll F n j + (F j).limit) = ((pathL F n i).take (k + 1)).foldl (step F n []) none) := (by rw [HTk.out, step_first HPl.out hnot.out] : some (sumAll F n j + (F j).limit) = ((pathL F n i).take (k + 1)).foldl (step F n []) none)
          simp only [Option.getD_none]
          repeat (go_big_quiet_step ((first | (go_at_call 43; exact Calls.over_of (implSumFrom _ n c F j _ (FW.out.below (below_over _ _)) HR.out hj)))))
          refine wpQuiet_nil ?_
          intro w3 hw'
          obtain ⟨vq, hw''⟩ := hw'
          have B3' : Hid (Below w2.heap.size w2 w3) := by rw [hw'']; exact BW.out.trans ((below_over W vq).mono BW.out.size)
          clear hw''
          go_wp2
          go_roundw
          case rel => exact ⟨k + 1, some (sumAll F n j + (F j).limit), by omega, by go_num, by simp only [Option.getD_some], E, B3'⟩
          case measure => simp [intOf]; omega
        | some q =>
          simp only [Option.getD_some]
          by_cases hq : sumAll F n j + (F j).limit < q
          · have E : Hid (some (sumAll F n j + (F j).limit) = ((pathL F n i).take (k + 1)).foldl (step F n []) none) := (by rw [HTk.out, step_less HPl.out hnot.out hq] : some (sumAll F n j + (F j).limit) = ((pathL F n i).take (k + 1)).foldl (step F n []) none)
            repeat (go_big_quiet_step ((first | (go_at_call 43; exact Calls.over_of (implSumFrom _ n c F j _ (FW.out.below (below_over _ _)) HR.out hj)))))
            refine wpQuiet_nil ?_
            intro w3 hw'
            obtain ⟨vq, hw''⟩ := hw'
            have B3' : Hid (Below w2.heap.size w2 w3) := by rw [hw'']; exact BW.out.trans ((below_over W vq).mono BW.out.size)
            clear hw''
            go_wp2
            go_roundw
            case rel => exact ⟨k + 1, some (sumAll F n j + (F j).limit), by omega, by go_num, by simp only [Option.getD_some], E, B3'⟩
            case measure => simp [intOf]; omega
          · have E : Hid (some q = ((pathL F n i).take (k + 1)).foldl (step F n []) none) := (by rw [HTk.out, step_more HPl.out hnot.out hq] : some q = ((pathL F n i).take (k + 1)).foldl (step F n []) none)
            repeat (go_big_quiet_step ((first | (go_at_call 43; exact Calls.over_of (implSumFrom _ n c F j _ (FW.out.below (below_over _ _)) HR.out hj)))))
            refine wpQuiet_nil ?_
            intro w3 hw'
            obtain ⟨vq, hw''⟩ := hw'
            have B3' : Hid (Below w2.heap.size w2 w3) := by rw [hw'']; exact BW.out.trans ((below_over W vq).mono BW.out.size)
            clear hw''
            go_wp2
            go_roundw
            case rel => exact ⟨k + 1, some q, by omega, by go_num, by simp only [Option.getD_some], E, B3'⟩
            case measure => simp [intOf]; omega
    · have hkn : k = P.length := by omega
      have E : Hid (z = room F n [] i) := (by rw [HO.out, hz.out, hkn, HTE.out] : z = room F n [] i)
      have HS' : Hid (z.isSome = true) := (by rw [E.out]; exact HS.out : z.isSome = true)
      cases z with
      | none => exact absurd HS'.out (by simp)
      | some q =>
        simp only [Option.getD_some]
        go_wp2
        go_ret2
        rw [← E.out]
        exact ⟨rfl, hBw.out⟩

theorem both_room (n : Nat) (F : Nat → Acc) (id : Int) : ∃ (v : Int) (b : Bool), (∀ w a' c', Fo w a' n F → Calls Try.prog 17 #[.slice a' n c', .int .i64 id] w fun e w' => e = .returned (.tuple #[.int .i64 v, .bool b]) ∧ Below w.heap.size w w') ∧
    ∀ w a' c', Fo w a' n F → Calls Try.prog 18 #[.slice a' n c', .int .i64 id] w fun e w' => e = .returned (.tuple #[.int .i64 v, .bool b]) ∧ Below w.heap.size w w' := by
  by_cases hR : Right F n ∧ ∃ i, place F n id = some i
  · obtain ⟨hr, i, hp⟩ := hR
    exact ⟨(room F n [] i).getD 0, true, fun w a' c' h => specRoomOf_yes a' n c' F id i w h hr hp, fun w a' c' h => implRoomOf_yes a' n c' F id i w h hr hp⟩
  · exact ⟨0, false, fun w a' c' h => specRoomOf_no a' n c' F id w h hR, fun w a' c' h => implRoomOf_no a' n c' F id w h hR⟩

set_option maxHeartbeats 1000000 in
theorem lawRoom (a : Option Addr) (n c : Nat) (F : Nat → Acc) (id : Int) (w : World) (hm : n ≤ 9223372036854775807) (h : n ≤ 1048576 → Fo w a n F) :
    Calls Try.prog 5 #[.slice a n c, .int .i64 id] w fun e w' => e = .returned (.bool true) ∧ Below w.heap.size w w' := by
  obtain ⟨v, bb, sp, im⟩ := both_room n F id
  have SP : Hid (∀ w a' c', Fo w a' n F → Calls Try.prog 17 #[.slice a' n c', .int .i64 id] w fun e w' => e = .returned (.tuple #[.int .i64 v, .bool bb]) ∧ Below w.heap.size w w') := sp
  have IM : Hid (∀ w a' c', Fo w a' n F → Calls Try.prog 18 #[.slice a' n c', .int .i64 id] w fun e w' => e = .returned (.tuple #[.int .i64 v, .bool bb]) ∧ Below w.heap.size w w') := im
  clear sp im
  by_cases hn : n ≤ 1048576
  · have H : Hid (Fo w a n F) := h hn
    clear h
    go_enter Try.func5, Try.ntmps5
    go_wp2_with (go_at_call 12; refine (szAccountS_yes _ _ _ _ hn).mono ?_; rintro e w' ⟨rfl, rfl⟩)
    refine (toAccountS a n c F _ H.out).mono ?_
    rintro e w1 ⟨rfl, R1, B1⟩
    go_wp2_with fail
    refine (SP.out _ _ n (R1.fo hn)).mono ?_
    rintro e w2 ⟨rfl, B2⟩
    have B2' : Hid (Below _ _ w2) := B1.trans (B2.mono B1.size)
    clear B1 B2 R1
    go_wp2_with fail
    refine (toAccountS a n c F _ (H.out.below B2'.out)).mono ?_
    rintro e w3 ⟨rfl, R3, B3⟩
    have B3' : Hid (Below _ _ w3) := B2'.out.trans (B3.mono B2'.out.size)
    clear B3
    go_wp2_with fail
    refine (IM.out _ _ n (R3.fo hn)).mono ?_
    rintro e w4 ⟨rfl, B4⟩
    have R4 : Hid (Row w4 w2.heap.size n n F) := R3.below B4
    have B4' : Hid (Below _ _ w4) := B3'.out.trans (B4.mono B3'.out.size)
    clear B4 R3
    go_wp2_with fail
    refine (toAccountS a n c F _ (H.out.below B4'.out)).mono ?_
    rintro e w5 ⟨rfl, R5, B5⟩
    have R45 : Hid (Row w5 w2.heap.size n n F) := R4.out.below B5
    have B5' : Hid (Below _ _ w5) := B4'.out.trans (B5.mono B4'.out.size)
    clear B5
    go_wp2_with fail
    refine (eqAccountS_same _ _ n n n F _ (R45.out.fo hn) (R5.fo hn)).mono ?_
    rintro e w6 ⟨rfl, B6⟩
    have B6' : Hid (Below _ _ w6) := B5'.out.trans (B6.mono B5'.out.size)
    clear B6
    go_wp2
    go_ret
    exact ⟨rfl, B6'.out⟩
  · clear h
    go_enter Try.func5, Try.ntmps5
    go_wp2_with (go_at_call 12; refine (szAccountS_no _ _ _ _ (by omega) hm).mono ?_; rintro e w' ⟨rfl, rfl⟩)
    go_ret
    exact ⟨rfl, Below.refl _ _⟩
end Go.Proofs.Ytcmjndcpffodgaa
