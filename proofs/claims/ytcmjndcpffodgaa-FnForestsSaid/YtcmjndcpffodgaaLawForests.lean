/- The law FnForests returns true, whatever the bytes of the code: a path leads from an account to its root; what an account has with all below it is its own and that of its kids. Conditions: the bytes lie in memory. -/
import Derived.Test.YtcmjndcpffodgaaDraws
namespace Go.Proofs.Ytcmjndcpffodgaa
open Go.RowKit

set_option maxHeartbeats 1000000 in
theorem sameInts_same (B1 B2 : Nat) (v1 v2 : Value) (l : List Int) (w : World) (hl : l.length ≤ 1048576) (h1 : IL w B1 v1 l) (h2 : IL w B2 v2 l) :
    Calls Try.prog 25 #[v1, v2] w fun e w' => e = .returned (.bool true) ∧ Below w.heap.size w w' := by
  obtain ⟨a1, m1, rfl, _, s1⟩ := h1.shape
  obtain ⟨a2, m2, rfl, _, s2⟩ := h2.shape
  have S1 : Hid (∀ i, i < l.length → ∃ g, a1 = some ⟨g, 0, none⟩ ∧ w.cell? ⟨g, i, none⟩ = some (.int .i64 (l.getD i 0))) := fun i hi => by obtain ⟨g, e, _, _, _, hc, _⟩ := s1 i hi; exact ⟨g, e, hc⟩
  have S2 : Hid (∀ i, i < l.length → ∃ g, a2 = some ⟨g, 0, none⟩ ∧ w.cell? ⟨g, i, none⟩ = some (.int .i64 (l.getD i 0))) := fun i hi => by obtain ⟨g, e, _, _, _, hc, _⟩ := s2 i hi; exact ⟨g, e, hc⟩
  clear s1 s2 h1 h2
  generalize hn : l.length = n at *
  go_enter Try.func25, Try.ntmps25
  go_wp2
  go_loopw [5] (fun i wr => ∃ (k q : Nat), k ≤ n ∧ i = .int .i64 k ∧ wr = w.drewN q) (fun i _ => n - (intOf i).toNat)
  case atStart => exact ⟨0, 0, Nat.zero_le _, rfl, rfl⟩
  case round =>
    obtain ⟨k, q, hk, rfl, rfl⟩ := hrel
    by_cases hlt : k < n
    · obtain ⟨g, rfl, c1⟩ := S1.out k hlt
      obtain ⟨g', rfl, c2⟩ := S2.out k hlt
      generalize l.getD k 0 = z at c1 c2
      have hk0 : (k : Int) < (n : Int) := by omega
      go_wp2
      go_quiet (fail)
      go_wp2
      go_roundw
      case rel => exact ⟨k + 1, _, by omega, by go_num, rfl⟩
      case measure => simp [intOf]; omega
    · go_wp2
      go_ret
      exact ⟨rfl, below_drewN (Below.refl _ _) _⟩

theorem path_head {F : Nat → Acc} {n : Nat} (h : Right F n) {i : Nat} (hi : i < n) : 0 < (pathL F n i).length ∧ (pathL F n i).getD 0 0 = (F i).id := by
  by_cases hu : (F i).up = 0
  · rw [h.path_root hi hu]; simp
  · obtain ⟨p, _, _, e⟩ := h.path_up hi hu
    rw [e]; simp
/-- Each account of a path hangs under the next one; the last one is a root. -/
theorem path_next {F : Nat → Acc} {n : Nat} (h : Right F n) : ∀ (k i : Nat), i < n → k < (pathL F n i).length → ∃ j, j < n ∧ (pathL F n i).getD k 0 = (F j).id ∧ (k + 1 < (pathL F n i).length → (F j).up = (pathL F n i).getD (k + 1) 0) ∧ (k + 1 = (pathL F n i).length → (F j).up = 0)
  | 0, i, hi, hk => by
    by_cases hu : (F i).up = 0
    · exact ⟨i, hi, (path_head h hi).2, fun hl => by rw [h.path_root hi hu] at hl; simp at hl, fun _ => hu⟩
    · obtain ⟨p, hp, hid, e⟩ := h.path_up hi hu
      have hh := path_head h hp
      refine ⟨i, hi, (path_head h hi).2, fun _ => ?_, fun hl => ?_⟩
      · rw [e]
        have e2 : ((F i).id :: pathL F n p).getD (0 + 1) 0 = (pathL F n p).getD 0 0 := rfl
        rw [e2, hh.2, hid]
      · rw [e] at hl
        simp at hl
        have := hh.1
        rw [hl] at this
        simp at this
  | k + 1, i, hi, hk => by
    by_cases hu : (F i).up = 0
    · rw [h.path_root hi hu] at hk; simp at hk
    · obtain ⟨p, hp, hid, e⟩ := h.path_up hi hu
      rw [e] at hk ⊢
      obtain ⟨j, hj, h1, h2, h3⟩ := path_next h k p hp (by simpa using hk)
      exact ⟨j, hj, h1, fun hl => h2 (by simpa using hl), fun hl => h3 (by simpa using hl)⟩
/-- The sums of the accounts with these ids. -/
def listSum (F : Nat → Acc) (n : Nat) : List Int → Int
  | [] => 0
  | x :: l => sumAll F n ((place F n x).getD 0) + listSum F n l
theorem listSum_append (F : Nat → Acc) (n : Nat) : ∀ (l m : List Int), listSum F n (l ++ m) = listSum F n l + listSum F n m
  | [], m => by simp [listSum]
  | x :: l, m => by simp only [List.cons_append, listSum]; rw [listSum_append F n l m]; omega
theorem listSum_take (F : Nat → Acc) (n : Nat) (l : List Int) {k : Nat} (hk : k < l.length) : listSum F n (l.take (k + 1)) = listSum F n (l.take k) + sumAll F n ((place F n (l.getD k 0)).getD 0) := by
  rw [List.take_succ_eq_append_getElem hk, listSum_append]
  simp [listSum, List.getD, List.getElem?_eq_getElem hk]
theorem listSum_bd {F : Nat → Acc} {n : Nat} (h : Right F n) : ∀ (l : List Int), -(12000000000000 * (l.length : Int)) ≤ listSum F n l ∧ listSum F n l ≤ 12000000000000 * (l.length : Int)
  | [] => by simp [listSum]
  | x :: l => by
    have ih := listSum_bd h l
    have b := sumAll_bd h ((place F n x).getD 0)
    simp only [listSum, List.length_cons]
    omega
theorem kids_sum {F : Nat → Acc} {n : Nat} (h : Right F n) (x : Int) : ∀ m, m ≤ n → listSum F n (kids F x m) = sumTo (fun k => if (F k).up = x then sumAll F n k else 0) m
  | 0, _ => rfl
  | m + 1, hm => by
    have ih := kids_sum h x m (by omega)
    by_cases hu : (F m).up = x
    · rw [kids_hit hu, listSum_append, ih]
      simp [listSum, sumTo, hu, place_self h.2.2.1 (show m < n by omega)]
    · rw [kids_miss hu, ih]
      simp [sumTo, hu]
theorem kids_mem {F : Nat → Acc} {x y : Int} : ∀ {m : Nat}, y ∈ kids F x m → ∃ j, j < m ∧ (F j).id = y
  | 0, h => by simp [kids] at h
  | m + 1, h => by
    by_cases hu : (F m).up = x
    · rw [kids_hit hu] at h
      rcases List.mem_append.1 h with e | e
      · obtain ⟨j, hj, e2⟩ := kids_mem e
        exact ⟨j, by omega, e2⟩
      · exact ⟨m, by omega, (by simpa using e : y = (F m).id).symm⟩
    · rw [kids_miss hu] at h
      obtain ⟨j, hj, e2⟩ := kids_mem h
      exact ⟨j, by omega, e2⟩

set_option maxRecDepth 4000 in
set_option maxHeartbeats 8000000 in
theorem lawForests (a : Option Addr) (len cap : Nat) (w : World) (h : Code w a len) :
    Calls Try.prog 6 #[.slice a len cap] w fun e w' => e = .returned (.bool true) ∧ Below w.heap.size w w' := by
  have H : Hid (Code w a len) := h
  clear h
  by_cases hbig : 1048576 < len
  · go_enter Try.func6, Try.ntmps6
    go_wp2_with (go_at_call 19; refine (big_yes _ _ _ _ hbig).mono ?_; rintro e w' ⟨rfl, rfl⟩)
    go_ret
    exact ⟨rfl, Below.refl _ _⟩
  go_enter Try.func6, Try.ntmps6
  go_wp2_with (go_at_call 19; refine (big_no _ _ _ _ (by omega)).mono ?_; rintro e w' ⟨rfl, rfl⟩)
  refine (drawSumOf a len cap _ H.out).mono ?_
  rintro e w1 ⟨v, L, id, rfl, hl, A1, B1⟩
  obtain ⟨fa, fc, hv⟩ := A1.len
  subst hv
  have F1 : Hid (Fo w1 fa L.length (FL L)) := (A1.fo (by omega)).2
  have BB1 : Hid (Below _ _ w1) := B1
  clear B1 H hbig A1
  by_cases hR : Right (FL L) L.length ∧ ∃ i, place (FL L) L.length id = some i
  · obtain ⟨hr, i, hp⟩ := hR
    obtain ⟨hin, hid⟩ := place_some hp
    have hc : chain (FL L) L.length L.length id = some (pathL (FL L) L.length i) := by rw [← hid]; exact hr.path hin
    have HR : Hid (Right (FL L) L.length) := hr
    have hll : (pathL (FL L) L.length i).length ≤ 1048576 := by have := path_len hr hin; omega
    have hlk : (kids (FL L) id L.length).length ≤ 1048576 := by have := kids_len (FL L) id L.length; omega
    have SI : Hid (∀ w', Fo w' fa L.length (FL L) → Calls Try.prog 15 #[.slice fa L.length fc, .int .i64 id] w' fun e w'' => e = .returned (.tuple #[.int .i64 (sumAll (FL L) L.length i), .bool true]) ∧ Below w'.heap.size w' w'') := fun w' h' => implSumOf_yes fa L.length fc (FL L) id i w' h' hr hp
    have SS : Hid (∀ w', Fo w' fa L.length (FL L) → Calls Try.prog 13 #[.slice fa L.length fc, .int .i64 id] w' fun e w'' => e = .returned (.tuple #[.int .i64 (sumAll (FL L) L.length i), .bool true]) ∧ Below w'.heap.size w' w'') := fun w' h' => specSumOf_yes fa L.length fc (FL L) id i w' h' hr hp
    have FI : Hid (∀ w', Fo w' fa L.length (FL L) → Calls Try.prog 21 #[.slice fa L.length fc, .int .i64 id] w' fun e w'' => e = .returned (.tuple #[.agg #[.int .i64 (FL L i).id, .int .i64 (FL L i).up, .int .i64 (FL L i).limit, .int .i64 (FL L i).rate, .int .i64 (FL L i).target, .bool (FL L i).frozen, .int .i64 (FL L i).balance, .int .i64 (FL L i).carry], .bool true]) ∧ Below w'.heap.size w' w'') := fun w' h' => implFind_yes fa L.length fc (FL L) id i w' h' hr hp
    have FS : Hid (∀ w', Fo w' fa L.length (FL L) → Calls Try.prog 22 #[.slice fa L.length fc, .int .i64 id] w' fun e w'' => e = .returned (.tuple #[.agg #[.int .i64 (FL L i).id, .int .i64 (FL L i).up, .int .i64 (FL L i).limit, .int .i64 (FL L i).rate, .int .i64 (FL L i).target, .bool (FL L i).frozen, .int .i64 (FL L i).balance, .int .i64 (FL L i).carry], .bool true]) ∧ Below w'.heap.size w' w'') := fun w' h' => specFind_yes fa L.length fc (FL L) id i w' h' hr hp
    have PI : Hid (∀ w', Fo w' fa L.length (FL L) → Calls Try.prog 23 #[.slice fa L.length fc, .int .i64 id] w' fun e w'' => ∃ v, e = .returned v ∧ IL w'' w'.heap.size v (pathL (FL L) L.length i) ∧ Below w'.heap.size w' w'') := fun w' h' => implPathOf_of fa L.length fc (FL L) id _ w' h' hr (fun w2 h2 => implPathFrom fa L.length fc (FL L) id _ w2 h2 hr hc)
    have PS : Hid (∀ w', Fo w' fa L.length (FL L) → Calls Try.prog 26 #[.slice fa L.length fc, .int .i64 id] w' fun e w'' => ∃ v, e = .returned v ∧ IL w'' w'.heap.size v (pathL (FL L) L.length i) ∧ Below w'.heap.size w' w'') := fun w' h' => specPathOf_yes fa L.length fc (FL L) id i _ w' h' hr hp hc
    have KI : Hid (∀ w', Fo w' fa L.length (FL L) → Calls Try.prog 24 #[.slice fa L.length fc, .int .i64 id] w' fun e w'' => ∃ v, e = .returned v ∧ IL w'' w'.heap.size v (kids (FL L) id L.length) ∧ Below w'.heap.size w' w'') := fun w' h' => implKids_yes fa L.length fc (FL L) id w' h' hr
    have KS : Hid (∀ w', Fo w' fa L.length (FL L) → Calls Try.prog 27 #[.slice fa L.length fc, .int .i64 id] w' fun e w'' => ∃ v, e = .returned v ∧ IL w'' w'.heap.size v (kids (FL L) id L.length) ∧ Below w'.heap.size w' w'') := fun w' h' => specKids_yes fa L.length fc (FL L) id w' h' hr
    have HH : Hid (0 < (pathL (FL L) L.length i).length ∧ (pathL (FL L) L.length i).getD 0 0 = id) := by
      have := path_head hr hin
      rw [hid] at this
      exact this
    have HN : Hid (∀ k, k < (pathL (FL L) L.length i).length → ∃ j, j < L.length ∧ (pathL (FL L) L.length i).getD k 0 = (FL L j).id ∧ (k + 1 < (pathL (FL L) L.length i).length → (FL L j).up = (pathL (FL L) L.length i).getD (k + 1) 0) ∧ (k + 1 = (pathL (FL L) L.length i).length → (FL L j).up = 0)) := fun k hk => path_next hr k i hin hk
    have HSUM : Hid (sumAll (FL L) L.length i = (FL L i).balance + listSum (FL L) L.length (kids (FL L) id L.length)) := by
      have e := sumAll_kids hr hin
      rw [hid] at e
      rw [kids_sum hr id L.length (Nat.le_refl _)]
      exact e
    have HKM : Hid (∀ y, y ∈ kids (FL L) id L.length → ∃ j, j < L.length ∧ (FL L j).id = y) := fun y hy => kids_mem hy
    obtain ⟨ib1, ib2⟩ := (hr.2.1 i hin).2.2.2.2.2.1
    have hkl : (kids (FL L) id L.length).length ≤ 12 := by have := kids_len (FL L) id L.length; omega
    have hpl : (pathL (FL L) L.length i).length ≤ 12 := by have := path_len hr hin; omega
    clear hr hp hc hid
    generalize sumAll (FL L) L.length i = SU at *
    generalize pathL (FL L) L.length i = l at *
    generalize kids (FL L) id L.length = K at *
    go_wp2_with fail
    refine (SI.out _ F1.out).mono ?_
    rintro e w2 ⟨rfl, B2⟩
    have F2 : Hid (Fo w2 fa L.length (FL L)) := F1.out.below B2
    have BB2 : Hid (Below _ _ w2) := BB1.out.trans (B2.mono BB1.out.size)
    clear B2 F1 BB1
    go_wp2_with fail
    refine (SS.out _ F2.out).mono ?_
    rintro e w3 ⟨rfl, B3⟩
    have F3 : Hid (Fo w3 fa L.length (FL L)) := F2.out.below B3
    have BB3 : Hid (Below _ _ w3) := BB2.out.trans (B3.mono BB2.out.size)
    clear B3 F2 BB2
    go_wp2_with fail
    refine (FI.out _ F3.out).mono ?_
    rintro e w4 ⟨rfl, B4⟩
    have F4 : Hid (∀ y, Fo (w4.alloc y) fa L.length (FL L)) := fun y => (F3.out.below B4).alloc y
    have BB4 : Hid (∀ y, Below _ _ (w4.alloc y)) := fun y => (BB3.out.trans (B4.mono BB3.out.size)).alloc (Nat.le_trans BB3.out.size B4.size) y
    have X4 : Hid (Box (w4.alloc (.cells #[.int .i64 (FL L i).id, .int .i64 (FL L i).up, .int .i64 (FL L i).limit, .int .i64 (FL L i).rate, .int .i64 (FL L i).target, .bool (FL L i).frozen, .int .i64 (FL L i).balance, .int .i64 (FL L i).carry] 41)) w4.heap.size (FL L i)) := Box.new w4 (FL L i) 41
    clear B4 F3 BB3
    go_wp2_with fail
    refine (FS.out _ (F4.out _)).mono ?_
    rintro e w5 ⟨rfl, B5⟩
    have F5 : Hid (∀ y, Fo (w5.alloc y) fa L.length (FL L)) := fun y => ((F4.out _).below B5).alloc y
    have BB5 : Hid (∀ y, Below _ _ (w5.alloc y)) := fun y => ((BB4.out _).trans (B5.mono (BB4.out _).size)).alloc (Nat.le_trans (BB4.out _).size B5.size) y
    have X5 : Hid (∀ y, Box (w5.alloc y) w4.heap.size (FL L i)) := fun y => (X4.out.below B5).below ((Below.refl _ _).alloc (Nat.le_refl _) y)
    have Y5 : Hid (Box (w5.alloc (.cells #[.int .i64 (FL L i).id, .int .i64 (FL L i).up, .int .i64 (FL L i).limit, .int .i64 (FL L i).rate, .int .i64 (FL L i).target, .bool (FL L i).frozen, .int .i64 (FL L i).balance, .int .i64 (FL L i).carry] 41)) w5.heap.size (FL L i)) := Box.new w5 (FL L i) 41
    clear B5 F4 BB4 X4
    go_wp2_with fail
    refine (PI.out _ (F5.out _)).mono ?_
    rintro e w6 ⟨pv, rfl, I6, B6⟩
    have F6 : Hid (Fo w6 fa L.length (FL L)) := (F5.out _).below B6
    have BB6 : Hid (Below _ _ w6) := (BB5.out _).trans (B6.mono (BB5.out _).size)
    have X6 : Hid (Box w6 w4.heap.size (FL L i)) := (X5.out _).below B6
    have Y6 : Hid (Box w6 w5.heap.size (FL L i)) := Y5.out.below B6
    have P6 : Hid (∃ D, IL w6 D pv (l)) := ⟨_, I6⟩
    clear B6 F5 BB5 X5 Y5 I6
    obtain ⟨D6, P6'⟩ := P6.out
    obtain ⟨pa, pc, hpv, _⟩ := P6'.shape
    subst hpv
    clear P6'
    go_wp2_with fail
    refine (KI.out _ F6.out).mono ?_
    rintro e w7 ⟨kv, rfl, I7, B7⟩
    have F7 : Hid (Fo w7 fa L.length (FL L)) := F6.out.below B7
    have BB7 : Hid (Below _ _ w7) := BB6.out.trans (B7.mono BB6.out.size)
    have X7 : Hid (Box w7 w4.heap.size (FL L i)) := X6.out.below B7
    have Y7 : Hid (Box w7 w5.heap.size (FL L i)) := Y6.out.below B7
    have P7 : Hid (∃ D, IL w7 D (.slice pa (l).length pc) (l)) := by obtain ⟨D, h⟩ := P6.out; exact ⟨D, h.kept B7⟩
    have K7 : Hid (∃ D, IL w7 D kv (K)) := ⟨_, I7⟩
    clear B7 F6 BB6 X6 Y6 P6 I7
    obtain ⟨D7, K7'⟩ := K7.out
    obtain ⟨ka, kc, hkv, _⟩ := K7'.shape
    subst hkv
    clear K7'
    obtain ⟨⟨x0, x1, x2, x3, x4, x5, x6, x7⟩, _, _⟩ := X7.out
    obtain ⟨⟨y0, y1, y2, y3, y4, y5, y6, y7⟩, _, _⟩ := Y7.out
    simp only [Nat.zero_add] at x1 x2 x3 x4 x5 x6 x7 y1 y2 y3 y4 y5 y6 y7
    go_wp2_with fail
    refine (PS.out _ F7.out).mono ?_
    rintro e w8 ⟨sv8, rfl, I8, B8⟩
    have F8 : Hid (Fo w8 fa L.length (FL L)) := F7.out.below B8
    have BB8 : Hid (Below _ _ w8) := BB7.out.trans (B8.mono BB7.out.size)
    have X8 : Hid (Box w8 w4.heap.size ((FL L i))) := X7.out.below B8
    have Y8 : Hid (Box w8 w5.heap.size ((FL L i))) := Y7.out.below B8
    have P8 : Hid (∃ D, IL w8 D (.slice pa (l).length pc) (l)) := by obtain ⟨D, h⟩ := P7.out; exact ⟨D, h.kept B8⟩
    have K8 : Hid (∃ D, IL w8 D (.slice ka (K).length kc) (K)) := by obtain ⟨D, h⟩ := K7.out; exact ⟨D, h.kept B8⟩
    have J8 : Hid (IL w8 w7.heap.size sv8 (l)) := I8
    clear B8 F7 BB7 X7 Y7 P7 K7 I8
    obtain ⟨sa8, sc8, hs8, _⟩ := J8.out.shape
    subst hs8
    obtain ⟨Dq8, Pq8⟩ := P8.out
    have Ph8 : Hid (IL w8 Dq8 _ (l)) := Pq8
    clear Pq8
    go_wp2_with fail
    refine (sameInts_same Dq8 w7.heap.size _ _ (l) _ hll Ph8.out J8.out).mono ?_
    rintro e w9 ⟨rfl, B9⟩
    have F9 : Hid (Fo w9 fa L.length (FL L)) := F8.out.below B9
    have BB9 : Hid (Below _ _ w9) := BB8.out.trans (B9.mono BB8.out.size)
    have X9 : Hid (Box w9 w4.heap.size ((FL L i))) := X8.out.below B9
    have Y9 : Hid (Box w9 w5.heap.size ((FL L i))) := Y8.out.below B9
    have P9 : Hid (∃ D, IL w9 D (.slice pa (l).length pc) (l)) := by obtain ⟨D, h⟩ := P8.out; exact ⟨D, h.kept B9⟩
    have K9 : Hid (∃ D, IL w9 D (.slice ka (K).length kc) (K)) := by obtain ⟨D, h⟩ := K8.out; exact ⟨D, h.kept B9⟩
    clear B9 F8 BB8 X8 Y8 P8 K8 J8 Ph8
    go_wp2_with fail
    refine (KS.out _ F9.out).mono ?_
    rintro e w10 ⟨sv10, rfl, I10, B10⟩
    have F10 : Hid (Fo w10 fa L.length (FL L)) := F9.out.below B10
    have BB10 : Hid (Below _ _ w10) := BB9.out.trans (B10.mono BB9.out.size)
    have X10 : Hid (Box w10 w4.heap.size ((FL L i))) := X9.out.below B10
    have Y10 : Hid (Box w10 w5.heap.size ((FL L i))) := Y9.out.below B10
    have P10 : Hid (∃ D, IL w10 D (.slice pa (l).length pc) (l)) := by obtain ⟨D, h⟩ := P9.out; exact ⟨D, h.kept B10⟩
    have K10 : Hid (∃ D, IL w10 D (.slice ka (K).length kc) (K)) := by obtain ⟨D, h⟩ := K9.out; exact ⟨D, h.kept B10⟩
    have J10 : Hid (IL w10 w9.heap.size sv10 (K)) := I10
    clear B10 F9 BB9 X9 Y9 P9 K9 I10
    obtain ⟨sa10, sc10, hs10, _⟩ := J10.out.shape
    subst hs10
    obtain ⟨Dq10, Pq10⟩ := K10.out
    have Ph10 : Hid (IL w10 Dq10 _ (K)) := Pq10
    clear Pq10
    go_wp2_with fail
    refine (sameInts_same Dq10 w9.heap.size _ _ (K) _ hlk Ph10.out J10.out).mono ?_
    rintro e w11 ⟨rfl, B11⟩
    have F11 : Hid (Fo w11 fa L.length (FL L)) := F10.out.below B11
    have BB11 : Hid (Below _ _ w11) := BB10.out.trans (B11.mono BB10.out.size)
    have X11 : Hid (Box w11 w4.heap.size ((FL L i))) := X10.out.below B11
    have Y11 : Hid (Box w11 w5.heap.size ((FL L i))) := Y10.out.below B11
    have P11 : Hid (∃ D, IL w11 D (.slice pa (l).length pc) (l)) := by obtain ⟨D, h⟩ := P10.out; exact ⟨D, h.kept B11⟩
    have K11 : Hid (∃ D, IL w11 D (.slice ka (K).length kc) (K)) := by obtain ⟨D, h⟩ := K10.out; exact ⟨D, h.kept B11⟩
    clear B11 F10 BB10 X10 Y10 P10 K10 J10 Ph10
    clear x0 x1 x2 x3 x4 x5 x6 x7 y0 y1 y2 y3 y4 y5 y6 y7
    obtain ⟨Dp, Pp⟩ := P11.out
    obtain ⟨pa', pc', hpe, _, ps⟩ := Pp.shape
    obtain ⟨rfl, rfl⟩ : pa = pa' ∧ pc = pc' := by simpa using hpe
    have PC : Hid (∀ q, q < l.length → ∃ g, pa = some ⟨g, 0, none⟩ ∧ g < w11.heap.size ∧ w11.cell? ⟨g, q, none⟩ = some (.int .i64 (l.getD q 0))) := fun q hq => by obtain ⟨g, e, _, _, hz, hc, _⟩ := ps q hq; exact ⟨g, e, hz, hc⟩
    obtain ⟨Dk, Pk⟩ := K11.out
    obtain ⟨ka', kc', hke, _, ks⟩ := Pk.shape
    obtain ⟨rfl, rfl⟩ : ka = ka' ∧ kc = kc' := by simpa using hke
    have KC : Hid (∀ q, q < K.length → ∃ g, ka = some ⟨g, 0, none⟩ ∧ g < w11.heap.size ∧ w11.cell? ⟨g, q, none⟩ = some (.int .i64 (K.getD q 0))) := fun q hq => by obtain ⟨g, e, _, _, hz, hc, _⟩ := ks q hq; exact ⟨g, e, hz, hc⟩
    have KM : Hid (∀ q, q < K.length → K.getD q 0 ∈ K) := fun q hq => getD_mem hq
    clear ps Pp hpe Pk ks hke P11 K11
    go_wp2
    go_loopw [15] (fun q wr => ∃ k : Nat, k ≤ l.length ∧ q = .int .i64 k ∧ Hid (Below w11.heap.size w11 wr)) (fun q _ => l.length - (intOf q).toNat)
    case atStart => exact ⟨0, Nat.zero_le _, rfl, Below.refl _ _⟩
    case round =>
      obtain ⟨k, hk, rfl, hB⟩ := hrel
      by_cases hlt : k < l.length
      · obtain ⟨g, rfl, hg, cg0⟩ := PC.out k hlt
        obtain ⟨j, hj, hjid, hj1, hj2⟩ := HN.out k hlt
        have cg : wr.cell? ⟨g, k, none⟩ = some (.int .i64 (FL L j).id) := by rw [hB.out.cell (p := ⟨g, k, none⟩) hg, ← hjid]; exact cg0
        have HJ1 : Hid (k + 1 < l.length → (FL L j).up = l.getD (k + 1) 0) := hj1
        have HJ2 : Hid (k + 1 = l.length → (FL L j).up = 0) := hj2
        clear cg0 hjid hj1 hj2
        go_wp2_with fail
        refine (implFind_yes _ L.length fc (FL L) (FL L j).id j _ (F11.out.below hB.out) HR.out (place_self HR.out.2.2.1 hj)).mono ?_
        rintro e w12 ⟨rfl, B12⟩
        obtain ⟨W, hW⟩ : ∃ W, W = w12.alloc (.cells #[.int .i64 (FL L j).id, .int .i64 (FL L j).up, .int .i64 (FL L j).limit, .int .i64 (FL L j).rate, .int .i64 (FL L j).target, .bool (FL L j).frozen, .int .i64 (FL L j).balance, .int .i64 (FL L j).carry] 41) := ⟨_, rfl⟩
        have BW : Hid (Below w11.heap.size w11 W) := by rw [hW]; exact (hB.out.trans (B12.mono hB.out.size)).alloc (Nat.le_trans hB.out.size B12.size) _
        have XW : Hid (Box W w12.heap.size (FL L j)) := by rw [hW]; exact Box.new w12 (FL L j) 41
        clear B12 cg
        obtain ⟨⟨x0, x1, x2, x3, x4, x5, x6, x7⟩, _, _⟩ := XW.out
        simp only [Nat.zero_add] at x1
        clear x0 x2 x3 x4 x5 x6 x7 XW
        by_cases hl1 : k + 1 < l.length
        · obtain ⟨g', eg, _, cg1⟩ := PC.out (k + 1) hl1
          have egg : g = g' := by simpa using eg
          subst egg
          have cw : W.cell? ⟨g, k + 1, none⟩ = some (.int .i64 (FL L j).up) := by rw [BW.out.cell (p := ⟨g, k + 1, none⟩) hg, HJ1.out hl1]; exact cg1
          have hk1 : (k : Int) + 1 < (l.length : Int) := by omega
          have hk2 : (((k : Int) + 1) == (l.length : Int)) = false := beq_eq_false_iff_ne.2 (by omega)
          have hk3 : ¬ ((k : Int) + 1 = (l.length : Int)) := by omega
          have hk4 : ((k : Int) + 1).toNat = k + 1 := by omega
          clear eg cg1
          go_wp2
          rw [← hW]
          clear hW
          go_quiet (fail)
          go_wp2
          go_roundw
          case rel => exact ⟨k + 1, by omega, by go_num, ⟨BW.out.os, BW.out.tape, BW.out.output, BW.out.size, BW.out.block⟩⟩
          case measure => simp [intOf]; omega
        · have hkl : k + 1 = l.length := by omega
          have hk1 : ¬ ((k : Int) + 1 < (l.length : Int)) := by omega
          have hk2 : (((k : Int) + 1) == (l.length : Int)) = true := by simp; omega
          have hk5 : decide ((k : Int) + 1 < (l.length : Int)) = false := decide_eq_false hk1
          have hk6 : decide (k + 1 < l.length) = false := decide_eq_false (by omega)
          have hk7 : (l.length : Int) ≤ (k : Int) + 1 := by omega
          rw [HJ2.out hkl] at x1
          go_wp2
          rw [← hW]
          clear hW
          go_quiet (fail)
          go_wp2
          go_roundw
          case rel => exact ⟨k + 1, by omega, by go_num, ⟨BW.out.os, BW.out.tape, BW.out.output, BW.out.size, BW.out.block⟩⟩
          case measure => simp [intOf]; omega
      · obtain ⟨V, hV⟩ : ∃ V, V = wr := ⟨_, rfl⟩
        have XV : Hid (Box wr w4.heap.size (FL L i)) := X11.out.below hB.out
        obtain ⟨⟨x0, x1, x2, x3, x4, x5, x6, x7⟩, _, _⟩ := XV.out
        simp only [Nat.zero_add] at x6
        clear x0 x1 x2 x3 x4 x5 x7 XV hV V
        go_wp2
        go_loopw [18, 19] (fun s q wx => ∃ k : Nat, k ≤ K.length ∧ q = .int .i64 k ∧ s = .int .i64 ((FL L i).balance + listSum (FL L) L.length (K.take k)) ∧ Hid (Below w11.heap.size w11 wx)) (fun _ q _ => K.length - (intOf q).toNat)
        case atStart => exact ⟨0, Nat.zero_le _, rfl, by simp [listSum], hB⟩
        case round =>
          obtain ⟨k, hk, rfl, rfl, hB2⟩ := hrel
          have hlk1 : (K.take k).length ≤ 12 := by simp; omega
          obtain ⟨lb1, lb2⟩ := listSum_bd HR.out (K.take k)
          by_cases hlt2 : k < K.length
          · obtain ⟨g, rfl, hg, cg0⟩ := KC.out k hlt2
            obtain ⟨j, hj, hjid⟩ := HKM.out _ (KM.out k hlt2)
            have cg : wr.cell? ⟨g, k, none⟩ = some (.int .i64 (FL L j).id) := by rw [hB2.out.cell (p := ⟨g, k, none⟩) hg, hjid]; exact cg0
            have HT : Hid (listSum (FL L) L.length (K.take (k + 1)) = listSum (FL L) L.length (K.take k) + sumAll (FL L) L.length j) := by
              have e := listSum_take (FL L) L.length K hlt2
              rw [← hjid, place_self HR.out.2.2.1 hj] at e
              exact e
            obtain ⟨sb1, sb2⟩ := sumAll_bd HR.out j
            clear cg0 hjid
            go_wp2_with fail
            refine (implSumOf_yes _ L.length fc (FL L) (FL L j).id j _ (F11.out.below hB2.out) HR.out (place_self HR.out.2.2.1 hj)).mono ?_
            rintro e w13 ⟨rfl, B13⟩
            have B13' : Hid (Below w11.heap.size w11 w13) := hB2.out.trans (B13.mono hB2.out.size)
            clear B13 cg
            generalize listSum (FL L) L.length (K.take k) = z at *
            go_wp2
            go_roundw
            case rel => exact ⟨k + 1, by omega, by go_num, by rw [HT.out]; go_num, B13'⟩
            case measure => simp [intOf]; omega
          · have hkn : k = K.length := by omega
            obtain ⟨hp0, hp1⟩ := HH.out
            obtain ⟨g, rfl, hg, cg0⟩ := PC.out 0 hp0
            have cg : wr.cell? ⟨g, 0, none⟩ = some (.int .i64 id) := by rw [hB2.out.cell (p := ⟨g, 0, none⟩) hg, ← hp1]; exact cg0
            have HS2 : Hid (SU = (FL L i).balance + listSum (FL L) L.length (K.take k)) := by
              have e := HSUM.out
              rw [hkn, List.take_length]
              exact e
            rw [← HS2.out]
            clear cg0 hp1
            go_wp2
            go_ret
            exact ⟨by simp, BB11.out.trans (hB2.out.mono BB11.out.size)⟩
  · obtain ⟨l, hll, pS, pI⟩ := both_path L.length (FL L) id (by omega)
    obtain ⟨K, hlk, kS, kI⟩ := both_kids L.length (FL L) id (by omega)
    obtain ⟨okb, okS, okI⟩ : ∃ b : Bool, (∀ w', Fo w' fa L.length (FL L) → Calls Try.prog 29 #[.slice fa L.length fc] w' fun e w'' => e = .returned (.bool b) ∧ Below w'.heap.size w' w'') ∧ ∀ w', Fo w' fa L.length (FL L) → Calls Try.prog 28 #[.slice fa L.length fc] w' fun e w'' => e = .returned (.bool b) ∧ Below w'.heap.size w' w'' := by
      by_cases hr : Right (FL L) L.length
      · exact ⟨true, fun w' h' => specOk_yes fa L.length fc (FL L) w' h' hr, fun w' h' => implOk_yes fa L.length fc (FL L) w' h' hr⟩
      · exact ⟨false, fun w' h' => specOk_no fa L.length fc (FL L) w' h' hr, fun w' h' => implOk_no fa L.length fc (FL L) w' h' hr⟩
    have OS : Hid (∀ w', Fo w' fa L.length (FL L) → Calls Try.prog 29 #[.slice fa L.length fc] w' fun e w'' => e = .returned (.bool okb) ∧ Below w'.heap.size w' w'') := okS
    have OI : Hid (∀ w', Fo w' fa L.length (FL L) → Calls Try.prog 28 #[.slice fa L.length fc] w' fun e w'' => e = .returned (.bool okb) ∧ Below w'.heap.size w' w'') := okI
    have SI : Hid (∀ w', Fo w' fa L.length (FL L) → Calls Try.prog 15 #[.slice fa L.length fc, .int .i64 id] w' fun e w'' => e = .returned (.tuple #[.int .i64 (0), .bool false]) ∧ Below w'.heap.size w' w'') := fun w' h' => implSumOf_no fa L.length fc (FL L) id w' h' hR
    have SS : Hid (∀ w', Fo w' fa L.length (FL L) → Calls Try.prog 13 #[.slice fa L.length fc, .int .i64 id] w' fun e w'' => e = .returned (.tuple #[.int .i64 (0), .bool false]) ∧ Below w'.heap.size w' w'') := fun w' h' => specSumOf_no fa L.length fc (FL L) id w' h' hR
    have FI : Hid (∀ w', Fo w' fa L.length (FL L) → Calls Try.prog 21 #[.slice fa L.length fc, .int .i64 id] w' fun e w'' => e = .returned (.tuple #[.agg #[.int .i64 0, .int .i64 0, .int .i64 0, .int .i64 0, .int .i64 0, .bool false, .int .i64 0, .int .i64 0], .bool false]) ∧ Below w'.heap.size w' w'') := fun w' h' => implFind_no fa L.length fc (FL L) id w' h' hR
    have FS : Hid (∀ w', Fo w' fa L.length (FL L) → Calls Try.prog 22 #[.slice fa L.length fc, .int .i64 id] w' fun e w'' => e = .returned (.tuple #[.agg #[.int .i64 0, .int .i64 0, .int .i64 0, .int .i64 0, .int .i64 0, .bool false, .int .i64 0, .int .i64 0], .bool false]) ∧ Below w'.heap.size w' w'') := fun w' h' => specFind_no fa L.length fc (FL L) id w' h' hR
    have PI : Hid (∀ w', Fo w' fa L.length (FL L) → Calls Try.prog 23 #[.slice fa L.length fc, .int .i64 id] w' fun e w'' => ∃ v, e = .returned v ∧ IL w'' w'.heap.size v (l) ∧ Below w'.heap.size w' w'') := fun w' h' => pI w' fa fc h'
    have PS : Hid (∀ w', Fo w' fa L.length (FL L) → Calls Try.prog 26 #[.slice fa L.length fc, .int .i64 id] w' fun e w'' => ∃ v, e = .returned v ∧ IL w'' w'.heap.size v (l) ∧ Below w'.heap.size w' w'') := fun w' h' => pS w' fa fc h'
    have KI : Hid (∀ w', Fo w' fa L.length (FL L) → Calls Try.prog 24 #[.slice fa L.length fc, .int .i64 id] w' fun e w'' => ∃ v, e = .returned v ∧ IL w'' w'.heap.size v (K) ∧ Below w'.heap.size w' w'') := fun w' h' => kI w' fa fc h'
    have KS : Hid (∀ w', Fo w' fa L.length (FL L) → Calls Try.prog 27 #[.slice fa L.length fc, .int .i64 id] w' fun e w'' => ∃ v, e = .returned v ∧ IL w'' w'.heap.size v (K) ∧ Below w'.heap.size w' w'') := fun w' h' => kS w' fa fc h'
    clear hR pS pI kS kI okS okI
    go_wp2_with fail
    refine (SI.out _ F1.out).mono ?_
    rintro e w2 ⟨rfl, B2⟩
    have F2 : Hid (Fo w2 fa L.length (FL L)) := F1.out.below B2
    have BB2 : Hid (Below _ _ w2) := BB1.out.trans (B2.mono BB1.out.size)
    clear B2 F1 BB1
    go_wp2_with fail
    refine (SS.out _ F2.out).mono ?_
    rintro e w3 ⟨rfl, B3⟩
    have F3 : Hid (Fo w3 fa L.length (FL L)) := F2.out.below B3
    have BB3 : Hid (Below _ _ w3) := BB2.out.trans (B3.mono BB2.out.size)
    clear B3 F2 BB2
    go_wp2_with fail
    refine (FI.out _ F3.out).mono ?_
    rintro e w4 ⟨rfl, B4⟩
    have F4 : Hid (∀ y, Fo (w4.alloc y) fa L.length (FL L)) := fun y => (F3.out.below B4).alloc y
    have BB4 : Hid (∀ y, Below _ _ (w4.alloc y)) := fun y => (BB3.out.trans (B4.mono BB3.out.size)).alloc (Nat.le_trans BB3.out.size B4.size) y
    have X4 : Hid (Box (w4.alloc (.cells #[.int .i64 0, .int .i64 0, .int .i64 0, .int .i64 0, .int .i64 0, .bool false, .int .i64 0, .int .i64 0] 41)) w4.heap.size noAcc) := Box.new w4 noAcc 41
    clear B4 F3 BB3
    go_wp2_with fail
    refine (FS.out _ (F4.out _)).mono ?_
    rintro e w5 ⟨rfl, B5⟩
    have F5 : Hid (∀ y, Fo (w5.alloc y) fa L.length (FL L)) := fun y => ((F4.out _).below B5).alloc y
    have BB5 : Hid (∀ y, Below _ _ (w5.alloc y)) := fun y => ((BB4.out _).trans (B5.mono (BB4.out _).size)).alloc (Nat.le_trans (BB4.out _).size B5.size) y
    have X5 : Hid (∀ y, Box (w5.alloc y) w4.heap.size noAcc) := fun y => (X4.out.below B5).below ((Below.refl _ _).alloc (Nat.le_refl _) y)
    have Y5 : Hid (Box (w5.alloc (.cells #[.int .i64 0, .int .i64 0, .int .i64 0, .int .i64 0, .int .i64 0, .bool false, .int .i64 0, .int .i64 0] 41)) w5.heap.size noAcc) := Box.new w5 noAcc 41
    clear B5 F4 BB4 X4
    go_wp2_with fail
    refine (PI.out _ (F5.out _)).mono ?_
    rintro e w6 ⟨pv, rfl, I6, B6⟩
    have F6 : Hid (Fo w6 fa L.length (FL L)) := (F5.out _).below B6
    have BB6 : Hid (Below _ _ w6) := (BB5.out _).trans (B6.mono (BB5.out _).size)
    have X6 : Hid (Box w6 w4.heap.size noAcc) := (X5.out _).below B6
    have Y6 : Hid (Box w6 w5.heap.size noAcc) := Y5.out.below B6
    have P6 : Hid (∃ D, IL w6 D pv (l)) := ⟨_, I6⟩
    clear B6 F5 BB5 X5 Y5 I6
    obtain ⟨D6, P6'⟩ := P6.out
    obtain ⟨pa, pc, hpv, _⟩ := P6'.shape
    subst hpv
    clear P6'
    go_wp2_with fail
    refine (KI.out _ F6.out).mono ?_
    rintro e w7 ⟨kv, rfl, I7, B7⟩
    have F7 : Hid (Fo w7 fa L.length (FL L)) := F6.out.below B7
    have BB7 : Hid (Below _ _ w7) := BB6.out.trans (B7.mono BB6.out.size)
    have X7 : Hid (Box w7 w4.heap.size noAcc) := X6.out.below B7
    have Y7 : Hid (Box w7 w5.heap.size noAcc) := Y6.out.below B7
    have P7 : Hid (∃ D, IL w7 D (.slice pa (l).length pc) (l)) := by obtain ⟨D, h⟩ := P6.out; exact ⟨D, h.kept B7⟩
    have K7 : Hid (∃ D, IL w7 D kv (K)) := ⟨_, I7⟩
    clear B7 F6 BB6 X6 Y6 P6 I7
    obtain ⟨D7, K7'⟩ := K7.out
    obtain ⟨ka, kc, hkv, _⟩ := K7'.shape
    subst hkv
    clear K7'
    obtain ⟨⟨x0, x1, x2, x3, x4, x5, x6, x7⟩, _, _⟩ := X7.out
    obtain ⟨⟨y0, y1, y2, y3, y4, y5, y6, y7⟩, _, _⟩ := Y7.out
    simp only [Nat.zero_add] at x1 x2 x3 x4 x5 x6 x7 y1 y2 y3 y4 y5 y6 y7
    go_wp2_with fail
    refine (PS.out _ F7.out).mono ?_
    rintro e w8 ⟨sv8, rfl, I8, B8⟩
    have F8 : Hid (Fo w8 fa L.length (FL L)) := F7.out.below B8
    have BB8 : Hid (Below _ _ w8) := BB7.out.trans (B8.mono BB7.out.size)
    have X8 : Hid (Box w8 w4.heap.size (noAcc)) := X7.out.below B8
    have Y8 : Hid (Box w8 w5.heap.size (noAcc)) := Y7.out.below B8
    have P8 : Hid (∃ D, IL w8 D (.slice pa (l).length pc) (l)) := by obtain ⟨D, h⟩ := P7.out; exact ⟨D, h.kept B8⟩
    have K8 : Hid (∃ D, IL w8 D (.slice ka (K).length kc) (K)) := by obtain ⟨D, h⟩ := K7.out; exact ⟨D, h.kept B8⟩
    have J8 : Hid (IL w8 w7.heap.size sv8 (l)) := I8
    clear B8 F7 BB7 X7 Y7 P7 K7 I8
    obtain ⟨sa8, sc8, hs8, _⟩ := J8.out.shape
    subst hs8
    obtain ⟨Dq8, Pq8⟩ := P8.out
    have Ph8 : Hid (IL w8 Dq8 _ (l)) := Pq8
    clear Pq8
    go_wp2_with fail
    refine (sameInts_same Dq8 w7.heap.size _ _ (l) _ hll Ph8.out J8.out).mono ?_
    rintro e w9 ⟨rfl, B9⟩
    have F9 : Hid (Fo w9 fa L.length (FL L)) := F8.out.below B9
    have BB9 : Hid (Below _ _ w9) := BB8.out.trans (B9.mono BB8.out.size)
    have X9 : Hid (Box w9 w4.heap.size (noAcc)) := X8.out.below B9
    have Y9 : Hid (Box w9 w5.heap.size (noAcc)) := Y8.out.below B9
    have P9 : Hid (∃ D, IL w9 D (.slice pa (l).length pc) (l)) := by obtain ⟨D, h⟩ := P8.out; exact ⟨D, h.kept B9⟩
    have K9 : Hid (∃ D, IL w9 D (.slice ka (K).length kc) (K)) := by obtain ⟨D, h⟩ := K8.out; exact ⟨D, h.kept B9⟩
    clear B9 F8 BB8 X8 Y8 P8 K8 J8 Ph8
    go_wp2_with fail
    refine (KS.out _ F9.out).mono ?_
    rintro e w10 ⟨sv10, rfl, I10, B10⟩
    have F10 : Hid (Fo w10 fa L.length (FL L)) := F9.out.below B10
    have BB10 : Hid (Below _ _ w10) := BB9.out.trans (B10.mono BB9.out.size)
    have X10 : Hid (Box w10 w4.heap.size (noAcc)) := X9.out.below B10
    have Y10 : Hid (Box w10 w5.heap.size (noAcc)) := Y9.out.below B10
    have P10 : Hid (∃ D, IL w10 D (.slice pa (l).length pc) (l)) := by obtain ⟨D, h⟩ := P9.out; exact ⟨D, h.kept B10⟩
    have K10 : Hid (∃ D, IL w10 D (.slice ka (K).length kc) (K)) := by obtain ⟨D, h⟩ := K9.out; exact ⟨D, h.kept B10⟩
    have J10 : Hid (IL w10 w9.heap.size sv10 (K)) := I10
    clear B10 F9 BB9 X9 Y9 P9 K9 I10
    obtain ⟨sa10, sc10, hs10, _⟩ := J10.out.shape
    subst hs10
    obtain ⟨Dq10, Pq10⟩ := K10.out
    have Ph10 : Hid (IL w10 Dq10 _ (K)) := Pq10
    clear Pq10
    go_wp2_with fail
    refine (sameInts_same Dq10 w9.heap.size _ _ (K) _ hlk Ph10.out J10.out).mono ?_
    rintro e w11 ⟨rfl, B11⟩
    have F11 : Hid (Fo w11 fa L.length (FL L)) := F10.out.below B11
    have BB11 : Hid (Below _ _ w11) := BB10.out.trans (B11.mono BB10.out.size)
    have X11 : Hid (Box w11 w4.heap.size (noAcc)) := X10.out.below B11
    have Y11 : Hid (Box w11 w5.heap.size (noAcc)) := Y10.out.below B11
    have P11 : Hid (∃ D, IL w11 D (.slice pa (l).length pc) (l)) := by obtain ⟨D, h⟩ := P10.out; exact ⟨D, h.kept B11⟩
    have K11 : Hid (∃ D, IL w11 D (.slice ka (K).length kc) (K)) := by obtain ⟨D, h⟩ := K10.out; exact ⟨D, h.kept B11⟩
    clear B11 F10 BB10 X10 Y10 P10 K10 J10 Ph10
    clear x0 x1 x2 x3 x4 x5 x6 x7 y0 y1 y2 y3 y4 y5 y6 y7
    obtain ⟨⟨x0, x1, x2, x3, x4, x5, x6, x7⟩, _, _⟩ := X11.out
    obtain ⟨⟨y0, y1, y2, y3, y4, y5, y6, y7⟩, _, _⟩ := Y11.out
    simp only [Nat.zero_add] at x1 x2 x3 x4 x5 x6 x7 y1 y2 y3 y4 y5 y6 y7
    go_wp2_with fail
    refine (PS.out _ F11.out).mono ?_
    rintro e w12 ⟨sv12, rfl, I12, B12⟩
    have F12 : Hid (Fo w12 fa L.length (FL L)) := F11.out.below B12
    have BB12 : Hid (Below _ _ w12) := BB11.out.trans (B12.mono BB11.out.size)
    have X12 : Hid (Box w12 w4.heap.size (noAcc)) := X11.out.below B12
    have Y12 : Hid (Box w12 w5.heap.size (noAcc)) := Y11.out.below B12
    have P12 : Hid (∃ D, IL w12 D (.slice pa (l).length pc) (l)) := by obtain ⟨D, h⟩ := P11.out; exact ⟨D, h.kept B12⟩
    have K12 : Hid (∃ D, IL w12 D (.slice ka (K).length kc) (K)) := by obtain ⟨D, h⟩ := K11.out; exact ⟨D, h.kept B12⟩
    have J12 : Hid (IL w12 w11.heap.size sv12 (l)) := I12
    clear B12 F11 BB11 X11 Y11 P11 K11 I12
    obtain ⟨sa12, sc12, hs12, _⟩ := J12.out.shape
    subst hs12
    obtain ⟨Dq12, Pq12⟩ := P12.out
    have Ph12 : Hid (IL w12 Dq12 _ (l)) := Pq12
    clear Pq12
    go_wp2_with fail
    refine (sameInts_same Dq12 w11.heap.size _ _ (l) _ hll Ph12.out J12.out).mono ?_
    rintro e w13 ⟨rfl, B13⟩
    have F13 : Hid (Fo w13 fa L.length (FL L)) := F12.out.below B13
    have BB13 : Hid (Below _ _ w13) := BB12.out.trans (B13.mono BB12.out.size)
    have X13 : Hid (Box w13 w4.heap.size (noAcc)) := X12.out.below B13
    have Y13 : Hid (Box w13 w5.heap.size (noAcc)) := Y12.out.below B13
    have P13 : Hid (∃ D, IL w13 D (.slice pa (l).length pc) (l)) := by obtain ⟨D, h⟩ := P12.out; exact ⟨D, h.kept B13⟩
    have K13 : Hid (∃ D, IL w13 D (.slice ka (K).length kc) (K)) := by obtain ⟨D, h⟩ := K12.out; exact ⟨D, h.kept B13⟩
    clear B13 F12 BB12 X12 Y12 P12 K12 J12 Ph12
    clear x0 x1 x2 x3 x4 x5 x6 x7 y0 y1 y2 y3 y4 y5 y6 y7
    go_wp2_with fail
    refine (OI.out _ F13.out).mono ?_
    rintro e w14 ⟨rfl, B14⟩
    have F14 : Hid (Fo w14 fa L.length (FL L)) := F13.out.below B14
    have BB14 : Hid (Below _ _ w14) := BB13.out.trans (B14.mono BB13.out.size)
    clear B14
    go_wp2_with fail
    refine (OS.out _ F14.out).mono ?_
    rintro e w15 ⟨rfl, B15⟩
    have BB15 : Hid (Below _ _ w15) := BB14.out.trans (B15.mono BB14.out.size)
    clear B15
    cases okb
    · go_wp2
      go_ret
      exact ⟨rfl, BB15.out⟩
    · go_wp2
      go_ret
      exact ⟨rfl, BB15.out⟩
end Go.Proofs.Ytcmjndcpffodgaa
