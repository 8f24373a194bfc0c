/- The law FnRoom returns true, whatever the bytes of the code: what may be taken is within each limit on the path, and just that of one of these. Conditions: the bytes lie in memory. -/
import Derived.Test.YtcmjndcpffodgaaDraws
namespace Go.Proofs.Ytcmjndcpffodgaa
open Go.RowKit

/-- An id on a path whose account's limit leaves just r. -/
def hit (F : Nat → Acc) (n : Nat) (r : Int) (x : Int) : Prop := ∃ j, place F n x = some j ∧ 0 ≤ (F j).limit ∧ r = sumAll F n j + (F j).limit
theorem fold_min {F : Nat → Acc} {n : Nat} : ∀ (l : List Int) (r0 : Option Int) (r : Int), (∀ x, x ∈ l → ∃ j, place F n x = some j) → l.foldl (step F n []) r0 = some r →
    (∀ x, x ∈ l → ∀ j, place F n x = some j → 0 ≤ (F j).limit → r ≤ sumAll F n j + (F j).limit) ∧ (∀ q, r0 = some q → r ≤ q) ∧ ((∃ x, x ∈ l ∧ hit F n r x) ∨ r0 = some r)
  | [], r0, r, _, h => by
    simp only [List.foldl_nil] at h
    subst h
    exact ⟨fun x hx => (by cases hx), fun q hq => (by obtain rfl := Option.some.inj hq; omega), Or.inr rfl⟩
  | y :: l, r0, r, hpl, h => by
    simp only [List.foldl_cons] at h
    obtain ⟨j, hj⟩ := hpl y (by simp)
    obtain ⟨i1, i2, i3⟩ := fold_min l _ r (fun x hx => hpl x (by simp [hx])) h
    by_cases hlim : (F j).limit < 0
    · rw [step_skip hj (Or.inl hlim)] at i2 i3
      refine ⟨fun x hx j' hj' hl' => ?_, i2, ?_⟩
      · rcases List.mem_cons.1 hx with e | e
        · subst e
          rw [hj] at hj'
          obtain rfl := Option.some.inj hj'
          omega
        · exact i1 x e j' hj' hl'
      · rcases i3 with ⟨x, hx, hh⟩ | e
        · exact Or.inl ⟨x, by simp [hx], hh⟩
        · exact Or.inr e
    · have hnot : ¬ ((F j).limit < 0 ∨ y ∈ ([] : List Int)) := by simp; omega
      have key : ∃ z, step F n [] r0 y = some z ∧ z ≤ sumAll F n j + (F j).limit ∧ (∀ q, r0 = some q → z ≤ q) ∧ (z = sumAll F n j + (F j).limit ∨ r0 = some z) := by
        cases r0 with
        | none => exact ⟨_, step_first hj hnot, by omega, fun q hq => (by cases hq), Or.inl rfl⟩
        | some q =>
          by_cases hq : sumAll F n j + (F j).limit < q
          · exact ⟨_, step_less hj hnot hq, by omega, fun q' hq' => (by obtain rfl := Option.some.inj hq'; omega), Or.inl rfl⟩
          · exact ⟨_, step_more hj hnot hq, by omega, fun q' hq' => (by obtain rfl := Option.some.inj hq'; omega), Or.inr rfl⟩
      obtain ⟨z, hz, z1, z2, z3⟩ := key
      have hrz := i2 z hz
      refine ⟨fun x hx j' hj' hl' => ?_, fun q hq => Int.le_trans hrz (z2 q hq), ?_⟩
      · rcases List.mem_cons.1 hx with e | e
        · subst e
          rw [hj] at hj'
          obtain rfl := Option.some.inj hj'
          omega
        · exact i1 x e j' hj' hl'
      · rcases i3 with ⟨x, hx, hh⟩ | e
        · exact Or.inl ⟨x, by simp [hx], hh⟩
        · rw [hz] at e
          obtain rfl := Option.some.inj e
          rcases z3 with e3 | e3
          · exact Or.inl ⟨y, by simp, j, hj, by omega, e3⟩
          · exact Or.inr e3
theorem room_min {F : Nat → Acc} {n : Nat} (h : Right F n) {i : Nat} (hi : i < n) : ∃ r, room F n [] i = some r ∧ (∀ x, x ∈ pathL F n i → ∀ j, place F n x = some j → 0 ≤ (F j).limit → r ≤ sumAll F n j + (F j).limit) ∧ ∃ x, x ∈ pathL F n i ∧ hit F n r x := by
  obtain ⟨r, hr⟩ := Option.isSome_iff_exists.1 (room_some h hi)
  obtain ⟨a, _, c⟩ := fold_min (pathL F n i) none r (fun x hx => by obtain ⟨j, _, _, e⟩ := h.on_path hi hx; exact ⟨j, e⟩) hr
  rcases c with c | c
  · exact ⟨r, hr, a, c⟩
  · cases c

set_option maxRecDepth 4000 in
set_option maxHeartbeats 4000000 in
theorem lawDrawnRoom (a : Option Addr) (len cap : Nat) (w : World) (h : Code w a len) :
    Calls Try.prog 7 #[.slice a len cap] w fun e w' => e = .returned (.bool true) ∧ Below w.heap.size w w' := by
  have H : Hid (Code w a len) := h
  clear h
  by_cases hbig : 1048576 < len
  · go_enter Try.func7, Try.ntmps7
    go_wp2_with (go_at_call 19; refine (big_yes _ _ _ _ hbig).mono ?_; rintro e w' ⟨rfl, rfl⟩)
    go_ret
    exact ⟨rfl, Below.refl _ _⟩
  go_enter Try.func7, Try.ntmps7
  go_wp2_with (go_at_call 19; refine (big_no _ _ _ _ (by omega)).mono ?_; rintro e w' ⟨rfl, rfl⟩)
  refine (drawRoomOf a len cap _ H.out).mono ?_
  rintro e w1 ⟨v, L, id, rfl, hl, A1, B1⟩
  obtain ⟨fa, fc, hv⟩ := A1.len
  subst hv
  have F1 : Hid (Fo w1 fa L.length (FL L)) := (A1.fo (by omega)).2
  have BB1 : Hid (Below _ _ w1) := B1
  clear B1 H hbig A1
  by_cases hR : Right (FL L) L.length ∧ ∃ i, place (FL L) L.length id = some i
  · obtain ⟨hr, i, hp⟩ := hR
    obtain ⟨hin, hid⟩ := place_some hp
    have HR : Hid (Right (FL L) L.length) := hr
    have HP : Hid (place (FL L) L.length id = some i) := hp
    obtain ⟨r, hroom, hmin, hex⟩ := room_min hr hin
    have HMIN : Hid (∀ x, x ∈ pathL (FL L) L.length i → ∀ j, place (FL L) L.length x = some j → 0 ≤ (FL L j).limit → r ≤ sumAll (FL L) L.length j + (FL L j).limit) := hmin
    have HEX : Hid (∃ x, x ∈ pathL (FL L) L.length i ∧ hit (FL L) L.length r x) := hex
    have RI : Hid (∀ w', Fo w' fa L.length (FL L) → Calls Try.prog 18 #[.slice fa L.length fc, .int .i64 id] w' fun e w'' => e = .returned (.tuple #[.int .i64 r, .bool true]) ∧ Below w'.heap.size w' w'') := fun w' h' => by
      have := implRoomOf_yes fa L.length fc (FL L) id i w' h' hr hp
      rw [hroom] at this
      exact this
    have RS : Hid (∀ w', Fo w' fa L.length (FL L) → Calls Try.prog 17 #[.slice fa L.length fc, .int .i64 id] w' fun e w'' => e = .returned (.tuple #[.int .i64 r, .bool true]) ∧ Below w'.heap.size w' w'') := fun w' h' => by
      have := specRoomOf_yes fa L.length fc (FL L) id i w' h' hr hp
      rw [hroom] at this
      exact this
    have PI : Hid (∀ w', Fo w' fa L.length (FL L) → Calls Try.prog 23 #[.slice fa L.length fc, .int .i64 id] w' fun e w'' => ∃ v, e = .returned v ∧ IL w'' w'.heap.size v (pathL (FL L) L.length i) ∧ Below w'.heap.size w' w'') := fun w' h' => by
      have hc : chain (FL L) L.length L.length id = some (pathL (FL L) L.length i) := by rw [← hid]; exact hr.path hin
      exact implPathOf_of fa L.length fc (FL L) id _ w' h' hr (fun w2 h2 => implPathFrom fa L.length fc (FL L) id _ w2 h2 hr hc)
    have HON : Hid (∀ x, x ∈ pathL (FL L) L.length i → ∃ j, j < L.length ∧ (FL L j).id = x ∧ place (FL L) L.length x = some j) := fun x hx => hr.on_path hin hx
    have hpl : (pathL (FL L) L.length i).length ≤ L.length := path_len hr hin
    clear hr hp hroom hmin hex hid
    go_wp2_with fail
    refine (RI.out _ F1.out).mono ?_
    rintro e w2 ⟨rfl, B2⟩
    have F2 : Hid (Fo w2 fa L.length (FL L)) := F1.out.below B2
    have BB2 : Hid (Below _ _ w2) := BB1.out.trans (B2.mono BB1.out.size)
    clear B2 F1 BB1
    go_wp2_with fail
    refine (RS.out _ F2.out).mono ?_
    rintro e w3 ⟨rfl, B3⟩
    have F3 : Hid (Fo w3 fa L.length (FL L)) := F2.out.below B3
    have BB3 : Hid (Below _ _ w3) := BB2.out.trans (B3.mono BB2.out.size)
    clear B3 F2 BB2
    go_wp2_with fail
    refine (PI.out _ F3.out).mono ?_
    rintro e w4 ⟨pv, rfl, I4, B4⟩
    have F4 : Hid (Fo w4 fa L.length (FL L)) := F3.out.below B4
    have BB4 : Hid (Below _ _ w4) := BB3.out.trans (B4.mono BB3.out.size)
    obtain ⟨pa, pc, hpv, _, ps⟩ := I4.shape
    subst hpv
    have PS : Hid (∀ q, q < (pathL (FL L) L.length i).length → ∃ g, pa = some ⟨g, 0, none⟩ ∧ g < w4.heap.size ∧ w4.cell? ⟨g, q, none⟩ = some (.int .i64 ((pathL (FL L) L.length i).getD q 0))) := fun q hq => by obtain ⟨g, e, _, _, hz, hc, _⟩ := ps q hq; exact ⟨g, e, hz, hc⟩
    have HG : Hid (∀ q, q < (pathL (FL L) L.length i).length → (pathL (FL L) L.length i).getD q 0 ∈ pathL (FL L) L.length i) := fun q hq => getD_mem hq
    have HTK : Hid (∀ q, q < (pathL (FL L) L.length i).length → ∀ x, x ∈ (pathL (FL L) L.length i).take (q + 1) → x ∈ (pathL (FL L) L.length i).take q ∨ x = (pathL (FL L) L.length i).getD q 0) := fun q hq x hx => by
      rw [List.take_succ_eq_append_getElem hq] at hx
      rcases List.mem_append.1 hx with e | e
      · exact Or.inl e
      · right
        simp [List.getD, List.getElem?_eq_getElem hq]
        simpa using e
    have HTE : Hid ((pathL (FL L) L.length i).take (pathL (FL L) L.length i).length = pathL (FL L) L.length i) := List.take_length
    clear B4 F3 BB3 ps I4
    generalize pathL (FL L) L.length i = l at *
    go_wp2
    go_loopw [10, 11] (fun s q wr => ∃ (k : Nat) (b : Bool), k ≤ l.length ∧ q = .int .i64 k ∧ s = .bool b ∧ Hid ((∃ x, x ∈ l.take k ∧ hit (FL L) L.length r x) → b = true) ∧ Hid (Below w4.heap.size w4 wr)) (fun _ q _ => l.length - (intOf q).toNat)
    case atStart => exact ⟨0, false, Nat.zero_le _, rfl, rfl, fun ⟨x, hx, _⟩ => by simp at hx, Below.refl _ _⟩
    case round =>
      obtain ⟨k, b, hk, rfl, rfl, hb, hB⟩ := hrel
      have FR : Hid (Fo wr fa L.length (FL L)) := F4.out.below hB.out
      by_cases hlt : k < l.length
      · obtain ⟨g, rfl, hg, cg0⟩ := PS.out k hlt
        have cg : wr.cell? ⟨g, k, none⟩ = some (.int .i64 (l.getD k 0)) := by rw [hB.out.cell (p := ⟨g, k, none⟩) hg]; exact cg0
        obtain ⟨j, hj, hid, hpj⟩ := HON.out _ (HG.out k hlt)
        have HPJ : Hid (place (FL L) L.length (l.getD k 0) = some j) := hpj
        have HMJ : Hid (0 ≤ (FL L j).limit → r ≤ sumAll (FL L) L.length j + (FL L j).limit) := HMIN.out _ (HG.out k hlt) j hpj
        have HSTEP : Hid (∀ b' : Bool, (b = true → b' = true) → (0 ≤ (FL L j).limit → r = sumAll (FL L) L.length j + (FL L j).limit → b' = true) → (∃ x, x ∈ l.take (k + 1) ∧ hit (FL L) L.length r x) → b' = true) := fun b' h1 h2 ⟨x, hx, hh⟩ => by
          rcases HTK.out k hlt x hx with e | e
          · exact h1 (hb.out ⟨x, e, hh⟩)
          · obtain ⟨j', e1, e2, e3⟩ := hh
            rw [e, hpj] at e1
            obtain rfl := Option.some.inj e1
            exact h2 e2 e3
        have hgr : g < wr.heap.size := Nat.lt_of_lt_of_le hg hB.out.size
        clear cg0 hpj hid
        generalize l.getD k 0 = x at *
        obtain ⟨lb1, lb2⟩ := (HR.out.2.1 j hj).2.2.1
        obtain ⟨sb1, sb2⟩ := sumAll_bd HR.out j
        go_wp2_with fail
        refine (implFind_yes _ L.length fc (FL L) x j _ FR.out HR.out HPJ.out).mono ?_
        rintro e w5 ⟨rfl, B5⟩
        have XA : Hid (Box (w5.alloc (.cells #[.int .i64 (FL L j).id, .int .i64 (FL L j).up, .int .i64 (FL L j).limit, .int .i64 (FL L j).rate, .int .i64 (FL L j).target, .bool (FL L j).frozen, .int .i64 (FL L j).balance, .int .i64 (FL L j).carry] 41)) w5.heap.size (FL L j)) := Box.new w5 (FL L j) 41
        have F5 : Hid (∀ y, Fo (w5.alloc y) fa L.length (FL L)) := fun y => (FR.out.below B5).alloc y
        have cg5 : w5.cell? ⟨g, k, none⟩ = some (.int .i64 x) := by rw [B5.cell (p := ⟨g, k, none⟩) hgr]; exact cg
        have hg5 : g < w5.heap.size := Nat.lt_of_lt_of_le hgr B5.size
        have B5' : Hid (∀ y, Below w4.heap.size w4 (w5.alloc y)) := fun y => (hB.out.trans (B5.mono hB.out.size)).alloc (Nat.le_trans hB.out.size B5.size) y
        have hz45 : w4.heap.size ≤ w5.heap.size := Nat.le_trans hB.out.size B5.size
        have hne5 : ¬ g = w5.heap.size := by omega
        clear B5 cg
        go_wp2_with fail
        refine (implSumOf_yes _ L.length fc (FL L) x j _ (F5.out _) HR.out HPJ.out).mono ?_
        rintro e w6 ⟨rfl, B6⟩
        have X6 : Hid (Box w6 w5.heap.size (FL L j)) := XA.out.below B6
        have B6' : Hid (Below w4.heap.size w4 w6) := (B5'.out _).trans (B6.mono (by simp; omega))
        clear B6 XA cg5
        obtain ⟨⟨x0, x1, x2, x3, x4, x5, x6, x7⟩, _, _⟩ := X6.out
        simp only [Nat.zero_add] at x2
        clear x0 x1 x3 x4 x5 x6 x7
        by_cases hl0 : (FL L j).limit < 0
        · have NX : Hid ((∃ x, x ∈ l.take (k + 1) ∧ hit (FL L) L.length r x) → b = true) := HSTEP.out b (fun h => h) (fun h => by omega)
          go_wp2
          go_roundw
          case rel => exact ⟨k + 1, b, by omega, by go_num, rfl, NX, B6'⟩
          case measure => simp [intOf]; omega
        · have hge : r ≤ sumAll (FL L) L.length j + (FL L j).limit := HMJ.out (by omega)
          have hl1 : 0 ≤ (FL L j).limit := by omega
          clear hl0
          cases b with
          | true =>
            go_wp2
            go_roundw
            case rel => exact ⟨k + 1, true, by omega, by go_num, rfl, fun _ => rfl, B6'⟩
            case measure => simp [intOf]; omega
          | false =>
            by_cases he : r = sumAll (FL L) L.length j + (FL L j).limit
            · have heb : (r == sumAll (FL L) L.length j + (FL L j).limit) = true := by simp [he]
              clear he
              go_wp2
              go_roundw
              case rel => exact ⟨k + 1, true, by omega, by go_num, rfl, fun _ => rfl, B6'⟩
              case measure => simp [intOf]; omega
            · have NX : Hid ((∃ x, x ∈ l.take (k + 1) ∧ hit (FL L) L.length r x) → false = true) := HSTEP.out false (fun h => h) (fun _ e => absurd e he)
              have heb : (r == sumAll (FL L) L.length j + (FL L j).limit) = false := by simp [he]
              clear he
              go_wp2
              go_roundw
              case rel => exact ⟨k + 1, false, by omega, by go_num, rfl, NX, B6'⟩
              case measure => simp [intOf]; omega
      · have hkn : k = l.length := by omega
        have hbt : b = true := hb.out (by rw [hkn, HTE.out]; exact HEX.out)
        subst hbt
        go_wp2
        go_ret
        exact ⟨rfl, BB4.out.trans (hB.out.mono BB4.out.size)⟩
  · have HR : Hid (¬ (Right (FL L) L.length ∧ ∃ i, place (FL L) L.length id = some i)) := hR
    clear hR
    go_wp2_with fail
    refine (implRoomOf_no fa L.length fc (FL L) id _ F1.out HR.out).mono ?_
    rintro e w2 ⟨rfl, B2⟩
    have F2 : Hid (Fo w2 fa L.length (FL L)) := F1.out.below B2
    have BB2 : Hid (Below _ _ w2) := BB1.out.trans (B2.mono BB1.out.size)
    clear B2 F1 BB1
    go_wp2_with fail
    refine (specRoomOf_no fa L.length fc (FL L) id _ F2.out HR.out).mono ?_
    rintro e w3 ⟨rfl, B3⟩
    have BB3 : Hid (Below _ _ w3) := BB2.out.trans (B3.mono BB2.out.size)
    clear B3 F2 BB2
    go_wp2
    go_ret
    exact ⟨rfl, BB3.out⟩
end Go.Proofs.Ytcmjndcpffodgaa
