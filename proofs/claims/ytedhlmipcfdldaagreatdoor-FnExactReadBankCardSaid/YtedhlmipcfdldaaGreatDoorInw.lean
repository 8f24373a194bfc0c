/- l1Int of the specification. Conditions: texts of at most 1048576 bytes. -/
import Derived.Test.YtedhlmipcfdldaaGreatDoorInt
namespace Go.Proofs.YtedhlmipcfdldaaGreatDoor
open Go.RowKit

set_option maxHeartbeats 2000000 in
theorem specInt_neg (s : ByteArray) (w : World) (hs : s.size ≤ 1048576) (h1 : 1 < s.size) (h45 : s[0] = 45) : Calls Tryz.prog 20 #[.string s] w fun e w' => IntOut s w e w' := by
  obtain ⟨t, ht⟩ : ∃ t, s.extract 1 s.size = t := ⟨_, rfl⟩
  have nm := neg_mag h1 h45 ht
  have HT : Hid (IntTail true t s w) := intTail nm.1 nm.2
  have b45 := beq_iff_eq.2 (is45.2 h45)
  have hts : t.size ≤ 1048576 := by rw [← ht, ByteArray.size_extract]; omega
  clear nm h45
  go_enter Tryz.func20, Tryz.ntmps20
  by_cases q1 : t.size < 1
  · have FI : Hid (IntOut s w (.returned (.tuple #[.int .i64 0, .bool false])) w) := HT.out.1 w (Below.refl _ _) (Or.inl q1)
    clear HT
    go_wp2
    all_goals refine bodyPost_ret (v := .tuple #[.int .i64 0, .bool false]) (by simp [results, Tryz.results20, go_sem]) rfl ?_
    all_goals exact FI.out
  by_cases q2 : 16 < t.size
  · have FI : Hid (IntOut s w (.returned (.tuple #[.int .i64 0, .bool false])) w) := HT.out.1 w (Below.refl _ _) (Or.inr (Or.inl q2))
    clear HT
    go_wp2
    all_goals refine bodyPost_ret (v := .tuple #[.int .i64 0, .bool false]) (by simp [results, Tryz.results20, go_sem]) rfl ?_
    all_goals exact FI.out
  have h0t : 0 < t.size := by omega
  by_cases q3 : t[0] = 48
  · have FI : Hid (IntOut s w (.returned (.tuple #[.int .i64 0, .bool false])) w) := HT.out.1 w (Below.refl _ _) (Or.inr (Or.inr ⟨⟨h0t, q3⟩, Or.inr rfl⟩))
    have b48 := is48.2 q3
    clear HT q3
    by_cases q4 : 1 < t.size
    · go_wp2
      all_goals refine bodyPost_ret (v := .tuple #[.int .i64 0, .bool false]) (by simp [results, Tryz.results20, go_sem]) rfl ?_
      all_goals exact FI.out
    · go_wp2
      all_goals refine bodyPost_ret (v := .tuple #[.int .i64 0, .bool false]) (by simp [results, Tryz.results20, go_sem]) rfl ?_
      all_goals exact FI.out
  have b48 := mt is48.1 q3
  have HZ : Hid (¬ Z t) := fun e => q3 e.2
  clear q3
  have FN : Hid (∀ W, Below w.heap.size w W → (¬ ∀ b ∈ t.data.toList, Dig b) → IntOut s w (.returned (.tuple #[.int .i64 0, .bool false])) W) := HT.out.2.1
  have FY : Hid (∀ W k n, Below w.heap.size w W → DigsTo t k n → t.size ≤ k → IntOut s w (.returned (.tuple #[.int .i64 (-n), .bool true])) W) := fun W k n hb hd hk => HT.out.2.2 W k n hb (fun e => by rcases e with e | e | ⟨e, _⟩ <;> first | omega | exact HZ.out e) hd hk
  clear HT
  go_wp2
  go_loop [5, 6] (fun n i => ∃ (k : Nat) (x : Int), k ≤ t.size ∧ i = .int .i64 k ∧ n = .int .i64 x ∧ 0 ≤ x ∧ x < 10000000000000000 ∧ Hid (DigsTo t k x)) (fun _ i => t.size - (intOf i).toNat)
  case atStart => exact ⟨0, 0, Nat.zero_le _, rfl, rfl, by omega, by omega, (⟨fun b hb => by simp at hb, rfl⟩ : DigsTo t 0 0)⟩
  case round =>
    obtain ⟨k, x, hk, rfl, rfl, hx0, hx1, hD⟩ := hrel
    by_cases hlt : k < t.size
    · by_cases c1 : (t[k].toNat : Int) < 48
      · have F : Hid (IntOut s w (.returned (.tuple #[.int .i64 0, .bool false])) w) := FN.out w (Below.refl _ _) (not_digs hlt (Or.inl c1))
        clear FN FY hD
        go_wp2
        all_goals refine bodyPost_ret (v := .tuple #[.int .i64 0, .bool false]) (by simp [results, Tryz.results20, go_sem]) rfl ?_
        all_goals exact F.out
      by_cases c2 : 57 < (t[k].toNat : Int)
      · have F : Hid (IntOut s w (.returned (.tuple #[.int .i64 0, .bool false])) w) := FN.out w (Below.refl _ _) (not_digs hlt (Or.inr c2))
        clear FN FY hD
        go_wp2
        all_goals refine bodyPost_ret (v := .tuple #[.int .i64 0, .bool false]) (by simp [results, Tryz.results20, go_sem]) rfl ?_
        all_goals exact F.out
      have HD : Hid (DigsTo t (k + 1) (x * 10 + ((t[k].toNat : Int) - 48))) := hD.out.step hlt (by omega) (by omega)
      have hbd := HD.out.bd (by omega)
      clear hD
      go_wp2
      go_round
      case rel => exact ⟨k + 1, _, by omega, by go_num, rfl, hbd.1, hbd.2, HD⟩
      case measure => simp [intOf]; omega
    · have F : Hid (IntOut s w (.returned (.tuple #[.int .i64 (-x), .bool true])) w) := FY.out w k x (Below.refl _ _) hD.out (by omega)
      clear FN FY hD
      go_wp2
      refine bodyPost_ret (v := .tuple #[.int .i64 (-x), .bool true]) (by simp [results, Tryz.results20, go_sem]) rfl ?_
      exact F.out

set_option maxHeartbeats 2000000 in
theorem specInt_pos (s : ByteArray) (w : World) (hs : s.size ≤ 1048576) (h1 : 1 < s.size) (h45 : s[0] ≠ 45) : Calls Tryz.prog 20 #[.string s] w fun e w' => IntOut s w e w' := by
  have nm := pos_mag (s := s) (Or.inr ⟨by omega, h45⟩)
  have HT : Hid (IntTail false s s w) := intTail nm.1 nm.2
  have b45 := beq_eq_false_iff_ne.2 (mt is45.1 h45)
  clear nm h45
  go_enter Tryz.func20, Tryz.ntmps20
  by_cases q1 : s.size < 1
  · have FI : Hid (IntOut s w (.returned (.tuple #[.int .i64 0, .bool false])) w) := HT.out.1 w (Below.refl _ _) (Or.inl q1)
    clear HT
    go_wp2
    all_goals refine bodyPost_ret (v := .tuple #[.int .i64 0, .bool false]) (by simp [results, Tryz.results20, go_sem]) rfl ?_
    all_goals exact FI.out
  by_cases q2 : 16 < s.size
  · have FI : Hid (IntOut s w (.returned (.tuple #[.int .i64 0, .bool false])) w) := HT.out.1 w (Below.refl _ _) (Or.inr (Or.inl q2))
    clear HT
    go_wp2
    all_goals refine bodyPost_ret (v := .tuple #[.int .i64 0, .bool false]) (by simp [results, Tryz.results20, go_sem]) rfl ?_
    all_goals exact FI.out
  have h0t : 0 < s.size := by omega
  by_cases q3 : s[0] = 48
  · have b48 := is48.2 q3
    by_cases q4 : 1 < s.size
    · have FI : Hid (IntOut s w (.returned (.tuple #[.int .i64 0, .bool false])) w) := HT.out.1 w (Below.refl _ _) (Or.inr (Or.inr ⟨⟨h0t, q3⟩, Or.inl q4⟩))
      clear HT q3
      go_wp2
      all_goals refine bodyPost_ret (v := .tuple #[.int .i64 0, .bool false]) (by simp [results, Tryz.results20, go_sem]) rfl ?_
      all_goals exact FI.out
    exact absurd h1 q4
  have b48 := mt is48.1 q3
  have HZ : Hid (¬ Z s) := fun e => q3 e.2
  clear q3
  have FN : Hid (∀ W, Below w.heap.size w W → (¬ ∀ b ∈ s.data.toList, Dig b) → IntOut s w (.returned (.tuple #[.int .i64 0, .bool false])) W) := HT.out.2.1
  have FY : Hid (∀ W k n, Below w.heap.size w W → DigsTo s k n → s.size ≤ k → IntOut s w (.returned (.tuple #[.int .i64 (n), .bool true])) W) := fun W k n hb hd hk => HT.out.2.2 W k n hb (fun e => by rcases e with e | e | ⟨e, _⟩ <;> first | omega | exact HZ.out e) hd hk
  clear HT
  go_wp2
  go_loop [5, 6] (fun n i => ∃ (k : Nat) (x : Int), k ≤ s.size ∧ i = .int .i64 k ∧ n = .int .i64 x ∧ 0 ≤ x ∧ x < 10000000000000000 ∧ Hid (DigsTo s k x)) (fun _ i => s.size - (intOf i).toNat)
  case atStart => exact ⟨0, 0, Nat.zero_le _, rfl, rfl, by omega, by omega, (⟨fun b hb => by simp at hb, rfl⟩ : DigsTo s 0 0)⟩
  case round =>
    obtain ⟨k, x, hk, rfl, rfl, hx0, hx1, hD⟩ := hrel
    by_cases hlt : k < s.size
    · by_cases c1 : (s[k].toNat : Int) < 48
      · have F : Hid (IntOut s w (.returned (.tuple #[.int .i64 0, .bool false])) w) := FN.out w (Below.refl _ _) (not_digs hlt (Or.inl c1))
        clear FN FY hD
        go_wp2
        all_goals refine bodyPost_ret (v := .tuple #[.int .i64 0, .bool false]) (by simp [results, Tryz.results20, go_sem]) rfl ?_
        all_goals exact F.out
      by_cases c2 : 57 < (s[k].toNat : Int)
      · have F : Hid (IntOut s w (.returned (.tuple #[.int .i64 0, .bool false])) w) := FN.out w (Below.refl _ _) (not_digs hlt (Or.inr c2))
        clear FN FY hD
        go_wp2
        all_goals refine bodyPost_ret (v := .tuple #[.int .i64 0, .bool false]) (by simp [results, Tryz.results20, go_sem]) rfl ?_
        all_goals exact F.out
      have HD : Hid (DigsTo s (k + 1) (x * 10 + ((s[k].toNat : Int) - 48))) := hD.out.step hlt (by omega) (by omega)
      have hbd := HD.out.bd (by omega)
      clear hD
      go_wp2
      go_round
      case rel => exact ⟨k + 1, _, by omega, by go_num, rfl, hbd.1, hbd.2, HD⟩
      case measure => simp [intOf]; omega
    · have F : Hid (IntOut s w (.returned (.tuple #[.int .i64 (x), .bool true])) w) := FY.out w k x (Below.refl _ _) hD.out (by omega)
      clear FN FY hD
      go_wp2
      refine bodyPost_ret (v := .tuple #[.int .i64 (x), .bool true]) (by simp [results, Tryz.results20, go_sem]) rfl ?_
      exact F.out

set_option maxHeartbeats 2000000 in
theorem specInt_one (s : ByteArray) (w : World) (h1 : ¬ 1 < s.size) : Calls Tryz.prog 20 #[.string s] w fun e w' => IntOut s w e w' := by
  have nm := pos_mag (s := s) (Or.inl (by omega))
  have HT : Hid (IntTail false s s w) := intTail nm.1 nm.2
  clear nm
  go_enter Tryz.func20, Tryz.ntmps20
  by_cases q1 : s.size < 1
  · have FI : Hid (IntOut s w (.returned (.tuple #[.int .i64 0, .bool false])) w) := HT.out.1 w (Below.refl _ _) (Or.inl q1)
    clear HT
    go_wp2
    all_goals refine bodyPost_ret (v := .tuple #[.int .i64 0, .bool false]) (by simp [results, Tryz.results20, go_sem]) rfl ?_
    all_goals exact FI.out
  by_cases q2 : 16 < s.size
  · have FI : Hid (IntOut s w (.returned (.tuple #[.int .i64 0, .bool false])) w) := HT.out.1 w (Below.refl _ _) (Or.inr (Or.inl q2))
    clear HT
    go_wp2
    all_goals refine bodyPost_ret (v := .tuple #[.int .i64 0, .bool false]) (by simp [results, Tryz.results20, go_sem]) rfl ?_
    all_goals exact FI.out
  have h0t : 0 < s.size := by omega
  by_cases q3 : s[0] = 48
  · have b48 := is48.2 q3
    by_cases q4 : 1 < s.size
    · have FI : Hid (IntOut s w (.returned (.tuple #[.int .i64 0, .bool false])) w) := HT.out.1 w (Below.refl _ _) (Or.inr (Or.inr ⟨⟨h0t, q3⟩, Or.inl q4⟩))
      clear HT q3
      go_wp2
      all_goals refine bodyPost_ret (v := .tuple #[.int .i64 0, .bool false]) (by simp [results, Tryz.results20, go_sem]) rfl ?_
      all_goals exact FI.out
    clear q3
    have FN : Hid (∀ W, Below w.heap.size w W → (¬ ∀ b ∈ s.data.toList, Dig b) → IntOut s w (.returned (.tuple #[.int .i64 0, .bool false])) W) := HT.out.2.1
    have FY : Hid (∀ W k n, Below w.heap.size w W → DigsTo s k n → s.size ≤ k → IntOut s w (.returned (.tuple #[.int .i64 (n), .bool true])) W) := fun W k n hb hd hk => HT.out.2.2 W k n hb (fun e => by rcases e with e | e | ⟨_, e | e⟩ <;> first | omega | exact absurd e (by simp)) hd hk
    clear HT
    go_wp2
    go_loop [5, 6] (fun n i => ∃ (k : Nat) (x : Int), k ≤ s.size ∧ i = .int .i64 k ∧ n = .int .i64 x ∧ 0 ≤ x ∧ x < 10000000000000000 ∧ Hid (DigsTo s k x)) (fun _ i => s.size - (intOf i).toNat)
    case atStart => exact ⟨0, 0, Nat.zero_le _, rfl, rfl, by omega, by omega, (⟨fun b hb => by simp at hb, rfl⟩ : DigsTo s 0 0)⟩
    case round =>
      obtain ⟨k, x, hk, rfl, rfl, hx0, hx1, hD⟩ := hrel
      by_cases hlt : k < s.size
      · by_cases c1 : (s[k].toNat : Int) < 48
        · have F : Hid (IntOut s w (.returned (.tuple #[.int .i64 0, .bool false])) w) := FN.out w (Below.refl _ _) (not_digs hlt (Or.inl c1))
          clear FN FY hD
          go_wp2
          all_goals refine bodyPost_ret (v := .tuple #[.int .i64 0, .bool false]) (by simp [results, Tryz.results20, go_sem]) rfl ?_
          all_goals exact F.out
        by_cases c2 : 57 < (s[k].toNat : Int)
        · have F : Hid (IntOut s w (.returned (.tuple #[.int .i64 0, .bool false])) w) := FN.out w (Below.refl _ _) (not_digs hlt (Or.inr c2))
          clear FN FY hD
          go_wp2
          all_goals refine bodyPost_ret (v := .tuple #[.int .i64 0, .bool false]) (by simp [results, Tryz.results20, go_sem]) rfl ?_
          all_goals exact F.out
        have HD : Hid (DigsTo s (k + 1) (x * 10 + ((s[k].toNat : Int) - 48))) := hD.out.step hlt (by omega) (by omega)
        have hbd := HD.out.bd (by omega)
        clear hD
        go_wp2
        go_round
        case rel => exact ⟨k + 1, _, by omega, by go_num, rfl, hbd.1, hbd.2, HD⟩
        case measure => simp [intOf]; omega
      · have F : Hid (IntOut s w (.returned (.tuple #[.int .i64 (x), .bool true])) w) := FY.out w k x (Below.refl _ _) hD.out (by omega)
        clear FN FY hD
        go_wp2
        refine bodyPost_ret (v := .tuple #[.int .i64 (x), .bool true]) (by simp [results, Tryz.results20, go_sem]) rfl ?_
        exact F.out
  have b48 := mt is48.1 q3
  have HZ : Hid (¬ Z s) := fun e => q3 e.2
  clear q3
  have FN : Hid (∀ W, Below w.heap.size w W → (¬ ∀ b ∈ s.data.toList, Dig b) → IntOut s w (.returned (.tuple #[.int .i64 0, .bool false])) W) := HT.out.2.1
  have FY : Hid (∀ W k n, Below w.heap.size w W → DigsTo s k n → s.size ≤ k → IntOut s w (.returned (.tuple #[.int .i64 (n), .bool true])) W) := fun W k n hb hd hk => HT.out.2.2 W k n hb (fun e => by rcases e with e | e | ⟨e, _⟩ <;> first | omega | exact HZ.out e) hd hk
  clear HT
  go_wp2
  go_loop [5, 6] (fun n i => ∃ (k : Nat) (x : Int), k ≤ s.size ∧ i = .int .i64 k ∧ n = .int .i64 x ∧ 0 ≤ x ∧ x < 10000000000000000 ∧ Hid (DigsTo s k x)) (fun _ i => s.size - (intOf i).toNat)
  case atStart => exact ⟨0, 0, Nat.zero_le _, rfl, rfl, by omega, by omega, (⟨fun b hb => by simp at hb, rfl⟩ : DigsTo s 0 0)⟩
  case round =>
    obtain ⟨k, x, hk, rfl, rfl, hx0, hx1, hD⟩ := hrel
    by_cases hlt : k < s.size
    · by_cases c1 : (s[k].toNat : Int) < 48
      · have F : Hid (IntOut s w (.returned (.tuple #[.int .i64 0, .bool false])) w) := FN.out w (Below.refl _ _) (not_digs hlt (Or.inl c1))
        clear FN FY hD
        go_wp2
        all_goals refine bodyPost_ret (v := .tuple #[.int .i64 0, .bool false]) (by simp [results, Tryz.results20, go_sem]) rfl ?_
        all_goals exact F.out
      by_cases c2 : 57 < (s[k].toNat : Int)
      · have F : Hid (IntOut s w (.returned (.tuple #[.int .i64 0, .bool false])) w) := FN.out w (Below.refl _ _) (not_digs hlt (Or.inr c2))
        clear FN FY hD
        go_wp2
        all_goals refine bodyPost_ret (v := .tuple #[.int .i64 0, .bool false]) (by simp [results, Tryz.results20, go_sem]) rfl ?_
        all_goals exact F.out
      have HD : Hid (DigsTo s (k + 1) (x * 10 + ((s[k].toNat : Int) - 48))) := hD.out.step hlt (by omega) (by omega)
      have hbd := HD.out.bd (by omega)
      clear hD
      go_wp2
      go_round
      case rel => exact ⟨k + 1, _, by omega, by go_num, rfl, hbd.1, hbd.2, HD⟩
      case measure => simp [intOf]; omega
    · have F : Hid (IntOut s w (.returned (.tuple #[.int .i64 (x), .bool true])) w) := FY.out w k x (Below.refl _ _) hD.out (by omega)
      clear FN FY hD
      go_wp2
      refine bodyPost_ret (v := .tuple #[.int .i64 (x), .bool true]) (by simp [results, Tryz.results20, go_sem]) rfl ?_
      exact F.out

theorem specInt (s : ByteArray) (w : World) (hs : s.size ≤ 1048576) : Calls Tryz.prog 20 #[.string s] w fun e w' => IntOut s w e w' := by
  by_cases h1 : 1 < s.size
  · by_cases h45 : s[0] = 45
    · exact specInt_neg s w hs h1 h45
    · exact specInt_pos s w hs h1 h45
  · exact specInt_one s w h1
end Go.Proofs.YtedhlmipcfdldaaGreatDoor
