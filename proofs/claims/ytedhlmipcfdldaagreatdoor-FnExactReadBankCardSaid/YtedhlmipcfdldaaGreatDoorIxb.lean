/- strings.IndexRune of a rune of 128 or more among a blank and an end of line, and strings.IndexAny of these two in any text. Conditions: texts of at most 1048576 bytes. -/
import Derived.Test.YtedhlmipcfdldaaGreatDoorCut
import Derived.Laws.RangeAny
import Derived.Laws.Cover4
import Derived.WalkMore
import Derived.Laws.RangeString
import Derived.Deep.LoopGhost
import Derived.Shelf.Strings.IndexAnyAll
import Derived.Shelf.Lay
import Derived.Ground.NamesProg
namespace Go.Proofs.YtedhlmipcfdldaaGreatDoor
open Go.RowKit Go.Shelf
set_option maxRecDepth 1000000

theorem conv_rune (r : Int) (W : World) : (Conv.intToString r).run Tryz.prog W = .ok (.string (Utf8.encode r)) W := by
  simp [Conv.intToString]
theorem conv_rune' (r : Int) (W : World) : (convert 21 9 (.int .i32 r)).run Tryz.prog W = .ok (.string (Utf8.encode r)) W := by
  simp [convert, go_sem, Conv.intToString]
theorem encode_two (r : Int) (h : 128 ≤ r) : 2 ≤ (Utf8.encode r).size ∧ ∀ (q : 1 < (Utf8.encode r).size), (Utf8.encode r).size = 2 → 128 ≤ ((Utf8.encode r)[1]'q).toNat := by
  have hc : ∃ c, 128 ≤ c ∧ c = (if Utf8.valid r then r.toNat else Utf8.runeError) := by
    refine ⟨_, ?_, rfl⟩
    split
    · omega
    · decide
  obtain ⟨c, hc1, hc2⟩ := hc
  unfold Utf8.encode
  simp only [← hc2]
  have n1 : ¬ c < 128 := by omega
  simp only [n1, if_false]
  split
  · refine ⟨Nat.le_refl _, fun q _ => ?_⟩
    show 128 ≤ (UInt8.ofNat (128 + c % 64)).toNat
    simp
    omega
  · split
    · exact ⟨by show 2 ≤ 3; decide, fun q e => absurd e (by show ¬ (3 = 2); decide)⟩
    · exact ⟨by show 2 ≤ 4; decide, fun q e => absurd e (by show ¬ (4 = 2); decide)⟩
set_option maxHeartbeats 4000000 in
theorem idxRune_err (w : World) : Calls Tryz.prog 73 #[.string ⟨#[32, 10]⟩, .int .i32 65533] w fun e w' => e = .returned (.int .i64 (-1)) ∧ Below w.heap.size w w' := by
  go_enter Tryz.func73, Tryz.ntmps73
  go_wp2
  go_loopg [5, 6] 2 (fun g _ _ wx => ∃ i : Nat, i + g = 2 ∧ wx = w.iter ⟨#[32, 10]⟩ i)
  case atStart => exact ⟨0, by omega, rfl⟩
  case round =>
    obtain ⟨i, hig, rfl⟩ := hrel
    cases gk with
    | zero =>
      obtain rfl : i = 2 := by omega
      have hnx := fun ty => run_next_end (P := Tryz.prog) w ⟨#[32, 10]⟩ 2 ty (by decide)
      go_wp2
      go_ret
      exact ⟨rfl, (Below.refl _ _).alloc (Nat.le_refl _) _⟩
    | succ g =>
      have hi : i = 0 ∨ i = 1 := by omega
      rcases hi with rfl | rfl
      · have hnx := fun ty => run_next_ascii (P := Tryz.prog) w ⟨#[32, 10]⟩ 0 ty (by decide) (by decide)
        go_wp2
        go_roundg g
        case measure => omega
        case rel => exact ⟨1, by omega, rfl⟩
      · have hnx := fun ty => run_next_ascii (P := Tryz.prog) w ⟨#[32, 10]⟩ 1 ty (by decide) (by decide)
        go_wp2
        go_roundg g
        case measure => omega
        case rel => exact ⟨2, by omega, rfl⟩

shelf_lay Lays.n137 Nm 137 at Tryz as Tryz.lays137
theorem idxByte_nil (t : ByteArray) (ht : t.size = 0) (c : Int) (W : World) : Calls Tryz.prog 86 #[.string t, .int .u8 c] W fun e w' => e = .returned (.int .i64 (-1)) ∧ w' = W := by
  have h := Any.strings_IndexByte Tryz.lays137 t c W
  have e : t.data.toList = [] := by
    have := lenD t
    rw [ht] at this
    exact List.length_eq_zero_iff.1 this
  rw [e] at h
  exact h
def AnyB (w : World) (e : Ending) (w' : World) : Prop := ∃ b : Bool, e = .returned (.bool b) ∧ w' = w
theorem validRune (r : Int) (w : World) : Calls Tryz.prog 87 #[.int .i32 r] w fun e w' => AnyB w e w' := by
  go_enter Tryz.func87, Tryz.ntmps87
  go_wp2
  all_goals go_ret
  all_goals exact ⟨_, rfl, rfl⟩
set_option maxHeartbeats 4000000 in
theorem idxRune_big (r : Int) (h0 : 128 ≤ r) (h1 : r ≤ 1114111) (hr : ¬ r = 65533) (w : World) : Calls Tryz.prog 73 #[.string ⟨#[32, 10]⟩, .int .i32 r] w fun e w' => e = .returned (.int .i64 (-1)) ∧ Below w.heap.size w w' := by
  have hcv := conv_rune' r
  obtain ⟨E, hE⟩ : ∃ E, Utf8.encode r = E := ⟨_, rfl⟩
  have he := encode_two r h0
  have hle := encode_size_le r
  rw [hE] at hcv he hle
  obtain ⟨he2, heb⟩ := he
  have hq : 1 < E.size := by omega
  have HE : Hid (E.size = 2 → 128 ≤ (E[1]'hq).toNat) := heb hq
  clear heb hE
  by_cases hs : E.size = 2
  · have hb := HE.out hs
    have hne : (((⟨#[32, 10]⟩ : ByteArray)[1].toNat : Int) != ((E[1]'hq).toNat : Int)) = true := by show ((10 : Int) != _) = true; simp; omega
    go_enter Tryz.func73, Tryz.ntmps73
    go_wp2_with fail
    refine (validRune r _).mono ?_
    rintro e w1 ⟨b, rfl, rfl⟩
    cases b with
    | false =>
      go_wp2
      go_ret
      exact ⟨rfl, Below.refl _ _⟩
    | true =>
      go_wp2
      go_step3
      go_wp2
      go_loop [9, 10] (fun i f => i = .int .i64 1 ∧ f = .int .i64 0) (fun _ _ => 0)
      case atStart => exact ⟨rfl, rfl⟩
      case round =>
        obtain ⟨rfl, rfl⟩ := hrel
        go_wp2
        go_step3
        go_wp2_with fail
        go_region
        all_goals go_wp2_with fail
        go_region_with (go_at_call 86; refine (idxByte_nil ByteArray.empty rfl _ _).mono ?_; rintro e w2 ⟨rfl, rfl⟩)
        all_goals go_wp2
        all_goals rw [Exit.noGoto_ret]
        all_goals go_wp2
        all_goals rw [Exit.noGoto_ret]
        all_goals go_wp2
        all_goals go_ret
        all_goals exact ⟨rfl, ((Below.refl _ _).drew).drew⟩
  · go_enter Tryz.func73, Tryz.ntmps73
    go_wp2_with fail
    refine (validRune r _).mono ?_
    rintro e w1 ⟨b, rfl, rfl⟩
    cases b with
    | false =>
      go_wp2
      go_ret
      exact ⟨rfl, Below.refl _ _⟩
    | true =>
      go_wp2
      go_step3
      go_wp2
      go_loop [9, 10] (fun i f => ∃ m : Int, 2 ≤ m ∧ i = .int .i64 m) (fun _ _ => 0)
      case atStart => exact ⟨(E.size : Int) - 1, by omega, by go_num⟩
      case round =>
        obtain ⟨m, hm, rfl⟩ := hrel
        go_wp2
        go_ret
        exact ⟨rfl, Below.refl _ _⟩
theorem idxRune_no (r : Int) (h0 : 128 ≤ r) (h1 : r ≤ 1114111) (w : World) : Calls Tryz.prog 73 #[.string ⟨#[32, 10]⟩, .int .i32 r] w fun e w' => e = .returned (.int .i64 (-1)) ∧ Below w.heap.size w w' := by
  by_cases hr : r = 65533
  · subst hr
    exact idxRune_err w
  · exact idxRune_big r h0 h1 hr w
end Go.Proofs.YtedhlmipcfdldaaGreatDoor
