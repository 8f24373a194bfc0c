/- Texts of ops of a bank, of the specification, at any op; a right op's text and what is read of it. -/
import Derived.Test.YtedhlmipcfdldaaDoorSro
namespace Go.Proofs.YtedhlmipcfdldaaDoor
open Go.RowKit
set_option maxRecDepth 8000

theorem bop_sml {K n : Int} {x : OpF} {o : Ord} (h : bopOk K x o n) : ∀ z ∈ (bopW K x o n).2, -1000000000000 ≤ z ∧ z ≤ 1000000000000 := by
  rcases h with ⟨rfl, h1, h2, h3⟩ | ⟨rfl, h1, h2, h3⟩ | ⟨rfl, h1, h2, h3⟩ | ⟨rfl, h1, h2, h3⟩
  · obtain ⟨k, i, t, m, r⟩ := x
    have a1 := h1.1
    have a2 := h1.2
    simp only at a1 a2
    have h4 : k = 1 ∨ k = 2 ∨ k = 3 ∨ k = 4 ∨ k = 5 ∨ k = 6 ∨ k = 7 ∨ k = 8 ∨ k = 9 ∨ k = 10 := by omega
    rcases h4 with rfl | rfl | rfl | rfl | rfl | rfl | rfl | rfl | rfl | rfl <;> (intro z hz; simp [bopW] at hz; omega)
  · unfold ordOk at h2
    intro z hz
    simp [bopW] at hz
    omega
  · intro z hz
    simp [bopW] at hz
    omega
  · intro z hz
    simp [bopW] at hz
open Classical in
noncomputable def bopT (K : Int) (x : OpF) (o : Ord) (n : Int) : ByteArray := if bopOk K x o n then rowB (bopW K x o n).1 (bopW K x o n).2 else ⟨#[]⟩
theorem specBT (K n : Int) (x : OpF) (o : Ord) (w : World) : Calls Tryd.prog 10 #[.agg (bl K x o n).toArray] w fun e w' => RowOut w (bopT K x o n) e w' := by
  by_cases h : bopOk K x o n
  rotate_left
  · unfold bopT
    rw [if_neg h]
    exact specT_no K n x o w h
  have hs : ∀ z ∈ (bopW K x o n).2, Sml z := fun z hz => ⟨by have := bop_sml h z hz; omega, by have := bop_sml h z hz; omega⟩
  unfold bopT
  rw [if_pos h]
  have h' := h
  rcases h with ⟨rfl, h1, h2, h3⟩ | ⟨rfl, h1, h2, h3⟩ | ⟨rfl, h1, h2, h3⟩ | ⟨rfl, h1, h2, h3⟩
  · obtain ⟨k, i, t, m, r⟩ := x
    have h5 := h1.2
    simp only at h5
    have h4 : k = 1 ∨ k = 2 ∨ k = 3 ∨ k = 4 ∨ k = 5 ∨ k = 6 ∨ k = 7 ∨ k = 8 ∨ k = 9 ∨ k = 10 := by omega
    rcases h4 with rfl | rfl | rfl | rfl | rfl | rfl | rfl | rfl | rfl | rfl
    · exact specT_1 i t m r n o w h' hs
    · exact specT_2 i t m r n o w h' hs
    · exact specT_3 i t m r n o w h' hs
    · exact specT_4 i t m r n o w h' hs
    · exact specT_5 i t m r n o w h' hs
    · exact specT_6 i t m r n o w h' hs
    · exact specT_7 i t m r n o w h' hs
    · exact specT_8 i t m r n o w h' hs
    · exact specT_9 i t m r n o w h' hs
    · exact specT_10 i t m r n o w h' hs
  · exact specT_20 x n o w h' hs
  · exact specT_21 x n o w h' hs
  · exact specT_22 x n o w h' hs
theorem rowB_list : ∀ (ns : List Int) (S : ByteArray), (rowB S ns).data.toList = rowL S.data.toList ns
  | [], S => rfl
  | n :: r, S => by
    show (rowB (S ++ ⟨#[32]⟩ ++ dcB n) r).data.toList = rowL (S.data.toList ++ 32 :: Lib.itoa n) r
    rw [rowB_list r]
    congr 1
    simp [ByteArray.data_append, dcB]
theorem name_clean : ∀ i, i < 13 → ∀ b ∈ (nameK i).data.toList, b ≠ 32 ∧ b ≠ 10 := by decide
theorem name_ne : ∀ i, i < 13 → (nameK i).data.toList ≠ [] := by decide
theorem right_nums {K n : Int} {x : OpF} {o : Ord} (h : bopOk K x o n) : ∀ z ∈ (bopW K x o n).2, IsNum (Lib.itoa z) z := fun z hz => ⟨rfl, by have := bop_sml h z hz; omega, by have := bop_sml h z hz; omega⟩
theorem right_clean {K n : Int} {x : OpF} {o : Ord} (h : bopOk K x o n) : (∀ b ∈ (bopW K x o n).1.data.toList, b ≠ 32 ∧ b ≠ 10) ∧ (bopW K x o n).1.data.toList ≠ [] := by
  obtain ⟨i, hi, e, _⟩ := right_fill h
  rw [e]
  exact ⟨name_clean i hi, name_ne i hi⟩
/-- A right op stands there alone just where the text is its own. -/
theorem right_text {s : ByteArray} {K n : Int} {x : OpF} {o : Ord} : RightAt s.data.toList K x o n [] ↔ (bopOk K x o n ∧ bopT K x o n = s) := by
  constructor
  · rintro ⟨h1, h2, h3⟩
    refine ⟨h1, ext_ofD ?_⟩
    unfold bopT
    rw [if_pos h1, rowB_list, rowL_flat]
    have hr := readNums_is _ _ _ _ h3
    have := word_rest s.data.toList
    rw [h2, hr.1, List.append_nil] at this
    exact this
  · rintro ⟨h1, h2⟩
    have e : s.data.toList = (bopW K x o n).1.data.toList ++ flatL (bopW K x o n).2 := by
      rw [← h2]
      unfold bopT
      rw [if_pos h1, rowB_list, rowL_flat]
    have hw := word_app (bopW K x o n).1.data.toList (flatL (bopW K x o n).2) (right_clean h1).1 (by have := flat_ends (bopW K x o n).2 (t := []) trivial; simpa using this)
    rw [← e] at hw
    refine ⟨h1, hw.1, ?_⟩
    rw [hw.2]
    have := readNums_of (bopW K x o n).2 [] (right_nums h1) trivial
    simpa using this
theorem itoa_ne (n : Int) : Lib.itoa n ≠ [] := by
  by_cases hp : 0 ≤ n
  · obtain ⟨m, rfl⟩ := Int.eq_ofNat_of_zero_le hp
    rw [itoa_nat]
    exact dec_ne m
  · obtain ⟨m, hm⟩ := Int.eq_ofNat_of_zero_le (show 0 ≤ -n by omega)
    obtain rfl : n = -(m : Int) := by omega
    rw [itoa_neg m (by omega)]
    simp
theorem join_ne : ∀ {ns : List Int}, ns ≠ [] → joinL ns ≠ []
  | [], h => absurd rfl h
  | [n], _ => itoa_ne n
  | n :: m :: r, _ => by simp [joinL]
theorem join_len : ∀ (ns : List Int), ns.length ≤ (joinL ns).length + 1
  | [] => by simp
  | [n] => by simp
  | n :: m :: r => by
    have := join_len (m :: r)
    simp only [joinL, List.length_append, List.length_cons] at this ⊢
    omega
/-- What the specification makes of the text of a right op. -/
theorem right_cut {K n : Int} {x : OpF} {o : Ord} (h : bopOk K x o n) : ∃ y b, cutL 32 (bopT K x o n).data.toList = ((bopW K x o n).1.data.toList, y, b) ∧ numsOf y = some (bopW K x o n).2 := by
  unfold bopT
  rw [if_pos h, rowB_list]
  have hc := (right_clean h).1
  by_cases h0 : (bopW K x o n).2 = []
  · rw [h0]
    exact ⟨[], false, row_cut_nil (fun b hb => (hc b hb).1), by simp [numsOf]⟩
  · refine ⟨_, true, row_cut (fun b hb => (hc b hb).1) h0, ?_⟩
    have hj := join_ne h0
    unfold numsOf
    rw [if_neg hj]
    refine numsF_join _ _ h0 (right_nums h) ?_
    exact join_len _
theorem kind_is (k : Nat) (h : k < wordsL.length) (h1 : 1 ≤ k) : KindIs wordsL[k] k := Or.inl ⟨h, h1, rfl⟩
theorem lit_list (l : List UInt8) : (⟨l.toArray⟩ : ByteArray).toList = l := by rw [Lib.toList_data]
theorem opIs_right {K n K' n' : Int} {x x' : OpF} {o o' : Ord} {wd : ByteArray} (h : bopOk K x o n) (hw : wd = (bopW K x o n).1) (hi : OpIs wd (bopW K x o n).2 K' x' o' n') : K' = K ∧ x' = x ∧ o' = o ∧ n' = n := by
  rcases h with ⟨rfl, h1, h2, h3⟩ | ⟨rfl, h1, h2, h3⟩ | ⟨rfl, h1, h2, h3⟩ | ⟨rfl, h1, h2, h3⟩
  · obtain ⟨k, i, t, m, r⟩ := x
    obtain ⟨a1, a2, a3, a4, a5, a6, a7⟩ := o
    unfold zeroO at h2
    simp only at h2
    obtain ⟨rfl, rfl, rfl, rfl, rfl, rfl, rfl⟩ := h2
    subst h3
    have h5 := h1.2
    simp only at h5
    have h4 : k = 1 ∨ k = 2 ∨ k = 3 ∨ k = 4 ∨ k = 5 ∨ k = 6 ∨ k = 7 ∨ k = 8 ∨ k = 9 ∨ k = 10 := by omega
    rcases h4 with rfl | rfl | rfl | rfl | rfl | rfl | rfl | rfl | rfl | rfl
    · have hl : wd.toList = [111, 112, 101, 110] := by rw [hw]; exact lit_list [111, 112, 101, 110]
      have hk : KindIs wd 1 := by rw [hw]; exact kind_is 1 (by decide) (by decide)
      rcases hi with ⟨e, _⟩ | ⟨e, _⟩ | ⟨e, _⟩ | ⟨_, _, _, q, hq, rfl, rfl, rfl, rfl⟩
      · rw [hl] at e; exact absurd e (by decide)
      · rw [hl] at e; exact absurd e (by decide)
      · rw [hl] at e; exact absurd e (by decide)
      · obtain rfl := kind_uniq hq hk
        exact ⟨rfl, rfl, rfl, rfl⟩
    · obtain ⟨rfl, rfl, rfl⟩ : t = 0 ∧ m = 0 ∧ r = 0 := by omega
      have hl : wd.toList = [102, 114, 101, 101, 122, 101] := by rw [hw]; exact lit_list [102, 114, 101, 101, 122, 101]
      have hk : KindIs wd 2 := by rw [hw]; exact kind_is 2 (by decide) (by decide)
      rcases hi with ⟨e, _⟩ | ⟨e, _⟩ | ⟨e, _⟩ | ⟨_, _, _, q, hq, rfl, rfl, rfl, rfl⟩
      · rw [hl] at e; exact absurd e (by decide)
      · rw [hl] at e; exact absurd e (by decide)
      · rw [hl] at e; exact absurd e (by decide)
      · obtain rfl := kind_uniq hq hk
        exact ⟨rfl, rfl, rfl, rfl⟩
    · obtain ⟨rfl, rfl, rfl⟩ : t = 0 ∧ m = 0 ∧ r = 0 := by omega
      have hl : wd.toList = [116, 104, 97, 119] := by rw [hw]; exact lit_list [116, 104, 97, 119]
      have hk : KindIs wd 3 := by rw [hw]; exact kind_is 3 (by decide) (by decide)
      rcases hi with ⟨e, _⟩ | ⟨e, _⟩ | ⟨e, _⟩ | ⟨_, _, _, q, hq, rfl, rfl, rfl, rfl⟩
      · rw [hl] at e; exact absurd e (by decide)
      · rw [hl] at e; exact absurd e (by decide)
      · rw [hl] at e; exact absurd e (by decide)
      · obtain rfl := kind_uniq hq hk
        exact ⟨rfl, rfl, rfl, rfl⟩
    · obtain ⟨rfl, rfl, rfl⟩ : t = 0 ∧ m = 0 ∧ r = 0 := by omega
      have hl : wd.toList = [99, 108, 111, 115, 101] := by rw [hw]; exact lit_list [99, 108, 111, 115, 101]
      have hk : KindIs wd 4 := by rw [hw]; exact kind_is 4 (by decide) (by decide)
      rcases hi with ⟨e, _⟩ | ⟨e, _⟩ | ⟨e, _⟩ | ⟨_, _, _, q, hq, rfl, rfl, rfl, rfl⟩
      · rw [hl] at e; exact absurd e (by decide)
      · rw [hl] at e; exact absurd e (by decide)
      · rw [hl] at e; exact absurd e (by decide)
      · obtain rfl := kind_uniq hq hk
        exact ⟨rfl, rfl, rfl, rfl⟩
    · obtain ⟨rfl, rfl⟩ : t = 0 ∧ r = 0 := by omega
      have hl : wd.toList = [112, 117, 116] := by rw [hw]; exact lit_list [112, 117, 116]
      have hk : KindIs wd 5 := by rw [hw]; exact kind_is 5 (by decide) (by decide)
      rcases hi with ⟨e, _⟩ | ⟨e, _⟩ | ⟨e, _⟩ | ⟨_, _, _, q, hq, rfl, rfl, rfl, rfl⟩
      · rw [hl] at e; exact absurd e (by decide)
      · rw [hl] at e; exact absurd e (by decide)
      · rw [hl] at e; exact absurd e (by decide)
      · obtain rfl := kind_uniq hq hk
        exact ⟨rfl, rfl, rfl, rfl⟩
    · obtain ⟨rfl, rfl⟩ : t = 0 ∧ r = 0 := by omega
      have hl : wd.toList = [116, 97, 107, 101] := by rw [hw]; exact lit_list [116, 97, 107, 101]
      have hk : KindIs wd 6 := by rw [hw]; exact kind_is 6 (by decide) (by decide)
      rcases hi with ⟨e, _⟩ | ⟨e, _⟩ | ⟨e, _⟩ | ⟨_, _, _, q, hq, rfl, rfl, rfl, rfl⟩
      · rw [hl] at e; exact absurd e (by decide)
      · rw [hl] at e; exact absurd e (by decide)
      · rw [hl] at e; exact absurd e (by decide)
      · obtain rfl := kind_uniq hq hk
        exact ⟨rfl, rfl, rfl, rfl⟩
    · obtain rfl : r = 0 := by omega
      have hl : wd.toList = [112, 97, 121] := by rw [hw]; exact lit_list [112, 97, 121]
      have hk : KindIs wd 7 := by rw [hw]; exact kind_is 7 (by decide) (by decide)
      rcases hi with ⟨e, _⟩ | ⟨e, _⟩ | ⟨e, _⟩ | ⟨_, _, _, q, hq, rfl, rfl, rfl, rfl⟩
      · rw [hl] at e; exact absurd e (by decide)
      · rw [hl] at e; exact absurd e (by decide)
      · rw [hl] at e; exact absurd e (by decide)
      · obtain rfl := kind_uniq hq hk
        exact ⟨rfl, rfl, rfl, rfl⟩
    · obtain ⟨rfl, rfl⟩ : t = 0 ∧ r = 0 := by omega
      have hl : wd.toList = [108, 105, 109, 105, 116] := by rw [hw]; exact lit_list [108, 105, 109, 105, 116]
      have hk : KindIs wd 8 := by rw [hw]; exact kind_is 8 (by decide) (by decide)
      rcases hi with ⟨e, _⟩ | ⟨e, _⟩ | ⟨e, _⟩ | ⟨_, _, _, q, hq, rfl, rfl, rfl, rfl⟩
      · rw [hl] at e; exact absurd e (by decide)
      · rw [hl] at e; exact absurd e (by decide)
      · rw [hl] at e; exact absurd e (by decide)
      · obtain rfl := kind_uniq hq hk
        exact ⟨rfl, rfl, rfl, rfl⟩
    · obtain ⟨rfl, rfl⟩ : m = 0 ∧ r = 0 := by omega
      have hl : wd.toList = [104, 97, 110, 103] := by rw [hw]; exact lit_list [104, 97, 110, 103]
      have hk : KindIs wd 9 := by rw [hw]; exact kind_is 9 (by decide) (by decide)
      rcases hi with ⟨e, _⟩ | ⟨e, _⟩ | ⟨e, _⟩ | ⟨_, _, _, q, hq, rfl, rfl, rfl, rfl⟩
      · rw [hl] at e; exact absurd e (by decide)
      · rw [hl] at e; exact absurd e (by decide)
      · rw [hl] at e; exact absurd e (by decide)
      · obtain rfl := kind_uniq hq hk
        exact ⟨rfl, rfl, rfl, rfl⟩
    · obtain ⟨rfl, rfl⟩ : t = 0 ∧ r = 0 := by omega
      have hl : wd.toList = [116, 97, 114, 103, 101, 116] := by rw [hw]; exact lit_list [116, 97, 114, 103, 101, 116]
      have hk : KindIs wd 10 := by rw [hw]; exact kind_is 10 (by decide) (by decide)
      rcases hi with ⟨e, _⟩ | ⟨e, _⟩ | ⟨e, _⟩ | ⟨_, _, _, q, hq, rfl, rfl, rfl, rfl⟩
      · rw [hl] at e; exact absurd e (by decide)
      · rw [hl] at e; exact absurd e (by decide)
      · rw [hl] at e; exact absurd e (by decide)
      · obtain rfl := kind_uniq hq hk
        exact ⟨rfl, rfl, rfl, rfl⟩
  · obtain ⟨k, i, t, m, r⟩ := x
    unfold zeroX at h1
    simp only at h1
    obtain ⟨rfl, rfl, rfl, rfl, rfl⟩ := h1
    subst h3
    have hl : wd.toList = [111, 114, 100, 101, 114] := by rw [hw]; exact lit_list [111, 114, 100, 101, 114]
    rcases hi with ⟨e, _⟩ | ⟨e, _⟩ | ⟨_, e, rfl, rfl, rfl⟩ | ⟨_, _, e, _⟩
    · rw [hl] at e; exact absurd e (by decide)
    · rw [hl] at e; exact absurd e (by decide)
    · obtain ⟨b1, b2, b3, b4, b5, b6, b7⟩ := o'
      obtain ⟨a1, a2, a3, a4, a5, a6, a7⟩ := o
      simp [bopW] at e
      simp [e]
    · exact absurd ⟨hl, rfl⟩ e
  · obtain ⟨k, i, t, m, r⟩ := x
    obtain ⟨a1, a2, a3, a4, a5, a6, a7⟩ := o
    unfold zeroX at h1
    unfold zeroO at h2
    simp only at h1 h2
    obtain ⟨rfl, rfl, rfl, rfl, rfl⟩ := h1
    obtain ⟨rfl, rfl, rfl, rfl, rfl, rfl, rfl⟩ := h2
    have hl : wd.toList = [99, 97, 110, 99, 101, 108] := by rw [hw]; exact lit_list [99, 97, 110, 99, 101, 108]
    rcases hi with ⟨e, _⟩ | ⟨_, e, rfl, rfl, rfl⟩ | ⟨e, _⟩ | ⟨_, e, _, _⟩
    · rw [hl] at e; exact absurd e (by decide)
    · simp [bopW] at e
      simp [e]
    · rw [hl] at e; exact absurd e (by decide)
    · exact absurd ⟨hl, rfl⟩ e
  · obtain ⟨k, i, t, m, r⟩ := x
    obtain ⟨a1, a2, a3, a4, a5, a6, a7⟩ := o
    unfold zeroX at h1
    unfold zeroO at h2
    simp only at h1 h2
    obtain ⟨rfl, rfl, rfl, rfl, rfl⟩ := h1
    obtain ⟨rfl, rfl, rfl, rfl, rfl, rfl, rfl⟩ := h2
    subst h3
    have hl : wd.toList = [100, 97, 121] := by rw [hw]; exact lit_list [100, 97, 121]
    rcases hi with ⟨_, _, rfl, rfl, rfl, rfl⟩ | ⟨e, _⟩ | ⟨e, _⟩ | ⟨e, _, _, _⟩
    · exact ⟨rfl, rfl, rfl, rfl⟩
    · rw [hl] at e; exact absurd e (by decide)
    · rw [hl] at e; exact absurd e (by decide)
    · exact absurd ⟨hl, rfl⟩ e
end Go.Proofs.YtedhlmipcfdldaaDoor
