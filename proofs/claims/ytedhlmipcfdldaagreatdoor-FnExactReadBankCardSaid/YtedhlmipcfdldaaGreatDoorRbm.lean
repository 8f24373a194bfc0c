/- The text of a bank is read as the bank, and nothing else is. Pure mathematics. -/
import Derived.Test.YtedhlmipcfdldaaGreatDoorRbt
namespace Go.Proofs.YtedhlmipcfdldaaGreatDoor
open Go.RowKit
set_option maxRecDepth 8000

theorem rowB_list : ∀ (ns : List Int) (S : ByteArray), (rowB S ns).data.toList = rowL S.data.toList ns
  | [], S => rfl
  | n :: r, S => by
    show (rowB (S ++ ⟨#[32]⟩ ++ dcB n) r).data.toList = rowL (S.data.toList ++ 32 :: Lib.itoa n) r
    rw [rowB_list r]
    congr 1
    simp [ByteArray.data_append, dcB]
theorem lineB_list (S : ByteArray) (ns : List Int) : (lineB S ns).data.toList = lineL S.data.toList ns := by
  simp [lineB, lineL, ByteArray.data_append, rowB_list]
theorem linesL_app (S : List UInt8) : ∀ (a b : List (List Int)), linesL S (a ++ b) = linesL S a ++ linesL S b
  | [], b => rfl
  | l :: r, b => by simp [linesL, linesL_app S r b]
theorem accT_list (T : ByteArray) (F : Nat → Acc) : ∀ j, (accT T F j).data.toList = T.data.toList ++ linesL wAcc.data.toList ((List.range j).map (fun i => acN (F i)))
  | 0 => by simp [accT, linesL]
  | j + 1 => by
    simp only [accT, ByteArray.data_append, Array.toList_append, accT_list T F j, lineB_list, List.range_succ, List.map_append, linesL_app, List.map_cons, List.map_nil, linesL, List.append_nil, List.append_assoc]
theorem ordT_list (T : ByteArray) (F : Nat → Ord) : ∀ j, (ordT T F j).data.toList = T.data.toList ++ linesL wOrd.data.toList ((List.range j).map (fun i => orN (F i)))
  | 0 => by simp [ordT, linesL]
  | j + 1 => by
    simp only [ordT, ByteArray.data_append, Array.toList_append, ordT_list T F j, lineB_list, List.range_succ, List.map_append, linesL_app, List.map_cons, List.map_nil, linesL, List.append_nil, List.append_assoc]
theorem acc_map (L : List Acc) : (List.range L.length).map (fun i => acN (FL L i)) = L.map acN := by
  apply List.ext_getElem
  · simp
  · intro i h1 h2
    have hi : i < L.length := by simpa using h1
    simp [FL_lt hi]
theorem ord_map (L : List Ord) : (List.range L.length).map (fun i => orN (OrdF L i)) = L.map orN := by
  apply List.ext_getElem
  · simp
  · intro i h1 h2
    have hi : i < L.length := by simpa using h1
    simp [OrdF_lt hi]
/-- The text of a bank. -/
def bankT (k : Bk) (L : List Acc) (O : List Ord) : List UInt8 := lineL wBank.data.toList (bkN k) ++ (linesL wAcc.data.toList (L.map acN) ++ linesL wOrd.data.toList (O.map orN))
theorem bankB_list (k : Bk) (L : List Acc) (O : List Ord) : (bankB (FL L) L.length (OrdF O) O.length k).data.toList = bankT k L O := by
  simp only [bankB, ordT_list, accT_list, lineB_list, acc_map, ord_map, bankT, List.append_assoc]
theorem acN_num {a : Acc} (h : okS a) : ∀ z ∈ acN a, IsNum (Lib.itoa z) z := by
  unfold okS at h
  intro z hz
  simp only [acN, List.mem_cons, List.not_mem_nil, or_false] at hz
  rcases hz with rfl | rfl | rfl | rfl | rfl | rfl | rfl | rfl
  case inr.inr.inr.inr.inr.inl => cases a.frozen <;> exact ⟨rfl, by decide, by decide⟩
  all_goals exact ⟨rfl, by omega, by omega⟩
theorem orN_num {o : Ord} (h : ordOk o) : ∀ z ∈ orN o, IsNum (Lib.itoa z) z := by
  unfold ordOk at h
  intro z hz
  simp only [orN, List.mem_cons, List.not_mem_nil, or_false] at hz
  rcases hz with rfl | rfl | rfl | rfl | rfl | rfl | rfl <;> exact ⟨rfl, by omega, by omega⟩
theorem bkN_num {F : Nat → Acc} {n : Nat} {O : Nat → Ord} {m : Nat} {k : Bk} (h : bankOk F n O m k) : ∀ z ∈ bkN k, IsNum (Lib.itoa z) z := by
  unfold bankOk at h
  obtain ⟨h0, _, _, h1, h2, h3, h4⟩ := h
  intro z hz
  simp only [bkN, List.mem_cons, List.not_mem_nil, or_false] at hz
  rcases hz with rfl | rfl | rfl | rfl | rfl <;> exact ⟨rfl, by omega, by omega⟩
theorem rowsA {k : Bk} {L : List Acc} {O : List Ord} (h : bankOk (FL L) L.length (OrdF O) O.length k) : ∀ l ∈ L.map acN, l.length = 8 ∧ ∀ n ∈ l, IsNum (Lib.itoa n) n := by
  intro l hl
  obtain ⟨a, ha, rfl⟩ := List.mem_map.1 hl
  refine ⟨rfl, acN_num ?_⟩
  obtain ⟨i, hi, e⟩ := List.getElem_of_mem ha
  rw [← e, ← FL_lt hi]
  exact h.2.1.2.1 i hi
theorem rowsO {k : Bk} {L : List Acc} {O : List Ord} (h : bankOk (FL L) L.length (OrdF O) O.length k) : ∀ l ∈ O.map orN, l.length = 7 ∧ ∀ n ∈ l, IsNum (Lib.itoa n) n := by
  intro l hl
  obtain ⟨a, ha, rfl⟩ := List.mem_map.1 hl
  refine ⟨rfl, orN_num ?_⟩
  obtain ⟨i, hi, e⟩ := List.getElem_of_mem ha
  rw [← e, ← OrdF_lt hi]
  exact h.2.2.1.2.1 i hi
theorem not_acc (ls : List (List Int)) : ¬ wAcc.data.toList <+: linesL wOrd.data.toList ls := by
  cases ls with
  | nil => intro h; have := h.length_le; simp [linesL, wAcc] at this
  | cons l r =>
    intro h
    obtain ⟨t, ht⟩ := h
    simp only [linesL, lineL, rowL_flat, wAcc, wOrd, List.append_assoc] at ht
    simp at ht
theorem not_ord : ¬ wOrd.data.toList <+: ([] : List UInt8) := by
  intro h
  have := h.length_le
  simp [wOrd] at this
/-- The text of a right bank is read as it. -/
theorem rdb_of {k : Bk} {L : List Acc} {O : List Ord} (h : bankOk (FL L) L.length (OrdF O) O.length k) : RdB (bankT k L O) k L O [] := by
  refine ⟨linesL wAcc.data.toList (L.map acN) ++ linesL wOrd.data.toList (O.map orN), linesL wOrd.data.toList (O.map orN), ?_, ?_, ?_, h⟩
  · exact readLine_of wBank.data.toList (bkN k) _ (bkN_num h)
  · exact readLines_of wAcc.data.toList 8 (L.map acN) 1048577 _ (rowsA h) (not_acc _) (by have := h.2.1.1; simp only [List.length_map]; omega)
  · have := readLines_of wOrd.data.toList 7 (O.map orN) 1048577 [] (rowsO h) not_ord (by have := h.2.2.1.1; simp only [List.length_map]; omega)
    simpa using this
/-- What is read as a bank is its text. -/
theorem rdb_is {s t : List UInt8} {k : Bk} {L : List Acc} {O : List Ord} (h : RdB s k L O t) : bankOk (FL L) L.length (OrdF O) O.length k ∧ s = bankT k L O ++ t := by
  obtain ⟨s1, s2, e1, e2, e3, h4⟩ := h
  refine ⟨h4, ?_⟩
  have f1 := (readLine_is e1).1
  have f2 := (readLines_is _ _ _ _ _ _ e2).1
  have f3 := (readLines_is _ _ _ _ _ _ e3).1
  rw [f1, f2, f3]
  simp [bankT]
/-- The reader's word on a whole text. -/
theorem rdb_iff (s : ByteArray) (k : Bk) (L : List Acc) (O : List Ord) : RdB s.data.toList k L O [] ↔ bankOk (FL L) L.length (OrdF O) O.length k ∧ s = bankB (FL L) L.length (OrdF O) O.length k := by
  constructor
  · intro h
    obtain ⟨h1, h2⟩ := rdb_is h
    refine ⟨h1, ext_ofD ?_⟩
    rw [bankB_list, h2]
    simp
  · rintro ⟨h1, rfl⟩
    rw [bankB_list]
    exact rdb_of h1
theorem bankB_size {k : Bk} {L : List Acc} {O : List Ord} (h : bankOk (FL L) L.length (OrdF O) O.length k) : (bankB (FL L) L.length (OrdF O) O.length k).size ≤ 5313 ∧ 0 < (bankB (FL L) L.length (OrdF O) O.length k).size := by
  constructor
  · have h0 := lineB_size (S := wBank) (ns := bkN k) (by decide) (by simp [bkN]) (bkN_sml h)
    have h1 := accT_size (F := FL L) h0 L.length h.2.1.2.1
    have h2 := ordT_size (O := OrdF O) h1 O.length h.2.2.1.2.1
    have := h.2.1.1
    have := h.2.2.1.1
    unfold bankB
    omega
  · rw [← lenD, bankB_list]
    simp [bankT, lineL]
    omega
end Go.Proofs.YtedhlmipcfdldaaGreatDoor
