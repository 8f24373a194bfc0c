/- Frames behind one another: what is read of them. Pure; no conditions. -/
import Derived.Test.YthmmlcmeaokdnaaDraws
namespace Go.Proofs.Ythmmlcmeaokdnaa
open Go.RowKit

theorem appL (x y : ByteArray) : (x ++ y).data.toList = x.data.toList ++ y.data.toList := by
  have := ByteArray.mk_append_mk x.data.toList y.data.toList
  rw [show (⟨x.data.toList.toArray⟩ : ByteArray) = x from by cases x; simp, show (⟨y.data.toList.toArray⟩ : ByteArray) = y from by cases y; simp] at this
  rw [this]
theorem lenL (x : ByteArray) : x.data.toList.length = x.size := by simp
def catF (L : List ByteArray) : ByteArray := L.foldl (fun x d => x ++ frameB d) ⟨#[]⟩
theorem catF_snoc (L : List ByteArray) (d : ByteArray) : catF (L ++ [d]) = catF L ++ frameB d := by simp [catF]
theorem frameL (d : ByteArray) : (frameB d).data.toList = headB d ++ d.data.toList := by
  unfold frameB
  rw [appL]
theorem byteAtL (t : ByteArray) (k : Nat) (h : k < t.data.toList.length) : byteAt t k = (t.data.toList[k]).toNat := by
  rw [byteAt_eq (by simpa using h)]
  simp
  rfl
theorem byteOf_nat (z : Nat) (h : z < 256) : (byteOf (z : Int)).toNat = z := by
  unfold byteOf
  simp
  omega
/-- What begins with a frame. -/
theorem front (d r : ByteArray) (h : d.size ≤ 100000) : sizeN (frameB d ++ r) = d.size ∧ dataB (frameB d ++ r) = d ∧ Fine (frameB d ++ r) := by
  obtain ⟨t, ht⟩ : ∃ t, t = frameB d ++ r := ⟨_, rfl⟩
  rw [← ht]
  have hT : t.data.toList = headB d ++ (d.data.toList ++ r.data.toList) := by rw [ht, appL, frameL, List.append_assoc]
  have hh := headB_len d
  have hsz : t.size = 8 + (d.size + r.size) := by rw [← lenL, hT]; simp [hh]
  have hd4 : headB d = [byteOf ((d.size : Int) / 16777216), byteOf ((d.size : Int) / 65536), byteOf ((d.size : Int) / 256 % 256), byteOf ((d.size : Int) % 256)] ++ lowB (crcS d) := rfl
  have g : ∀ k (hk : k < 4), byteAt t k = ([byteOf ((d.size : Int) / 16777216), byteOf ((d.size : Int) / 65536), byteOf ((d.size : Int) / 256 % 256), byteOf ((d.size : Int) % 256)][k]'(by simpa using hk)).toNat := by
    intro k hk
    rw [byteAtL t k (by rw [lenL]; omega)]
    congr 1
    rw [List.getElem_of_eq (hT.trans (by rw [hd4, List.append_assoc]))]
    exact List.getElem_append_left (by simpa using hk)
  have g0 : byteAt t 0 = d.size / 16777216 := by
    rw [g 0 (by omega)]
    show (byteOf ((d.size : Int) / 16777216)).toNat = _
    rw [show (d.size : Int) / 16777216 = ((d.size / 16777216 : Nat) : Int) by omega]
    exact byteOf_nat _ (by omega)
  have g1 : byteAt t 1 = d.size / 65536 := by
    rw [g 1 (by omega)]
    show (byteOf ((d.size : Int) / 65536)).toNat = _
    rw [show (d.size : Int) / 65536 = ((d.size / 65536 : Nat) : Int) by omega]
    exact byteOf_nat _ (by omega)
  have g2 : byteAt t 2 = d.size / 256 % 256 := by
    rw [g 2 (by omega)]
    show (byteOf ((d.size : Int) / 256 % 256)).toNat = _
    rw [show (d.size : Int) / 256 % 256 = ((d.size / 256 % 256 : Nat) : Int) by omega]
    exact byteOf_nat _ (by omega)
  have g3 : byteAt t 3 = d.size % 256 := by
    rw [g 3 (by omega)]
    show (byteOf ((d.size : Int) % 256)).toNat = _
    rw [show (d.size : Int) % 256 = ((d.size % 256 : Nat) : Int) by omega]
    exact byteOf_nat _ (by omega)
  have hn : sizeN t = d.size := by unfold sizeN; rw [g0, g1, g2, g3]; omega
  have hD : dataB t = d := by
    apply ext_of
    unfold dataB
    rw [hn, extL, hT, show 8 + d.size - 8 = d.size by omega]
    rw [List.drop_append_of_le_length (by omega), List.drop_of_length_le (by omega), List.nil_append, List.take_append_of_le_length (by rw [lenL]; omega), List.take_of_length_le (by rw [lenL]; omega)]
  refine ⟨hn, hD, by omega, by omega, by omega, ?_⟩
  rw [hD]
  apply ext_of
  rw [extL, hT]
  simp only [List.drop_zero]
  rw [List.take_append_of_le_length (by omega), List.take_of_length_le (by omega)]
theorem stF_cat (s : ByteArray) : ∀ (j a : Nat) (L : List ByteArray), stF s j = (L, a) → catF L = s.extract 0 a ∧ ∀ d ∈ L, d.size ≤ 100000
  | 0, a, L, h => by
    simp [stF] at h
    obtain ⟨rfl, rfl⟩ := h
    refine ⟨?_, by simp⟩
    apply ext_of
    rw [extL]
    simp [catF]
  | j + 1, a, L, h => by
    obtain ⟨L', a', h'⟩ : ∃ L' a', stF s j = (L', a') := ⟨_, _, rfl⟩
    obtain ⟨i1, i2⟩ := stF_cat s j a' L' h'
    by_cases hf : Fine (tailB s a')
    · rw [stF_yes h' hf] at h
      obtain ⟨rfl, rfl⟩ : L' ++ [dataB (tailB s a')] = L ∧ a' + (8 + sizeN (tailB s a')) = a := by simpa using h
      have hbd := (stF_bd s j).1
      rw [h'] at hbd
      have hds := dataB_size hf.2.2.1
      refine ⟨?_, fun d hd => ?_⟩
      · rw [catF_snoc, i1]
        apply ext_of
        have hT : (tailB s a').data.toList = s.data.toList.drop a' := by
          unfold tailB
          rw [extL, List.take_of_length_le (by simp)]
        have hh : headB (dataB (tailB s a')) = (s.data.toList.drop a').take 8 := by
          have := congrArg (fun x : ByteArray => x.data.toList) hf.2.2.2
          simp only at this
          rw [extL, hT] at this
          simpa using this
        have hdd : (dataB (tailB s a')).data.toList = ((s.data.toList.drop a').drop 8).take (sizeN (tailB s a')) := by
          unfold dataB
          rw [extL, hT, show 8 + sizeN (tailB s a') - 8 = sizeN (tailB s a') by omega]
        rw [appL, frameL, extL, extL, hh, hdd]
        simp only [List.drop_zero, Nat.sub_zero]
        rw [List.take_add (l := s.data.toList) (i := a'), List.take_add (l := s.data.toList.drop a') (i := 8)]
      · rcases List.mem_append.1 hd with e | e
        · exact i2 d e
        · simp at e
          subst e
          rw [hds]
          exact hf.2.1
    · have e : stF s (j + 1) = stF s j := by rw [stF]; exact if_neg (by rw [h']; exact hf)
      rw [e, h'] at h
      obtain ⟨rfl, rfl⟩ : L' = L ∧ a' = a := by simpa using h
      exact ⟨i1, i2⟩
theorem stF_of_cat : ∀ (n : Nat) (L : List ByteArray) (r : ByteArray), L.length = n → (∀ d ∈ L, d.size ≤ 100000) → stF (catF L ++ r) n = (L, (catF L).size)
  | 0, L, r, hn, _ => by
    obtain rfl := List.length_eq_zero_iff.1 hn
    rfl
  | n + 1, L, r, hn, hL => by
    obtain ⟨M, d, rfl⟩ : ∃ M d, L = M ++ [d] := by
      have hne : L ≠ [] := by intro e; rw [e] at hn; simp at hn
      exact ⟨L.dropLast, L.getLast hne, (List.dropLast_concat_getLast hne).symm⟩
    have hM : M.length = n := by simpa using hn
    have ih := stF_of_cat n M (frameB d ++ r) hM (fun x hx => hL x (List.mem_append.2 (Or.inl hx)))
    have hs : catF (M ++ [d]) ++ r = catF M ++ (frameB d ++ r) := by
      rw [catF_snoc]
      apply ext_of
      simp only [appL, List.append_assoc]
    rw [hs]
    have ht : tailB (catF M ++ (frameB d ++ r)) (catF M).size = frameB d ++ r := by
      apply ext_of
      unfold tailB
      rw [extL, List.take_of_length_le (by simp), appL, List.drop_append_of_le_length (by rw [lenL]; omega), List.drop_of_length_le (by rw [lenL]; omega), List.nil_append]
    obtain ⟨f1, f2, f3⟩ := front d r (hL d (by simp))
    have := stF_yes ih (by rw [ht]; exact f3)
    rw [ht, f1, f2] at this
    rw [this, catF_snoc, ByteArray.size_append, frameB_size]
theorem stF_prefix (s : ByteArray) (i : Nat) : ∀ m, (stF s i).1 <+: (stF s (i + m)).1
  | 0 => List.prefix_refl _
  | m + 1 => by
    have ih := stF_prefix s i m
    rw [← Nat.add_assoc, stF]
    split
    · exact ih.trans (List.prefix_append _ _)
    · exact ih
theorem empty_no (s : ByteArray) : ¬ Fine (tailB s s.size) := fun h => by have := h.1; rw [tailB_size] at this; omega
theorem res_more {L : List ByteArray} (hL : ∀ d ∈ L, d.size ≤ 100000) (t : ByteArray) (ht : t.size ≤ 100000) : Res (catF L ++ frameB t) (L ++ [t]) ((catF L).size + (8 + t.size)) := by
  have h := stF_of_cat _ (L ++ [t]) ⟨#[]⟩ rfl (fun d hd => by
    rcases List.mem_append.1 hd with e | e
    · exact hL d e
    · simp at e; subst e; exact ht)
  have e : catF (L ++ [t]) ++ ⟨#[]⟩ = catF L ++ frameB t := by
    rw [catF_snoc]
    apply ext_of
    rw [appL]
    simp
  have e2 : (catF (L ++ [t])).size = (catF L).size + (8 + t.size) := by rw [catF_snoc, ByteArray.size_append, frameB_size]
  rw [e, e2] at h
  refine ⟨_, h, ?_⟩
  have e3 : (catF L).size + (8 + t.size) = (catF L ++ frameB t).size := by rw [ByteArray.size_append, frameB_size]
  rw [e3]
  exact empty_no _
theorem res_few {L F : List ByteArray} {k b : Nat} (hL : ∀ d ∈ L, d.size ≤ 100000) (hk : k ≤ (catF L).size) (h : Res ((catF L).extract 0 k) F b) : F.length ≤ L.length ∧ F = L.take F.length := by
  obtain ⟨j, e, _⟩ := h
  obtain ⟨c1, c2⟩ := stF_cat _ j b F e
  have hb := (stF_bd ((catF L).extract 0 k) j).1
  rw [e, ByteArray.size_extract] at hb
  simp only at hb
  have hc : catF L = catF F ++ (catF L).extract b (catF L).size := by
    apply ext_of
    rw [appL, c1, extL, extL, extL]
    simp only [List.drop_zero, Nat.sub_zero]
    rw [List.take_take, show min b k = b by omega, List.take_of_length_le (l := (catF L).data.toList.drop b) (by simp), List.take_append_drop]
  have hF := stF_of_cat _ F ((catF L).extract b (catF L).size) rfl c2
  rw [← hc] at hF
  have hLs := stF_of_cat _ L ⟨#[]⟩ rfl hL
  rw [show catF L ++ ⟨#[]⟩ = catF L from by apply ext_of; rw [appL]; simp] at hLs
  by_cases hle : F.length ≤ L.length
  · have := stF_prefix (catF L) F.length (L.length - F.length)
    rw [show F.length + (L.length - F.length) = L.length by omega, hF, hLs] at this
    exact ⟨hle, List.prefix_iff_eq_take.1 this⟩
  · exfalso
    have := stF_stuck (s := catF L) (j := L.length) (by rw [hLs]; exact empty_no _) (F.length - L.length)
    rw [show L.length + (F.length - L.length) = F.length by omega, hF, hLs] at this
    have e : F = L := by simpa using congrArg Prod.fst this
    rw [e] at hle
    omega
end Go.Proofs.Ythmmlcmeaokdnaa
