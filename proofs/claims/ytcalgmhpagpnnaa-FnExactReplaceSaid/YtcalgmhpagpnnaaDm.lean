/- The mathematics of right disks: ops one behind the other. No conditions. -/
import Derived.Test.YtcalgmhpagpnnaaLs
namespace Go.Proofs.Ytcalgmhpagpnnaa
set_option maxRecDepth 8000

deriving instance DecidableEq for Fl
/-- A right disk. -/
def diskB (Lv Sf : List Fl) (Os : List Dp) : Bool := filesB Lv && filesB Sf && decide (Os.length ≤ 200) && decide (runF Sf Os = some Lv)

theorem byt_ins (x : Fl) : ∀ L : List Fl, byt (insN Fl.name x L) = byt L + x.data.size
  | [] => by simp [insN, byt]
  | y :: r => by
    unfold insN
    have ih := byt_ins x r
    unfold byt at ih ⊢
    split
    · simp; omega
    · simp only [List.map_cons, List.sum_cons, ih]; omega
theorem byt_cut (n : ByteArray) : ∀ L : List Fl, byt (cutN Fl.name n L) ≤ byt L
  | [] => Nat.le_refl _
  | y :: r => by
    have ih := byt_cut n r
    unfold byt cutN at ih ⊢
    by_cases h : y.name = n
    · simp [h]; omega
    · simp [h]; omega
theorem byt_cut_get {n : ByteArray} {f : Fl} : ∀ {L : List Fl}, getN Fl.name n L = some f → byt (cutN Fl.name n L) + f.data.size ≤ byt L
  | [], h => by simp [getN] at h
  | y :: r, h => by
    by_cases e : y.name = n
    · have h1 : y = f := by simpa [getN, e] using h
      subst h1
      have := byt_cut n r
      unfold byt cutN at this ⊢
      simp [e]; omega
    · have h1 : getN Fl.name n r = some f := by
        unfold getN at h ⊢
        rwa [List.find?_cons_of_neg (by simp [e])] at h
      have := byt_cut_get h1
      unfold byt cutN at this ⊢
      simp [e]; omega
theorem cut_len {α : Type} (nm : α → ByteArray) (n : ByteArray) (L : List α) : (cutN nm n L).length ≤ L.length := List.length_filter_le _ _
theorem ins_len {α : Type} (nm : α → ByteArray) (x : α) : ∀ l : List α, (insN nm x l).length = l.length + 1
  | [] => rfl
  | y :: r => by
    unfold insN
    split
    · rfl
    · simp [ins_len nm x r]
theorem doF_byt {L M : List Fl} {o : Dp} (h : doF L o = some M) : byt M ≤ byt L + o.data.size := by
  unfold doF at h
  split at h
  · have h := (Option.some.inj h).symm
    subst h
    unfold putN
    rw [byt_ins]
    cases hg : getN Fl.name o.name L with
    | none =>
      have := byt_cut o.name L
      simp
      omega
    | some f =>
      have := byt_cut_get hg
      simp
      omega
  · split at h
    · cases h
    · rename_i f hg
      have hc := byt_cut_get hg
      split at h
      · have h := (Option.some.inj h).symm
        subst h
        unfold putN
        rw [byt_ins]
        have := byt_cut o.dst (cutN Fl.name o.name L)
        simp
        omega
      · have h := (Option.some.inj h).symm
        subst h
        omega
theorem doF_len {L M : List Fl} {o : Dp} (h : doF L o = some M) : M.length ≤ L.length + 1 := by
  unfold doF at h
  split at h
  · have h := (Option.some.inj h).symm
    subst h
    unfold putN
    rw [ins_len]
    exact Nat.succ_le_succ (cut_len Fl.name o.name L)
  · split at h
    · cases h
    · split at h
      · have h := (Option.some.inj h).symm
        subst h
        unfold putN
        rw [ins_len]
        have := cut_len Fl.name o.name L
        have := cut_len Fl.name o.dst (cutN Fl.name o.name L)
        simp at *
        omega
      · have h := (Option.some.inj h).symm
        subst h
        have := cut_len Fl.name o.name L
        omega
theorem doF_ris {L M : List Fl} {o : Dp} (h : doF L o = some M) (hR : Ris Fl.name L) : Ris Fl.name M := by
  unfold doF at h
  split at h
  · have h := (Option.some.inj h).symm
    subst h
    exact hR.put
  · split at h
    · cases h
    · split at h
      · have h := (Option.some.inj h).symm
        subst h
        exact (hR.cut _).put
      · have h := (Option.some.inj h).symm
        subst h
        exact hR.cut _
theorem formB_name {o : Dp} (h : formB o = true) : nmOk o.name = true := by
  unfold formB at h
  simp only [Bool.and_eq_true] at h
  exact h.1
theorem formB_dst {o : Dp} (h : formB o = true) (hk : o.kind = 2) : nmOk o.dst = true := by
  unfold formB at h
  simp [hk] at h
  exact h.2.1
theorem doF_names {L M : List Fl} {o : Dp} (h : doF L o = some M) (hf : formB o = true) (hN : ∀ f ∈ L, nmOk f.name = true) : ∀ f ∈ M, nmOk f.name = true := by
  intro f hf'
  unfold doF at h
  split at h
  · have h := (Option.some.inj h).symm
    subst h
    rcases putN_mem.1 hf' with e | ⟨e, _⟩
    · subst e; exact formB_name hf
    · exact hN f e
  · split at h
    · cases h
    · split at h
      · rename_i hk
        have h := (Option.some.inj h).symm
        subst h
        rcases putN_mem.1 hf' with e | ⟨e, _⟩
        · subst e; exact formB_dst hf hk
        · exact hN f (cutN_mem.1 e).1
      · have h := (Option.some.inj h).symm
        subst h
        exact hN f (cutN_mem.1 hf').1
theorem files_fits {M : List Fl} (hN : ∀ f ∈ M, nmOk f.name = true) (hR : Ris Fl.name M) : filesB M = fitsB M := by
  unfold filesB fitsB
  rw [List.all_eq_true.2 (by simpa using hN), decide_eq_true hR]
  simp
theorem step_files {L M : List Fl} {o : Dp} (hL : filesB L = true) (hf : formB o = true) (h : doF L o = some M) : filesB M = fitsB M :=
  files_fits (doF_names h hf (filesB_iff.1 hL).2.1) (doF_ris h (filesB_iff.1 hL).2.2)
theorem stepF_files {L M : List Fl} {o : Dp} (hL : filesB L = true) (h : stepF L o = some M) : filesB M = true := by
  unfold stepF at h
  split at h
  · rename_i hf
    cases hd : doF L o with
    | none => rw [hd] at h; cases h
    | some K =>
      rw [hd] at h
      simp only [Option.bind_some] at h
      split at h
      · have h := Option.some.inj h
        subst h
        rw [step_files hL hf hd]
        assumption
      · cases h
  · cases h
theorem runF_append (L : List Fl) : ∀ (a b : List Dp), runF L (a ++ b) = (runF L a).bind fun M => runF M b := by
  intro a b
  induction a generalizing L with
  | nil => simp [runF]
  | cons o r ih =>
    simp only [List.cons_append, runF]
    cases h : stepF L o with
    | none => simp
    | some M => simp [ih M]
theorem lst_split {α : Type} (F : Nat → α) {k n : Nat} (h : k ≤ n) : ∃ r, lst F n = lst F k ++ r := by
  induction n with
  | zero => obtain rfl : k = 0 := by omega
            exact ⟨[], by simp⟩
  | succ n ih =>
    by_cases e : k = n + 1
    · subst e; exact ⟨[], by simp⟩
    · obtain ⟨r, hr⟩ := ih (by omega)
      exact ⟨r ++ [F n], by rw [lst_succ, hr, List.append_assoc]⟩
theorem run_stop {L : List Fl} {O : Nat → Dp} {k n : Nat} (hk : k < n) {M : List Fl} (h : runF L (lst O k) = some M) (hs : stepF M (O k) = none) : runF L (lst O n) = none := by
  obtain ⟨r, hr⟩ := lst_split O (show k + 1 ≤ n by omega)
  rw [hr, runF_append, lst_succ, runF_snoc, h]
  simp [hs]
theorem run_next {L : List Fl} {O : Nat → Dp} {k : Nat} {M K : List Fl} (h : runF L (lst O k) = some M) (hs : stepF M (O k) = some K) : runF L (lst O (k + 1)) = some K := by
  rw [lst_succ, runF_snoc, h]
  simp [hs]
theorem step_yes {M K : List Fl} {o : Dp} (h : doF M o = some K) (hf : formB o = true) (hK : fitsB K = true) : stepF M o = some K := by
  unfold stepF
  rw [hf, h]
  simp [hK]
theorem step_no_do {M : List Fl} {o : Dp} (h : doF M o = none) : stepF M o = none := by
  unfold stepF
  rw [h]
  simp
theorem step_no_form {M : List Fl} {o : Dp} (h : formB o = false) : stepF M o = none := by
  unfold stepF
  rw [h]
  simp
theorem step_no_fits {M K : List Fl} {o : Dp} (h : doF M o = some K) (hK : fitsB K = false) : stepF M o = none := by
  unfold stepF
  rw [h]
  simp [hK]
theorem disk_no_live {Lv Sf : List Fl} {Os : List Dp} (h : filesB Lv = false) : diskB Lv Sf Os = false := by simp [diskB, h]
theorem disk_no_safe {Lv Sf : List Fl} {Os : List Dp} (h : filesB Sf = false) : diskB Lv Sf Os = false := by simp [diskB, h]
theorem disk_no_many {Lv Sf : List Fl} {Os : List Dp} (h : 200 < Os.length) : diskB Lv Sf Os = false := by
  have : decide (Os.length ≤ 200) = false := decide_eq_false (by omega)
  simp [diskB, this]
theorem disk_no_run {Lv Sf : List Fl} {Os : List Dp} (h : runF Sf Os = none) : diskB Lv Sf Os = false := by simp [diskB, h]
theorem disk_end {Lv Sf M : List Fl} {Os : List Dp} (h1 : filesB Lv = true) (h2 : filesB Sf = true) (h3 : Os.length ≤ 200) (h : runF Sf Os = some M) : diskB Lv Sf Os = decide (M = Lv) := by
  simp [diskB, h1, h2, h3, h]
end Go.Proofs.Ytcalgmhpagpnnaa
