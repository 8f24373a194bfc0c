/- The mathematics of right disks: ops one behind the other. No conditions. -/
import Derived.Test.YtcalgmhpagpnnaaLs
import Derived.Test.YtcalgmhpagpnnaaSpD
import Derived.Test.YtcalgmhpagpnnaaSpFS
namespace Go.Proofs.Ytcalgmhpagpnnaa
set_option maxRecDepth 8000

deriving instance DecidableEq for Fl
/-- A right disk. -/
def diskB (Lv Sf : List Fl) (Os : List Dp) : Bool := filesB Lv && filesB Sf && decide (Os.length ≤ 200) && decide (runF Sf Os = some Lv)

theorem byt_ins (x : Fl) : ∀ L : List Fl, byt (insN Fl.name x L) = byt L + x.data.size
  | [] => by simp [insN, byt]
  | y :: r => by
    unfold insN
    have ih := byt_ins x r
    unfold byt at ih ⊢
    split
    · simp; omega
    · simp only [List.map_cons, List.sum_cons, ih]; omega
theorem byt_cut (n : ByteArray) : ∀ L : List Fl, byt (cutN Fl.name n L) ≤ byt L
  | [] => Nat.le_refl _
  | y :: r => by
    have ih := byt_cut n r
    unfold byt cutN at ih ⊢
    by_cases h : y.name = n
    · simp [h]; omega
    · simp [h]; omega
theorem byt_cut_get {n : ByteArray} {f : Fl} : ∀ {L : List Fl}, getN Fl.name n L = some f → byt (cutN Fl.name n L) + f.data.size ≤ byt L
  | [], h => by simp [getN] at h
  | y :: r, h => by
    by_cases e : y.name = n
    · have h1 : y = f := by simpa [getN, e] using h
      subst h1
      have := byt_cut n r
      unfold byt cutN at this ⊢
      simp [e]; omega
    · have h1 : getN Fl.name n r = some f := by
        unfold getN at h ⊢
        rwa [List.find?_cons_of_neg (by simp [e])] at h
      have := byt_cut_get h1
      unfold byt cutN at this ⊢
      simp [e]; omega
theorem cut_len {α : Type} (nm : α → ByteArray) (n : ByteArray) (L : List α) : (cutN nm n L).length ≤ L.length := List.length_filter_le _ _
theorem ins_len {α : Type} (nm : α → ByteArray) (x : α) : ∀ l : List α, (insN nm x l).length = l.length + 1
  | [] => rfl
  | y :: r => by
    unfold insN
    split
    · rfl
    · simp [ins_len nm x r]
theorem doF_byt {L M : List Fl} {o : Dp} (h : doF L o = some M) : byt M ≤ byt L + o.data.size := by
  unfold doF at h
  split at h
  · have h := (Option.some.inj h).symm
    subst h
    unfold putN
    rw [byt_ins]
    cases hg : getN Fl.name o.name L with
    | none =>
      have := byt_cut o.name L
      simp
      omega
    | some f =>
      have := byt_cut_get hg
      simp
      omega
  · split at h
    · cases h
    · rename_i f hg
      have hc := byt_cut_get hg
      split at h
      · have h := (Option.some.inj h).symm
        subst h
        unfold putN
        rw [byt_ins]
        have := byt_cut o.dst (cutN Fl.name o.name L)
        simp
        omega
      · have h := (Option.some.inj h).symm
        subst h
        omega
theorem doF_len {L M : List Fl} {o : Dp} (h : doF L o = some M) : M.length ≤ L.length + 1 := by
  unfold doF at h
  split at h
  · have h := (Option.some.inj h).symm
    subst h
    unfold putN
    rw [ins_len]
    exact Nat.succ_le_succ (cut_len Fl.name o.name L)
  · split at h
    · cases h
    · split at h
      · have h := (Option.some.inj h).symm
        subst h
        unfold putN
        rw [ins_len]
        have := cut_len Fl.name o.name L
        have := cut_len Fl.name o.dst (cutN Fl.name o.name L)
        simp at *
        omega
      · have h := (Option.some.inj h).symm
        subst h
        have := cut_len Fl.name o.name L
        omega
theorem doF_ris {L M : List Fl} {o : Dp} (h : doF L o = some M) (hR : Ris Fl.name L) : Ris Fl.name M := by
  unfold doF at h
  split at h
  · have h := (Option.some.inj h).symm
    subst h
    exact hR.put
  · split at h
    · cases h
    · split at h
      · have h := (Option.some.inj h).symm
        subst h
        exact (hR.cut _).put
      · have h := (Option.some.inj h).symm
        subst h
        exact hR.cut _
theorem formB_name {o : Dp} (h : formB o = true) : nmOk o.name = true := by
  unfold formB at h
  simp only [Bool.and_eq_true] at h
  exact h.1
theorem formB_dst {o : Dp} (h : formB o = true) (hk : o.kind = 2) : nmOk o.dst = true := by
  unfold formB at h
  simp [hk] at h
  exact h.2.1
theorem doF_names {L M : List Fl} {o : Dp} (h : doF L o = some M) (hf : formB o = true) (hN : ∀ f ∈ L, nmOk f.name = true) : ∀ f ∈ M, nmOk f.name = true := by
  intro f hf'
  unfold doF at h
  split at h
  · have h := (Option.some.inj h).symm
    subst h
    rcases putN_mem.1 hf' with e | ⟨e, _⟩
    · subst e; exact formB_name hf
    · exact hN f e
  · split at h
    · cases h
    · split at h
      · rename_i hk
        have h := (Option.some.inj h).symm
        subst h
        rcases putN_mem.1 hf' with e | ⟨e, _⟩
        · subst e; exact formB_dst hf hk
        · exact hN f (cutN_mem.1 e).1
      · have h := (Option.some.inj h).symm
        subst h
        exact hN f (cutN_mem.1 hf').1
theorem files_fits {M : List Fl} (hN : ∀ f ∈ M, nmOk f.name = true) (hR : Ris Fl.name M) : filesB M = fitsB M := by
  unfold filesB fitsB
  rw [List.all_eq_true.2 (by simpa using hN), decide_eq_true hR]
  simp
theorem step_files {L M : List Fl} {o : Dp} (hL : filesB L = true) (hf : formB o = true) (h : doF L o = some M) : filesB M = fitsB M :=
  files_fits (doF_names h hf (filesB_iff.1 hL).2.1) (doF_ris h (filesB_iff.1 hL).2.2)
theorem stepF_files {L M : List Fl} {o : Dp} (hL : filesB L = true) (h : stepF L o = some M) : filesB M = true := by
  unfold stepF at h
  split at h
  · rename_i hf
    cases hd : doF L o with
    | none => rw [hd] at h; cases h
    | some K =>
      rw [hd] at h
      simp only [Option.bind_some] at h
      split at h
      · have h := Option.some.inj h
        subst h
        rw [step_files hL hf hd]
        assumption
      · cases h
  · cases h
theorem runF_append (L : List Fl) : ∀ (a b : List Dp), runF L (a ++ b) = (runF L a).bind fun M => runF M b := by
  intro a b
  induction a generalizing L with
  | nil => simp [runF]
  | cons o r ih =>
    simp only [List.cons_append, runF]
    cases h : stepF L o with
    | none => simp
    | some M => simp [ih M]
theorem lst_split {α : Type} (F : Nat → α) {k n : Nat} (h : k ≤ n) : ∃ r, lst F n = lst F k ++ r := by
  induction n with
  | zero => obtain rfl : k = 0 := by omega
            exact ⟨[], by simp⟩
  | succ n ih =>
    by_cases e : k = n + 1
    · subst e; exact ⟨[], by simp⟩
    · obtain ⟨r, hr⟩ := ih (by omega)
      exact ⟨r ++ [F n], by rw [lst_succ, hr, List.append_assoc]⟩
theorem run_stop {L : List Fl} {O : Nat → Dp} {k n : Nat} (hk : k < n) {M : List Fl} (h : runF L (lst O k) = some M) (hs : stepF M (O k) = none) : runF L (lst O n) = none := by
  obtain ⟨r, hr⟩ := lst_split O (show k + 1 ≤ n by omega)
  rw [hr, runF_append, lst_succ, runF_snoc, h]
  simp [hs]
theorem run_next {L : List Fl} {O : Nat → Dp} {k : Nat} {M K : List Fl} (h : runF L (lst O k) = some M) (hs : stepF M (O k) = some K) : runF L (lst O (k + 1)) = some K := by
  rw [lst_succ, runF_snoc, h]
  simp [hs]
theorem step_yes {M K : List Fl} {o : Dp} (h : doF M o = some K) (hf : formB o = true) (hK : fitsB K = true) : stepF M o = some K := by
  unfold stepF
  rw [hf, h]
  simp [hK]
theorem step_no_do {M : List Fl} {o : Dp} (h : doF M o = none) : stepF M o = none := by
  unfold stepF
  rw [h]
  simp
theorem step_no_form {M : List Fl} {o : Dp} (h : formB o = false) : stepF M o = none := by
  unfold stepF
  rw [h]
  simp
theorem step_no_fits {M K : List Fl} {o : Dp} (h : doF M o = some K) (hK : fitsB K = false) : stepF M o = none := by
  unfold stepF
  rw [h]
  simp [hK]
theorem disk_no_live {Lv Sf : List Fl} {Os : List Dp} (h : filesB Lv = false) : diskB Lv Sf Os = false := by simp [diskB, h]
theorem disk_no_safe {Lv Sf : List Fl} {Os : List Dp} (h : filesB Sf = false) : diskB Lv Sf Os = false := by simp [diskB, h]
theorem disk_no_many {Lv Sf : List Fl} {Os : List Dp} (h : 200 < Os.length) : diskB Lv Sf Os = false := by
  have : decide (Os.length ≤ 200) = false := decide_eq_false (by omega)
  simp [diskB, this]
theorem disk_no_run {Lv Sf : List Fl} {Os : List Dp} (h : runF Sf Os = none) : diskB Lv Sf Os = false := by simp [diskB, h]
theorem disk_end {Lv Sf M : List Fl} {Os : List Dp} (h1 : filesB Lv = true) (h2 : filesB Sf = true) (h3 : Os.length ≤ 200) (h : runF Sf Os = some M) : diskB Lv Sf Os = decide (M = Lv) := by
  simp [diskB, h1, h2, h3, h]
end Go.Proofs.Ytcalgmhpagpnnaa

/- The specification's DiskOk. Conditions: the disk's lists lie in memory, at most 1048576 of each, of at most 1048576 bytes. -/
namespace Go.Proofs.Ytcalgmhpagpnnaa
open Go.RowKit
set_option maxRecDepth 8000

/-- A disk in memory. -/
structure Dk (w : World) (a : Option Addr) (n : Nat) (F : Nat → Fl) (b : Option Addr) (m : Nat) (G : Nat → Fl) (d : Option Addr) (q : Nat) (O : Nat → Dp) : Prop where
  live : Fls w a n F
  safe : Fls w b m G
  ops : Dps w d q O
  sl : byt (lst F n) ≤ 1048576
  ss : byt (lst G m) ≤ 1048576
  so : ∀ i, i < q → (O i).data.size ≤ 1048576
theorem Dk.below {w w' : World} {a b d : Option Addr} {n m q : Nat} {F G : Nat → Fl} {O : Nat → Dp} (h : Dk w a n F b m G d q O) (hb : Below w.heap.size w w') : Dk w' a n F b m G d q O :=
  ⟨h.live.below hb, h.safe.below hb, h.ops.below hb, h.sl, h.ss, h.so⟩
/-- The box of a disk that is handed over. -/
abbrev dkBox (a : Option Addr) (n c : Nat) (b : Option Addr) (m c' : Nat) (d : Option Addr) (q c'' : Nat) (t : TypeId) : Obj := .cells #[.slice a n c, .slice b m c', .slice d q c''] t

theorem specFiles_b {F : Nat → Fl} {n : Nat} {x : Bool} (hx : filesB (lst F n) = x) (a : Option Addr) (c : Nat) (w : World) (h : Fls w a n F) (hS : byt (lst F n) ≤ 1048576) :
    Calls Try.prog 46 #[.slice a n c] w fun e w' => e = .returned (.bool x) ∧ Below w.heap.size w w' := by
  have := specFiles a n c F w h (by omega)
  rwa [hx] at this
theorem specForm_b {o : Dp} {x : Bool} (hx : formB o = x) (w : World) :
    Calls Try.prog 48 #[.agg #[.int .i64 o.kind, .string o.name, .string o.dst, .string o.data]] w fun e w' => e = .returned (.bool x) ∧ Below w.heap.size w w' := by
  have := specForm o w
  rwa [hx] at this

/-- What the ops have made so far, as a list in memory. -/
def NowS (w : World) (v : Value) (L : List Fl) (O : Nat → Dp) (k : Nat) : Prop :=
  ∃ va vn vc, ∃ V : Nat → Fl, v = .slice va vn vc ∧ Fls w va vn V ∧ runF L (lst O k) = some (lst V vn) ∧ filesB (lst V vn) = true

set_option maxHeartbeats 4000000 in
theorem specDisk_in (a b d : Option Addr) (n m q c c' c'' : Nat) (F G : Nat → Fl) (O : Nat → Dp) (w : World) (h : Dk w a n F b m G d q O) (h1 : filesB (lst F n) = true) (h2 : filesB (lst G m) = true) (h3 : q ≤ 200) :
    Calls Try.prog 15 #[.agg #[.slice a n c, .slice b m c', .slice d q c'']] w fun e w' => e = .returned (.bool (diskB (lst F n) (lst G m) (lst O q))) ∧ Below w.heap.size w w' := by
  have H : Hid (Dk w a n F b m G d q O) := h
  have H1 : Hid (filesB (lst F n) = true) := h1
  have H2 : Hid (filesB (lst G m) = true) := h2
  clear h h1 h2
  have hq : (q : Int) ≤ 200 := by omega
  have B0 : Hid (Below w.heap.size w (w.alloc (dkBox a n c b m c' d q c'' 27))) := (Below.refl _ _).alloc (Nat.le_refl _) _
  have HL : Hid (∀ W, Below w.heap.size w W → Calls Try.prog 46 #[.slice a n c] W fun e w' => e = .returned (.bool true) ∧ Below W.heap.size W w') := fun W hW => specFiles_b H1.out a c W (H.out.live.below hW) H.out.sl
  have HS : Hid (∀ W, Below w.heap.size w W → Calls Try.prog 46 #[.slice b m c'] W fun e w' => e = .returned (.bool true) ∧ Below W.heap.size W w') := fun W hW => specFiles_b H2.out b c' W (H.out.safe.below hW) H.out.ss
  go_enter Try.func15, Try.ntmps15
  go_wp2_with fail
  refine (HL.out _ B0.out).mono ?_
  rintro e w1 ⟨rfl, B1⟩
  have bx1 : ∀ j, w1.cell? ⟨w.heap.size, j, none⟩ = (w.alloc (dkBox a n c b m c' d q c'' 27)).cell? ⟨w.heap.size, j, none⟩ := fun j => B1.cell (p := ⟨w.heap.size, j, none⟩) (by simp)
  have x1 : w1.cell? ⟨w.heap.size, 1, none⟩ = some (.slice b m c') := by rw [bx1]; simp [go_sem]
  have B1' : Hid (Below w.heap.size w w1) := B0.out.trans (B1.mono B0.out.size)
  have hs1 : w.heap.size < w1.heap.size := Nat.lt_of_lt_of_le (by simp) B1.size
  clear B1
  go_wp2_with fail
  refine (HS.out _ B1'.out).mono ?_
  rintro e w2 ⟨rfl, B2⟩
  have bx2 : ∀ j, w2.cell? ⟨w.heap.size, j, none⟩ = (w.alloc (dkBox a n c b m c' d q c'' 27)).cell? ⟨w.heap.size, j, none⟩ := fun j => (B2.cell (p := ⟨w.heap.size, j, none⟩) hs1).trans (bx1 j)
  have B2' : Hid (Below w.heap.size w w2) := B1'.out.trans (B2.mono B1'.out.size)
  have y0 : w2.cell? ⟨w.heap.size, 0, none⟩ = some (.slice a n c) := by rw [bx2]; simp [go_sem]
  have y1 : w2.cell? ⟨w.heap.size, 1, none⟩ = some (.slice b m c') := by rw [bx2]; simp [go_sem]
  have y2 : w2.cell? ⟨w.heap.size, 2, none⟩ = some (.slice d q c'') := by rw [bx2]; simp [go_sem]
  have hs2 : w.heap.size < w2.heap.size := Nat.lt_of_lt_of_le hs1 B2.size
  clear B2 x1 bx1 bx2
  have N0 : Hid (NowS w2 (.slice b m c') (lst G m) O 0) := ⟨b, m, c', G, rfl, H.out.safe.below B2'.out, rfl, H2.out⟩
  go_wp2
  go_loopw [3, 4] (fun v i wr => ∃ k : Nat, k ≤ q ∧ i = .int .i64 k ∧ Hid (NowS wr v (lst G m) O k) ∧ Hid (Below w2.heap.size w2 wr)) (fun _ i _ => q - (intOf i).toNat)
  case atStart => exact ⟨0, Nat.zero_le _, rfl, N0, Below.refl _ _⟩
  case round =>
    obtain ⟨k, hk, rfl, hN, hB⟩ := hrel
    clear N0
    have z0 := (hB.out.cell (p := ⟨w.heap.size, 0, none⟩) hs2).trans y0
    have z2 := (hB.out.cell (p := ⟨w.heap.size, 2, none⟩) hs2).trans y2
    have BW : Hid (Below w.heap.size w wr) := B2'.out.trans (hB.out.mono B2'.out.size)
    clear y0 y1 y2
    obtain ⟨va, vn, vc, V, rfl, hV, hrun, hok⟩ := hN.out
    have HV : Hid (Fls wr va vn V) := hV
    have HRUN : Hid (runF (lst G m) (lst O k) = some (lst V vn)) := hrun
    have HOK : Hid (filesB (lst V vn) = true) := hok
    clear hV hrun hok hN
    by_cases hlt : k < q
    · obtain ⟨ob, oo, rfl, hob0, hA0⟩ := H.out.ops.acc hlt
      have hob : ob < wr.heap.size := Nat.lt_of_lt_of_le hob0 BW.out.size
      obtain ⟨c0, c1, c2, c3⟩ := hA0.of_cells (w' := wr) (fun q => BW.out.cell (p := ⟨ob, q, none⟩) hob0)
      have hbv : byt (lst V vn) ≤ 200000 := (filesB_iff.1 HOK.out).1.2
      have hbo : (O k).data.size ≤ 1048576 := H.out.so k hlt
      have HBV : Hid (byt (lst V vn) + (O k).data.size ≤ 1248576) := (by omega : byt (lst V vn) + (O k).data.size ≤ 1248576)
      clear hbv hbo
      go_wp2_with fail
      refine (specDo va vn vc V (O k) _ HV.out (filesB_iff.1 HOK.out).2.2 (by have := HBV.out; omega)).mono ?_
      rintro e w3 ⟨⟨v3, rfl, A3⟩, B3⟩
      have A3' : Hid (FlL w3 wr.heap.size v3 ((doF (lst V vn) (O k)).getD (lst V vn))) := A3
      have B3' : Hid (Below w2.heap.size w2 w3) := hB.out.trans (B3.mono hB.out.size)
      have z2' := (B3.cell (p := ⟨w.heap.size, 2, none⟩) (Nat.lt_of_lt_of_le hs2 hB.out.size)).trans z2
      obtain ⟨d0, d1, d2, d3⟩ := hA0.of_cells (w' := w3) (fun q => (B3.cell (p := ⟨ob, q, none⟩) hob).trans (BW.out.cell (p := ⟨ob, q, none⟩) hob0))
      clear A3 B3 c0 c1 c2 c3 z2
      have NO : ∀ {x : Bool}, stepF (lst V vn) (O k) = none → diskB (lst F n) (lst G m) (lst O q) = false := fun hs => disk_no_run (run_stop hlt HRUN.out hs)
      cases hdo : doF (lst V vn) (O k) with
      | none =>
        have E : Hid (diskB (lst F n) (lst G m) (lst O q) = false) := NO (x := true) (step_no_do hdo)
        simp only [Option.isSome_none]
        clear hdo NO
        go_wp2
        go_ret
        exact ⟨retB E.out, B2'.out.trans (B3'.out.mono B2'.out.size)⟩
      | some M =>
        have HDO : Hid (doF (lst V vn) (O k) = some M) := hdo
        have HBM : Hid (byt M ≤ 1048576 + 200000) := Nat.le_trans (doF_byt hdo) (by have := HBV.out; omega)
        have HLM : Hid (M.length ≤ 61) := Nat.le_trans (doF_len hdo) (Nat.succ_le_succ (filesB_iff.1 HOK.out).1.1)
        have AM : Hid (FlL w3 wr.heap.size v3 M) := (by have := A3'.out; rwa [hdo] at this : FlL w3 wr.heap.size v3 M)
        simp only [Option.isSome_some]
        clear hdo A3'
        cases hf : formB (O k)
        · have E : Hid (diskB (lst F n) (lst G m) (lst O q) = false) := NO (x := true) (step_no_form hf)
          have HF : Hid (formB (O k) = false) := hf
          clear hf NO
          go_wp2_with (go_at_call 48; refine (specForm_b HF.out _).mono ?_; rintro e w4 ⟨rfl, B4⟩)
          go_ret
          exact ⟨retB E.out, B2'.out.trans ((B3'.out.trans (B4.mono B3'.out.size)).mono B2'.out.size)⟩
        · have HF : Hid (formB (O k) = true) := hf
          obtain ⟨ma, mc, hv3, hlist⟩ : ∃ ma mc, v3 = .slice ma M.length mc ∧ ∀ W, Below w3.heap.size w3 W → Fls W ma M.length (FlF M) := by
            obtain ⟨x, y, hx, _, _⟩ := AM.out.shape
            subst hx
            exact ⟨x, y, rfl, fun W hW => (AM.out.list (by have := HLM.out; omega)).2.below hW⟩
          subst hv3
          have hl : lst (FlF M) M.length = M := lst_getD _ _
          have HLIST : Hid (∀ W, Below w3.heap.size w3 W → Fls W ma M.length (FlF M)) := hlist
          have HFI : Hid (∀ W, Below w3.heap.size w3 W → Calls Try.prog 46 #[.slice ma M.length mc] W fun e w' => e = .returned (.bool (fitsB M)) ∧ Below W.heap.size W w') := fun W hW => by
            have := specFiles ma M.length mc (FlF M) W (hlist W hW) (by rw [hl]; have := HBM.out; omega)
            rwa [hl, step_files HOK.out HF.out HDO.out] at this
          have HNX : Hid (∀ W, Below w3.heap.size w3 W → fitsB M = true → NowS W (.slice ma M.length mc) (lst G m) O (k + 1)) := fun W hW hfit => ⟨ma, M.length, mc, FlF M, rfl, hlist W hW, by rw [hl]; exact run_next HRUN.out (step_yes HDO.out HF.out hfit), by rw [hl, step_files HOK.out HF.out HDO.out]; exact hfit⟩
          clear hl hlist hf
          obtain ⟨ml, hml⟩ : ∃ ml, ml = M.length := ⟨_, rfl⟩
          rw [← hml] at HFI HNX
          rw [← hml]
          clear hml HLIST AM
          cases hfit : fitsB M
          · have E : Hid (diskB (lst F n) (lst G m) (lst O q) = false) := NO (x := true) (step_no_fits HDO.out hfit)
            have HFI' : Hid (∀ W, Below w3.heap.size w3 W → Calls Try.prog 46 #[.slice ma ml mc] W fun e w' => e = .returned (.bool false) ∧ Below W.heap.size W w') := (by rw [← hfit]; exact HFI.out : ∀ W, Below w3.heap.size w3 W → Calls Try.prog 46 #[.slice ma ml mc] W fun e w' => e = .returned (.bool false) ∧ Below W.heap.size W w')
            clear hfit NO HFI HNX
            go_wp2_with (first | (go_at_call 48; refine (specForm_b HF.out _).mono ?_; rintro e w4 ⟨rfl, B4⟩; have B4' : Hid (Below w3.heap.size w3 w4) := B4; clear B4) | (go_at_call 46; refine (HFI'.out _ B4'.out).mono ?_; rintro e w5 ⟨rfl, B5⟩))
            go_ret
            exact ⟨retB E.out, B2'.out.trans ((B3'.out.trans ((B4'.out.trans (B5.mono B4'.out.size)).mono B3'.out.size)).mono B2'.out.size)⟩
          · have HFI' : Hid (∀ W, Below w3.heap.size w3 W → Calls Try.prog 46 #[.slice ma ml mc] W fun e w' => e = .returned (.bool true) ∧ Below W.heap.size W w') := (by rw [← hfit]; exact HFI.out : ∀ W, Below w3.heap.size w3 W → Calls Try.prog 46 #[.slice ma ml mc] W fun e w' => e = .returned (.bool true) ∧ Below W.heap.size W w')
            have HNX' : Hid (∀ W, Below w3.heap.size w3 W → NowS W (.slice ma ml mc) (lst G m) O (k + 1)) := fun W hW => HNX.out W hW hfit
            clear hfit NO HFI HNX
            go_wp2_with (first | (go_at_call 48; refine (specForm_b HF.out _).mono ?_; rintro e w4 ⟨rfl, B4⟩; have B4' : Hid (Below w3.heap.size w3 w4) := B4; clear B4) | (go_at_call 46; refine (HFI'.out _ B4'.out).mono ?_; rintro e w5 ⟨rfl, B5⟩; have B5' : Hid (Below w3.heap.size w3 w5) := B4'.out.trans (B5.mono B4'.out.size); clear B5))
            go_roundw
            case rel => exact ⟨k + 1, by omega, by go_num, HNX'.out _ B5'.out, B3'.out.trans (B5'.out.mono B3'.out.size)⟩
            case measure => simp [intOf]; omega
    · obtain rfl : k = q := by omega
      have E : Hid (diskB (lst F n) (lst G m) (lst O k) = sameL V F vn n) := (by
        rw [disk_end H1.out H2.out (by rw [lst_len]; omega) HRUN.out]
        cases hs : sameL V F vn n
        · refine decide_eq_false fun e => ?_
          rw [sameL_iff.2 e] at hs
          cases hs
        · exact decide_eq_true (sameL_iff.1 hs) : diskB (lst F n) (lst G m) (lst O k) = sameL V F vn n)
      go_wp2_with (go_at_call 49; refine (specSame va a vn n vc c V F _ HV.out (H.out.live.below BW.out)).mono ?_; rintro e w3 ⟨rfl, B3⟩)
      go_ret
      exact ⟨retB E.out, BW.out.trans (B3.mono BW.out.size)⟩
end Go.Proofs.Ytcalgmhpagpnnaa
