/- What Crash wants: the places that are kept. Conditions: at most 1048576 of them. -/
import Derived.Test.YtcalgmhpagpnnaaDoI
namespace Go.Proofs.Ytcalgmhpagpnnaa
open Go.RowKit
set_option maxRecDepth 8000

/-- Whole numbers in memory. -/
def Ints (w : World) (a : Option Addr) (n : Nat) (K : Nat → Int) : Prop :=
  n ≤ 1048576 ∧ (n = 0 ∨ ∃ b o, a = some ⟨b, o, none⟩ ∧ b < w.heap.size ∧ ∀ i, i < n → w.cell? ⟨b, o + i, none⟩ = some (.int .i64 (K i)))
theorem Ints.acc {w : World} {a : Option Addr} {n : Nat} {K : Nat → Int} (h : Ints w a n K) {i : Nat} (hi : i < n) : ∃ b o, a = some ⟨b, o, none⟩ ∧ b < w.heap.size ∧ w.cell? ⟨b, o + i, none⟩ = some (.int .i64 (K i)) := by
  rcases h.2 with h0 | ⟨b, o, ha, hlt, hall⟩
  · omega
  · exact ⟨b, o, ha, hlt, hall i hi⟩
theorem Ints.below {w w' : World} {a : Option Addr} {n : Nat} {K : Nat → Int} (h : Ints w a n K) (hb : Below w.heap.size w w') : Ints w' a n K := by
  refine ⟨h.1, ?_⟩
  rcases h.2 with h0 | ⟨b, o, ha, hlt, hall⟩
  · exact Or.inl h0
  · exact Or.inr ⟨b, o, ha, Nat.lt_of_lt_of_le hlt hb.size, fun i hi => (hb.cell (p := ⟨b, o + i, none⟩) hlt).trans (hall i hi)⟩
/-- Place i is good: within the ops, behind the one before it. -/
def KpAt (N : Nat) (K : Nat → Int) (i : Nat) : Prop := 0 ≤ K i ∧ K i < (N : Int) ∧ (0 < i → K (i - 1) < K i)
instance (N : Nat) (K : Nat → Int) (i : Nat) : Decidable (KpAt N K i) := by unfold KpAt; infer_instance
def kpB (N : Nat) (K : Nat → Int) (n : Nat) : Bool := (List.range n).all fun i => decide (KpAt N K i)
theorem kpB_yes {N : Nat} {K : Nat → Int} {n : Nat} : kpB N K n = true ↔ ∀ i, i < n → KpAt N K i := by simp [kpB]
theorem kpB_no {N : Nat} {K : Nat → Int} {n i : Nat} (hi : i < n) (h : ¬ KpAt N K i) : kpB N K n = false := by
  cases hb : kpB N K n
  · rfl
  · exact absurd (kpB_yes.1 hb i hi) h

set_option maxHeartbeats 2000000 in
theorem implKeep (a : Option Addr) (n c : Nat) (K : Nat → Int) (N : Nat) (w : World) (h : Ints w a n K) :
    Calls Try.prog 50 #[.slice a n c, .int .i64 N] w fun e w' => e = .returned (.bool (kpB N K n)) ∧ Below w.heap.size w w' := by
  have H : Hid (Ints w a n K) := h
  have hn := h.1
  clear h
  go_enter Try.func50, Try.ntmps50
  go_wp2
  go_loopw [9] (fun i wr => ∃ k : Nat, k ≤ n ∧ i = .int .i64 k ∧ Hid (∀ j, j < k → KpAt N K j) ∧ Hid (Below w.heap.size w wr)) (fun i _ => n - (intOf i).toNat)
  case atStart => exact ⟨0, Nat.zero_le _, rfl, fun j hj => absurd hj (Nat.not_lt_zero _), Below.refl _ _⟩
  case round =>
    obtain ⟨k, hk, rfl, hok, hB⟩ := hrel
    by_cases hlt : k < n
    · obtain ⟨b, o, rfl, hb0, hA0⟩ := H.out.acc hlt
      have hb : b < wr.heap.size := Nat.lt_of_lt_of_le hb0 hB.out.size
      have c0 : wr.cell? ⟨b, o + k, none⟩ = some (.int .i64 (K k)) := (hB.out.cell (p := ⟨b, o + k, none⟩) hb0).trans hA0
      clear hA0
      by_cases h1 : K k < 0
      · have NR : Hid (kpB N K n = false) := kpB_no hlt (fun e => by have := e.1; omega)
        go_wp2
        go_ret
        exact ⟨retB NR.out, hB.out⟩
      have h1' : decide (K k < 0) = false := decide_eq_false h1
      by_cases h2 : (N : Int) ≤ K k
      · have NR : Hid (kpB N K n = false) := kpB_no hlt (fun e => by have := e.2.1; omega)
        clear h1
        go_wp2
        go_ret
        exact ⟨retB NR.out, hB.out⟩
      have h2' : decide ((N : Int) ≤ K k) = false := decide_eq_false h2
      by_cases hk0 : 0 < k
      · obtain ⟨b', o', e', hb0', hA0'⟩ := H.out.acc (show k - 1 < n by omega)
        obtain ⟨rfl, rfl⟩ : b = b' ∧ o = o' := by simpa using e'
        have d0 : wr.cell? ⟨b, o + (k - 1), none⟩ = some (.int .i64 (K (k - 1))) := (hB.out.cell (p := ⟨b, o + (k - 1), none⟩) hb0).trans hA0'
        clear e' hA0' hb0'
        have g0 : (0 : Int) < (k : Int) := by omega
        by_cases h3 : K k ≤ K (k - 1)
        · have NR : Hid (kpB N K n = false) := kpB_no hlt (fun e => by have := e.2.2 hk0; omega)
          clear h1 h2
          go_wp2
          go_ret
          exact ⟨retB NR.out, hB.out⟩
        · have h3' : decide (K k ≤ K (k - 1)) = false := decide_eq_false h3
          have HK : Hid (∀ j, j < k + 1 → KpAt N K j) := fun j hj => by
            by_cases e : j = k
            · subst e; exact ⟨by omega, by omega, fun _ => by omega⟩
            · exact hok.out j (by omega)
          clear h1 h2 h3
          go_wp2
          go_roundw
          case rel => exact ⟨k + 1, by omega, by go_num, HK, hB⟩
          case measure => simp [intOf]; omega
      · have HK : Hid (∀ j, j < k + 1 → KpAt N K j) := fun j hj => by
          by_cases e : j = k
          · subst e; exact ⟨by omega, by omega, fun h => absurd h hk0⟩
          · exact hok.out j (by omega)
        have g0 : decide (0 < k) = false := decide_eq_false (by omega)
        have hk1 : k ≤ 0 := by omega
        clear h1 h2 hk0
        go_wp2
        go_roundw
        case rel => exact ⟨k + 1, by omega, by go_num, HK, hB⟩
        case measure => simp [intOf]; omega
    · obtain rfl : k = n := by omega
      have E : Hid (kpB N K k = true) := kpB_yes.2 hok.out
      go_wp2
      go_ret
      exact ⟨retB E.out, hB.out⟩
end Go.Proofs.Ytcalgmhpagpnnaa

/- An op that is well formed, as what the program does with it; a torn op. No conditions. -/
namespace Go.Proofs.Ytcalgmhpagpnnaa
open Go.RowKit
set_option maxRecDepth 8000

/-- What fileOpOf makes of a well formed op, and what its methods do with a folder. -/
structure OpPk (o : Dp) (B b : Nat) (T : List Ent) (Tt Mf Md : Nat) (dv : Value) : Prop where
  op : ∀ W, Calls Try.prog 52 #[.agg #[.int .i64 o.kind, .string o.name, .string o.dst, .string o.data]] W fun e w' => e = .returned (.tuple #[.iface Tt dv, .bool true]) ∧ Below W.heap.size W w'
  mf : ∀ W, (Go.method 272 Tt dv "loop.example/g00362/impl.finds").run Try.prog W = .ok (Mf, dv) W
  md : ∀ W, (Go.method 272 Tt dv "loop.example/g00362/impl.do").run Try.prog W = .ok (Md, dv) W
  enf : ∀ args W, (callFunc Mf args).run Try.prog W = .ok (.enter Mf args) W
  end_ : ∀ args W, (callFunc Md args).run Try.prog W = .ok (.enter Md args) W
  find : ∀ W, Fd W B b T → Calls Try.prog Mf #[dv, .map (some b)] W fun e w' => e = .returned (.bool (doF (T.map Ent.f) o).isSome) ∧ Below W.heap.size W w'
  do_ : ∀ W M, Fd W B b T → B ≤ W.heap.size → doF (T.map Ent.f) o = some M → Calls Try.prog Md #[dv, .map (some b)] W fun e w' => DoFd W B b M e w'
theorem opPack (B b : Nat) (T : List Ent) (o : Dp) (hf : formB o = true) (hT : T.length ≤ 1048576) (hS : byt (T.map Ent.f) + o.data.size ≤ 1099511627776) : ∃ Tt Mf Md dv, OpPk o B b T Tt Mf Md dv := by
  have hTm : T.length < maxLen := by unfold maxLen; omega
  have hn : nmOk o.name = true := formB_name hf
  by_cases h1 : o.kind = 1
  · have hs : empB o.dst = true := by
      cases hs : empB o.dst
      · simp [formB, hn, h1, hs] at hf
      · rfl
    have hd : doF (T.map Ent.f) o = some (putN Fl.name ⟨o.name, (((getN Fl.name o.name (T.map Ent.f)).map Fl.data).getD ByteArray.empty) ++ o.data⟩ (T.map Ent.f)) := by simp [doF, h1]
    refine ⟨117, 133, 132, .agg #[.string o.name, .string o.data], ⟨fun W => by rw [h1]; exact fop_1y o.name o.dst o.data W hn hs, mf117 _, md117 _, enters_of Try.func133 (by kernel_rfl) rfl, enters_of Try.func132 (by kernel_rfl) rfl, fun W _ => by rw [hd]; exact find1 _ _ b W, fun W M hF hBW hM => ?_⟩⟩
    rw [hd] at hM
    cases hM
    exact do1 o.name o.data B b T W hF hBW (nm_le hn) hTm (fun t ht => by have := byt_ent ht; omega) (by omega)
  by_cases h2 : o.kind = 2
  · have hs : nmOk o.dst = true := formB_dst hf h2
    have he : empB o.data = true := by
      cases he : empB o.data
      · simp [formB, h2, he] at hf
      · rfl
    have hsome : (doF (T.map Ent.f) o).isSome = (getN Ent.name o.name T).isSome := by
      unfold doF
      rw [if_neg h1, fl_get]
      cases getN Ent.name o.name T <;> simp [h2]
    refine ⟨119, 135, 134, .agg #[.string o.name, .string o.dst], ⟨fun W => by rw [h2]; exact fop_2y o.name o.dst o.data W hn hs he, mf119 _, md119 _, enters_of Try.func135 (by kernel_rfl) rfl, enters_of Try.func134 (by kernel_rfl) rfl, fun W hF => by rw [hsome]; exact find2 _ _ B b T W hF (nm_le hn), fun W M hF hBW hM => ?_⟩⟩
    unfold doF at hM
    rw [if_neg h1, fl_get] at hM
    cases hg : getN Ent.name o.name T with
    | none => rw [hg] at hM; cases hM
    | some t =>
      rw [hg] at hM
      simp only [Option.map_some, if_pos h2] at hM
      cases hM
      exact do2 o.name o.dst B b T t W hF hBW (nm_le hn) (nm_le hs) hTm hg
  have h3 : o.kind = 3 := by
    cases Classical.em (o.kind = 3) with
    | inl h => exact h
    | inr h => simp [formB, h1, h2, h] at hf
  have hs : empB o.dst = true := by
    cases hs : empB o.dst
    · simp [formB, h3, hs] at hf
    · rfl
  have he : empB o.data = true := by
    cases he : empB o.data
    · simp [formB, h3, he] at hf
    · rfl
  have hsome : (doF (T.map Ent.f) o).isSome = (getN Ent.name o.name T).isSome := by
    unfold doF
    rw [if_neg h1, fl_get]
    cases getN Ent.name o.name T <;> simp [h2]
  refine ⟨121, 138, 137, .agg #[.string o.name], ⟨fun W => by rw [h3]; exact fop_3y o.name o.dst o.data W hn hs he, mf121 _, md121 _, enters_of Try.func138 (by kernel_rfl) rfl, enters_of Try.func137 (by kernel_rfl) rfl, fun W hF => by rw [hsome]; exact find3 _ B b T W hF (nm_le hn), fun W M hF hBW hM => ?_⟩⟩
  unfold doF at hM
  rw [if_neg h1, fl_get] at hM
  cases hg : getN Ent.name o.name T with
  | none => rw [hg] at hM; cases hM
  | some t =>
    rw [hg] at hM
    simp only [Option.map_some, if_neg h2] at hM
    cases hM
    exact do3 o.name B b T W hF hBW (nm_le hn)

/-- An op that was broken off behind t bytes. -/
def tornD (o : Dp) (t : Int) : Dp := { o with data := o.data.extract 0 (min t (o.data.size : Int)).toNat }
set_option maxHeartbeats 1000000 in
theorem implTorn (o : Dp) (t : Int) (w : World) (ht : 0 ≤ t) (hs : o.data.size ≤ 1048576) :
    Calls Try.prog 51 #[.agg #[.int .i64 o.kind, .string o.name, .string o.dst, .string o.data], .int .i64 t] w fun e w' => e = .returned (.agg #[.int .i64 (tornD o t).kind, .string (tornD o t).name, .string (tornD o t).dst, .string (tornD o t).data]) ∧ Below w.heap.size w w' := by
  go_enter Try.func51, Try.ntmps51
  go_wp2
  exact bodyPost_ret (v := .agg #[.int .i64 (tornD o t).kind, .string (tornD o t).name, .string (tornD o t).dst, .string (tornD o t).data]) (by simp [results, Try.results51, go_sem, tornD]) rfl ⟨rfl, ((Below.refl _ _).alloc (Nat.le_refl _) _).alloc (by simp) _⟩

/-! The mathematics of a crash. -/
theorem torn_size (o : Dp) (t : Int) : (tornD o t).data.size ≤ o.data.size := by
  simp [tornD]
  omega
theorem form_torn {o : Dp} (t : Int) (h : formB o = true) : formB (tornD o t) = true := by
  have e : ∀ d : ByteArray, empB d = true → empB (d.extract 0 (min t (d.size : Int)).toNat) = true := fun d hd => by
    have : d = ByteArray.empty := by simpa [empB] using hd
    subst this
    simp [empB]
  cases he : empB o.data with
  | true => 
    have := e _ he
    simp only [formB, tornD] at h ⊢
    rw [this]
    rw [he] at h
    exact h
  | false =>
    simp only [formB, tornD] at h ⊢
    rw [he] at h
    revert h
    by_cases h1 : o.kind = 1
    · simp [h1]
    · simp [h1]
def crOp (O : Nat → Dp) (K : Nat → Int) (n : Nat) (t : Int) (k : Nat) : Dp := if k + 1 = n then tornD (O (K k).toNat) t else O (K k).toNat
def crF (O : Nat → Dp) (K : Nat → Int) (n : Nat) (t : Int) (Sf : List Fl) : Nat → List Fl
  | 0 => Sf
  | k + 1 => (doF (crF O K n t Sf k) (crOp O K n t k)).getD (crF O K n t Sf k)
end Go.Proofs.Ytcalgmhpagpnnaa

/- The mathematics of a crash: bounds. No conditions. -/
namespace Go.Proofs.Ytcalgmhpagpnnaa
open Go.RowKit
set_option maxRecDepth 8000
theorem run_forms : ∀ (Os : List Dp) (L M : List Fl), runF L Os = some M → ∀ o ∈ Os, formB o = true
  | [], _, _, _ => fun o ho => by cases ho
  | x :: r, L, M, h => fun o ho => by
    unfold runF at h
    cases hs : stepF L x with
    | none => rw [hs] at h; cases h
    | some K =>
      rw [hs] at h
      rcases List.mem_cons.1 ho with e | e
      · subst e
        unfold stepF at hs
        split at hs
        · rename_i hf; exact hf
        · cases hs
      · exact run_forms r K M h o e
structure CrOk (L : List Fl) (k : Nat) : Prop where
  ris : Ris Fl.name L
  names : ∀ f ∈ L, nmOk f.name = true
  byt : byt L ≤ 200000 + k * 1048576
  len : L.length ≤ 60 + k
theorem crF_ok {O : Nat → Dp} {K : Nat → Int} {n : Nat} {t : Int} {Sf : List Fl} (hS : filesB Sf = true) (hf : ∀ k, k < n → formB (crOp O K n t k) = true) (hd : ∀ k, k < n → (crOp O K n t k).data.size ≤ 1048576) : ∀ k, k ≤ n → CrOk (crF O K n t Sf k) k
  | 0, _ => by
    obtain ⟨⟨h1, h2⟩, h3, h4⟩ := filesB_iff.1 hS
    exact ⟨h4, h3, by show byt Sf ≤ _; omega, by show Sf.length ≤ _; omega⟩
  | k + 1, hk => by
    have ih := crF_ok hS hf hd k (by omega)
    unfold crF
    cases h : doF (crF O K n t Sf k) (crOp O K n t k) with
    | none =>
      rw [Option.getD_none]
      exact ⟨ih.ris, ih.names, Nat.le_trans ih.byt (Nat.add_le_add_left (Nat.mul_le_mul_right _ (Nat.le_succ k)) _), Nat.le_trans ih.len (Nat.add_le_add_left (Nat.le_succ k) _)⟩
    | some M =>
      have e1 := ih.byt
      have e2 := ih.len
      have e3 := doF_byt h
      have e4 := doF_len h
      have e5 := hd k (by omega)
      rw [Option.getD_some]
      exact ⟨doF_ris h ih.ris, doF_names h (hf k (by omega)) ih.names, by omega, by omega⟩
theorem kp_ge {N : Nat} {K : Nat → Int} {n : Nat} (h : ∀ i, i < n → KpAt N K i) : ∀ i, i < n → (i : Int) ≤ K i
  | 0, hi => (h 0 hi).1
  | i + 1, hi => by
    have e1 := kp_ge h i (by omega)
    have e2 := (h (i + 1) hi).2.2 (by omega)
    simp only [Nat.add_sub_cancel] at e2
    omega
theorem kp_len {N : Nat} {K : Nat → Int} {n : Nat} (h : ∀ i, i < n → KpAt N K i) : n ≤ N := by
  cases n with
  | zero => omega
  | succ i =>
    have e1 := kp_ge h i (by omega)
    have e2 := (h i (by omega)).2.1
    omega
/-- The whole of a crash. -/
def crV (Lv Sf : List Fl) (Os : List Dp) (K : Nat → Int) (n : Nat) (t : Int) : Bool := diskB Lv Sf Os && kpB Os.length K n && decide (0 ≤ t)
theorem crOps {Lv Sf : List Fl} {O : Nat → Dp} {r : Nat} {K : Nat → Int} {n : Nat} (t : Int) (hx : diskB Lv Sf (lst O r) = true) (hk : ∀ i, i < n → KpAt r K i) (hs : ∀ i, i < r → (O i).data.size ≤ 1048576) :
    (∀ k, k < n → formB (crOp O K n t k) = true) ∧ (∀ k, k < n → (crOp O K n t k).data.size ≤ 1048576) := by
  simp only [diskB, Bool.and_eq_true, decide_eq_true_eq] at hx
  have hf : ∀ k, k < n → formB (O (K k).toNat) = true := fun k hn => run_forms _ _ _ hx.2 _ (lst_mem.2 ⟨_, by have := hk k hn; have h1 := this.1; have h2 := this.2.1; omega, rfl⟩)
  have hd : ∀ k, k < n → (O (K k).toNat).data.size ≤ 1048576 := fun k hn => hs _ (by have := hk k hn; have h1 := this.1; have h2 := this.2.1; omega)
  refine ⟨fun k hn => ?_, fun k hn => ?_⟩
  · unfold crOp
    split
    · exact form_torn t (hf k hn)
    · exact hf k hn
  · unfold crOp
    split
    · exact Nat.le_trans (torn_size _ t) (hd k hn)
    · exact hd k hn
end Go.Proofs.Ytcalgmhpagpnnaa
