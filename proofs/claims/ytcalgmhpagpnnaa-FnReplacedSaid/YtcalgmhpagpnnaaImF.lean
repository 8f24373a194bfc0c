/- doIn: an op is done in a folder. Conditions: at most 1048576 files, of at most 2^40 bytes with the op's. -/
import Derived.Test.YtcalgmhpagpnnaaImB
import Derived.Test.YtcalgmhpagpnnaaImC
import Derived.Test.YtcalgmhpagpnnaaImD
import Derived.Test.YtcalgmhpagpnnaaImE
import Derived.Test.YtcalgmhpagpnnaaDmK
namespace Go.Proofs.Ytcalgmhpagpnnaa
open Go.RowKit Go.Maps
set_option maxRecDepth 8000

/-- What doIn comes to. -/
def InAns (w' : World) (B b : Nat) (L : List Fl) (o : Dp) (r : Int) : Prop :=
  (r = 2 ∧ formB o = false) ∨ (r = 3 ∧ formB o = true ∧ doF L o = none) ∨ (r = 4 ∧ formB o = true ∧ ∃ M, doF L o = some M ∧ fitsB M = false) ∨ (r = 0 ∧ formB o = true ∧ ∃ M, doF L o = some M ∧ fitsB M = true ∧ ∃ T', Fd w' B b T' ∧ T'.map Ent.f = M)
def InOut (w : World) (B b : Nat) (L : List Fl) (o : Dp) (e : Ending) (w' : World) : Prop := ∃ r : Int, e = .returned (.int .i64 r) ∧ Below B w w' ∧ InAns w' B b L o r

theorem mf117 (v : Value) (w : World) : (Go.method 272 117 v "loop.example/g00362/impl.finds").run Try.prog w = .ok (133, v) w := by kernel_rfl
theorem md117 (v : Value) (w : World) : (Go.method 272 117 v "loop.example/g00362/impl.do").run Try.prog w = .ok (132, v) w := by kernel_rfl
theorem mf119 (v : Value) (w : World) : (Go.method 272 119 v "loop.example/g00362/impl.finds").run Try.prog w = .ok (135, v) w := by kernel_rfl
theorem md119 (v : Value) (w : World) : (Go.method 272 119 v "loop.example/g00362/impl.do").run Try.prog w = .ok (134, v) w := by kernel_rfl
theorem mf121 (v : Value) (w : World) : (Go.method 272 121 v "loop.example/g00362/impl.finds").run Try.prog w = .ok (138, v) w := by kernel_rfl
theorem md121 (v : Value) (w : World) : (Go.method 272 121 v "loop.example/g00362/impl.do").run Try.prog w = .ok (137, v) w := by kernel_rfl

set_option maxHeartbeats 2000000 in
theorem doInG (Tt Mf Md : Nat) (dv : Value) (B b : Nat) (T : List Ent) (o : Dp) (w : World) (h : Fd w B b T) (hB : B ≤ w.heap.size) (hf : formB o = true) (hS : byt (T.map Ent.f) + o.data.size ≤ 1099511627776)
    (hop : ∀ W, Calls Try.prog 52 #[.agg #[.int .i64 o.kind, .string o.name, .string o.dst, .string o.data]] W fun e w' => e = .returned (.tuple #[.iface Tt dv, .bool true]) ∧ Below W.heap.size W w')
    (hmf : ∀ W, (Go.method 272 Tt dv "loop.example/g00362/impl.finds").run Try.prog W = .ok (Mf, dv) W)
    (hmd : ∀ W, (Go.method 272 Tt dv "loop.example/g00362/impl.do").run Try.prog W = .ok (Md, dv) W)
    (enf : ∀ args W, (callFunc Mf args).run Try.prog W = .ok (.enter Mf args) W)
    (end_ : ∀ args W, (callFunc Md args).run Try.prog W = .ok (.enter Md args) W)
    (hfind : ∀ W, Fd W B b T → Calls Try.prog Mf #[dv, .map (some b)] W fun e w' => e = .returned (.bool (doF (T.map Ent.f) o).isSome) ∧ Below W.heap.size W w')
    (hdo : ∀ W M, Fd W B b T → B ≤ W.heap.size → doF (T.map Ent.f) o = some M → Calls Try.prog Md #[dv, .map (some b)] W fun e w' => DoFd W B b M e w') :
    Calls Try.prog 43 #[.map (some b), .agg #[.int .i64 o.kind, .string o.name, .string o.dst, .string o.data]] w fun e w' => InOut w B b (T.map Ent.f) o e w' := by
  have H : Hid (Fd w B b T) := h
  have HF : Hid (formB o = true) := hf
  have HS : Hid (byt (T.map Ent.f) + o.data.size ≤ 1099511627776) := hS
  have HOP : Hid (∀ W, Calls Try.prog 52 #[.agg #[.int .i64 o.kind, .string o.name, .string o.dst, .string o.data]] W fun e w' => e = .returned (.tuple #[.iface Tt dv, .bool true]) ∧ Below W.heap.size W w') := hop
  have HFI : Hid (∀ W, Fd W B b T → Calls Try.prog Mf #[dv, .map (some b)] W fun e w' => e = .returned (.bool (doF (T.map Ent.f) o).isSome) ∧ Below W.heap.size W w') := hfind
  have HDO : Hid (∀ W M, Fd W B b T → B ≤ W.heap.size → doF (T.map Ent.f) o = some M → Calls Try.prog Md #[dv, .map (some b)] W fun e w' => DoFd W B b M e w') := hdo
  have B0 : Hid (Below w.heap.size w (w.alloc (.cells #[.int .i64 o.kind, .string o.name, .string o.dst, .string o.data] 36))) := (Below.refl _ _).alloc (Nat.le_refl _) _
  clear h hf hS hop hfind hdo
  go_enter Try.func43, Try.ntmps43
  go_wp2_with fail
  refine (HOP.out _).mono ?_
  rintro e w1 ⟨rfl, B1⟩
  have B1' : Hid (Below w.heap.size w w1) := B0.out.trans (B1.mono B0.out.size)
  clear B1 B0
  go_wp2_with fail
  refine (HFI.out _ (H.out.below B1'.out (Nat.le_refl _))).mono ?_
  rintro e w2 ⟨rfl, B2⟩
  have B2' : Hid (Below w.heap.size w w2) := B1'.out.trans (B2.mono B1'.out.size)
  clear B2 B1'
  cases hd : doF (T.map Ent.f) o with
  | none =>
    have HN : Hid (doF (T.map Ent.f) o = none) := hd
    simp only [Option.isSome_none]
    clear hd
    go_wp2
    go_ret
    exact ⟨3, rfl, B2'.out.mono hB, Or.inr (Or.inl ⟨rfl, HF.out, HN.out⟩)⟩
  | some M =>
    have HM : Hid (doF (T.map Ent.f) o = some M) := hd
    simp only [Option.isSome_some]
    clear hd
    go_wp2_with fail
    refine (HDO.out _ M (H.out.below B2'.out (Nat.le_refl _)) (Nat.le_trans hB B2'.out.size) HM.out).mono ?_
    rintro e w3 ⟨rfl, ⟨T', F3, hT'⟩, B3⟩
    have F3' : Hid (Fd w3 B b T') := F3
    have HT' : Hid (T'.map Ent.f = M) := hT'
    have B3' : Hid (Below B w w3) := (B2'.out.mono hB).trans B3
    have HBM : Hid (byt (T'.map Ent.f) ≤ 1099511627776) := (by rw [hT']; exact Nat.le_trans (doF_byt HM.out) HS.out : byt (T'.map Ent.f) ≤ 1099511627776)
    clear F3 hT' B3
    go_wp2_with fail
    refine (implFits B b T' _ F3'.out HBM.out).mono ?_
    rintro e w4 ⟨rfl, B4⟩
    have F4 : Hid (Fd w4 B b T') := F3'.out.below B4 (Nat.le_refl _)
    have B4' : Hid (Below B w w4) := B3'.out.trans (B4.mono (Nat.le_trans hB B3'.out.size))
    clear B4 F3' B3'
    rw [HT'.out]
    cases hfit : fitsB M
    · have HFT : Hid (fitsB M = false) := hfit
      clear hfit
      go_wp2
      go_ret
      exact ⟨4, rfl, B4'.out, Or.inr (Or.inr (Or.inl ⟨rfl, HF.out, M, HM.out, HFT.out⟩))⟩
    · have HFT : Hid (fitsB M = true) := hfit
      clear hfit
      go_wp2
      go_ret
      exact ⟨0, rfl, B4'.out, Or.inr (Or.inr (Or.inr ⟨rfl, HF.out, M, HM.out, HFT.out, T', F4.out, HT'.out⟩))⟩

set_option maxHeartbeats 1000000 in
theorem doIn_no (d : Value) (B b : Nat) (T : List Ent) (o : Dp) (w : World) (hB : B ≤ w.heap.size) (hf : formB o = false)
    (hop : ∀ W, Calls Try.prog 52 #[.agg #[.int .i64 o.kind, .string o.name, .string o.dst, .string o.data]] W fun e w' => e = .returned (.tuple #[d, .bool false]) ∧ Below W.heap.size W w') :
    Calls Try.prog 43 #[.map (some b), .agg #[.int .i64 o.kind, .string o.name, .string o.dst, .string o.data]] w fun e w' => InOut w B b (T.map Ent.f) o e w' := by
  have HF : Hid (formB o = false) := hf
  have HOP : Hid (∀ W, Calls Try.prog 52 #[.agg #[.int .i64 o.kind, .string o.name, .string o.dst, .string o.data]] W fun e w' => e = .returned (.tuple #[d, .bool false]) ∧ Below W.heap.size W w') := hop
  have B0 : Hid (Below w.heap.size w (w.alloc (.cells #[.int .i64 o.kind, .string o.name, .string o.dst, .string o.data] 36))) := (Below.refl _ _).alloc (Nat.le_refl _) _
  clear hf hop
  go_enter Try.func43, Try.ntmps43
  go_wp2_with fail
  refine (HOP.out _).mono ?_
  rintro e w1 ⟨rfl, B1⟩
  have B1' : Hid (Below w.heap.size w w1) := B0.out.trans (B1.mono B0.out.size)
  clear B1 B0
  go_wp2
  go_ret
  exact ⟨2, rfl, B1'.out.mono hB, Or.inl ⟨rfl, HF.out⟩⟩

theorem nm_le {s : ByteArray} (h : nmOk s = true) : s.size ≤ maxLen := by
  have : 1 ≤ s.size ∧ s.size ≤ 100 := by simpa [nmOk] using h
  unfold maxLen
  omega
theorem byt_ent {T : List Ent} {t : Ent} (h : t ∈ T) : t.data.size ≤ byt (T.map Ent.f) := by
  unfold byt
  induction T with
  | nil => cases h
  | cons g r ih =>
    simp only [List.map_cons, List.sum_cons]
    rcases List.mem_cons.1 h with e | h
    · subst e; exact Nat.le_add_right _ _
    · have := ih h; omega

theorem implIn (B b : Nat) (T : List Ent) (o : Dp) (w : World) (h : Fd w B b T) (hB : B ≤ w.heap.size) (hT : T.length ≤ 1048576) (hS : byt (T.map Ent.f) + o.data.size ≤ 1099511627776) :
    Calls Try.prog 43 #[.map (some b), .agg #[.int .i64 o.kind, .string o.name, .string o.dst, .string o.data]] w fun e w' => InOut w B b (T.map Ent.f) o e w' := by
  have hTm : T.length < maxLen := by unfold maxLen; omega
  cases hn : nmOk o.name
  · exact doIn_no .nilIface B b T o w hB (by simp [formB, hn]) (fun W => fop_n o.kind o.name o.dst o.data W hn)
  by_cases h1 : o.kind = 1
  · cases hs : empB o.dst
    · exact doIn_no _ B b T o w hB (by simp [formB, hn, h1, hs]) (fun W => by rw [h1]; exact fop_1n o.name o.dst o.data W hn hs)
    · have hf : formB o = true := by simp [formB, hn, h1, hs]
      have hd : doF (T.map Ent.f) o = some (putN Fl.name ⟨o.name, (((getN Fl.name o.name (T.map Ent.f)).map Fl.data).getD ByteArray.empty) ++ o.data⟩ (T.map Ent.f)) := by simp [doF, h1]
      refine doInG 117 133 132 (.agg #[.string o.name, .string o.data]) B b T o w h hB hf hS (fun W => by rw [h1]; exact fop_1y o.name o.dst o.data W hn hs) (mf117 _) (md117 _) (enters_of Try.func133 (by kernel_rfl) rfl) (enters_of Try.func132 (by kernel_rfl) rfl) (fun W _ => by rw [hd]; exact find1 _ _ b W) (fun W M hF hBW hM => ?_)
      rw [hd] at hM
      cases hM
      exact do1 o.name o.data B b T W hF hBW (nm_le hn) hTm (fun t ht => by have := byt_ent ht; omega) (by omega)
  by_cases h2 : o.kind = 2
  · cases hs : nmOk o.dst
    · exact doIn_no _ B b T o w hB (by simp [formB, h2, hs]) (fun W => by rw [h2]; exact fop_2m o.name o.dst o.data W hn hs)
    · cases he : empB o.data
      · exact doIn_no _ B b T o w hB (by simp [formB, h2, he]) (fun W => by rw [h2]; exact fop_2n o.name o.dst o.data W hn hs he)
      · have hf : formB o = true := by simp [formB, hn, h2, hs, he]
        have hsome : (doF (T.map Ent.f) o).isSome = (getN Ent.name o.name T).isSome := by
          unfold doF
          rw [if_neg h1, fl_get]
          cases getN Ent.name o.name T <;> simp [h2]
        refine doInG 119 135 134 (.agg #[.string o.name, .string o.dst]) B b T o w h hB hf hS (fun W => by rw [h2]; exact fop_2y o.name o.dst o.data W hn hs he) (mf119 _) (md119 _) (enters_of Try.func135 (by kernel_rfl) rfl) (enters_of Try.func134 (by kernel_rfl) rfl) (fun W hF => by rw [hsome]; exact find2 _ _ B b T W hF (nm_le hn)) (fun W M hF hBW hM => ?_)
        unfold doF at hM
        rw [if_neg h1, fl_get] at hM
        cases hg : getN Ent.name o.name T with
        | none => rw [hg] at hM; cases hM
        | some t =>
          rw [hg] at hM
          simp only [Option.map_some, if_pos h2] at hM
          cases hM
          exact do2 o.name o.dst B b T t W hF hBW (nm_le hn) (nm_le hs) hTm hg
  by_cases h3 : o.kind = 3
  · cases hs : empB o.dst
    · exact doIn_no _ B b T o w hB (by simp [formB, h3, hs]) (fun W => by rw [h3]; exact fop_3m o.name o.dst o.data W hn hs)
    · cases he : empB o.data
      · exact doIn_no _ B b T o w hB (by simp [formB, h3, he]) (fun W => by rw [h3]; exact fop_3n o.name o.dst o.data W hn hs he)
      · have hf : formB o = true := by simp [formB, hn, h3, hs, he]
        have hsome : (doF (T.map Ent.f) o).isSome = (getN Ent.name o.name T).isSome := by
          unfold doF
          rw [if_neg h1, fl_get]
          cases getN Ent.name o.name T <;> simp [h2]
        refine doInG 121 138 137 (.agg #[.string o.name]) B b T o w h hB hf hS (fun W => by rw [h3]; exact fop_3y o.name o.dst o.data W hn hs he) (mf121 _) (md121 _) (enters_of Try.func138 (by kernel_rfl) rfl) (enters_of Try.func137 (by kernel_rfl) rfl) (fun W hF => by rw [hsome]; exact find3 _ B b T W hF (nm_le hn)) (fun W M hF hBW hM => ?_)
        unfold doF at hM
        rw [if_neg h1, fl_get] at hM
        cases hg : getN Ent.name o.name T with
        | none => rw [hg] at hM; cases hM
        | some t =>
          rw [hg] at hM
          simp only [Option.map_some, if_neg h2] at hM
          cases hM
          exact do3 o.name B b T W hF hBW (nm_le hn)
  · exact doIn_no .nilIface B b T o w hB (by simp [formB, h1, h2, h3]) (fun W => fop_x o.kind o.name o.dst o.data W h1 h2 h3 hn)
end Go.Proofs.Ytcalgmhpagpnnaa
