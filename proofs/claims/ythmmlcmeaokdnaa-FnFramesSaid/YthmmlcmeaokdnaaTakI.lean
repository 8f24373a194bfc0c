/- The frames of a string, step by step; the program's TakeFrames goes these steps. Conditions: the string has at most 1048576 bytes. -/
import Derived.Test.YthmmlcmeaokdnaaTak
import Derived.OwnWalk
import Derived.Laws.NewBlocks
namespace Go.Proofs.Ythmmlcmeaokdnaa
open Go.RowKit

def tailB (s : ByteArray) (a : Nat) : ByteArray := s.extract a s.size
theorem tailB_size (s : ByteArray) (a : Nat) : (tailB s a).size = s.size - a := by unfold tailB; rw [ByteArray.size_extract]; omega
theorem dataB_size {t : ByteArray} (h : 8 + sizeN t ≤ t.size) : (dataB t).size = sizeN t := by unfold dataB; rw [ByteArray.size_extract]; omega
open Classical in
/-- The first steps: the frames, how far they reach. -/
noncomputable def stF (s : ByteArray) : Nat → List ByteArray × Nat
  | 0 => ([], 0)
  | j + 1 => if Fine (tailB s (stF s j).2) then ((stF s j).1 ++ [dataB (tailB s (stF s j).2)], (stF s j).2 + (8 + sizeN (tailB s (stF s j).2))) else stF s j
theorem stF_yes {s : ByteArray} {j a : Nat} {L : List ByteArray} (h : stF s j = (L, a)) (hf : Fine (tailB s a)) : stF s (j + 1) = (L ++ [dataB (tailB s a)], a + (8 + sizeN (tailB s a))) := by
  rw [stF, h]
  exact if_pos hf
theorem stF_bd (s : ByteArray) : ∀ j, (stF s j).2 ≤ s.size ∧ (stF s j).1.length * 8 ≤ (stF s j).2
  | 0 => by simp [stF]
  | j + 1 => by
    have ih := stF_bd s j
    rw [stF]
    split
    · rename_i hf
      have h1 := hf.2.2.1
      rw [tailB_size] at h1
      simp only [List.length_append, List.length_cons, List.length_nil]
      omega
    · exact ih
theorem stF_stuck {s : ByteArray} {j : Nat} (h : ¬ Fine (tailB s (stF s j).2)) : ∀ i, stF s (j + i) = stF s j
  | 0 => rfl
  | i + 1 => by
    have ih := stF_stuck h i
    rw [← Nat.add_assoc, stF, ih]
    exact if_neg h
def Res (s : ByteArray) (L : List ByteArray) (a : Nat) : Prop := ∃ j, stF s j = (L, a) ∧ ¬ Fine (tailB s a)
theorem Res.one {s : ByteArray} {L M : List ByteArray} {a b : Nat} (h : Res s L a) (k : Res s M b) : L = M ∧ a = b := by
  obtain ⟨i, e1, f1⟩ := h
  obtain ⟨j, e2, f2⟩ := k
  have s1 := stF_stuck (s := s) (j := i) (by rw [e1]; exact f1)
  have s2 := stF_stuck (s := s) (j := j) (by rw [e2]; exact f2)
  have e : stF s i = stF s j := by
    by_cases hij : i ≤ j
    · have := s1 (j - i); rw [show i + (j - i) = j by omega] at this; exact this.symm
    · have := s2 (i - j); rw [show j + (i - j) = i by omega] at this; exact this
  rw [e1, e2] at e
  simpa using e
/-- Strings of a call's own. -/
def SL (w : World) (B : Nat) (v : Value) (l : List ByteArray) : Prop := w.ownsRow B 9 1 v l.length (l.map Value.string)
theorem SL.nil (w : World) (B : Nat) : SL w B (.slice none 0 0) [] := World.ownsRow_nil w B 9 1
theorem SL.empty (w : World) (B : Nat) (hB : B ≤ w.heap.size) : SL (w.alloc (.cells #[] 9)) B (.slice (some ⟨w.heap.size, 0, none⟩) 0 0) [] := World.ownsRow_lit w #[] 0 hB (Nat.zero_le _) (by simp)
theorem SL.kept {w w' : World} {B : Nat} {v : Value} {l : List ByteArray} (h : SL w B v l) (hb : Below w.heap.size w w') : SL w' B v l :=
  World.ownsRow.kept (row := none) h ⟨hb.os, hb.tape, hb.output, hb.size, fun k hk _ => hb.block k hk⟩ (by cases v.ownBlock <;> simp)
theorem info9 : (Try.prog.info? 9).map (fun i => (i.zero, i.size, i.bytes)) = some (some (.string ⟨#[]⟩), 1, 16) := by kernel_rfl
theorem info_parts {P : Program} {t : TypeId} {z : Value} {sz by' : Nat} (h : (P.info? t).map (fun i => (i.zero, i.size, i.bytes)) = some (some z, sz, by')) : ∃ i, P.info? t = some i ∧ i.zero = some z ∧ i.size = sz ∧ i.bytes = by' := by
  cases e : P.info? t with
  | none => rw [e] at h; simp at h
  | some i => rw [e] at h; simp at h; exact ⟨i, rfl, h.1, h.2.1, h.2.2⟩
theorem SL.shape {w : World} {B : Nat} {v : Value} {l : List ByteArray} (h : SL w B v l) : ∃ a cap, v = .slice a l.length cap ∧ (∀ g, v.ownBlock = some g → B ≤ g ∧ g < w.heap.size) := by
  have hlt := World.ownsRow.lt h
  rcases h.2 with ⟨hv, hn⟩ | ⟨g, cap, cur, hv, hg, r⟩
  · exact ⟨none, 0, by rw [hv, hn], hlt⟩
  · exact ⟨_, _, hv, hlt⟩

set_option maxHeartbeats 4000000 in
theorem implTake (s : ByteArray) (w : World) (hm : s.size ≤ 1048576) :
    Calls Try.prog 8 #[.string s] w fun e w' => ∃ v L, ∃ a : Nat, e = .returned (.tuple #[v, .int .i64 a]) ∧ Res s L a ∧ SL w' w.heap.size v L ∧ Below w.heap.size w w' := by
  obtain ⟨i0, hi, hz0, hz1, hz2⟩ := info_parts info9
  have N0 : Hid (SL w w.heap.size (.slice none 0 0) []) := SL.nil w _
  have B0 : Hid (Below w.heap.size w w) := Below.refl _ _
  go_enter Try.func8, Try.ntmps8
  go_wp2
  go_loopw [4, 5] (fun v i wr => ∃ (j a : Nat) (L : List ByteArray), i = .int .i64 a ∧ a ≤ s.size ∧ Hid (stF s j = (L, a)) ∧ Hid (SL wr w.heap.size v L) ∧ Hid (Below w.heap.size w wr)) (fun _ i _ => s.size - (intOf i).toNat)
  case atStart => exact ⟨0, 0, [], rfl, Nat.zero_le _, rfl, N0, B0⟩
  case round =>
    obtain ⟨j, a, L, rfl, ha, hj, hS, hB⟩ := hrel
    clear N0 B0
    have hL : L.length * 8 ≤ a := by have := (stF_bd s j).2; rw [hj.out] at this; exact this
    obtain ⟨va, vc, hv, hlt0⟩ := hS.out.shape
    have HLT : Hid (∀ g, (Value.slice va L.length vc).ownBlock = some g → w.heap.size ≤ g ∧ g < wr.heap.size) := by rw [← hv]; exact hlt0
    subst hv
    clear hlt0
    obtain ⟨n, hn⟩ : ∃ n, n = L.length := ⟨_, rfl⟩
    have HN : Hid (n = L.length) := hn
    rw [← hn] at hS HLT hL
    rw [← hn]
    clear hn
    have ha' : (a : Int) ≤ (s.size : Int) := by omega
    have h0' : (0 : Int) ≤ (a : Int) := by omega
    have HT : Hid (∀ w, Calls Try.prog 21 #[.string (s.extract a s.size)] w fun e w' => FirstIs (tailB s a) w e w') := fun w => first_any (tailB s a) w (by rw [tailB_size]; omega)
    go_wp2_with fail
    refine (HT.out _).mono ?_
    rintro e w1 ⟨x, b, rfl, hb, hx, B1⟩
    have S1 : Hid (SL w1 w.heap.size (.slice va n vc) L) := hS.out.kept B1
    have BB1 : Hid (Below w.heap.size w w1) := hB.out.trans (B1.mono hB.out.size)
    have z1 : w.heap.size ≤ w1.heap.size := BB1.out.size
    clear hS hB B1
    cases b with
    | false =>
      have HF : Hid (¬ Fine (tailB s a)) := fun hf => by have := hb.2 hf; cases this
      clear hb hx
      go_wp2
      go_ret2
      exact ⟨_, L, a, rfl, ⟨j, hj.out, HF.out⟩, S1.out, BB1.out⟩
    | true =>
      have HF : Hid (Fine (tailB s a)) := hb.1 rfl
      have hxe := hx rfl
      have HS1 : Hid (stF s (j + 1) = (L ++ [x], a + (8 + x.size))) := by
        show stF s (j + 1) = (L ++ [x], a + (8 + x.size))
        rw [hxe, dataB_size HF.out.2.2.1]
        exact stF_yes hj.out HF.out
      have hbd := stF_bd s (j + 1)
      rw [HS1.out] at hbd
      have hb1 : a + (8 + x.size) ≤ s.size := hbd.1
      clear hb hx hxe hbd
      go_wp2_with (at_builtin; refine wpList_append_own _ rfl _ _ 25 rfl w.heap.size 9 i0 _ 1 16 Try.underlying25 hi hz0 hz1 hz2 rfl (by decide) _ _ _ rfl (World.ownsRow.alloc S1.out _) ⟨_, 0, none⟩ 1 1 [.string x] rfl rfl ?_ ?_ ?_ ?_ ?_ ?_)
      · intro j u hj
        match j, hj with
        | 0, hj => simp at hj; subst hj; simp [Addr.add, go_sem]
      · intro u hu; simp at hu; subst hu; rfl
      · unfold maxLen; have := HN.out; omega
      · have := HN.out; omega
      · simp; omega
      · intro v' w2 hown hgrow _
        have S2 : Hid (SL w2 w.heap.size v' (L ++ [x])) := by
          show SL w2 w.heap.size v' (L ++ [x])
          unfold SL
          have e := HN.out
          subst e
          simpa using hown
        have BB2 : Hid (Below w.heap.size w w2) := (BB1.out.alloc BB1.out.size _).grown hgrow (by simp; omega) (fun q hq => (HLT.out q hq).1)
        clear hown hgrow S1 BB1
        go_wp2
        go_roundw
        case rel => exact ⟨j + 1, a + (8 + x.size), L ++ [x], by go_num, hb1, HS1, S2, BB2⟩
        case measure => simp [intOf]; omega
end Go.Proofs.Ythmmlcmeaokdnaa
