/- The specification's TakeFrames goes the same steps. Conditions: the string has at most 1048576 bytes. -/
import Derived.Test.YthmmlcmeaokdnaaTakM
import Derived.WalkLawsBesides
import Derived.Below
import Derived.Deep.QuietTactic
import Derived.BigQuiet
namespace Go.Proofs.Ythmmlcmeaokdnaa
open Go.RowKit

/-- The world v, with all that was there in w as it was in w. -/
def over (w v : World) : World := { v with os := w.os, tape := w.tape, output := w.output, heap := w.heap ++ v.heap.extract w.heap.size v.heap.size }

theorem over_block (w v : World) (k : Nat) (hk : k < w.heap.size) : (over w v).heap[k]? = w.heap[k]? := by
  show (w.heap ++ v.heap.extract w.heap.size v.heap.size)[k]? = _
  rw [Array.getElem?_append_left hk]
theorem over_size (w v : World) : w.heap.size ≤ (over w v).heap.size := by
  show w.heap.size ≤ (w.heap ++ v.heap.extract w.heap.size v.heap.size).size
  simp
theorem below_over (w v : World) : Below w.heap.size w (over w v) := ⟨rfl, rfl, rfl, over_size w v, fun k hk => over_block w v k hk⟩
theorem over_of_below {w v : World} (h : Below w.heap.size w v) : v = over w v := by
  have hh : v.heap = w.heap ++ v.heap.extract w.heap.size v.heap.size := by
    apply Array.ext_getElem?
    intro i
    by_cases hi : i < w.heap.size
    · rw [Array.getElem?_append_left hi, h.block i hi]
    · rw [Array.getElem?_append_right (by omega), Array.getElem?_extract]
      have := h.size
      by_cases hv : i < v.heap.size
      · rw [if_pos (by omega)]; congr 1; omega
      · rw [if_neg (by omega)]; simp; omega
  obtain ⟨h1, h2, h3, h4, h5⟩ := h
  cases v
  simp only [over]
  congr
theorem over_drawn (w : World) : ({ w with drawn := w.drawn + 1 } : World) = over w { w with drawn := w.drawn + 1 } := over_of_below ⟨rfl, rfl, rfl, Nat.le_refl _, fun _ _ => rfl⟩

theorem wp_region_over {P : Program} {id : Nat} {Q : Exit → Act → World → Prop} {a : Act} {w : World} {l : List Oper} (hm : P.follows .mixedOrders = true) (hB : Region.lexB .any l.toArray = true)
    (h : wpQuiet P l.toArray (fun w' => ∃ v, w' = over w v) (fun a' => ∀ w', (∃ v, w' = over w v) → Q .normal a' w') l a) : (Code.region id l.toArray true).wp P Q a w :=
  wp_region_quiet (C := fun w' => ∃ v, w' = over w v) hm hB ⟨_, over_drawn w⟩ (by simpa using h)

/-- A callee that makes memory alone, met inside such a region. -/
theorem Calls.over_of {P : Program} {f : FuncId} {args : Array Value} {w v : World} {u : Value}
    (h : Calls P f args (over w v) fun e w' => e = .returned u ∧ Below (over w v).heap.size (over w v) w') : Calls P f args (over w v) fun e w'' => e = .returned u ∧ ∃ x, w'' = over w x :=
  h.mono fun _ w' ⟨he, hb⟩ => ⟨he, w', over_of_below ((below_over w v).trans (hb.mono (over_size w v)))⟩

set_option maxHeartbeats 4000000 in
theorem specTake (s : ByteArray) (w : World) (hm : s.size ≤ 1048576) :
    Calls Try.prog 9 #[.string s] w fun e w' => ∃ v L, ∃ a : Nat, e = .returned (.tuple #[v, .int .i64 a]) ∧ Res s L a ∧ SL w' w.heap.size v L ∧ Below w.heap.size w w' := by
  obtain ⟨i0, hi, hz0, hz1, hz2⟩ := info_parts info9
  have N0 : Hid (SL (w.alloc (.cells #[] 9)) w.heap.size (.slice (some ⟨w.heap.size, 0, none⟩) 0 0) []) := SL.empty w _ (Nat.le_refl _)
  have B0 : Hid (Below w.heap.size w (w.alloc (.cells #[] 9))) := (Below.refl _ _).alloc (Nat.le_refl _) _
  go_enter Try.func9, Try.ntmps9
  go_wp2
  go_loopw [4, 5] (fun v i wr => ∃ (j a : Nat) (L : List ByteArray), i = .int .i64 a ∧ a ≤ s.size ∧ Hid (stF s j = (L, a)) ∧ Hid (SL wr w.heap.size v L) ∧ Hid (Below w.heap.size w wr)) (fun _ i _ => s.size - (intOf i).toNat)
  case atStart => exact ⟨0, 0, [], rfl, Nat.zero_le _, rfl, N0, B0⟩
  case round =>
    obtain ⟨j, a, L, rfl, ha, hj, hS, hB⟩ := hrel
    clear N0 B0
    have hL : L.length * 8 ≤ a := by have := (stF_bd s j).2; rw [hj.out] at this; exact this
    obtain ⟨va, vc, hv, hlt0⟩ := hS.out.shape
    have HLT : Hid (∀ g, (Value.slice va L.length vc).ownBlock = some g → w.heap.size ≤ g ∧ g < wr.heap.size) := by rw [← hv]; exact hlt0
    subst hv
    clear hlt0
    obtain ⟨n, hn⟩ : ∃ n, n = L.length := ⟨_, rfl⟩
    have HN : Hid (n = L.length) := hn
    rw [← hn] at hS HLT hL
    rw [← hn]
    clear hn
    by_cases h8 : a + 8 ≤ s.size
    · have h8' : (a : Int) + 8 ≤ (s.size : Int) := by omega
      go_wp2
      go_loop [6, 7] (fun x i => ∃ k : Nat, k ≤ 4 ∧ i = .int .i64 k ∧ x = .int .i64 (pnum s a k)) (fun _ i => 4 - (intOf i).toNat)
      case atStart => exact ⟨0, Nat.zero_le _, rfl, rfl⟩
      case round =>
        obtain ⟨k, hk, rfl, rfl⟩ := hrel
        by_cases hlt : k < 4
        · have hpl := pnum_lt s a k (by omega)
          have hpb : pnum s a k < 16777216 := Nat.lt_of_lt_of_le hpl (by have : 256 ^ k ≤ 256 ^ 3 := Nat.pow_le_pow_right (by omega) (by omega); omega)
          have HP : Hid (pnum s a (k + 1) = 256 * pnum s a k + byteAt s (a + k)) := rfl
          have hak : a + k < s.size := by omega
          have HB : Hid (byteAt s (a + k) = s[a + k].toNat) := byteAt_eq hak
          have hbl := s[a + k].toNat_lt
          have hk' : (k : Int) < 4 := by omega
          have hak' : (a : Int) + (k : Int) < (s.size : Int) := by omega
          clear hpl
          generalize pnum s a k = x at *
          go_wp2
          go_round
          case rel => exact ⟨k + 1, by omega, by go_num, by rw [HP.out, HB.out]; go_num⟩
          case measure => simp [intOf]; omega
        · have hk4 : k = 4 := by omega
          subst hk4
          have HP4 : Hid (pnum s a 4 = sizeN (tailB s a)) := pnum_4 s a
          have hpl : pnum s a 4 < 4294967296 := pnum_lt s a 4 (by omega)
          generalize pnum s a 4 = z at *
          by_cases c1 : 100000 < z
          · have c1' : (100000 : Int) < (z : Int) := by omega
            have HF : Hid (¬ Fine (tailB s a)) := fun hf => by have := hf.2.1; rw [← HP4.out] at this; omega
            go_wp2
            go_quiet (fail)
            go_wp2
            go_ret2
            exact ⟨_, L, a, rfl, ⟨j, hj.out, HF.out⟩, hS.out, below_drewQ hB.out _⟩
          · have c1' : decide ((100000 : Int) < (z : Int)) = false := decide_eq_false (by omega)
            by_cases c2 : s.size < a + 8 + z
            · have c2' : decide ((s.size : Int) < (a : Int) + 8 + (z : Int)) = true := decide_eq_true (by omega)
              have HF : Hid (¬ Fine (tailB s a)) := fun hf => by have := hf.2.2.1; rw [← HP4.out, tailB_size] at this; omega
              go_wp2
              go_quiet (fail)
              go_wp2
              go_ret2
              exact ⟨_, L, a, rfl, ⟨j, hj.out, HF.out⟩, hS.out, below_drewQ hB.out _⟩
            · have c2' : decide ((s.size : Int) < (a : Int) + 8 + (z : Int)) = false := decide_eq_false (by omega)
              have d1 : (0 : Int) ≤ (a : Int) + 8 := by omega
              have d2 : (a : Int) + 8 ≤ (a : Int) + 8 + (z : Int) := by omega
              have d3 : (a : Int) + 8 + (z : Int) ≤ (s.size : Int) := by omega
              have d4 : (0 : Int) ≤ (a : Int) + 4 := by omega
              have d5 : (a : Int) + 4 ≤ (a : Int) + 8 := by omega
              obtain ⟨d, hd⟩ : ∃ d, d = s.extract (a + 8) (a + 8 + z) := ⟨_, rfl⟩
              have HC : Hid (∀ w, Calls Try.prog 22 #[.string (s.extract (a + 8) (a + 8 + z))] w fun e w' => e = .returned (.string ⟨(lowB (crcS d)).toArray⟩) ∧ Below w.heap.size w w') := fun w => by rw [← hd]; exact sum_any d w (by rw [hd, ByteArray.size_extract]; unfold maxLen; omega)
              have HFI : Hid (Fine (tailB s a) ↔ lowB (crcS d) = (s.extract (a + 4) (a + 8)).toList) := by
                have := fine_iff s a h8 (by rw [← HP4.out]; omega) (by rw [← HP4.out]; omega)
                rw [← HP4.out, ← hd] at this
                exact this
              have HDD : Hid (d = dataB (tailB s a)) := by show d = dataB (tailB s a); rw [hd, dataL, ← HP4.out]
              have hds : d.size = z := by rw [hd, ByteArray.size_extract]; omega
              have HD : Hid (d = s.extract (a + 8) (a + 8 + z)) := hd
              clear hd
              obtain ⟨y, hy⟩ : ∃ y, y = (s.extract (a + 4) (a + 8)).toList := ⟨_, rfl⟩
              rw [← hy] at HFI
              by_cases hfi : Fine (tailB s a)
              · have HF : Hid (Fine (tailB s a)) := hfi
                have hq1 : (lowB (crcS d) == (s.extract (a + 4) (a + 8)).toList) = true := by rw [← hy, HFI.out.1 hfi]; simp
                have hq2 : (lowB (crcS d) != (s.extract (a + 4) (a + 8)).toList) = false := by rw [← hy, HFI.out.1 hfi]; simp
                clear hfi hy
                go_wp2
                refine wp_region_over (by kernel_rfl) (by kernel_rfl) ?_
                repeat (go_big_quiet_step ((first | (go_at_call 22; exact Calls.over_of (HC.out _)))))
                refine wpQuiet_nil ?_
                intro _ hw'
                obtain ⟨vq, hw''⟩ := hw'
                subst hw''
                have S1 : Hid (SL (over wr vq) w.heap.size (.slice va n vc) L) := hS.out.kept (below_over wr vq)
                have BB1 : Hid (Below w.heap.size w (over wr vq)) := hB.out.trans ((below_over wr vq).mono hB.out.size)
                have z1 : w.heap.size ≤ (over wr vq).heap.size := BB1.out.size
                have HS1 : Hid (stF s (j + 1) = (L ++ [d], a + 8 + z)) := by
                  show stF s (j + 1) = (L ++ [d], a + 8 + z)
                  have := stF_yes hj.out HF.out
                  rw [← HDD.out, ← HP4.out, ← Nat.add_assoc] at this
                  exact this
                clear hS hB
                obtain ⟨W1, hW1⟩ : ∃ W1, W1 = over wr vq := ⟨_, rfl⟩
                rw [← hW1] at S1 BB1 z1 ⊢
                clear hW1
                go_wp2_with (at_builtin; refine wpList_append_own _ rfl _ _ 25 rfl w.heap.size 9 i0 _ 1 16 Try.underlying25 hi hz0 hz1 hz2 rfl (by decide) _ _ _ rfl (World.ownsRow.alloc S1.out _) ⟨_, 0, none⟩ 1 1 [.string (s.extract (a + 8) (a + 8 + z))] rfl rfl ?_ ?_ ?_ ?_ ?_ ?_)
                · intro j u hj
                  match j, hj with
                  | 0, hj => simp at hj; subst hj; simp [Addr.add, go_sem]
                · intro u hu; simp at hu; subst hu; rfl
                · unfold maxLen; have := HN.out; omega
                · have := HN.out; omega
                · simp; omega
                · intro v' w2 hown hgrow _
                  have S2 : Hid (SL w2 w.heap.size v' (L ++ [d])) := by
                    show SL w2 w.heap.size v' (L ++ [d])
                    unfold SL
                    have e := HN.out
                    subst e
                    rw [HD.out]
                    simpa using hown
                  have BB2 : Hid (Below w.heap.size w w2) := (BB1.out.alloc BB1.out.size _).grown hgrow (by simp; omega) (fun q hq => (HLT.out q hq).1)
                  clear hown hgrow S1 BB1
                  go_wp2
                  go_roundw
                  case rel => exact ⟨j + 1, a + 8 + z, L ++ [d], by go_num, by omega, HS1, S2, BB2⟩
                  case measure => simp [intOf]; omega
              · have HF : Hid (¬ Fine (tailB s a)) := hfi
                have hq1 : (lowB (crcS d) == (s.extract (a + 4) (a + 8)).toList) = false := by rw [← hy]; exact beq_eq_false_iff_ne.2 (fun e => hfi (HFI.out.2 e))
                have hq2 : (lowB (crcS d) != (s.extract (a + 4) (a + 8)).toList) = true := by rw [← hy]; simp; exact fun e => hfi (HFI.out.2 e)
                clear hfi hy
                go_wp2
                refine wp_region_over (by kernel_rfl) (by kernel_rfl) ?_
                repeat (go_big_quiet_step ((first | (go_at_call 22; exact Calls.over_of (HC.out _)))))
                refine wpQuiet_nil ?_
                intro _ hw'
                obtain ⟨vq, hw''⟩ := hw'
                subst hw''
                go_wp2
                go_ret2
                exact ⟨_, L, a, rfl, ⟨j, hj.out, HF.out⟩, hS.out.kept (below_over wr vq), hB.out.trans ((below_over wr vq).mono hB.out.size)⟩
    · have HF : Hid (¬ Fine (tailB s a)) := fun hf => by have := hf.1; rw [tailB_size] at this; omega
      have h8' : ¬ (a : Int) + 8 ≤ (s.size : Int) := by omega
      go_wp2
      go_ret2
      exact ⟨_, L, a, rfl, ⟨j, hj.out, HF.out⟩, hS.out, hB.out⟩
end Go.Proofs.Ythmmlcmeaokdnaa
