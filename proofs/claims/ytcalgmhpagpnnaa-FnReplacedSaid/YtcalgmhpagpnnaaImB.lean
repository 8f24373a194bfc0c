/- folderOf: a folder of files that rise by their names. Conditions: they lie in memory, at most 1048576 of them. -/
import Derived.Test.YtcalgmhpagpnnaaByFd
import Derived.Test.YtcalgmhpagpnnaaFr
import Derived.WalkLawsBesides
namespace Go.Proofs.Ytcalgmhpagpnnaa
open Go.RowKit Go.Maps
set_option maxRecDepth 8000

theorem makeFolder (x : Int) (w : World) : (Instr.makeMap 71 (some (.int .i64 x))).run Try.prog w = .ok (.map (some w.heap.size)) (w.alloc (.map #[] 0)) := by
  simp [Instr.makeMap, run_underlying Try.underlying71, asInt, go_sem]
theorem Fd.made (w : World) (B : Nat) (hB : B ≤ w.heap.size) : Fd (w.alloc (.map #[] 0)) B w.heap.size [] :=
  ⟨hB, World.ownsMap_made _ _ _ _, fun t ht => (by cases ht), List.Pairwise.nil, List.Pairwise.nil⟩

set_option maxHeartbeats 1000000 in
theorem implFolder (a : Option Addr) (n c : Nat) (F : Nat → Fl) (w : World) (h : Fls w a n F) (hR : Ris Fl.name (lst F n)) (hN : ∀ i, i < n → (F i).name.size ≤ 1048576 ∧ (F i).data.size ≤ 1099511627776) :
    Calls Try.prog 42 #[.slice a n c] w fun e w' => e = .returned (.map (some w.heap.size)) ∧ (∃ T, Fd w' w.heap.size w.heap.size T ∧ T.map Ent.f = lst F n) ∧ Below w.heap.size w w' := by
  have H : Hid (Fls w a n F) := h
  have HR : Hid (Ris Fl.name (lst F n)) := hR
  have HN : Hid (∀ i, i < n → (F i).name.size ≤ 1048576 ∧ (F i).data.size ≤ 1099511627776) := hN
  have hn := h.1
  clear h hR hN
  have hmm := makeFolder
  go_enter Try.func42, Try.ntmps42
  go_wp2
  go_loopw [11] (fun i wr => ∃ k : Nat, k ≤ n ∧ i = .int .i64 k ∧ Hid (∃ T, Fd wr w.heap.size w.heap.size T ∧ T.map Ent.f = lst F k) ∧ Hid (Below w.heap.size w wr)) (fun i _ => n - (intOf i).toNat)
  case atStart => exact ⟨0, Nat.zero_le _, rfl, ⟨[], Fd.made w _ (Nat.le_refl _), rfl⟩, (Below.refl _ _).alloc (Nat.le_refl _) _⟩
  case round =>
    obtain ⟨k, hk, rfl, hT, hB⟩ := hrel
    clear hmm
    by_cases hlt : k < n
    · obtain ⟨T, hF, hTf⟩ := hT.out
      obtain ⟨b, o, rfl, hb, hA⟩ := (H.out.below hB.out).acc hlt
      obtain ⟨c0, c1⟩ := hA
      have hsz := hB.out.size
      have HF : Hid (Fd (wr.alloc (.cells #[.string (F k).name, .string (F k).data] 75)) w.heap.size w.heap.size T) := hF.below ((Below.refl _ _).alloc (Nat.le_refl _) _) (Nat.le_refl _)
      have HTF : Hid (T.map Ent.f = lst F k) := hTf
      have hnm := (HN.out k hlt).1
      have hdt := (HN.out k hlt).2
      have HTL : Hid (T.length < maxLen) := (by
        have := congrArg List.length hTf
        rw [lst_len, List.length_map] at this
        unfold maxLen
        omega : T.length < maxLen)
      obtain ⟨v1, w1, hrun, hby, hg, hob, hs1⟩ := run_bytesB (wr.alloc (.cells #[.string (F k).name, .string (F k).data] 75)) w.heap.size (by simp; omega) (F k).data (by omega)
      have HBY : Hid (ByR w1 w.heap.size v1 (F k).data) := hby
      have HG1 : Hid ((wr.alloc (.cells #[.string (F k).name, .string (F k).data] 75)).grownBy w1 none) := hg
      have HOB : Hid (v1.ownBlock = some (wr.alloc (.cells #[.string (F k).name, .string (F k).data] 75)).heap.size) := hob
      have HM : Hid (w1.ownsMap Try.prog 9 RV w.heap.size T.length (.map (T.map Ent.d))) := own_block HF.out.map (hg.block w.heap.size HF.out.map.lt (by simp))
      clear hF hTf hby hg hob hs1 hT
      go_wp2_with (first | (at_mapUpdate; refine wpList_mapUpdate_own _ rfl _ _ _ 71 rfl 9 22 keyed9 Try.underlying71 RV w.heap.size _ _ rfl HM.out HTL.out _ _ (.string (F k).name.data.toList) rfl rfl (key9 (by unfold maxLen; omega)) (.held v1) [] (RV_by HBY.out) ?_; intro w2 hown2 hgrow2) | go_in)
      go_roundw
      case rel =>
        refine ⟨k + 1, by omega, by go_num, ⟨_, HF.out.put HG1.out (Or.inl rfl) HBY.out (HF.out.apart_loc (Or.inr fun g hg => ?_)) hown2 hgrow2, ?_⟩, ?_⟩
        · rw [HOB.out] at hg
          exact Nat.le_of_eq (Option.some.inj hg)
        · rw [fl_put, HTF.out, lst_succ]
          exact put_behind fun y hy => by
            obtain ⟨j, hj, rfl⟩ := lst_mem.1 hy
            have := ris_lst.2 (fun j h1 h2 => ris_lst.1 HR.out j h1 (by omega) : ∀ j, 0 < j → j < k + 1 → lt (F (j - 1)).name (F j).name = true)
            exact (ris_succ.1 this).2 j hj
        · exact ((hB.out.alloc hB.out.size _).grown HG1.out (by simp; omega) (fun _ hj => by cases hj)).grown hgrow2 (Nat.le_trans hsz (Nat.le_trans (by simp) HG1.out.size)) (fun j hj => by cases hj; exact Nat.le_refl _)
      case measure => simp [intOf]; omega
    · obtain rfl : k = n := by omega
      go_wp2
      go_ret
      exact ⟨rfl, hT.out, hB.out⟩
end Go.Proofs.Ytcalgmhpagpnnaa
