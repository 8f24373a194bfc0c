/- files: a folder's files as a list. Conditions: at most 1048576 of them, names of at most 2^20 bytes. -/
import Derived.Test.YtcalgmhpagpnnaaImA
import Derived.Test.YtcalgmhpagpnnaaSpAN
import Derived.Shelf.SlIter.Nil
import Derived.Shelf.SortM.Plain
import Derived.Shelf.SortM.SortNone
import Derived.Ground.GgzProg
import Derived.Ground.SlgmProg
namespace Go.Proofs.Ytcalgmhpagpnnaa
open Go.RowKit Go.Maps Go.Sort Go.Shelf
set_option maxRecDepth 8000

shelf_lay_g SlLaysZ.n7 Ggz 7 at Try 79 as Try.keysA
shelf_lay_g SlLaysZ.n6 Ggz 6 at Try 78 as Try.sortedA
shelf_lay_g SlLaysM.n6 Slgm 6 at Try 92 as Try.sortA

theorem sortsA (m : Nat) : AnyZ.SortsIn Try.prog Try.sortedA_ren Fence.wide m :=
  ⟨fun blk off cap ss W hH hblk hsz => callsIn_wide.2 (AnyM.slices_Sort_string Try.sortA blk off cap ss W hH hblk hsz),
   fun p cap W => callsIn_wide.2 (AnyM.slices_Sort_string_none Try.sortA p cap W)⟩

theorem keysC (mb : Option Nat) (W : World) : Calls Try.prog 79 #[.map mb] W fun e w' => e = .returned (.func (.func 93) #[] #[.pointer (some ⟨W.heap.size, 0, none⟩)]) ∧ w' = W.alloc (.cells #[.map mb] 71) :=
  (callsIn_wide (n := 5)).1 (AnyZ.keys_in Try.keysA Fence.wide 5 trivial rfl mb W)
theorem sortedC {H : Type} (b nn : Nat) (D0 : DataW H) (R : Value → Option (DataW H × List MemPlace)) (w : World) (hown : w.ownsMap Try.prog 9 R b nn D0) (hmax : Maps.size D0 ≤ maxLen) (hbytes : Maps.size D0 * 16 ≤ 140737488355328) :
    Calls Try.prog 78 #[.func (.func 93) #[] #[.pointer (some ⟨w.heap.size, 0, none⟩)]] (w.alloc (.cells #[.map (some b)] 71)) fun e w' => ∃ (v : Value) (ss : List (List UInt8)), e = .returned v ∧ ss.Perm (strKeys D0) ∧
      w'.ownsRow w.heap.size 9 1 v ss.length ((ss.mergeSort (fun x y => decide (x ≤ y))).map encStr) ∧ (v = .slice none 0 0 ↔ ss = []) ∧ Below w.heap.size w w' := by
  have hbl := hown.lt
  have hseq : SeqGives Fence.wide 2 Try.prog 93 #[.pointer (some ⟨w.heap.size, 0, none⟩)] encStr (fun ss => ss.Perm (strKeys D0)) (Maps.size D0) (w.alloc (.cells #[.map (some b)] 71)) :=
    AnyZ.keys_gives (ρ := Try.keysA_ren) { Try.keysA with } Fence.wide _ trivial rfl (by omega) w.heap.size b nn D0 _ (by simp) (by simp) (by
      obtain ⟨es, clock, hb, Ft, hs, hD⟩ := hown
      exact ⟨es, clock, (Below.heap_alloc _ _ b hbl).trans hb, Ft, hs, hD⟩)
  have cS := AnyZ.sorted_in Try.sortedA Fence.wide 5 trivial trivial trivial trivial rfl (by omega) (sortsA _) (enters_of Try.func92 (by kernel_rfl) rfl) 93 #[.pointer (some ⟨w.heap.size, 0, none⟩)] trivial (enters_of Try.func93 (by kernel_rfl) rfl) _ _ hmax hbytes _ hseq
  change CallsIn _ _ Try.prog 78 _ _ _ at cS
  refine ((callsIn_wide (n := 5)).1 cS).mono ?_
  rintro e w' ⟨v, ss, rfl, hS, hrow, hnil, hb⟩
  exact ⟨v, ss, rfl, hS, ownsRow_base_a hrow (by simp), hnil, ((Below.refl _ w).alloc (Nat.le_refl _) _).trans (hb.mono (by simp))⟩

theorem ent_keys (T : List Ent) : strKeys (DataW.map (T.map Ent.d)) = T.map fun t => t.name.data.toList := by
  simp [strKeys, Ent.d]
  intros
  rfl
theorem sorted_names {T : List Ent} (hp : Ris Ent.name T) {ss : List (List UInt8)} (h : ss.Perm (T.map fun t => t.name.data.toList)) : ss.mergeSort (fun x y => decide (x ≤ y)) = T.map fun t => t.name.data.toList := by
  have h1 : (ss.mergeSort (fun x y => decide (x ≤ y))).Perm (T.map fun t => t.name.data.toList) := (List.mergeSort_perm ss _).trans h
  have h2 := List.pairwise_mergeSort (le := fun x y : List UInt8 => decide (x ≤ y)) (by simp; intro a b c; exact List.le_trans) (by simp; intro a b; exact List.le_total a b) ss
  have h3 : (T.map fun t => t.name.data.toList).Pairwise (fun x y : List UInt8 => decide (x ≤ y) = true) := by
    rw [List.pairwise_map]
    exact hp.imp (fun h => by simp; exact List.le_of_lt (lt_iff.1 h))
  exact h1.eq_of_pairwise (fun a b _ _ x y => by simp at x y; exact List.le_antisymm x y) h2 h3

theorem get_of_ris {T : List Ent} (hR : Ris Ent.name T) {k : Nat} (hk : k < T.length) : getN Ent.name T[k].name T = some T[k] := by
  cases h : getN Ent.name T[k].name T with
  | none => exact absurd rfl (getN_none h _ (List.getElem_mem hk))
  | some t =>
    obtain ⟨ht, hn⟩ := getN_some h
    obtain ⟨j, hj, e⟩ := List.getElem_of_mem ht
    unfold Ris at hR
    rw [List.pairwise_iff_getElem] at hR
    have : j = k := by
      rcases Nat.lt_trichotomy j k with c | c | c
      · have := hR j k hj hk c
        rw [e] at this
        exact absurd hn (lt_ne this)
      · exact c
      · have := hR k j hk hj c
        rw [e] at this
        exact absurd hn.symm (lt_ne this)
    subst this
    rw [e]

/-- The entry at a place. -/
def entAt (T : List Ent) (i : Nat) : Ent := T.getD i ⟨⟨#[]⟩, .slice none 0 0, ⟨#[]⟩⟩
theorem entAt_lt {T : List Ent} {i : Nat} (h : i < T.length) : entAt T i = T[i] := by simp [entAt, List.getD, h]
theorem lst_ent (T : List Ent) : lst (fun i => (entAt T i).f) T.length = T.map Ent.f := by
  have := congrArg (List.map Ent.f) (lst_getD T ⟨⟨#[]⟩, .slice none 0 0, ⟨#[]⟩⟩)
  rw [← this]
  simp [lst, entAt]
theorem rowNames {w : World} {B : Nat} {v : Value} {T : List Ent} (h : w.ownsRow B 9 1 v T.length ((T.map fun t => t.name.data.toList).map encStr)) :
    ∃ a c, v = .slice a T.length c ∧ ∀ i, i < T.length → ∃ g, a = some ⟨g, 0, none⟩ ∧ B ≤ g ∧ g < w.heap.size ∧ w.cell? ⟨g, i, none⟩ = some (.string (entAt T i).name) := by
  rcases h.2 with ⟨rfl, hz⟩ | ⟨g, cap, cur, rfl, hbase, hg, r1, r2, r3, r4⟩
  · exact ⟨none, 0, by rw [hz], fun i hi => by omega⟩
  · refine ⟨_, cap, rfl, fun i hi => ⟨g, rfl, hbase, (Array.getElem?_eq_some_iff.1 hg).1, ?_⟩⟩
    have e : cur[i]? = some (.string (entAt T i).name) := by
      have e1 : cur.toList[i]? = (cur.toList.take (T.length * 1))[i]? := by rw [List.getElem?_take_of_lt (by omega)]
      rw [r4] at e1
      rw [← Array.getElem?_toList, e1, entAt_lt hi]
      simp [hi, encStr]
    simp [World.cell?, hg, e]

set_option maxHeartbeats 2000000 in
theorem implList (B b : Nat) (T : List Ent) (w : World) (h : Fd w B b T) (hT : T.length ≤ 1048576) (hN : ∀ t ∈ T, t.name.size ≤ 1048576) :
    Calls Try.prog 45 #[.map (some b)] w fun e w' => (∃ v, e = .returned v ∧ FlL w' w.heap.size v (T.map Ent.f)) ∧ Below w.heap.size w w' := by
  have H : Hid (Fd w B b T) := h
  have HN : Hid (∀ t ∈ T, t.name.size ≤ 1048576) := hN
  clear h hN
  obtain ⟨i0, hi, hz0, hz1, hz2⟩ := info_parts infoFl
  have hs : Hid (Maps.size (DataW.map (T.map Ent.d)) = T.length) := ent_size T
  go_enter Try.func45, Try.ntmps45
  go_wp2_with (go_at_call 79; refine (keysC (some b) _).mono ?_; rintro e w1 ⟨rfl, rfl⟩)
  refine (sortedC b _ _ RV w H.out.map (by rw [hs.out]; unfold maxLen; omega) (by rw [hs.out]; omega)).mono ?_
  rintro e w1 ⟨nv, ss, rfl, hS, hrow, hnl, B1⟩
  rw [ent_keys] at hS
  rw [sorted_names H.out.ris hS] at hrow
  have hl : ss.length = T.length := by have := hS.length_eq; simpa using this
  rw [hl] at hrow
  obtain ⟨na, nc, hnv, hnames⟩ := rowNames hrow
  subst hnv
  have HNM : Hid (∀ i, i < T.length → ∃ g, na = some ⟨g, 0, none⟩ ∧ w.heap.size ≤ g ∧ g < w1.heap.size ∧ w1.cell? ⟨g, i, none⟩ = some (.string (entAt T i).name)) := hnames
  have BB : Hid (Below w.heap.size w w1) := B1
  have HFL : Hid (lst (fun i => (entAt T i).f) T.length = T.map Ent.f) := lst_ent T
  have HLK : Hid (∀ i, i < T.length → ∀ W, Fd W B b T → (Instr.lookup 71 (.map (some b)) (.string (entAt T i).name) false).run Try.prog W = .ok (entAt T i).v W ∧ (convert 22 9 (entAt T i).v).run Try.prog W = .ok (.string (entAt T i).data) W) := fun i hi W hF => by
    rw [entAt_lt hi]
    have hmem : T[i] ∈ T := List.getElem_mem hi
    have hnm := HN.out _ hmem
    obtain ⟨v, hrun, hv⟩ := hF.look T[i].name (by unfold maxLen; omega)
    have hg := get_of_ris hF.ris hi
    rcases hv with ⟨e, _⟩ | ⟨t, e, rfl⟩
    · rw [hg] at e; cases e
    · rw [hg] at e
      cases e
      exact ⟨hrun, run_stringB (hF.rows _ hmem)⟩
  clear hnl hS hrow hl hnames B1 hs HN
  clear ss
  obtain ⟨n, hn⟩ : ∃ n, n = T.length := ⟨_, rfl⟩
  rw [← hn] at HNM HFL HLK hT
  rw [← hn]
  clear hn
  go_wp2
  go_loopw [3, 10] (fun v i wr => ∃ k : Nat, k ≤ n ∧ i = .int .i64 k ∧ Hid (FlL wr w1.heap.size v (lst (fun i => (entAt T i).f) k)) ∧ Hid (Below w1.heap.size w1 wr)) (fun _ i _ => n - (intOf i).toNat)
  case atStart => exact ⟨0, Nat.zero_le _, rfl, FlL.nil _ _, Below.refl _ _⟩
  case round =>
    obtain ⟨k, hk, rfl, hA, hB⟩ := hrel
    have hlen : Hid ((lst (fun i => (entAt T i).f) k).length = k) := lst_len _ k
    by_cases hlt : k < n
    · obtain ⟨g, rfl, hg1, hg2, hc⟩ := HNM.out k hlt
      have hc' : wr.cell? ⟨g, k, none⟩ = some (.string (entAt T k).name) := (hB.out.cell (p := ⟨g, k, none⟩) hg2).trans hc
      have hF : Fd wr B b T := (H.out.below BB.out (Nat.le_refl _)).below hB.out (Nat.le_refl _)
      obtain ⟨hlook, hconv⟩ := HLK.out k hlt wr hF
      clear hc hF
      go_wp2_with (at_builtin; refine wpList_append_own _ rfl _ _ 24 rfl w1.heap.size 75 i0 _ 2 32 Try.underlying24 hi hz0 hz1 hz2 rfl (by decide) _ _ _ rfl (World.ownsRow.alloc hA.out _) ⟨_, 0, none⟩ 1 1 (FlC ⟨(entAt T k).name, (entAt T k).data⟩) rfl rfl (flNews _ ⟨(entAt T k).name, (entAt T k).data⟩) (flOne _) (by rw [hlen.out]; unfold maxLen; omega) (by rw [hlen.out]; omega) (by have := hB.out.size; simp; omega) ?_; intro v' w2 hown hgrow _)
      go_roundw
      case rel =>
        refine ⟨k + 1, by omega, by go_num, ?_, (hB.out.alloc hB.out.size _).grown hgrow (by have := hB.out.size; simp; omega) hA.out.lt⟩
        show FlL _ _ _ _
        rw [lst_succ]
        exact FlL.snoc hown
      case measure => simp [intOf]; omega
    · obtain rfl : k = n := by omega
      go_wp2
      go_ret
      exact ⟨⟨_, rfl, by rw [← HFL.out]; exact hA.out.mono BB.out.size⟩, BB.out.trans (hB.out.mono BB.out.size)⟩
end Go.Proofs.Ytcalgmhpagpnnaa
