/- slices.Sorted(maps.Keys(l)) of a ledger, by the library's own contracts laid at this program. -/
import Derived.Shelf.SlIterI.Nil
import Derived.Shelf.SortM.Plain
import Derived.Shelf.SortM.SortNone
import Derived.Ground.GgzProg
import Derived.Ground.SlgmProg
import Derived.Test.YtleblllofibfkaaLed
namespace Go.Proofs.Ytleblllofibfkaa
open Go.RowKit Go.Maps Go.Sort Go.Shelf
set_option maxRecDepth 8000

shelf_lay_g SlLaysZI.n7 Ggz 7 at Try 41 as Try.keysA
shelf_lay_g SlLaysZI.n6 Ggz 6 at Try 40 as Try.sortedA
shelf_lay_g SlLaysM.n5 Slgm 5 at Try 58 as Try.sortA

theorem sortsA (m : Nat) : AnyZI.SortsIn Try.prog Try.sortedA_ren Fence.wide m :=
  ⟨fun blk off cap ss W hH hblk hsz => callsIn_wide.2 (AnyM.slices_Sort_int Try.sortA blk off cap ss W hH hblk hsz),
   fun p cap W => callsIn_wide.2 (AnyM.slices_Sort_int_none Try.sortA p cap W)⟩

set_option maxHeartbeats 1000000 in
/-- The ids of a map that is not nil. -/
theorem ids_raw {H : Type} (b nn : Nat) (D0 : DataW H) (R : Value → Option (DataW H × List MemPlace)) (w : World) (hown : w.ownsMap Try.prog 2 R b nn D0) (hmax : Maps.size D0 ≤ maxLen) (hbytes : Maps.size D0 * 8 ≤ 140737488355328) :
    Calls Try.prog 23 #[.map (some b)] w fun e w' => ∃ (v : Value) (ss : List Int), e = .returned v ∧ ss.Perm (intKeys D0) ∧
      w'.ownsRow w.heap.size 2 1 v ss.length ((ss.mergeSort (fun x y => decide (x ≤ y))).map encZ) ∧ (v = .slice none 0 0 ↔ ss = []) ∧ Below w.heap.size w w' := by
  refine (callsIn_wide (n := 6)).1 ?_
  have hbl := hown.lt
  have hseq : SeqGives Fence.wide 2 Try.prog 59 #[.pointer (some ⟨w.heap.size, 0, none⟩)] encZ (fun ss => ss.Perm (intKeys D0)) (Maps.size D0) (w.alloc (.cells #[.map (some b)] 46)) :=
    AnyZI.keys_gives (ρ := Try.keysA_ren) { Try.keysA with } Fence.wide _ trivial rfl (by omega) w.heap.size b nn D0 _ (by simp) (by simp) (by
      obtain ⟨es, clock, hb, Ft, hs, hD⟩ := hown
      exact ⟨es, clock, (Below.heap_alloc _ _ b hbl).trans hb, Ft, hs, hD⟩)
  have cK : ∀ mb W, CallsIn Fence.wide 5 Try.prog 41 #[.map mb] W fun e w' => e = .returned (.func (.func 59) #[] #[.pointer (some ⟨W.heap.size, 0, none⟩)]) ∧ w' = W.alloc (.cells #[.map mb] 46) := fun mb W => AnyZI.keys_in Try.keysA Fence.wide 5 trivial rfl mb W
  have cS := AnyZI.sorted_in Try.sortedA Fence.wide 5 trivial trivial trivial trivial rfl (by omega) (sortsA _) (enters_of Try.func58 (by kernel_rfl) rfl) 59 #[.pointer (some ⟨w.heap.size, 0, none⟩)] trivial (enters_of Try.func59 (by kernel_rfl) rfl) _ _ hmax hbytes _ hseq
  change CallsIn _ _ Try.prog 40 _ _ _ at cS
  have hfK : Fence.wide.fn 41 := trivial
  have hfS : Fence.wide.fn 40 := trivial
  refine callsIn_of_wp Try.func23 rfl trivial ?_ rfl
  simp only [Try.ntmps23, List.size_toArray, List.length_cons, List.length_nil, Nat.reduceAdd, Nat.reduceSub, Array.replicate_succ, Array.replicate_zero, List.push_toArray, List.append_toArray, List.nil_append, List.cons_append]
  gi_wp2_with (first
    | (gi_at_call 41; refine (cK _ _).mono ?_; rintro e w' ⟨rfl, rfl⟩)
    | (gi_at_call 40; refine cS.mono ?_; rintro e w' ⟨v, ss, rfl, hS, hrow, hnil, hb⟩))
  go_ret
  exact ⟨v, ss, rfl, hS, ownsRow_base_a hrow (by simp), hnil, ((Below.refl _ w).alloc (Nat.le_refl _) _).trans (hb.mono (by simp))⟩

/-- What an owned row of ints is in memory. -/
theorem row_ids {w : World} {B : Nat} {v : Value} {zs : List Int} {m : Nat} (h : w.ownsRow B 2 1 v m (zs.map encZ)) (hm : m = zs.length) :
    ∃ a c, v = .slice a zs.length c ∧ ∀ i, i < zs.length → ∃ g, a = some ⟨g, 0, none⟩ ∧ B ≤ g ∧ g < w.heap.size ∧ w.cell? ⟨g, i, none⟩ = some (.int .i64 (zs.getD i 0)) := by
  subst hm
  rcases h.2 with ⟨rfl, hz⟩ | ⟨g, cap, cur, rfl, hbase, hg, r1, r2, r3, r4⟩
  · exact ⟨none, 0, by rw [hz], fun i hi => by omega⟩
  · refine ⟨_, cap, rfl, fun i hi => ⟨g, rfl, hbase, (Array.getElem?_eq_some_iff.1 hg).1, ?_⟩⟩
    have e : cur[i]? = some (encZ (zs.getD i 0)) := by
      have e1 : cur.toList[i]? = (cur.toList.take (zs.length * 1))[i]? := by rw [List.getElem?_take_of_lt (by omega)]
      rw [r4] at e1
      rw [← Array.getElem?_toList, e1]
      simp [List.getD, hi]
    simp [World.cell?, hg, e, encZ]

theorem ids (B b n : Nat) (F : Nat → Acc) (G : Nat → Nat) (w : World) (hR : Rises F n) (hn : n ≤ 12) (h : Led w B b n F G) :
    Calls Try.prog 23 #[.map (some b)] w fun e w' => ∃ a c, e = .returned (.slice a n c) ∧ (∀ i, i < n → ∃ g, a = some ⟨g, 0, none⟩ ∧ w.heap.size ≤ g ∧ g < w'.heap.size ∧ w'.cell? ⟨g, i, none⟩ = some (.int .i64 (F i).id)) ∧ Below w.heap.size w w' := by
  have hs : Maps.size (DataW.map (ledL (ksOf F G n))) = n := by rw [led_size, ksOf_len]
  refine (ids_raw b _ _ RP w h.map (by rw [hs]; unfold maxLen; omega) (by rw [hs]; omega)).mono ?_
  rintro e w' ⟨v, ss, rfl, hp, hrow, _, hb⟩
  rw [led_keys] at hp
  rw [sorted_ids (ksOf_rises hR) hp] at hrow
  have hl : ss.length = ((ksOf F G n).map (·.1)).length := hp.length_eq
  obtain ⟨a, c, rfl, hc⟩ := row_ids hrow hl
  have e1 : ((ksOf F G n).map (·.1)).length = n := by simp [ksOf]
  rw [e1] at hc ⊢
  refine ⟨a, c, rfl, fun i hi => ?_, hb⟩
  obtain ⟨g, h1, h2, h3, h4⟩ := hc i hi
  refine ⟨g, h1, h2, h3, ?_⟩
  rw [h4]
  simp [ksOf, List.getD, hi]
end Go.Proofs.Ytleblllofibfkaa
