/- The program's look whether one on a path, but not on another one, has too little. Conditions: the accounts lie in memory and are a right forest; the package's errors lie as they were laid. -/
import Derived.Test.YthkgppfgidlicaaGreatDoorShort
import Derived.Test.YthkgppfgidlicaaGreatDoorChB
import Derived.Test.YthkgppfgidlicaaGreatDoorChA
namespace Go.Proofs.YthkgppfgidlicaaGreatDoor
open Go.RowKit

theorem onPath_yes (a : Option Addr) (n c : Nat) (F : Nat → Acc) (id to : Int) (l : List Int) (w : World) (h : Fo w a n F) (hR : Right F n) (hl : chain F n n to = some l) (hm : id ∈ l) :
    Calls Tryz.prog 130 #[.slice a n c, .int .i64 id, .int .i64 to] w fun e w' => e = .returned (.bool true) ∧ Below w.heap.size w w' :=
  (onPath_b a n c F id to l w h hR hl).mono fun e w' ⟨⟨b, he, _, h2⟩, hB⟩ => ⟨by cases b with | true => exact he | false => exact absurd hm (h2 rfl), hB⟩
theorem onPath_no (a : Option Addr) (n c : Nat) (F : Nat → Acc) (id to : Int) (l : List Int) (w : World) (h : Fo w a n F) (hR : Right F n) (hl : chain F n n to = some l) (hm : id ∉ l) :
    Calls Tryz.prog 130 #[.slice a n c, .int .i64 id, .int .i64 to] w fun e w' => e = .returned (.bool false) ∧ Below w.heap.size w w' :=
  (onPath_b a n c F id to l w h hR hl).mono fun e w' ⟨⟨b, he, h1, _⟩, hB⟩ => ⟨by cases b with | false => exact he | true => exact absurd (h1 rfl) hm, hB⟩

/-- One is in the way: it is on the one path, not on the other one, and has too little. -/
def inThe (F : Nat → Acc) (n : Nat) (lt : List Int) (m : Int) (j : Nat) : Prop := (F j).limit ≠ -1 ∧ (F j).id ∉ lt ∧ sumAll F n j + (F j).limit < m
def shortP (F : Nat → Acc) (n : Nat) (lf lt : List Int) (m : Int) : Prop := ∃ j, j < n ∧ (F j).id ∈ lf ∧ inThe F n lt m j
/-- What the look answers. -/
def ShortEnds (p : Nat → Addr) (S : Prop) (e : Ending) : Prop := (S ∧ ∃ i, e = .returned (refV p i 5)) ∨ (¬ S ∧ e = .returned .nilIface)

set_option maxRecDepth 8000 in
set_option maxHeartbeats 4000000 in
theorem shortOn (a : Option Addr) (n c : Nat) (F : Nat → Acc) (from_ to m : Int) (lf lt : List Int) (p : Nat → Addr) (w : World) (h : Fo w a n F) (hR : Right F n) (hlf : chain F n n from_ = some lf) (hlt : chain F n n to = some lt) (hG : GE w p) :
    Calls Tryz.prog 129 #[.slice a n c, .int .i64 from_, .int .i64 to, .int .i64 m] w fun e w' => ShortEnds p (shortP F n lf lt m) e ∧ Below w.heap.size w w' := by
  have H : Hid (Fo w a n F) := h
  have HR : Hid (Right F n) := hR
  have HLT : Hid (chain F n n to = some lt) := hlt
  have HLF : Hid (chain F n n from_ = some lf) := hlf
  have G0 : Hid (GE w p) := hG
  have hn12 := hR.1
  clear h hR hlf hlt hG
  go_enter Tryz.func129, Tryz.ntmps129
  go_wp2_with fail
  refine (implPathFull a n c F from_ lf _ H.out HR.out HLF.out).mono ?_
  rintro e w1 ⟨v, P, rfl, A1, hP, hPn, hPF, B1⟩
  obtain ⟨av, cv, hv, _, _⟩ := A1.shape
  subst hv
  have A1' : Hid (AL w1 w.heap.size (.slice av P.length cv) P) := A1
  have B1' : Hid (Below w.heap.size w w1) := B1
  have HP : Hid (P.map (·.id) = lf) := hP
  have HPF : Hid (∀ x, x ∈ P → ∃ j, j < n ∧ x = F j) := hPF
  clear A1 B1 hP hPF
  go_wp2
  go_loopw [15] (fun i wr => ∃ k : Nat, k ≤ P.length ∧ i = .int .i64 k ∧ Hid (∀ j, j < n → (F j).id ∈ (P.take k).map (·.id) → ¬ inThe F n lt m j) ∧ Hid (AL wr w.heap.size (.slice av P.length cv) P) ∧ Hid (Below w.heap.size w wr)) (fun i _ => P.length - (intOf i).toNat)
  case atStart => exact ⟨0, Nat.zero_le _, rfl, fun j _ hj => by simp at hj, A1', B1'⟩
  case round =>
    obtain ⟨k, hk, rfl, hno, hA, hB⟩ := hrel
    clear A1' B1'
    by_cases hlt : k < P.length
    · obtain ⟨j, hj, hx⟩ := HPF.out P[k] (List.getElem_mem _)
      obtain ⟨b, q, rfl, hb, hAc⟩ := (hA.out.fo (by omega)).2.acc hlt
      rw [FL_lt hlt, hx] at hAc
      obtain ⟨c0, c1, c2, c3, c4, c5, c6, c7⟩ := hAc
      have hxid : P[k].id = (F j).id := by rw [hx]
      have HTK : Hid (∀ x, x ∈ (P.take (k + 1)).map (·.id) ↔ x ∈ (P.take k).map (·.id) ∨ x = (F j).id) := fun x => by
        rw [List.take_succ_eq_append_getElem hlt, List.map_append, List.mem_append]
        simp [hxid]
      have HNE : Hid (¬ inThe F n lt m j → ∀ i, i < n → (F i).id ∈ (P.take (k + 1)).map (·.id) → ¬ inThe F n lt m i) := fun hn i hi hm => by
        rcases (HTK.out _).1 hm with h1 | h1
        · exact hno.out i hi h1
        · have e : i = j := HR.out.inj hi hj h1
          subst e; exact hn
      have HIN : Hid (inThe F n lt m j → shortP F n lf lt m) := fun hs => ⟨j, hj, by
        rw [← HP.out, ← hxid]
        exact List.mem_map.2 ⟨P[k], List.getElem_mem _, rfl⟩, hs⟩
      have FW : Hid (Fo (wr.alloc (.cells #[.int .i64 (F j).id, .int .i64 (F j).up, .int .i64 (F j).limit, .int .i64 (F j).rate, .int .i64 (F j).target, .bool (F j).frozen, .int .i64 (F j).balance, .int .i64 (F j).carry] 38)) a n F) := (H.out.below hB.out).alloc _
      have FOV : Hid (∀ u, Fo (over (wr.alloc (.cells #[.int .i64 (F j).id, .int .i64 (F j).up, .int .i64 (F j).limit, .int .i64 (F j).rate, .int .i64 (F j).target, .bool (F j).frozen, .int .i64 (F j).balance, .int .i64 (F j).carry] 38)) u) a n F) := fun u => FW.out.below (below_over _ u)
      have hov : ∀ u q, (over (wr.alloc (.cells #[.int .i64 (F j).id, .int .i64 (F j).up, .int .i64 (F j).limit, .int .i64 (F j).rate, .int .i64 (F j).target, .bool (F j).frozen, .int .i64 (F j).balance, .int .i64 (F j).carry] 38)) u).cell? ⟨wr.heap.size, q, none⟩ = (wr.alloc (.cells #[.int .i64 (F j).id, .int .i64 (F j).up, .int .i64 (F j).limit, .int .i64 (F j).rate, .int .i64 (F j).target, .bool (F j).frozen, .int .i64 (F j).balance, .int .i64 (F j).carry] 38)).cell? ⟨wr.heap.size, q, none⟩ := fun u q => (below_over _ u).cell (p := ⟨wr.heap.size, q, none⟩) (by simp)
      obtain ⟨s1, s2⟩ := room_bd HR.out hj
      clear hx hxid
      by_cases hl : (F j).limit = -1
      · have HN1 : Hid (∀ i, i < n → (F i).id ∈ (P.take (k + 1)).map (·.id) → ¬ inThe F n lt m i) := HNE.out (fun hh => hh.1 hl)
        have hlb : ((F j).limit != -1) = false := by simp [hl]
        clear hl
        go_wp2
        refine wp_region_over (by kernel_rfl) (by kernel_rfl) ?_
        repeat (go_big_quiet_step ((first | (go_at_call 130; exact Calls.over_of (onPath_yes a n c F (F j).id to lt _ (FOV.out _) HR.out HLT.out (by assumption))))))
        refine wpQuiet_nil ?_
        intro _ hw'
        obtain ⟨vq, hw''⟩ := hw'
        subst hw''
        have XV : Hid (AL (over (wr.alloc (.cells #[.int .i64 (F j).id, .int .i64 (F j).up, .int .i64 (F j).limit, .int .i64 (F j).rate, .int .i64 (F j).target, .bool (F j).frozen, .int .i64 (F j).balance, .int .i64 (F j).carry] 38)) vq) w.heap.size (.slice (some ⟨b, q, none⟩) P.length cv) P ∧ Below w.heap.size w (over (wr.alloc (.cells #[.int .i64 (F j).id, .int .i64 (F j).up, .int .i64 (F j).limit, .int .i64 (F j).rate, .int .i64 (F j).target, .bool (F j).frozen, .int .i64 (F j).balance, .int .i64 (F j).carry] 38)) vq)) := ⟨AL.kept (World.ownsRow.alloc hA.out _) (below_over _ vq), (hB.out.alloc hB.out.size _).trans ((below_over _ vq).mono (by have := hB.out.size; simp; omega))⟩
        go_wp2
        go_roundw
        case rel => exact ⟨k + 1, by omega, by go_num, HN1, XV.out.1, XV.out.2⟩
        case measure => simp [intOf]; omega
      have hlb : ((F j).limit != -1) = true := by simp [hl]
      by_cases hm : (F j).id ∈ lt
      · have HN1 : Hid (∀ i, i < n → (F i).id ∈ (P.take (k + 1)).map (·.id) → ¬ inThe F n lt m i) := HNE.out (fun hh => hh.2.1 hm)
        have HM : Hid ((F j).id ∈ lt) := hm
        clear hl hm
        go_wp2
        refine wp_region_over (by kernel_rfl) (by kernel_rfl) ?_
        repeat (go_big_quiet_step ((first | (go_at_call 130; exact Calls.over_of (onPath_yes a n c F (F j).id to lt _ (FOV.out _) HR.out HLT.out HM.out)))))
        refine wpQuiet_nil ?_
        intro _ hw'
        obtain ⟨vq, hw''⟩ := hw'
        subst hw''
        have XV : Hid (AL (over (wr.alloc (.cells #[.int .i64 (F j).id, .int .i64 (F j).up, .int .i64 (F j).limit, .int .i64 (F j).rate, .int .i64 (F j).target, .bool (F j).frozen, .int .i64 (F j).balance, .int .i64 (F j).carry] 38)) vq) w.heap.size (.slice (some ⟨b, q, none⟩) P.length cv) P ∧ Below w.heap.size w (over (wr.alloc (.cells #[.int .i64 (F j).id, .int .i64 (F j).up, .int .i64 (F j).limit, .int .i64 (F j).rate, .int .i64 (F j).target, .bool (F j).frozen, .int .i64 (F j).balance, .int .i64 (F j).carry] 38)) vq)) := ⟨AL.kept (World.ownsRow.alloc hA.out _) (below_over _ vq), (hB.out.alloc hB.out.size _).trans ((below_over _ vq).mono (by have := hB.out.size; simp; omega))⟩
        go_wp2
        go_roundw
        case rel => exact ⟨k + 1, by omega, by go_num, HN1, XV.out.1, XV.out.2⟩
        case measure => simp [intOf]; omega
      have HM : Hid ((F j).id ∉ lt) := hm
      by_cases hs : sumAll F n j + (F j).limit < m
      · have HS : Hid (shortP F n lf lt m) := HIN.out ⟨hl, hm, hs⟩
        have hsd : decide (sumAll F n j + (F j).limit < m) = true := decide_eq_true hs
        clear hl hm
        go_wp2
        refine wp_region_over (by kernel_rfl) (by kernel_rfl) ?_
        repeat (go_big_quiet_step ((first | (go_at_call 130; exact Calls.over_of (onPath_no a n c F (F j).id to lt _ (FOV.out _) HR.out HLT.out HM.out)) | (go_at_call 53; exact Calls.over_of (implSumFrom a n c F j _ (FOV.out _) HR.out hj)))))
        refine wpQuiet_nil ?_
        intro _ hw'
        obtain ⟨vq, hw''⟩ := hw'
        subst hw''
        have XV : Hid (AL (over (wr.alloc (.cells #[.int .i64 (F j).id, .int .i64 (F j).up, .int .i64 (F j).limit, .int .i64 (F j).rate, .int .i64 (F j).target, .bool (F j).frozen, .int .i64 (F j).balance, .int .i64 (F j).carry] 38)) vq) w.heap.size (.slice (some ⟨b, q, none⟩) P.length cv) P ∧ Below w.heap.size w (over (wr.alloc (.cells #[.int .i64 (F j).id, .int .i64 (F j).up, .int .i64 (F j).limit, .int .i64 (F j).rate, .int .i64 (F j).target, .bool (F j).frozen, .int .i64 (F j).balance, .int .i64 (F j).carry] 38)) vq)) := ⟨AL.kept (World.ownsRow.alloc hA.out _) (below_over _ vq), (hB.out.alloc hB.out.size _).trans ((below_over _ vq).mono (by have := hB.out.size; simp; omega))⟩
        have gv := (G0.out.below XV.out.2).var 5 (by omega)
        have gz := G0.out.size
        go_wp2
        go_ret
        exact ⟨Or.inl ⟨HS.out, _, rfl⟩, XV.out.2⟩
      · have HN1 : Hid (∀ i, i < n → (F i).id ∈ (P.take (k + 1)).map (·.id) → ¬ inThe F n lt m i) := HNE.out (fun hh => hs hh.2.2)
        have hsd : decide (sumAll F n j + (F j).limit < m) = false := decide_eq_false hs
        clear hl hm
        go_wp2
        refine wp_region_over (by kernel_rfl) (by kernel_rfl) ?_
        repeat (go_big_quiet_step ((first | (go_at_call 130; exact Calls.over_of (onPath_no a n c F (F j).id to lt _ (FOV.out _) HR.out HLT.out HM.out)) | (go_at_call 53; exact Calls.over_of (implSumFrom a n c F j _ (FOV.out _) HR.out hj)))))
        refine wpQuiet_nil ?_
        intro _ hw'
        obtain ⟨vq, hw''⟩ := hw'
        subst hw''
        have XV : Hid (AL (over (wr.alloc (.cells #[.int .i64 (F j).id, .int .i64 (F j).up, .int .i64 (F j).limit, .int .i64 (F j).rate, .int .i64 (F j).target, .bool (F j).frozen, .int .i64 (F j).balance, .int .i64 (F j).carry] 38)) vq) w.heap.size (.slice (some ⟨b, q, none⟩) P.length cv) P ∧ Below w.heap.size w (over (wr.alloc (.cells #[.int .i64 (F j).id, .int .i64 (F j).up, .int .i64 (F j).limit, .int .i64 (F j).rate, .int .i64 (F j).target, .bool (F j).frozen, .int .i64 (F j).balance, .int .i64 (F j).carry] 38)) vq)) := ⟨AL.kept (World.ownsRow.alloc hA.out _) (below_over _ vq), (hB.out.alloc hB.out.size _).trans ((below_over _ vq).mono (by have := hB.out.size; simp; omega))⟩
        go_wp2
        go_roundw
        case rel => exact ⟨k + 1, by omega, by go_num, HN1, XV.out.1, XV.out.2⟩
        case measure => simp [intOf]; omega
    · have hkn : k = P.length := by omega
      have HS : Hid (¬ shortP F n lf lt m) := by
        rintro ⟨j, hj, hm, hi⟩
        refine hno.out j hj ?_ hi
        rw [hkn, List.take_length, HP.out]
        exact hm
      go_wp2
      go_ret
      exact ⟨Or.inr ⟨HS.out, rfl⟩, hB.out⟩
end Go.Proofs.YthkgppfgidlicaaGreatDoor
