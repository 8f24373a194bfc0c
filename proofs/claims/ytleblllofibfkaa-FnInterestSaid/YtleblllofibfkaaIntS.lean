/- Interest of the specification. -/
import Derived.Test.YtleblllofibfkaaIntI
import Derived.Test.YtleblllofibfkaaCopyS
import Derived.Test.YtleblllofibfkaaAct
import Derived.Test.YtleblllofibfkaaOver
namespace Go.Proofs.Ytleblllofibfkaa
open Go.RowKit
set_option maxRecDepth 8000

theorem specAccr (A : Acc) (s : Int) (w : World) (ho : okS A) (h : -1000000000000 ≤ s ∧ s ≤ 1000000000000) :
    Calls Try.prog 43 #[.int .i64 s, .int .i64 A.rate, .int .i64 A.carry] w fun e w' => e = .returned (.tuple #[.int .i64 (postX A s), .int .i64 (postC A s), .bool true]) ∧ w' = w := by
  obtain ⟨_, _, _, h4, _, _, h7, _⟩ := ho
  exact specAccrued_yes s A.rate A.carry w h.1 h.2 h4.1 h4.2 h7.1 (by omega)
theorem specAccr_no (A : Acc) (s : Int) (w : World) (h : ¬ (-1000000000000 ≤ s ∧ s ≤ 1000000000000)) :
    Calls Try.prog 43 #[.int .i64 s, .int .i64 A.rate, .int .i64 A.carry] w fun e w' => e = .returned (.tuple #[.int .i64 0, .int .i64 0, .bool false]) ∧ w' = w :=
  specAccrued_no s A.rate A.carry w (by omega)
theorem Calls.over_same {P : Program} {f : FuncId} {args : Array Value} {w v : World} {u : Value}
    (h : Calls P f args (over w v) fun e w' => e = .returned u ∧ w' = over w v) : Calls P f args (over w v) fun e w'' => e = .returned u ∧ ∃ x, w'' = over w x :=
  h.mono fun _ _ ⟨he, hb⟩ => ⟨he, v, hb⟩

theorem toL_set (F : Nat → Acc) (n k : Nat) (A : Acc) : (toL F n).set k A = toL (fun i => if i = k then A else F i) n := by
  apply List.ext_getElem
  · simp [toL]
  · intro i h1 h2
    simp only [toL, List.getElem_set, List.getElem_map, List.getElem_range]
    by_cases e : k = i
    · subst e; simp
    · rw [if_neg e, if_neg (fun e' => e e'.symm)]
theorem AL.post {w : World} {B g c n k : Nat} {F : Nat → Acc} {x y : Int} (h : AL w B (.slice (some ⟨g, 0, none⟩) n c) (toL F n)) (hk : k < n) :
    AL ((w.setCell ⟨g, k * 8 + 6, none⟩ (.int .i64 x)).setCell ⟨g, k * 8 + 7, none⟩ (.int .i64 y)) B (.slice (some ⟨g, 0, none⟩) n c) (toL (fun i => if i = k then { F k with balance := x, carry := y } else F i) n) := by
  have hl : (toL F n).length = n := toL_len F n
  have h0 : AL w B (.slice (some ⟨g, 0, none⟩) (toL F n).length c) (toL F n) := by rw [hl]; exact h
  have h1 := h0.stored (p := k) (by rw [hl]; exact hk) 6 (by omega) (.int .i64 x) { F k with balance := x } (by rw [FL_toL hk]; rfl)
  have h2 := h1.stored (p := k) (by simp [hl]; exact hk) 7 (by omega) (.int .i64 y) { F k with balance := x, carry := y } (by rw [FL_set_at _ (by rw [hl]; exact hk)]; rfl)
  rw [toL_set, toL_set, toL_len] at h2
  refine (congrArg (fun L => AL _ _ _ (toL L n)) ?_).mp h2
  funext i
  by_cases e : i = k <;> simp [e]

theorem same_at {w : World} {B : Nat} {v : Value} {n k : Nat} {F : Nat → Acc} {m : Nat} (h : AL w B v (toL (intF F n k) m)) : AL w B v (toL (fun i => if i = k then F k else intF F n k i) m) := by
  have e : (fun i => if i = k then F k else intF F n k i) = intF F n k := by
    funext i
    by_cases e : i = k
    · subst e; simp [intF_at]
    · simp [e]
  rw [e]; exact h

set_option maxHeartbeats 4000000 in
theorem specInterest (a : Option Addr) (n c : Nat) (F : Nat → Acc) (w : World) (h : Fo w a n F) (hR : Right F n) :
    Calls Try.prog 26 #[.slice a n c] w fun e w' => ∃ v, e = .returned (.tuple #[v, .int .i64 (intS F n n)]) ∧ AL w' w.heap.size v (toL (intF F n n) n) ∧ Below w.heap.size w w' := by
  have H : Hid (Fo w a n F) := h
  have HR : Hid (Right F n) := hR
  have hn := hR.1
  have H0 : Hid (Fo w a n (FL (toL F n))) := h.congr (fun j hj => (FL_toL hj).symm)
  clear h hR
  go_enter Try.func26, Try.ntmps26
  go_wp2_with (go_at_call 42; refine (specCopy2 a n c (toL F n) w (toL_len F n).symm H0.out).mono ?_; rintro e w1 ⟨g, c', rfl, A1, B1⟩)
  rw [toL_len] at *
  have HA1 : Hid (AL w1 w.heap.size (.slice (some ⟨g, 0, none⟩) n c') (toL F n)) := A1
  have HB1 : Hid (Below w.heap.size w w1) := B1
  have hgB := A1.block.1
  clear A1 B1 H0
  go_loopw [6, 5] (fun i p wr => ∃ k : Nat, k ≤ n ∧ i = .int .i64 k ∧ p = .int .i64 (intS F n k) ∧ Hid (AL wr w.heap.size (.slice (some ⟨g, 0, none⟩) n c') (toL (intF F n k) n)) ∧ Hid (Below w.heap.size w wr)) (fun i _ _ => n - (ctr i).toNat)
  case atStart => exact ⟨0, Nat.zero_le _, rfl, rfl, by rw [intF_zero]; exact HA1, HB1⟩
  case round =>
    obtain ⟨k, hk, rfl, rfl, hL, hB⟩ := hrel
    by_cases hlt : k < n
    · obtain ⟨b, o, rfl, hb, hA⟩ := (H.out.below hB.out).acc hlt
      obtain ⟨c0, c1, c2, c3, c4, c5, c6, c7⟩ := hA
      obtain ⟨s1, s2⟩ := intS_bd HR.out k hk
      have s3 : -36000000000 ≤ intS F n k := by omega
      have s4 : intS F n k ≤ 36000000000 := by omega
      have hgl := hL.out.block.2
      clear s1 s2
      by_cases hu : (F k).up = 0
      · by_cases hr : (F k).rate = 0
        · have hE : Hid (¬ earns (F k)) := fun he => he.2 hr
          have hu' : ((F k).up != 0) = false := by simp [hu]
          have hu2 : ((F k).up == 0) = true := by simp [hu]
          have hr2 : ((F k).rate == 0) = true := by simp [hr]
          clear hu hr
          go_wp2
          go_roundw
          case rel => exact ⟨k + 1, by omega, by go_num, by rw [intS_skip hE.out], by rw [intF_skip hE.out]; exact AL.kept hL.out ((Below.refl _ _).alloc (Nat.le_refl _) _), hB.out.alloc hB.out.size _⟩
          case measure => simp [ctr]; omega
        · have hE : Hid (earns (F k)) := ⟨hu, hr⟩
          have hO : Hid (okS (F k)) := HR.out.2.1 k hlt
          have hu' : ((F k).up != 0) = false := by simp [hu]
          have hu2 : ((F k).up == 0) = true := by simp [hu]
          have hr2 : ((F k).rate == 0) = false := by simp [hr]
          clear hu hr
          go_upto_region 8 with fail
          obtain ⟨W, hW⟩ : ∃ W, W = wr.alloc (.cells #[.int .i64 (F k).id, .int .i64 (F k).up, .int .i64 (F k).limit, .int .i64 (F k).rate, .int .i64 (F k).target, .bool (F k).frozen, .int .i64 (F k).balance, .int .i64 (F k).carry] 33) := ⟨_, rfl⟩
          have hXW : Hid (Box W wr.heap.size (F k)) := by rw [hW]; exact Box.new wr (F k) 33
          have hB0 : Below wr.heap.size wr W := by rw [hW]; exact (Below.refl _ _).alloc (Nat.le_refl _) _
          have hBW : Hid (Below w.heap.size w W) := hB.out.trans (hB0.mono hB.out.size)
          have hLW : Hid (AL W w.heap.size (.slice (some ⟨g, 0, none⟩) n c') (toL (intF F n k) n)) := hL.out.kept hB0
          rw [← hW]
          clear hW hB0 c0 c1 c2 c3 c4 c5 c6 c7 hb
          have q : ∀ v j, (over W v).cell? ⟨wr.heap.size, j, none⟩ = W.cell? ⟨wr.heap.size, j, none⟩ := fun v j => (below_over W v).cell (p := ⟨wr.heap.size, j, none⟩) hXW.out.2.2
          have q0 : ∀ v, (over W v).cell? ⟨wr.heap.size, 0, none⟩ = some (.int .i64 (F k).id) := fun v => (q v 0).trans hXW.out.1.1
          have q3 : ∀ v, (over W v).cell? ⟨wr.heap.size, 3, none⟩ = some (.int .i64 (F k).rate) := fun v => (q v 3).trans hXW.out.1.2.2.2.1
          have q7 : ∀ v, (over W v).cell? ⟨wr.heap.size, 7, none⟩ = some (.int .i64 (F k).carry) := fun v => (q v 7).trans hXW.out.1.2.2.2.2.2.2.2
          clear q
          have cS : Hid (∀ v, Calls Try.prog 44 #[.slice (some ⟨b, o, none⟩) n c, .int .i64 (F k).id] (over W v) fun e w' => e = .returned (.int .i64 (sumAll F n k)) ∧ Below (over W v).heap.size (over W v) w') := fun v => specSum _ n c F k _ ((H.out.below hBW.out).below (below_over W v)) HR.out hlt
          have hbal := hO.out.2.2.2.2.2.1
          by_cases hs : -1000000000000 ≤ sumAll F n k ∧ sumAll F n k ≤ 1000000000000
          · have cA : Hid (∀ w, Calls Try.prog 43 #[.int .i64 (sumAll F n k), .int .i64 (F k).rate, .int .i64 (F k).carry] w fun e w' => e = .returned (.tuple #[.int .i64 (postX (F k) (sumAll F n k)), .int .i64 (postC (F k) (sumAll F n k)), .bool true]) ∧ w' = w) := fun w => specAccr (F k) _ w hO.out hs
            have HS : Hid (-1000000000000 ≤ sumAll F n k ∧ sumAll F n k ≤ 1000000000000) := hs
            obtain ⟨x1, x2, y1, y2⟩ := post_bd hO.out hs
            obtain ⟨x, hx⟩ : ∃ x, x = postX (F k) (sumAll F n k) := ⟨_, rfl⟩
            obtain ⟨y, hy⟩ : ∃ y, y = postC (F k) (sumAll F n k) := ⟨_, rfl⟩
            rw [← hx] at cA x1 x2
            rw [← hy] at cA y1 y2
            have HX : Hid (x = postX (F k) (sumAll F n k)) := hx
            have HY : Hid (y = postC (F k) (sumAll F n k)) := hy
            clear hs hx hy
            refine wp_region_over (by kernel_rfl) (by kernel_rfl) ?_
            go_big_quiet_step (fail)
            go_big_quiet_step (fail)
            go_big_quiet_step (fail)
            go_big_quiet_step ((go_at_call 44; exact Calls.over_of (cS.out _)))
            go_big_quiet_step (fail)
            go_big_quiet_step (fail)
            go_big_quiet_step (fail)
            go_big_quiet_step (fail)
            go_big_quiet_step ((go_at_call 43; exact Calls.over_same (cA.out _)))
            go_big_quiet_step (fail)
            go_big_quiet_step (fail)
            go_big_quiet_step (fail)
            go_big_quiet_step (fail)
            go_big_quiet_step (fail)
            go_big_quiet_step (fail)
            go_big_quiet_step (fail)
            refine wpQuiet_nil ?_
            intro V hV
            have hBV : Hid (Below W.heap.size W V) := by obtain ⟨vq, rfl⟩ := hV; exact below_over W vq
            have hXV : Hid (Box V wr.heap.size (F k)) := hXW.out.below hBV.out
            have hLV : Hid (AL V w.heap.size (.slice (some ⟨g, 0, none⟩) n c') (toL (intF F n k) n)) := hLW.out.kept hBV.out
            have hBB : Hid (Below w.heap.size w V) := hBW.out.trans (hBV.out.mono hBW.out.size)
            clear hV q0 q3 q7 cS
            obtain ⟨c0, c1, c2, c3, c4, c5, c6, c7⟩ := hXV.out.1
            have hVl := hXV.out.2.2
            by_cases hp : -1000000000000 ≤ (F k).balance + x ∧ (F k).balance + x ≤ 1000000000000
            · have cI : Hid (∀ w, Calls Try.prog 45 #[.int .i64 ((F k).balance + x), .int .i64 (-1000000000000), .int .i64 1000000000000] w fun e w' => e = .returned (.bool true) ∧ w' = w) := fun w => by have := l1In_any ((F k).balance + x) (-1000000000000) 1000000000000 w; rwa [inB_yes hp] at this
              have hP : Hid (postOk (F k) (sumAll F n k)) := ⟨HS.out, by rw [← HX.out]; exact hp⟩
              clear hp
              have hgV := hLV.out.block.2
              obtain ⟨d0, d1, d2, d3, d4, d5, d6, d7⟩ : AccAt V g (k * 8) (intF F n k k) := by have := AL.acc (L := toL (intF F n k) n) (by rw [toL_len]; exact hLV.out) (i := k) (by rw [toL_len]; exact hlt); rwa [FL_toL hlt] at this
              have hfz : ∀ j, V.frozen? ⟨g, j, none⟩ = false := fun j => AL.frozen (L := toL (intF F n k) n) (by rw [toL_len]; exact hLV.out) j
              have hgw : g ≠ wr.heap.size := by omega
              clear d0 d1 d2 d3 d4 d5
              go_wp2_with (go_at_call 45; refine (cI.out _).mono ?_; rintro e w' ⟨rfl, rfl⟩)
              go_roundw
              case rel =>
                refine ⟨k + 1, by omega, by go_num, ?_, ?_, below_set (below_set hBB.out hgB _ _) hgB _ _⟩
                · rw [intS_hit hE.out]
                  unfold postN
                  rw [if_pos hP.out, ← HX.out]
                · rw [intF_hit hE.out]
                  unfold postA
                  rw [if_pos hP.out, ← HX.out, ← HY.out]
                  have := hLV.out.post (x := (F k).balance + x) (y := y) hlt
                  rw [intF_at] at this
                  exact this
              case measure => simp [ctr]; omega
            · have cI : Hid (∀ w, Calls Try.prog 45 #[.int .i64 ((F k).balance + x), .int .i64 (-1000000000000), .int .i64 1000000000000] w fun e w' => e = .returned (.bool false) ∧ w' = w) := fun w => by have := l1In_any ((F k).balance + x) (-1000000000000) 1000000000000 w; rwa [inB_no hp] at this
              have hP : Hid (¬ postOk (F k) (sumAll F n k)) := fun h => hp (by rw [HX.out]; exact h.2)
              clear hp
              go_wp2_with (go_at_call 45; refine (cI.out _).mono ?_; rintro e w' ⟨rfl, rfl⟩)
              go_roundw
              case rel => exact ⟨k + 1, by omega, by go_num, by rw [intS_hit hE.out, postN, if_neg hP.out, Int.add_zero], by rw [intF_hit hE.out, postA, if_neg hP.out]; exact same_at hLV.out, hBB.out⟩
              case measure => simp [ctr]; omega
          · have cA : Hid (∀ w, Calls Try.prog 43 #[.int .i64 (sumAll F n k), .int .i64 (F k).rate, .int .i64 (F k).carry] w fun e w' => e = .returned (.tuple #[.int .i64 0, .int .i64 0, .bool false]) ∧ w' = w) := fun w => specAccr_no (F k) _ w hs
            have hP : Hid (¬ postOk (F k) (sumAll F n k)) := fun h => hs h.1
            clear hs
            refine wp_region_over (by kernel_rfl) (by kernel_rfl) ?_
            go_big_quiet_step (fail)
            go_big_quiet_step (fail)
            go_big_quiet_step (fail)
            go_big_quiet_step ((go_at_call 44; exact Calls.over_of (cS.out _)))
            go_big_quiet_step (fail)
            go_big_quiet_step (fail)
            go_big_quiet_step (fail)
            go_big_quiet_step (fail)
            go_big_quiet_step ((go_at_call 43; exact Calls.over_same (cA.out _)))
            go_big_quiet_step (fail)
            go_big_quiet_step (fail)
            go_big_quiet_step (fail)
            go_big_quiet_step (fail)
            go_big_quiet_step (fail)
            go_big_quiet_step (fail)
            go_big_quiet_step (fail)
            refine wpQuiet_nil ?_
            intro V hV
            have hBV : Hid (Below W.heap.size W V) := by obtain ⟨vq, rfl⟩ := hV; exact below_over W vq
            have hXV : Hid (Box V wr.heap.size (F k)) := hXW.out.below hBV.out
            have hLV : Hid (AL V w.heap.size (.slice (some ⟨g, 0, none⟩) n c') (toL (intF F n k) n)) := hLW.out.kept hBV.out
            have hBB : Hid (Below w.heap.size w V) := hBW.out.trans (hBV.out.mono hBW.out.size)
            clear hV q0 q3 q7 cS
            obtain ⟨c0, c1, c2, c3, c4, c5, c6, c7⟩ := hXV.out.1
            have hVl := hXV.out.2.2
            go_wp2
            go_roundw
            case rel => exact ⟨k + 1, by omega, by go_num, by rw [intS_hit hE.out, postN, if_neg hP.out, Int.add_zero], by rw [intF_hit hE.out, postA, if_neg hP.out]; exact same_at hLV.out, hBB.out⟩
            case measure => simp [ctr]; omega
      · have hE : Hid (¬ earns (F k)) := fun he => hu he.1
        have hu' : ((F k).up != 0) = true := by simp [hu]
        have hu2 : ((F k).up == 0) = false := by simp [hu]
        clear hu
        go_wp2
        go_roundw
        case rel => exact ⟨k + 1, by omega, by go_num, by rw [intS_skip hE.out], by rw [intF_skip hE.out]; exact AL.kept hL.out ((Below.refl _ _).alloc (Nat.le_refl _) _), hB.out.alloc hB.out.size _⟩
        case measure => simp [ctr]; omega
    · obtain rfl : k = n := by omega
      go_wp2
      refine bodyPost_ret (v := .tuple #[.slice (some ⟨g, 0, none⟩) k c', .int .i64 (intS F k k)]) (by simp [results, Try.results26, go_sem]) rfl ?_
      exact ⟨_, rfl, hL.out, hB.out⟩
end Go.Proofs.Ytleblllofibfkaa
