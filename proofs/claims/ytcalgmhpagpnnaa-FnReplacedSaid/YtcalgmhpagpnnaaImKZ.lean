/- The program's DiskOk. Conditions: the disk's lists lie in memory, at most 1048576 of each, of at most 1048576 bytes. -/
import Derived.Test.YtcalgmhpagpnnaaImF
import Derived.Test.YtcalgmhpagpnnaaDmK
import Derived.Deep.RegionWith
namespace Go.Proofs.Ytcalgmhpagpnnaa
open Go.RowKit Go.Maps
set_option maxRecDepth 8000

theorem implFiles_b {F : Nat → Fl} {n : Nat} {x : Bool} (hx : filesB (lst F n) = x) (a : Option Addr) (c : Nat) (w : World) (h : Fls w a n F) (hS : byt (lst F n) ≤ 1048576) :
    Calls Try.prog 41 #[.slice a n c] w fun e w' => e = .returned (.bool x) ∧ Below w.heap.size w w' := by
  have := implFiles a n c F w h (by omega)
  rwa [hx] at this
/-- What the ops have made so far, as a folder. -/
def NowI (w : World) (B b : Nat) (L : List Fl) (O : Nat → Dp) (k : Nat) : Prop :=
  ∃ T, Fd w B b T ∧ runF L (lst O k) = some (T.map Ent.f) ∧ filesB (T.map Ent.f) = true
theorem nm_small {T : List Ent} (h : filesB (T.map Ent.f) = true) : T.length ≤ 60 ∧ (∀ t ∈ T, t.name.size ≤ 1048576) ∧ byt (T.map Ent.f) ≤ 200000 := by
  have h' := filesB_iff.1 h
  refine ⟨by simpa using h'.1.1, fun t ht => ?_, h'.1.2⟩
  have := h'.2.1 t.f (List.mem_map.2 ⟨t, ht, rfl⟩)
  have h0 : nmOk t.name = true := this
  have h1 : 1 ≤ t.name.size ∧ t.name.size ≤ 100 := by simpa [nmOk] using h0
  omega

set_option maxHeartbeats 4000000 in
theorem implDisk_in (a b d : Option Addr) (n m q c c' c'' : Nat) (F G : Nat → Fl) (O : Nat → Dp) (w : World) (h : Dk w a n F b m G d q O) (h1 : filesB (lst F n) = true) (h2 : filesB (lst G m) = true) (h3 : q ≤ 200) :
    Calls Try.prog 14 #[.agg #[.slice a n c, .slice b m c', .slice d q c'']] w fun e w' => e = .returned (.bool (diskB (lst F n) (lst G m) (lst O q))) ∧ Below w.heap.size w w' := by
  have H : Hid (Dk w a n F b m G d q O) := h
  have H1 : Hid (filesB (lst F n) = true) := h1
  have H2 : Hid (filesB (lst G m) = true) := h2
  clear h h1 h2
  have hq : (q : Int) ≤ 200 := by omega
  have B0 : Hid (Below w.heap.size w (w.alloc (dkBox a n c b m c' d q c'' 27))) := (Below.refl _ _).alloc (Nat.le_refl _) _
  have HL : Hid (∀ W, Below w.heap.size w W → Calls Try.prog 41 #[.slice a n c] W fun e w' => e = .returned (.bool true) ∧ Below W.heap.size W w') := fun W hW => implFiles_b H1.out a c W (H.out.live.below hW) H.out.sl
  have HS : Hid (∀ W, Below w.heap.size w W → Calls Try.prog 41 #[.slice b m c'] W fun e w' => e = .returned (.bool true) ∧ Below W.heap.size W w') := fun W hW => implFiles_b H2.out b c' W (H.out.safe.below hW) H.out.ss
  have HFO : Hid (∀ W, Below w.heap.size w W → Calls Try.prog 42 #[.slice b m c'] W fun e w' => e = .returned (.map (some W.heap.size)) ∧ (∃ T, Fd w' W.heap.size W.heap.size T ∧ T.map Ent.f = lst G m) ∧ Below W.heap.size W w') := fun W hW => implFolder b m c' G W (H.out.safe.below hW) (filesB_iff.1 H2.out).2.2 (fun i hi => by
    have hm : G i ∈ lst G m := lst_mem.2 ⟨i, hi, rfl⟩
    have := (filesB_iff.1 H2.out).2.1 _ hm
    have : 1 ≤ (G i).name.size ∧ (G i).name.size ≤ 100 := by simpa [nmOk] using this
    have := byt_mem hm
    have := H.out.ss
    omega)
  go_enter Try.func14, Try.ntmps14
  go_wp2_with fail
  refine (HL.out _ B0.out).mono ?_
  rintro e w1 ⟨rfl, B1⟩
  have bx1 : ∀ j, w1.cell? ⟨w.heap.size, j, none⟩ = (w.alloc (dkBox a n c b m c' d q c'' 27)).cell? ⟨w.heap.size, j, none⟩ := fun j => B1.cell (p := ⟨w.heap.size, j, none⟩) (by simp)
  have x1 : w1.cell? ⟨w.heap.size, 1, none⟩ = some (.slice b m c') := by rw [bx1]; simp [go_sem]
  have B1' : Hid (Below w.heap.size w w1) := B0.out.trans (B1.mono B0.out.size)
  have hs1 : w.heap.size < w1.heap.size := Nat.lt_of_lt_of_le (by simp) B1.size
  clear B1
  go_wp2_with fail
  refine (HS.out _ B1'.out).mono ?_
  rintro e w2 ⟨rfl, B2⟩
  have bx2 : ∀ j, w2.cell? ⟨w.heap.size, j, none⟩ = (w.alloc (dkBox a n c b m c' d q c'' 27)).cell? ⟨w.heap.size, j, none⟩ := fun j => (B2.cell (p := ⟨w.heap.size, j, none⟩) hs1).trans (bx1 j)
  have B2' : Hid (Below w.heap.size w w2) := B1'.out.trans (B2.mono B1'.out.size)
  have y1 : w2.cell? ⟨w.heap.size, 1, none⟩ = some (.slice b m c') := by rw [bx2]; simp [go_sem]
  have y2 : w2.cell? ⟨w.heap.size, 2, none⟩ = some (.slice d q c'') := by rw [bx2]; simp [go_sem]
  have hs2 : w.heap.size < w2.heap.size := Nat.lt_of_lt_of_le hs1 B2.size
  clear B2 x1 bx1
  go_wp2_with fail
  refine (HFO.out _ B2'.out).mono ?_
  rintro e w3 ⟨rfl, ⟨T0, F0, hT0⟩, B3⟩
  have N0 : Hid (NowI w3 w2.heap.size w2.heap.size (lst G m) O 0) := ⟨T0, F0, by rw [hT0]; rfl, by rw [hT0]; exact H2.out⟩
  have z0 : w3.cell? ⟨w.heap.size, 0, none⟩ = some (.slice a n c) := by rw [B3.cell (p := ⟨w.heap.size, 0, none⟩) hs2, bx2]; simp [go_sem]
  have z2 : w3.cell? ⟨w.heap.size, 2, none⟩ = some (.slice d q c'') := by rw [B3.cell (p := ⟨w.heap.size, 2, none⟩) hs2, bx2]; simp [go_sem]
  have B3' : Hid (Below w2.heap.size w2 w3) := B3
  clear B3 F0 hT0 T0 bx2 y1 y2
  go_wp2
  go_loopw [28] (fun i wr => ∃ k : Nat, k ≤ q ∧ i = .int .i64 k ∧ Hid (NowI wr w2.heap.size w2.heap.size (lst G m) O k) ∧ Hid (Below w2.heap.size w2 wr)) (fun i _ => q - (intOf i).toNat)
  case atStart => exact ⟨0, Nat.zero_le _, rfl, N0, B3'⟩
  case round =>
    obtain ⟨k, hk, rfl, hN, hB⟩ := hrel
    clear N0
    have zz0 := (hB.out.cell (p := ⟨w.heap.size, 0, none⟩) hs2).trans ((B3'.out.cell (p := ⟨w.heap.size, 0, none⟩) hs2).symm.trans z0)
    have BW : Hid (Below w.heap.size w wr) := B2'.out.trans (hB.out.mono B2'.out.size)
    clear z0 z2
    obtain ⟨T, hF, hrun, hok⟩ := hN.out
    have HF : Hid (Fd wr w2.heap.size w2.heap.size T) := hF
    have HRUN : Hid (runF (lst G m) (lst O k) = some (T.map Ent.f)) := hrun
    have HOK : Hid (filesB (T.map Ent.f) = true) := hok
    clear hF hrun hok hN
    by_cases hlt : k < q
    · obtain ⟨ob, oo, rfl, hob0, hA0⟩ := H.out.ops.acc hlt
      have hob : ob < wr.heap.size := Nat.lt_of_lt_of_le hob0 BW.out.size
      obtain ⟨c0, c1, c2, c3⟩ := hA0.of_cells (w' := wr) (fun q => BW.out.cell (p := ⟨ob, q, none⟩) hob0)
      have HBV : Hid (byt (T.map Ent.f) + (O k).data.size ≤ 1099511627776) := (by have := (nm_small HOK.out).2.2; have := H.out.so k hlt; omega : byt (T.map Ent.f) + (O k).data.size ≤ 1099511627776)
      have HF1 : Hid (Fd (wr.alloc (.cells #[.int .i64 (O k).kind, .string (O k).name, .string (O k).dst, .string (O k).data] 36)) w2.heap.size w2.heap.size T) := HF.out.below ((Below.refl _ _).alloc (Nat.le_refl _) _) (Nat.le_refl _)
      have HB1 : Hid (Below w2.heap.size w2 (wr.alloc (.cells #[.int .i64 (O k).kind, .string (O k).name, .string (O k).dst, .string (O k).data] 36))) := hB.out.alloc hB.out.size _
      clear hA0
      go_wp2_with fail
      refine (implIn w2.heap.size w2.heap.size T (O k) _ HF1.out HB1.out.size (by have := (nm_small HOK.out).1; omega) HBV.out).mono ?_
      rintro e w4 ⟨r, rfl, B4, hr⟩
      have B4' : Hid (Below w2.heap.size w2 w4) := HB1.out.trans B4
      have NO : stepF (T.map Ent.f) (O k) = none → diskB (lst F n) (lst G m) (lst O q) = false := fun hs => disk_no_run (run_stop hlt HRUN.out hs)
      clear B4 HF1 HB1 c0 c1 c2 c3
      rcases hr with ⟨rfl, hf⟩ | ⟨rfl, hf, hd⟩ | ⟨rfl, hf, M, hd, hfit⟩ | ⟨rfl, hf, M, hd, hfit, T', hF', hT'⟩
      · have E : Hid (diskB (lst F n) (lst G m) (lst O q) = false) := NO (step_no_form hf)
        clear NO hf
        go_wp2
        go_ret
        exact ⟨retB E.out, B2'.out.trans (B4'.out.mono B2'.out.size)⟩
      · have E : Hid (diskB (lst F n) (lst G m) (lst O q) = false) := NO (step_no_do hd)
        clear NO hf hd
        go_wp2
        go_ret
        exact ⟨retB E.out, B2'.out.trans (B4'.out.mono B2'.out.size)⟩
      · have E : Hid (diskB (lst F n) (lst G m) (lst O q) = false) := NO (step_no_fits hd hfit)
        clear NO hf hd hfit
        go_wp2
        go_ret
        exact ⟨retB E.out, B2'.out.trans (B4'.out.mono B2'.out.size)⟩
      · have HNX : Hid (NowI w4 w2.heap.size w2.heap.size (lst G m) O (k + 1)) := ⟨T', hF', by rw [hT']; exact run_next HRUN.out (step_yes hd hf hfit), by rw [hT', step_files HOK.out hf hd]; exact hfit⟩
        clear NO hf hd hfit hF' hT'
        go_wp2
        go_roundw
        case rel => exact ⟨k + 1, by omega, by go_num, HNX, B4'⟩
        case measure => simp [intOf]; omega
    · obtain rfl : k = q := by omega
      obtain ⟨ml, V, hLI, hE⟩ : ∃ (ml : Nat) (V : Nat → Fl), (∀ W, Fd W w2.heap.size w2.heap.size T → Calls Try.prog 45 #[.map (some w2.heap.size)] W fun e w' => ∃ va vc, e = .returned (.slice va ml vc) ∧ Fls w' va ml V ∧ Below W.heap.size W w') ∧ diskB (lst F n) (lst G m) (lst O k) = sameL V F ml n := by
        refine ⟨(T.map Ent.f).length, FlF (T.map Ent.f), fun W hW => ?_, ?_⟩
        · refine (implList w2.heap.size w2.heap.size T W hW (by have := (nm_small HOK.out).1; omega) (nm_small HOK.out).2.1).mono ?_
          rintro e w6 ⟨⟨v6, rfl, A6⟩, B6⟩
          obtain ⟨x, y, hx, _, _⟩ := A6.shape
          subst hx
          exact ⟨x, y, rfl, (A6.list (by rw [List.length_map]; have := (nm_small HOK.out).1; omega)).2, B6⟩
        · have hl : lst (FlF (T.map Ent.f)) (T.map Ent.f).length = T.map Ent.f := lst_getD _ _
          rw [disk_end H1.out H2.out (by rw [lst_len]; omega) HRUN.out]
          cases hs : sameL (FlF (T.map Ent.f)) F (T.map Ent.f).length n
          · refine decide_eq_false fun e => ?_
            rw [sameL_iff.2 (by rw [hl]; exact e)] at hs
            cases hs
          · have := sameL_iff.1 hs
            rw [hl] at this
            exact decide_eq_true this
      have E : Hid (diskB (lst F n) (lst G m) (lst O k) = sameL V F ml n) := hE
      have HFD : Fd wr.drew w2.heap.size w2.heap.size T := HF.out.kept fun _ _ _ => rfl
      have CL : Hid (Calls Try.prog 45 #[.map (some w2.heap.size)] wr.drew fun e w' => ∃ va vc, e = .returned (.slice va ml vc) ∧ Fls w' va ml V ∧ Below wr.drew.heap.size wr.drew w') := hLI _ HFD
      have BD : Hid (Below w.heap.size w wr.drew) := BW.out.drew
      have hsw : w.heap.size < wr.drew.heap.size := Nat.lt_of_lt_of_le hs2 hB.out.size
      have zd0 : wr.drew.cell? ⟨w.heap.size, 0, none⟩ = some (.slice a n c) := zz0
      have HLV : Hid (∀ W, Below w.heap.size w W → Fls W a n F) := fun W hW => H.out.live.below hW
      clear HFD hLI hE HF HRUN HOK B2' hq HL HS HFO B0 H1 H2 H B1' B3' hB BW
      go_wp2
      go_region_with (first | (go_at_call 45; refine CL.out.mono ?_; rintro e w6 ⟨va, vc, rfl, HL6, B6⟩; have X6 : Hid (Below w.heap.size w w6 ∧ Fls w6 va ml V) := ⟨BD.out.trans (B6.mono BD.out.size), HL6⟩; have z6 : w6.cell? ⟨w.heap.size, 0, none⟩ = some (.slice a n c) := (B6.cell (p := ⟨w.heap.size, 0, none⟩) hsw).trans zd0; clear HL6 B6) | (go_at_call 44; refine (implEqual va a ml n vc c V F w6 X6.out.2 (HLV.out _ X6.out.1)).mono ?_; rintro e w7 ⟨rfl, B7⟩; have X7 : Hid (Below w.heap.size w w7) := X6.out.1.trans (B7.mono X6.out.1.size); clear B7))
      all_goals go_wp2
      all_goals go_ret
      all_goals exact ⟨retB E.out, X7.out⟩
end Go.Proofs.Ytcalgmhpagpnnaa

/- The program's DiskOk, of whatever disk. Conditions: the disk's lists lie in memory, at most 1048576 of each, of at most 1048576 bytes. -/
namespace Go.Proofs.Ytcalgmhpagpnnaa
open Go.RowKit
set_option maxRecDepth 8000

set_option maxHeartbeats 1000000 in
theorem implDisk (a b d : Option Addr) (n m q c c' c'' : Nat) (F G : Nat → Fl) (O : Nat → Dp) (w : World) (h : Dk w a n F b m G d q O) :
    Calls Try.prog 14 #[.agg #[.slice a n c, .slice b m c', .slice d q c'']] w fun e w' => e = .returned (.bool (diskB (lst F n) (lst G m) (lst O q))) ∧ Below w.heap.size w w' := by
  have B0 : Hid (Below w.heap.size w (w.alloc (dkBox a n c b m c' d q c'' 27))) := (Below.refl _ _).alloc (Nat.le_refl _) _
  cases h1 : filesB (lst F n)
  · have H : Hid (Dk w a n F b m G d q O) := h
    have H1 : Hid (filesB (lst F n) = false) := h1
    have E : Hid (diskB (lst F n) (lst G m) (lst O q) = false) := disk_no_live h1
    clear h h1
    go_enter Try.func14, Try.ntmps14
    go_wp2_with (go_at_call 41; refine (implFiles_b H1.out a c _ (H.out.live.below B0.out) H.out.sl).mono ?_; rintro e w1 ⟨rfl, B1⟩)
    go_ret
    exact ⟨retB E.out, B0.out.trans (B1.mono B0.out.size)⟩
  cases h2 : filesB (lst G m)
  · have H : Hid (Dk w a n F b m G d q O) := h
    have H1 : Hid (filesB (lst F n) = true) := h1
    have H2 : Hid (filesB (lst G m) = false) := h2
    have E : Hid (diskB (lst F n) (lst G m) (lst O q) = false) := disk_no_safe h2
    clear h h1 h2
    go_enter Try.func14, Try.ntmps14
    go_wp2_with fail
    refine (implFiles_b H1.out a c _ (H.out.live.below B0.out) H.out.sl).mono ?_
    rintro e w1 ⟨rfl, B1⟩
    have x1 : w1.cell? ⟨w.heap.size, 1, none⟩ = some (.slice b m c') := by rw [B1.cell (p := ⟨w.heap.size, 1, none⟩) (by simp)]; simp [go_sem]
    have B1' : Hid (Below w.heap.size w w1) := B0.out.trans (B1.mono B0.out.size)
    clear B1
    go_wp2_with (go_at_call 41; refine (implFiles_b H2.out b c' _ (H.out.safe.below B1'.out) H.out.ss).mono ?_; rintro e w2 ⟨rfl, B2⟩)
    go_ret
    exact ⟨retB E.out, B1'.out.trans (B2.mono B1'.out.size)⟩
  by_cases h3 : q ≤ 200
  · exact implDisk_in a b d n m q c c' c'' F G O w h h1 h2 h3
  · have H : Hid (Dk w a n F b m G d q O) := h
    have H1 : Hid (filesB (lst F n) = true) := h1
    have H2 : Hid (filesB (lst G m) = true) := h2
    have E : Hid (diskB (lst F n) (lst G m) (lst O q) = false) := disk_no_many (by rw [lst_len]; omega)
    have h3' : (200 : Int) < (q : Int) := by omega
    have hqq := h.ops.1
    clear h h1 h2
    go_enter Try.func14, Try.ntmps14
    go_wp2_with fail
    refine (implFiles_b H1.out a c _ (H.out.live.below B0.out) H.out.sl).mono ?_
    rintro e w1 ⟨rfl, B1⟩
    have x1 : w1.cell? ⟨w.heap.size, 1, none⟩ = some (.slice b m c') := by rw [B1.cell (p := ⟨w.heap.size, 1, none⟩) (by simp)]; simp [go_sem]
    have x2 : w1.cell? ⟨w.heap.size, 2, none⟩ = some (.slice d q c'') := by rw [B1.cell (p := ⟨w.heap.size, 2, none⟩) (by simp)]; simp [go_sem]
    have hs1 : w.heap.size < w1.heap.size := Nat.lt_of_lt_of_le (by simp) B1.size
    have B1' : Hid (Below w.heap.size w w1) := B0.out.trans (B1.mono B0.out.size)
    clear B1
    go_wp2_with fail
    refine (implFiles_b H2.out b c' _ (H.out.safe.below B1'.out) H.out.ss).mono ?_
    rintro e w2 ⟨rfl, B2⟩
    have y2 := (B2.cell (p := ⟨w.heap.size, 2, none⟩) hs1).trans x2
    have B2' : Hid (Below w.heap.size w w2) := B1'.out.trans (B2.mono B1'.out.size)
    clear B2 x2
    go_wp2
    go_ret
    exact ⟨retB E.out, B2'.out⟩
end Go.Proofs.Ytcalgmhpagpnnaa
