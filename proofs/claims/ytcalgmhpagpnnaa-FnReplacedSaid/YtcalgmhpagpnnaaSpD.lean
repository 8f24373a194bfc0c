/- l7Do: what an op does to files. Conditions: the files lie in memory and rise by their names, at most 1048576 of them; at most 2^41 bytes. -/
import Derived.Test.YtcalgmhpagpnnaaSpAN
import Derived.Test.YtcalgmhpagpnnaaSpPC
import Derived.Test.YtcalgmhpagpnnaaNws
import Derived.StillTailTactics
namespace Go.Proofs.Ytcalgmhpagpnnaa
open Go.RowKit
set_option maxRecDepth 8000

/-- What l7Do comes to. -/
def DoOut (L : List Fl) (o : Dp) (w : World) (e : Ending) (w' : World) : Prop :=
  (∃ v, e = .returned (.tuple #[v, .bool (doF L o).isSome]) ∧ FlL w' w.heap.size v ((doF L o).getD L)) ∧ Below w.heap.size w w'
theorem DoOut.yes {L M : List Fl} {o : Dp} {w w' : World} {v : Value} (h : doF L o = some M) (hA : FlL w' w.heap.size v M) (hB : Below w.heap.size w w') : DoOut L o w (.returned (.tuple #[v, .bool true])) w' :=
  ⟨⟨v, by rw [h]; rfl, by rw [h]; exact hA⟩, hB⟩
theorem DoOut.no {L : List Fl} {o : Dp} {w w' : World} {v : Value} (h : doF L o = none) (hA : FlL w' w.heap.size v L) (hB : Below w.heap.size w w') : DoOut L o w (.returned (.tuple #[v, .bool false])) w' :=
  ⟨⟨v, by rw [h]; rfl, by rw [h]; exact hA⟩, hB⟩
theorem byt_mem {L : List Fl} {f : Fl} (h : f ∈ L) : f.data.size ≤ byt L := by
  unfold byt
  induction L with
  | nil => cases h
  | cons g r ih =>
    simp only [List.map_cons, List.sum_cons]
    rcases List.mem_cons.1 h with e | h
    · subst e; omega
    · have := ih h; omega

set_option maxHeartbeats 2000000 in
theorem specDo_1 (a : Option Addr) (n c : Nat) (F : Nat → Fl) (nm ds dt : ByteArray) (w : World) (h : Fls w a n F) (hR : Ris Fl.name (lst F n)) (hS : byt (lst F n) + dt.size ≤ 2199023255552) :
    Calls Try.prog 47 #[.slice a n c, .agg #[.int .i64 1, .string nm, .string ds, .string dt]] w fun e w' => DoOut (lst F n) (⟨1, nm, ds, dt⟩ : Dp) w e w' := by
  have H : Hid (Fls w a n F) := h
  have HR : Hid (Ris Fl.name (lst F n)) := hR
  have HS : Hid (byt (lst F n) + dt.size ≤ 2199023255552) := hS
  have hn := h.1
  clear h hR hS
  have B0 : Hid (Below w.heap.size w (w.alloc (.cells #[.int .i64 1, .string nm, .string ds, .string dt] 36))) := (Below.refl _ _).alloc (Nat.le_refl _) _
  have H0 : Hid (Fls (w.alloc (.cells #[.int .i64 1, .string nm, .string ds, .string dt] 36)) a n F) := H.out.alloc _
  go_enter Try.func47, Try.ntmps47
  go_wp2_with fail
  refine (specAt a n c F nm _ H0.out).mono ?_
  rintro e w1 ⟨⟨r, rfl, hr⟩, hw1⟩
  subst w1
  rcases hr with ⟨rfl, hg⟩ | ⟨p, rfl, hp, hpn, hg⟩
  · have HG : Hid (getN Fl.name nm (lst F n) = none) := hg
    clear hg
    have hD : Hid (doF (lst F n) (⟨1, nm, ds, dt⟩ : Dp) = some (putN Fl.name ⟨nm, dt⟩ (lst F n))) := (by unfold doF; simp [HG.out] : doF (lst F n) (⟨1, nm, ds, dt⟩ : Dp) = some (putN Fl.name ⟨nm, dt⟩ (lst F n)))
    go_wp2_with (go_at_call 81; refine (specPut _ n c F nm dt _ H0.out HR.out).mono ?_; rintro e w2 ⟨⟨v, rfl, A2⟩, B2⟩)
    have A3 : Hid (FlL w2 w.heap.size v (putN Fl.name ⟨nm, dt⟩ (lst F n))) := A2.mono (by simp)
    have B3 : Hid (Below w.heap.size w w2) := B0.out.trans (B2.mono B0.out.size)
    clear A2 B2
    go_ret2
    exact DoOut.yes hD.out A3.out B3.out
  · have HG : Hid (getN Fl.name nm (lst F n) = some (F p)) := hg
    have hp0 : (0 : Int) ≤ (p : Int) := by omega
    obtain ⟨b, o, rfl, hb0, hA0⟩ := H.out.acc hp
    obtain ⟨c0, c1⟩ := hA0.of_cells (w' := w.alloc (.cells #[.int .i64 1, .string nm, .string ds, .string dt] 36)) (fun q => B0.out.cell (p := ⟨b, q, none⟩) hb0)
    clear hA0 hg hpn
    have hD : Hid (doF (lst F n) (⟨1, nm, ds, dt⟩ : Dp) = some (putN Fl.name ⟨nm, (F p).data ++ dt⟩ (lst F n))) := (by unfold doF; simp [HG.out] : doF (lst F n) (⟨1, nm, ds, dt⟩ : Dp) = some (putN Fl.name ⟨nm, (F p).data ++ dt⟩ (lst F n)))
    have hsz : (F p).data.size + dt.size ≤ 2199023255552 := Nat.le_trans (Nat.add_le_add_right (byt_mem (lst_mem.2 ⟨p, hp, rfl⟩)) _) HS.out
    go_wp2_with (go_at_call 81; refine (specPut _ n c F nm ((F p).data ++ dt) _ H0.out HR.out).mono ?_; rintro e w2 ⟨⟨v, rfl, A2⟩, B2⟩)
    have A3 : Hid (FlL w2 w.heap.size v (putN Fl.name ⟨nm, ((F p).data ++ dt)⟩ (lst F n))) := A2.mono (by simp)
    have B3 : Hid (Below w.heap.size w w2) := B0.out.trans (B2.mono B0.out.size)
    clear A2 B2
    go_ret2
    exact DoOut.yes hD.out A3.out B3.out

set_option maxHeartbeats 2000000 in
theorem specDo_2 (a : Option Addr) (n c : Nat) (F : Nat → Fl) (nm ds dt : ByteArray) (w : World) (h : Fls w a n F) (hR : Ris Fl.name (lst F n)) (hS : byt (lst F n) + dt.size ≤ 2199023255552) :
    Calls Try.prog 47 #[.slice a n c, .agg #[.int .i64 2, .string nm, .string ds, .string dt]] w fun e w' => DoOut (lst F n) (⟨2, nm, ds, dt⟩ : Dp) w e w' := by
  have H : Hid (Fls w a n F) := h
  have HR : Hid (Ris Fl.name (lst F n)) := hR
  have HS : Hid (byt (lst F n) + dt.size ≤ 2199023255552) := hS
  have hn := h.1
  clear h hR hS
  have B0 : Hid (Below w.heap.size w (w.alloc (.cells #[.int .i64 2, .string nm, .string ds, .string dt] 36))) := (Below.refl _ _).alloc (Nat.le_refl _) _
  have H0 : Hid (Fls (w.alloc (.cells #[.int .i64 2, .string nm, .string ds, .string dt] 36)) a n F) := H.out.alloc _
  go_enter Try.func47, Try.ntmps47
  go_wp2_with fail
  refine (specAt a n c F nm _ H0.out).mono ?_
  rintro e w1 ⟨⟨r, rfl, hr⟩, hw1⟩
  subst w1
  rcases hr with ⟨rfl, hg⟩ | ⟨p, rfl, hp, hpn, hg⟩
  · have HG : Hid (getN Fl.name nm (lst F n) = none) := hg
    clear hg
    obtain ⟨i0, hi, hz0, hz1, hz2⟩ := info_parts infoFl
    have hD : Hid (doF (lst F n) (⟨2, nm, ds, dt⟩ : Dp) = none) := (by unfold doF; simp only [HG.out]; rfl : doF (lst F n) (⟨2, nm, ds, dt⟩ : Dp) = none)
    have A0 : Hid (FlL ((w.alloc (.cells #[.int .i64 2, .string nm, .string ds, .string dt] 36)).alloc (.cells #[] 75)) w.heap.size (.slice (some ⟨w.heap.size + 1, 0, none⟩) 0 0) []) := (by
      have := FlL.empty (w.alloc (.cells #[.int .i64 2, .string nm, .string ds, .string dt] 36)) w.heap.size (by simp)
      simpa using this : FlL ((w.alloc (.cells #[.int .i64 2, .string nm, .string ds, .string dt] 36)).alloc (.cells #[] 75)) w.heap.size (.slice (some ⟨w.heap.size + 1, 0, none⟩) 0 0) [])
    have B1 : Hid (Below w.heap.size w ((w.alloc (.cells #[.int .i64 2, .string nm, .string ds, .string dt] 36)).alloc (.cells #[] 75))) := B0.out.alloc (by simp) _
    have H1 : Hid (Fls ((w.alloc (.cells #[.int .i64 2, .string nm, .string ds, .string dt] 36)).alloc (.cells #[] 75)) a n F) := H0.out.alloc _
    cases a with
    | none =>
      have h0 : n = 0 := by
        rcases H.out.2 with h0 | ⟨b, o, ha, _⟩
        · exact h0
        · cases ha
      subst h0
      go_wp2
      go_ret2
      exact DoOut.no hD.out A0.out B1.out
    | some q =>
      have hlen : Hid ((lst F n).length = n) := lst_len F n
      go_wp2_with (at_builtin; refine wpList_append_own _ rfl _ _ 24 rfl w.heap.size 75 i0 _ 2 32 Try.underlying24 hi hz0 hz1 hz2 rfl (by decide) _ _ _ rfl A0.out q n c ((lst F n).flatMap FlC) rfl (by rw [flatFl_len, hlen.out]) H1.out.news (Fls.ones _) (by unfold maxLen; simp; omega) (by simp; omega) (by simp; omega) ?_; intro v1 w1 hown hgrow _)
      have A2 : Hid (FlL w1 w.heap.size v1 (lst F n)) := by
        show FlL w1 w.heap.size v1 (lst F n)
        unfold FlL
        rw [hlen.out]
        simpa using hown
      have B2 : Hid (Below w.heap.size w w1) := B1.out.grown hgrow (by simp; omega) A0.out.lt
      go_ret2
      exact DoOut.no hD.out A2.out B2.out
  · have HG : Hid (getN Fl.name nm (lst F n) = some (F p)) := hg
    have hp0 : (0 : Int) ≤ (p : Int) := by omega
    obtain ⟨b, o, rfl, hb0, hA0⟩ := H.out.acc hp
    obtain ⟨c0, c1⟩ := hA0.of_cells (w' := w.alloc (.cells #[.int .i64 2, .string nm, .string ds, .string dt] 36)) (fun q => B0.out.cell (p := ⟨b, q, none⟩) hb0)
    clear hA0 hg hpn
    have hD : Hid (doF (lst F n) (⟨2, nm, ds, dt⟩ : Dp) = some (putN Fl.name ⟨ds, (F p).data⟩ (cutN Fl.name nm (lst F n)))) := (by unfold doF; simp only [HG.out]; rfl : doF (lst F n) (⟨2, nm, ds, dt⟩ : Dp) = some (putN Fl.name ⟨ds, (F p).data⟩ (cutN Fl.name nm (lst F n))))
    go_wp2_with fail
    refine (specCut _ n c F nm _ H0.out).mono ?_
    rintro e w2 ⟨⟨v, rfl, A2⟩, B2⟩
    have A3 : Hid (FlL w2 w.heap.size v (cutN Fl.name nm (lst F n))) := A2.mono (by simp)
    have B3 : Hid (Below w.heap.size w w2) := B0.out.trans (B2.mono B0.out.size)
    have bx : ∀ q, w2.cell? ⟨w.heap.size, q, none⟩ = (w.alloc (.cells #[.int .i64 2, .string nm, .string ds, .string dt] 36)).cell? ⟨w.heap.size, q, none⟩ := fun q => B2.cell (p := ⟨w.heap.size, q, none⟩) (by simp)
    obtain ⟨va, vc, hv⟩ : ∃ va vc, v = .slice va (cutN Fl.name nm (lst F n)).length vc := by
      obtain ⟨x, y, h, _, _⟩ := A3.out.shape
      exact ⟨x, y, h⟩
    subst hv
    clear A2
    have d1 : w2.cell? ⟨b, o + p * 2 + 1, none⟩ = some (.string (F p).data) := (B2.cell (p := ⟨b, o + p * 2 + 1, none⟩) (by simp; omega)).trans c1
    clear B2 c0 c1
    have HC : Hid (Ris Fl.name (cutN Fl.name nm (lst F n))) := HR.out.cut nm
    have hle : (cutN Fl.name nm (lst F n)).length ≤ 1048576 := by
      unfold cutN
      have := List.length_filter_le (fun y : Fl => !decide (y.name = nm)) (lst F n)
      rw [lst_len] at this
      omega
    have HL := (A3.out.list hle).2
    have HP : Hid (∀ W, Below w2.heap.size w2 W → Calls Try.prog 81 #[.slice va (cutN Fl.name nm (lst F n)).length vc, .string ds, .string (F p).data] W fun e w' => (∃ v, e = .returned v ∧ FlL w' W.heap.size v (putN Fl.name ⟨ds, (F p).data⟩ (cutN Fl.name nm (lst F n)))) ∧ Below W.heap.size W w') := fun W hW => by
      have hl : lst (FlF (cutN Fl.name nm (lst F n))) (cutN Fl.name nm (lst F n)).length = cutN Fl.name nm (lst F n) := lst_getD _ _
      have := specPut va _ vc (FlF (cutN Fl.name nm (lst F n))) ds (F p).data W (HL.below hW) (by rw [hl]; exact HC.out)
      rwa [hl] at this
    clear HL
    obtain ⟨cl, hcl⟩ : ∃ cl, cl = (cutN Fl.name nm (lst F n)).length := ⟨_, rfl⟩
    rw [← hcl] at A3 HP hle
    rw [← hcl]
    clear hcl
    have bx2 : w2.cell? ⟨w.heap.size, 2, none⟩ = some (.string ds) := by rw [bx]; simp [go_sem]
    have bx0 : w2.cell? ⟨w.heap.size, 0, none⟩ = some (.int .i64 2) := by rw [bx]; simp [go_sem]
    have BD : Hid (Below w2.heap.size w2 w2.drew) := ⟨rfl, rfl, rfl, Nat.le_refl _, fun _ _ => rfl⟩
    clear bx
    go_wp2_with fail
    refine wp_region_still_tail 8 (by kernel_rfl) (by kernel_rfl) ?_
    simp only [List.take_succ_cons, List.take_zero, List.drop_succ_cons, List.drop_zero]
    repeat still_step
    refine wpStill_nil ?_
    go_wp2_with (go_at_call 81; refine (HP.out w2.drew BD.out).mono ?_; rintro e w3 ⟨⟨v3, rfl, A4⟩, B4⟩)
    have A5 : Hid (FlL w3 w.heap.size v3 (putN Fl.name ⟨ds, (F p).data⟩ (cutN Fl.name nm (lst F n)))) := A4.mono B3.out.size
    have B5 : Hid (Below w.heap.size w w3) := B3.out.trans (BD.out.trans (B4.mono (Nat.le_refl _)) |>.mono B3.out.size)
    clear A4 B4
    go_ret2
    exact DoOut.yes hD.out A5.out B5.out

set_option maxHeartbeats 2000000 in
theorem specDo_x (a : Option Addr) (n c : Nat) (F : Nat → Fl) (k : Int) (nm ds dt : ByteArray) (w : World) (h : Fls w a n F) (hR : Ris Fl.name (lst F n)) (hS : byt (lst F n) + dt.size ≤ 2199023255552) (h1 : ¬ k = 1) (h2 : ¬ k = 2) :
    Calls Try.prog 47 #[.slice a n c, .agg #[.int .i64 k, .string nm, .string ds, .string dt]] w fun e w' => DoOut (lst F n) (⟨k, nm, ds, dt⟩ : Dp) w e w' := by
  have H : Hid (Fls w a n F) := h
  have HR : Hid (Ris Fl.name (lst F n)) := hR
  have HS : Hid (byt (lst F n) + dt.size ≤ 2199023255552) := hS
  have hn := h.1
  clear h hR hS
  have hk1 : Hid (¬ k = 1) := h1
  have hk2 : Hid (¬ k = 2) := h2
  have e1 : (k == 1) = false := by simp [h1]
  have e2 : (k == 2) = false := by simp [h2]
  clear h1 h2
  have B0 : Hid (Below w.heap.size w (w.alloc (.cells #[.int .i64 k, .string nm, .string ds, .string dt] 36))) := (Below.refl _ _).alloc (Nat.le_refl _) _
  have H0 : Hid (Fls (w.alloc (.cells #[.int .i64 k, .string nm, .string ds, .string dt] 36)) a n F) := H.out.alloc _
  go_enter Try.func47, Try.ntmps47
  go_wp2_with fail
  refine (specAt a n c F nm _ H0.out).mono ?_
  rintro e w1 ⟨⟨r, rfl, hr⟩, hw1⟩
  subst w1
  rcases hr with ⟨rfl, hg⟩ | ⟨p, rfl, hp, hpn, hg⟩
  · have HG : Hid (getN Fl.name nm (lst F n) = none) := hg
    clear hg
    obtain ⟨i0, hi, hz0, hz1, hz2⟩ := info_parts infoFl
    have hD : Hid (doF (lst F n) (⟨k, nm, ds, dt⟩ : Dp) = none) := (by unfold doF; simp only [if_neg hk1.out, HG.out] : doF (lst F n) (⟨k, nm, ds, dt⟩ : Dp) = none)
    have A0 : Hid (FlL ((w.alloc (.cells #[.int .i64 k, .string nm, .string ds, .string dt] 36)).alloc (.cells #[] 75)) w.heap.size (.slice (some ⟨w.heap.size + 1, 0, none⟩) 0 0) []) := (by
      have := FlL.empty (w.alloc (.cells #[.int .i64 k, .string nm, .string ds, .string dt] 36)) w.heap.size (by simp)
      simpa using this : FlL ((w.alloc (.cells #[.int .i64 k, .string nm, .string ds, .string dt] 36)).alloc (.cells #[] 75)) w.heap.size (.slice (some ⟨w.heap.size + 1, 0, none⟩) 0 0) [])
    have B1 : Hid (Below w.heap.size w ((w.alloc (.cells #[.int .i64 k, .string nm, .string ds, .string dt] 36)).alloc (.cells #[] 75))) := B0.out.alloc (by simp) _
    have H1 : Hid (Fls ((w.alloc (.cells #[.int .i64 k, .string nm, .string ds, .string dt] 36)).alloc (.cells #[] 75)) a n F) := H0.out.alloc _
    cases a with
    | none =>
      have h0 : n = 0 := by
        rcases H.out.2 with h0 | ⟨b, o, ha, _⟩
        · exact h0
        · cases ha
      subst h0
      go_wp2
      go_ret2
      exact DoOut.no hD.out A0.out B1.out
    | some q =>
      have hlen : Hid ((lst F n).length = n) := lst_len F n
      go_wp2_with (at_builtin; refine wpList_append_own _ rfl _ _ 24 rfl w.heap.size 75 i0 _ 2 32 Try.underlying24 hi hz0 hz1 hz2 rfl (by decide) _ _ _ rfl A0.out q n c ((lst F n).flatMap FlC) rfl (by rw [flatFl_len, hlen.out]) H1.out.news (Fls.ones _) (by unfold maxLen; simp; omega) (by simp; omega) (by simp; omega) ?_; intro v1 w1 hown hgrow _)
      have A2 : Hid (FlL w1 w.heap.size v1 (lst F n)) := by
        show FlL w1 w.heap.size v1 (lst F n)
        unfold FlL
        rw [hlen.out]
        simpa using hown
      have B2 : Hid (Below w.heap.size w w1) := B1.out.grown hgrow (by simp; omega) A0.out.lt
      go_ret2
      exact DoOut.no hD.out A2.out B2.out
  · have HG : Hid (getN Fl.name nm (lst F n) = some (F p)) := hg
    have hp0 : (0 : Int) ≤ (p : Int) := by omega
    obtain ⟨b, o, rfl, hb0, hA0⟩ := H.out.acc hp
    obtain ⟨c0, c1⟩ := hA0.of_cells (w' := w.alloc (.cells #[.int .i64 k, .string nm, .string ds, .string dt] 36)) (fun q => B0.out.cell (p := ⟨b, q, none⟩) hb0)
    clear hA0 hg hpn
    have hD : Hid (doF (lst F n) (⟨k, nm, ds, dt⟩ : Dp) = some (cutN Fl.name nm (lst F n))) := (by unfold doF; simp only [if_neg hk1.out, HG.out]; simp [hk2.out] : doF (lst F n) (⟨k, nm, ds, dt⟩ : Dp) = some (cutN Fl.name nm (lst F n)))
    go_wp2_with fail
    refine (specCut _ n c F nm _ H0.out).mono ?_
    rintro e w2 ⟨⟨v, rfl, A2⟩, B2⟩
    have A3 : Hid (FlL w2 w.heap.size v (cutN Fl.name nm (lst F n))) := A2.mono (by simp)
    have B3 : Hid (Below w.heap.size w w2) := B0.out.trans (B2.mono B0.out.size)
    have bx : ∀ q, w2.cell? ⟨w.heap.size, q, none⟩ = (w.alloc (.cells #[.int .i64 k, .string nm, .string ds, .string dt] 36)).cell? ⟨w.heap.size, q, none⟩ := fun q => B2.cell (p := ⟨w.heap.size, q, none⟩) (by simp)
    obtain ⟨va, vc, hv⟩ : ∃ va vc, v = .slice va (cutN Fl.name nm (lst F n)).length vc := by
      obtain ⟨x, y, h, _, _⟩ := A3.out.shape
      exact ⟨x, y, h⟩
    subst hv
    clear A2
    clear B2 c0 c1
    go_wp2
    go_ret2
    exact DoOut.yes hD.out A3.out B3.out

theorem specDo (a : Option Addr) (n c : Nat) (F : Nat → Fl) (o : Dp) (w : World) (h : Fls w a n F) (hR : Ris Fl.name (lst F n)) (hS : byt (lst F n) + o.data.size ≤ 2199023255552) :
    Calls Try.prog 47 #[.slice a n c, .agg #[.int .i64 o.kind, .string o.name, .string o.dst, .string o.data]] w fun e w' => DoOut (lst F n) o w e w' := by
  obtain ⟨k, nm, ds, dt⟩ := o
  by_cases h1 : k = 1
  · subst h1; exact specDo_1 a n c F nm ds dt w h hR hS
  · by_cases h2 : k = 2
    · subst h2; exact specDo_2 a n c F nm ds dt w h hR hS
    · exact specDo_x a n c F k nm ds dt w h hR hS h1 h2
end Go.Proofs.Ytcalgmhpagpnnaa
