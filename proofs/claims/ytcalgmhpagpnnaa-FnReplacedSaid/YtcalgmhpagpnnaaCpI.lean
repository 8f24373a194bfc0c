/- copiedDisk: a disk's copy, of the program. Conditions: the disk's lists lie in memory, at most 1048576 of each. -/
import Derived.Test.YtcalgmhpagpnnaaCpLN
namespace Go.Proofs.Ytcalgmhpagpnnaa
open Go.RowKit
set_option maxRecDepth 8000

set_option maxHeartbeats 4000000 in
theorem implCopyD (q q' q'' : Option Addr) (n m r c c' c'' : Nat) (F G : Nat → Fl) (O : Nat → Dp) (w : World) (h1 : Fls w q n F) (h2 : Fls w q' m G) (h3 : Dps w q'' r O) :
    Calls Try.prog 58 #[.agg #[.slice q n c, .slice q' m c', .slice q'' r c'']] w fun e w' => ∃ v, e = .returned v ∧ DkAns w (lst F n) (lst G m) (lst O r) v w' := by
  have LV : Hid (∀ V, Below w.heap.size w V → Calls Try.prog 54 #[.slice q n c] V fun e w' => (∃ va vc, e = .returned (.slice va n vc) ∧ FlL w' V.heap.size (.slice va n vc) (lst F n)) ∧ Below V.heap.size V w') := fun V hV => implCopyFl q n c F V (h1.below hV)
  have SV : Hid (∀ V, Below w.heap.size w V → Calls Try.prog 54 #[.slice q' m c'] V fun e w' => (∃ va vc, e = .returned (.slice va m vc) ∧ FlL w' V.heap.size (.slice va m vc) (lst G m)) ∧ Below V.heap.size V w') := fun V hV => implCopyFl q' m c' G V (h2.below hV)
  have OV : Hid (∀ V, Below w.heap.size w V → Calls Try.prog 85 #[.slice q'' r c''] V fun e w' => (∃ va vc, e = .returned (.slice va r vc) ∧ DpL w' V.heap.size (.slice va r vc) (lst O r)) ∧ Below V.heap.size V w') := fun V hV => implCopyDp q'' r c'' O V (h3.below hV)
  clear h1 h2 h3
  obtain ⟨w1, hW1, xb, yb, xB⟩ : ∃ w1, w1 = (w.alloc (.cells #[.slice q n c, .slice q' m c', .slice q'' r c''] 27)).alloc (.cells #[.slice none 0 0, .slice none 0 0, .slice none 0 0] 27) ∧ Box3 w1 w.heap.size (.slice q n c) (.slice q' m c') (.slice q'' r c'') ∧ Box3 w1 (w.heap.size + 1) (.slice none 0 0) (.slice none 0 0) (.slice none 0 0) ∧ Below w.heap.size w w1 := by
    refine ⟨_, rfl, (Box3.new w _ _ _ 27).kept ((Below.refl _ _).alloc (Nat.le_refl _) _) (by simp), ?_, ((Below.refl _ _).alloc (Nat.le_refl _) _).alloc (by simp) _⟩
    have := Box3.new (w.alloc (.cells #[.slice q n c, .slice q' m c', .slice q'' r c''] 27)) (.slice none 0 0) (.slice none 0 0) (.slice none 0 0) 27
    rwa [World.size_alloc] at this
  have HW1 : Hid (w1 = _) := hW1
  obtain ⟨⟨s0, s1, s2⟩, _, sl⟩ := xb
  have RD : Hid (Box3 w1.drew (w.heap.size + 1) (.slice none 0 0) (.slice none 0 0) (.slice none 0 0)) := yb
  have ol : w.heap.size + 1 < w1.heap.size := yb.2.2
  have BD : Hid (Below w.heap.size w w1.drew) := xB.drew
  have hsd : w.heap.size < w1.drew.heap.size := sl
  have hsd1 : w1.heap.size ≤ w1.drew.heap.size := Nat.le_refl _
  have x0 : (w1.drew.cell? ⟨w.heap.size, 0, none⟩ = some (.slice q n c) ∧ w1.drew.cell? ⟨w.heap.size, 1, none⟩ = some (.slice q' m c') ∧ w1.drew.cell? ⟨w.heap.size, 2, none⟩ = some (.slice q'' r c'')) := ⟨s0, s1, s2⟩
  clear hW1 yb xB
  go_enter Try.func58, Try.ntmps58
  go_wp2
  rw [← HW1.out]
  clear HW1
  go_region_held3 (fun V => (V.cell? ⟨w.heap.size, 0, none⟩ = some (.slice q n c) ∧ V.cell? ⟨w.heap.size, 1, none⟩ = some (.slice q' m c') ∧ V.cell? ⟨w.heap.size, 2, none⟩ = some (.slice q'' r c''))) (first | with_reducible exact x0 | with_reducible exact k1 | with_reducible exact k2 | with_reducible exact k3 | with_reducible exact ⟨keepSj k3.1 (by omega) _ _ _, keepSj k3.2.1 (by omega) _ _ _, keepSj k3.2.2 (by omega) _ _ _⟩) (first | (go_at_call 85; refine (OV.out u2 b2.out).mono ?_; rintro e u3 ⟨⟨va3, vc3, rfl, A3⟩, B3⟩; have k3 : (u3.cell? ⟨w.heap.size, 0, none⟩ = some (.slice q n c) ∧ u3.cell? ⟨w.heap.size, 1, none⟩ = some (.slice q' m c') ∧ u3.cell? ⟨w.heap.size, 2, none⟩ = some (.slice q'' r c'')) := ⟨(B3.cell (p := ⟨w.heap.size, 0, none⟩) kl2).trans k2.1, (B3.cell (p := ⟨w.heap.size, 1, none⟩) kl2).trans k2.2.1, (B3.cell (p := ⟨w.heap.size, 2, none⟩) kl2).trans k2.2.2⟩; obtain ⟨⟨p0, p1, p2⟩, pf, pz⟩ := rb2.out.kept B3 rb2.out.2.2; have FI : Hid (FlL u3 w1.heap.size (.slice va1 n vc1) (lst F n) ∧ FlL u3 w1.heap.size (.slice va2 m vc2) (lst G m) ∧ DpL u3 w1.heap.size (.slice va3 r vc3) (lst O r) ∧ (∀ g, (Value.slice va1 n vc1).ownBlock = some g → (Value.slice va2 m vc2).ownBlock ≠ some g) ∧ Below w.heap.size w u3) := ⟨(A1'.out.mono hsd1).kept B3, (A2.out.mono kw1).kept B3, A3.mono (Nat.le_trans kw1 kw2), P12.out, b2.out.trans (B3.mono b2.out.size)⟩; clear A3 B3) | (go_at_call 54; refine (SV.out u1 b1.out).mono ?_; rintro e u2 ⟨⟨va2, vc2, rfl, A2⟩, B2⟩; have A2 : Hid (FlL u2 u1.heap.size (.slice va2 m vc2) (lst G m)) := A2; have A1' : Hid (FlL u2 w1.drew.heap.size (.slice va1 n vc1) (lst F n)) := A1.out.kept B2; have P12 : Hid (∀ g, (Value.slice va1 n vc1).ownBlock = some g → (Value.slice va2 m vc2).ownBlock ≠ some g) := fun g h1 h2 => (by have e1 := (World.ownsRow.lt A1.out g h1).2; have e2 := A2.out.lt g h2; omega); have k2 : (u2.cell? ⟨w.heap.size, 0, none⟩ = some (.slice q n c) ∧ u2.cell? ⟨w.heap.size, 1, none⟩ = some (.slice q' m c') ∧ u2.cell? ⟨w.heap.size, 2, none⟩ = some (.slice q'' r c'')) := ⟨(B2.cell (p := ⟨w.heap.size, 0, none⟩) kl1).trans k1.1, (B2.cell (p := ⟨w.heap.size, 1, none⟩) kl1).trans k1.2.1, (B2.cell (p := ⟨w.heap.size, 2, none⟩) kl1).trans k1.2.2⟩; have kl2 : w.heap.size < u2.heap.size := Nat.lt_of_lt_of_le kl1 B2.size; have kw2 : u1.heap.size ≤ u2.heap.size := B2.size; have rb2 : Hid (Box3 u2 (w.heap.size + 1) (.slice none 0 0) (.slice none 0 0) (.slice none 0 0)) := rb1.out.kept B2 rb1.out.2.2; have b2 : Hid (Below w.heap.size w u2) := b1.out.trans (B2.mono b1.out.size); clear B2) | (go_at_call 54; refine (LV.out w1.drew BD.out).mono ?_; rintro e u1 ⟨⟨va1, vc1, rfl, A1⟩, B1⟩; have A1 : Hid (FlL u1 w1.drew.heap.size (.slice va1 n vc1) (lst F n)) := A1; have k1 : (u1.cell? ⟨w.heap.size, 0, none⟩ = some (.slice q n c) ∧ u1.cell? ⟨w.heap.size, 1, none⟩ = some (.slice q' m c') ∧ u1.cell? ⟨w.heap.size, 2, none⟩ = some (.slice q'' r c'')) := ⟨(B1.cell (p := ⟨w.heap.size, 0, none⟩) hsd).trans x0.1, (B1.cell (p := ⟨w.heap.size, 1, none⟩) hsd).trans x0.2.1, (B1.cell (p := ⟨w.heap.size, 2, none⟩) hsd).trans x0.2.2⟩; have kl1 : w.heap.size < u1.heap.size := Nat.lt_of_lt_of_le hsd B1.size; have kw1 : w1.heap.size ≤ u1.heap.size := Nat.le_trans hsd1 B1.size; have rb1 : Hid (Box3 u1 (w.heap.size + 1) (.slice none 0 0) (.slice none 0 0) (.slice none 0 0)) := RD.out.kept B1 RD.out.2.2; have b1 : Hid (Below w.heap.size w u1) := BD.out.trans (B1.mono BD.out.size); clear B1))
  all_goals go_wp2
  all_goals exact bodyPost_ret (v := .agg #[.slice va1 n vc1, .slice va2 m vc2, .slice va3 r vc3]) (by simp [results, Try.results58, go_sem, p0, p1, p2]) rfl ⟨_, rfl, copyAns FI.out.1 FI.out.2.1 FI.out.2.2.1 FI.out.2.2.2.1 FI.out.2.2.2.2 ol (lst_len F n) (lst_len G m) (lst_len O r)⟩
end Go.Proofs.Ytcalgmhpagpnnaa
