/- post: interest on one account of a ledger. -/
import Derived.Test.YtleblllofibfkaaLeds
import Derived.Test.YtleblllofibfkaaOk
import Derived.Test.YtleblllofibfkaaLets
namespace Go.Proofs.Ytleblllofibfkaa
open Go.RowKit
set_option maxRecDepth 8000

/-- The interest's whole parts. -/
def postX (A : Acc) (s : Int) : Int := (s * A.rate + A.carry) / 3650000
def postC (A : Acc) (s : Int) : Int := (s * A.rate + A.carry) % 3650000
/-- Is interest posted? -/
def postOk (A : Acc) (s : Int) : Prop := (-1000000000000 ≤ s ∧ s ≤ 1000000000000) ∧ (-1000000000000 ≤ A.balance + postX A s ∧ A.balance + postX A s ≤ 1000000000000)
instance (A : Acc) (s : Int) : Decidable (postOk A s) := by unfold postOk; infer_instance
def postN (A : Acc) (s : Int) : Int := if postOk A s then postX A s else 0
def postA (A : Acc) (s : Int) : Acc := if postOk A s then { A with balance := A.balance + postX A s, carry := postC A s } else A

theorem post_bd {A : Acc} {s : Int} (ho : okS A) (h : -1000000000000 ≤ s ∧ s ≤ 1000000000000) : -3000000000 ≤ postX A s ∧ postX A s ≤ 3000000000 ∧ 0 ≤ postC A s ∧ postC A s < 3650000 := by
  obtain ⟨_, _, _, h4, _, _, h7, _⟩ := ho
  obtain ⟨m1, m2⟩ := mul_bd s A.rate h.1 h.2 h4.1 h4.2
  unfold postX postC
  generalize s * A.rate = t at *
  omega
theorem post_acc {A : Acc} {x c : Int} (ho : okS A) (hu : A.up = 0) (hc : 0 ≤ c ∧ c < 3650000) : okI { A with balance := A.balance + x, carry := c } ↔ (-1000000000000 ≤ A.balance + x ∧ A.balance + x ≤ 1000000000000) := by
  have h := ((okS_iff A).1 ho).1
  unfold okI at h ⊢
  simp only
  omega

theorem implAccr (A : Acc) (s : Int) (w : World) (ho : okS A) (h : -1000000000000 ≤ s ∧ s ≤ 1000000000000) :
    Calls Try.prog 12 #[.int .i64 s, .int .i64 A.rate, .int .i64 A.carry] w fun e w' => e = .returned (.tuple #[.int .i64 (postX A s), .int .i64 (postC A s), .bool true]) ∧ w' = w := by
  obtain ⟨_, _, _, h4, _, _, h7, _⟩ := ho
  exact implAccrued_yes s A.rate A.carry w h.1 h.2 h4.1 h4.2 h7.1 (by omega)
theorem implAccr_no (A : Acc) (s : Int) (w : World) (h : ¬ (-1000000000000 ≤ s ∧ s ≤ 1000000000000)) :
    Calls Try.prog 12 #[.int .i64 s, .int .i64 A.rate, .int .i64 A.carry] w fun e w' => e = .returned (.tuple #[.int .i64 0, .int .i64 0, .bool false]) ∧ w' = w :=
  implAccrued_no s A.rate A.carry w (by omega)

theorem setCell_grown {w v : World} {g : Nat} (h : w.grownBy v (some g)) (o : Nat) (u : Value) : w.grownBy (v.setCell ⟨g, o, none⟩ u) (some g) :=
  ⟨h.os, h.tape, h.output, by simpa [World.setCell] using h.size, fun i hi hne => by
    have e : i ≠ g := fun e => hne (by rw [e])
    rw [← h.block i hi hne]
    simp [World.setCell, Array.getElem?_modify, Ne.symm e]⟩
theorem set8_grown {w v : World} (h : Below w.heap.size w v) (g : Nat) (x : Acc) : w.grownBy (set8 v g 0 x) (some g) := by
  have h0 : w.grownBy v (some g) := ⟨h.os, h.tape, h.output, h.size, fun i hi _ => h.block i hi⟩
  unfold set8
  exact setCell_grown (setCell_grown (setCell_grown (setCell_grown (setCell_grown (setCell_grown (setCell_grown (setCell_grown h0 _ _) _ _) _ _) _ _) _ _) _ _) _ _) _ _

set_option maxHeartbeats 1000000 in
theorem implPost_yes (g : Nat) (A : Acc) (s : Int) (w : World) (hA : Box w g A) (ho : okS A) (hu : A.up = 0) (hs : -1000000000000 ≤ s ∧ s ≤ 1000000000000) (hp : -1000000000000 ≤ A.balance + postX A s ∧ A.balance + postX A s ≤ 1000000000000) :
    Calls Try.prog 24 #[.pointer (some ⟨g, 0, none⟩), .int .i64 s] w fun e w' => e = .returned (.int .i64 (postX A s)) ∧ Box w' g { A with balance := A.balance + postX A s, carry := postC A s } ∧ w.grownBy w' (some g) := by
  have HA : Hid (Box w g A) := hA
  obtain ⟨x1, x2, y1, y2⟩ := post_bd ho hs
  have cA := fun W => implAccr A s W ho hs
  have hok := (post_acc (x := postX A s) (c := postC A s) ho hu ⟨y1, y2⟩).2 hp
  have cO := fun W => implAcc_yes _ W hok
  obtain ⟨p1, p2⟩ := hp
  generalize postX A s = x at *
  generalize postC A s = y at *
  obtain ⟨c0, c1, c2, c3, c4, c5, c6, c7⟩ := hA.1
  have hg := hA.2.2
  clear hA hok ho hu hs
  go_enter Try.func24, Try.ntmps24
  go_wp2_with fail
  go_quiet ((go_at_call 12; exact Calls.quiet_of_same (cA _)))
  obtain ⟨W, hW⟩ : ∃ W, W = w.drewN nq := ⟨_, rfl⟩
  have HB : Hid (Below w.heap.size w W) := by rw [hW]; exact below_drewN (Below.refl _ _) _
  have HAW : Hid (Box W g A) := by rw [hW]; exact HA.out
  rw [← hW]
  clear hW c0 c1 c2 c3 c4 c5 c6 c7 hg
  obtain ⟨c0, c1, c2, c3, c4, c5, c6, c7⟩ := HAW.out.1
  have hg := HAW.out.2.2
  go_wp2_with fail
  refine (cO _).mono ?_
  rintro e w1 ⟨rfl, B1⟩
  have HB1 : Hid (Below W.heap.size W w1) := ((Below.refl _ _).alloc (Nat.le_refl _) _).trans (B1.mono (by simp))
  have HN : Hid (Box w1 W.heap.size { A with balance := A.balance + x, carry := y }) := (Box.new W { A with balance := A.balance + x, carry := y } 33).below B1
  have HG : Hid (Box w1 g A) := HAW.out.below HB1.out
  clear c0 c1 c2 c3 c4 c5 c6 c7 B1 hg
  obtain ⟨n0, n1, n2, n3, n4, n5, n6, n7⟩ := HN.out.1
  obtain ⟨c0, c1, c2, c3, c4, c5, c6, c7⟩ := HG.out.1
  have hf := HG.out.2.1
  have hg := HAW.out.2.2
  clear cA cO p1 p2 x1 x2 y1 y2
  obtain ⟨V, hV, hBV, hGV⟩ : ∃ V, Hid (V = set8 w1 g 0 { A with balance := A.balance + x, carry := y }) ∧ Hid (Box V g { A with balance := A.balance + x, carry := y }) ∧ Hid (w.grownBy V (some g)) := ⟨_, rfl, HG.out.set _, set8_grown (HB.out.trans (HB1.out.mono HB.out.size)) g _⟩
  go_wp2
  have hV := hV.out
  simp only [set8, Nat.zero_add] at hV
  rw [← hV]
  go_ret
  exact ⟨rfl, hBV.out, hGV.out⟩

set_option maxHeartbeats 1000000 in
theorem implPost_small (g : Nat) (A : Acc) (s : Int) (w : World) (hA : Box w g A) (ho : okS A) (hs : ¬ (-1000000000000 ≤ s ∧ s ≤ 1000000000000)) :
    Calls Try.prog 24 #[.pointer (some ⟨g, 0, none⟩), .int .i64 s] w fun e w' => e = .returned (.int .i64 0) ∧ Below w.heap.size w w' := by
  have HA : Hid (Box w g A) := hA
  have cA := fun W => implAccr_no A s W hs
  obtain ⟨c0, c1, c2, c3, c4, c5, c6, c7⟩ := hA.1
  have hg := hA.2.2
  obtain ⟨b1, b2⟩ := ho.2.2.2.2.2.1
  clear hA ho hs
  go_enter Try.func24, Try.ntmps24
  go_wp2_with fail
  go_quiet ((go_at_call 12; exact Calls.quiet_of_same (cA _)))
  obtain ⟨W, hW⟩ : ∃ W, W = w.drewN nq := ⟨_, rfl⟩
  have HB : Hid (Below w.heap.size w W) := by rw [hW]; exact below_drewN (Below.refl _ _) _
  have HAW : Hid (Box W g A) := by rw [hW]; exact HA.out
  rw [← hW]
  clear hW c0 c1 c2 c3 c4 c5 c6 c7 hg
  obtain ⟨c0, c1, c2, c3, c4, c5, c6, c7⟩ := HAW.out.1
  have hg := HAW.out.2.2
  go_wp2
  go_ret
  exact ⟨rfl, HB.out.alloc HB.out.size _⟩

set_option maxHeartbeats 1000000 in
theorem implPost_no (g : Nat) (A : Acc) (s : Int) (w : World) (hA : Box w g A) (ho : okS A) (hu : A.up = 0) (hs : -1000000000000 ≤ s ∧ s ≤ 1000000000000) (hp : ¬ (-1000000000000 ≤ A.balance + postX A s ∧ A.balance + postX A s ≤ 1000000000000)) :
    Calls Try.prog 24 #[.pointer (some ⟨g, 0, none⟩), .int .i64 s] w fun e w' => e = .returned (.int .i64 0) ∧ Below w.heap.size w w' := by
  have HA : Hid (Box w g A) := hA
  obtain ⟨x1, x2, y1, y2⟩ := post_bd ho hs
  have cA := fun W => implAccr A s W ho hs
  have hok : ¬ okI { A with balance := A.balance + postX A s, carry := postC A s } := fun h => hp ((post_acc (x := postX A s) (c := postC A s) ho hu ⟨y1, y2⟩).1 h)
  have cO := fun W => implAcc_no _ W hok
  obtain ⟨b1, b2⟩ := ho.2.2.2.2.2.1
  clear hp
  generalize postX A s = x at *
  generalize postC A s = y at *
  obtain ⟨c0, c1, c2, c3, c4, c5, c6, c7⟩ := hA.1
  have hg := hA.2.2
  clear hA hok ho hu hs
  go_enter Try.func24, Try.ntmps24
  go_wp2_with fail
  go_quiet ((go_at_call 12; exact Calls.quiet_of_same (cA _)))
  obtain ⟨W, hW⟩ : ∃ W, W = w.drewN nq := ⟨_, rfl⟩
  have HB : Hid (Below w.heap.size w W) := by rw [hW]; exact below_drewN (Below.refl _ _) _
  have HAW : Hid (Box W g A) := by rw [hW]; exact HA.out
  rw [← hW]
  clear hW c0 c1 c2 c3 c4 c5 c6 c7 hg
  obtain ⟨c0, c1, c2, c3, c4, c5, c6, c7⟩ := HAW.out.1
  have hg := HAW.out.2.2
  go_wp2_with fail
  refine (cO _).mono ?_
  rintro e w1 ⟨rfl, B1⟩
  have HB1 : Hid (Below w.heap.size w w1) := HB.out.trans ((((Below.refl _ _).alloc (Nat.le_refl _) _).trans (B1.mono (by simp))).mono HB.out.size)
  clear c0 c1 c2 c3 c4 c5 c6 c7 B1 hg
  go_wp2
  go_ret
  exact ⟨rfl, HB1.out⟩

/-- post, whole. -/
theorem implPost (g : Nat) (A : Acc) (s : Int) (w : World) (hA : Box w g A) (ho : okS A) (hu : A.up = 0) :
    Calls Try.prog 24 #[.pointer (some ⟨g, 0, none⟩), .int .i64 s] w fun e w' => e = .returned (.int .i64 (postN A s)) ∧ Box w' g (postA A s) ∧ w.grownBy w' (some g) := by
  by_cases h : postOk A s
  · unfold postN postA
    rw [if_pos h, if_pos h]
    exact implPost_yes g A s w hA ho hu h.1 h.2
  · unfold postN postA
    rw [if_neg h, if_neg h]
    have k : Calls Try.prog 24 #[.pointer (some ⟨g, 0, none⟩), .int .i64 s] w fun e w' => e = .returned (.int .i64 0) ∧ Below w.heap.size w w' := by
      by_cases hs : -1000000000000 ≤ s ∧ s ≤ 1000000000000
      · exact implPost_no g A s w hA ho hu hs (fun hp => h ⟨hs, hp⟩)
      · exact implPost_small g A s w hA ho hs
    exact k.mono fun e w' ⟨he, hb⟩ => ⟨he, hA.below hb, hb.os, hb.tape, hb.output, hb.size, fun i hi _ => hb.block i hi⟩
end Go.Proofs.Ytleblllofibfkaa
