/- forest: the accounts of a ledger as a list. -/
import Derived.Test.YtleblllofibfkaaIds
import Derived.Test.YtleblllofibfkaaPathI
import Derived.Test.YtleblllofibfkaaCopy
namespace Go.Proofs.Ytleblllofibfkaa
open Go.RowKit
set_option maxRecDepth 8000

theorem zero50 (w : World) : (zeroValue 50).run Try.prog w = .ok (.pointer none) w := by kernel_rfl

theorem Led.look {w : World} {B b n : Nat} {F : Nat → Acc} {G : Nat → Nat} (h : Led w B b n F G) (hR : Rises F n) {i : Nat} (hi : i < n) (hwf : (Lit.int .i64 (F i).id).wf = true) :
    (Instr.lookup 46 (.map (some b)) (.int .i64 (F i).id) false).run Try.prog w = .ok (.pointer (some ⟨G i, 0, none⟩)) w := by
  obtain ⟨v, ps, hrun, hv⟩ := World.ownsMap.lookup h.map keyed2 Try.underlying46 (zero50 w) (zd := .lit (.int .i64 (-1))) (zp := []) rfl (Maps.keyOf_int_mk Try.underlying2 hwf)
  rw [led_find _ _ (ksOf_rises hR) _ _ (ksOf_mem hi)] at hv
  rw [hrun, RP_inv hv]

def accsOf (F : Nat → Acc) (n : Nat) : List Acc := (List.range n).map F
theorem accsOf_len (F : Nat → Acc) (n : Nat) : (accsOf F n).length = n := by simp [accsOf]
theorem accsOf_succ (F : Nat → Acc) (n : Nat) : accsOf F (n + 1) = accsOf F n ++ [F n] := by simp [accsOf, List.range_succ]

theorem news_new (w : World) (a : Acc) : ∀ j u, (accCells a)[j]? = some u → (w.alloc (.cells #[.int .i64 a.id, .int .i64 a.up, .int .i64 a.limit, .int .i64 a.rate, .int .i64 a.target, .bool a.frozen, .int .i64 a.balance, .int .i64 a.carry] 33)).cell? (Addr.add ⟨w.heap.size, 0, none⟩ j) = some u := by
  intro j u h
  have hj : j < 8 := (List.getElem?_eq_some_iff.1 h).1
  have e : (w.alloc (.cells #[.int .i64 a.id, .int .i64 a.up, .int .i64 a.limit, .int .i64 a.rate, .int .i64 a.target, .bool a.frozen, .int .i64 a.balance, .int .i64 a.carry] 33)).heap[w.heap.size]? = some (.cells #[.int .i64 a.id, .int .i64 a.up, .int .i64 a.limit, .int .i64 a.rate, .int .i64 a.target, .bool a.frozen, .int .i64 a.balance, .int .i64 a.carry] 33) := (MapKept.heap_alloc w _).1
  have ea : Addr.add ⟨w.heap.size, 0, none⟩ j = ⟨w.heap.size, j, none⟩ := by
    unfold Addr.add
    by_cases h0 : j = 0 <;> simp [h0]
  rw [ea, ← h]
  unfold World.cell?
  simp only [e]
  simp [accCells]
theorem acc_one (a : Acc) : ∀ u ∈ accCells a, u.oneCell' = true := by
  intro u hu
  simp [accCells] at hu
  rcases hu with rfl | rfl | rfl | rfl | rfl | rfl | rfl | rfl <;> rfl

set_option maxHeartbeats 1000000 in
theorem ledForest (B b n : Nat) (F : Nat → Acc) (G : Nat → Nat) (w : World) (hR : Rises F n) (hn : n ≤ 12) (hW : ∀ i, i < n → (Lit.int .i64 (F i).id).wf = true) (h : Led w B b n F G) :
    Calls Try.prog 25 #[.map (some b)] w fun e w' => ∃ v, e = .returned v ∧ AL w' w.heap.size v (accsOf F n) ∧ Below w.heap.size w w' := by
  have H : Hid (Led w B b n F G) := h
  have HR : Hid (Rises F n) := hR
  have HW : Hid (∀ i, i < n → (Lit.int .i64 (F i).id).wf = true) := hW
  clear h hR hW
  obtain ⟨i0, hi, hz0, hz1, hz2⟩ := info_parts info33
  go_enter Try.func25, Try.ntmps25
  go_wp2_with (go_at_call 23; refine (ids B b n F G _ HR.out hn H.out).mono ?_; rintro e w1 ⟨a, c, rfl, hI, B1⟩)
  have HI : Hid (∀ i, i < n → ∃ g, a = some ⟨g, 0, none⟩ ∧ w.heap.size ≤ g ∧ g < w1.heap.size ∧ w1.cell? ⟨g, i, none⟩ = some (.int .i64 (F i).id)) := hI
  have B1' : Hid (Below w.heap.size w w1) := B1
  clear hI B1
  go_wp2
  go_loopw [9, 3] (fun i v wr => ∃ k : Nat, k ≤ n ∧ i = .int .i64 k ∧ Hid (AL wr w1.heap.size v (accsOf F k)) ∧ Hid (Below w1.heap.size w1 wr)) (fun i _ _ => n - (ctr i).toNat)
  case atStart => exact ⟨0, Nat.zero_le _, rfl, World.ownsRow_nil _ _ _ _, Below.refl _ _⟩
  case round =>
    obtain ⟨k, hk, rfl, hA, hB⟩ := hrel
    by_cases hlt : k < n
    · obtain ⟨g, rfl, hg1, hg2, hc⟩ := HI.out k hlt
      have hc' : wr.cell? ⟨g, k, none⟩ = some (.int .i64 (F k).id) := (hB.out.cell (p := ⟨g, k, none⟩) hg2).trans hc
      clear hc
      have hL : Led wr B b n F G := (H.out.below B1'.out (Nat.le_refl _)).below hB.out (Nat.le_refl _)
      have hlook := hL.look HR.out hlt (HW.out k hlt)
      obtain ⟨c0, c1, c2, c3, c4, c5, c6, c7⟩ := (hL.acc k hlt).2.2.1
      have hlen : Hid ((accsOf F k).length = k) := accsOf_len F k
      have hGl := (hL.acc k hlt).2.2.2.2
      clear hL
      go_wp2_with (at_builtin; refine wpList_append_own _ rfl _ _ 24 rfl w1.heap.size 33 i0 _ 8 64 Try.underlying24 hi hz0 hz1 hz2 rfl (by decide) _ _ _ rfl (World.ownsRow.alloc hA.out _) ⟨_, 0, none⟩ 1 1 (accCells (F k)) rfl rfl (news_new wr (F k)) (acc_one _) (by rw [hlen.out]; unfold maxLen; omega) (by rw [hlen.out]; omega) (by have := hB.out.size; simp; omega) ?_; intro v' w2 hown hgrow _)
      go_roundw
      case rel =>
        refine ⟨k + 1, by omega, by go_num, ?_, ?_⟩
        · show AL _ _ _ _
          unfold AL
          rw [accsOf_succ, List.flatMap_append, List.length_append]
          simpa using hown
        · exact (hB.out.alloc hB.out.size _).grown hgrow (by have := hB.out.size; simp; omega) (fun j hj => (World.ownsRow.lt hA.out _ hj).1)
      case measure => simp [ctr]; omega
    · obtain rfl : k = n := by omega
      go_wp2
      go_ret
      exact ⟨_, rfl, ⟨hA.out.1, hA.out.2.elim Or.inl (fun ⟨g, cap, cur, hv, hg, r⟩ => Or.inr ⟨g, cap, cur, hv, Nat.le_trans B1'.out.size hg, r⟩)⟩, B1'.out.trans (hB.out.mono B1'.out.size)⟩
end Go.Proofs.Ytleblllofibfkaa
