/- ledgerOf: a ledger of the accounts of a list whose ids rise. -/
import Derived.Test.YtleblllofibfkaaLed
namespace Go.Proofs.Ytleblllofibfkaa
open Go.RowKit
set_option maxRecDepth 8000

theorem makeLedger (x : Int) (w : World) : (Instr.makeMap 46 (some (.int .i64 x))).run Try.prog w = .ok (.map (some w.heap.size)) (w.alloc (.map #[] 0)) := by
  simp [Instr.makeMap, run_underlying Try.underlying46, asInt, go_sem]

theorem Led.grow {wr w1 : World} {B b k n : Nat} {F : Nat → Acc} {G : Nat → Nat} (h : Led wr B b k F G) (hB : B ≤ wr.heap.size) (hR : Rises F n) (hk : k < n)
    (hg : (wr.alloc (.cells #[.int .i64 (F k).id, .int .i64 (F k).up, .int .i64 (F k).limit, .int .i64 (F k).rate, .int .i64 (F k).target, .bool (F k).frozen, .int .i64 (F k).balance, .int .i64 (F k).carry] 33)).grownBy w1 (some b))
    (hown : w1.ownsMap Try.prog 2 RP b ((ksOf F G k).length + 1) ((DataW.map (ledL (ksOf F G k))).put (.int .i64 (F k).id) (.lit (.int .i64 wr.heap.size)))) :
    Led w1 B b (k + 1) F (fun i => if i = k then wr.heap.size else G i) := by
  have hblt := h.map.lt
  rw [led_put] at hown
  · refine ⟨h.base, ?_, fun i hi => ?_, fun i j hi hj e => ?_⟩
    · have e : ksOf F (fun i => if i = k then wr.heap.size else G i) (k + 1) = ksOf F G k ++ [((F k).id, wr.heap.size)] := by
        rw [ksOf_succ]
        congr 1
        · exact ksOf_congr fun i hi => ⟨rfl, if_neg (by omega)⟩
        · simp
      unfold LedM
      rw [e, List.length_append]
      exact hown
    · by_cases he : i = k
      · subst he
        simp only [if_true]
        refine ⟨hB, by omega, ?_⟩
        exact (Box.new wr (F i) 33).same (hg.block wr.heap.size (by simp) (by simp; omega))
      · have hi' : i < k := by omega
        obtain ⟨h1, h2, h3⟩ := h.acc i hi'
        simp only [if_neg he]
        refine ⟨h1, h2, ?_⟩
        have := h3.2.2
        exact h3.same ((hg.block (G i) (by simp; omega) (by simp; exact h2)).trans (Below.heap_alloc _ _ _ this))
    · by_cases hi' : i = k <;> by_cases hj' : j = k
      · omega
      · have := (h.acc j (by omega)).2.2.2.2
        simp [hi', hj'] at e
        omega
      · have := (h.acc i (by omega)).2.2.2.2
        simp [hi', hj'] at e
        omega
      · simp [hi', hj'] at e
        exact h.one i j (by omega) (by omega) e
  · intro p hp
    unfold ksOf at hp
    obtain ⟨i, hi, rfl⟩ := List.mem_map.1 hp
    exact hR i k (by simpa using hi) hk

set_option maxHeartbeats 1000000 in
theorem ledgerOf (a : Option Addr) (n c : Nat) (F : Nat → Acc) (w : World) (h : Fo w a n F) (hR : Rises F n) (hn : n ≤ 12) (hW : ∀ i, i < n → (Lit.int .i64 (F i).id).wf = true) :
    Calls Try.prog 22 #[.slice a n c] w fun e w' => e = .returned (.map (some w.heap.size)) ∧ (∃ G, Led w' w.heap.size w.heap.size n F G) ∧ Below w.heap.size w w' := by
  have H : Hid (Fo w a n F) := h
  have HR : Hid (Rises F n) := hR
  have HW : Hid (∀ i, i < n → (Lit.int .i64 (F i).id).wf = true) := hW
  clear h hR hW
  have hmm := makeLedger
  go_enter Try.func22, Try.ntmps22
  go_wp2
  go_loopw [11] (fun i wr => ∃ k : Nat, k ≤ n ∧ i = .int .i64 k ∧ Hid (∃ G, Led wr w.heap.size w.heap.size k F G) ∧ Hid (Below w.heap.size w wr)) (fun i _ => n - (ctr i).toNat)
  case atStart =>
    refine ⟨0, Nat.zero_le _, rfl, ⟨fun _ => 0, ⟨Nat.le_refl _, World.ownsMap_made _ _ _ _, fun i hi => by omega, fun i j hi => by omega⟩⟩, (Below.refl _ _).alloc (Nat.le_refl _) _⟩
  case round =>
    obtain ⟨k, hk, rfl, hL, hB⟩ := hrel
    by_cases hlt : k < n
    · obtain ⟨G, hL⟩ := hL.out
      obtain ⟨b, o, rfl, hb, hA⟩ := (H.out.below hB.out).acc hlt
      obtain ⟨c0, c1, c2, c3, c4, c5, c6, c7⟩ := hA
      have hwf := HW.out k hlt
      have hsz := hB.out.size
      have hL' : Hid (Led wr w.heap.size w.heap.size k F G) := hL
      have hown : Hid (LedM wr w.heap.size (ksOf F G k)) := hL.map
      clear hL
      go_wp2_with (first
        | (at_mapUpdate; refine wpList_mapUpdate_own _ rfl _ _ _ 46 rfl 2 50 keyed2 Try.underlying46 RP w.heap.size _ _ rfl (World.ownsMap.alloc hown.out _) (by rw [ksOf_len]; unfold maxLen; omega) _ _ (.int .i64 (F k).id) rfl rfl (Maps.keyOf_int_mk Try.underlying2 hwf) _ [] (RP_mk _) ?_; intro w1 hown1 hgrow1)
        | go_in)
      go_roundw
      case rel => exact ⟨k + 1, by omega, by go_num, ⟨_, hL'.out.grow hsz HR.out hlt hgrow1 hown1⟩, (hB.out.alloc hB.out.size _).grown hgrow1 (by simp; omega) (fun j hj => by cases hj; exact Nat.le_refl _)⟩
      case measure => simp [ctr]; omega
    · obtain rfl : k = n := by omega
      go_wp2
      go_ret
      exact ⟨rfl, hL.out, hB.out⟩
end Go.Proofs.Ytleblllofibfkaa
