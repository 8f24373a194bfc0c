/- What opening makes of the accounts, in the program. Conditions: the accounts lie in memory, at most 1048576 of them; none has the new one's id. -/
import Derived.Test.YthkgppfgidlicaaGreatDoorInss
namespace Go.Proofs.YthkgppfgidlicaaGreatDoor
open Go.RowKit

set_option maxRecDepth 8000 in
set_option maxHeartbeats 1000000 in
theorem after1 (x : Acc) (i : Int) (b : Nat) (w : World) (hb : w.cell? ⟨b, 0, none⟩ = some (.int .i64 i)) (hbz : b < w.heap.size) :
    Calls Tryz.prog 83 #[.agg #[.int .i64 x.id, .int .i64 x.up, .int .i64 x.limit, .int .i64 x.rate, .int .i64 x.target, .bool x.frozen, .int .i64 x.balance, .int .i64 x.carry], .pointer (some ⟨b, 0, none⟩)] w fun e w' => e = .returned (.bool (decide (i < x.id))) ∧ Below w.heap.size w w' := by
  have hne : ¬ w.heap.size = b := by omega
  have hne' : ¬ b = w.heap.size := by omega
  go_enter Tryz.func83, Tryz.ntmps83
  go_wp2
  go_ret
  exact ⟨rfl, (Below.refl _ _).alloc (Nat.le_refl _) _⟩

/-- The place behind all that are ahead of an id. -/
theorem rank_idx (L : List Acc) (i : Int) (hno : ∀ j, j < L.length → (FL L j).id ≠ i) :
    (∃ k, k < L.length ∧ rankL L i = k ∧ idxOf (fun x => decide (i < x.id)) L = (k : Int)) ∨ (rankL L i = L.length ∧ idxOf (fun x => decide (i < x.id)) L = -1) := by
  by_cases hex : ∃ k, k < L.length ∧ i < (FL L k).id ∧ ∀ j, j < k → ¬ i < (FL L j).id
  · obtain ⟨k, hk, h1, h2⟩ := hex
    refine Or.inl ⟨k, hk, rank_eq L i k (by omega) (fun j hj => ?_) (fun _ => by omega), idxOf_hit hk (by simpa using h1) (fun j hj => by simpa using h2 j hj)⟩
    have := h2 j hj
    have := hno j (by omega)
    omega
  · have hall : ∀ j, j < L.length → ¬ i < (FL L j).id := by
      intro j
      induction j using Nat.strongRecOn with
      | _ j ih => exact fun hj hlt => hex ⟨j, hj, hlt, fun q hq => ih q hq (by omega)⟩
    refine Or.inr ⟨rank_eq L i L.length (Nat.le_refl _) (fun j hj => ?_) (fun h => absurd h (Nat.lt_irrefl _)), idxOf_miss (fun j hj => by simpa using hall j hj)⟩
    have := hall j hj
    have := hno j hj
    omega

set_option maxRecDepth 8000 in
set_option maxHeartbeats 2000000 in
theorem chgOpen (a : Option Addr) (c : Nat) (L : List Acc) (i t m r : Int) (w : World) (h : Fo w a L.length (FL L)) (hno : ∀ j, j < L.length → (FL L j).id ≠ i) :
    Calls Tryz.prog 69 #[.slice a L.length c, .iface 111 (.agg #[.int .i64 i, .int .i64 t, .int .i64 m, .int .i64 r, .int .i64 (-1), .bool false, .int .i64 0, .int .i64 0])] w fun e w' => ∃ v, e = .returned v ∧ AL w' w.heap.size v (L.take (rankL L i) ++ (⟨i, t, m, r, -1, false, 0, 0⟩ : Acc) :: L.drop (rankL L i)) ∧ Below w.heap.size w w' := by
  have H : Hid (Fo w a L.length (FL L)) := h
  have hn := h.1
  have HI := rank_idx L i hno
  clear h hno
  go_enter Tryz.func69, Tryz.ntmps69
  go_wp2_with fail
  refine (implCopied a L.length c L _ rfl H.out).mono ?_
  rintro e w1 ⟨v1, rfl, A1, B1⟩
  obtain ⟨va, vc, hv⟩ := A1.len
  obtain ⟨n', hn'⟩ : ∃ n', n' = L.length := ⟨_, rfl⟩
  have N' : Hid (n' = L.length) := hn'
  rw [← hn'] at hv
  subst hv
  clear hn'
  obtain ⟨W, hW⟩ : ∃ W, W = w1.alloc (.cells #[.int .i64 i, .int .i64 t, .int .i64 m, .int .i64 r, .int .i64 (-1), .bool false, .int .i64 0, .int .i64 0] 111) := ⟨_, rfl⟩
  have BX : Hid (Below w.heap.size w W) := by rw [hW]; exact B1.alloc B1.size _
  have AX : Hid (AL W w.heap.size (.slice va n' vc) L) := by rw [hW]; exact World.ownsRow.alloc A1 _
  have XX : Hid (Box W w1.heap.size ⟨i, t, m, r, -1, false, 0, 0⟩) := by rw [hW]; exact Box.new w1 ⟨i, t, m, r, -1, false, 0, 0⟩ 111
  have hbz : w1.heap.size < W.heap.size := by rw [hW]; simp
  have hown : ∀ q, (Value.slice va n' vc).ownBlock = some q → q < w1.heap.size := fun q hq => (World.ownsRow.lt A1 q hq).2
  have HO : Hid (∀ q, (Value.slice va n' vc).ownBlock = some q → q < w1.heap.size) := hown
  clear A1 B1 hown
  have hc0 : W.cell? ⟨w1.heap.size, 0, none⟩ = some (.int .i64 i) := by simpa using XX.out.1.1
  have CF := indexFunc a c L 83 #[.pointer (some ⟨w1.heap.size, 0, none⟩)] (fun x => decide (i < x.id)) W (H.out.below BX.out) (enters_of Tryz.func83 (by kernel_rfl) rfl) (fun x V hV => after1 x i w1.heap.size V (by rw [hV.cell (p := ⟨w1.heap.size, 0, none⟩) hbz]; exact hc0) (Nat.lt_of_lt_of_le hbz hV.size))
  have HCF : Hid (Calls Tryz.prog 82 #[.slice a L.length c, .func (.func 83) #[] #[.pointer (some ⟨w1.heap.size, 0, none⟩)]] W fun e w' => e = .returned (.int .i64 (idxOf (fun x => decide (i < x.id)) L)) ∧ Below W.heap.size W w') := CF
  clear CF hc0
  go_wp2_with fail
  rw [← hW]
  refine HCF.out.mono ?_
  rintro e w2 ⟨rfl, B2⟩
  have S2 : Hid (Below w.heap.size w w2 ∧ AL w2 w.heap.size (.slice va n' vc) L ∧ Box w2 w1.heap.size ⟨i, t, m, r, -1, false, 0, 0⟩ ∧ w1.heap.size < w2.heap.size) := ⟨BX.out.trans (B2.mono BX.out.size), AX.out.kept B2, XX.out.below B2, Nat.lt_of_lt_of_le hbz B2.size⟩
  clear B2 hW HCF BX AX XX hbz W
  obtain ⟨V, hV⟩ : ∃ V, V = w2.alloc (.cells #[.int .i64 i, .int .i64 t, .int .i64 m, .int .i64 r, .int .i64 (-1), .bool false, .int .i64 0, .int .i64 0] 38) := ⟨_, rfl⟩
  have S3 : Hid (Below w.heap.size w V ∧ AL V w.heap.size (.slice va n' vc) L ∧ One V w2.heap.size ⟨i, t, m, r, -1, false, 0, 0⟩ ∧ w2.heap.size < V.heap.size ∧ (Value.slice va n' vc).ownBlock ≠ some w2.heap.size) := by
    refine ⟨by rw [hV]; exact S2.out.1.alloc S2.out.1.size _, by rw [hV]; exact World.ownsRow.alloc S2.out.2.1 _, ?_, by rw [hV]; simp, fun e => ?_⟩
    · unfold One
      rw [hV]
      show (w2.heap.push _)[w2.heap.size]? = _
      simp [accCells]
    · have h1 := HO.out _ e
      have h2 := S2.out.2.2.2
      omega
  obtain ⟨r0, r1, r2, r3, r4, r5, r6, r7⟩ := S2.out.2.2.1.1
  simp only [Nat.zero_add] at r0 r1 r2 r3 r4 r5 r6 r7
  rcases HI with ⟨k, hk, ek, ei⟩ | ⟨ek, ei⟩
  · have EK : Hid (rankL L i = k) := ek
    rw [ei]
    clear ek ei
    go_wp2_with fail
    rw [← hV]
    refine (implInsert w.heap.size _ L k ⟨i, t, m, r, -1, false, 0, 0⟩ w2.heap.size V S3.out.2.1 S3.out.1.size (by omega) hn S3.out.2.2.1 S3.out.2.2.2.1 S3.out.2.2.2.2).mono ?_
    rintro e w3 ⟨v3, rfl, A3, B3⟩
    have S4 : Hid (AL w3 w.heap.size v3 (L.take k ++ (⟨i, t, m, r, -1, false, 0, 0⟩ : Acc) :: L.drop k) ∧ Below w.heap.size w w3) := ⟨A3, S3.out.1.trans B3⟩
    obtain ⟨ua, uc, hu⟩ := A3.len
    obtain ⟨un, hun⟩ : ∃ un, un = (L.take k ++ (⟨i, t, m, r, -1, false, 0, 0⟩ : Acc) :: L.drop k).length := ⟨_, rfl⟩
    rw [← hun] at hu
    subst hu
    clear A3 B3 hun
    go_wp2
    go_ret
    rw [EK.out]
    exact ⟨_, rfl, S4.out.1, S4.out.2⟩
  · have EK : Hid (rankL L i = L.length) := ek
    rw [ei]
    clear ek ei
    go_wp2_with fail
    rw [← hV]
    refine (implInsert w.heap.size _ L L.length ⟨i, t, m, r, -1, false, 0, 0⟩ w2.heap.size V S3.out.2.1 S3.out.1.size (Nat.le_refl _) hn S3.out.2.2.1 S3.out.2.2.2.1 S3.out.2.2.2.2).mono ?_
    rintro e w3 ⟨v3, rfl, A3, B3⟩
    have S4 : Hid (AL w3 w.heap.size v3 (L.take L.length ++ (⟨i, t, m, r, -1, false, 0, 0⟩ : Acc) :: L.drop L.length) ∧ Below w.heap.size w w3) := ⟨A3, S3.out.1.trans B3⟩
    obtain ⟨ua, uc, hu⟩ := A3.len
    obtain ⟨un, hun⟩ : ∃ un, un = (L.take L.length ++ (⟨i, t, m, r, -1, false, 0, 0⟩ : Acc) :: L.drop L.length).length := ⟨_, rfl⟩
    rw [← hun] at hu
    subst hu
    clear A3 B3 hun
    go_wp2
    go_ret
    rw [EK.out]
    exact ⟨_, rfl, S4.out.1, S4.out.2⟩
end Go.Proofs.YthkgppfgidlicaaGreatDoor
