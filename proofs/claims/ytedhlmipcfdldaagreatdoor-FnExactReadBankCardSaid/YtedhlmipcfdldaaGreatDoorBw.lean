/- BankText of the specification, walked. Conditions: the bank lies in memory. -/
import Derived.Test.YtedhlmipcfdldaaGreatDoorBv
import Derived.Deep.RegionHeld3
import Derived.Deep.DeepCutAuto
namespace Go.Proofs.YtedhlmipcfdldaaGreatDoor
open Go.RowKit
set_option maxRecDepth 8000

theorem IntC.lit3 (w : World) (ns : List Int) : IntC (w.alloc (.cells (ns.map (Value.int .i64)).toArray 2)) (some ⟨w.heap.size, 0, none⟩) ns := by
  refine Or.inr ⟨w.heap.size, 0, rfl, by simp, fun i hi => ?_⟩
  rw [World.cell?_alloc_mark]
  simp [hi]
set_option maxHeartbeats 2000000 in
theorem specOrdN (A : Ord) (w : World) : Calls Tryz.prog 39 #[.agg #[.int .i64 A.id, .int .i64 A.src, .int .i64 A.dst, .int .i64 A.amount, .int .i64 A.first, .int .i64 A.every, .int .i64 A.times]] w fun e w' => ∃ a c, e = .returned (.slice a 7 c) ∧ IntC w' a (orN A) ∧ Below w.heap.size w w' := by
  have FI : Hid (IntC ((w.alloc (.cells #[.int .i64 A.id, .int .i64 A.src, .int .i64 A.dst, .int .i64 A.amount, .int .i64 A.first, .int .i64 A.every, .int .i64 A.times] 39)).alloc (.cells #[.int .i64 A.id, .int .i64 A.src, .int .i64 A.dst, .int .i64 A.amount, .int .i64 A.first, .int .i64 A.every, .int .i64 A.times] 2)) (some ⟨w.heap.size + 1, 0, none⟩) (orN A) ∧ Below w.heap.size w ((w.alloc (.cells #[.int .i64 A.id, .int .i64 A.src, .int .i64 A.dst, .int .i64 A.amount, .int .i64 A.first, .int .i64 A.every, .int .i64 A.times] 39)).alloc (.cells #[.int .i64 A.id, .int .i64 A.src, .int .i64 A.dst, .int .i64 A.amount, .int .i64 A.first, .int .i64 A.every, .int .i64 A.times] 2))) := by
    have := IntC.lit3 (w.alloc (.cells #[.int .i64 A.id, .int .i64 A.src, .int .i64 A.dst, .int .i64 A.amount, .int .i64 A.first, .int .i64 A.every, .int .i64 A.times] 39)) (orN A)
    rw [World.size_alloc] at this
    exact ⟨this, ((Below.refl _ _).alloc (Nat.le_refl _) _).alloc (by simp) _⟩
  go_enter Tryz.func39, Tryz.ntmps39
  go_wp2
  go_ret
  exact ⟨_, _, rfl, FI.out.1, FI.out.2⟩

set_option maxHeartbeats 8000000 in
theorem specBTx (a b : Option Addr) (n c m d : Nat) (F : Nat → Acc) (O : Nat → Ord) (k : Bk) (w : World) (hF : Fo w a n F) (hO : Ords w b m O) (h : bankOk F n O m k) :
    Calls Tryz.prog 22 #[.agg #[.int .i64 k.day, .slice a n c, .slice b m d, .int .i64 k.inn, .int .i64 k.out, .int .i64 k.posted, .int .i64 k.missed]] w fun e w' => e = .returned (.string (bankB F n O m k)) ∧ Below w.heap.size w w' := by
  obtain ⟨W0, hW0, X0⟩ : ∃ W0, W0 = w.alloc (.cells #[.int .i64 k.day, .slice a n c, .slice b m d, .int .i64 k.inn, .int .i64 k.out, .int .i64 k.posted, .int .i64 k.missed] 25) ∧ Hid (BkAll W0 w.heap.size a b n c m d F O k w) := ⟨_, rfl, ⟨BkBox.new w _ _ k 25, hF.alloc _, hO.alloc _, (Below.refl _ _).alloc (Nat.le_refl _) _⟩⟩
  have HW0 : Hid (W0 = _) := hW0
  have HN : Hid (bankOk F n O m k) := h
  have hn12 : n ≤ 12 := h.2.1.1
  have hm8 : m ≤ 8 := h.2.2.1.1
  have OKA : Hid (∀ j, j < n → okS (F j)) := h.2.1.2.1
  have OKO : Hid (∀ j, j < m → ordOk (O j)) := h.2.2.1.2.1
  obtain ⟨V1, hV1, X1⟩ : ∃ V1, V1 = W0.alloc (.cells #[.int .i64 k.day, .int .i64 k.inn, .int .i64 k.out, .int .i64 k.posted, .int .i64 k.missed] 2) ∧ Hid (BkAll V1 w.heap.size a b n c m d F O k w ∧ IntC V1 (some ⟨w.heap.size + 1, 0, none⟩) (bkN k)) := by
    refine ⟨_, rfl, X0.out.below ((Below.refl _ _).alloc (Nat.le_refl _) _), ?_⟩
    have := IntC.lit3 W0 (bkN k)
    rw [show W0.heap.size = w.heap.size + 1 by rw [hW0]; simp] at this
    exact this
  have HV1 : Hid (V1 = _) := hV1
  have hrs := rowB_size (k := 100) (S := wBank) (bkN_sml h) (by decide)
  have hadd0 := add_run (rowB wBank (bkN k)) ⟨#[10]⟩ (by have : (bkN k).length = 5 := rfl; omega) (by show (1 : Nat) ≤ _; omega)
  clear hF hO h hW0 hV1 hrs
  go_enter Tryz.func22, Tryz.ntmps22
  go_wp2_with fail
  rw [← HW0.out, ← HV1.out]
  clear HW0 HV1 X0
  refine (specRow wBank (by decide) _ 5 _ (bkN k) rfl (by omega) (bkN_sml HN.out) _ X1.out.2).mono ?_
  rintro e w3 ⟨rfl, B3⟩
  have X3 : Hid (BkAll w3 w.heap.size a b n c m d F O k w) := X1.out.1.below B3
  clear B3 X1
  obtain ⟨T0, hT0⟩ : ∃ T0, T0 = lineB wBank (bkN k) := ⟨_, rfl⟩
  have HT0 : Hid (T0 = lineB wBank (bkN k)) := hT0
  have HS0 : Hid (T0.size ≤ 253) := by show T0.size ≤ 253; rw [hT0]; exact lineB_size (by decide) (by simp [bkN]) (bkN_sml HN.out)
  rw [show rowB wBank (bkN k) ++ (⟨#[10]⟩ : ByteArray) = T0 from hT0.symm] at hadd0
  clear hT0
  generalize rowB wBank (bkN k) = rb at *
  obtain ⟨⟨c0, c1, c2, c3, c4, c5, c6, cl⟩, _⟩ := X3.out
  go_wp2
  clear hadd0
  go_loopw [3, 4] (fun s i wr => ∃ (j : Nat) (T : ByteArray), j ≤ n ∧ i = .int .i64 j ∧ s = .string T ∧ Hid (T = accT T0 F j) ∧ Hid (BkAll wr w.heap.size a b n c m d F O k w)) (fun _ i _ => n - (intOf i).toNat)
  case atStart => exact ⟨0, T0, Nat.zero_le _, rfl, rfl, (rfl : T0 = accT T0 F 0), X3⟩
  case round =>
    obtain ⟨j, T, hj, rfl, rfl, hT, hX⟩ := hrel
    clear X3 c0 c1 c2 c3 c4 c5 c6 cl
    obtain ⟨⟨c0, c1, c2, c3, c4, c5, c6, cl⟩, _⟩ := hX.out
    by_cases hlt : j < n
    · have hlt' : (j : Int) < (n : Int) := by omega
      obtain ⟨A, hA⟩ : ∃ A, A = F j := ⟨_, rfl⟩
      obtain ⟨bb, oo, rfl, hb0, hA0⟩ := hX.out.2.1.acc hlt
      rw [← hA] at hA0
      have okA : Hid (okS A) := by show okS A; rw [hA]; exact OKA.out j hlt
      have hTs : T.size ≤ 10000 := by
        have := accT_size (F := F) HS0.out j (fun i hi => OKA.out i (by omega))
        rw [hT.out]; omega
      have hrs := rowB_size (k := 100) (S := wAcc) (acN_sml okA.out) (by decide)
      have hl8 : (acN A).length = 8 := rfl
      have hadd1 := add_run T (rowB wAcc (acN A)) (by omega) (by omega)
      have hadd2 := add_run (T ++ rowB wAcc (acN A)) ⟨#[10]⟩ (by rw [ByteArray.size_append]; omega) (by show (1 : Nat) ≤ _; omega)
      have HN2 : Hid (T ++ rowB wAcc (acN A) ++ ⟨#[10]⟩ = accT T0 F (j + 1)) := by
        show _ = accT T0 F j ++ (rowB wAcc (acN (F j)) ++ ⟨#[10]⟩)
        rw [← hT.out, ← hA, ByteArray.append_assoc]
      obtain ⟨V, hV, YV⟩ : ∃ V, V = wr.alloc (.cells #[.int .i64 A.id, .int .i64 A.up, .int .i64 A.limit, .int .i64 A.rate, .int .i64 A.target, .bool A.frozen, .int .i64 A.balance, .int .i64 A.carry] 37) ∧ Hid ((V.cell? ⟨wr.heap.size, 0, none⟩ = some (.int .i64 A.id) ∧ V.cell? ⟨wr.heap.size, 1, none⟩ = some (.int .i64 A.up) ∧ V.cell? ⟨wr.heap.size, 2, none⟩ = some (.int .i64 A.limit) ∧ V.cell? ⟨wr.heap.size, 3, none⟩ = some (.int .i64 A.rate) ∧ V.cell? ⟨wr.heap.size, 4, none⟩ = some (.int .i64 A.target) ∧ V.cell? ⟨wr.heap.size, 5, none⟩ = some (.bool A.frozen) ∧ V.cell? ⟨wr.heap.size, 6, none⟩ = some (.int .i64 A.balance) ∧ V.cell? ⟨wr.heap.size, 7, none⟩ = some (.int .i64 A.carry)) ∧ BkAll V w.heap.size (some ⟨bb, oo, none⟩) b n c m d F O k w ∧ wr.heap.size < V.heap.size) := by
        refine ⟨_, rfl, ⟨?_, ?_, ?_, ?_, ?_, ?_, ?_, ?_⟩, hX.out.below ((Below.refl _ _).alloc (Nat.le_refl _) _), by simp⟩ <;> simp [go_sem]
      have HV : Hid (V = _) := hV
      clear hT hTs hrs hV hA hl8
      obtain ⟨z0, z1, z2, z3, z4, z5, z6, z7⟩ := hA0
      go_upto_region 6 with fail
      rw [← HV.out]
      clear HV z0 z1 z2 z3 z4 z5 z6 z7 hX c0 c1 c2 c3 c4 c5 c6 cl
      have k0 : (V.drew.cell? ⟨wr.heap.size, 0, none⟩ = some (.int .i64 A.id) ∧ V.drew.cell? ⟨wr.heap.size, 1, none⟩ = some (.int .i64 A.up) ∧ V.drew.cell? ⟨wr.heap.size, 2, none⟩ = some (.int .i64 A.limit) ∧ V.drew.cell? ⟨wr.heap.size, 3, none⟩ = some (.int .i64 A.rate) ∧ V.drew.cell? ⟨wr.heap.size, 4, none⟩ = some (.int .i64 A.target) ∧ V.drew.cell? ⟨wr.heap.size, 5, none⟩ = some (.bool A.frozen) ∧ V.drew.cell? ⟨wr.heap.size, 6, none⟩ = some (.int .i64 A.balance) ∧ V.drew.cell? ⟨wr.heap.size, 7, none⟩ = some (.int .i64 A.carry)) := YV.out.1
      have kA : ∀ ob, ((V.drew.alloc ob).cell? ⟨wr.heap.size, 0, none⟩ = some (.int .i64 A.id) ∧ (V.drew.alloc ob).cell? ⟨wr.heap.size, 1, none⟩ = some (.int .i64 A.up) ∧ (V.drew.alloc ob).cell? ⟨wr.heap.size, 2, none⟩ = some (.int .i64 A.limit) ∧ (V.drew.alloc ob).cell? ⟨wr.heap.size, 3, none⟩ = some (.int .i64 A.rate) ∧ (V.drew.alloc ob).cell? ⟨wr.heap.size, 4, none⟩ = some (.int .i64 A.target) ∧ (V.drew.alloc ob).cell? ⟨wr.heap.size, 5, none⟩ = some (.bool A.frozen) ∧ (V.drew.alloc ob).cell? ⟨wr.heap.size, 6, none⟩ = some (.int .i64 A.balance) ∧ (V.drew.alloc ob).cell? ⟨wr.heap.size, 7, none⟩ = some (.int .i64 A.carry)) := fun ob => ⟨(World.cell?_alloc_lt _ _ _ YV.out.2.2).trans YV.out.1.1, (World.cell?_alloc_lt _ _ _ YV.out.2.2).trans YV.out.1.2.1, (World.cell?_alloc_lt _ _ _ YV.out.2.2).trans YV.out.1.2.2.1, (World.cell?_alloc_lt _ _ _ YV.out.2.2).trans YV.out.1.2.2.2.1, (World.cell?_alloc_lt _ _ _ YV.out.2.2).trans YV.out.1.2.2.2.2.1, (World.cell?_alloc_lt _ _ _ YV.out.2.2).trans YV.out.1.2.2.2.2.2.1, (World.cell?_alloc_lt _ _ _ YV.out.2.2).trans YV.out.1.2.2.2.2.2.2.1, (World.cell?_alloc_lt _ _ _ YV.out.2.2).trans YV.out.1.2.2.2.2.2.2.2⟩
      have kB : ∀ ob, (((V.alloc ob).drew).cell? ⟨wr.heap.size, 0, none⟩ = some (.int .i64 A.id) ∧ ((V.alloc ob).drew).cell? ⟨wr.heap.size, 1, none⟩ = some (.int .i64 A.up) ∧ ((V.alloc ob).drew).cell? ⟨wr.heap.size, 2, none⟩ = some (.int .i64 A.limit) ∧ ((V.alloc ob).drew).cell? ⟨wr.heap.size, 3, none⟩ = some (.int .i64 A.rate) ∧ ((V.alloc ob).drew).cell? ⟨wr.heap.size, 4, none⟩ = some (.int .i64 A.target) ∧ ((V.alloc ob).drew).cell? ⟨wr.heap.size, 5, none⟩ = some (.bool A.frozen) ∧ ((V.alloc ob).drew).cell? ⟨wr.heap.size, 6, none⟩ = some (.int .i64 A.balance) ∧ ((V.alloc ob).drew).cell? ⟨wr.heap.size, 7, none⟩ = some (.int .i64 A.carry)) := fun ob => kA ob
      have LI : Hid (IntC (V.drew.alloc (.cells #[.int .i64 A.id, .int .i64 A.up, .int .i64 A.limit, .int .i64 A.rate, .int .i64 A.target, .int .i64 (flagZ A.frozen), .int .i64 A.balance, .int .i64 A.carry] 2)) (some ⟨V.heap.size, 0, none⟩) (acN A) ∧ BkAll (V.drew.alloc (.cells #[.int .i64 A.id, .int .i64 A.up, .int .i64 A.limit, .int .i64 A.rate, .int .i64 A.target, .int .i64 (flagZ A.frozen), .int .i64 A.balance, .int .i64 A.carry] 2)) w.heap.size (some ⟨bb, oo, none⟩) b n c m d F O k w) := ⟨IntC.lit3 V.drew (acN A), (YV.out.2.1.below ((Below.refl _ _).drew)).below ((Below.refl _ _).alloc (Nat.le_refl _) _)⟩
      have CR : Hid (Calls Tryz.prog 37 #[.string ⟨#[97, 99, 99, 111, 117, 110, 116]⟩, .slice (some ⟨V.heap.size, 0, none⟩) 8 8] (V.drew.alloc (.cells #[.int .i64 A.id, .int .i64 A.up, .int .i64 A.limit, .int .i64 A.rate, .int .i64 A.target, .int .i64 (flagZ A.frozen), .int .i64 A.balance, .int .i64 A.carry] 2)) fun e w' => e = .returned (.string (rowB wAcc (acN A))) ∧ Below (V.drew.alloc (.cells #[.int .i64 A.id, .int .i64 A.up, .int .i64 A.limit, .int .i64 A.rate, .int .i64 A.target, .int .i64 (flagZ A.frozen), .int .i64 A.balance, .int .i64 A.carry] 2)).heap.size (V.drew.alloc (.cells #[.int .i64 A.id, .int .i64 A.up, .int .i64 A.limit, .int .i64 A.rate, .int .i64 A.target, .int .i64 (flagZ A.frozen), .int .i64 A.balance, .int .i64 A.carry] 2)) w') := specRow wAcc (by decide) _ 8 _ (acN A) rfl (by omega) (acN_sml okA.out) _ LI.out.1
      have KB : Hid (∀ u2, Below (V.drew.alloc (.cells #[.int .i64 A.id, .int .i64 A.up, .int .i64 A.limit, .int .i64 A.rate, .int .i64 A.target, .int .i64 (flagZ A.frozen), .int .i64 A.balance, .int .i64 A.carry] 2)).heap.size (V.drew.alloc (.cells #[.int .i64 A.id, .int .i64 A.up, .int .i64 A.limit, .int .i64 A.rate, .int .i64 A.target, .int .i64 (flagZ A.frozen), .int .i64 A.balance, .int .i64 A.carry] 2)) u2 → (u2.cell? ⟨wr.heap.size, 0, none⟩ = some (.int .i64 A.id) ∧ u2.cell? ⟨wr.heap.size, 1, none⟩ = some (.int .i64 A.up) ∧ u2.cell? ⟨wr.heap.size, 2, none⟩ = some (.int .i64 A.limit) ∧ u2.cell? ⟨wr.heap.size, 3, none⟩ = some (.int .i64 A.rate) ∧ u2.cell? ⟨wr.heap.size, 4, none⟩ = some (.int .i64 A.target) ∧ u2.cell? ⟨wr.heap.size, 5, none⟩ = some (.bool A.frozen) ∧ u2.cell? ⟨wr.heap.size, 6, none⟩ = some (.int .i64 A.balance) ∧ u2.cell? ⟨wr.heap.size, 7, none⟩ = some (.int .i64 A.carry))) := fun u2 hb => by
        have hz : wr.heap.size < (V.drew.alloc (.cells #[.int .i64 A.id, .int .i64 A.up, .int .i64 A.limit, .int .i64 A.rate, .int .i64 A.target, .int .i64 (flagZ A.frozen), .int .i64 A.balance, .int .i64 A.carry] 2)).heap.size := by have := YV.out.2.2; simp; show _ < V.heap.size + 1; omega
        obtain ⟨q0, q1, q2, q3, q4, q5, q6, q7⟩ := kA (.cells #[.int .i64 A.id, .int .i64 A.up, .int .i64 A.limit, .int .i64 A.rate, .int .i64 A.target, .int .i64 (flagZ A.frozen), .int .i64 A.balance, .int .i64 A.carry] 2)
        exact ⟨(hb.cell (p := ⟨wr.heap.size, 0, none⟩) hz).trans q0, (hb.cell (p := ⟨wr.heap.size, 1, none⟩) hz).trans q1, (hb.cell (p := ⟨wr.heap.size, 2, none⟩) hz).trans q2, (hb.cell (p := ⟨wr.heap.size, 3, none⟩) hz).trans q3, (hb.cell (p := ⟨wr.heap.size, 4, none⟩) hz).trans q4, (hb.cell (p := ⟨wr.heap.size, 5, none⟩) hz).trans q5, (hb.cell (p := ⟨wr.heap.size, 6, none⟩) hz).trans q6, (hb.cell (p := ⟨wr.heap.size, 7, none⟩) hz).trans q7⟩
      have CR2 : Hid (Calls Tryz.prog 37 #[.string ⟨#[97, 99, 99, 111, 117, 110, 116]⟩, .slice (some ⟨V.heap.size, 0, none⟩) 8 8] ((V.alloc (.cells #[.int .i64 A.id, .int .i64 A.up, .int .i64 A.limit, .int .i64 A.rate, .int .i64 A.target, .int .i64 (flagZ A.frozen), .int .i64 A.balance, .int .i64 A.carry] 2)).drew) fun e w' => e = .returned (.string (rowB wAcc (acN A))) ∧ Below (V.drew.alloc (.cells #[.int .i64 A.id, .int .i64 A.up, .int .i64 A.limit, .int .i64 A.rate, .int .i64 A.target, .int .i64 (flagZ A.frozen), .int .i64 A.balance, .int .i64 A.carry] 2)).heap.size (V.drew.alloc (.cells #[.int .i64 A.id, .int .i64 A.up, .int .i64 A.limit, .int .i64 A.rate, .int .i64 A.target, .int .i64 (flagZ A.frozen), .int .i64 A.balance, .int .i64 A.carry] 2)) w') := CR.out
      have XB : Hid (∀ u2, Below (V.drew.alloc (.cells #[.int .i64 A.id, .int .i64 A.up, .int .i64 A.limit, .int .i64 A.rate, .int .i64 A.target, .int .i64 (flagZ A.frozen), .int .i64 A.balance, .int .i64 A.carry] 2)).heap.size (V.drew.alloc (.cells #[.int .i64 A.id, .int .i64 A.up, .int .i64 A.limit, .int .i64 A.rate, .int .i64 A.target, .int .i64 (flagZ A.frozen), .int .i64 A.balance, .int .i64 A.carry] 2)) u2 → Hid (BkAll u2 w.heap.size (some ⟨bb, oo, none⟩) b n c m d F O k w)) := fun u2 hb => LI.out.2.below hb
      generalize rowB wAcc (acN A) = rw1 at *
      generalize T ++ rw1 = T1 at *
      generalize T1 ++ (⟨#[10]⟩ : ByteArray) = T2 at *
      go_region_held3 (fun V => (V.cell? ⟨wr.heap.size, 0, none⟩ = some (.int .i64 A.id) ∧ V.cell? ⟨wr.heap.size, 1, none⟩ = some (.int .i64 A.up) ∧ V.cell? ⟨wr.heap.size, 2, none⟩ = some (.int .i64 A.limit) ∧ V.cell? ⟨wr.heap.size, 3, none⟩ = some (.int .i64 A.rate) ∧ V.cell? ⟨wr.heap.size, 4, none⟩ = some (.int .i64 A.target) ∧ V.cell? ⟨wr.heap.size, 5, none⟩ = some (.bool A.frozen) ∧ V.cell? ⟨wr.heap.size, 6, none⟩ = some (.int .i64 A.balance) ∧ V.cell? ⟨wr.heap.size, 7, none⟩ = some (.int .i64 A.carry))) (first | with_reducible exact k0 | with_reducible exact kA _ | with_reducible exact kB _ | with_reducible exact k2) (first | (go_at_call 38; refine (specFlag A.frozen _).mono ?_; rintro e wz ⟨rfl, hwz⟩; subst hwz) | (go_at_call 37; (first | with_reducible refine CR.out.mono ?_ | with_reducible refine CR2.out.mono ?_); rintro e u2 ⟨rfl, B2⟩; have k2 := KB.out u2 B2; have X2 := XB.out u2 B2; clear B2))
      all_goals go_wp2
      all_goals go_roundw
      all_goals first | exact ⟨j + 1, T2, by omega, by go_num, rfl, HN2, X2⟩ | (simp [intOf]; omega)
    · obtain rfl : j = n := by omega
      clear hj hlt
      go_wp2
      go_loopw [3, 6] (fun s i wr => ∃ (i' : Nat) (T' : ByteArray), i' ≤ m ∧ i = .int .i64 i' ∧ s = .string T' ∧ Hid (T' = ordT (accT T0 F j) O i') ∧ Hid (BkAll wr w.heap.size a b j c m d F O k w)) (fun _ i _ => m - (intOf i).toNat)
      case atStart => exact ⟨0, T, Nat.zero_le _, rfl, rfl, hT, hX⟩
      case round =>
        obtain ⟨i, T', hi, rfl, rfl, hT', hX'⟩ := hrel
        clear hX c0 c1 c2 c3 c4 c5 c6 cl
        obtain ⟨⟨c0, c1, c2, c3, c4, c5, c6, cl⟩, _⟩ := hX'.out
        by_cases hlt : i < m
        · have hlt' : (i : Int) < (m : Int) := by omega
          obtain ⟨A, hA⟩ : ∃ A, A = O i := ⟨_, rfl⟩
          obtain ⟨bb, oo, rfl, hb0, hA0⟩ := hX'.out.2.2.1.acc hlt
          rw [← hA] at hA0
          have okA : Hid (ordOk A) := by show ordOk A; rw [hA]; exact OKO.out i hlt
          have hTs : T'.size ≤ 10000 := by
            have h1 := accT_size (F := F) HS0.out j OKA.out
            have h2 := ordT_size (O := O) h1 i (fun q hq => OKO.out q (by omega))
            rw [hT'.out]; omega
          have hrs := rowB_size (k := 100) (S := wOrd) (orN_sml okA.out) (by decide)
          have hl7 : (orN A).length = 7 := rfl
          have hadd1 := add_run T' (rowB wOrd (orN A)) (by omega) (by omega)
          have hadd2 := add_run (T' ++ rowB wOrd (orN A)) ⟨#[10]⟩ (by rw [ByteArray.size_append]; omega) (by show (1 : Nat) ≤ _; omega)
          have HN2 : Hid (T' ++ rowB wOrd (orN A) ++ ⟨#[10]⟩ = ordT (accT T0 F j) O (i + 1)) := by
            show _ = ordT (accT T0 F j) O i ++ (rowB wOrd (orN (O i)) ++ ⟨#[10]⟩)
            rw [← hT'.out, ← hA, ByteArray.append_assoc]
          clear hT' hTs hrs hA hl7
          obtain ⟨z0, z1, z2, z3, z4, z5, z6⟩ := hA0
          go_wp2_with fail
          refine (specOrdN A _).mono ?_
          rintro e w5 ⟨pa', pc', rfl, P5, B5⟩
          have X5 : Hid (BkAll w5 w.heap.size a (some ⟨bb, oo, none⟩) j c m d F O k w ∧ IntC w5 pa' (orN A)) := ⟨hX'.out.below B5, P5⟩
          clear P5 B5 hX' z0 z1 z2 z3 z4 z5 z6 c0 c1 c2 c3 c4 c5 c6 cl
          go_wp2_with fail
          refine (specRow wOrd (by decide) pa' 7 pc' (orN A) rfl (by omega) (orN_sml okA.out) _ X5.out.2).mono ?_
          rintro e w6 ⟨rfl, B6⟩
          have X6 : Hid (BkAll w6 w.heap.size a (some ⟨bb, oo, none⟩) j c m d F O k w) := X5.out.1.below B6
          clear B6 X5
          generalize rowB wOrd (orN A) = rw1 at *
          generalize T' ++ rw1 = T1 at *
          generalize T1 ++ (⟨#[10]⟩ : ByteArray) = T2 at *
          go_wp2
          go_roundw
          case rel => exact ⟨i + 1, T2, by omega, by go_num, rfl, HN2, X6⟩
          case measure => simp [intOf]; omega
        · obtain rfl : i = m := by omega
          have HE : Hid (T' = bankB F j O i k) := by
            show T' = bankB F j O i k
            unfold bankB
            rw [← HT0.out]; exact hT'.out
          clear hT'
          go_wp2
          go_ret
          exact ⟨congrArg (fun x => Ending.returned (.string x)) HE.out, hX'.out.2.2.2⟩

set_option maxHeartbeats 2000000 in
theorem specBT (a b : Option Addr) (n c m d : Nat) (F : Nat → Acc) (O : Nat → Ord) (k : Bk) (w : World) (hF : Fo w a n F) (hO : Ords w b m O) (t : ByteArray) (ht : (bankOk F n O m k → t = bankB F n O m k) ∧ (¬ bankOk F n O m k → t = ⟨#[]⟩)) :
    Calls Tryz.prog 11 #[.agg #[.int .i64 k.day, .slice a n c, .slice b m d, .int .i64 k.inn, .int .i64 k.out, .int .i64 k.posted, .int .i64 k.missed]] w fun e w' => e = .returned (.string t) ∧ Below w.heap.size w w' := by
  obtain ⟨W0, hW0, X0⟩ : ∃ W0, W0 = w.alloc (.cells #[.int .i64 k.day, .slice a n c, .slice b m d, .int .i64 k.inn, .int .i64 k.out, .int .i64 k.posted, .int .i64 k.missed] 25) ∧ Hid (BkAll W0 w.heap.size a b n c m d F O k w) := ⟨_, rfl, ⟨BkBox.new w _ _ k 25, hF.alloc _, hO.alloc _, (Below.refl _ _).alloc (Nat.le_refl _) _⟩⟩
  have HW0 : Hid (W0 = _) := hW0
  have HT : Hid ((bankOk F n O m k → t = bankB F n O m k) ∧ (¬ bankOk F n O m k → t = ⟨#[]⟩)) := ht
  clear hF hO ht hW0
  go_enter Tryz.func11, Tryz.ntmps11
  go_wp2_with fail
  rw [← HW0.out]
  refine (specBank a b n c m d F O k _ X0.out.2.1 X0.out.2.2.1).mono ?_
  rintro e w1 ⟨ht, B1⟩
  have X1 : Hid (BkAll w1 w.heap.size a b n c m d F O k w) := X0.out.below B1
  clear B1 X0 HW0
  by_cases hk : bankOk F n O m k
  · have he := TellsT.true ht hk
    subst he
    have HE := HT.out.1 hk
    subst HE
    have CT : Hid (∀ W, BkAll W w.heap.size a b n c m d F O k w → Calls Tryz.prog 22 #[.agg #[.int .i64 k.day, .slice a n c, .slice b m d, .int .i64 k.inn, .int .i64 k.out, .int .i64 k.posted, .int .i64 k.missed]] W fun e w' => e = .returned (.string (bankB F n O m k)) ∧ Below W.heap.size W w') := fun W hW => specBTx a b n c m d F O k W hW.2.1 hW.2.2.1 hk
    clear ht HT
    obtain ⟨⟨c0, c1, c2, c3, c4, c5, c6, cl⟩, _⟩ := X1.out
    go_wp2_with fail
    refine (CT.out _ X1.out).mono ?_
    rintro e w2 ⟨rfl, B2⟩
    have X2 : Hid (BkAll w2 w.heap.size a b n c m d F O k w) := X1.out.below B2
    clear B2 CT c0 c1 c2 c3 c4 c5 c6 cl
    go_wp2
    go_ret
    exact ⟨rfl, X2.out.2.2.2⟩
  · have he := TellsT.false ht hk
    subst he
    have HE := HT.out.2 hk
    subst HE
    clear ht HT
    go_wp2
    go_ret
    exact ⟨rfl, X1.out.2.2.2⟩
end Go.Proofs.YtedhlmipcfdldaaGreatDoor
