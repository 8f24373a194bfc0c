/- BankText of the program, walked. Conditions: the bank lies in memory; the library's table of powers of ten as its text lays it. -/
import Derived.Test.YtodbcdclglaniaaDoorBu
namespace Go.Proofs.YtodbcdclglaniaaDoor
open Go.RowKit
set_option maxRecDepth 8000

theorem TellsT.true {e : Ending} {P : Prop} (h : Tells e P) (hp : P) : e = .returned (.bool true) := by
  obtain ⟨b, rfl, h1, h2⟩ := h
  cases b
  · exact absurd hp (h2 rfl)
  · rfl
theorem TellsT.false {e : Ending} {P : Prop} (h : Tells e P) (hp : ¬ P) : e = .returned (.bool false) := by
  obtain ⟨b, rfl, h1, h2⟩ := h
  cases b
  · rfl
  · exact absurd (h1 rfl) hp
set_option maxHeartbeats 2000000 in
theorem implBT_no (a b : Option Addr) (n c m d : Nat) (F : Nat → Acc) (O : Nat → Ord) (k : Bk) (w : World) (hF : Fo w a n F) (hO : Ords w b m O) (h : ¬ bankOk F n O m k) :
    Calls Tryd.prog 8 #[.agg #[.int .i64 k.day, .slice a n c, .slice b m d, .int .i64 k.inn, .int .i64 k.out, .int .i64 k.posted, .int .i64 k.missed]] w fun e w' => e = .returned (.string ⟨#[]⟩) ∧ Below w.heap.size w w' := by
  obtain ⟨W0, hW0, X0⟩ : ∃ W0, W0 = w.alloc (.cells #[.int .i64 k.day, .slice a n c, .slice b m d, .int .i64 k.inn, .int .i64 k.out, .int .i64 k.posted, .int .i64 k.missed] 31) ∧ Hid (BkAll W0 w.heap.size a b n c m d F O k w) := ⟨_, rfl, ⟨BkBox.new w _ _ k 31, hF.alloc _, hO.alloc _, (Below.refl _ _).alloc (Nat.le_refl _) _⟩⟩
  have HW0 : Hid (W0 = _) := hW0
  have HN : Hid (¬ bankOk F n O m k) := h
  clear hF hO h hW0
  go_enter Tryd.func8, Tryd.ntmps8
  go_wp2_with fail
  rw [← HW0.out]
  refine (implBank a b n c m d F O k _ X0.out.2.1 X0.out.2.2.1).mono ?_
  rintro e w1 ⟨ht, B1⟩
  have he := TellsT.false ht HN.out
  subst he
  have X1 : Hid (BkAll w1 w.heap.size a b n c m d F O k w) := X0.out.below B1
  clear ht B1 X0 HW0
  go_wp2
  go_ret
  exact ⟨rfl, X1.out.2.2.2⟩

set_option maxHeartbeats 8000000 in
theorem implBT_yes (a b : Option Addr) (n c m d : Nat) (F : Nat → Acc) (O : Nat → Ord) (k : Bk) (w : World) (hF : Fo w a n F) (hO : Ords w b m O) (h : bankOk F n O m k) (hp : Pow w) :
    Calls Tryd.prog 8 #[.agg #[.int .i64 k.day, .slice a n c, .slice b m d, .int .i64 k.inn, .int .i64 k.out, .int .i64 k.posted, .int .i64 k.missed]] w fun e w' => e = .returned (.string (bankB F n O m k)) ∧ Below w.heap.size w w' := by
  obtain ⟨W0, hW0, X0⟩ : ∃ W0, W0 = w.alloc (.cells #[.int .i64 k.day, .slice a n c, .slice b m d, .int .i64 k.inn, .int .i64 k.out, .int .i64 k.posted, .int .i64 k.missed] 31) ∧ Hid (BkAll W0 w.heap.size a b n c m d F O k w) := ⟨_, rfl, ⟨BkBox.new w _ _ k 31, hF.alloc _, hO.alloc _, (Below.refl _ _).alloc (Nat.le_refl _) _⟩⟩
  have HW0 : Hid (W0 = _) := hW0
  have HN : Hid (bankOk F n O m k) := h
  have HP : Hid (Pow w) := hp
  have hn12 : n ≤ 12 := h.2.1.1
  have hm8 : m ≤ 8 := h.2.2.1.1
  have OKA : Hid (∀ j, j < n → okS (F j)) := h.2.1.2.1
  have OKO : Hid (∀ j, j < m → ordOk (O j)) := h.2.2.1.2.1
  clear hF hO h hW0 hp
  go_enter Tryd.func8, Tryd.ntmps8
  go_wp2_with fail
  rw [← HW0.out]
  refine (implBank a b n c m d F O k _ X0.out.2.1 X0.out.2.2.1).mono ?_
  rintro e w1 ⟨ht, B1⟩
  have he := TellsT.true ht HN.out
  subst he
  have X1 : Hid (BkAll w1 w.heap.size a b n c m d F O k w) := X0.out.below B1
  clear ht B1 X0 HW0
  obtain ⟨⟨c0, c1, c2, c3, c4, c5, c6, cl⟩, _⟩ := X1.out
  go_wp2_with fail
  refine (numsBank w.heap.size k.day k.inn k.out k.posted k.missed _ cl c0 c3 c4 c5 c6).mono ?_
  rintro e w2 ⟨pa, pc, rfl, P2, B2⟩
  have X2 : Hid (BkAll w2 w.heap.size a b n c m d F O k w ∧ PtrC w2 pa (bkN k)) := ⟨X1.out.below B2, P2⟩
  clear P2 B2 X1 c0 c1 c2 c3 c4 c5 c6 cl
  go_wp2_with fail
  refine (implLine wBank (by decide) pa 5 pc (bkN k) rfl (by omega) (bkN_sml HN.out) _ X2.out.2 (HP.out.below X2.out.1.2.2.2)).mono ?_
  rintro e w3 ⟨rfl, B3⟩
  have X3 : Hid (BkAll w3 w.heap.size a b n c m d F O k w) := X2.out.1.below B3
  clear B3 X2
  obtain ⟨T0, hT0⟩ : ∃ T0, T0 = lineB wBank (bkN k) := ⟨_, rfl⟩
  rw [← hT0]
  have HT0 : Hid (T0 = lineB wBank (bkN k)) := hT0
  have HS0 : Hid (T0.size ≤ 253) := by show T0.size ≤ 253; rw [hT0]; exact lineB_size (by decide) (by simp [bkN]) (bkN_sml HN.out)
  clear hT0
  obtain ⟨⟨c0, c1, c2, c3, c4, c5, c6, cl⟩, _⟩ := X3.out
  go_wp2
  go_loopw [3, 17] (fun s i wr => ∃ (j : Nat) (T : ByteArray), j ≤ n ∧ i = .int .i64 j ∧ s = .string T ∧ Hid (T = accT T0 F j) ∧ Hid (BkAll wr w.heap.size a b n c m d F O k w)) (fun _ i _ => n - (intOf i).toNat)
  case atStart => exact ⟨0, T0, Nat.zero_le _, rfl, rfl, (rfl : T0 = accT T0 F 0), X3⟩
  case round =>
    obtain ⟨j, T, hj, rfl, rfl, hT, hX⟩ := hrel
    clear X3 c0 c1 c2 c3 c4 c5 c6 cl
    by_cases hlt : j < n
    · have hlt' : (j : Int) < (n : Int) := by omega
      obtain ⟨A, hA⟩ : ∃ A, A = F j := ⟨_, rfl⟩
      obtain ⟨bb, oo, rfl, hb0, hA0⟩ := hX.out.2.1.acc hlt
      rw [← hA] at hA0
      have okA : Hid (okS A) := by show okS A; rw [hA]; exact OKA.out j hlt
      have hTs : T.size ≤ 10000 := by
        have := accT_size (F := F) HS0.out j (fun i hi => OKA.out i (by omega))
        rw [hT.out]; omega
      have hls := lineB_size (S := wAcc) (ns := acN A) (by decide) (by simp [acN]) (acN_sml okA.out)
      have hadd := add_run T (lineB wAcc (acN A)) (by omega) (by omega)
      have HN2 : Hid (T ++ lineB wAcc (acN A) = accT T0 F (j + 1)) := by
        show _ = accT T0 F j ++ lineB wAcc (acN (F j))
        rw [← hT.out, ← hA]
      obtain ⟨V, hV, YV⟩ : ∃ V, V = (wr.alloc (.cells #[.int .i64 A.id, .int .i64 A.up, .int .i64 A.limit, .int .i64 A.rate, .int .i64 A.target, .bool A.frozen, .int .i64 A.balance, .int .i64 A.carry] 58)).alloc (.cells #[.int .i64 (flagZ A.frozen)] 2) ∧ Hid ((V.cell? ⟨wr.heap.size, 0, none⟩ = some (.int .i64 A.id) ∧ V.cell? ⟨wr.heap.size, 1, none⟩ = some (.int .i64 A.up) ∧ V.cell? ⟨wr.heap.size, 2, none⟩ = some (.int .i64 A.limit) ∧ V.cell? ⟨wr.heap.size, 3, none⟩ = some (.int .i64 A.rate) ∧ V.cell? ⟨wr.heap.size, 4, none⟩ = some (.int .i64 A.target) ∧ V.cell? ⟨wr.heap.size + 1, 0, none⟩ = some (.int .i64 (flagZ A.frozen)) ∧ V.cell? ⟨wr.heap.size, 6, none⟩ = some (.int .i64 A.balance) ∧ V.cell? ⟨wr.heap.size, 7, none⟩ = some (.int .i64 A.carry)) ∧ BkAll V w.heap.size (some ⟨bb, oo, none⟩) b n c m d F O k w ∧ wr.heap.size + 1 < V.heap.size) := by
        refine ⟨_, rfl, ⟨?_, ?_, ?_, ?_, ?_, ?_, ?_, ?_⟩, (hX.out.below ((Below.refl _ _).alloc (Nat.le_refl _) _)).below ((Below.refl _ _).alloc (Nat.le_refl _) _), by simp⟩
        · exact (World.cell?_alloc_lt _ _ _ (by simp)).trans (by simp [go_sem])
        · exact (World.cell?_alloc_lt _ _ _ (by simp)).trans (by simp [go_sem])
        · exact (World.cell?_alloc_lt _ _ _ (by simp)).trans (by simp [go_sem])
        · exact (World.cell?_alloc_lt _ _ _ (by simp)).trans (by simp [go_sem])
        · exact (World.cell?_alloc_lt _ _ _ (by simp)).trans (by simp [go_sem])
        · have e : wr.heap.size + 1 = (wr.alloc (.cells #[.int .i64 A.id, .int .i64 A.up, .int .i64 A.limit, .int .i64 A.rate, .int .i64 A.target, .bool A.frozen, .int .i64 A.balance, .int .i64 A.carry] 58)).heap.size := by simp
          rw [e]; simp [go_sem]
        · exact (World.cell?_alloc_lt _ _ _ (by simp)).trans (by simp [go_sem])
        · exact (World.cell?_alloc_lt _ _ _ (by simp)).trans (by simp [go_sem])
      have HV : Hid (V = _) := hV
      clear hT hTs hls hV hA
      obtain ⟨z0, z1, z2, z3, z4, z5, z6, z7⟩ := hA0
      go_wp2_with fail
      refine (implFlag A.frozen _).mono ?_
      rintro e wz ⟨rfl, hwz⟩
      rw [hwz]
      clear hwz
      go_wp2_with fail
      rw [← HV.out]
      clear HV z0 z1 z2 z3 z4 z5 z6 z7
      refine (numsAcc wr.heap.size (wr.heap.size + 1) A.id A.up A.limit A.rate A.target (flagZ A.frozen) A.balance A.carry _ (by have := YV.out.2.2; omega) YV.out.2.2 YV.out.1.1 YV.out.1.2.1 YV.out.1.2.2.1 YV.out.1.2.2.2.1 YV.out.1.2.2.2.2.1 YV.out.1.2.2.2.2.2.1 YV.out.1.2.2.2.2.2.2.1 YV.out.1.2.2.2.2.2.2.2).mono ?_
      rintro e w5 ⟨pa', pc', rfl, P5, B5⟩
      have X5 : Hid (BkAll w5 w.heap.size (some ⟨bb, oo, none⟩) b n c m d F O k w ∧ PtrC w5 pa' (acN A)) := ⟨YV.out.2.1.below B5, P5⟩
      clear P5 B5 YV hX
      go_wp2_with fail
      refine (implLine wAcc (by decide) pa' 8 pc' (acN A) rfl (by omega) (acN_sml okA.out) _ X5.out.2 (HP.out.below X5.out.1.2.2.2)).mono ?_
      rintro e w6 ⟨rfl, B6⟩
      have X6 : Hid (BkAll w6 w.heap.size (some ⟨bb, oo, none⟩) b n c m d F O k w) := X5.out.1.below B6
      clear B6 X5
      generalize lineB wAcc (acN A) = l at *
      generalize T ++ l = T2 at *
      go_wp2
      go_roundw
      case rel => exact ⟨j + 1, T2, by omega, by go_num, rfl, HN2, X6⟩
      case measure => simp [intOf]; omega
    · obtain rfl : j = n := by omega
      clear hj hlt
      obtain ⟨⟨c0, c1, c2, c3, c4, c5, c6, cl⟩, _⟩ := hX.out
      go_wp2
      go_loopw [3, 32] (fun s i wr => ∃ (i' : Nat) (T' : ByteArray), i' ≤ m ∧ i = .int .i64 i' ∧ s = .string T' ∧ Hid (T' = ordT (accT T0 F j) O i') ∧ Hid (BkAll wr w.heap.size a b j c m d F O k w)) (fun _ i _ => m - (intOf i).toNat)
      case atStart => exact ⟨0, T, Nat.zero_le _, rfl, rfl, hT, hX⟩
      case round =>
        obtain ⟨i, T', hi, rfl, rfl, hT', hX'⟩ := hrel
        clear hX c0 c1 c2 c3 c4 c5 c6 cl
        by_cases hlt : i < m
        · have hlt' : (i : Int) < (m : Int) := by omega
          obtain ⟨A, hA⟩ : ∃ A, A = O i := ⟨_, rfl⟩
          obtain ⟨bb, oo, rfl, hb0, hA0⟩ := hX'.out.2.2.1.acc hlt
          rw [← hA] at hA0
          have okA : Hid (ordOk A) := by show ordOk A; rw [hA]; exact OKO.out i hlt
          have hTs : T'.size ≤ 10000 := by
            have h1 := accT_size (F := F) HS0.out j OKA.out
            have h2 := ordT_size (O := O) h1 i (fun q hq => OKO.out q (by omega))
            rw [hT'.out]; omega
          have hls := lineB_size (S := wOrd) (ns := orN A) (by decide) (by simp [orN]) (orN_sml okA.out)
          have hadd := add_run T' (lineB wOrd (orN A)) (by omega) (by omega)
          have HN2 : Hid (T' ++ lineB wOrd (orN A) = ordT (accT T0 F j) O (i + 1)) := by
            show _ = ordT (accT T0 F j) O i ++ lineB wOrd (orN (O i))
            rw [← hT'.out, ← hA]
          obtain ⟨V, hV, YV⟩ : ∃ V, V = wr.alloc (.cells #[.int .i64 A.id, .int .i64 A.src, .int .i64 A.dst, .int .i64 A.amount, .int .i64 A.first, .int .i64 A.every, .int .i64 A.times] 43) ∧ Hid ((V.cell? ⟨wr.heap.size, 0, none⟩ = some (.int .i64 A.id) ∧ V.cell? ⟨wr.heap.size, 1, none⟩ = some (.int .i64 A.src) ∧ V.cell? ⟨wr.heap.size, 2, none⟩ = some (.int .i64 A.dst) ∧ V.cell? ⟨wr.heap.size, 3, none⟩ = some (.int .i64 A.amount) ∧ V.cell? ⟨wr.heap.size, 4, none⟩ = some (.int .i64 A.first) ∧ V.cell? ⟨wr.heap.size, 5, none⟩ = some (.int .i64 A.every) ∧ V.cell? ⟨wr.heap.size, 6, none⟩ = some (.int .i64 A.times)) ∧ BkAll V w.heap.size a (some ⟨bb, oo, none⟩) j c m d F O k w ∧ wr.heap.size < V.heap.size) := by
            refine ⟨_, rfl, ⟨?_, ?_, ?_, ?_, ?_, ?_, ?_⟩, hX'.out.below ((Below.refl _ _).alloc (Nat.le_refl _) _), by simp⟩ <;> simp [go_sem]
          have HV : Hid (V = _) := hV
          clear hT' hTs hls hV hA
          obtain ⟨z0, z1, z2, z3, z4, z5, z6⟩ := hA0
          go_wp2_with fail
          rw [← HV.out]
          clear HV z0 z1 z2 z3 z4 z5 z6
          refine (numsOrder wr.heap.size A.id A.src A.dst A.amount A.first A.every A.times _ YV.out.2.2 YV.out.1.1 YV.out.1.2.1 YV.out.1.2.2.1 YV.out.1.2.2.2.1 YV.out.1.2.2.2.2.1 YV.out.1.2.2.2.2.2.1 YV.out.1.2.2.2.2.2.2).mono ?_
          rintro e w5 ⟨pa', pc', rfl, P5, B5⟩
          have X5 : Hid (BkAll w5 w.heap.size a (some ⟨bb, oo, none⟩) j c m d F O k w ∧ PtrC w5 pa' (orN A)) := ⟨YV.out.2.1.below B5, P5⟩
          clear P5 B5 YV hX'
          go_wp2_with fail
          refine (implLine wOrd (by decide) pa' 7 pc' (orN A) rfl (by omega) (orN_sml okA.out) _ X5.out.2 (HP.out.below X5.out.1.2.2.2)).mono ?_
          rintro e w6 ⟨rfl, B6⟩
          have X6 : Hid (BkAll w6 w.heap.size a (some ⟨bb, oo, none⟩) j c m d F O k w) := X5.out.1.below B6
          clear B6 X5
          generalize lineB wOrd (orN A) = l at *
          generalize T' ++ l = T2 at *
          go_wp2
          go_roundw
          case rel => exact ⟨i + 1, T2, by omega, by go_num, rfl, HN2, X6⟩
          case measure => simp [intOf]; omega
        · obtain rfl : i = m := by omega
          have HE : Hid (T' = bankB F j O i k) := by
            show T' = bankB F j O i k
            unfold bankB
            rw [← HT0.out]; exact hT'.out
          clear hT'
          go_wp2
          go_ret
          exact ⟨congrArg (fun x => Ending.returned (.string x)) HE.out, hX'.out.2.2.2⟩
end Go.Proofs.YtodbcdclglaniaaDoor
