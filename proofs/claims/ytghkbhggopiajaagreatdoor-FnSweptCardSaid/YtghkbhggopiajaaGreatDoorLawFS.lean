/- The law FnSwept returns true, whatever the bytes of the code. Conditions: the bytes lie in memory; the package's errors lie as they were laid. -/
import Derived.Test.YtghkbhggopiajaaGreatDoorSwm
import Derived.Test.YtghkbhggopiajaaGreatDoorSame
import Derived.Test.YtghkbhggopiajaaGreatDoorDraws
namespace Go.Proofs.YtghkbhggopiajaaGreatDoor
open Go.RowKit
set_option maxRecDepth 8000

set_option maxHeartbeats 1000000 in
theorem drawSwept (a : Option Addr) (len cap : Nat) (w : World) (h : Code w a len) :
    Calls Tryz.prog 12 #[.slice a len cap] w fun e w' => ∃ v L, e = .returned v ∧ L.length ≤ 12 ∧ AL w' w.heap.size v L ∧ Below w.heap.size w w' := by
  have H : Hid (Code w a len) := h
  clear h
  go_enter Tryz.func12, Tryz.ntmps12
  go_wp2_with fail
  refine (rd_open a len cap _ H.out.1 H.out.2).mono ?_
  rintro e w1 ⟨rfl, R1, B1⟩
  have R1' : Hid (Rd w1 w.heap.size a len cap) := R1
  have BB1 : Hid (Below w.heap.size w w1) := B1
  clear R1 B1
  go_wp2_with fail
  refine (rd_forest w.heap.size a len cap 16 _ R1'.out (by omega) (by omega)).mono ?_
  rintro e w2 ⟨v, L, rfl, hl, A2, R2, S2⟩
  have A2' : Hid (AL w2 w.heap.size v L) := A2.mono BB1.out.size
  have BB2 : Hid (Below w.heap.size w w2) := BB1.out.trans (S2.below BB1.out.size)
  clear A2 R2 S2
  obtain ⟨va, vc, hv⟩ := A2'.out.len
  subst hv
  go_wp2
  go_ret
  exact ⟨_, L, rfl, hl, A2'.out, BB2.out⟩

theorem kids_none {F : Nat → Acc} {id : Int} : ∀ {n : Nat}, kids F id n = [] → ∀ z, z < n → (F z).up ≠ id
  | 0, _, z, hz => by omega
  | n + 1, h, z, hz => by
    simp only [kids, List.append_eq_nil_iff] at h
    by_cases e : z = n
    · subst e
      intro h'
      rw [if_pos h'] at h
      cases h.2
    · exact kids_none h.1 z (by omega)
/-- The swept account at a place: the same but for the balance; that of a frozen one too. -/
theorem swept_as {L : List Acc} (hR : Right (FL L) L.length) {k : Nat} (hk : k < L.length) : ∃ y, FL (swAll L L.length) k = { FL L k with balance := y } ∧ ((FL L k).frozen = true → y = (FL L k).balance) := by
  obtain ⟨⟨h1, h2, h3, h4, h5, h6, h7⟩, hf⟩ := swAll_at hR L.length hk
  refine ⟨(FL (swAll L L.length) k).balance, ?_, hf⟩
  generalize FL (swAll L L.length) k = A at *
  generalize FL L k = B at *
  cases A; cases B
  simp_all
theorem fo_len {w : World} {B : Nat} {v : Value} {G : List Acc} {n : Nat} (h : AL w B v G) (hl : G.length = n) (hn : n ≤ 12) : ∃ a c, v = .slice a n c ∧ Fo w a n (FL G) := by
  obtain ⟨a, c, rfl⟩ := h.len
  have := (h.fo (by omega)).2
  rw [hl] at this ⊢
  exact ⟨a, c, rfl, this⟩

set_option maxHeartbeats 16000000 in
theorem lawFSw (a : Option Addr) (len cap : Nat) (p : Nat → Addr) (w : World) (h : Code w a len) (hG : GE w p) :
    Calls Tryz.prog 3 #[.slice a len cap] w fun e w' => e = .returned (.bool true) ∧ Below w.heap.size w w' := by
  have H : Hid (Code w a len) := h
  have HG : Hid (GE w p) := hG
  clear h hG
  by_cases hbig : 1048576 < len
  · go_enter Tryz.func3, Tryz.ntmps3
    go_wp2_with (go_at_call 11; refine (big_yes _ _ _ _ hbig).mono ?_; rintro e w' ⟨rfl, rfl⟩)
    go_ret
    exact ⟨rfl, Below.refl _ _⟩
  go_enter Tryz.func3, Tryz.ntmps3
  go_wp2_with fail
  refine (big_no _ _ _ _ (by omega)).mono ?_
  rintro e wz ⟨rfl, hwz⟩
  subst wz
  go_wp2_with fail
  refine (drawSwept a len cap _ H.out).mono ?_
  rintro e w1 ⟨v, L, rfl, hl, A1, B1⟩
  obtain ⟨fa, fc, hv⟩ := A1.len
  subst hv
  have F1 : Hid (Fo w1 fa L.length (FL L)) := (A1.fo (by omega)).2
  have BB1 : Hid (Below w.heap.size w w1) := B1
  clear B1 H hbig A1
  by_cases hR : Right (FL L) L.length
  · have HR : Hid (Right (FL L) L.length) := hR
    obtain ⟨g1, g2, g3⟩ := swAll_facts hR L.length
    have HGl : Hid ((swAll L L.length).length = L.length) := g1
    have HGR : Hid (Right (FL (swAll L L.length)) L.length) := by rw [g1] at g3; exact g3
    have HT : Hid (total (FL (swAll L L.length)) L.length = total (FL L) L.length) := sw_total hR
    have HAS : Hid (∀ k, k < L.length → ∃ y, FL (swAll L L.length) k = { FL L k with balance := y } ∧ ((FL L k).frozen = true → y = (FL L k).balance)) := fun k hk => swept_as hR hk
    have HEND : Hid (Small L → ∀ i, i < L.length → 0 ≤ (FL L i).target → (FL L i).frozen = false → (FL L i).limit < 0 → (∀ u, u < L.length → (FL L u).id = (FL L i).up → (FL L u).frozen = false) → (∀ z, z < L.length → (FL L z).up ≠ (FL L i).id) → (FL (swAll L L.length) i).balance = (FL L i).target) := fun hs i hi ht hf hl' hu ha => swept_end hR hs hi ht hf hl' hu ha
    clear hR g1 g2 g3
    go_wp2_with fail
    refine (implSwept_yes fa fc L p _ F1.out HR.out (HG.out.below BB1.out)).mono ?_
    rintro e w2 ⟨v, rfl, A2, B2⟩
    obtain ⟨ga, gc, hv, G2⟩ := fo_len A2 HGl.out hl
    subst hv
    have F2 : Hid (Fo w2 fa L.length (FL L)) := F1.out.below B2
    have G2' : Hid (Fo w2 ga L.length (FL (swAll L L.length))) := G2
    have BB2 : Hid (Below w.heap.size w w2) := BB1.out.trans (B2.mono BB1.out.size)
    clear B2 F1 BB1 G2 A2
    go_wp2_with fail
    refine (specSwept_yes fa fc L _ F2.out HR.out).mono ?_
    rintro e w3 ⟨v, rfl, A3, B3⟩
    obtain ⟨sa, sc, hv, S3⟩ := fo_len A3 HGl.out hl
    subst hv
    have F3 : Hid (Fo w3 fa L.length (FL L)) := F2.out.below B3
    have G3 : Hid (Fo w3 ga L.length (FL (swAll L L.length))) := G2'.out.below B3
    have S3' : Hid (Fo w3 sa L.length (FL (swAll L L.length))) := S3
    have BB3 : Hid (Below w.heap.size w w3) := BB2.out.trans (B3.mono BB2.out.size)
    clear B3 F2 BB2 G2' A3 S3
    go_wp2_with fail
    refine (sameForest_same ga sa L.length gc sc (FL (swAll L L.length)) _ G3.out S3'.out).mono ?_
    rintro e w4 ⟨rfl, B4⟩
    have F4 : Hid (Fo w4 fa L.length (FL L)) := F3.out.below B4
    have G4 : Hid (Fo w4 ga L.length (FL (swAll L L.length))) := G3.out.below B4
    have BB4 : Hid (Below w.heap.size w w4) := BB3.out.trans (B4.mono BB3.out.size)
    clear B4 F3 BB3 G3 S3'
    go_wp2_with fail
    refine (specOk_yes fa L.length fc (FL L) _ F4.out HR.out).mono ?_
    rintro e w5 ⟨rfl, B5⟩
    have F5 : Hid (Fo w5 fa L.length (FL L)) := F4.out.below B5
    have G5 : Hid (Fo w5 ga L.length (FL (swAll L L.length))) := G4.out.below B5
    have BB5 : Hid (Below w.heap.size w w5) := BB4.out.trans (B5.mono BB4.out.size)
    clear B5 F4 BB4 G4 HG
    generalize swAll L L.length = G at *
    generalize hnn : L.length = n at *
    have HNN : Hid (L.length = n) := hnn
    clear hnn
    go_wp2
    go_loopw [6, 5] (fun q s wr => ∃ (k : Nat) (b : Bool), k ≤ n ∧ q = .int .i64 k ∧ s = .bool b ∧ Hid (b = true ↔ ∀ z, z < k → (FL L z).balance < 1000000 ∧ -1000000 < (FL L z).balance ∧ (FL L z).target < 1000000) ∧ Hid (Below w5.heap.size w5 wr)) (fun q _ _ => n - (ctr q).toNat)
    case atStart => exact ⟨0, true, Nat.zero_le _, rfl, rfl, ⟨fun _ z hz => by omega, fun _ => rfl⟩, Below.refl _ _⟩
    case round =>
      obtain ⟨k, b, hk, rfl, rfl, hS, hB⟩ := hrel
      by_cases hlt : k < n
      · obtain ⟨b1, o1, rfl, hz1, c0, c1, c2, c3, c4, c5, c6, c7⟩ := (F5.out.below hB.out).acc hlt
        clear c0 c1 c2 c3 c5 c7
        cases b with
        | false =>
          have HS2 : Hid (false = true ↔ ∀ z, z < k + 1 → (FL L z).balance < 1000000 ∧ -1000000 < (FL L z).balance ∧ (FL L z).target < 1000000) := ⟨(fun h => by cases h), fun h => hS.out.2 (fun z hz => h z (by omega))⟩
          go_wp2
          go_roundw
          case rel => exact ⟨k + 1, false, by omega, by go_num, rfl, HS2, hB⟩
          case measure => simp [ctr]; omega
        | true =>
          have hall := hS.out.1 rfl
          have HS2 : ∀ bb : Bool, (bb = true ↔ ((FL L k).balance < 1000000 ∧ -1000000 < (FL L k).balance ∧ (FL L k).target < 1000000)) → (bb = true ↔ ∀ z, z < k + 1 → (FL L z).balance < 1000000 ∧ -1000000 < (FL L z).balance ∧ (FL L z).target < 1000000) := fun bb hb => by
            refine hb.trans ⟨fun h z hz => ?_, fun h => h k (by omega)⟩
            by_cases e : z = k
            · subst e; exact h
            · exact hall z (by omega)
          have HS3 : Hid (∀ bb : Bool, (bb = true ↔ ((FL L k).balance < 1000000 ∧ -1000000 < (FL L k).balance ∧ (FL L k).target < 1000000)) → (bb = true ↔ ∀ z, z < k + 1 → (FL L z).balance < 1000000 ∧ -1000000 < (FL L z).balance ∧ (FL L z).target < 1000000)) := HS2
          clear HS2 hall
          by_cases q1 : (FL L k).balance < 1000000
          · have d1 : decide ((FL L k).balance < 1000000) = true := by simp [q1]
            by_cases q2 : -1000000 < (FL L k).balance
            · have d2 : decide (-1000000 < (FL L k).balance) = true := by simp [q2]
              by_cases q3 : (FL L k).target < 1000000
              · have d3 : decide ((FL L k).target < 1000000) = true := by simp [q3]
                go_wp2
                go_roundw
                case rel => exact ⟨k + 1, true, by omega, by go_num, rfl, HS3.out true (by simp [q1, q2, q3]), hB⟩
                case measure => simp [ctr]; omega
              · have d3 : decide ((FL L k).target < 1000000) = false := by simp [q3]
                go_wp2
                go_roundw
                case rel => exact ⟨k + 1, false, by omega, by go_num, rfl, HS3.out false (by simp [q3]), hB⟩
                case measure => simp [ctr]; omega
            · have d2 : decide (-1000000 < (FL L k).balance) = false := by simp [q2]
              go_wp2
              go_roundw
              case rel => exact ⟨k + 1, false, by omega, by go_num, rfl, HS3.out false (by simp [q2]), hB⟩
              case measure => simp [ctr]; omega
          · have d1 : decide ((FL L k).balance < 1000000) = false := by simp [q1]
            go_wp2
            go_roundw
            case rel => exact ⟨k + 1, false, by omega, by go_num, rfl, HS3.out false (by simp [q1]), hB⟩
            case measure => simp [ctr]; omega
      · have hkn : n = k := by omega
        subst hkn
        have F6 : Hid (Fo wr fa n (FL L)) := F5.out.below hB.out
        have G6 : Hid (Fo wr ga n (FL G)) := G5.out.below hB.out
        have BB6 : Hid (Below w.heap.size w wr) := BB5.out.trans (hB.out.mono BB5.out.size)
        have HSM : Hid (b = true → Small L) := fun hb z hz => hS.out.1 hb z (by rw [HNN.out] at hz; exact hz)
        clear hB F5 G5 BB5 hS hlt hk

        go_upto_region 12 with fail
        obtain ⟨w0, hw0⟩ : ∃ w0, w0 = wr := ⟨_, rfl⟩
        subst hw0
        cases b with
        | false =>
          go_wp2
          go_loopw [7] (fun q wr => ∃ k : Nat, k ≤ n ∧ q = .int .i64 k ∧ Hid (Below w0.heap.size w0 wr)) (fun q _ => n - (ctr q).toNat)
          case atStart => exact ⟨0, Nat.zero_le _, rfl, Below.refl _ _⟩
          case round =>
            obtain ⟨k, hk, rfl, hB⟩ := hrel
            by_cases hlt : k < n
            · have hkk : k < n := hlt
              obtain ⟨y, hy, hyf⟩ := HAS.out k hlt
              have hE := HEND.out
              obtain ⟨b1, o1, rfl, hz1, c0, c1, c2, c3, c4, c5, c6, c7⟩ := (F6.out.below hB.out).acc hlt
              obtain ⟨b2, o2, rfl, hz2, d0, d1, d2, d3, d4, d5, d6, d7⟩ := (G6.out.below hB.out).acc hlt
              rw [hy] at d0 d1 d2 d3 d4 d5 d6 d7
              simp only at d0 d1 d2 d3 d4 d5 d6 d7
              have FRr : Hid (Fo wr (some ⟨b1, o1, none⟩) n (FL L)) := F6.out.below hB.out
              have HEk : Hid (Small L → 0 ≤ (FL L k).target → (FL L k).frozen = false → (FL L k).limit < 0 → (∀ u, u < n → (FL L u).id = (FL L k).up → (FL L u).frozen = false) → (∀ z, z < n → (FL L z).up ≠ (FL L k).id) → y = (FL L k).target) := fun hs h1 h2 h3 h4 h5 => by have := hE hs k hlt h1 h2 h3 h4 h5; rw [hy] at this; exact this
              have HYF : Hid ((FL L k).frozen = true → y = (FL L k).balance) := hyf
              clear hE hy hyf c1 c2 c3 c4 c5 c7
              generalize hX : FL L k = X at *
              have HX : Hid (FL L k = X) := hX
              clear hX
              obtain ⟨fz, hfz⟩ : ∃ fz, fz = X.frozen := ⟨_, rfl⟩
              rw [← hfz] at d5 HYF HEk
              have HFZ : Hid (fz = X.frozen) := hfz
              clear hfz
              obtain ⟨W, hW⟩ : ∃ W, W = wr.alloc (.cells #[.int .i64 X.id, .int .i64 X.up, .int .i64 X.limit, .int .i64 X.rate, .int .i64 X.target, .bool fz, .int .i64 y, .int .i64 X.carry] 30) := ⟨_, rfl⟩
              have hBW0 : Below wr.heap.size wr W := by rw [hW]; exact (Below.refl _ _).alloc (Nat.le_refl _) _
              have hBW : Hid (Below wr.heap.size wr W) := hBW0
              have hxs : wr.heap.size < W.heap.size := by rw [hW]; simp
              obtain ⟨m0, m1, m2, m3, m4, m5, m6, m7⟩ : W.cell? ⟨wr.heap.size, 0, none⟩ = some (.int .i64 X.id) ∧ W.cell? ⟨wr.heap.size, 1, none⟩ = some (.int .i64 X.up) ∧ W.cell? ⟨wr.heap.size, 2, none⟩ = some (.int .i64 X.limit) ∧ W.cell? ⟨wr.heap.size, 3, none⟩ = some (.int .i64 X.rate) ∧ W.cell? ⟨wr.heap.size, 4, none⟩ = some (.int .i64 X.target) ∧ W.cell? ⟨wr.heap.size, 5, none⟩ = some (.bool fz) ∧ W.cell? ⟨wr.heap.size, 6, none⟩ = some (.int .i64 y) ∧ W.cell? ⟨wr.heap.size, 7, none⟩ = some (.int .i64 X.carry) := by
                rw [hW]
                refine ⟨?_, ?_, ?_, ?_, ?_, ?_, ?_, ?_⟩ <;> simp [go_sem]
              have f0 : W.cell? ⟨b1, o1 + k * 8, none⟩ = some (.int .i64 X.id) := (hBW0.cell (p := ⟨b1, o1 + k * 8, none⟩) hz1).trans c0
              have f6 : W.cell? ⟨b1, o1 + k * 8 + 6, none⟩ = some (.int .i64 X.balance) := (hBW0.cell (p := ⟨b1, o1 + k * 8 + 6, none⟩) hz1).trans c6
              go_upto_region 16 with fail
              rw [← hW]
              clear hW hBW0 d0 d1 d2 d3 d4 d5 d6 d7 c0 c6
              have hid : (X.id != X.id) = false := by simp
              cases fz with
              | true =>
                have hyb : y = X.balance := HYF.out rfl
                subst hyb
                have hbb : (X.balance != X.balance) = false := by simp
                go_quiet (fail)
                obtain ⟨W1, hW1⟩ : ∃ W1, W1 = W.drewN nq := ⟨_, rfl⟩
                have B1 : Below W.heap.size W W1 := by rw [hW1]; exact below_drewQ (Below.refl _ _) _
                rw [← hW1]
                clear hW1
                have hm0 : W1.cell? ⟨wr.heap.size, 0, none⟩ = some (.int .i64 X.id) := (B1.cell (p := ⟨wr.heap.size, 0, none⟩) hxs).trans m0
                have HB1 : Hid (Below wr.heap.size wr W1) := hBW.out.trans (B1.mono hBW.out.size)
                have HW1 : Hid (Below W.heap.size W W1) := B1
                clear B1 f0 f6
                go_upto_region 18 with fail
                go_wp2_with fail
                refine (implKids_yes _ n fc (FL L) X.id _ (FRr.out.below HB1.out) HR.out).mono ?_
                rintro e w6 ⟨v6, rfl, I6, B6⟩
                obtain ⟨ka, kc, hv, _⟩ := I6.shape
                subst hv
                have HW6 : Hid (Below W.heap.size W w6) := HW1.out.trans (B6.mono HW1.out.size)
                have HB6 : Hid (Below wr.heap.size wr w6) := HB1.out.trans (B6.mono HB1.out.size)
                clear I6 B6 hm0 HW1 HB1
                have hm1 : w6.cell? ⟨wr.heap.size, 1, none⟩ = some (.int .i64 X.up) := (HW6.out.cell (p := ⟨wr.heap.size, 1, none⟩) hxs).trans m1
                obtain ⟨al, hal, hal2⟩ : ∃ al : Bool, (((kids (FL L) X.id n).length : Int) == 0) = al ∧ (al = true → kids (FL L) X.id n = []) := ⟨_, rfl, fun h => by simpa using h⟩
                have HAL : Hid (al = true → ∀ z, z < n → (FL L z).up ≠ X.id) := fun h => kids_none (hal2 h)
                clear hal2
                obtain ⟨U, ub, uf, FIND, HUF⟩ : ∃ (U : Acc) (ub uf : Bool), Hid (∀ W, Fo W (some ⟨b1, o1, none⟩) n (FL L) → Calls Tryz.prog 18 #[.slice (some ⟨b1, o1, none⟩) n fc, .int .i64 X.up] W fun e w' => e = .returned (.tuple #[.agg #[.int .i64 U.id, .int .i64 U.up, .int .i64 U.limit, .int .i64 U.rate, .int .i64 U.target, .bool uf, .int .i64 U.balance, .int .i64 U.carry], .bool ub]) ∧ Below W.heap.size W w') ∧ Hid (uf = false → ∀ u, u < n → (FL L u).id = X.up → (FL L u).frozen = false) := by
                  by_cases hpl : ∃ j, place (FL L) n X.up = some j
                  · obtain ⟨j, hj⟩ := hpl
                    refine ⟨FL L j, true, (FL L j).frozen, fun W hF => implFind_yes _ n fc (FL L) X.up j W hF HR.out hj, fun hf u hu hid' => ?_⟩
                    obtain ⟨j1, j2⟩ := place_some hj
                    have : u = j := HR.out.inj hu j1 (by rw [hid', j2])
                    rw [this]; exact hf
                  · refine ⟨⟨0, 0, 0, 0, 0, false, 0, 0⟩, false, false, fun W hF => implFind_no _ n fc (FL L) X.up W hF (fun hh => hpl hh.2), fun _ u hu hid' => ?_⟩
                    exact absurd ⟨u, by rw [← hid']; exact place_self HR.out.2.2.1 hu⟩ hpl
                go_wp2_with fail
                refine (FIND.out _ (FRr.out.below HB6.out)).mono ?_
                rintro e w7 ⟨rfl, B7⟩
                have HW7 : Hid (Below W.heap.size W w7) := HW6.out.trans (B7.mono HW6.out.size)
                have HB7 : Hid (Below wr.heap.size wr w7) := HB6.out.trans (B7.mono HB6.out.size)
                clear B7 FIND HW6 HB6 hm1
                obtain ⟨V, hV⟩ : ∃ V, V = w7.alloc (.cells #[.int .i64 U.id, .int .i64 U.up, .int .i64 U.limit, .int .i64 U.rate, .int .i64 U.target, .bool uf, .int .i64 U.balance, .int .i64 U.carry] 30) := ⟨_, rfl⟩
                have BV : Below w7.heap.size w7 V := by rw [hV]; exact (Below.refl _ _).alloc (Nat.le_refl _) _
                have u5 : V.cell? ⟨w7.heap.size, 5, none⟩ = some (.bool uf) := by rw [hV]; simp [go_sem]
                have BWV : Below W.heap.size W V := HW7.out.trans (BV.mono HW7.out.size)
                have v2 : V.cell? ⟨wr.heap.size, 2, none⟩ = some (.int .i64 X.limit) := (BWV.cell (p := ⟨wr.heap.size, 2, none⟩) hxs).trans m2
                have v4 : V.cell? ⟨wr.heap.size, 4, none⟩ = some (.int .i64 X.target) := (BWV.cell (p := ⟨wr.heap.size, 4, none⟩) hxs).trans m4
                have v5 : V.cell? ⟨wr.heap.size, 5, none⟩ = some (.bool true) := (BWV.cell (p := ⟨wr.heap.size, 5, none⟩) hxs).trans m5
                have v6 : V.cell? ⟨wr.heap.size, 6, none⟩ = some (.int .i64 X.balance) := (BWV.cell (p := ⟨wr.heap.size, 6, none⟩) hxs).trans m6
                have hBV : Hid (Below w0.heap.size w0 V) := hB.out.trans ((HB7.out.trans (BV.mono HB7.out.size)).mono hB.out.size)
                go_upto_region 20 with fail
                rw [← hV]
                clear hV BV BWV HW7 HB7 m0 m1 m2 m3 m4 m5 m6 m7
                go_wp2
                go_roundw
                case rel => exact ⟨k + 1, by omega, by go_num, hBV⟩
                case measure => simp [ctr]; omega
              | false =>
                go_quiet (fail)
                obtain ⟨W1, hW1⟩ : ∃ W1, W1 = W.drewN nq := ⟨_, rfl⟩
                have B1 : Below W.heap.size W W1 := by rw [hW1]; exact below_drewQ (Below.refl _ _) _
                rw [← hW1]
                clear hW1
                have hm0 : W1.cell? ⟨wr.heap.size, 0, none⟩ = some (.int .i64 X.id) := (B1.cell (p := ⟨wr.heap.size, 0, none⟩) hxs).trans m0
                have HB1 : Hid (Below wr.heap.size wr W1) := hBW.out.trans (B1.mono hBW.out.size)
                have HW1 : Hid (Below W.heap.size W W1) := B1
                clear B1 f0 f6
                go_upto_region 18 with fail
                go_wp2_with fail
                refine (implKids_yes _ n fc (FL L) X.id _ (FRr.out.below HB1.out) HR.out).mono ?_
                rintro e w6 ⟨v6, rfl, I6, B6⟩
                obtain ⟨ka, kc, hv, _⟩ := I6.shape
                subst hv
                have HW6 : Hid (Below W.heap.size W w6) := HW1.out.trans (B6.mono HW1.out.size)
                have HB6 : Hid (Below wr.heap.size wr w6) := HB1.out.trans (B6.mono HB1.out.size)
                clear I6 B6 hm0 HW1 HB1
                have hm1 : w6.cell? ⟨wr.heap.size, 1, none⟩ = some (.int .i64 X.up) := (HW6.out.cell (p := ⟨wr.heap.size, 1, none⟩) hxs).trans m1
                obtain ⟨al, hal, hal2⟩ : ∃ al : Bool, (((kids (FL L) X.id n).length : Int) == 0) = al ∧ (al = true → kids (FL L) X.id n = []) := ⟨_, rfl, fun h => by simpa using h⟩
                have HAL : Hid (al = true → ∀ z, z < n → (FL L z).up ≠ X.id) := fun h => kids_none (hal2 h)
                clear hal2
                obtain ⟨U, ub, uf, FIND, HUF⟩ : ∃ (U : Acc) (ub uf : Bool), Hid (∀ W, Fo W (some ⟨b1, o1, none⟩) n (FL L) → Calls Tryz.prog 18 #[.slice (some ⟨b1, o1, none⟩) n fc, .int .i64 X.up] W fun e w' => e = .returned (.tuple #[.agg #[.int .i64 U.id, .int .i64 U.up, .int .i64 U.limit, .int .i64 U.rate, .int .i64 U.target, .bool uf, .int .i64 U.balance, .int .i64 U.carry], .bool ub]) ∧ Below W.heap.size W w') ∧ Hid (uf = false → ∀ u, u < n → (FL L u).id = X.up → (FL L u).frozen = false) := by
                  by_cases hpl : ∃ j, place (FL L) n X.up = some j
                  · obtain ⟨j, hj⟩ := hpl
                    refine ⟨FL L j, true, (FL L j).frozen, fun W hF => implFind_yes _ n fc (FL L) X.up j W hF HR.out hj, fun hf u hu hid' => ?_⟩
                    obtain ⟨j1, j2⟩ := place_some hj
                    have : u = j := HR.out.inj hu j1 (by rw [hid', j2])
                    rw [this]; exact hf
                  · refine ⟨⟨0, 0, 0, 0, 0, false, 0, 0⟩, false, false, fun W hF => implFind_no _ n fc (FL L) X.up W hF (fun hh => hpl hh.2), fun _ u hu hid' => ?_⟩
                    exact absurd ⟨u, by rw [← hid']; exact place_self HR.out.2.2.1 hu⟩ hpl
                go_wp2_with fail
                refine (FIND.out _ (FRr.out.below HB6.out)).mono ?_
                rintro e w7 ⟨rfl, B7⟩
                have HW7 : Hid (Below W.heap.size W w7) := HW6.out.trans (B7.mono HW6.out.size)
                have HB7 : Hid (Below wr.heap.size wr w7) := HB6.out.trans (B7.mono HB6.out.size)
                clear B7 FIND HW6 HB6 hm1
                obtain ⟨V, hV⟩ : ∃ V, V = w7.alloc (.cells #[.int .i64 U.id, .int .i64 U.up, .int .i64 U.limit, .int .i64 U.rate, .int .i64 U.target, .bool uf, .int .i64 U.balance, .int .i64 U.carry] 30) := ⟨_, rfl⟩
                have BV : Below w7.heap.size w7 V := by rw [hV]; exact (Below.refl _ _).alloc (Nat.le_refl _) _
                have u5 : V.cell? ⟨w7.heap.size, 5, none⟩ = some (.bool uf) := by rw [hV]; simp [go_sem]
                have BWV : Below W.heap.size W V := HW7.out.trans (BV.mono HW7.out.size)
                have v2 : V.cell? ⟨wr.heap.size, 2, none⟩ = some (.int .i64 X.limit) := (BWV.cell (p := ⟨wr.heap.size, 2, none⟩) hxs).trans m2
                have v4 : V.cell? ⟨wr.heap.size, 4, none⟩ = some (.int .i64 X.target) := (BWV.cell (p := ⟨wr.heap.size, 4, none⟩) hxs).trans m4
                have v5 : V.cell? ⟨wr.heap.size, 5, none⟩ = some (.bool false) := (BWV.cell (p := ⟨wr.heap.size, 5, none⟩) hxs).trans m5
                have v6 : V.cell? ⟨wr.heap.size, 6, none⟩ = some (.int .i64 y) := (BWV.cell (p := ⟨wr.heap.size, 6, none⟩) hxs).trans m6
                have hBV : Hid (Below w0.heap.size w0 V) := hB.out.trans ((HB7.out.trans (BV.mono HB7.out.size)).mono hB.out.size)
                go_upto_region 20 with fail
                rw [← hV]
                clear hV BV BWV HW7 HB7 m0 m1 m2 m3 m4 m5 m6 m7
                go_wp2
                go_roundw
                case rel => exact ⟨k + 1, by omega, by go_num, hBV⟩
                case measure => simp [ctr]; omega
            · obtain rfl : k = n := by omega
              have F7 : Hid (Fo wr fa k (FL L)) := F6.out.below hB.out
              have G7 : Hid (Fo wr ga k (FL G)) := G6.out.below hB.out
              go_wp2_with fail
              refine (implOk_yes ga k gc (FL G) _ G7.out HGR.out).mono ?_
              rintro e w8 ⟨rfl, B8⟩
              have F8 : Hid (Fo w8 fa k (FL L)) := F7.out.below B8
              have G8 : Hid (Fo w8 ga k (FL G)) := G7.out.below B8
              have BB8 : Hid (Below w0.heap.size w0 w8) := hB.out.trans (B8.mono hB.out.size)
              clear B8 F7 G7 hB
              go_wp2_with fail
              refine (implTotal_yes ga k gc (FL G) _ G8.out HGR.out).mono ?_
              rintro e w9 ⟨rfl, B9⟩
              have F9 : Hid (Fo w9 fa k (FL L)) := F8.out.below B9
              have BB9 : Hid (Below w0.heap.size w0 w9) := BB8.out.trans (B9.mono BB8.out.size)
              clear B9 F8 G8 BB8
              rw [HT.out]
              go_wp2_with (go_at_call 20; refine (implTotal_yes fa k fc (FL L) _ F9.out HR.out).mono ?_; rintro e w10 ⟨rfl, B10⟩)
              go_ret
              exact ⟨by simp, BB6.out.trans ((BB9.out.trans (B10.mono BB9.out.size)).mono BB6.out.size)⟩
        | true =>
          go_wp2
          go_loopw [7] (fun q wr => ∃ k : Nat, k ≤ n ∧ q = .int .i64 k ∧ Hid (Below w0.heap.size w0 wr)) (fun q _ => n - (ctr q).toNat)
          case atStart => exact ⟨0, Nat.zero_le _, rfl, Below.refl _ _⟩
          case round =>
            obtain ⟨k, hk, rfl, hB⟩ := hrel
            by_cases hlt : k < n
            · have hkk : k < n := hlt
              obtain ⟨y, hy, hyf⟩ := HAS.out k hlt
              have hE := HEND.out
              obtain ⟨b1, o1, rfl, hz1, c0, c1, c2, c3, c4, c5, c6, c7⟩ := (F6.out.below hB.out).acc hlt
              obtain ⟨b2, o2, rfl, hz2, d0, d1, d2, d3, d4, d5, d6, d7⟩ := (G6.out.below hB.out).acc hlt
              rw [hy] at d0 d1 d2 d3 d4 d5 d6 d7
              simp only at d0 d1 d2 d3 d4 d5 d6 d7
              have FRr : Hid (Fo wr (some ⟨b1, o1, none⟩) n (FL L)) := F6.out.below hB.out
              have HEk : Hid (Small L → 0 ≤ (FL L k).target → (FL L k).frozen = false → (FL L k).limit < 0 → (∀ u, u < n → (FL L u).id = (FL L k).up → (FL L u).frozen = false) → (∀ z, z < n → (FL L z).up ≠ (FL L k).id) → y = (FL L k).target) := fun hs h1 h2 h3 h4 h5 => by have := hE hs k hlt h1 h2 h3 h4 h5; rw [hy] at this; exact this
              have HYF : Hid ((FL L k).frozen = true → y = (FL L k).balance) := hyf
              clear hE hy hyf c1 c2 c3 c4 c5 c7
              generalize hX : FL L k = X at *
              have HX : Hid (FL L k = X) := hX
              clear hX
              obtain ⟨fz, hfz⟩ : ∃ fz, fz = X.frozen := ⟨_, rfl⟩
              rw [← hfz] at d5 HYF HEk
              have HFZ : Hid (fz = X.frozen) := hfz
              clear hfz
              obtain ⟨W, hW⟩ : ∃ W, W = wr.alloc (.cells #[.int .i64 X.id, .int .i64 X.up, .int .i64 X.limit, .int .i64 X.rate, .int .i64 X.target, .bool fz, .int .i64 y, .int .i64 X.carry] 30) := ⟨_, rfl⟩
              have hBW0 : Below wr.heap.size wr W := by rw [hW]; exact (Below.refl _ _).alloc (Nat.le_refl _) _
              have hBW : Hid (Below wr.heap.size wr W) := hBW0
              have hxs : wr.heap.size < W.heap.size := by rw [hW]; simp
              obtain ⟨m0, m1, m2, m3, m4, m5, m6, m7⟩ : W.cell? ⟨wr.heap.size, 0, none⟩ = some (.int .i64 X.id) ∧ W.cell? ⟨wr.heap.size, 1, none⟩ = some (.int .i64 X.up) ∧ W.cell? ⟨wr.heap.size, 2, none⟩ = some (.int .i64 X.limit) ∧ W.cell? ⟨wr.heap.size, 3, none⟩ = some (.int .i64 X.rate) ∧ W.cell? ⟨wr.heap.size, 4, none⟩ = some (.int .i64 X.target) ∧ W.cell? ⟨wr.heap.size, 5, none⟩ = some (.bool fz) ∧ W.cell? ⟨wr.heap.size, 6, none⟩ = some (.int .i64 y) ∧ W.cell? ⟨wr.heap.size, 7, none⟩ = some (.int .i64 X.carry) := by
                rw [hW]
                refine ⟨?_, ?_, ?_, ?_, ?_, ?_, ?_, ?_⟩ <;> simp [go_sem]
              have f0 : W.cell? ⟨b1, o1 + k * 8, none⟩ = some (.int .i64 X.id) := (hBW0.cell (p := ⟨b1, o1 + k * 8, none⟩) hz1).trans c0
              have f6 : W.cell? ⟨b1, o1 + k * 8 + 6, none⟩ = some (.int .i64 X.balance) := (hBW0.cell (p := ⟨b1, o1 + k * 8 + 6, none⟩) hz1).trans c6
              go_upto_region 16 with fail
              rw [← hW]
              clear hW hBW0 d0 d1 d2 d3 d4 d5 d6 d7 c0 c6
              have hid : (X.id != X.id) = false := by simp
              cases fz with
              | true =>
                have hyb : y = X.balance := HYF.out rfl
                subst hyb
                have hbb : (X.balance != X.balance) = false := by simp
                go_quiet (fail)
                obtain ⟨W1, hW1⟩ : ∃ W1, W1 = W.drewN nq := ⟨_, rfl⟩
                have B1 : Below W.heap.size W W1 := by rw [hW1]; exact below_drewQ (Below.refl _ _) _
                rw [← hW1]
                clear hW1
                have hm0 : W1.cell? ⟨wr.heap.size, 0, none⟩ = some (.int .i64 X.id) := (B1.cell (p := ⟨wr.heap.size, 0, none⟩) hxs).trans m0
                have HB1 : Hid (Below wr.heap.size wr W1) := hBW.out.trans (B1.mono hBW.out.size)
                have HW1 : Hid (Below W.heap.size W W1) := B1
                clear B1 f0 f6
                go_upto_region 18 with fail
                go_wp2_with fail
                refine (implKids_yes _ n fc (FL L) X.id _ (FRr.out.below HB1.out) HR.out).mono ?_
                rintro e w6 ⟨v6, rfl, I6, B6⟩
                obtain ⟨ka, kc, hv, _⟩ := I6.shape
                subst hv
                have HW6 : Hid (Below W.heap.size W w6) := HW1.out.trans (B6.mono HW1.out.size)
                have HB6 : Hid (Below wr.heap.size wr w6) := HB1.out.trans (B6.mono HB1.out.size)
                clear I6 B6 hm0 HW1 HB1
                have hm1 : w6.cell? ⟨wr.heap.size, 1, none⟩ = some (.int .i64 X.up) := (HW6.out.cell (p := ⟨wr.heap.size, 1, none⟩) hxs).trans m1
                obtain ⟨al, hal, hal2⟩ : ∃ al : Bool, (((kids (FL L) X.id n).length : Int) == 0) = al ∧ (al = true → kids (FL L) X.id n = []) := ⟨_, rfl, fun h => by simpa using h⟩
                have HAL : Hid (al = true → ∀ z, z < n → (FL L z).up ≠ X.id) := fun h => kids_none (hal2 h)
                clear hal2
                obtain ⟨U, ub, uf, FIND, HUF⟩ : ∃ (U : Acc) (ub uf : Bool), Hid (∀ W, Fo W (some ⟨b1, o1, none⟩) n (FL L) → Calls Tryz.prog 18 #[.slice (some ⟨b1, o1, none⟩) n fc, .int .i64 X.up] W fun e w' => e = .returned (.tuple #[.agg #[.int .i64 U.id, .int .i64 U.up, .int .i64 U.limit, .int .i64 U.rate, .int .i64 U.target, .bool uf, .int .i64 U.balance, .int .i64 U.carry], .bool ub]) ∧ Below W.heap.size W w') ∧ Hid (uf = false → ∀ u, u < n → (FL L u).id = X.up → (FL L u).frozen = false) := by
                  by_cases hpl : ∃ j, place (FL L) n X.up = some j
                  · obtain ⟨j, hj⟩ := hpl
                    refine ⟨FL L j, true, (FL L j).frozen, fun W hF => implFind_yes _ n fc (FL L) X.up j W hF HR.out hj, fun hf u hu hid' => ?_⟩
                    obtain ⟨j1, j2⟩ := place_some hj
                    have : u = j := HR.out.inj hu j1 (by rw [hid', j2])
                    rw [this]; exact hf
                  · refine ⟨⟨0, 0, 0, 0, 0, false, 0, 0⟩, false, false, fun W hF => implFind_no _ n fc (FL L) X.up W hF (fun hh => hpl hh.2), fun _ u hu hid' => ?_⟩
                    exact absurd ⟨u, by rw [← hid']; exact place_self HR.out.2.2.1 hu⟩ hpl
                go_wp2_with fail
                refine (FIND.out _ (FRr.out.below HB6.out)).mono ?_
                rintro e w7 ⟨rfl, B7⟩
                have HW7 : Hid (Below W.heap.size W w7) := HW6.out.trans (B7.mono HW6.out.size)
                have HB7 : Hid (Below wr.heap.size wr w7) := HB6.out.trans (B7.mono HB6.out.size)
                clear B7 FIND HW6 HB6 hm1
                obtain ⟨V, hV⟩ : ∃ V, V = w7.alloc (.cells #[.int .i64 U.id, .int .i64 U.up, .int .i64 U.limit, .int .i64 U.rate, .int .i64 U.target, .bool uf, .int .i64 U.balance, .int .i64 U.carry] 30) := ⟨_, rfl⟩
                have BV : Below w7.heap.size w7 V := by rw [hV]; exact (Below.refl _ _).alloc (Nat.le_refl _) _
                have u5 : V.cell? ⟨w7.heap.size, 5, none⟩ = some (.bool uf) := by rw [hV]; simp [go_sem]
                have BWV : Below W.heap.size W V := HW7.out.trans (BV.mono HW7.out.size)
                have v2 : V.cell? ⟨wr.heap.size, 2, none⟩ = some (.int .i64 X.limit) := (BWV.cell (p := ⟨wr.heap.size, 2, none⟩) hxs).trans m2
                have v4 : V.cell? ⟨wr.heap.size, 4, none⟩ = some (.int .i64 X.target) := (BWV.cell (p := ⟨wr.heap.size, 4, none⟩) hxs).trans m4
                have v5 : V.cell? ⟨wr.heap.size, 5, none⟩ = some (.bool true) := (BWV.cell (p := ⟨wr.heap.size, 5, none⟩) hxs).trans m5
                have v6 : V.cell? ⟨wr.heap.size, 6, none⟩ = some (.int .i64 X.balance) := (BWV.cell (p := ⟨wr.heap.size, 6, none⟩) hxs).trans m6
                have hBV : Hid (Below w0.heap.size w0 V) := hB.out.trans ((HB7.out.trans (BV.mono HB7.out.size)).mono hB.out.size)
                go_upto_region 20 with fail
                rw [← hV]
                clear hV BV BWV HW7 HB7 m0 m1 m2 m3 m4 m5 m6 m7
                by_cases ht : 0 ≤ X.target
                · have g1 : decide (0 ≤ X.target) = true := by simp [ht]
                  have g1b : decide (X.target < 0) = false := by simp; omega
                  cases al with
                  | false =>
                    go_wp2
                    go_roundw
                    case rel => exact ⟨k + 1, by omega, by go_num, hBV⟩
                    case measure => simp [ctr]; omega
                  | true =>
                    go_wp2
                    go_roundw
                    case rel => exact ⟨k + 1, by omega, by go_num, hBV⟩
                    case measure => simp [ctr]; omega
                · have g1 : decide (0 ≤ X.target) = false := by simp [ht]
                  have g1b : decide (X.target < 0) = true := by simp; omega
                  go_wp2
                  go_roundw
                  case rel => exact ⟨k + 1, by omega, by go_num, hBV⟩
                  case measure => simp [ctr]; omega
              | false =>
                go_quiet (fail)
                obtain ⟨W1, hW1⟩ : ∃ W1, W1 = W.drewN nq := ⟨_, rfl⟩
                have B1 : Below W.heap.size W W1 := by rw [hW1]; exact below_drewQ (Below.refl _ _) _
                rw [← hW1]
                clear hW1
                have hm0 : W1.cell? ⟨wr.heap.size, 0, none⟩ = some (.int .i64 X.id) := (B1.cell (p := ⟨wr.heap.size, 0, none⟩) hxs).trans m0
                have HB1 : Hid (Below wr.heap.size wr W1) := hBW.out.trans (B1.mono hBW.out.size)
                have HW1 : Hid (Below W.heap.size W W1) := B1
                clear B1 f0 f6
                go_upto_region 18 with fail
                go_wp2_with fail
                refine (implKids_yes _ n fc (FL L) X.id _ (FRr.out.below HB1.out) HR.out).mono ?_
                rintro e w6 ⟨v6, rfl, I6, B6⟩
                obtain ⟨ka, kc, hv, _⟩ := I6.shape
                subst hv
                have HW6 : Hid (Below W.heap.size W w6) := HW1.out.trans (B6.mono HW1.out.size)
                have HB6 : Hid (Below wr.heap.size wr w6) := HB1.out.trans (B6.mono HB1.out.size)
                clear I6 B6 hm0 HW1 HB1
                have hm1 : w6.cell? ⟨wr.heap.size, 1, none⟩ = some (.int .i64 X.up) := (HW6.out.cell (p := ⟨wr.heap.size, 1, none⟩) hxs).trans m1
                obtain ⟨al, hal, hal2⟩ : ∃ al : Bool, (((kids (FL L) X.id n).length : Int) == 0) = al ∧ (al = true → kids (FL L) X.id n = []) := ⟨_, rfl, fun h => by simpa using h⟩
                have HAL : Hid (al = true → ∀ z, z < n → (FL L z).up ≠ X.id) := fun h => kids_none (hal2 h)
                clear hal2
                obtain ⟨U, ub, uf, FIND, HUF⟩ : ∃ (U : Acc) (ub uf : Bool), Hid (∀ W, Fo W (some ⟨b1, o1, none⟩) n (FL L) → Calls Tryz.prog 18 #[.slice (some ⟨b1, o1, none⟩) n fc, .int .i64 X.up] W fun e w' => e = .returned (.tuple #[.agg #[.int .i64 U.id, .int .i64 U.up, .int .i64 U.limit, .int .i64 U.rate, .int .i64 U.target, .bool uf, .int .i64 U.balance, .int .i64 U.carry], .bool ub]) ∧ Below W.heap.size W w') ∧ Hid (uf = false → ∀ u, u < n → (FL L u).id = X.up → (FL L u).frozen = false) := by
                  by_cases hpl : ∃ j, place (FL L) n X.up = some j
                  · obtain ⟨j, hj⟩ := hpl
                    refine ⟨FL L j, true, (FL L j).frozen, fun W hF => implFind_yes _ n fc (FL L) X.up j W hF HR.out hj, fun hf u hu hid' => ?_⟩
                    obtain ⟨j1, j2⟩ := place_some hj
                    have : u = j := HR.out.inj hu j1 (by rw [hid', j2])
                    rw [this]; exact hf
                  · refine ⟨⟨0, 0, 0, 0, 0, false, 0, 0⟩, false, false, fun W hF => implFind_no _ n fc (FL L) X.up W hF (fun hh => hpl hh.2), fun _ u hu hid' => ?_⟩
                    exact absurd ⟨u, by rw [← hid']; exact place_self HR.out.2.2.1 hu⟩ hpl
                go_wp2_with fail
                refine (FIND.out _ (FRr.out.below HB6.out)).mono ?_
                rintro e w7 ⟨rfl, B7⟩
                have HW7 : Hid (Below W.heap.size W w7) := HW6.out.trans (B7.mono HW6.out.size)
                have HB7 : Hid (Below wr.heap.size wr w7) := HB6.out.trans (B7.mono HB6.out.size)
                clear B7 FIND HW6 HB6 hm1
                obtain ⟨V, hV⟩ : ∃ V, V = w7.alloc (.cells #[.int .i64 U.id, .int .i64 U.up, .int .i64 U.limit, .int .i64 U.rate, .int .i64 U.target, .bool uf, .int .i64 U.balance, .int .i64 U.carry] 30) := ⟨_, rfl⟩
                have BV : Below w7.heap.size w7 V := by rw [hV]; exact (Below.refl _ _).alloc (Nat.le_refl _) _
                have u5 : V.cell? ⟨w7.heap.size, 5, none⟩ = some (.bool uf) := by rw [hV]; simp [go_sem]
                have BWV : Below W.heap.size W V := HW7.out.trans (BV.mono HW7.out.size)
                have v2 : V.cell? ⟨wr.heap.size, 2, none⟩ = some (.int .i64 X.limit) := (BWV.cell (p := ⟨wr.heap.size, 2, none⟩) hxs).trans m2
                have v4 : V.cell? ⟨wr.heap.size, 4, none⟩ = some (.int .i64 X.target) := (BWV.cell (p := ⟨wr.heap.size, 4, none⟩) hxs).trans m4
                have v5 : V.cell? ⟨wr.heap.size, 5, none⟩ = some (.bool false) := (BWV.cell (p := ⟨wr.heap.size, 5, none⟩) hxs).trans m5
                have v6 : V.cell? ⟨wr.heap.size, 6, none⟩ = some (.int .i64 y) := (BWV.cell (p := ⟨wr.heap.size, 6, none⟩) hxs).trans m6
                have hBV : Hid (Below w0.heap.size w0 V) := hB.out.trans ((HB7.out.trans (BV.mono HB7.out.size)).mono hB.out.size)
                go_upto_region 20 with fail
                rw [← hV]
                clear hV BV BWV HW7 HB7 m0 m1 m2 m3 m4 m5 m6 m7
                by_cases ht : 0 ≤ X.target
                · have g1 : decide (0 ≤ X.target) = true := by simp [ht]
                  have g1b : decide (X.target < 0) = false := by simp; omega
                  cases al with
                  | false =>
                    go_wp2
                    go_roundw
                    case rel => exact ⟨k + 1, by omega, by go_num, hBV⟩
                    case measure => simp [ctr]; omega
                  | true =>
                    cases uf with
                    | true =>
                      go_wp2
                      go_roundw
                      case rel => exact ⟨k + 1, by omega, by go_num, hBV⟩
                      case measure => simp [ctr]; omega
                    | false =>
                      by_cases hl2 : X.limit < 0
                      · have g2 : decide (X.limit < 0) = true := by simp [hl2]
                        have hyt : y = X.target := HEk.out (HSM.out (by simp)) ht (by simp) hl2 (HUF.out (by simp)) (HAL.out (by simp))
                        subst hyt
                        have hxx : (X.target != X.target) = false := by simp
                        go_wp2
                        go_roundw
                        case rel => exact ⟨k + 1, by omega, by go_num, hBV⟩
                        case measure => simp [ctr]; omega
                      · have g2 : decide (X.limit < 0) = false := by simp [hl2]
                        go_wp2
                        go_roundw
                        case rel => exact ⟨k + 1, by omega, by go_num, hBV⟩
                        case measure => simp [ctr]; omega
                · have g1 : decide (0 ≤ X.target) = false := by simp [ht]
                  have g1b : decide (X.target < 0) = true := by simp; omega
                  go_wp2
                  go_roundw
                  case rel => exact ⟨k + 1, by omega, by go_num, hBV⟩
                  case measure => simp [ctr]; omega
            · obtain rfl : k = n := by omega
              have F7 : Hid (Fo wr fa k (FL L)) := F6.out.below hB.out
              have G7 : Hid (Fo wr ga k (FL G)) := G6.out.below hB.out
              go_wp2_with fail
              refine (implOk_yes ga k gc (FL G) _ G7.out HGR.out).mono ?_
              rintro e w8 ⟨rfl, B8⟩
              have F8 : Hid (Fo w8 fa k (FL L)) := F7.out.below B8
              have G8 : Hid (Fo w8 ga k (FL G)) := G7.out.below B8
              have BB8 : Hid (Below w0.heap.size w0 w8) := hB.out.trans (B8.mono hB.out.size)
              clear B8 F7 G7 hB
              go_wp2_with fail
              refine (implTotal_yes ga k gc (FL G) _ G8.out HGR.out).mono ?_
              rintro e w9 ⟨rfl, B9⟩
              have F9 : Hid (Fo w9 fa k (FL L)) := F8.out.below B9
              have BB9 : Hid (Below w0.heap.size w0 w9) := BB8.out.trans (B9.mono BB8.out.size)
              clear B9 F8 G8 BB8
              rw [HT.out]
              go_wp2_with (go_at_call 20; refine (implTotal_yes fa k fc (FL L) _ F9.out HR.out).mono ?_; rintro e w10 ⟨rfl, B10⟩)
              go_ret
              exact ⟨by simp, BB6.out.trans ((BB9.out.trans (B10.mono BB9.out.size)).mono BB6.out.size)⟩
  · have HR : Hid (¬ Right (FL L) L.length) := hR
    clear hR HG
    go_wp2_with fail
    refine (implSwept_no fa L.length fc (FL L) _ F1.out HR.out).mono ?_
    rintro e w2 ⟨rfl, B2⟩
    have F2 : Hid (Fo w2 fa L.length (FL L)) := F1.out.below B2
    have BB2 : Hid (Below w.heap.size w w2) := BB1.out.trans (B2.mono BB1.out.size)
    clear B2 F1 BB1
    go_wp2_with fail
    refine (specSwept_no fa L.length fc (FL L) _ F2.out HR.out).mono ?_
    rintro e w3 ⟨rfl, B3⟩
    have F3 : Hid (Fo w3 fa L.length (FL L)) := F2.out.below B3
    have BB3 : Hid (Below w.heap.size w w3) := BB2.out.trans (B3.mono BB2.out.size)
    clear B3 F2 BB2
    go_wp2_with fail
    refine (sameForest_same none none 0 0 0 (FL L) _ ⟨by omega, Or.inl rfl⟩ ⟨by omega, Or.inl rfl⟩).mono ?_
    rintro e w4 ⟨rfl, B4⟩
    have F4 : Hid (Fo w4 fa L.length (FL L)) := F3.out.below B4
    have BB4 : Hid (Below w.heap.size w w4) := BB3.out.trans (B4.mono BB3.out.size)
    clear B4 F3 BB3
    go_wp2_with fail
    refine (specOk_no fa L.length fc (FL L) _ F4.out HR.out).mono ?_
    rintro e w5 ⟨rfl, B5⟩
    have F5 : Hid (Fo w5 fa L.length (FL L)) := F4.out.below B5
    have BB5 : Hid (Below w.heap.size w w5) := BB4.out.trans (B5.mono BB4.out.size)
    clear B5 F4 BB4
    go_wp2_with fail
    refine (specSwept_no fa L.length fc (FL L) _ F5.out HR.out).mono ?_
    rintro e w6 ⟨rfl, B6⟩
    have BB6 : Hid (Below w.heap.size w w6) := BB5.out.trans (B6.mono BB5.out.size)
    clear B6 F5 BB5
    go_wp2_with (go_at_call 14; refine (sameForest_same none none 0 0 0 (FL L) _ ⟨by omega, Or.inl rfl⟩ ⟨by omega, Or.inl rfl⟩).mono ?_; rintro e w7 ⟨rfl, B7⟩)
    go_ret
    exact ⟨rfl, BB6.out.trans (B7.mono BB6.out.size)⟩
end Go.Proofs.YtghkbhggopiajaaGreatDoor
