/- The draw of an order and a day. Conditions: the bytes lie in memory. -/
import Derived.Test.YtlndklendejjdaaRdOrd
import Derived.Deep.RegionWith
namespace Go.Proofs.Ytlndklendejjdaa
open Go.RowKit

theorem Rd.setFar2 {w : World} {B : Nat} {a : Option Addr} {len cap R o : Nat} (h : Rd w B a len cap) (hR : R ≠ B) (hb : len = 0 ∨ ∀ (b off : Nat), a = some ⟨b, off, none⟩ → b ≠ R) (u : Value) : Rd (w.setCell ⟨R, o, none⟩ u) B a len cap := by
  obtain ⟨h1, ⟨p, hp, h2⟩, h3, h4, h5, h6⟩ := h
  have c : ∀ j, (w.setCell ⟨R, o, none⟩ u).cell? ⟨B, j, none⟩ = w.cell? ⟨B, j, none⟩ := fun j => World.cell?_setCell_other _ _ _ _ (by intro e; exact hR (congrArg Addr.block e))
  refine ⟨by rw [c]; exact h1, ⟨p, hp, by rw [c]; exact h2⟩, by rw [World.frozen?_setCell]; exact h3, by simpa [World.setCell] using h4, h5, fun i hi => ?_⟩
  obtain ⟨b, off, z, ha, hbB, hc, hz⟩ := h6 i hi
  exact ⟨b, off, z, ha, hbB, by rw [World.cell?_setCell_other _ _ _ _ (by intro e; exact (hb.resolve_left (by omega)) b off ha (congrArg Addr.block e).symm)]; exact hc, hz⟩

set_option maxHeartbeats 2000000 in
theorem drawIsDue (a : Option Addr) (len cap : Nat) (w : World) (h : Code w a len) :
    Calls Try.prog 39 #[.slice a len cap] w fun e w' => ∃ (o : Ord) (z : Int), e = .returned (.tuple #[.agg #[.int .i64 o.id, .int .i64 o.src, .int .i64 o.dst, .int .i64 o.amount, .int .i64 o.first, .int .i64 o.every, .int .i64 o.times], .int .i64 z]) ∧ Below w.heap.size w w' := by
  have H : Hid (Code w a len) := h
  have HAB : Hid (len = 0 ∨ ∀ (b off : Nat), a = some ⟨b, off, none⟩ → b ≠ w.heap.size) := by
    by_cases h0 : len = 0
    · exact Or.inl h0
    · refine Or.inr fun b off ha => ?_
      obtain ⟨b', off', z, ha', hb', _⟩ := h.2 0 (by omega)
      rw [ha] at ha'
      have : b = b' := by simpa using congrArg (Option.map Addr.block) ha'
      omega
  clear h
  have QX0 : Hid (Box7 (w.alloc (.cells #[.int .i64 0, .int .i64 0, .int .i64 0, .int .i64 0, .int .i64 0, .int .i64 0, .int .i64 0] 25)) w.heap.size (.int .i64 0) (.int .i64 0) (.int .i64 0) (.int .i64 0) (.int .i64 0) (.int .i64 0) (.int .i64 0)) := Box7.new w (.int .i64 0) (.int .i64 0) (.int .i64 0) (.int .i64 0) (.int .i64 0) (.int .i64 0) (.int .i64 0) 25
  have BX0 : Hid (Below w.heap.size w (w.alloc (.cells #[.int .i64 0, .int .i64 0, .int .i64 0, .int .i64 0, .int .i64 0, .int .i64 0, .int .i64 0] 25))) := (Below.refl _ _).alloc (Nat.le_refl _) _
  have HC : Hid (Code (w.alloc (.cells #[.int .i64 0, .int .i64 0, .int .i64 0, .int .i64 0, .int .i64 0, .int .i64 0, .int .i64 0] 25)) a len) := ⟨H.out.1, fun i hi => by
    obtain ⟨b, off, z, ha, hb, hc, hz⟩ := H.out.2 i hi
    exact ⟨b, off, z, ha, by simp; omega, by rw [World.cell?_alloc_lt _ _ _ (by exact hb)]; exact hc, hz⟩⟩
  go_enter Try.func39, Try.ntmps39
  go_wp2_with fail
  refine (rd_open a len cap _ HC.out.1 HC.out.2).mono ?_
  rw [World.size_alloc]
  rintro e w1 ⟨rfl, R1, B1⟩
  have RX1 : Hid (Rd w1 (w.heap.size + 1) a len cap) := R1
  have QX1 : Hid (Box7 w1 w.heap.size (.int .i64 0) (.int .i64 0) (.int .i64 0) (.int .i64 0) (.int .i64 0) (.int .i64 0) (.int .i64 0)) := QX0.out.kept B1 (by simp)
  have BX1 : Hid (Below w.heap.size w w1) := BX0.out.trans (B1.mono (by simp))
  clear R1 B1 HC QX0 BX0 H
  have hQB : w.heap.size ≠ w.heap.size + 1 := by omega
  go_wp2_with fail
  refine (rd_order (w.heap.size + 1) a len cap _ RX1.out).mono ?_
  rintro e w3 ⟨o, rfl, R3, S3⟩
  have RX3 : Hid (Rd (w3.alloc (.cells #[.int .i64 o.id, .int .i64 o.src, .int .i64 o.dst, .int .i64 o.amount, .int .i64 o.first, .int .i64 o.every, .int .i64 o.times] 25)) (w.heap.size + 1) a len cap) := R3.alloc _
  have hw3 : w.heap.size + 1 < w3.heap.size := R3.2.2.2.1
  have hRB : w3.heap.size ≠ w.heap.size + 1 := by omega
  have QX3 : Hid (Box7 (w3.alloc (.cells #[.int .i64 o.id, .int .i64 o.src, .int .i64 o.dst, .int .i64 o.amount, .int .i64 o.first, .int .i64 o.every, .int .i64 o.times] 25)) w.heap.size (.int .i64 0) (.int .i64 0) (.int .i64 0) (.int .i64 0) (.int .i64 0) (.int .i64 0) (.int .i64 0)) := (QX1.out.stp S3 hQB).alloc _
  have OX3 : Hid (Box7 (w3.alloc (.cells #[.int .i64 o.id, .int .i64 o.src, .int .i64 o.dst, .int .i64 o.amount, .int .i64 o.first, .int .i64 o.every, .int .i64 o.times] 25)) w3.heap.size (.int .i64 o.id) (.int .i64 o.src) (.int .i64 o.dst) (.int .i64 o.amount) (.int .i64 o.first) (.int .i64 o.every) (.int .i64 o.times)) := Box7.new w3 (.int .i64 o.id) (.int .i64 o.src) (.int .i64 o.dst) (.int .i64 o.amount) (.int .i64 o.first) (.int .i64 o.every) (.int .i64 o.times) 25
  have BX3 : Hid (Below w.heap.size w (w3.alloc (.cells #[.int .i64 o.id, .int .i64 o.src, .int .i64 o.dst, .int .i64 o.amount, .int .i64 o.first, .int .i64 o.every, .int .i64 o.times] 25))) := (BX1.out.trans ((S3.below (by have := RX1.out.2.2.2.1; omega)).mono (by omega))).alloc (by omega) _
  clear R3 S3 RX1 QX1 BX1
  go_wp2_with fail
  refine (rd_once (w.heap.size + 1) a len cap 8 _ RX3.out (by omega) (by omega)).mono ?_
  rintro e w5 ⟨bo, rfl, R5, S5⟩
  have RX5 : Hid (Rd w5 (w.heap.size + 1) a len cap) := R5
  have QX5 : Hid (Box7 w5 w.heap.size (.int .i64 0) (.int .i64 0) (.int .i64 0) (.int .i64 0) (.int .i64 0) (.int .i64 0) (.int .i64 0)) := QX3.out.stp S5 hQB
  have OX5 : Hid (Box7 w5 w3.heap.size (.int .i64 o.id) (.int .i64 o.src) (.int .i64 o.dst) (.int .i64 o.amount) (.int .i64 o.first) (.int .i64 o.every) (.int .i64 o.times)) := OX3.out.stp S5 hRB
  have BX5 : Hid (Below w.heap.size w w5) := BX3.out.trans ((S5.below (by have := RX3.out.2.2.2.1; omega)).mono (by omega))
  clear R5 S5 RX3 QX3 OX3 BX3
  cases bo with
  | true =>
    have RXd : Hid (Rd w5.drew (w.heap.size + 1) a len cap) := RX5.out
    have OXd : Hid (Box7 w5.drew w3.heap.size (.int .i64 o.id) (.int .i64 o.src) (.int .i64 o.dst) (.int .i64 o.amount) (.int .i64 o.first) (.int .i64 o.every) (.int .i64 o.times)) := OX5.out
    have QXd : Hid (Box7 w5.drew w.heap.size (.int .i64 0) (.int .i64 0) (.int .i64 0) (.int .i64 0) (.int .i64 0) (.int .i64 0) (.int .i64 0)) := QX5.out
    have BXd : Hid (Below w.heap.size w w5.drew) := BX5.out.trans ⟨rfl, rfl, rfl, Nat.le_refl _, fun _ _ => rfl⟩
    obtain ⟨⟨r0, r1, r2, r3, r4, r5, r6⟩, rf, _⟩ := OX5.out
    obtain ⟨⟨q0, q1, q2, q3, q4, q5, q6⟩, qf, _⟩ := QX5.out
    go_wp2
    go_region_with (
      (go_at_call 64; refine (rd_off (w.heap.size + 1) a len cap 0 3000000 _ (by first | exact RXd.out | (repeat (refine Rd.setFar2 ?_ (by omega) HAB.out _); exact RXd.out)) (by omega) (by omega) (by omega)).mono ?_
       rintro e w9 ⟨z, rfl, RN, SN⟩
       first
       | (have OX9 : Hid (Box7 w9 w3.heap.size (.int .i64 o.id) (.int .i64 o.src) (.int .i64 o.dst) (.int .i64 o.amount) (.int .i64 o.first) (.int .i64 o.every) (.int .i64 o.times)) := OXd.out.stp SN hRB
          have QX9 : Hid (Box7 w9 w.heap.size (.int .i64 0) (.int .i64 0) (.int .i64 0) (.int .i64 0) (.int .i64 0) (.int .i64 0) (.int .i64 0)) := QXd.out.stp SN hQB
          have BX9 : Hid (Below w.heap.size w w9) := BXd.out.trans ((SN.below (Nat.le_of_lt RXd.out.2.2.2.1)).mono (by omega))
          clear RN SN
          obtain ⟨⟨g0, g1, g2, g3, g4, g5, g6⟩, gf, _⟩ := OX9.out
          obtain ⟨⟨k0, k1, k2, k3, k4, k5, k6⟩, kf, _⟩ := QX9.out)
       | (have QX9 : Hid (Box7 w9 w.heap.size (.int .i64 o.id) (.int .i64 o.src) (.int .i64 o.dst) (.int .i64 o.amount) (.int .i64 o.first) (.int .i64 o.every) (.int .i64 o.times)) := (((((((QXd.out.set0 _).set1 _).set2 _).set3 _).set4 _).set5 _).set6 _).stp SN hQB
          have BX9 : Hid (Below w.heap.size w w9) := by
            refine Below.trans ?_ ((SN.below ?_).mono ?_)
            · repeat (refine below_far ?_ (by omega) _ _)
              exact BXd.out
            · simp [World.setCell]; exact Nat.le_of_lt RXd.out.2.2.2.1
            · omega
          clear RN SN
          obtain ⟨⟨k0, k1, k2, k3, k4, k5, k6⟩, kf, _⟩ := QX9.out)))
    all_goals go_wp2
    all_goals refine bodyPost_ret (v := .tuple #[.agg #[.int .i64 o.id, .int .i64 o.src, .int .i64 o.dst, .int .i64 o.amount, .int .i64 o.first, .int .i64 o.every, .int .i64 o.times], .int .i64 z]) (by simp [results, Try.results39, go_sem, k0, k1, k2, k3, k4, k5, k6]) rfl ⟨o, z, rfl, ?_⟩
    all_goals (repeat (refine below_far ?_ (by omega) _ _))
    all_goals exact BX9.out
  | false =>
    have RXd : Hid (Rd w5.drew (w.heap.size + 1) a len cap) := RX5.out
    have OXd : Hid (Box7 w5.drew w3.heap.size (.int .i64 o.id) (.int .i64 o.src) (.int .i64 o.dst) (.int .i64 o.amount) (.int .i64 o.first) (.int .i64 o.every) (.int .i64 o.times)) := OX5.out
    have QXd : Hid (Box7 w5.drew w.heap.size (.int .i64 0) (.int .i64 0) (.int .i64 0) (.int .i64 0) (.int .i64 0) (.int .i64 0) (.int .i64 0)) := QX5.out
    have BXd : Hid (Below w.heap.size w w5.drew) := BX5.out.trans ⟨rfl, rfl, rfl, Nat.le_refl _, fun _ _ => rfl⟩
    obtain ⟨⟨r0, r1, r2, r3, r4, r5, r6⟩, rf, _⟩ := OX5.out
    obtain ⟨⟨q0, q1, q2, q3, q4, q5, q6⟩, qf, _⟩ := QX5.out
    go_wp2
    go_region_with (
      (go_at_call 65; refine (rd_below (w.heap.size + 1) a len cap 30 _ (by first | exact RXd.out | (repeat (refine Rd.setFar2 ?_ (by omega) HAB.out _); exact RXd.out)) (by omega) (by omega)).mono ?_
       rintro e w9 ⟨z, rfl, z1, z2, RN, SN⟩
       first
       | (have OX9 : Hid (Box7 w9 w3.heap.size (.int .i64 o.id) (.int .i64 o.src) (.int .i64 o.dst) (.int .i64 o.amount) (.int .i64 o.first) (.int .i64 o.every) (.int .i64 o.times)) := OXd.out.stp SN hRB
          have QX9 : Hid (Box7 w9 w.heap.size (.int .i64 0) (.int .i64 0) (.int .i64 0) (.int .i64 0) (.int .i64 0) (.int .i64 0) (.int .i64 0)) := QXd.out.stp SN hQB
          have BX9 : Hid (Below w.heap.size w w9) := BXd.out.trans ((SN.below (Nat.le_of_lt RXd.out.2.2.2.1)).mono (by omega))
          clear RN SN
          obtain ⟨⟨g0, g1, g2, g3, g4, g5, g6⟩, gf, _⟩ := OX9.out
          obtain ⟨⟨k0, k1, k2, k3, k4, k5, k6⟩, kf, _⟩ := QX9.out)
       | (have QX9 : Hid (Box7 w9 w.heap.size (.int .i64 o.id) (.int .i64 o.src) (.int .i64 o.dst) (.int .i64 o.amount) (.int .i64 o.first) (.int .i64 o.every) (.int .i64 o.times)) := (((((((QXd.out.set0 _).set1 _).set2 _).set3 _).set4 _).set5 _).set6 _).stp SN hQB
          have BX9 : Hid (Below w.heap.size w w9) := by
            refine Below.trans ?_ ((SN.below ?_).mono ?_)
            · repeat (refine below_far ?_ (by omega) _ _)
              exact BXd.out
            · simp [World.setCell]; exact Nat.le_of_lt RXd.out.2.2.2.1
            · omega
          clear RN SN
          obtain ⟨⟨k0, k1, k2, k3, k4, k5, k6⟩, kf, _⟩ := QX9.out)))
    all_goals go_wp2
    all_goals refine bodyPost_ret (v := .tuple #[.agg #[.int .i64 o.id, .int .i64 o.src, .int .i64 o.dst, .int .i64 o.amount, .int .i64 o.first, .int .i64 o.every, .int .i64 o.times], .int .i64 z]) (by simp [results, Try.results39, go_sem, k0, k1, k2, k3, k4, k5, k6]) rfl ⟨o, z, rfl, ?_⟩
    all_goals (repeat (refine below_far ?_ (by omega) _ _))
    all_goals exact BX9.out
end Go.Proofs.Ytlndklendejjdaa
