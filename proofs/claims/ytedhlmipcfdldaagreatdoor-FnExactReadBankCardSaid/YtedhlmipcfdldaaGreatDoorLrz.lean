/- The law FnExactReadBank. Conditions: texts of at most 1048576 bytes (the law asks no more); the package's errors are there, the library's powers of ten as its text lays them. -/
import Derived.Test.YtedhlmipcfdldaaGreatDoorSrb
namespace Go.Proofs.YtedhlmipcfdldaaGreatDoor
open Go.RowKit Go.Shelf
set_option maxRecDepth 8000

theorem rdb_one {s : List UInt8} {k k' : Bk} {L L' : List Acc} {O O' : List Ord} {t t' : List UInt8} (h : RdB s k L O t) (h' : RdB s k' L' O' t') : k = k' ∧ L = L' ∧ O = O' := by
  obtain ⟨p1, p2, d1, d2, d3, _⟩ := h
  obtain ⟨q1, q2, e1, e2, e3, _⟩ := h'
  rw [d1] at e1
  obtain ⟨f1, f2⟩ := Prod.ext_iff.1 (Option.some.inj e1)
  simp only at f1 f2
  rw [← f2, d2] at e2
  obtain ⟨f3, f4⟩ := Prod.ext_iff.1 (Option.some.inj e2)
  simp only at f3 f4
  rw [← f4, d3] at e3
  obtain ⟨f5, _⟩ := Prod.ext_iff.1 (Option.some.inj e3)
  simp only at f5
  exact ⟨bkN_inj f1, map_inj acN_inj f3, map_inj orN_inj f5⟩
/-- A bank of the call's own: box and rows. -/
def Bkx (V : World) (r B : Nat) (v u : Value) (k : Bk) (L : List Acc) (O : List Ord) : Prop := Box7 V r (.int .i64 k.day) v u (.int .i64 k.inn) (.int .i64 k.out) (.int .i64 k.posted) (.int .i64 k.missed) ∧ AL V B v L ∧ OrdL V B u O
theorem Bkx.below {V W : World} {r B : Nat} {v u : Value} {k : Bk} {L : List Acc} {O : List Ord} (h : Bkx V r B v u k L O) (hb : Below V.heap.size V W) : Bkx W r B v u k L O := ⟨h.1.kept hb h.1.2.2, AL.kept h.2.1 hb, OrdL.kept h.2.2 hb⟩
theorem Bkx.new {V : World} {B : Nat} {v u : Value} {k : Bk} {L : List Acc} {O : List Ord} (h1 : AL V B v L) (h2 : OrdL V B u O) : Bkx (V.alloc (.cells #[.int .i64 k.day, v, u, .int .i64 k.inn, .int .i64 k.out, .int .i64 k.posted, .int .i64 k.missed] 25)) V.heap.size B v u k L O :=
  have hb : Below V.heap.size V (V.alloc (.cells #[.int .i64 k.day, v, u, .int .i64 k.inn, .int .i64 k.out, .int .i64 k.posted, .int .i64 k.missed] 25)) := (Below.refl _ _).alloc (Nat.le_refl _) _
  ⟨Box7.new _ _ _ _ _ _ _ _ _, AL.kept h1 hb, OrdL.kept h2 hb⟩
theorem Bkx.grown {V W : World} {r B : Nat} {q : Option Nat} {v u : Value} {k : Bk} {L : List Acc} {O : List Ord} (h : Bkx V r B v u k L O) (hg : V.grownBy W q) (h0 : q ≠ some r) (h1 : ∀ x, v.ownBlock = some x → q ≠ some x) (h2 : ∀ x, u.ownBlock = some x → q ≠ some x) : Bkx W r B v u k L O := by
  refine ⟨h.1.same (hg.block r h.1.2.2 (fun e => h0 e.symm)), World.ownsRow.kept h.2.1 hg ?_, World.ownsRow.kept h.2.2 hg ?_⟩
  · cases hb : v.ownBlock with
    | none => exact Or.inl rfl
    | some x => right; intro e; exact h1 x hb e.symm
  · cases hb : u.ownBlock with
    | none => exact Or.inl rfl
    | some x => right; intro e; exact h2 x hb e.symm
theorem below_grown {w V W : World} {B : Nat} {q : Option Nat} (h : Below B w V) (hB : B ≤ w.heap.size) (hg : V.grownBy W q) (hq : ∀ x, q = some x → B ≤ x) : Below B w W :=
  ⟨hg.os.trans h.os, hg.tape.trans h.tape, hg.output.trans h.output, Nat.le_trans h.size hg.size, fun i hi => (hg.block i (by have := h.size; omega) (fun e => by have := hq i e.symm; omega)).trans (h.block i hi)⟩
theorem eqBankL {B C n1 n2 : Nat} {a1 a2 b1 b2 : Option Addr} {c1 c2 d1 d2 : Nat} {L : List Acc} {O : List Ord} (k : Bk) (w : World) (hL : L.length ≤ 12) (hO : O.length ≤ 8) (h1 : AL w B (.slice a1 n1 c1) L) (h2 : OrdL w B (.slice b1 n2 d1) O) (h3 : AL w C (.slice a2 n1 c2) L) (h4 : OrdL w C (.slice b2 n2 d2) O) :
    Calls Tryz.prog 6 #[.agg #[.int .i64 k.day, (.slice a1 n1 c1), (.slice b1 n2 d1), .int .i64 k.inn, .int .i64 k.out, .int .i64 k.posted, .int .i64 k.missed], .agg #[.int .i64 k.day, (.slice a2 n1 c2), (.slice b2 n2 d2), .int .i64 k.inn, .int .i64 k.out, .int .i64 k.posted, .int .i64 k.missed]] w fun e w' => e = .returned (.bool true) ∧ Below w.heap.size w w' :=
  eqBank_same a1 a2 b1 b2 n1 c1 c2 n2 d1 d2 (FL L) (OrdF O) k w (h1.fo (by omega)).2 (h3.fo (by omega)).2 (h2.list (by omega)).2 (h4.list (by omega)).2
/-- Both sides have one answer. -/
theorem wout_one (s : ByteArray) : ∃ (k : Bk) (L : List Acc) (O : List Ord) (n1 n2 : Nat) (b : Bool), (L.length = n1 ∧ O.length = n2 ∧ L.length ≤ 12 ∧ O.length ≤ 8) ∧ ∀ w e w', WOut w s e w' → ∃ (a1 : Option Addr) (c1 : Nat) (b1 : Option Addr) (d1 : Nat), e = .returned (.tuple #[.agg #[.int .i64 k.day, (.slice a1 n1 c1), (.slice b1 n2 d1), .int .i64 k.inn, .int .i64 k.out, .int .i64 k.posted, .int .i64 k.missed], .bool b]) ∧ AL w' w.heap.size (.slice a1 n1 c1) L ∧ OrdL w' w.heap.size (.slice b1 n2 d1) O ∧ Below w.heap.size w w' := by
  by_cases h : ∃ k L O, RdB s.data.toList k L O []
  · obtain ⟨k, L, O, hr⟩ := h
    have hb := ((rdb_iff s k L O).1 hr).1
    refine ⟨k, L, O, _, _, true, ⟨rfl, rfl, hb.2.1.1, hb.2.2.1.1⟩, fun w e w' hw => ?_⟩
    rcases hw.2 with ⟨k', L', O', v, u, hr', rfl, h1, h2⟩ | ⟨hn, _⟩
    · obtain ⟨rfl, rfl, rfl⟩ := rdb_one hr hr'
      obtain ⟨a1, c1, rfl⟩ := h1.len
      obtain ⟨b1, d1, rfl, _⟩ := h2.shape
      exact ⟨a1, c1, b1, d1, rfl, h1, h2, hw.1⟩
    · exact absurd hr (hn k L O)
  · refine ⟨⟨0, 0, 0, 0, 0⟩, [], [], 0, 0, false, ⟨rfl, rfl, by simp, by simp⟩, fun w e w' hw => ?_⟩
    rcases hw.2 with ⟨k', L', O', v, u, hr', _⟩ | ⟨_, rfl⟩
    · exact absurd ⟨k', L', O', hr'⟩ h
    · exact ⟨none, 0, none, 0, rfl, AL.nil' _ _, OrdL.nil _ _, hw.1⟩
set_option maxHeartbeats 8000000 in
theorem lawReadBank (s : ByteArray) (hm : s.size ≤ maxLen) (w : World) (g : Glo w) : Calls Tryz.prog 3 #[.string s] w fun e w' => e = .returned (.bool true) ∧ Below w.heap.size w w' := by
  by_cases hs : s.size ≤ 1048576
  rotate_left
  · have hs' : 1048576 < s.size := by omega
    unfold maxLen at hm
    go_enter Tryz.func3, Tryz.ntmps3
    go_wp2
    go_ret
    exact ⟨rfl, Below.refl _ _⟩
  obtain ⟨k, L, O, n1, n2, b, hlen, hone⟩ := wout_one s
  have HLEN : Hid (L.length = n1 ∧ O.length = n2 ∧ L.length ≤ 12 ∧ O.length ≤ 8) := hlen
  have CS : Hid (∀ w, Calls Tryz.prog 4 #[.string s] w fun e w' => ∃ (a1 : Option Addr) (c1 : Nat) (b1 : Option Addr) (d1 : Nat), e = .returned (.tuple #[.agg #[.int .i64 k.day, (.slice a1 n1 c1), (.slice b1 n2 d1), .int .i64 k.inn, .int .i64 k.out, .int .i64 k.posted, .int .i64 k.missed], .bool b]) ∧ AL w' w.heap.size (.slice a1 n1 c1) L ∧ OrdL w' w.heap.size (.slice b1 n2 d1) O ∧ Below w.heap.size w w') := fun w => (specReadW s hs w).mono fun e w' h => hone w e w' h
  have CI : Hid (∀ w, Glo w → Calls Tryz.prog 5 #[.string s] w fun e w' => ∃ (a1 : Option Addr) (c1 : Nat) (b1 : Option Addr) (d1 : Nat), e = .returned (.tuple #[.agg #[.int .i64 k.day, (.slice a1 n1 c1), (.slice b1 n2 d1), .int .i64 k.inn, .int .i64 k.out, .int .i64 k.posted, .int .i64 k.missed], .bool b]) ∧ AL w' w.heap.size (.slice a1 n1 c1) L ∧ OrdL w' w.heap.size (.slice b1 n2 d1) O ∧ Below w.heap.size w w') := fun w g => (implReadW s hs w g).mono fun e w' h => hone w e w' h
  obtain ⟨mm, hmm⟩ : ∃ mm : Int, 1 + 8 * (L.length : Int) + 7 * (O.length : Int) = mm := ⟨_, rfl⟩
  have hm0 : decide (mm < 0) = false := by simp; omega
  have hm1 : (mm != mm) = false := by simp
  have hm2 : ¬ mm < 0 := by omega
  have CM : Hid (∀ (B : Nat) (v u : Value) (w : World), AL w B v L → OrdL w B u O → Calls Tryz.prog 7 #[.agg #[.int .i64 k.day, v, u, .int .i64 k.inn, .int .i64 k.out, .int .i64 k.posted, .int .i64 k.missed], .int .i64 1] w fun e w' => e = .returned (.int .i64 mm) ∧ (∃ M P, M.length = L.length ∧ P.length = O.length ∧ MarkedAcc 1 M.length M ∧ MarkedOrd (1 + 8 * (M.length : Int)) P.length P ∧ AL w' B v M ∧ OrdL w' B u P) ∧ ∃ wm, w.grownBy wm v.ownBlock ∧ wm.grownBy w' u.ownBlock) := fun B v u w h1 h2 => by
    have hl := HLEN.out
    refine (markBankOwn B B v u L O k w (by omega) (by omega) h1 h2 (fun q hq => (World.ownsRow.lt h1 q hq).2)).mono ?_
    rintro e w' ⟨rfl, ⟨M, m1, m2, m3⟩, ⟨P, p1, p2, p3⟩, hw⟩
    exact ⟨by rw [hmm], ⟨M, P, m1, p1, m2, by rw [m1]; exact p2, m3, p3⟩, hw⟩
  have CH : Hid (∀ (B : Nat) (v u : Value) (w : World) (M : List Acc) (P : List Ord), (M.length = L.length ∧ P.length = O.length ∧ MarkedAcc 1 M.length M ∧ MarkedOrd (1 + 8 * (M.length : Int)) P.length P) → AL w B v M → OrdL w B u P → Calls Tryz.prog 8 #[.agg #[.int .i64 k.day, v, u, .int .i64 k.inn, .int .i64 k.out, .int .i64 k.posted, .int .i64 k.missed], .int .i64 1] w fun e w' => e = .returned (.int .i64 mm) ∧ Below w.heap.size w w') := fun B v u w M P hM h1 h2 => by
    have hl := HLEN.out
    refine (heldBank B B v u M P k w (by omega) (by omega) h1 h2 hM.2.2.1 hM.2.2.2).mono ?_
    rintro e w' ⟨rfl, hw⟩
    exact ⟨by rw [hM.1, hM.2.1, hmm], hw⟩
  have HG : Hid (Glo w) := g
  obtain ⟨h, hh⟩ : ∃ h, w.heap.size = h := ⟨_, rfl⟩
  have HH : Hid (w.heap.size = h) := hh
  have bb : (b != b) = false := by simp
  clear hone g hm hlen hmm hh
  go_enter Tryz.func3, Tryz.ntmps3
  go_wp2_with fail
  refine (CS.out _).mono ?_
  rintro e w1 ⟨a1, c1, b1, d1, rfl, A1, O1, B1⟩
  obtain ⟨V1, hV1, X1⟩ : ∃ V, V = w1.alloc (.cells #[.int .i64 k.day, (.slice a1 n1 c1), (.slice b1 n2 d1), .int .i64 k.inn, .int .i64 k.out, .int .i64 k.posted, .int .i64 k.missed] 25) ∧ Hid (Bkx V w1.heap.size h (.slice a1 n1 c1) (.slice b1 n2 d1) k L O ∧ Below h w V) := ⟨_, rfl, by rw [← HH.out]; exact Bkx.new A1 O1, by rw [← HH.out]; exact B1.alloc B1.size _⟩
  have HV1 : Hid (V1 = _) := hV1
  clear hV1 A1 O1 B1
  go_wp2_with fail
  rw [← HV1.out]
  clear HV1
  have G1 : Hid (Glo V1) := HG.out.below (by rw [HH.out]; exact X1.out.2)
  obtain ⟨r1, hr1⟩ : ∃ r, w1.heap.size = r := ⟨_, rfl⟩
  rw [hr1] at X1
  try rw [hr1]
  refine (CI.out _ G1.out).mono ?_
  rintro e w2 ⟨a2, c2, b2, d2, rfl, A2, O2, B2⟩
  obtain ⟨V2, hV2, X2⟩ : ∃ V, V = w2.alloc (.cells #[.int .i64 k.day, (.slice a2 n1 c2), (.slice b2 n2 d2), .int .i64 k.inn, .int .i64 k.out, .int .i64 k.posted, .int .i64 k.missed] 25) ∧ Hid (Bkx V w2.heap.size V1.heap.size (.slice a2 n1 c2) (.slice b2 n2 d2) k L O ∧ Bkx V r1 h (.slice a1 n1 c1) (.slice b1 n2 d1) k L O ∧ Below h w V ∧ (h ≤ V1.heap.size ∧ V1.heap.size ≤ w2.heap.size ∧ r1 < V1.heap.size) ∧ (∀ q, (Value.slice a2 n1 c2).ownBlock = some q → V1.heap.size ≤ q ∧ q < w2.heap.size) ∧ (∀ q, (Value.slice b2 n2 d2).ownBlock = some q → V1.heap.size ≤ q ∧ q < w2.heap.size) ∧ (∀ q, (Value.slice a1 n1 c1).ownBlock = some q → q < V1.heap.size) ∧ (∀ q, (Value.slice b1 n2 d1).ownBlock = some q → q < V1.heap.size)) := by
    have hb : Below w2.heap.size w2 (w2.alloc (.cells #[.int .i64 k.day, (.slice a2 n1 c2), (.slice b2 n2 d2), .int .i64 k.inn, .int .i64 k.out, .int .i64 k.posted, .int .i64 k.missed] 25)) := (Below.refl _ _).alloc (Nat.le_refl _) _
    have x2 : Below h w w2 := X1.out.2.trans (B2.mono (by have := X1.out.2.size; rw [HH.out] at this; exact this))
    have x3 : Below h w (w2.alloc (.cells #[.int .i64 k.day, (.slice a2 n1 c2), (.slice b2 n2 d2), .int .i64 k.inn, .int .i64 k.out, .int .i64 k.posted, .int .i64 k.missed] 25)) := x2.trans (hb.mono (by have := x2.size; rw [HH.out] at this; exact this))
    exact ⟨_, rfl, Bkx.new A2 O2, (X1.out.1.below B2).below hb, x3, ⟨by have := X1.out.2.size; rw [HH.out] at this; exact this, B2.size, X1.out.1.1.2.2⟩, fun q hq => World.ownsRow.lt A2 q hq, fun q hq => World.ownsRow.lt O2 q hq, fun q hq => (World.ownsRow.lt X1.out.1.2.1 q hq).2, fun q hq => (World.ownsRow.lt X1.out.1.2.2 q hq).2⟩
  have HV2 : Hid (V2 = _) := hV2
  clear hV2 A2 O2 B2 G1
  go_upto_region 5 with fail
  rw [← HV2.out]
  try rw [hr1]
  obtain ⟨r2, hr2⟩ : ∃ r, w2.heap.size = r := ⟨_, rfl⟩
  rw [hr2] at X2 ⊢
  clear HV2 hr1 hr2 X1
  obtain ⟨g, hgg⟩ : ∃ g, V1.heap.size = g := ⟨_, rfl⟩
  rw [hgg] at X2
  clear hgg
  have ORD : Hid ((h ≤ g ∧ g ≤ r2 ∧ r1 < g) ∧ (∀ q, (Value.slice a2 n1 c2).ownBlock = some q → g ≤ q ∧ q < r2) ∧ (∀ q, (Value.slice b2 n2 d2).ownBlock = some q → g ≤ q ∧ q < r2) ∧ (∀ q, (Value.slice a1 n1 c1).ownBlock = some q → q < g) ∧ (∀ q, (Value.slice b1 n2 d1).ownBlock = some q → q < g)) := ⟨X2.out.2.2.2.1, X2.out.2.2.2.2.1, X2.out.2.2.2.2.2.1, X2.out.2.2.2.2.2.2.1, X2.out.2.2.2.2.2.2.2⟩
  obtain ⟨⟨x0, x1, x2, x3, x4, x5, x6⟩, xf, xz⟩ := X2.out.1.1
  obtain ⟨⟨y0, y1, y2, y3, y4, y5, y6⟩, yf, yz⟩ := X2.out.2.1.1
  go_wp2_with fail
  refine (eqBankL k V2 HLEN.out.2.2.1 HLEN.out.2.2.2 X2.out.1.2.1 X2.out.1.2.2 X2.out.2.1.2.1 X2.out.2.1.2.2).mono ?_
  rintro e w3 ⟨rfl, B3⟩
  have LEB : Hid (∀ {V W : World}, Below h w V → Below V.heap.size V W → Below h w W) := fun {V W} p q => p.trans (q.mono (by have := p.size; rw [HH.out] at this; exact this))
  have X3 : Hid (Bkx w3 r2 g (.slice a2 n1 c2) (.slice b2 n2 d2) k L O ∧ Bkx w3 r1 h (.slice a1 n1 c1) (.slice b1 n2 d1) k L O ∧ Below h w w3) := ⟨X2.out.1.below B3, X2.out.2.1.below B3, LEB.out X2.out.2.2.1 B3⟩
  clear B3 X2
  clear x0 x1 x2 x3 x4 x5 x6 xf xz y0 y1 y2 y3 y4 y5 y6 yf yz
  obtain ⟨⟨x0, x1, x2, x3, x4, x5, x6⟩, xf, xz⟩ := X3.out.1.1
  go_wp2_with fail
  refine (CM.out g (.slice a2 n1 c2) (.slice b2 n2 d2) w3 X3.out.1.2.1 X3.out.1.2.2).mono ?_
  rintro e w4 ⟨rfl, ⟨M, P, m1, m2, m3, m4, A4, O4⟩, wm, G1, G2⟩
  have HM : Hid (M.length = L.length ∧ P.length = O.length ∧ MarkedAcc 1 M.length M ∧ MarkedOrd (1 + 8 * (M.length : Int)) P.length P) := ⟨m1, m2, m3, m4⟩
  have X4 : Hid (Bkx w4 r2 g (.slice a2 n1 c2) (.slice b2 n2 d2) k M P ∧ Bkx w4 r1 h (.slice a1 n1 c1) (.slice b1 n2 d1) k L O ∧ Below h w w4) := by
    obtain ⟨⟨o1, o2, o3⟩, q2, p2, q1, p1⟩ := ORD.out
    have hW : h ≤ w.heap.size := by rw [HH.out]; exact Nat.le_refl _
    refine ⟨⟨(X3.out.1.1.same (G1.block r2 X3.out.1.1.2.2 (fun e => by have := q2 r2 e.symm; omega))).same (G2.block r2 (Nat.lt_of_lt_of_le X3.out.1.1.2.2 G1.size) (fun e => by have := p2 r2 e.symm; omega)), A4, O4⟩, (X3.out.2.1.grown G1 (fun e => by have := q2 r1 e; omega) (fun x hx e => by have := q1 x hx; have := q2 x e; omega) (fun x hx e => by have := p1 x hx; have := q2 x e; omega)).grown G2 (fun e => by have := p2 r1 e; omega) (fun x hx e => by have := q1 x hx; have := p2 x e; omega) (fun x hx e => by have := p1 x hx; have := p2 x e; omega), ?_⟩
    exact below_grown (below_grown X3.out.2.2 hW G1 (fun x e => by have := q2 x e; omega)) hW G2 (fun x e => by have := p2 x e; omega)
  clear m1 m2 m3 m4 A4 O4 G1 G2 X3
  clear x0 x1 x2 x3 x4 x5 x6 xf xz
  obtain ⟨⟨x0, x1, x2, x3, x4, x5, x6⟩, xf, xz⟩ := X4.out.1.1
  go_wp2_with fail
  refine (CH.out g (.slice a2 n1 c2) (.slice b2 n2 d2) w4 M P HM.out X4.out.1.2.1 X4.out.1.2.2).mono ?_
  rintro e w5 ⟨rfl, B5⟩
  have X5 : Hid (Bkx w5 r2 g (.slice a2 n1 c2) (.slice b2 n2 d2) k M P ∧ Bkx w5 r1 h (.slice a1 n1 c1) (.slice b1 n2 d1) k L O ∧ Below h w w5) := ⟨X4.out.1.below B5, X4.out.2.1.below B5, LEB.out X4.out.2.2 B5⟩
  clear B5 X4
  clear x0 x1 x2 x3 x4 x5 x6 xf xz
  go_wp2_with fail
  refine (CI.out _ (HG.out.below (by rw [HH.out]; exact X5.out.2.2))).mono ?_
  rintro e w6 ⟨a3, c3, b3, d3, rfl, A6, O6, B6⟩
  obtain ⟨V6, hV6, X6⟩ : ∃ V, V = w6.alloc (.cells #[.int .i64 k.day, (.slice a3 n1 c3), (.slice b3 n2 d3), .int .i64 k.inn, .int .i64 k.out, .int .i64 k.posted, .int .i64 k.missed] 25) ∧ Hid (Bkx V w6.heap.size w5.heap.size (.slice a3 n1 c3) (.slice b3 n2 d3) k L O ∧ Bkx V r2 g (.slice a2 n1 c2) (.slice b2 n2 d2) k M P ∧ Bkx V r1 h (.slice a1 n1 c1) (.slice b1 n2 d1) k L O ∧ Below h w V) := by
    have hb : Below w6.heap.size w6 (w6.alloc (.cells #[.int .i64 k.day, (.slice a3 n1 c3), (.slice b3 n2 d3), .int .i64 k.inn, .int .i64 k.out, .int .i64 k.posted, .int .i64 k.missed] 25)) := (Below.refl _ _).alloc (Nat.le_refl _) _
    exact ⟨_, rfl, Bkx.new A6 O6, (X5.out.1.below B6).below hb, (X5.out.2.1.below B6).below hb, LEB.out (LEB.out X5.out.2.2 B6) hb⟩
  have HV6 : Hid (V6 = _) := hV6
  clear hV6 A6 O6 B6 X5
  go_upto_region 16 with fail
  rw [← HV6.out]
  obtain ⟨r3, hr3⟩ : ∃ r, w6.heap.size = r := ⟨_, rfl⟩
  rw [hr3] at X6 ⊢
  clear HV6 hr3
  obtain ⟨⟨x0, x1, x2, x3, x4, x5, x6⟩, xf, xz⟩ := X6.out.1.1
  obtain ⟨⟨y0, y1, y2, y3, y4, y5, y6⟩, yf, yz⟩ := X6.out.2.2.1.1
  go_wp2_with fail
  refine (eqBankL k V6 HLEN.out.2.2.1 HLEN.out.2.2.2 X6.out.1.2.1 X6.out.1.2.2 X6.out.2.2.1.2.1 X6.out.2.2.1.2.2).mono ?_
  rintro e w7 ⟨rfl, B7⟩
  have X7 : Hid (Bkx w7 r2 g (.slice a2 n1 c2) (.slice b2 n2 d2) k M P ∧ Below h w w7) := ⟨X6.out.2.1.below B7, LEB.out X6.out.2.2.2 B7⟩
  clear B7 X6
  clear x0 x1 x2 x3 x4 x5 x6 xf xz y0 y1 y2 y3 y4 y5 y6 yf yz
  obtain ⟨⟨x0, x1, x2, x3, x4, x5, x6⟩, xf, xz⟩ := X7.out.1.1
  go_wp2_with fail
  refine (CH.out g (.slice a2 n1 c2) (.slice b2 n2 d2) w7 M P HM.out X7.out.1.2.1 X7.out.1.2.2).mono ?_
  rintro e w8 ⟨rfl, B8⟩
  have FI : Hid (Below h w w8) := LEB.out X7.out.2 B8
  clear B8 X7
  clear x0 x1 x2 x3 x4 x5 x6 xf xz
  go_wp2
  go_ret
  exact ⟨rfl, by rw [HH.out]; exact FI.out⟩
end Go.Proofs.YtedhlmipcfdldaaGreatDoor
