/- The program's look whether an account is on a path, and whether one on a path has too little. Conditions: the accounts lie in memory and are a right forest; the package's errors lie as they were laid. -/
import Derived.Test.YthkgppfgidlicaaGreatDoorErrs
import Derived.Test.YthkgppfgidlicaaGreatDoorChB
import Derived.Test.YthkgppfgidlicaaGreatDoorLists
import Derived.Shelf.Abstract
namespace Go.Proofs.YthkgppfgidlicaaGreatDoor
open Go.RowKit

/-- The first place of an account that is as asked, -1: none is. -/
def idxOf (pr : Acc → Bool) (P : List Acc) : Int := match P.findIdx? pr with | some i => i | none => -1

theorem idxOf_hit {pr : Acc → Bool} {P : List Acc} {k : Nat} (hk : k < P.length) (hp : pr (FL P k) = true) (hno : ∀ j, j < k → pr (FL P j) = false) : idxOf pr P = (k : Int) := by
  have : P.findIdx? pr = some k := by
    rw [List.findIdx?_eq_some_iff_getElem]
    refine ⟨hk, by rw [← FL_lt hk]; exact hp, fun j hj => ?_⟩
    rw [← FL_lt (show j < P.length by omega), hno j hj]
    simp
  simp [idxOf, this]
theorem idxOf_miss {pr : Acc → Bool} {P : List Acc} (hno : ∀ j, j < P.length → pr (FL P j) = false) : idxOf pr P = -1 := by
  have : P.findIdx? pr = none := by
    rw [List.findIdx?_eq_none_iff]
    intro x hx
    obtain ⟨j, hj, rfl⟩ := List.getElem_of_mem hx
    rw [← FL_lt hj]
    exact hno j hj
  simp [idxOf, this]

set_option maxRecDepth 8000 in
set_option maxHeartbeats 1000000 in
theorem indexFunc (a : Option Addr) (c : Nat) (P : List Acc) (g : Nat) (lb : Array Value) (pr : Acc → Bool) (w : World) (h : Fo w a P.length (FL P)) (entered : ∀ args w, (callFunc g args).run Tryz.prog w = .ok (.enter g args) w)
    (hc : ∀ x W, Below w.heap.size w W → Calls Tryz.prog g (#[.agg #[.int .i64 x.id, .int .i64 x.up, .int .i64 x.limit, .int .i64 x.rate, .int .i64 x.target, .bool x.frozen, .int .i64 x.balance, .int .i64 x.carry]] ++ lb) W fun e w' => e = .returned (.bool (pr x)) ∧ Below W.heap.size W w') :
    Calls Tryz.prog 82 #[.slice a P.length c, .func (.func g) #[] lb] w fun e w' => e = .returned (.int .i64 (idxOf pr P)) ∧ Below w.heap.size w w' := by
  have H : Hid (Fo w a P.length (FL P)) := h
  have hn := h.1
  have HC : Hid (∀ x W, Below w.heap.size w W → Calls Tryz.prog g (#[.agg #[.int .i64 x.id, .int .i64 x.up, .int .i64 x.limit, .int .i64 x.rate, .int .i64 x.target, .bool x.frozen, .int .i64 x.balance, .int .i64 x.carry]] ++ lb) W fun e w' => e = .returned (.bool (pr x)) ∧ Below W.heap.size W w') := hc
  clear h hc
  go_enter Tryz.func82, Tryz.ntmps82
  go_wp2
  go_loopw [8] (fun i wr => ∃ k : Nat, k ≤ P.length ∧ i = .int .i64 k ∧ Hid (∀ j, j < k → pr (FL P j) = false) ∧ Hid (Below w.heap.size w wr)) (fun i _ => P.length - (intOf i).toNat)
  case atStart => exact ⟨0, Nat.zero_le _, rfl, fun j hj => absurd hj (Nat.not_lt_zero _), Below.refl _ _⟩
  case round =>
    obtain ⟨k, hk, rfl, hno, hB⟩ := hrel
    by_cases hlt : k < P.length
    · obtain ⟨b, q, rfl, hb, hA⟩ := (H.out.below hB.out).acc hlt
      obtain ⟨c0, c1, c2, c3, c4, c5, c6, c7⟩ := hA
      cases hpr : pr (FL P k) with
      | true =>
        have E : Hid (idxOf pr P = (k : Int)) := idxOf_hit hlt hpr hno.out
        have HK : Hid (∀ W, Below w.heap.size w W → Calls Tryz.prog g (#[.agg #[.int .i64 (FL P k).id, .int .i64 (FL P k).up, .int .i64 (FL P k).limit, .int .i64 (FL P k).rate, .int .i64 (FL P k).target, .bool (FL P k).frozen, .int .i64 (FL P k).balance, .int .i64 (FL P k).carry]] ++ lb) W fun e w' => e = .returned (.bool true) ∧ Below W.heap.size W w') := fun W hW => by rw [← hpr]; exact HC.out (FL P k) W hW
        clear hpr
        go_wp2_with fail
        refine (HK.out _ hB.out).mono ?_
        rintro e w1 ⟨rfl, B1⟩
        have B1' : Hid (Below w.heap.size w w1) := hB.out.trans (B1.mono hB.out.size)
        clear B1
        go_wp2
        go_ret
        rw [E.out]
        exact ⟨rfl, B1'.out⟩
      | false =>
        have HN : Hid (∀ j, j < k + 1 → pr (FL P j) = false) := fun j hj => by
          by_cases e : j = k
          · subst e; exact hpr
          · exact hno.out j (by omega)
        have HK : Hid (∀ W, Below w.heap.size w W → Calls Tryz.prog g (#[.agg #[.int .i64 (FL P k).id, .int .i64 (FL P k).up, .int .i64 (FL P k).limit, .int .i64 (FL P k).rate, .int .i64 (FL P k).target, .bool (FL P k).frozen, .int .i64 (FL P k).balance, .int .i64 (FL P k).carry]] ++ lb) W fun e w' => e = .returned (.bool false) ∧ Below W.heap.size W w') := fun W hW => by rw [← hpr]; exact HC.out (FL P k) W hW
        clear hpr
        go_wp2_with fail
        refine (HK.out _ hB.out).mono ?_
        rintro e w1 ⟨rfl, B1⟩
        have B1' : Hid (Below w.heap.size w w1) := hB.out.trans (B1.mono hB.out.size)
        clear B1
        go_wp2
        go_roundw
        case rel => exact ⟨k + 1, by omega, by go_num, HN, B1'⟩
        case measure => simp [intOf]; omega
    · have hkn : k = P.length := by omega
      have E : Hid (idxOf pr P = -1) := idxOf_miss (fun j hj => hno.out j (by omega))
      go_wp2
      go_ret
      rw [E.out]
      exact ⟨rfl, hB.out⟩

theorem containsFunc (a : Option Addr) (c : Nat) (P : List Acc) (g : Nat) (lb : Array Value) (pr : Acc → Bool) (w : World) (h : Fo w a P.length (FL P)) (entered : ∀ args w, (callFunc g args).run Tryz.prog w = .ok (.enter g args) w)
    (hc : ∀ x W, Below w.heap.size w W → Calls Tryz.prog g (#[.agg #[.int .i64 x.id, .int .i64 x.up, .int .i64 x.limit, .int .i64 x.rate, .int .i64 x.target, .bool x.frozen, .int .i64 x.balance, .int .i64 x.carry]] ++ lb) W fun e w' => e = .returned (.bool (pr x)) ∧ Below W.heap.size W w') :
    Calls Tryz.prog 131 #[.slice a P.length c, .func (.func g) #[] lb] w fun e w' => Tells e (0 ≤ idxOf pr P) ∧ Below w.heap.size w w' := by
  obtain ⟨v, hve⟩ : ∃ v, v = idxOf pr P := ⟨_, rfl⟩
  have IX : Hid (Calls Tryz.prog 82 #[.slice a P.length c, .func (.func g) #[] lb] w fun e w' => e = .returned (.int .i64 v) ∧ Below w.heap.size w w') := by rw [hve]; exact indexFunc a c P g lb pr w h entered hc
  have HV : Hid (v = idxOf pr P) := hve
  clear h entered hc hve
  go_enter Tryz.func131, Tryz.ntmps131
  go_wp2_with fail
  refine IX.out.mono ?_
  rintro e w1 ⟨rfl, B1⟩
  have B1' : Hid (Below w.heap.size w w1) := B1
  clear B1
  by_cases hv : 0 ≤ v
  · have hd : decide (0 ≤ v) = true := decide_eq_true hv
    go_wp2
    go_ret
    exact ⟨Tells.yes (by rw [← HV.out]; exact hv), B1'.out⟩
  · have hv' : v < 0 := by omega
    have hd : decide (0 ≤ v) = false := decide_eq_false hv
    go_wp2
    go_ret
    exact ⟨Tells.no (by rw [← HV.out]; omega), B1'.out⟩

theorem onPath1 (x : Acc) (id : Int) (B : Nat) (w : World) (h : w.cell? ⟨B, 0, none⟩ = some (.int .i64 id)) (hB : B < w.heap.size) :
    Calls Tryz.prog 132 #[.agg #[.int .i64 x.id, .int .i64 x.up, .int .i64 x.limit, .int .i64 x.rate, .int .i64 x.target, .bool x.frozen, .int .i64 x.balance, .int .i64 x.carry], .pointer (some ⟨B, 0, none⟩)] w fun e w' => e = .returned (.bool (x.id == id)) ∧ Below w.heap.size w w' := by
  have hne : ¬ w.heap.size = B := by omega
  have hne' : ¬ B = w.heap.size := by omega
  go_enter Tryz.func132, Tryz.ntmps132
  go_wp2
  go_ret
  exact ⟨rfl, (Below.refl _ _).alloc (Nat.le_refl _) _⟩

theorem idxOf_id (P : List Acc) (l : List Int) (id : Int) (hl : P.map (·.id) = l) : 0 ≤ idxOf (fun x => x.id == id) P ↔ id ∈ l := by
  subst hl
  unfold idxOf
  cases hf : P.findIdx? (fun x => x.id == id) with
  | none =>
    have := List.findIdx?_eq_none_iff.1 hf
    simp only [List.mem_map]
    constructor
    · intro h; omega
    · rintro ⟨x, hx, e⟩
      have := this x hx
      simp [e] at this
  | some i =>
    obtain ⟨hi, hp, _⟩ := List.findIdx?_eq_some_iff_getElem.1 hf
    constructor
    · intro _
      exact List.mem_map.2 ⟨P[i], List.getElem_mem _, by simpa using hp⟩
    · intro _; simp

set_option maxRecDepth 8000 in
set_option maxHeartbeats 1000000 in
theorem onPath_b (a : Option Addr) (n c : Nat) (F : Nat → Acc) (id to : Int) (l : List Int) (w : World) (h : Fo w a n F) (hR : Right F n) (hl : chain F n n to = some l) :
    Calls Tryz.prog 130 #[.slice a n c, .int .i64 id, .int .i64 to] w fun e w' => Tells e (id ∈ l) ∧ Below w.heap.size w w' := by
  have H : Hid (Fo w a n F) := h
  have HR : Hid (Right F n) := hR
  have HL : Hid (chain F n n to = some l) := hl
  have hn12 := hR.1
  have X0 : Hid ((w.alloc (.cells #[.int .i64 id] 2)).cell? ⟨w.heap.size, 0, none⟩ = some (.int .i64 id)) := (by simp [go_sem] : (w.alloc (.cells #[.int .i64 id] 2)).cell? ⟨w.heap.size, 0, none⟩ = some (.int .i64 id))
  clear h hR hl
  go_enter Tryz.func130, Tryz.ntmps130
  go_wp2_with fail
  refine (implPathFrom a n c F to l _ (H.out.alloc _) HR.out HL.out).mono ?_
  rintro e w1 ⟨v, P, rfl, A1, hP, hPn, B1⟩
  obtain ⟨av, cv, hv, _, _⟩ := A1.shape
  subst hv
  have hz : w.heap.size < w1.heap.size := Nat.lt_of_lt_of_le (by simp) B1.size
  have X1 : Hid (w1.cell? ⟨w.heap.size, 0, none⟩ = some (.int .i64 id)) := by
    show w1.cell? ⟨w.heap.size, 0, none⟩ = some (.int .i64 id)
    rw [B1.cell (p := ⟨w.heap.size, 0, none⟩) (by simp)]; exact X0.out
  have B1' : Hid (Below w.heap.size w w1) := ((Below.refl _ _).alloc (Nat.le_refl _) _).trans (B1.mono (by simp))
  have FP : Hid (Fo w1 av P.length (FL P)) := (A1.fo (by omega)).2
  have HI : Hid (0 ≤ idxOf (fun x => x.id == id) P ↔ id ∈ l) := idxOf_id P l id hP
  clear B1 A1 X0 hP
  have CF := containsFunc av cv P 132 #[.pointer (some ⟨w.heap.size, 0, none⟩)] (fun x => x.id == id) w1 FP.out (enters_of Tryz.func132 (by kernel_rfl) rfl) (fun x W hW => onPath1 x id w.heap.size W (by rw [hW.cell (p := ⟨w.heap.size, 0, none⟩) hz]; exact X1.out) (Nat.lt_of_lt_of_le hz hW.size))
  have HCF : Hid (Calls Tryz.prog 131 #[.slice av P.length cv, .func (.func 132) #[] #[.pointer (some ⟨w.heap.size, 0, none⟩)]] w1 fun e w' => Tells e (0 ≤ idxOf (fun x => x.id == id) P) ∧ Below w1.heap.size w1 w') := CF
  clear CF
  go_wp2_with fail
  refine HCF.out.mono ?_
  rintro e w2 ⟨⟨bo, rfl, h1, h2⟩, B2⟩
  have T : Hid (Tells (.returned (.bool bo)) (id ∈ l)) := ⟨bo, rfl, fun e => HI.out.1 (h1 e), fun e hh => h2 e (HI.out.2 hh)⟩
  have B2' : Hid (Below w.heap.size w w2) := B1'.out.trans (B2.mono B1'.out.size)
  clear B2 h1 h2
  go_wp2
  go_ret
  exact ⟨T.out, B2'.out⟩
end Go.Proofs.YthkgppfgidlicaaGreatDoor
