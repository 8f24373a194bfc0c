/- Laws' helpers for strings: a comparison, marks, what is held. Conditions: at most 1048576 of them. -/
import Derived.Test.YthmmlcmeaokdnaaTakS
namespace Go.Proofs.Ythmmlcmeaokdnaa
open Go.RowKit

def emp : ByteArray := ⟨#[]⟩
theorem SL.cells {w : World} {B : Nat} {v : Value} {l : List ByteArray} (h : SL w B v l) : ∃ a cap, v = .slice a l.length cap ∧
    ∀ i, i < l.length → ∃ g, a = some ⟨g, 0, none⟩ ∧ v.ownBlock = some g ∧ B ≤ g ∧ g < w.heap.size ∧ w.cell? ⟨g, i, none⟩ = some (.string (l.getD i emp)) ∧ w.frozen? ⟨g, i, none⟩ = false := by
  have hlt := World.ownsRow.lt h
  rcases h.2 with ⟨hv, hn⟩ | ⟨g, cap, cur, hv, hg, r⟩
  · exact ⟨none, 0, by rw [hv, hn], fun i hi => by omega⟩
  · refine ⟨some ⟨g, 0, none⟩, cap, hv, fun i hi => ?_⟩
    have ho : v.ownBlock = some g := by rw [hv]; rfl
    have hs : w.ownsRow B 9 1 (.slice (some ⟨g, 0, none⟩) l.length cap) l.length (l.map Value.string) := by rw [← hv]; exact h
    have hc := World.ownsRow.cellAt hs i (by omega)
    refine ⟨g, rfl, ho, hg, (hlt g ho).2, ?_, World.ownsRow.frozenAt hs i⟩
    rw [hc]
    simp [List.getD, List.getElem?_eq_getElem hi]

set_option maxHeartbeats 1000000 in
theorem eqS_same (B1 B2 : Nat) (v1 v2 : Value) (l : List ByteArray) (w : World) (hl : l.length ≤ 1048576) (h1 : SL w B1 v1 l) (h2 : SL w B2 v2 l) :
    Calls Try.prog 14 #[v1, v2] w fun e w' => e = .returned (.bool true) ∧ Below w.heap.size w w' := by
  obtain ⟨a1, m1, rfl, s1⟩ := h1.cells
  obtain ⟨a2, m2, rfl, s2⟩ := h2.cells
  have S1 : Hid (∀ i, i < l.length → ∃ g, a1 = some ⟨g, 0, none⟩ ∧ w.cell? ⟨g, i, none⟩ = some (.string (l.getD i emp))) := fun i hi => by obtain ⟨g, e, _, _, _, hc, _⟩ := s1 i hi; exact ⟨g, e, hc⟩
  have S2 : Hid (∀ i, i < l.length → ∃ g, a2 = some ⟨g, 0, none⟩ ∧ w.cell? ⟨g, i, none⟩ = some (.string (l.getD i emp))) := fun i hi => by obtain ⟨g, e, _, _, _, hc, _⟩ := s2 i hi; exact ⟨g, e, hc⟩
  clear s1 s2 h1 h2
  generalize hn : l.length = n at *
  go_enter Try.func14, Try.ntmps14
  go_wp2
  go_loopw [5] (fun i wr => ∃ (k q : Nat), k ≤ n ∧ i = .int .i64 k ∧ wr = w.drewN q) (fun i _ => n - (intOf i).toNat)
  case atStart => exact ⟨0, 0, Nat.zero_le _, rfl, rfl⟩
  case round =>
    obtain ⟨k, q, hk, rfl, rfl⟩ := hrel
    by_cases hlt : k < n
    · obtain ⟨g, rfl, c1⟩ := S1.out k hlt
      obtain ⟨g', rfl, c2⟩ := S2.out k hlt
      generalize l.getD k emp = z at c1 c2
      have hk0 : (k : Int) < (n : Int) := by omega
      go_wp2
      go_quiet (fail)
      go_wp2
      go_roundw
      case rel => exact ⟨k + 1, _, by omega, by go_num, rfl⟩
      case measure => simp [intOf]; omega
    · go_wp2
      go_ret
      exact ⟨rfl, below_drewQ (Below.refl _ _) _⟩

/-- The digits of a number ahead of what is there. -/
def digs : Nat → Nat → ByteArray → ByteArray
  | 0, _, o => o
  | f + 1, k, o => if k = 0 then o else digs f (k / 10) (⟨#[byteOf ((48 : Int) + (k : Int) % 10)]⟩ ++ o)
theorem digs_zero (f : Nat) (o : ByteArray) : digs f 0 o = o := by cases f <;> simp [digs]
def markT (k : Nat) : ByteArray := ⟨#[109]⟩ ++ digs k k ⟨#[]⟩
theorem conv1_new (w : World) {a : Int} (h : 0 ≤ a ∧ a < 256) :
    Sem.run Try.prog (convert 22 9 (.slice (some ⟨w.heap.size, 0, none⟩) 1 1)) (w.alloc (.cells #[.int .u8 a] 5)) = .ok (.string ⟨#[byteOf a]⟩) (w.alloc (.cells #[.int .u8 a] 5)) :=
  conv_at (w.alloc (.cells #[.int .u8 a] 5)) w.heap.size [a] (fun z hz => by simp at hz; subst hz; exact h) (fun j hj => cellNew w [a] j hj)

set_option maxHeartbeats 1000000 in
theorem markText (k : Nat) (w : World) (h1 : 1 ≤ k) (h2 : k ≤ 100000000) :
    Calls Try.prog 25 #[.int .i64 k] w fun e w' => e = .returned (.string (markT k)) ∧ Below w.heap.size w w' := by
  have h1' : ¬ (k : Int) ≤ 0 := by omega
  have B0 : Hid (Below w.heap.size w w) := Below.refl _ _
  go_enter Try.func25, Try.ntmps25
  go_wp2
  go_loopw [0, 3] (fun t o wr => ∃ (f m : Nat) (x : ByteArray), t = .int .i64 m ∧ o = .string x ∧ m ≤ f ∧ f ≤ k ∧ Hid (x.size + f ≤ 100000000) ∧ Hid (digs f m x = digs k k ⟨#[]⟩) ∧ Hid (Below w.heap.size w wr)) (fun t _ _ => (intOf t).toNat)
  case atStart => exact ⟨k, k, ⟨#[]⟩, rfl, rfl, Nat.le_refl _, Nat.le_refl _, (by rw [show (⟨#[]⟩ : ByteArray).size = 0 from rfl]; omega : (⟨#[]⟩ : ByteArray).size + k ≤ 100000000), rfl, B0⟩
  case round =>
    obtain ⟨f, m, x, rfl, rfl, hf, hfk, hx, hd, hB⟩ := hrel
    clear B0
    by_cases h0 : 0 < m
    · have h0' : (0 : Int) < (m : Int) := by omega
      obtain ⟨f', rfl⟩ : ∃ f', f = f' + 1 := ⟨f - 1, by omega⟩
      have HD : Hid (digs f' (m / 10) (⟨#[byteOf ((48 : Int) + (m : Int) % 10)]⟩ ++ x) = digs k k ⟨#[]⟩) := by
        have := hd.out
        rw [digs, if_neg (by omega)] at this
        exact this
      have hc := conv1_new wr (a := 48 + (m : Int) % 10) (by omega)
      have hxs := hx.out
      have hsz1 : (⟨#[byteOf ((48 : Int) + (m : Int) % 10)]⟩ : ByteArray).size = 1 := rfl
      have ha : ∀ W, (Op.stringOp .add ⟨#[byteOf ((48 : Int) + (m : Int) % 10)]⟩ x).run Try.prog W = .ok (.string (⟨#[byteOf ((48 : Int) + (m : Int) % 10)]⟩ ++ x)) W := fun W => run_string_add_sum W _ _ (by rw [hsz1]; omega)
      have HX : Hid ((⟨#[byteOf ((48 : Int) + (m : Int) % 10)]⟩ ++ x : ByteArray).size + f' ≤ 100000000) := (by rw [ByteArray.size_append, hsz1]; omega : (⟨#[byteOf ((48 : Int) + (m : Int) % 10)]⟩ ++ x : ByteArray).size + f' ≤ 100000000)
      have BB : Hid (Below w.heap.size w (wr.alloc (.cells #[.int .u8 (48 + (m : Int) % 10)] 5))) := hB.out.alloc hB.out.size _
      clear hd hx hsz1 hxs
      go_wp2
      go_roundw
      case rel => exact ⟨f', m / 10, _, by go_num, rfl, by omega, by omega, HX, HD, BB⟩
      case measure => simp [intOf]; omega
    · have hm0 : m = 0 := by omega
      subst hm0
      have hr := hd.out
      rw [digs_zero] at hr
      have hxs := hx.out
      have ha : ∀ W, (Op.stringOp .add ⟨#[109]⟩ x).run Try.prog W = .ok (.string (⟨#[109]⟩ ++ x)) W := fun W => run_string_add_sum W _ _ (by have : (⟨#[109]⟩ : ByteArray).size = 1 := rfl; rw [this]; omega)
      have HM : Hid (⟨#[109]⟩ ++ x = markT k) := by show ⟨#[109]⟩ ++ x = markT k; unfold markT; rw [hr]
      clear hr hd hx hxs
      go_wp2
      go_ret
      exact ⟨by rw [← HM.out]; rfl, hB.out⟩

theorem SL.stored {w : World} {B g cap : Nat} {l : List ByteArray} (h : SL w B (.slice (some ⟨g, 0, none⟩) l.length cap) l) (j : Nat) (x : ByteArray) :
    SL (w.setCell ⟨g, j, none⟩ (.string x)) B (.slice (some ⟨g, 0, none⟩) l.length cap) (l.set j x) ∧ w.grownBy (w.setCell ⟨g, j, none⟩ (.string x)) (some g) := by
  obtain ⟨h1, h2⟩ := World.ownsRow.stored h j (.string x)
  refine ⟨?_, h2⟩
  unfold SL
  rw [List.length_set, List.map_set]
  exact h1
def MarkS (n : Nat) (L : List ByteArray) : Prop := ∀ i, i < n → L.getD i emp = markT (1 + i)
theorem grown_transS {a b c : World} {row : Option Nat} (h : a.grownBy b row) (k : b.grownBy c row) : a.grownBy c row :=
  ⟨k.os.trans h.os, k.tape.trans h.tape, k.output.trans h.output, Nat.le_trans h.size k.size, fun q hq hn => (k.block q (Nat.lt_of_lt_of_le hq h.size) hn).trans (h.block q hq hn)⟩
theorem grown_belowS {a b : World} {row : Option Nat} (h : Below a.heap.size a b) : a.grownBy b row := ⟨h.os, h.tape, h.output, h.size, fun q hq _ => h.block q hq⟩

set_option maxHeartbeats 1000000 in
theorem markS (B : Nat) (v : Value) (l : List ByteArray) (w : World) (hl : l.length ≤ 1048576) (h : SL w B v l) :
    Calls Try.prog 15 #[v, .int .i64 1] w fun e w' => e = .returned (.int .i64 (1 + (l.length : Int))) ∧ (∃ L, L.length = l.length ∧ MarkS l.length L ∧ SL w' B v L) ∧ w.grownBy w' v.ownBlock := by
  obtain ⟨a, m, hv, sh⟩ := h.cells
  by_cases h0 : l.length = 0
  · have hl0 : l = [] := List.length_eq_zero_iff.1 h0
    subst hl0
    subst hv
    have H : Hid (SL w B (.slice a [].length m) []) := h
    clear h sh
    simp only [List.length_nil]
    go_enter Try.func15, Try.ntmps15
    go_wp2
    refine wp_loop_rounds 1 ?_
    rw [rounds_succ]
    go_wp2
    go_ret
    exact ⟨rfl, ⟨[], rfl, fun i hi => absurd hi (Nat.not_lt_zero _), H.out⟩, World.grownBy.refl _ _⟩
  · obtain ⟨g, rfl, _, hg1, hg2, _, _⟩ := sh 0 (by omega)
    subst hv
    have H : Hid (SL w B (.slice (some ⟨g, 0, none⟩) l.length m) l) := h
    clear h sh
    generalize hn : l.length = n at *
    have HN : Hid (l.length = n) := hn
    clear hn
    go_enter Try.func15, Try.ntmps15
    go_wp2
    go_loopw [1, 5] (fun t i wr => ∃ (k : Nat) (L : List ByteArray), k ≤ n ∧ i = .int .i64 k ∧ t = .int .i64 (((1 + k : Nat) : Int)) ∧ Hid (L.length = n) ∧ Hid (MarkS k L) ∧ Hid (SL wr B (.slice (some ⟨g, 0, none⟩) n m) L) ∧ Hid (w.grownBy wr (some g))) (fun _ i _ => n - (intOf i).toNat)
    case atStart => exact ⟨0, l, Nat.zero_le _, rfl, rfl, HN, fun i hi => absurd hi (Nat.not_lt_zero _), H, World.grownBy.refl _ _⟩
    case round =>
      obtain ⟨k, L, hk, rfl, rfl, hL, hM, hI, hG⟩ := hrel
      by_cases hlt : k < n
      · have hlt' : (k : Int) < (n : Int) := by omega
        have HT : Hid (∀ w, Calls Try.prog 25 #[.int .i64 ((1 + k : Nat) : Int)] w fun e w' => e = .returned (.string (markT (1 + k))) ∧ Below w.heap.size w w') := fun w => markText (1 + k) w (by omega) (by omega)
        go_wp2_with fail
        refine (HT.out _).mono ?_
        rintro e w1 ⟨rfl, B1⟩
        have hI1 : SL w1 B (.slice (some ⟨g, 0, none⟩) n m) L := hI.out.kept B1
        have GR1 : Hid (w.grownBy w1 (some g)) := grown_transS hG.out (grown_belowS B1)
        clear hI hG B1
        obtain ⟨a', m', e', sh⟩ := hI1.cells
        obtain ⟨g', ea, _, _, _, cc, cf⟩ := sh k (by rw [hL.out]; exact hlt)
        have eg : g = g' := by
          have := congrArg Value.ownBlock e'
          rw [ea] at this
          simpa [Value.ownBlock] using this
        subst eg
        clear e' sh ea
        generalize L.getD k emp = z at cc
        have hi' : SL w1 B (.slice (some ⟨g, 0, none⟩) L.length m) L := by rw [hL.out]; exact hI1
        obtain ⟨st, gr⟩ := hi'.stored k (markT (1 + k))
        have ST : Hid (SL (w1.setCell ⟨g, k, none⟩ (.string (markT (1 + k)))) B (.slice (some ⟨g, 0, none⟩) n m) (L.set k (markT (1 + k)))) := by
          rw [hL.out] at st; exact st
        have GR : Hid (w.grownBy (w1.setCell ⟨g, k, none⟩ (.string (markT (1 + k)))) (some g)) := grown_transS GR1.out gr
        have HM : Hid (MarkS (k + 1) (L.set k (markT (1 + k)))) := fun i hi => by
          by_cases e : i = k
          · subst e
            have hlen : i < L.length := by rw [hL.out]; exact hlt
            simp [List.getD, hlen]
          · have := hM.out i (by omega)
            simp only [List.getD] at this ⊢
            rw [List.getElem?_set_ne (by omega)]
            exact this
        have HL : Hid ((L.set k (markT (1 + k))).length = n) := (by rw [List.length_set, hL.out] : (L.set k (markT (1 + k))).length = n)
        clear st gr hi' hI1 GR1
        go_wp2
        go_roundw
        case rel => exact ⟨k + 1, L.set k (markT (1 + k)), by omega, by go_num, by go_num, HL, HM, ST, GR⟩
        case measure => simp [intOf]; omega
      · have hkn : k = n := by omega
        subst hkn
        go_wp2
        go_ret
        exact ⟨by go_num, ⟨L, hL.out, hM.out, hI.out⟩, hG.out⟩

theorem over_cell {w v : World} {p : Addr} (h : p.block < w.heap.size) : (over w v).cell? p = w.cell? p := World.cell?_of_block (w := w) (over_block w v p.block h)
set_option maxHeartbeats 1000000 in
theorem heldS (B : Nat) (v : Value) (L : List ByteArray) (w : World) (hl : L.length ≤ 1048576) (h : SL w B v L) (hM : MarkS L.length L) :
    Calls Try.prog 16 #[v, .int .i64 1] w fun e w' => e = .returned (.int .i64 (1 + (L.length : Int))) ∧ Below w.heap.size w w' := by
  obtain ⟨a, m, rfl, sh⟩ := h.cells
  have S : Hid (∀ i, i < L.length → ∃ g, a = some ⟨g, 0, none⟩ ∧ g < w.heap.size ∧ w.cell? ⟨g, i, none⟩ = some (.string (markT (1 + i)))) := fun i hi => by
    obtain ⟨g, e, _, _, hlt, hc, _⟩ := sh i hi
    rw [hM i hi] at hc
    exact ⟨g, e, hlt, hc⟩
  clear sh h hM
  generalize hn : L.length = n at *
  clear hn
  have B0 : Hid (Below w.heap.size w w) := Below.refl _ _
  go_enter Try.func16, Try.ntmps16
  go_wp2
  go_loopw [1, 5] (fun t i wr => ∃ k : Nat, k ≤ n ∧ i = .int .i64 k ∧ t = .int .i64 (((1 + k : Nat) : Int)) ∧ Hid (Below w.heap.size w wr)) (fun _ i _ => n - (intOf i).toNat)
  case atStart => exact ⟨0, Nat.zero_le _, rfl, rfl, B0⟩
  case round =>
    obtain ⟨k, hk, rfl, rfl, hB⟩ := hrel
    clear B0
    by_cases hlt : k < n
    · have hlt' : (k : Int) < (n : Int) := by omega
      obtain ⟨g, rfl, hgl, cc0⟩ := S.out k hlt
      have HT : Hid (∀ w, Calls Try.prog 25 #[.int .i64 ((1 + k : Nat) : Int)] w fun e w' => e = .returned (.string (markT (1 + k))) ∧ Below w.heap.size w w') := fun w => markText (1 + k) w (by omega) (by omega)
      have cc : ∀ v, (over wr v).cell? ⟨g, k, none⟩ = some (.string (markT (1 + k))) := fun v => by
        rw [over_cell (p := ⟨g, k, none⟩) (Nat.lt_of_lt_of_le hgl hB.out.size), hB.out.cell (p := ⟨g, k, none⟩) hgl]
        exact cc0
      clear cc0
      generalize markT (1 + k) = y at *
      go_wp2
      refine wp_region_over (by kernel_rfl) (by kernel_rfl) ?_
      repeat (go_big_quiet_step ((first | (go_at_call 25; exact Calls.over_of (HT.out _)))))
      refine wpQuiet_nil ?_
      intro _ hw'
      obtain ⟨vq, hw''⟩ := hw'
      subst hw''
      go_wp2
      go_roundw
      case rel => exact ⟨k + 1, by omega, by go_num, by go_num, hB.out.trans ((below_over wr vq).mono hB.out.size)⟩
      case measure => simp [intOf]; omega
    · have hkn : k = n := by omega
      subst hkn
      go_wp2
      go_ret
      exact ⟨by go_num, hB.out⟩
end Go.Proofs.Ythmmlcmeaokdnaa
