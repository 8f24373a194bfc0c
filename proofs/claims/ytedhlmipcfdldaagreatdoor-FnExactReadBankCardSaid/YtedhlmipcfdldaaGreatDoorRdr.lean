/- The reader of a text, piece by piece: what it takes, and where it gives up. Conditions: the reader lies in memory; the package's errors are there, the library's powers of ten as its text lays them. -/
import Derived.Test.YtedhlmipcfdldaaGreatDoorBas
import Derived.Test.YtedhlmipcfdldaaGreatDoorIxc
import Derived.Shelf.Strconv.ParseIntPublic10
import Derived.Shelf.Strings.Prefix
namespace Go.Proofs.YtedhlmipcfdldaaGreatDoor
open Go.RowKit Go.Shelf
set_option maxRecDepth 8000

structure Stp (B : Nat) (w w' : World) : Prop where
  os : w'.os = w.os
  tape : w'.tape = w.tape
  output : w'.output = w.output
  size : w.heap.size ≤ w'.heap.size
  block : ∀ k, k < w.heap.size → k ≠ B → w'.heap[k]? = w.heap[k]?

theorem Stp.refl (B : Nat) (w : World) : Stp B w w := ⟨rfl, rfl, rfl, Nat.le_refl _, fun _ _ _ => rfl⟩
theorem Stp.trans {B : Nat} {a b c : World} (h : Stp B a b) (k : Stp B b c) : Stp B a c :=
  ⟨k.os.trans h.os, k.tape.trans h.tape, k.output.trans h.output, Nat.le_trans h.size k.size, fun i hi hn => (k.block i (Nat.lt_of_lt_of_le hi h.size) hn).trans (h.block i hi hn)⟩
theorem Stp.drewN {B : Nat} {a w : World} (h : Stp B a w) (n : Nat) : Stp B a (w.drewN n) := h.trans ⟨rfl, rfl, rfl, Nat.le_refl _, fun _ _ _ => rfl⟩
theorem Stp.alloc {B : Nat} {a w : World} (h : Stp B a w) (o : Obj) : Stp B a (w.alloc o) :=
  h.trans ⟨rfl, rfl, rfl, by simp, fun k hk _ => Below.heap_alloc _ _ _ hk⟩
theorem Stp.setCell {B : Nat} {a w : World} (h : Stp B a w) (off : Nat) (u : Value) : Stp B a (w.setCell ⟨B, off, none⟩ u) :=
  h.trans ⟨rfl, rfl, rfl, by simp [World.setCell], fun k _ hn => Below.heap_setCell _ _ _ _ hn⟩
theorem Stp.below {B : Nat} {w w' : World} (h : Stp B w w') (hB : B ≤ w.heap.size) : Below B w w' :=
  ⟨h.os, h.tape, h.output, h.size, fun k hk => h.block k (Nat.lt_of_lt_of_le hk hB) (by omega)⟩
theorem Stp.ofBelow {B : Nat} {w w' : World} (h : Below w.heap.size w w') : Stp B w w' := ⟨h.os, h.tape, h.output, h.size, fun k hk _ => h.block k hk⟩
theorem Stp.cell {B : Nat} {w w' : World} (h : Stp B w w') {p : Addr} (hp : p.block < w.heap.size) (hn : p.block ≠ B) : w'.cell? p = w.cell? p := World.cell?_of_block (w := w) (h.block p.block hp hn)

theorem Stp.frozen {B : Nat} {w w' : World} (h : Stp B w w') {p : Addr} (hp : p.block < w.heap.size) (hn : p.block ≠ B) : w'.frozen? p = w.frozen? p := World.frozen?_of_block (w := w) (h.block p.block hp hn)
theorem Stp.setNew {B : Nat} {a w : World} (h : Stp B a w) {p : Addr} (hp : a.heap.size ≤ p.block) (u : Value) : Stp B a (w.setCell p u) :=
  ⟨h.os, h.tape, h.output, by simpa [World.setCell] using h.size, fun k hk hn => (Below.heap_setCell _ _ _ _ (by omega)).trans (h.block k hk hn)⟩


/-- What the package's variables hold. -/
def Glo (w : World) : Prop := (∃ t p, w.cell? ⟨0, 0, none⟩ = some (.iface t p)) ∧ (∃ t p, w.cell? ⟨1, 0, none⟩ = some (.iface t p)) ∧ (∃ t p, w.cell? ⟨2, 0, none⟩ = some (.iface t p)) ∧ Pow w ∧ 7 ≤ w.heap.size
theorem Pow.stp {w w' : World} {B : Nat} (h : Pow w) (hs : Stp B w w') (hB : 7 ≤ B) (hz : 7 ≤ w.heap.size) : Pow w' := by
  unfold Pow Lib.TabIs World.var? at h ⊢
  rw [gPow] at h ⊢
  simp only [Option.bind_some] at h ⊢
  rw [hs.block 3 (by omega) (by omega)]
  exact h
theorem Glo.stp {w w' : World} {B : Nat} (h : Glo w) (hs : Stp B w w') (hB : 7 ≤ B) : Glo w' := by
  obtain ⟨⟨t0, p0, h0⟩, ⟨t2, p2, h2⟩, ⟨t3, p3, h3⟩, h4, hz⟩ := h
  exact ⟨⟨t0, p0, (hs.cell (p := ⟨0, 0, none⟩) (by show 0 < _; omega) (by show 0 ≠ _; omega)).trans h0⟩, ⟨t2, p2, (hs.cell (p := ⟨1, 0, none⟩) (by show 1 < _; omega) (by show 1 ≠ _; omega)).trans h2⟩, ⟨t3, p3, (hs.cell (p := ⟨2, 0, none⟩) (by show 2 < _; omega) (by show 2 ≠ _; omega)).trans h3⟩, h4.stp hs hB hz, Nat.le_trans hz hs.size⟩
theorem Glo.below {w w' : World} (h : Glo w) (hb : Below w.heap.size w w') : Glo w' := h.stp (B := w.heap.size) (Stp.ofBelow hb) h.2.2.2.2
/-- The reader, with what is left of its text. -/
def Rst (w : World) (p : Nat) (s : ByteArray) : Prop := w.cell? ⟨p, 0, none⟩ = some (.string s) ∧ w.frozen? ⟨p, 0, none⟩ = false ∧ 7 ≤ p ∧ p < w.heap.size ∧ s.size ≤ 1048576
theorem Rst.below {w w' : World} {p : Nat} {s : ByteArray} (h : Rst w p s) (hb : Below w.heap.size w w') : Rst w' p s :=
  ⟨(hb.cell (p := ⟨p, 0, none⟩) h.2.2.2.1).trans h.1, (hb.frozen (p := ⟨p, 0, none⟩) h.2.2.2.1).trans h.2.1, h.2.2.1, Nat.lt_of_lt_of_le h.2.2.2.1 hb.size, h.2.2.2.2⟩
theorem Rst.set {w : World} {p : Nat} {s t : ByteArray} (h : Rst w p s) (ht : t.size ≤ 1048576) : Rst (w.setCell ⟨p, 0, none⟩ (.string t)) p t :=
  ⟨World.cell?_setCell_same _ _ _ (by rw [h.1]), by rw [World.frozen?_setCell]; exact h.2.1, h.2.2.1, by simpa [World.setCell] using h.2.2.2.1, ht⟩
/-- It gives up. -/
def Pan (e : Ending) : Prop := ∃ t p, e = .panicked [{ v := .iface t p, recovered := false }]
theorem want_yes (p : Option Addr) (w : World) : Calls Tryz.prog 24 #[.pointer p, .bool true] w fun e w' => e = .returned (.tuple #[]) ∧ w' = w := by
  go_enter Tryz.func24, Tryz.ntmps24
  go_wp2
  refine bodyPost_end (results_none rfl _ _ _) rfl ?_
  exact ⟨rfl, rfl⟩
theorem want_no (p : Option Addr) (w : World) (h : Glo w) : Calls Tryz.prog 24 #[.pointer p, .bool false] w fun e w' => Pan e ∧ w' = w := by
  obtain ⟨⟨t0, p0, h0⟩, _⟩ := h
  have FI : Hid (Pan (.panicked [{ v := .iface t0 p0, recovered := false }])) := ⟨t0, p0, rfl⟩
  go_enter Tryz.func24, Tryz.ntmps24
  go_wp2
  exact ⟨rfl, FI.out, rfl⟩
shelf_lay Lays.n99 Nm 99 at Tryz as Tryz.lays99
theorem aheadL (p : Nat) (s S : ByteArray) (w : World) (h : Rst w p s) : Calls Tryz.prog 27 #[.pointer (some ⟨p, 0, none⟩), .string S] w fun e w' => e = .returned (.bool (Lib.hasPrefix s.data.toList S.data.toList)) ∧ w' = w := by
  have C := Any.strings_HasPrefix Tryz.lays99 s S w
  obtain ⟨h0, _⟩ := h
  generalize Lib.hasPrefix s.data.toList S.data.toList = b at *
  go_enter Tryz.func27, Tryz.ntmps27
  go_wp2_with (go_at_call 42; refine C.mono ?_; rintro e w' ⟨rfl, rfl⟩)
  go_ret
  exact ⟨rfl, rfl⟩
/-- What is taken off. -/
def TakeOut (w : World) (p : Nat) (s S : ByteArray) (e : Ending) (w' : World) : Prop := Stp p w w' ∧ ((Lib.hasPrefix s.data.toList S.data.toList = true ∧ e = .returned (.tuple #[]) ∧ Rst w' p (s.extract S.size s.size)) ∨ (Lib.hasPrefix s.data.toList S.data.toList = false ∧ Pan e))
set_option maxHeartbeats 1000000 in
theorem takeL (p : Nat) (s S : ByteArray) (w : World) (h : Rst w p s) (g : Glo w) (hS : Lib.hasPrefix s.data.toList S.data.toList = true → S.size ≤ s.size) : Calls Tryz.prog 40 #[.pointer (some ⟨p, 0, none⟩), .string S] w fun e w' => TakeOut w p s S e w' := by
  have A := aheadL p s S w h
  have H : Hid (Rst w p s) := h
  have G : Hid (Glo w) := g
  obtain ⟨b, hb⟩ : ∃ b, Lib.hasPrefix s.data.toList S.data.toList = b := ⟨_, rfl⟩
  have HB : Hid (Lib.hasPrefix s.data.toList S.data.toList = b) := hb
  rw [hb] at A hS
  obtain ⟨h0, hz, _, _, hs⟩ := h
  clear hb g
  cases b with
  | true =>
    have hS' := hS rfl
    have FI : Hid (TakeOut w p s S (.returned (.tuple #[])) (w.setCell ⟨p, 0, none⟩ (.string (s.extract S.size s.size)))) := ⟨(Stp.refl _ _).setCell 0 _, Or.inl ⟨HB.out, rfl, H.out.set (by rw [ByteArray.size_extract]; omega)⟩⟩
    clear hS
    go_enter Tryz.func40, Tryz.ntmps40
    go_wp2_with (first | (go_at_call 27; refine A.mono ?_; rintro e w' ⟨rfl, rfl⟩) | (go_at_call 24; refine (want_yes _ _).mono ?_; rintro e w' ⟨rfl, rfl⟩))
    refine bodyPost_end (results_none rfl _ _ _) rfl ?_
    exact FI.out
  | false =>
    have FI : Hid (∀ e, Pan e → TakeOut w p s S e w) := fun e he => ⟨Stp.refl _ _, Or.inr ⟨HB.out, he⟩⟩
    clear hS
    go_enter Tryz.func40, Tryz.ntmps40
    go_wp2_with (first | (go_at_call 27; refine A.mono ?_; rintro e w' ⟨rfl, rfl⟩) | (go_at_call 24; refine (want_no _ _ G.out).mono ?_; rintro e w' ⟨⟨t0, p0, rfl⟩, rfl⟩))

    exact ⟨rfl, FI.out _ ⟨_, _, rfl⟩⟩
end Go.Proofs.YtedhlmipcfdldaaGreatDoor
