/- strings.IndexAny of a blank and an end of line in any text. Conditions: texts of at most 1048576 bytes. -/
import Derived.Test.YtedhlmipcfdldaaGreatDoorIxb
import Derived.Lib.DecodeN
namespace Go.Proofs.YtedhlmipcfdldaaGreatDoor
open Go.RowKit Go.Shelf
set_option maxRecDepth 1000000

theorem get_bang (s : ByteArray) (j : Nat) (h : j < s.size) : s.get! j = s[j] := by
  have := get_at s j h
  simpa using this
theorem decode_clean (s : ByteArray) (pos : Nat) (h : pos < s.size) (ha : 128 ≤ (s.get! pos).toNat) :
    (Utf8.decode s pos).1 ≤ 1114111 ∧ ∀ j, pos ≤ j → j < pos + (Utf8.decode s pos).2 → j < s.size ∧ 128 ≤ (s.get! j).toNat := by
  rw [Lib.decode_at]
  have hb : ∀ k, (s.get! (pos + k)).toNat < 256 := fun k => (s.get! (pos + k)).toNat_lt
  have h0 := (s.get! pos).toNat_lt
  have h1 := hb 1; have h2 := hb 2; have h3 := hb 3
  have key : ∀ j, pos ≤ j → j < pos + 4 → j = pos ∨ j = pos + 1 ∨ j = pos + 2 ∨ j = pos + 3 := fun j _ _ => by omega
  generalize hx0 : (s.get! pos).toNat = b0 at *
  generalize hx1 : (s.get! (pos + 1)).toNat = b1 at *
  generalize hx2 : (s.get! (pos + 2)).toNat = b2 at *
  generalize hx3 : (s.get! (pos + 3)).toNat = b3 at *
  unfold Lib.decodeN
  rw [if_neg (by omega)]
  split
  · split
    · exact ⟨by simp only; omega, fun j j1 j2 => by simp only at j2; rcases key j j1 (by omega) with rfl | rfl | rfl | rfl <;> omega⟩
    · exact ⟨by simp only; omega, fun j j1 j2 => by simp only at j2; rcases key j j1 (by omega) with rfl | rfl | rfl | rfl <;> omega⟩
  split
  · split
    · exact ⟨by simp only; omega, fun j j1 j2 => by simp only at j2; rcases key j j1 (by omega) with rfl | rfl | rfl | rfl <;> omega⟩
    · exact ⟨by simp only; omega, fun j j1 j2 => by simp only at j2; rcases key j j1 (by omega) with rfl | rfl | rfl | rfl <;> omega⟩
  split
  · split
    · exact ⟨by simp only; omega, fun j j1 j2 => by simp only at j2; rcases key j j1 (by omega) with rfl | rfl | rfl | rfl <;> omega⟩
    · exact ⟨by simp only; omega, fun j j1 j2 => by simp only at j2; rcases key j j1 (by omega) with rfl | rfl | rfl | rfl <;> omega⟩
  · exact ⟨by simp only; omega, fun j j1 j2 => by simp only at j2; rcases key j j1 (by omega) with rfl | rfl | rfl | rfl <;> omega⟩
/-- An iterator over a text, wherever it lies. -/
def setIt (W : World) (k : Nat) (s : ByteArray) (p : Nat) : World := { W with heap := W.heap.setIfInBounds k (.stringIter s p) }
def IterAt (W : World) (k : Nat) (s : ByteArray) (p : Nat) : Prop := W.heap[k]? = some (.stringIter s p)
theorem IterAt.lt {W : World} {k : Nat} {s : ByteArray} {p : Nat} (h : IterAt W k s p) : k < W.heap.size := by
  unfold IterAt at h
  rcases Nat.lt_or_ge k W.heap.size with h' | h'
  · exact h'
  · rw [Array.getElem?_eq_none h'] at h; cases h
theorem next_at {W : World} {k : Nat} {s : ByteArray} {p : Nat} (h : IterAt W k s p) (hp : p < s.size) (ty : TypeId) : (Instr.next (.pointer (some ⟨k, 0, none⟩)) true ty).run Tryz.prog W = .ok (.tuple #[.bool true, .int .i64 p, .int .i32 (Utf8.decode s p).1]) (setIt W k s (p + (Utf8.decode s p).2)) := by
  unfold IterAt at h
  simp only [Instr.next, getObj, setObj, Sem.run_bind, Sem.run, h, Result.andThen, hp, if_true]
  simp [goInt, setIt]
theorem next_over {W : World} {k : Nat} {s : ByteArray} {p : Nat} (h : IterAt W k s p) (hp : ¬ p < s.size) (ty : TypeId) : (Instr.next (.pointer (some ⟨k, 0, none⟩)) true ty).run Tryz.prog W = .ok (.tuple #[.bool false]) W := by
  unfold IterAt at h
  simp [Instr.next, getObj, Sem.run, h, hp]
theorem setIt_at {W : World} {k : Nat} {s : ByteArray} {p q : Nat} (h : IterAt W k s p) : IterAt (setIt W k s q) k s q := by
  have := h.lt
  simp [IterAt, setIt, this]
theorem setIt_below {n : Nat} {w W : World} {k : Nat} (hb : Below n w W) (hk : n ≤ k) (s : ByteArray) (q : Nat) : Below n w (setIt W k s q) :=
  ⟨hb.os, hb.tape, hb.output, by have := hb.size; simpa [setIt] using this, fun j hj => by
    have := hb.block j hj
    rw [← this]
    simp only [setIt]
    rw [Array.getElem?_setIfInBounds_ne (by omega)]⟩
theorem IterAt.below {W W' : World} {k : Nat} {s : ByteArray} {p : Nat} (h : IterAt W k s p) (hb : Below W.heap.size W W') : IterAt W' k s p := (hb.block k h.lt).trans h
theorem noAny_skip {s : ByteArray} {i d : Nat} (h : Lib.NoAny s.data.toList [32, 10] i) (hd : ∀ j, i ≤ j → j < i + d → j < s.size ∧ 128 ≤ (s.get! j).toNat) : Lib.NoAny s.data.toList [32, 10] (i + d) := by
  intro j b hj hb
  by_cases hji : j < i
  · exact h j b hji hb
  · obtain ⟨h1, h2⟩ := hd j (by omega) hj
    rw [get_bang s j h1] at h2
    have e : s.data.toList[j]? = some s[j] := Lib.data_getElem? s j h1
    rw [e] at hb
    obtain rfl := Option.some.inj hb
    simp
    refine ⟨?_, ?_⟩
    · intro e; rw [e] at h2; exact absurd h2 (by decide)
    · intro e; rw [e] at h2; exact absurd h2 (by decide)
shelf_lay Lays.n152 Nm 152 at Tryz as Tryz.lays152
shelf_lay Lays.n153 Nm 153 at Tryz as Tryz.lays153
theorem set153 : (Tryz.prog.info? (Tryz.lays153_ren.t 116)).map (fun i => (i.zero, i.size)) = some (some (.agg (Array.replicate 256 (.bool false))), 256) := by kernel_rfl
theorem idxRune_ascii (x : UInt8) (hx : x.toNat < 128) (w : World) : Calls Tryz.prog 73 #[.string ⟨#[32, 10]⟩, .int .i32 (x.toNat : Int)] w fun e w' => e = .returned (.int .i64 (Lib.indexByte [32, 10] x)) ∧ w' = w := by
  have := Any.strings_IndexRune_ascii Tryz.lays152 ⟨#[32, 10]⟩ (x.toNat : Int) w (by omega) (by omega)
  have hback : ((x.toNat : Int)).toNat.toUInt8 = x := by simp
  rw [hback] at this
  exact this
set_option maxHeartbeats 4000000 in
theorem idxAny_short (s : ByteArray) (h8 : s.size ≤ 8) (w : World) : Calls Tryz.prog 69 #[.string s, .string ⟨#[32, 10]⟩] w fun e w' => e = .returned (.int .i64 (Lib.indexAny s.data.toList [32, 10])) ∧ Below w.heap.size w w' := by
  have h8z : decide ((8 : Int) < (s.size : Int)) = false := decide_eq_false (by omega)
  have I0 : Hid (IterAt (w.alloc (.stringIter s 0)) w.heap.size s 0 ∧ Below w.heap.size w (w.alloc (.stringIter s 0))) := ⟨World.iter_heap w s 0, (Below.refl _ _).alloc (Nat.le_refl _) _⟩
  go_enter Tryz.func69, Tryz.ntmps69
  go_wp2
  go_loopg [9, 10] s.size (fun g _ _ wx => ∃ i : Nat, i + g = s.size ∧ Hid (IterAt wx w.heap.size s i ∧ Below w.heap.size w wx) ∧ Hid (Lib.NoAny s.data.toList [32, 10] i))
  case atStart => exact ⟨0, by omega, I0, Lib.NoAny.zero _ _⟩
  case round =>
    obtain ⟨i, hig, HI, HN⟩ := hrel
    clear I0
    by_cases hi : i < s.size
    · have hnx := next_at HI.out.1 hi
      obtain ⟨W, hW⟩ : ∃ W, W = setIt wr w.heap.size s (i + (Utf8.decode s i).2) := ⟨_, rfl⟩
      have HW : Hid (IterAt W w.heap.size s (i + (Utf8.decode s i).2) ∧ Below w.heap.size w W) := by rw [hW]; exact ⟨setIt_at HI.out.1, setIt_below HI.out.2 (Nat.le_refl _) _ _⟩
      rw [← hW] at hnx
      have Hx : Hid (s.data.toList[i]? = some s[i]) := Lib.data_getElem? s i hi
      by_cases hx : (s[i]).toNat < 128
      · rw [decode_ascii s i hi hx] at hnx HW
        have IR := idxRune_ascii s[i] hx
        generalize s[i] = x at *
        cases hin : ([32, 10] : List UInt8).contains x
        · have hcon := Lib.contains_iff_indexByte [32, 10] x
          rw [hin] at hcon
          have hlt : ¬ ((0 : Int) ≤ Lib.indexByte [32, 10] x) := of_decide_eq_false hcon.symm
          have HN2 : Hid (Lib.NoAny s.data.toList [32, 10] (i + 1)) := HN.out.succ Hx.out hin
          clear hcon hW HI HN Hx
          go_wp2_with (go_at_call 73; refine (IR _).mono ?_; rintro e w2 ⟨rfl, rfl⟩)
          go_roundg (gk - 1)
          case measure => omega
          case rel => exact ⟨i + 1, by omega, HW, HN2⟩
        · have hcon := Lib.contains_iff_indexByte [32, 10] x
          rw [hin] at hcon
          have hge : (0 : Int) ≤ Lib.indexByte [32, 10] x := of_decide_eq_true hcon.symm
          have FI : Hid (Lib.indexAny s.data.toList [32, 10] = i) := Lib.indexAny_hit HN.out Hx.out hin
          clear hcon hW HI HN Hx
          go_wp2_with (go_at_call 73; refine (IR _).mono ?_; rintro e w2 ⟨rfl, rfl⟩)
          go_ret
          exact ⟨by rw [FI.out]; rfl, HW.out.2⟩
      · have hx' : 128 ≤ (s[i]).toNat := by omega
        obtain ⟨d1, d2⟩ := decode_clean s i hi (by rw [get_bang s i hi]; exact hx')
        obtain ⟨d3, d4⟩ := decode_high s i hi hx'
        have HN2 : Hid (Lib.NoAny s.data.toList [32, 10] (i + (Utf8.decode s i).2)) := noAny_skip HN.out d2
        have hle : i + (Utf8.decode s i).2 ≤ s.size := by
          have := (d2 (i + (Utf8.decode s i).2 - 1) (by omega) (by omega)).1
          omega
        have IR := idxRune_no ((Utf8.decode s i).1 : Int) (by omega) (by omega)
        clear d2 hW HI HN Hx hx hx'
        generalize (Utf8.decode s i).1 = r at *
        generalize (Utf8.decode s i).2 = d at *
        go_wp2_with (go_at_call 73; refine (IR _).mono ?_; rintro e w2 ⟨rfl, B2⟩; have HW2 : Hid (IterAt w2 w.heap.size s (i + d) ∧ Below w.heap.size w w2) := ⟨HW.out.1.below B2, HW.out.2.trans (B2.mono HW.out.2.size)⟩; clear B2)
        go_roundg (gk - d)
        case measure => omega
        case rel => exact ⟨i + d, by omega, HW2, HN2⟩
    · have hnx := next_over HI.out.1 hi
      have FI : Hid (Lib.indexAny s.data.toList [32, 10] = -1) := Lib.indexAny_none (by rw [lenD, show s.size = i by omega]; exact HN.out)
      clear HN
      go_wp2
      go_ret
      exact ⟨by rw [FI.out]; rfl, HI.out.2⟩
theorem idxAny (s : ByteArray) (hs : s.size ≤ 1048576) (w : World) : Calls Tryz.prog 69 #[.string s, .string ⟨#[32, 10]⟩] w fun e w' => e = .returned (.int .i64 (Lib.indexAny s.data.toList [32, 10])) ∧ Below w.heap.size w w' := by
  by_cases h8 : s.size ≤ 8
  · exact idxAny_short s h8 w
  · refine (Any.strings_IndexAny_long Tryz.lays153 (zero_of_info set153).1 (zero_of_info set153).2 s ⟨#[32, 10]⟩ w (by decide) (by omega) (by omega) (by decide) ?_).mono fun e w' ⟨h1, h2⟩ => ⟨h1, ?_⟩
    · intro j b hb
      have : b ∈ ([32, 10] : List UInt8) := List.mem_of_getElem? hb
      simp at this
      rcases this with rfl | rfl <;> decide
    · rw [h2]
      exact ((Below.refl _ _).alloc (Nat.le_refl _) _).alloc (by simp) _
end Go.Proofs.YtedhlmipcfdldaaGreatDoor
