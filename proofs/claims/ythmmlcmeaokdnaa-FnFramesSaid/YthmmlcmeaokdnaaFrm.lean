/- FrameOf of the program and of the specification: the same frame. Conditions: what a string is at most long. -/
import Derived.Test.YthmmlcmeaokdnaaCrc
import Derived.Deep.RegionWith
import Derived.Deep.RegionHeld3
namespace Go.Proofs.Ythmmlcmeaokdnaa
open Go.RowKit

/-- The frame of data of at most 100000 bytes. -/
def frameB (s : ByteArray) : ByteArray := ⟨(headB s).toArray⟩ ++ s
theorem headB_len (s : ByteArray) : (headB s).length = 8 := by simp [headB, lowB]
theorem headA_len (s : ByteArray) : (⟨(headB s).toArray⟩ : ByteArray).size = 8 := by simp [ByteArray.size, headB_len s]
theorem impl_no (s : ByteArray) (w : World) (hs : 100000 < s.size) (hm : s.size ≤ maxLen) :
    Calls Try.prog 11 #[.string s] w fun e w' => e = .returned (.string ⟨#[]⟩) ∧ Below w.heap.size w w' := by
  unfold maxLen at hm
  go_enter Try.func11, Try.ntmps11
  go_wp2
  go_ret
  exact ⟨rfl, Below.refl _ _⟩
set_option maxHeartbeats 1000000 in
theorem impl_yes (s : ByteArray) (w : World) (hs : s.size ≤ 100000) :
    Calls Try.prog 11 #[.string s] w fun e w' => e = .returned (.string (frameB s)) ∧ Below w.heap.size w w' := by
  have HC : Hid (∀ w, Calls Try.prog 23 #[.string s] w fun e w' => e = .returned (.string ⟨(headB s).toArray⟩) ∧ Below w.heap.size w w') := fun w => head_any s w hs
  have ha : ∀ w', (Op.stringOp .add ⟨(headB s).toArray⟩ s).run Try.prog w' = .ok (.string (frameB s)) w' := fun w' => run_string_add_sum w' _ _ (by rw [headA_len]; omega)
  go_enter Try.func11, Try.ntmps11
  go_wp2_with fail
  refine (HC.out _).mono ?_
  rintro e w' ⟨rfl, B1⟩
  go_wp2
  go_ret
  exact ⟨rfl, B1⟩
theorem spec_no (s : ByteArray) (w : World) (hs : 100000 < s.size) (hm : s.size ≤ maxLen) :
    Calls Try.prog 13 #[.string s] w fun e w' => e = .returned (.string ⟨#[]⟩) ∧ Below w.heap.size w w' := by
  unfold maxLen at hm
  go_enter Try.func13, Try.ntmps13
  go_wp2
  go_ret
  exact ⟨rfl, Below.refl _ _⟩
theorem conv_at (w : World) (b : Nat) (zs : List Int) (h : ∀ z ∈ zs, 0 ≤ z ∧ z < 256) (hc : ∀ j (hj : j < zs.length), w.cell? ⟨b, j, none⟩ = some (.int .u8 zs[j])) :
    Sem.run Try.prog (convert 22 9 (.slice (some ⟨b, 0, none⟩) zs.length zs.length)) w = .ok (.string ⟨(zs.map byteOf).toArray⟩) w := by
  have := run_convert_bytes_back (P := Try.prog) w 22 9 5 ⟨b, 0, none⟩ zs.length (zs.map byteOf) Try.underlying22 Try.underlying5 Try.underlying9 (by
    intro j hj
    simp at hj
    have ea : (⟨b, 0, none⟩ : Addr).add j = ⟨b, j, none⟩ := by by_cases e : j = 0 <;> simp [Addr.add, e]
    rw [ea, hc j hj]
    have hz := h zs[j] (List.getElem_mem _)
    simp [byteOf]
    omega)
  simpa using this
theorem cellNew (w : World) (zs : List Int) (j : Nat) (hj : j < zs.length) : (w.alloc (.cells (zs.map (Value.int .u8)).toArray 5)).cell? ⟨w.heap.size, j, none⟩ = some (.int .u8 zs[j]) := by
  rw [World.cell?_alloc_mark]
  simp [List.getElem?_eq_getElem hj]
abbrev new4 (w : World) (a b c d : Int) : World := w.alloc (.cells #[.int .u8 a, .int .u8 b, .int .u8 c, .int .u8 d] 5)
def B4 (a b c d : Int) : Prop := ∀ z ∈ [a, b, c, d], 0 ≤ z ∧ z < 256
theorem conv4_drew (w : World) {a b c d : Int} (h : B4 a b c d) :
    Sem.run Try.prog (convert 22 9 (.slice (some ⟨w.heap.size, 0, none⟩) 4 4)) (new4 w a b c d).drew = .ok (.string ⟨#[byteOf a, byteOf b, byteOf c, byteOf d]⟩) (new4 w a b c d).drew :=
  conv_at (new4 w a b c d).drew w.heap.size [a, b, c, d] h (fun j hj => cellNew w [a, b, c, d] j hj)
theorem conv4_new (w : World) {a b c d : Int} (h : B4 a b c d) :
    Sem.run Try.prog (convert 22 9 (.slice (some ⟨w.heap.size, 0, none⟩) 4 4)) (new4 w a b c d) = .ok (.string ⟨#[byteOf a, byteOf b, byteOf c, byteOf d]⟩) (new4 w a b c d) :=
  conv_at (new4 w a b c d) w.heap.size [a, b, c, d] h (fun j hj => cellNew w [a, b, c, d] j hj)
theorem conv4_then {w w' : World} {a b c d : Int} (h : B4 a b c d) (hb : Below ((new4 w a b c d).drew).heap.size (new4 w a b c d).drew w') :
    Sem.run Try.prog (convert 22 9 (.slice (some ⟨w.heap.size, 0, none⟩) 4 4)) w' = .ok (.string ⟨#[byteOf a, byteOf b, byteOf c, byteOf d]⟩) w' :=
  conv_at w' w.heap.size [a, b, c, d] h (fun j hj => by
    rw [World.cell?_of_block (w := (new4 w a b c d).drew) (hb.block w.heap.size (by show _ < (World.alloc _ _).heap.size; simp))]
    exact cellNew w [a, b, c, d] j hj)
theorem below_drew {B : Nat} {w w' : World} (h : Below B w w') : Below B w w'.drew := ⟨h.os, h.tape, h.output, h.size, h.block⟩
theorem add4 (w : World) {s : ByteArray} (hs : s.size ≤ 100000) :
    (Op.stringOp .add ⟨#[byteOf (IntKind.u8.wrap ((s.size : Int) / 16777216)), byteOf (IntKind.u8.wrap ((s.size : Int) / 65536)), byteOf (IntKind.u8.wrap ((s.size : Int) / 256)), byteOf (IntKind.u8.wrap (s.size : Int))]⟩ ⟨(lowB (crcS s)).toArray⟩).run Try.prog w = .ok (.string ⟨(headB s).toArray⟩) w := by
  have h := run_string_add_lists (P := Try.prog) w [byteOf (IntKind.u8.wrap ((s.size : Int) / 16777216)), byteOf (IntKind.u8.wrap ((s.size : Int) / 65536)), byteOf (IntKind.u8.wrap ((s.size : Int) / 256)), byteOf (IntKind.u8.wrap (s.size : Int))] (lowB (crcS s)) (by simp) (by simp [lowB])
  have e1 : IntKind.u8.wrap ((s.size : Int) / 16777216) = (s.size : Int) / 16777216 := by rw [IntKind.wrap_u8']; omega
  have e2 : IntKind.u8.wrap ((s.size : Int) / 65536) = (s.size : Int) / 65536 := by rw [IntKind.wrap_u8']; omega
  have e3 : IntKind.u8.wrap ((s.size : Int) / 256) = (s.size : Int) / 256 % 256 := IntKind.wrap_u8' _
  have e4 : IntKind.u8.wrap (s.size : Int) = (s.size : Int) % 256 := IntKind.wrap_u8' _
  rw [e1, e2, e3, e4] at h ⊢
  exact h
set_option maxHeartbeats 4000000 in
theorem spec_yes (s : ByteArray) (w : World) (hs : s.size ≤ 100000) :
    Calls Try.prog 13 #[.string s] w fun e w' => e = .returned (.string (frameB s)) ∧ Below w.heap.size w w' := by
  have HC : Hid (∀ w, Calls Try.prog 22 #[.string s] w fun e w' => e = .returned (.string ⟨(lowB (crcS s)).toArray⟩) ∧ Below w.heap.size w w') := fun w => sum_any s w (by unfold maxLen; omega)
  have HZ : Hid (B4 (IntKind.u8.wrap ((s.size : Int) / 16777216)) (IntKind.u8.wrap ((s.size : Int) / 65536)) (IntKind.u8.wrap ((s.size : Int) / 256)) (IntKind.u8.wrap (s.size : Int))) := by
    intro z hz
    simp [IntKind.wrap_u8'] at hz
    omega
  have ha2 : ∀ w', (Op.stringOp .add ⟨(headB s).toArray⟩ s).run Try.prog w' = .ok (.string (frameB s)) w' := fun w' => run_string_add_sum w' _ _ (by rw [headA_len]; omega)
  have ha1 := fun w' => add4 w' (s := s) hs
  have ht1 := fun W => conv4_drew W HZ.out
  have ht2 := fun W => conv4_new W HZ.out
  go_enter Try.func13, Try.ntmps13
  go_wp2
  go_region_with (first | (go_at_call 22; refine (HC.out _).mono ?_; rintro e w' ⟨rfl, B1⟩; first | have ht3 := conv4_then HZ.out B1 | skip))
  all_goals go_wp2
  all_goals go_ret
  all_goals refine ⟨rfl, ?_⟩
  all_goals first
    | exact (((Below.refl _ w).alloc (Nat.le_refl _) _).trans (below_drew (Below.refl _ _))).trans (B1.mono (by show _ ≤ (World.alloc _ _).heap.size; simp))
    | exact (Below.trans (below_drew (Below.refl _ _)) B1).alloc B1.size _
    | trace_state

theorem lawFrameOf (s : ByteArray) (hm : s.size ≤ maxLen) (w : World) :
    Calls Try.prog 4 #[.string s] w fun e w' => e = .returned (.bool true) ∧ Below w.heap.size w w' := by
  by_cases h1 : 1048576 < s.size
  · unfold maxLen at hm
    go_enter Try.func4, Try.ntmps4
    go_wp2
    go_ret
    exact ⟨rfl, Below.refl _ _⟩
  obtain ⟨r, HS, HI⟩ : ∃ r : ByteArray, Hid (∀ w, Calls Try.prog 13 #[.string s] w fun e w' => e = .returned (.string r) ∧ Below w.heap.size w w') ∧ Hid (∀ w, Calls Try.prog 11 #[.string s] w fun e w' => e = .returned (.string r) ∧ Below w.heap.size w w') := by
    by_cases h2 : s.size ≤ 100000
    · exact ⟨frameB s, fun w => spec_yes s w h2, fun w => impl_yes s w h2⟩
    · exact ⟨⟨#[]⟩, fun w => spec_no s w (by omega) hm, fun w => impl_no s w (by omega) hm⟩
  clear hm
  go_enter Try.func4, Try.ntmps4
  go_wp2_with fail
  refine (HS.out _).mono ?_
  rintro e w1 ⟨rfl, B1⟩
  go_wp2_with fail
  refine (HI.out _).mono ?_
  rintro e w2 ⟨rfl, B2⟩
  go_wp2
  go_ret
  exact ⟨rfl, B1.trans (B2.mono B1.size)⟩

end Go.Proofs.Ythmmlcmeaokdnaa
