/- The place of a file by its name (l7At), ReadFile's search. Conditions: the files lie in memory, at most 1048576 of them. -/
import Derived.Test.YtcalgmhpagpnnaaFr
import Derived.Test.YtcalgmhpagpnnaaLs
import Derived.OwnWalk
namespace Go.Proofs.Ytcalgmhpagpnnaa
open Go.RowKit
set_option maxRecDepth 8000

/-- What a search tells. -/
def AtOut (F : Nat → Fl) (n : Nat) (s : ByteArray) (r : Int) : Prop :=
  (r = -1 ∧ getN Fl.name s (lst F n) = none) ∨ ∃ p : Nat, r = (p : Int) ∧ p < n ∧ (F p).name = s ∧ getN Fl.name s (lst F n) = some (F p)
theorem get_miss {F : Nat → Fl} {n : Nat} {s : ByteArray} (h : ∀ j, j < n → (F j).name ≠ s) : getN Fl.name s (lst F n) = none := by
  unfold getN
  rw [List.find?_eq_none]
  intro x hx
  obtain ⟨j, hj, rfl⟩ := lst_mem.1 hx
  simp [h j hj]
theorem get_hit {F : Nat → Fl} {s : ByteArray} : ∀ {n k : Nat}, k < n → (F k).name = s → (∀ j, j < k → (F j).name ≠ s) → getN Fl.name s (lst F n) = some (F k)
  | 0, k, h, _, _ => by omega
  | n + 1, k, h, e, hno => by
    rw [lst_succ]
    unfold getN
    rw [List.find?_append]
    by_cases hk : k < n
    · have := get_hit hk e hno
      unfold getN at this
      rw [this]
      rfl
    · obtain rfl : k = n := by omega
      have := get_miss hno
      unfold getN at this
      rw [this]
      simp [e]

set_option maxHeartbeats 400000 in
theorem specAt (a : Option Addr) (n c : Nat) (F : Nat → Fl) (s : ByteArray) (w : World) (h : Fls w a n F) :
    Calls Try.prog 62 #[.slice a n c, .string s] w fun e w' => (∃ r : Int, e = .returned (.int .i64 r) ∧ AtOut F n s r) ∧ w' = w := by
  have H : Hid (Fls w a n F) := h
  have hn := h.1
  clear h
  go_enter Try.func62, Try.ntmps62
  go_wp2
  go_loop [5] (fun i => ∃ k : Nat, k ≤ n ∧ i = .int .i64 k ∧ Hid (∀ j, j < k → (F j).name ≠ s)) (fun i => n - (intOf i).toNat)
  case atStart => exact ⟨0, Nat.zero_le _, rfl, fun j hj => absurd hj (Nat.not_lt_zero _)⟩
  case round =>
    obtain ⟨k, hk, rfl, hno⟩ := hrel
    by_cases hlt : k < n
    · obtain ⟨b, o, rfl, hb, hA⟩ := H.out.acc hlt
      have c0 := hA.1
      clear hA
      by_cases hid : (F k).name = s
      · have e : Hid (AtOut F n s k) := Or.inr ⟨k, rfl, hlt, hid, get_hit hlt hid hno.out⟩
        have hid' : ((F k).name.toList == s.toList) = true := by rw [beq_name]; exact decide_eq_true hid
        clear hid
        go_wp2
        go_ret
        exact ⟨⟨_, rfl, e.out⟩, rfl⟩
      · have hid' : ((F k).name.toList == s.toList) = false := by rw [beq_name]; exact decide_eq_false hid
        have HN : Hid (∀ j, j < k + 1 → (F j).name ≠ s) := fun j hj => by
          by_cases e : j = k
          · subst e; exact hid
          · exact hno.out j (by omega)
        clear hid
        go_wp2
        go_round
        case rel => exact ⟨k + 1, by omega, by go_num, HN⟩
        case measure => simp [intOf]; omega
    · have e : Hid (AtOut F n s (-1)) := Or.inl ⟨rfl, get_miss (fun j hj => hno.out j (by omega))⟩
      go_wp2
      go_ret
      exact ⟨⟨_, rfl, e.out⟩, rfl⟩
end Go.Proofs.Ytcalgmhpagpnnaa

/- A file of one's own at the end of a list of one's own. No conditions. -/
namespace Go.Proofs.Ytcalgmhpagpnnaa
open Go.RowKit
set_option maxRecDepth 8000

theorem flNews (w : World) (f : Fl) : ∀ j u, (FlC f)[j]? = some u → (w.alloc (.cells #[.string f.name, .string f.data] 75)).cell? (Addr.add ⟨w.heap.size, 0, none⟩ j) = some u := by
  intro j u h
  have hj : j < 2 := (List.getElem?_eq_some_iff.1 h).1
  have e : (w.alloc (.cells #[.string f.name, .string f.data] 75)).heap[w.heap.size]? = some (.cells #[.string f.name, .string f.data] 75) := (MapKept.heap_alloc w _).1
  have ea : Addr.add ⟨w.heap.size, 0, none⟩ j = ⟨w.heap.size, j, none⟩ := by
    unfold Addr.add
    by_cases h0 : j = 0 <;> simp [h0]
  rw [ea, ← h]
  unfold World.cell?
  simp only [e]
  simp [FlC]
theorem flOne (f : Fl) : ∀ u ∈ FlC f, u.oneCell' = true := by
  intro u hu
  simp [FlC] at hu
  rcases hu with rfl | rfl <;> rfl
theorem FlL.snoc {w2 : World} {B : Nat} {v : Value} {M : List Fl} {f : Fl} (h : w2.ownsRow B 75 2 v (M.length + 1) (M.flatMap FlC ++ FlC f)) : FlL w2 B v (M ++ [f]) := by
  unfold FlL
  rw [List.flatMap_append, List.length_append]
  simpa using h
theorem FlL.lt {w : World} {B : Nat} {v : Value} {M : List Fl} (h : FlL w B v M) : ∀ g, v.ownBlock = some g → B ≤ g := fun g hg => (World.ownsRow.lt h g hg).1
end Go.Proofs.Ytcalgmhpagpnnaa
