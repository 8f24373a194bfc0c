/- A word and numbers, with blanks between, of both sides. Conditions: at most eight numbers of at most sixteen digits; of the program: the library's table of powers of ten as its text lays it. -/
import Derived.Test.YtedhlmipcfdldaaGreatDoorDec
import Derived.Lib.LaidTab
namespace Go.Proofs.YtedhlmipcfdldaaGreatDoor
open Go.RowKit

def dcB (n : Int) : ByteArray := ⟨(Lib.itoa n).toArray⟩
theorem dcB_size {n : Int} (h : Sml n) : (dcB n).size ≤ 18 := by
  show (Lib.itoa n).toArray.size ≤ 18
  simpa using itoa_len h
/-- A word and numbers. -/
def rowB (S : ByteArray) (ns : List Int) : ByteArray := ns.foldl (fun t n => t ++ ⟨#[32]⟩ ++ dcB n) S
theorem rowB_snoc (S : ByteArray) (ns : List Int) (n : Int) : rowB S (ns ++ [n]) = rowB S ns ++ ⟨#[32]⟩ ++ dcB n := by simp [rowB]
theorem rowB_size {S : ByteArray} : ∀ {ns : List Int} {k : Nat}, (∀ z ∈ ns, Sml z) → S.size ≤ k → (rowB S ns).size ≤ k + 19 * ns.length
  | [], k, _, h => by simpa [rowB] using h
  | n :: r, k, hs, h => by
    have h1 := dcB_size (hs n (by simp))
    have := rowB_size (S := S ++ ⟨#[32]⟩ ++ dcB n) (ns := r) (k := k + 19) (fun z hz => hs z (by simp [hz])) (by
      rw [ByteArray.size_append, ByteArray.size_append]
      have h32 : (⟨#[32]⟩ : ByteArray).size = 1 := rfl
      omega)
    show (rowB (S ++ ⟨#[32]⟩ ++ dcB n) r).size ≤ _
    simp only [List.length_cons]
    omega
theorem take_snoc {ns : List Int} {k : Nat} (h : k < ns.length) : ns.take (k + 1) = ns.take k ++ [ns[k]] := by rw [List.take_succ_eq_append_getElem h]
/-- Numbers in memory. -/
def IntC (w : World) (a : Option Addr) (ns : List Int) : Prop := ns = [] ∨ ∃ b o, a = some ⟨b, o, none⟩ ∧ b < w.heap.size ∧ ∀ i (hi : i < ns.length), w.cell? ⟨b, o + i, none⟩ = some (.int .i64 ns[i])
/-- Pointers to numbers in memory. -/
def PtrC (w : World) (a : Option Addr) (ns : List Int) : Prop := ns = [] ∨ ∃ b o, a = some ⟨b, o, none⟩ ∧ b < w.heap.size ∧ ∀ i (hi : i < ns.length), ∃ p q, w.cell? ⟨b, o + i, none⟩ = some (.pointer (some ⟨p, q, none⟩)) ∧ p < w.heap.size ∧ w.cell? ⟨p, q, none⟩ = some (.int .i64 ns[i])

set_option maxHeartbeats 2000000 in
theorem specRow (S : ByteArray) (hS : S.size ≤ 100) (a : Option Addr) (n c : Nat) (ns : List Int) (he : ns.length = n) (hn : n ≤ 8) (hs : ∀ z ∈ ns, Sml z) (w : World) (h : IntC w a ns) :
    Calls Tryz.prog 37 #[.string S, .slice a n c] w fun e w' => e = .returned (.string (rowB S ns)) ∧ Below w.heap.size w w' := by
  have H : Hid (IntC w a ns ∧ ns.length = n ∧ (∀ z ∈ ns, Sml z)) := ⟨h, he, hs⟩
  have HS : Hid (S.size ≤ 100) := hS
  clear h he hs hS
  go_enter Tryz.func37, Tryz.ntmps37
  go_wp2
  go_loopw [0, 5] (fun x i wr => ∃ (k : Nat) (T : ByteArray), k ≤ n ∧ i = .int .i64 k ∧ x = .string T ∧ Hid (T = rowB S (ns.take k)) ∧ Hid (Below w.heap.size w wr)) (fun _ i _ => n - (intOf i).toNat)
  case atStart => exact ⟨0, S, Nat.zero_le _, rfl, rfl, (by simp [rowB] : S = rowB S (ns.take 0)), Below.refl _ _⟩
  case round =>
    obtain ⟨k, T, hk, rfl, rfl, hT, hB⟩ := hrel
    by_cases hlt : k < n
    · have hlt' : (k : Int) < (n : Int) := by omega
      have hkl : k < ns.length := by rw [H.out.2.1]; exact hlt
      obtain ⟨z, hz⟩ : ∃ z, z = ns[k] := ⟨_, rfl⟩
      have sz : Hid (Sml z) := by show Sml z; rw [hz]; exact H.out.2.2 _ (List.getElem_mem _)
      have hTs : T.size ≤ 1000 := by
        rw [hT.out]
        have := rowB_size (S := S) (ns := ns.take k) (fun z hz => H.out.2.2 z (List.mem_of_mem_take hz)) HS.out
        have hl : (ns.take k).length ≤ 8 := by simp; omega
        omega
      have hadd1 := add_run T ⟨#[32]⟩ (by omega) (by show (1 : Nat) ≤ _; omega)
      have hadd2 := add_run (T ++ ⟨#[32]⟩) (dcB z) (by rw [ByteArray.size_append]; have : (⟨#[32]⟩ : ByteArray).size = 1 := rfl; omega) (by have := dcB_size sz.out; omega)
      have HN : Hid (T ++ ⟨#[32]⟩ ++ dcB z = rowB S (ns.take (k + 1))) := by
        show T ++ ⟨#[32]⟩ ++ dcB z = rowB S (ns.take (k + 1))
        rw [take_snoc hkl, rowB_snoc, ← hT.out, hz]
      have CD : Hid (∀ W, Calls Tryz.prog 54 #[.int .i64 z] W fun e w' => e = .returned (.string (dcB z)) ∧ Below W.heap.size W w') := fun W => specDec z W sz.out
      obtain ⟨b, o, rfl, hb, hc⟩ : ∃ b o, a = some ⟨b, o, none⟩ ∧ b < w.heap.size ∧ wr.cell? ⟨b, o + k, none⟩ = some (.int .i64 z) := by
        rcases H.out.1 with e | ⟨b, o, h1, h2, h3⟩
        · rw [e] at hkl; simp at hkl
        · exact ⟨b, o, h1, h2, by rw [hB.out.cell (p := ⟨b, o + k, none⟩) h2, h3 k hkl, hz]⟩
      clear hz hT hTs
      generalize dcB z = d at *
      generalize T ++ ⟨#[32]⟩ = T1 at *
      generalize T1 ++ d = T2 at *
      go_wp2_with fail
      refine (CD.out _).mono ?_
      rintro e w1 ⟨rfl, B1⟩
      have HB : Hid (Below w.heap.size w w1) := hB.out.trans (B1.mono hB.out.size)
      clear B1 hc CD hB
      go_wp2
      go_roundw
      case rel => exact ⟨k + 1, T2, by omega, by go_num, rfl, HN, HB⟩
      case measure => simp [intOf]; omega
    · have HE : Hid (T = rowB S ns) := by
        show T = rowB S ns
        rw [hT.out, List.take_of_length_le (by rw [H.out.2.1]; omega)]
      clear hT
      go_wp2
      go_ret
      exact ⟨congrArg (fun x => Ending.returned (.string x)) HE.out, hB.out⟩

def Pow (w : World) : Prop := Lib.TabIs Tryz.prog w "internal/strconv.uint64pow10" .u64 Lib.pow10Tab
theorem implDec (n : Int) (hn : Sml n) (w : World) (h : Pow w) : Calls Tryz.prog 63 #[.int .i64 n, .int .i64 10] w fun e w' => e = .returned (.string (dcB n)) ∧ Below w.heap.size w w' := by
  obtain ⟨h0, h1⟩ := hn
  have := formatInt n (by omega) (by omega) w h
  refine this.mono fun e w'' ⟨he, kk, os, hw⟩ => ⟨he, ?_⟩
  rw [hw]
  exact ⟨rfl, rfl, rfl, by simp [Sort.grow, World.drewN], fun q hq => by simp [Sort.grow, World.drewN]; rw [Array.getElem?_append_left hq]⟩
theorem gPow : Tryz.prog.globalNamed "internal/strconv.uint64pow10" = some 3 := by kernel_rfl
theorem Pow.below {w w' : World} (h : Pow w) (hb : Below w.heap.size w w') : Pow w' := by
  unfold Pow Lib.TabIs World.var? at h ⊢
  rw [gPow] at h ⊢
  simp only [Option.bind_some] at h ⊢
  have hlt : 3 < w.heap.size := by
    rcases Nat.lt_or_ge 3 w.heap.size with h' | h'
    · exact h'
    · rw [Array.getElem?_eq_none h'] at h; cases h
  rw [hb.block 3 hlt]
  exact h


end Go.Proofs.YtedhlmipcfdldaaGreatDoor
