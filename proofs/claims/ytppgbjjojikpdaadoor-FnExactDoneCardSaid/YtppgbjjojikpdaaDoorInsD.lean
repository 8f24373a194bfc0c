/- slices.Insert of one account, in the program: all ways. Conditions: at most 1048576 accounts. -/
import Derived.Test.YtppgbjjojikpdaaDoorInsA
import Derived.Test.YtppgbjjojikpdaaDoorInsC
namespace Go.Proofs.YtppgbjjojikpdaaDoor
open Go.RowKit

theorem implInsert (B : Nat) (v : Value) (L : List Acc) (k : Nat) (x : Acc) (vb : Nat) (w : World) (h : AL w B v L) (hB : B ≤ w.heap.size) (hk : k ≤ L.length) (hl : L.length ≤ 1048576) (hv : One w vb x) (hvw : vb < w.heap.size) (hne : v.ownBlock ≠ some vb) :
    Calls Tryd.prog 49 #[v, .int .i64 k, .slice (some ⟨vb, 0, none⟩) 1 1] w fun e w' => ∃ v', e = .returned v' ∧ AL w' B v' (L.take k ++ x :: L.drop k) ∧ Below B w w' := by
  by_cases hn : v = .slice none 0 0
  · subst hn
    obtain ⟨a, c, e⟩ := h.len
    have h0 : L.length = 0 := by simp at e; omega
    have hL : L = [] := List.length_eq_zero_iff.1 h0
    subst hL
    have hk0 : k = 0 := by simpa using hk
    subst hk0
    simpa using insNil B x vb w hB hv
  · obtain ⟨g, c, e⟩ := h.own hn
    subst e
    by_cases hkn : k = L.length
    · subst hkn
      have := insEnd B g c L x vb w h hB hl hv
      simpa using this
    · have hlt : k < L.length := by omega
      by_cases hr : L.length + 1 ≤ c
      · exact (insShift B g c L k x vb w h hlt hr hl hv (fun e => hne (by simp [Value.ownBlock, e]))).mono fun e w' ⟨h1, h2, h3⟩ => ⟨_, h1, h2, h3⟩
      · exact insGrow B g c L k x vb w h hB hlt (by omega) hl hv hvw
end Go.Proofs.YtppgbjjojikpdaaDoor
