/- The reader of a bank. Conditions: as of the reader. -/
import Derived.Test.YtedhlmipcfdldaaGreatDoorRbs
import Derived.Deep.AppendLies
import Derived.Deep.LoopGhost
namespace Go.Proofs.YtedhlmipcfdldaaGreatDoor
open Go.RowKit Go.Shelf
set_option maxRecDepth 8000

section
variable {P : Program} (w : World)
/-- 'append' onto a slice of the call's own, as one step of a region that draws its order. -/
theorem step_append_own {ops : Array Oper} {o : Oper} {a : Act} {K : Act → World → Prop} {Q : Exit → Act → World → Prop} {E : Prop} (hgd : o.guard = none) (s x : Operand) (t : TypeId)
    (ho : o.op = .call { callee := .builtin .append, args := #[s, x], argTypes := #[t, t] })
    (base : Nat) (e : TypeId) (i : TypeInfo) (z : Value) (size bytes : Nat) (ht : P.underlying t = some (.slice e)) (hi : P.info? e = some i) (hz : i.zero = some z)
    (hsize : i.size = size) (hby : i.bytes = bytes) (hzs : z.cells.size = size) (hsz : 0 < size)
    (v : Value) (n : Nat) (xs : List Value) (hs : a.eval s = v) (hown : w.ownsRow base e size v n xs)
    (ad : Addr) (m c : Nat) (news : List Value) (hx : a.eval x = .slice (some ad) m c) (hl : news.length = m * size) (hnews : ∀ j u, news[j]? = some u → w.cell? (ad.add j) = some u) (h1 : ∀ u ∈ news, u.oneCell' = true)
    (h63 : n + m ≤ maxLen) (hbytes : (n + m) * bytes ≤ 140737488355328) (hbase : base ≤ w.heap.size)
    (h : ∀ v' w', w'.ownsRow base e size v' (n + m) (xs ++ news) → w.grownBy w' v.ownBlock → K (a.put o.dst v') w') :
    if Region.wanted o (yielded ops a.tmps) = true then Oper.wp P o a w K Q else E := by
  have hw : Region.wanted o (yielded ops a.tmps) = true := by simp [Region.wanted, hgd]
  rw [if_pos hw]
  exact wp_append_own w s x t ho base e i z size bytes ht hi hz hsize hby hzs hsz v n xs hs hown ad m c news hx hl hnews h1 h63 hbytes hbase (fun v' w' h2 h3 _ => h v' w' h2 h3)
end

/-- A right bank stands ahead in the text s, and t is left. -/
def RdB (s : List UInt8) (k : Bk) (L : List Acc) (O : List Ord) (t : List UInt8) : Prop := ∃ s1 s2, readLine wBank.data.toList 5 s = some (bkN k, s1) ∧ readLines wAcc.data.toList 8 1048577 s1 = some (L.map acN, s2) ∧ readLines wOrd.data.toList 7 1048577 s2 = some (O.map orN, t) ∧ bankOk (FL L) L.length (OrdF O) O.length k
def BkO (w : World) (p : Nat) (s : ByteArray) (e : Ending) (w' : World) : Prop := Stp p w w' ∧ ((∃ (k : Bk) (L : List Acc) (O : List Ord) (v u : Value) (t : ByteArray), RdB s.data.toList k L O t.data.toList ∧ e = .returned (.agg #[.int .i64 k.day, v, u, .int .i64 k.inn, .int .i64 k.out, .int .i64 k.posted, .int .i64 k.missed]) ∧ AL w' w.heap.size v L ∧ OrdL w' w.heap.size u O ∧ Rst w' p t ∧ Glo w') ∨ ((∀ k L O t, ¬ RdB s.data.toList k L O t) ∧ Pan e))
theorem infoA : (Tryz.prog.info? 37).map (fun i => (i.zero, i.size, i.bytes)) = some (some (.agg #[.int .i64 0, .int .i64 0, .int .i64 0, .int .i64 0, .int .i64 0, .bool false, .int .i64 0, .int .i64 0]), 8, 64) := by kernel_rfl
theorem infoO : (Tryz.prog.info? 39).map (fun i => (i.zero, i.size, i.bytes)) = some (some (.agg #[.int .i64 0, .int .i64 0, .int .i64 0, .int .i64 0, .int .i64 0, .int .i64 0, .int .i64 0]), 7, 56) := by kernel_rfl
end Go.Proofs.YtedhlmipcfdldaaGreatDoor
