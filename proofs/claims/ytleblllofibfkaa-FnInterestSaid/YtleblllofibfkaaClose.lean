/- What the specification does to one account: closed. Conditions: the accounts lie in memory of the call's own and are a right forest. -/
import Derived.Test.YtleblllofibfkaaTake
import Derived.Deep.RegionHeld3
import Derived.Deep.AppendLies
namespace Go.Proofs.Ytleblllofibfkaa
open Go.RowKit
set_option maxRecDepth 8000

section
variable {P : Program} (w : World)
/-- 'append' onto a slice of the call's own, as one step of a region that draws its order. -/
theorem step_append_own {ops : Array Oper} {o : Oper} {a : Act} {K : Act → World → Prop} {Q : Exit → Act → World → Prop} {E : Prop} (hgd : o.guard = none) (s x : Operand) (t : TypeId)
    (ho : o.op = .call { callee := .builtin .append, args := #[s, x], argTypes := #[t, t] })
    (base : Nat) (e : TypeId) (i : TypeInfo) (z : Value) (size bytes : Nat) (ht : P.underlying t = some (.slice e)) (hi : P.info? e = some i) (hz : i.zero = some z)
    (hsize : i.size = size) (hby : i.bytes = bytes) (hzs : z.cells.size = size) (hsz : 0 < size)
    (v : Value) (n : Nat) (xs : List Value) (hs : a.eval s = v) (hown : w.ownsRow base e size v n xs)
    (ad : Addr) (m c : Nat) (news : List Value) (hx : a.eval x = .slice (some ad) m c) (hl : news.length = m * size) (hnews : ∀ j u, news[j]? = some u → w.cell? (ad.add j) = some u) (h1 : ∀ u ∈ news, u.oneCell' = true)
    (h63 : n + m ≤ maxLen) (hbytes : (n + m) * bytes ≤ 140737488355328) (hbase : base ≤ w.heap.size)
    (h : ∀ v' w', w'.ownsRow base e size v' (n + m) (xs ++ news) → w.grownBy w' v.ownBlock → K (a.put o.dst v') w') :
    if Region.wanted o (yielded ops a.tmps) = true then Oper.wp P o a w K Q else E := by
  have hw : Region.wanted o (yielded ops a.tmps) = true := by simp [Region.wanted, hgd]
  rw [if_pos hw]
  exact wp_append_own w s x t ho base e i z size bytes ht hi hz hsize hby hzs hsz v n xs hs hown ad m c news hx hl hnews h1 h63 hbytes hbase (fun v' w' h2 h3 _ => h v' w' h2 h3)
end
/-- The cells of the accounts from a place on. -/
theorem AL.news {w : World} {B g c : Nat} {L : List Acc} (h : AL w B (.slice (some ⟨g, 0, none⟩) L.length c) L) (q : Nat) : ∀ j u, ((L.drop q).flatMap accCells)[j]? = some u → w.cell? ((⟨g, q * 8, none⟩ : Addr).add j) = some u := by
  intro j u hj
  have hjl : j < (L.drop q).length * 8 := by
    by_cases e : j < (L.drop q).length * 8
    · exact e
    · rw [List.getElem?_eq_none (by rw [flat_len]; omega)] at hj; cases hj
  have hd : j = (j / 8) * 8 + j % 8 := by omega
  have hq : j / 8 < (L.drop q).length := by omega
  rw [hd, flat_get _ _ _ hq (Nat.mod_lt _ (by omega))] at hj
  have e1 : (⟨g, q * 8, none⟩ : Addr).add j = ⟨g, (q + j / 8) * 8 + j % 8, none⟩ := by
    by_cases h0 : j = 0
    · subst h0; simp [Addr.add]
    · simp only [Addr.add, h0]; simp; omega
  have hqi : q + j / 8 < L.length := by simp at hq; omega
  rw [e1]
  have hA := h.acc hqi
  rw [FL_lt hqi] at hA
  have e2 : (L.drop q)[j / 8] = L[q + j / 8] := by simp
  rw [e2] at hj
  obtain ⟨c0, c1, c2, c3, c4, c5, c6, c7⟩ := hA
  have hm : j % 8 < 8 := Nat.mod_lt _ (by omega)
  generalize L[q + j / 8] = x at *
  generalize j % 8 = m at *
  match m, hm with
  | 0, _ => simpa [accCells] using c0.trans hj
  | 1, _ => simpa [accCells] using c1.trans hj
  | 2, _ => simpa [accCells] using c2.trans hj
  | 3, _ => simpa [accCells] using c3.trans hj
  | 4, _ => simpa [accCells] using c4.trans hj
  | 5, _ => simpa [accCells] using c5.trans hj
  | 6, _ => simpa [accCells] using c6.trans hj
  | 7, _ => simpa [accCells] using c7.trans hj
theorem flat_one (L : List Acc) : ∀ u ∈ L.flatMap accCells, u.oneCell' = true := by
  intro u hu
  obtain ⟨x, _, hx⟩ := List.mem_flatMap.1 hu
  simp only [accCells, List.mem_cons, List.not_mem_nil, or_false] at hx
  rcases hx with e | e | e | e | e | e | e | e <;> subst e <;> rfl
theorem AL.cap {w : World} {B g c : Nat} {L : List Acc} (h : AL w B (.slice (some ⟨g, 0, none⟩) L.length c) L) : L.length ≤ c ∧ c ≤ maxLen := by
  rcases h.2 with ⟨hv, _⟩ | ⟨g', c', cur, hv, _, _, h1, h2, _⟩
  · cases hv
  · have : c = c' := (Value.slice.inj hv).2.2
    subst this
    exact ⟨h1, h2⟩

open Classical in
/-- What closing comes to, of an account that is not frozen. -/
noncomputable def closeS (L : List Acc) (p : Nat) : Int × List Acc :=
  if (FL L p).balance ≠ 0 ∨ kids (FL L) (FL L p).id L.length ≠ [] then (8, L) else (0, L.take p ++ L.drop (p + 1))

set_option maxHeartbeats 1000000 in
theorem specAct4 (B g c : Nat) (L : List Acc) (p : Nat) (i t m r xi xu xl xr xt xb xc : Int) (w : World) (h : AL w B (.slice (some ⟨g, 0, none⟩) L.length c) L) (hBw : B ≤ w.heap.size) (hR : Right (FL L) L.length) (hp : p < L.length) (hx : FL L p = ⟨xi, xu, xl, xr, xt, false, xb, xc⟩) :
    Calls Try.prog 65 #[.slice (some ⟨g, 0, none⟩) L.length c, .int .i64 p, .agg #[.int .i64 4, .int .i64 i, .int .i64 t, .int .i64 m, .int .i64 r]] w fun e w' => Out (closeS L p) B w e w' := by
  have H : Hid (AL w B (.slice (some ⟨g, 0, none⟩) L.length c) L) := h
  have hn := hR.1
  have HR : Hid (Right (FL L) L.length) := hR
  obtain ⟨hBg, hgz⟩ := h.block
  obtain ⟨p0, p1, p2, p3, p4, p5, p6, p7⟩ := h.acc hp
  rw [hx] at p0 p1 p2 p3 p4 p5 p6 p7
  have fz : ∀ j, w.frozen? ⟨g, j, none⟩ = false := fun j => H.out.frozen j
  have HF : Hid (Fo w (some ⟨g, 0, none⟩) L.length (FL L)) := h.kept_fo (by omega)
  have HT : Hid (closeS L p = if xb ≠ 0 ∨ kids (FL L) xi L.length ≠ [] then (8, L) else (0, L.take p ++ L.drop (p + 1))) := (by unfold closeS; rw [hx] : closeS L p = if xb ≠ 0 ∨ kids (FL L) xi L.length ≠ [] then (8, L) else (0, L.take p ++ L.drop (p + 1)))
  clear h hR hx
  by_cases hb : xb = 0
  · have hbb : (xb != 0) = false := by simp [hb]
    have HT2 : Hid (closeS L p = if kids (FL L) xi L.length ≠ [] then (8, L) else (0, L.take p ++ L.drop (p + 1))) := (by rw [HT.out]; simp [hb] : closeS L p = if kids (FL L) xi L.length ≠ [] then (8, L) else (0, L.take p ++ L.drop (p + 1)))
    clear hb HT
    go_enter Try.func65, Try.ntmps65
    go_wp2_with fail
    refine (specKids_yes _ L.length c (FL L) xi _ ((HF.out.alloc _).alloc _) HR.out).mono ?_
    rintro e w1 ⟨v, rfl, I1, B1⟩
    have H1 : Hid (AL w1 B (.slice (some ⟨g, 0, none⟩) L.length c) L) := AL.kept (World.ownsRow.alloc (World.ownsRow.alloc H.out _) _) B1
    have BB : Hid (Below B w w1) := (((Below.refl _ _).alloc hBw _).alloc (by simp; omega) _).trans (B1.mono (by simp; omega))
    obtain ⟨va, vm, rfl, _, _⟩ := I1.shape
    have hkl := kids_len (FL L) xi L.length
    clear B1 I1 HF H p0 p1 p2 p3 p4 p5 p6 p7 fz
    generalize kids (FL L) xi L.length = K at *
    cases K with
    | cons k0 K =>
      have E : Hid (closeS L p = (8, L)) := (by rw [HT2.out, if_pos (by simp)] : closeS L p = (8, L))
      have hlen : (0 : Int) < ((k0 :: K).length : Int) := by simp
      clear HT2
      go_wp2
      go_ret2
      rw [E.out]
      exact ⟨_, rfl, H1.out, BB.out⟩
    | nil =>
      have E : Hid (closeS L p = (0, L.take p ++ L.drop (p + 1))) := (by rw [HT2.out, if_neg (by simp)] : closeS L p = (0, L.take p ++ L.drop (p + 1)))
      clear HT2
      have HF1 : Hid (Fo w1 (some ⟨g, 0, none⟩) p (FL (L.take p))) := by
        have h1 := H1.out.kept_fo (by omega)
        refine ⟨by omega, ?_⟩
        rcases h1.2 with h0 | ⟨b, o, ha, hb, hall⟩
        · omega
        · refine Or.inr ⟨b, o, ha, hb, fun j hj => ?_⟩
          have e : FL (L.take p) j = FL L j := by
            rw [FL_lt (by simp; omega), FL_lt (show j < L.length by omega)]
            simp
          rw [e]
          exact hall j (by omega)
      have HL : Hid (p = (L.take p).length) := (by simp; omega : p = (L.take p).length)
      obtain ⟨i0, hi, hz0, hz1, hz2⟩ := info_parts info33
      obtain ⟨hc1, hc2⟩ := H1.out.cap
      unfold maxLen at hc2
      have b0 : (0 : Int) ≤ (p : Int) := by omega
      have b1 : (p : Int) ≤ (c : Int) := by omega
      have b2 : (p : Int) + 1 ≤ (c : Int) := by omega
      have b3 : (0 : Int) ≤ (p : Int) + 1 := by omega
      have b4 : (p : Int) + 1 ≤ (L.length : Int) := by omega
      have b5 : IntKind.i64.wrap ((p : Int) + 1) = (p : Int) + 1 := by rw [IntKind.wrap_i64]; omega
      have HF2 : Hid (Fo w1.drew (some ⟨g, 0, none⟩) p (FL (L.take p))) := HF1.out
      go_wp2_with fail
      have hDl : Hid (((L.drop (p + 1)).flatMap accCells).length = (L.length - (p + 1)) * 8) := (by rw [flat_len]; simp : ((L.drop (p + 1)).flatMap accCells).length = (L.length - (p + 1)) * 8)
      have h63 : Hid ((L.take p).length + (L.length - (p + 1)) ≤ maxLen) := (by unfold maxLen; simp; omega : (L.take p).length + (L.length - (p + 1)) ≤ maxLen)
      have hby : Hid (((L.take p).length + (L.length - (p + 1))) * 64 ≤ 140737488355328) := (by simp; omega : ((L.take p).length + (L.length - (p + 1))) * 64 ≤ 140737488355328)
      have H1d : Hid (AL w1.drew B (.slice (some ⟨g, 0, none⟩) L.length c) L) := H1.out
      by_cases hcp : c = p + 1
      · have hdrop : Hid (∀ (x : World) j u, ((L.drop (p + 1)).flatMap accCells)[j]? = some u → x.cell? ((⟨g, 0, none⟩ : Addr).add j) = some u) := fun x j u hj => by
          rw [List.drop_eq_nil_of_le (by omega)] at hj
          simp at hj
        subst hcp
        have b6 : (p : Int) ≤ (p : Int) + 1 := by omega
        have b7 : (0 : Int) ≤ (p : Int) + 1 := by omega
        have b8 : (p : Int) + 1 ≤ (p : Int) + 1 := by omega
        clear hc1 hc2 b1 b2
        go_region_held3? (fun _ => True) (trivial) (first | (go_at_call 42; refine (specCopy (some ⟨g, 0, none⟩) p (p + 1) (L.take p) w1.drew HL.out HF2.out).mono ?_; rintro e w2 ⟨v2, rfl, A2, B2⟩) | (refine step_append_own _ (by rfl) _ _ 24 (by rfl) w1.heap.size 33 i0 _ 8 64 Try.underlying24 hi hz0 hz1 hz2 rfl (by decide) _ _ _ (by rfl) A2 ⟨g, 0, none⟩ (L.length - (p + 1)) _ ((L.drop (p + 1)).flatMap accCells) (by rfl) hDl.out (hdrop.out _) (flat_one _) h63.out hby.out B2.size ?_; intro v3 w3 hown hgrow))
        have A3 : Hid (AL w3 B v3 (L.take p ++ L.drop (p + 1))) := by
          have a3 : AL w3 w1.heap.size v3 (L.take p ++ L.drop (p + 1)) := by
            unfold AL
            rw [List.flatMap_append, List.length_append, List.length_drop]
            exact hown
          exact a3.mono (Nat.le_trans hBw BB.out.size)
        have B3 : Hid (Below B w w3) := by
          have b2 : Below B w w2 := Below.trans (show Below B w w1.drew from ⟨BB.out.os, BB.out.tape, BB.out.output, BB.out.size, BB.out.block⟩) (B2.mono (Nat.le_trans hBw BB.out.size))
          exact b2.grown hgrow (Nat.le_trans hBw b2.size) (fun q hq => Nat.le_trans (Nat.le_trans hBw BB.out.size) (World.ownsRow.lt A2 q hq).1)
        clear hown hgrow A2 B2
        go_wp2
        go_ret2
        rw [E.out]
        exact ⟨_, rfl, A3.out, B3.out⟩
      · go_region_held3 (fun _ => True) (trivial) (first | (go_at_call 42; refine (specCopy (some ⟨g, 0, none⟩) p c (L.take p) w1.drew HL.out HF2.out).mono ?_; rintro e w2 ⟨v2, rfl, A2, B2⟩) | (refine step_append_own _ (by rfl) _ _ 24 (by rfl) w1.heap.size 33 i0 _ 8 64 Try.underlying24 hi hz0 hz1 hz2 rfl (by decide) _ _ _ (by rfl) A2 ⟨g, (p + 1) * 8, none⟩ (L.length - (p + 1)) (c - (p + 1)) ((L.drop (p + 1)).flatMap accCells) (by rfl) hDl.out (AL.news (H1d.out.kept B2) (p + 1)) (flat_one _) h63.out hby.out B2.size ?_; intro v3 w3 hown hgrow))
        have A3 : Hid (AL w3 B v3 (L.take p ++ L.drop (p + 1))) := by
          have a3 : AL w3 w1.heap.size v3 (L.take p ++ L.drop (p + 1)) := by
            unfold AL
            rw [List.flatMap_append, List.length_append, List.length_drop]
            exact hown
          exact a3.mono (Nat.le_trans hBw BB.out.size)
        have B3 : Hid (Below B w w3) := by
          have b2 : Below B w w2 := Below.trans (show Below B w w1.drew from ⟨BB.out.os, BB.out.tape, BB.out.output, BB.out.size, BB.out.block⟩) (B2.mono (Nat.le_trans hBw BB.out.size))
          exact b2.grown hgrow (Nat.le_trans hBw b2.size) (fun q hq => Nat.le_trans (Nat.le_trans hBw BB.out.size) (World.ownsRow.lt A2 q hq).1)
        clear hown hgrow A2 B2
        go_wp2
        go_ret2
        rw [E.out]
        exact ⟨_, rfl, A3.out, B3.out⟩
  · have hbb : (xb != 0) = true := by simp [hb]
    have E : Hid (closeS L p = (8, L)) := (by rw [HT.out, if_pos (Or.inl hb)] : closeS L p = (8, L))
    clear hb HT
    go_enter Try.func65, Try.ntmps65
    go_wp2
    go_ret2
    rw [E.out]
    exact ⟨_, rfl, World.ownsRow.alloc (World.ownsRow.alloc H.out _) _, (((Below.refl _ _).alloc hBw _).alloc (by simp; omega) _)⟩
end Go.Proofs.Ytleblllofibfkaa
