/- The folder's own: has, and what the three kinds of ops find and do. Conditions: names of at most 2^63 - 1 bytes, data of at most 2^45. -/
import Derived.Test.YtcalgmhpagpnnaaByFd
import Derived.WalkLawsBesides
import Derived.Deep.RegionHeld3
namespace Go.Proofs.Ytcalgmhpagpnnaa
open Go.RowKit Go.Maps
set_option maxRecDepth 8000

theorem Fd.look {w : World} {B b : Nat} {T : List Ent} (h : Fd w B b T) (n : ByteArray) (hn : n.size ≤ maxLen) :
    ∃ v, (Instr.lookup 71 (.map (some b)) (.string n) false).run Try.prog w = .ok v w ∧ ((getN Ent.name n T = none ∧ v = .slice none 0 0) ∨ ∃ t, getN Ent.name n T = some t ∧ v = t.v) := by
  obtain ⟨v, ps, hrun, hv⟩ := World.ownsMap.lookup h.map keyed9 Try.underlying71 (zero22 w) (R := RV) (zd := .held (.slice none 0 0)) (zp := []) rfl (key9 hn)
  refine ⟨v, hrun, ?_⟩
  rw [ent_at] at hv
  cases hg : getN Ent.name n T with
  | none =>
    rw [hg] at hv
    exact Or.inl ⟨rfl, RV_inv hv⟩
  | some t =>
    rw [hg] at hv
    exact Or.inr ⟨t, rfl, RV_inv hv⟩
theorem Fd.look_ok {w : World} {B b : Nat} {T : List Ent} (h : Fd w B b T) (n : ByteArray) (hn : n.size ≤ maxLen) :
    ∃ v, (Instr.lookup 71 (.map (some b)) (.string n) true).run Try.prog w = .ok (.tuple #[v, .bool (getN Ent.name n T).isSome]) w := by
  obtain ⟨v, ps, hrun, hv⟩ := World.ownsMap.look_ok h.map keyed9 Try.underlying71 (zero22 w) (R := RV) (zd := .held (.slice none 0 0)) (zp := []) rfl (key9 hn)
  rw [ent_has] at hrun
  exact ⟨v, hrun⟩

theorem implHas (B b : Nat) (T : List Ent) (n : ByteArray) (w : World) (h : Fd w B b T) (hn : n.size ≤ maxLen) :
    Calls Try.prog 136 #[.map (some b), .string n] w fun e w' => e = .returned (.bool (getN Ent.name n T).isSome) ∧ w' = w := by
  obtain ⟨v, hrun⟩ := h.look_ok n hn
  generalize (getN Ent.name n T).isSome = x at *
  clear h
  go_enter Try.func136, Try.ntmps136
  go_wp2
  go_ret
  exact ⟨rfl, rfl⟩

theorem find1 (n d : ByteArray) (b : Nat) (w : World) :
    Calls Try.prog 133 #[.agg #[.string n, .string d], .map (some b)] w fun e w' => e = .returned (.bool true) ∧ Below w.heap.size w w' := by
  go_enter Try.func133, Try.ntmps133
  go_wp2
  go_ret
  exact ⟨rfl, (Below.refl _ _).alloc (Nat.le_refl _) _⟩
theorem find2 (n d : ByteArray) (B b : Nat) (T : List Ent) (w : World) (h : Fd w B b T) (hn : n.size ≤ maxLen) :
    Calls Try.prog 135 #[.agg #[.string n, .string d], .map (some b)] w fun e w' => e = .returned (.bool (getN Ent.name n T).isSome) ∧ Below w.heap.size w w' := by
  have H : Hid (Fd (w.alloc (.cells #[.string n, .string d] 119)) B b T) := h.below ((Below.refl _ _).alloc (Nat.le_refl _) _) (Nat.le_refl _)
  clear h
  go_enter Try.func135, Try.ntmps135
  go_wp2_with (go_at_call 136; refine (implHas B b T n _ H.out hn).mono ?_; rintro e w' ⟨rfl, rfl⟩)
  go_ret
  exact ⟨rfl, (Below.refl _ _).alloc (Nat.le_refl _) _⟩
theorem find3 (n : ByteArray) (B b : Nat) (T : List Ent) (w : World) (h : Fd w B b T) (hn : n.size ≤ maxLen) :
    Calls Try.prog 138 #[.agg #[.string n], .map (some b)] w fun e w' => e = .returned (.bool (getN Ent.name n T).isSome) ∧ Below w.heap.size w w' := by
  have H : Hid (Fd (w.alloc (.cells #[.string n] 121)) B b T) := h.below ((Below.refl _ _).alloc (Nat.le_refl _) _) (Nat.le_refl _)
  clear h
  go_enter Try.func138, Try.ntmps138
  go_wp2_with (go_at_call 136; refine (implHas B b T n _ H.out hn).mono ?_; rintro e w' ⟨rfl, rfl⟩)
  go_ret
  exact ⟨rfl, (Below.refl _ _).alloc (Nat.le_refl _) _⟩

/-- What is done to a folder. -/
def DoFd (w : World) (B b : Nat) (L : List Fl) (e : Ending) (w' : World) : Prop := e = .returned (.tuple #[]) ∧ (∃ T', Fd w' B b T' ∧ T'.map Ent.f = L) ∧ Below B w w'

set_option maxHeartbeats 1000000 in
theorem do3 (n : ByteArray) (B b : Nat) (T : List Ent) (w : World) (h : Fd w B b T) (hB : B ≤ w.heap.size) (hn : n.size ≤ maxLen) :
    Calls Try.prog 137 #[.agg #[.string n], .map (some b)] w fun e w' => DoFd w B b (cutN Fl.name n (T.map Ent.f)) e w' := by
  have H : Hid (Fd (w.alloc (.cells #[.string n] 121)) B b T) := h.below ((Below.refl _ _).alloc (Nat.le_refl _) _) (Nat.le_refl _)
  have B0 : Hid (Below B w (w.alloc (.cells #[.string n] 121))) := (Below.refl _ _).alloc hB _
  have hbb := h.base
  clear h
  go_enter Try.func137, Try.ntmps137
  go_wp2_with (first | (at_delete; refine wpList_delete_own _ rfl _ _ 71 9 rfl 22 keyed9 Try.underlying71 RV b _ _ rfl H.out.map _ _ rfl (key9 hn) ?_; intro w1 hown1 hturn1) | go_in)
  refine bodyPost_end (results_none rfl _ _ _) rfl ?_
  exact ⟨rfl, ⟨_, H.out.cut hown1 hturn1.grown, fl_cut _ _⟩, B0.out.grown hturn1.grown (by simp; omega) (fun k hk => by cases hk; exact hbb)⟩

set_option maxHeartbeats 1000000 in
theorem do2 (n s : ByteArray) (B b : Nat) (T : List Ent) (t : Ent) (w : World) (h : Fd w B b T) (hB : B ≤ w.heap.size) (hn : n.size ≤ maxLen) (hs : s.size ≤ maxLen) (hT : T.length < maxLen) (ht : getN Ent.name n T = some t) :
    Calls Try.prog 134 #[.agg #[.string n, .string s], .map (some b)] w fun e w' => DoFd w B b (putN Fl.name ⟨s, t.data⟩ (cutN Fl.name n (T.map Ent.f))) e w' := by
  have H : Hid (Fd (w.alloc (.cells #[.string n, .string s] 119)) B b T) := h.below ((Below.refl _ _).alloc (Nat.le_refl _) _) (Nat.le_refl _)
  have B0 : Hid (Below B w (w.alloc (.cells #[.string n, .string s] 119))) := (Below.refl _ _).alloc hB _
  have hbb := h.base
  have hbl : b ≠ w.heap.size := by have := h.map.lt; omega
  obtain ⟨v, hrun, hv⟩ := H.out.look n hn
  have hvt : v = t.v := by
    rcases hv with ⟨e, _⟩ | ⟨t', e, hv⟩
    · rw [ht] at e; cases e
    · rw [ht] at e; cases e; exact hv
  subst hvt
  clear hv
  have HT : Hid (getN Ent.name n T = some t) := ht
  have hlen : Hid ((cutN Ent.name n T).length < maxLen) := Nat.lt_of_le_of_lt (List.length_filter_le _ _) hT
  have hrow : Hid (ByR (w.alloc (.cells #[.string n, .string s] 119)) B t.v t.data) := H.out.rows t (getN_some ht).1
  clear h ht hT
  go_enter Try.func134, Try.ntmps134
  go_wp2_with (first | (at_delete; refine wpList_delete_own _ rfl _ _ 71 9 rfl 22 keyed9 Try.underlying71 RV b _ _ rfl H.out.map _ _ rfl (key9 hn) ?_; intro w1 hown1 hturn1; have F1 : Hid (Fd w1 B b (cutN Ent.name n T)) := H.out.cut hown1 hturn1.grown; have hsz1 : (w.alloc (.cells #[.string n, .string s] 119)).heap.size ≤ w1.heap.size := hturn1.grown.size; have hc1 : w1.cell? ⟨w.heap.size, 1, none⟩ = some (.string s) := (World.cell?_of_block (w := w.alloc (.cells #[.string n, .string s] 119)) (a := ⟨w.heap.size, 1, none⟩) (hturn1.grown.block w.heap.size (by simp) (by simp; omega))).trans (by simp [go_sem]); have G1 : Hid ((w.alloc (.cells #[.string n, .string s] 119)).grownBy w1 (some b)) := hturn1.grown; clear hown1 hturn1 hsz1) | (at_mapUpdate; refine wpList_mapUpdate_own _ rfl _ _ _ 71 rfl 9 22 keyed9 Try.underlying71 RV b _ _ rfl F1.out.map hlen.out _ _ (.string s.data.toList) rfl rfl (key9 hs) (.held t.v) [] (RV_by hrow.out) ?_; intro w2 hown2 hgrow2) | go_in)
  refine bodyPost_end (results_none rfl _ _ _) rfl ?_
  have F2 : Fd w2 B b (putN Ent.name ⟨s, t.v, t.data⟩ (cutN Ent.name n T)) := F1.out.put (row := none) (World.grownBy.refl _ _) (Or.inl rfl) (hrow.out.kept fun g hg => G1.out.block g (hrow.out.lt g hg).2 (fun e => H.out.not_b (getN_some HT.out).1 (by rw [hg, e]))) (fun u hu _ g hgu => apart_mem H.out.one (cutN_mem.1 hu).1 (getN_some HT.out).1 (by rw [(getN_some HT.out).2]; exact (cutN_mem.1 hu).2) g hgu) hown2 hgrow2
  refine ⟨rfl, ⟨_, F2, ?_⟩, (B0.out.grown G1.out (by simp; omega) (fun k hk => by cases hk; exact hbb)).grown hgrow2 (Nat.le_trans hB (Nat.le_trans (by simp) G1.out.size)) (fun k hk => by cases hk; exact hbb)⟩
  rw [fl_put, fl_cut]
  rfl

/-- append at its place in a region that draws its order. -/
theorem step_appendB {w : World} {ops : Array Oper} {o : Oper} {a : Act} {K : Act → World → Prop} {Q : Exit → Act → World → Prop} {E : Prop} (hgd : o.guard = none) (s x : Operand)
    (ho : o.op = .call { callee := .builtin .append, args := #[s, x], argTypes := #[22, 9] }) {B : Nat} {v : Value} {d : ByteArray} (hs : a.eval s = v) (hown : ByR w B v d) (sd : ByteArray) (hx : a.eval x = .string sd)
    (hsz : d.size + sd.size ≤ 70368744177664) (hB : B ≤ w.heap.size)
    (h : ∀ v' w', ByR w' B v' (d ++ sd) → w.grownBy w' v.ownBlock → (v'.ownBlock = v.ownBlock ∨ ∀ g, v'.ownBlock = some g → w.heap.size ≤ g) → K (a.put o.dst v') w') :
    if Region.wanted o (yielded ops a.tmps) = true then Oper.wp Try.prog o a w K Q else E := by
  have hw : Region.wanted o (yielded ops a.tmps) = true := by simp [Region.wanted, hgd]
  rw [if_pos hw]
  obtain ⟨v', w', hr, h2, h3, h4⟩ := run_appendB hown sd hsz hB o.type
  unfold Oper.wp execOp
  simp only [ho, resolve, invoke, builtin, Sem.run_bind, Sem.run_pure, Result.andThen_ok, List.map_toArray, List.map_cons, List.map_nil, hs, hx, hr]
  exact h v' w' h2 h3 h4

set_option maxHeartbeats 2000000 in
theorem do1 (n d : ByteArray) (B b : Nat) (T : List Ent) (w : World) (h : Fd w B b T) (hB : B ≤ w.heap.size) (hn : n.size ≤ maxLen) (hT : T.length < maxLen) (hd : ∀ t ∈ T, t.data.size + d.size ≤ 70368744177664) (hd0 : d.size ≤ 70368744177664) :
    Calls Try.prog 132 #[.agg #[.string n, .string d], .map (some b)] w fun e w' => DoFd w B b (putN Fl.name ⟨n, (((getN Fl.name n (T.map Ent.f)).map Fl.data).getD ByteArray.empty) ++ d⟩ (T.map Ent.f)) e w' := by
  obtain ⟨W, hW⟩ : ∃ W, W = w.alloc (.cells #[.string n, .string d] 117) := ⟨_, rfl⟩
  have BW : Hid (Below w.heap.size w W) := (by rw [hW]; exact (Below.refl _ _).alloc (Nat.le_refl _) _ : Below w.heap.size w W)
  have F0 : Fd W.drew B b T := (h.below BW.out (Nat.le_refl _)).kept fun _ _ _ => rfl
  have hbb := h.base
  have x0 : W.cell? ⟨w.heap.size, 0, none⟩ = some (.string n) := by rw [hW]; simp [go_sem]
  have x1 : W.cell? ⟨w.heap.size, 1, none⟩ = some (.string d) := by rw [hW]; simp [go_sem]
  have hwz : w.heap.size < W.heap.size := by rw [hW]; simp
  have hbz : b ≠ w.heap.size := by have := h.map.lt; omega
  obtain ⟨v, hrun, hv⟩ := F0.look n hn
  obtain ⟨d0, hrow, hget, hsz, hvr⟩ : ∃ d0, ByR W.drew B v d0 ∧ (((getN Fl.name n (T.map Ent.f)).map Fl.data).getD ByteArray.empty) = d0 ∧ d0.size + d.size ≤ 70368744177664 ∧ (v.ownBlock = none ∨ ∃ t, getN Ent.name n T = some t ∧ t.v.ownBlock = v.ownBlock) := by
    rcases hv with ⟨hg, rfl⟩ | ⟨t, hg, rfl⟩
    · refine ⟨ByteArray.empty, Or.inl ⟨rfl, rfl⟩, ?_, ?_, Or.inl rfl⟩
      · rw [fl_get, hg]; rfl
      · have : ByteArray.empty.size = 0 := rfl
        omega
    · refine ⟨t.data, F0.rows t (getN_some hg).1, ?_, hd t (getN_some hg).1, Or.inr ⟨t, hg, rfl⟩⟩
      rw [fl_get, hg]; rfl
  have HF : Hid (Fd W.drew B b T) := F0
  have HR : Hid (ByR W.drew B v d0) := hrow
  have HG : Hid ((((getN Fl.name n (T.map Ent.f)).map Fl.data).getD ByteArray.empty) = d0) := hget
  have HV : Hid (v.ownBlock = none ∨ ∃ t, getN Ent.name n T = some t ∧ t.v.ownBlock = v.ownBlock) := hvr
  have HL : Hid (∀ g, v.ownBlock = some g → g ≠ w.heap.size) := fun g hg e => by
    rcases hvr with e0 | ⟨t, ht, e0⟩
    · rw [hg] at e0; cases e0
    · have h1 := ((h.rows t (getN_some ht).1).lt g (by rw [e0, hg])).2
      omega
  have HNB : Hid (v.ownBlock ≠ some b) := fun e => by
    rcases hvr with e0 | ⟨t, ht, e0⟩
    · rw [e] at e0; cases e0
    · exact F0.not_b (getN_some ht).1 (by rw [e0, e])
  have hsW : B ≤ W.drew.heap.size := Nat.le_trans hB (Nat.le_of_lt hwz)
  have HT : Hid (T.length < maxLen) := hT
  clear h F0 hrow hget hv hd hvr hT
  go_enter Try.func132, Try.ntmps132
  go_wp2
  rw [← hW]
  clear hW
  go_region_held3 (fun V => V.cell? ⟨w.heap.size, 0, none⟩ = some (.string n) ∧ V.cell? ⟨w.heap.size, 1, none⟩ = some (.string d)) (first | exact ⟨x0, x1⟩ | exact ⟨y0, y1⟩ | exact ⟨z0, z1⟩) (first | (refine step_appendB (by rfl) _ _ (by rfl) (by rfl) HR.out d (by rfl) hsz hsW ?_; intro v1 w1 hown1 hgrow1 hloc1; have y0 : w1.cell? ⟨w.heap.size, 0, none⟩ = some (.string n) := (World.cell?_of_block (w := W.drew) (a := ⟨w.heap.size, 0, none⟩) (hgrow1.block w.heap.size hwz (fun e => HL.out _ e.symm rfl))).trans x0; have y1 : w1.cell? ⟨w.heap.size, 1, none⟩ = some (.string d) := (World.cell?_of_block (w := W.drew) (a := ⟨w.heap.size, 1, none⟩) (hgrow1.block w.heap.size hwz (fun e => HL.out _ e.symm rfl))).trans x1; obtain ⟨w2, hrun2, hown2, hgrow2⟩ := World.ownsMap.update (own_block HF.out.map (hgrow1.block b HF.out.map.lt (fun e => HNB.out e.symm))) keyed9 Try.underlying71 HT.out (key9 hn) (RV_by hown1); have hw1z : w.heap.size < w1.heap.size := Nat.lt_of_lt_of_le hwz hgrow1.size; have z0 : w2.cell? ⟨w.heap.size, 0, none⟩ = some (.string n) := (World.cell?_of_block (w := w1) (a := ⟨w.heap.size, 0, none⟩) (hgrow2.block w.heap.size hw1z (fun e => hbz (Option.some.inj e).symm))).trans y0; have z1 : w2.cell? ⟨w.heap.size, 1, none⟩ = some (.string d) := (World.cell?_of_block (w := w1) (a := ⟨w.heap.size, 1, none⟩) (hgrow2.block w.heap.size hw1z (fun e => hbz (Option.some.inj e).symm))).trans y1))
  have hlo : (∃ t, getN Ent.name n T = some t ∧ v1.ownBlock = t.v.ownBlock) ∨ ∀ g, v1.ownBlock = some g → W.drew.heap.size ≤ g := by
    rcases hloc1 with e | e
    · rcases HV.out with e0 | ⟨t, ht, e0⟩
      · exact Or.inr fun g hg => by rw [e, e0] at hg; cases hg
      · exact Or.inl ⟨t, ht, by rw [e, e0]⟩
    · exact Or.inr e
  have F2 : Fd w2 B b (putN Ent.name ⟨n, v1, d0 ++ d⟩ T) := HF.out.put hgrow1 HV.out hown1 (HF.out.apart_loc hlo) hown2 hgrow2
  have B1 : Below B w w1 := Below.grown (w := W.drew) ⟨BW.out.os, BW.out.tape, BW.out.output, BW.out.size, fun k hk => BW.out.block k (Nat.lt_of_lt_of_le hk hB)⟩ hgrow1 hsW (fun k hk => (HR.out.lt k hk).1)
  refine bodyPost_end (results_none rfl _ _ _) rfl ?_
  refine ⟨rfl, ⟨_, F2, ?_⟩, B1.grown hgrow2 (Nat.le_trans hB B1.size) (fun k hk => by cases hk; exact hbb)⟩
  rw [fl_put, HG.out]
  rfl
end Go.Proofs.Ytcalgmhpagpnnaa
