/- What the specification does to one account, whatever the kind of the op. Conditions: the accounts lie in memory of the call's own and are a right forest, the op is right. -/
import Derived.Test.YtleblllofibfkaaClose
import Derived.Test.YtleblllofibfkaaOpenS
import Derived.Test.YtleblllofibfkaaHang
namespace Go.Proofs.Ytleblllofibfkaa
open Go.RowKit
set_option maxRecDepth 8000

open Classical in
/-- What an op on one account comes to. -/
noncomputable def actS (L : List Acc) (p : Nat) (k m : Int) : Int × List Acc :=
  if k = 2 then (if (FL L p).frozen = true then (5, L) else (0, L.set p { FL L p with frozen := true })) else
  if k = 3 then (if (FL L p).frozen = true then (0, L.set p { FL L p with frozen := false }) else (5, L)) else
  if k = 4 then (if (FL L p).frozen = true then (5, L) else closeS L p) else
  if k = 5 then (if (FL L p).frozen = true then (5, L) else (0, L.set p { FL L p with balance := (FL L p).balance + m })) else
  if k = 6 then (if (FL L p).frozen = true then (5, L) else takeS L p m) else
  if k = 8 then (if (FL L p).up = 0 ∧ m < 0 then (8, L) else (0, L.set p { FL L p with limit := m })) else
  (if (FL L p).up = 0 then (8, L) else (0, L.set p { FL L p with target := m }))

theorem Out.of {R : Int × List Acc} {B : Nat} {w w' : World} {e : Ending} {v : Value} {cd : Int} {L' : List Acc} (hR : R = (cd, L')) (h : e = .returned (.tuple #[v, .int .i64 cd]) ∧ AL w' B v L' ∧ Below B w w') : Out R B w e w' := by
  subst hR
  exact ⟨v, h.1, h.2.1, h.2.2⟩

theorem specAct (B g c : Nat) (L : List Acc) (p : Nat) (k i t m r : Int) (w : World) (h : AL w B (.slice (some ⟨g, 0, none⟩) L.length c) L) (hBw : B ≤ w.heap.size) (hR : Right (FL L) L.length) (hp : p < L.length) (ho : opOk k i t m r) (h1 : k ≠ 1) (h7 : k ≠ 7) (h9 : k ≠ 9) :
    Calls Try.prog 65 #[.slice (some ⟨g, 0, none⟩) L.length c, .int .i64 p, .agg #[.int .i64 k, .int .i64 i, .int .i64 t, .int .i64 m, .int .i64 r]] w fun e w' => Out (actS L p k m) B w e w' := by
  obtain ⟨xb1, xb2⟩ := (hR.2.1 p hp).2.2.2.2.2.1
  have hk : k = 2 ∨ k = 3 ∨ k = 4 ∨ k = 5 ∨ k = 6 ∨ k = 8 ∨ k = 10 := by unfold opOk at ho; omega
  cases hx : FL L p with
  | mk xi xu xl xr xt xf xb xc =>
  rw [hx] at xb1 xb2
  simp only at xb1 xb2
  rcases hk with rfl | rfl | rfl | rfl | rfl | rfl | rfl
  · cases xf with
    | true => exact (specAct2_no B g c L p i t m r xi xu xl xr xt xb xc w h hBw hp hx).mono fun e w' hh => Out.of (by simp [actS, hx]) hh
    | false => exact (specAct2_yes B g c L p i t m r xi xu xl xr xt xb xc w h hBw hp hx).mono fun e w' hh => Out.of (by simp [actS, hx]) hh
  · cases xf with
    | false => exact (specAct3_no B g c L p i t m r xi xu xl xr xt xb xc w h hBw hp hx).mono fun e w' hh => Out.of (by simp [actS, hx]) hh
    | true => exact (specAct3_yes B g c L p i t m r xi xu xl xr xt xb xc w h hBw hp hx).mono fun e w' hh => Out.of (by simp [actS, hx]) hh
  · cases xf with
    | true => exact (specAct4_no B g c L p i t m r xi xu xl xr xt xb xc w h hBw hp hx).mono fun e w' hh => Out.of (by simp [actS, hx]) hh
    | false =>
      have e : actS L p 4 m = closeS L p := by simp [actS, hx]
      rw [e]
      exact specAct4 B g c L p i t m r xi xu xl xr xt xb xc w h hBw hR hp hx
  · cases xf with
    | true => exact (specAct5_no B g c L p i t m r xi xu xl xr xt xb xc w h hBw hp hx).mono fun e w' hh => Out.of (by simp [actS, hx]) hh
    | false => exact (specAct5_yes B g c L p i t m r xi xu xl xr xt xb xc w h hBw hp hx (by unfold opOk at ho; omega) (by unfold opOk at ho; omega) xb1 xb2).mono fun e w' hh => Out.of (by simp [actS, hx]) hh
  · cases xf with
    | true => exact (specAct6_no B g c L p i t m r xi xu xl xr xt xb xc w h hBw hp hx).mono fun e w' hh => Out.of (by simp [actS, hx]) hh
    | false =>
      have e : actS L p 6 m = takeS L p m := by simp [actS, hx]
      rw [e]
      exact specAct6 B g c L p i t m r xi xu xl xr xt xb xc w h hBw hR hp hx (by unfold opOk at ho; omega) (by unfold opOk at ho; omega)
  · by_cases hu : xu = 0
    · subst hu
      by_cases hm : m < 0
      · exact (specAct8_no B g c L p i t m r xi xl xr xt xb xc xf w h hBw hp hx hm).mono fun e w' hh => Out.of (by simp [actS, hx, hm]) hh
      · exact (specAct8_root B g c L p i t m r xi xl xr xt xb xc xf w h hBw hp hx (by omega)).mono fun e w' hh => Out.of (by simp [actS, hx, hm]) hh
    · exact (specAct8_yes B g c L p i t m r xi xu xl xr xt xb xc xf w h hBw hp hx hu).mono fun e w' hh => Out.of (by simp [actS, hx, hu]) hh
  · by_cases hu : xu = 0
    · subst hu
      exact (specAct10_no B g c L p i t m r xi xl xr xt xb xc xf w h hBw hp hx).mono fun e w' hh => Out.of (by simp [actS, hx]) hh
    · exact (specAct10_yes B g c L p i t m r xi xu xl xr xt xb xc xf w h hBw hp hx hu).mono fun e w' hh => Out.of (by simp [actS, hx, hu]) hh

/-- What the kind's own part of an op comes to, on a right forest. -/
noncomputable def partS (L : List Acc) (k i t m r : Int) : Int × List Acc :=
  if k = 1 then openS L i t m r else
  match place (FL L) L.length i with
  | none => (3, L)
  | some p =>
    if k = 7 then (match place (FL L) L.length t with | none => (3, L) | some q => payS L p q m) else
    if k = 9 then (match place (FL L) L.length t with | none => (3, L) | some q => hangS L p q ((place (FL L) L.length (FL L p).up).getD 0)) else
    actS L p k m
open Classical in
/-- What comes of it must be right. -/
noncomputable def finS (L : List Acc) (R : Int × List Acc) : Int × List Acc := if R.1 = 0 then (if Right (FL R.2) R.2.length then R else (7, L)) else (R.1, L)
open Classical in
/-- What an op comes to, on a right forest. -/
noncomputable def doneS (L : List Acc) (k i t m r : Int) : Int × List Acc := if opOk k i t m r then finS L (partS L k i t m r) else (2, L)

theorem ite_len {p : Prop} {d : Decidable p} {A C : Int × List Acc} {n : Nat} (hA : A.2.length ≤ n) (hC : C.2.length ≤ n) : (if p then A else C).2.length ≤ n := by
  split
  · exact hA
  · exact hC
theorem openS_len (L : List Acc) (i t m r : Int) : (openS L i t m r).2.length ≤ L.length + 1 := by
  unfold openS
  refine ite_len (by simp) (ite_len (by simp) ?_)
  simp
  omega
theorem payS_len (L : List Acc) (p q : Nat) (m : Int) : (payS L p q m).2.length ≤ L.length + 1 := by
  unfold payS
  exact ite_len (by simp) (ite_len (by simp) (by simp))
theorem hangS_len (L : List Acc) (p q u : Nat) : (hangS L p q u).2.length ≤ L.length + 1 := by
  unfold hangS
  exact ite_len (by simp) (ite_len (by simp) (by simp))
theorem takeS_len (L : List Acc) (p : Nat) (m : Int) : (takeS L p m).2.length ≤ L.length + 1 := by
  unfold takeS
  exact ite_len (by simp) (by simp)
theorem closeS_len (L : List Acc) (p : Nat) : (closeS L p).2.length ≤ L.length + 1 := by
  unfold closeS
  refine ite_len (by simp) ?_
  simp
  omega
theorem actS_len (L : List Acc) (p : Nat) (k m : Int) : (actS L p k m).2.length ≤ L.length + 1 := by
  unfold actS
  exact ite_len (ite_len (by simp) (by simp)) (ite_len (ite_len (by simp) (by simp)) (ite_len (ite_len (by simp) (closeS_len L p)) (ite_len (ite_len (by simp) (by simp)) (ite_len (ite_len (by simp) (takeS_len L p m)) (ite_len (ite_len (by simp) (by simp)) (ite_len (by simp) (by simp)))))))
theorem partS_len (L : List Acc) (k i t m r : Int) : (partS L k i t m r).2.length ≤ L.length + 1 := by
  unfold partS
  refine ite_len (openS_len L i t m r) ?_
  cases place (FL L) L.length i with
  | none => simp
  | some p =>
    refine ite_len ?_ (ite_len ?_ (actS_len L p k m))
    · cases place (FL L) L.length t with
      | none => simp
      | some q => exact payS_len L p q m
    · cases place (FL L) L.length t with
      | none => simp
      | some q => exact hangS_len L p q _
end Go.Proofs.Ytleblllofibfkaa
