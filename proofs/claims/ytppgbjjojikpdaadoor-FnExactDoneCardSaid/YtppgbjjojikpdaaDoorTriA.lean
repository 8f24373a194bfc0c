/- The program's tried, of each kind of op. Conditions: the accounts lie in memory and are a right forest; the package's errors lie as they were laid. -/
import Derived.Test.YtppgbjjojikpdaaDoorTriG
namespace Go.Proofs.YtppgbjjojikpdaaDoor
open Go.RowKit

theorem bal_in {L : List Acc} (hR : Right (FL L) L.length) {j : Nat} (hj : j < L.length) : -1000000000000 ≤ (FL L j).balance ∧ (FL L j).balance ≤ 1000000000000 := ((okS_iff _).1 (hR.2.1 j hj)).1.2.2.2.1

theorem tri2 (a : Option Addr) (c : Nat) (L : List Acc) (i t m r : Int) (p : Nat → Addr) (w : World) (h : Fo w a L.length (FL L)) (hR : Right (FL L) L.length) (hG : GE w p) (ho : opOk 2 i t m r) :
    Calls Tryd.prog 16 #[.slice a L.length c, .agg #[.int .i64 2, .int .i64 i, .int .i64 t, .int .i64 m, .int .i64 r]] w fun e w' => TOut p (finS L (partS L 2 i t m r)) w e w' := by
  have hl : (partS L 2 i t m r).2.length ≤ 1048576 := by have h1 := partS_len L 2 i t m r; have h2 := hR.1; omega
  refine triedG 77 84 (.agg #[.int .i64 i, .bool true]) a c L 2 i t m r p w h hG ho (partS L 2 i t m r) hl (fun W => deed2 i t m r W) (fun W => meth77 _ W) (enters_of Tryd.func84 (by kernel_rfl) rfl) (fun W hF hG' => hFrost2 a c L i t m r p W hF hR hG') (fun W hF h0 => ?_)
  cases hp : place (FL L) L.length i with
  | none => simp [partS, hp] at h0
  | some j =>
    have hj := (place_some hp).1
    have e : partS L 2 i t m r = actS L j 2 m := by simp [partS, hp]
    rw [e] at h0 ⊢
    cases hf : (FL L j).frozen with
    | true => simp [actS, hf] at h0
    | false =>
      have e2 : (actS L j 2 m).2 = L.set j { FL L j with frozen := true } := by simp [actS, hf]
      rw [e2]
      exact chgFrost a c L i true j W hF hp

theorem tri3 (a : Option Addr) (c : Nat) (L : List Acc) (i t m r : Int) (p : Nat → Addr) (w : World) (h : Fo w a L.length (FL L)) (hR : Right (FL L) L.length) (hG : GE w p) (ho : opOk 3 i t m r) :
    Calls Tryd.prog 16 #[.slice a L.length c, .agg #[.int .i64 3, .int .i64 i, .int .i64 t, .int .i64 m, .int .i64 r]] w fun e w' => TOut p (finS L (partS L 3 i t m r)) w e w' := by
  have hl : (partS L 3 i t m r).2.length ≤ 1048576 := by have h1 := partS_len L 3 i t m r; have h2 := hR.1; omega
  refine triedG 77 84 (.agg #[.int .i64 i, .bool false]) a c L 3 i t m r p w h hG ho (partS L 3 i t m r) hl (fun W => deed3 i t m r W) (fun W => meth77 _ W) (enters_of Tryd.func84 (by kernel_rfl) rfl) (fun W hF hG' => hFrost3 a c L i t m r p W hF hR hG') (fun W hF h0 => ?_)
  cases hp : place (FL L) L.length i with
  | none => simp [partS, hp] at h0
  | some j =>
    have hj := (place_some hp).1
    have e : partS L 3 i t m r = actS L j 3 m := by simp [partS, hp]
    rw [e] at h0 ⊢
    cases hf : (FL L j).frozen with
    | false => simp [actS, hf] at h0
    | true =>
      have e2 : (actS L j 3 m).2 = L.set j { FL L j with frozen := false } := by simp [actS, hf]
      rw [e2]
      exact chgFrost a c L i false j W hF hp

theorem tri4 (a : Option Addr) (c : Nat) (L : List Acc) (i t m r : Int) (p : Nat → Addr) (w : World) (h : Fo w a L.length (FL L)) (hR : Right (FL L) L.length) (hG : GE w p) (ho : opOk 4 i t m r) :
    Calls Tryd.prog 16 #[.slice a L.length c, .agg #[.int .i64 4, .int .i64 i, .int .i64 t, .int .i64 m, .int .i64 r]] w fun e w' => TOut p (finS L (partS L 4 i t m r)) w e w' := by
  have hl : (partS L 4 i t m r).2.length ≤ 1048576 := by have h1 := partS_len L 4 i t m r; have h2 := hR.1; omega
  refine triedG 79 85 (.agg #[.int .i64 i]) a c L 4 i t m r p w h hG ho (partS L 4 i t m r) hl (fun W => deed4 i t m r W) (fun W => meth79 _ W) (enters_of Tryd.func85 (by kernel_rfl) rfl) (fun W hF hG' => hClose a c L i t m r p W hF hR hG') (fun W hF h0 => ?_)
  cases hp : place (FL L) L.length i with
  | none => simp [partS, hp] at h0
  | some j =>
    have hj := (place_some hp).1
    have e : partS L 4 i t m r = actS L j 4 m := by simp [partS, hp]
    rw [e] at h0 ⊢
    cases hf : (FL L j).frozen with
    | true => simp [actS, hf] at h0
    | false =>
      have e1 : actS L j 4 m = closeS L j := by simp [actS, hf]
      rw [e1] at h0 ⊢
      unfold closeS at h0 ⊢
      split at h0
      · simp at h0
      · rename_i hcd
        rw [if_neg hcd]
        exact chgClose a c L i j W hF hp

theorem tri5 (a : Option Addr) (c : Nat) (L : List Acc) (i t m r : Int) (p : Nat → Addr) (w : World) (h : Fo w a L.length (FL L)) (hR : Right (FL L) L.length) (hG : GE w p) (ho : opOk 5 i t m r) :
    Calls Tryd.prog 16 #[.slice a L.length c, .agg #[.int .i64 5, .int .i64 i, .int .i64 t, .int .i64 m, .int .i64 r]] w fun e w' => TOut p (finS L (partS L 5 i t m r)) w e w' := by
  have hl : (partS L 5 i t m r).2.length ≤ 1048576 := by have h1 := partS_len L 5 i t m r; have h2 := hR.1; omega
  refine triedG 81 88 (.agg #[.int .i64 i, .int .i64 m]) a c L 5 i t m r p w h hG ho (partS L 5 i t m r) hl (fun W => deed5 i t m r W) (fun W => meth81 _ W) (enters_of Tryd.func88 (by kernel_rfl) rfl) (fun W hF hG' => hPut a c L i t m r p W hF hR hG') (fun W hF h0 => ?_)
  cases hp : place (FL L) L.length i with
  | none => simp [partS, hp] at h0
  | some j =>
    have hj := (place_some hp).1
    have e : partS L 5 i t m r = actS L j 5 m := by simp [partS, hp]
    rw [e] at h0 ⊢
    cases hf : (FL L j).frozen with
    | true => simp [actS, hf] at h0
    | false =>
      have e2 : (actS L j 5 m).2 = L.set j { FL L j with balance := (FL L j).balance + m } := by simp [actS, hf]
      rw [e2]
      have hb := bal_in hR hj
      unfold opOk at ho
      exact chgPut a c L i m j W hF hp (by omega) (by omega) hb.1 hb.2

theorem tri6 (a : Option Addr) (c : Nat) (L : List Acc) (i t m r : Int) (p : Nat → Addr) (w : World) (h : Fo w a L.length (FL L)) (hR : Right (FL L) L.length) (hG : GE w p) (ho : opOk 6 i t m r) :
    Calls Tryd.prog 16 #[.slice a L.length c, .agg #[.int .i64 6, .int .i64 i, .int .i64 t, .int .i64 m, .int .i64 r]] w fun e w' => TOut p (finS L (partS L 6 i t m r)) w e w' := by
  have hl : (partS L 6 i t m r).2.length ≤ 1048576 := by have h1 := partS_len L 6 i t m r; have h2 := hR.1; omega
  refine triedG 82 89 (.agg #[.int .i64 i, .int .i64 m]) a c L 6 i t m r p w h hG ho (partS L 6 i t m r) hl (fun W => deed6 i t m r W) (fun W => meth82 _ W) (enters_of Tryd.func89 (by kernel_rfl) rfl) (fun W hF hG' => hTake a c L i t m r p W hF hR hG') (fun W hF h0 => ?_)
  cases hp : place (FL L) L.length i with
  | none => simp [partS, hp] at h0
  | some j =>
    have hj := (place_some hp).1
    have e : partS L 6 i t m r = actS L j 6 m := by simp [partS, hp]
    rw [e] at h0 ⊢
    cases hf : (FL L j).frozen with
    | true => simp [actS, hf] at h0
    | false =>
      have e1 : actS L j 6 m = takeS L j m := by simp [actS, hf]
      rw [e1] at h0 ⊢
      unfold takeS at h0 ⊢
      split at h0
      · simp at h0
      · rename_i hcd
        rw [if_neg hcd]
        have hb := bal_in hR hj
        unfold opOk at ho
        exact chgTake a c L i m j W hF hp (by omega) (by omega) hb.1 hb.2

theorem tri8 (a : Option Addr) (c : Nat) (L : List Acc) (i t m r : Int) (p : Nat → Addr) (w : World) (h : Fo w a L.length (FL L)) (hR : Right (FL L) L.length) (hG : GE w p) (ho : opOk 8 i t m r) :
    Calls Tryd.prog 16 #[.slice a L.length c, .agg #[.int .i64 8, .int .i64 i, .int .i64 t, .int .i64 m, .int .i64 r]] w fun e w' => TOut p (finS L (partS L 8 i t m r)) w e w' := by
  have hl : (partS L 8 i t m r).2.length ≤ 1048576 := by have h1 := partS_len L 8 i t m r; have h2 := hR.1; omega
  refine triedG 86 98 (.agg #[.int .i64 i, .int .i64 m]) a c L 8 i t m r p w h hG ho (partS L 8 i t m r) hl (fun W => deed8 i t m r W) (fun W => meth86 _ W) (enters_of Tryd.func98 (by kernel_rfl) rfl) (fun W hF hG' => hLimit a c L i t m r p W hF hR hG' (by unfold opOk at ho; omega)) (fun W hF h0 => ?_)
  cases hp : place (FL L) L.length i with
  | none => simp [partS, hp] at h0
  | some j =>
    have hj := (place_some hp).1
    have e : partS L 8 i t m r = actS L j 8 m := by simp [partS, hp]
    rw [e] at h0 ⊢
    have e1 : actS L j 8 m = (if (FL L j).up = 0 ∧ m < 0 then (8, L) else (0, L.set j { FL L j with limit := m })) := by simp [actS]
    rw [e1] at h0 ⊢
    split at h0
    · simp at h0
    · rename_i hcd
      rw [if_neg hcd]
      exact chgLimit a c L i m j W hF hp

theorem tri10 (a : Option Addr) (c : Nat) (L : List Acc) (i t m r : Int) (p : Nat → Addr) (w : World) (h : Fo w a L.length (FL L)) (hR : Right (FL L) L.length) (hG : GE w p) (ho : opOk 10 i t m r) :
    Calls Tryd.prog 16 #[.slice a L.length c, .agg #[.int .i64 10, .int .i64 i, .int .i64 t, .int .i64 m, .int .i64 r]] w fun e w' => TOut p (finS L (partS L 10 i t m r)) w e w' := by
  have hl : (partS L 10 i t m r).2.length ≤ 1048576 := by have h1 := partS_len L 10 i t m r; have h2 := hR.1; omega
  refine triedG 88 99 (.agg #[.int .i64 i, .int .i64 m]) a c L 10 i t m r p w h hG ho (partS L 10 i t m r) hl (fun W => deed10 i t m r W) (fun W => meth88 _ W) (enters_of Tryd.func99 (by kernel_rfl) rfl) (fun W hF hG' => hTarget a c L i t m r p W hF hR hG') (fun W hF h0 => ?_)
  cases hp : place (FL L) L.length i with
  | none => simp [partS, hp] at h0
  | some j =>
    have hj := (place_some hp).1
    have e : partS L 10 i t m r = actS L j 10 m := by simp [partS, hp]
    rw [e] at h0 ⊢
    have e1 : actS L j 10 m = (if (FL L j).up = 0 then (8, L) else (0, L.set j { FL L j with target := m })) := by simp [actS]
    rw [e1] at h0 ⊢
    split at h0
    · simp at h0
    · rename_i hcd
      rw [if_neg hcd]
      exact chgTarget a c L i m j W hF hp

theorem tri7 (a : Option Addr) (c : Nat) (L : List Acc) (i t m r : Int) (p : Nat → Addr) (w : World) (h : Fo w a L.length (FL L)) (hR : Right (FL L) L.length) (hG : GE w p) (ho : opOk 7 i t m r) :
    Calls Tryd.prog 16 #[.slice a L.length c, .agg #[.int .i64 7, .int .i64 i, .int .i64 t, .int .i64 m, .int .i64 r]] w fun e w' => TOut p (finS L (partS L 7 i t m r)) w e w' := by
  have hl : (partS L 7 i t m r).2.length ≤ 1048576 := by have h1 := partS_len L 7 i t m r; have h2 := hR.1; omega
  refine triedG 84 97 (.agg #[.int .i64 i, .int .i64 t, .int .i64 m]) a c L 7 i t m r p w h hG ho (partS L 7 i t m r) hl (fun W => deed7 i t m r W) (fun W => meth84 _ W) (enters_of Tryd.func97 (by kernel_rfl) rfl) (fun W hF hG' => hPay a c L i t m r p W hF hR hG') (fun W hF h0 => ?_)
  cases hp : place (FL L) L.length i with
  | none => simp [partS, hp] at h0
  | some j =>
    have hj := (place_some hp).1
    cases hq : place (FL L) L.length t with
    | none => simp [partS, hp, hq] at h0
    | some q =>
      have hql := (place_some hq).1
      have e : partS L 7 i t m r = payS L j q m := by simp [partS, hp, hq]
      rw [e] at h0 ⊢
      unfold payS at h0 ⊢
      split at h0
      · simp at h0
      · rename_i hc1
        rw [if_neg hc1]
        split at h0
        · simp at h0
        · rename_i hc2
          rw [if_neg hc2]
          have hb := bal_in hR hj
          have hb2 := bal_in hR hql
          have hne : j ≠ q := fun e => by
            have e1 := (place_some hp).2
            have e2 := (place_some hq).2
            subst e
            unfold opOk at ho
            omega
          unfold opOk at ho
          exact chgPay a c L i t m j q W hF hp hq hne (by omega) (by omega) hb.1 hb.2 hb2.1 hb2.2

theorem tri9 (a : Option Addr) (c : Nat) (L : List Acc) (i t m r : Int) (p : Nat → Addr) (w : World) (h : Fo w a L.length (FL L)) (hR : Right (FL L) L.length) (hG : GE w p) (ho : opOk 9 i t m r) :
    Calls Tryd.prog 16 #[.slice a L.length c, .agg #[.int .i64 9, .int .i64 i, .int .i64 t, .int .i64 m, .int .i64 r]] w fun e w' => TOut p (finS L (partS L 9 i t m r)) w e w' := by
  have hl : (partS L 9 i t m r).2.length ≤ 1048576 := by have h1 := partS_len L 9 i t m r; have h2 := hR.1; omega
  refine triedG 90 100 (.agg #[.int .i64 i, .int .i64 t]) a c L 9 i t m r p w h hG ho (partS L 9 i t m r) hl (fun W => deed9 i t m r W) (fun W => meth90 _ W) (enters_of Tryd.func100 (by kernel_rfl) rfl) (fun W hF hG' => hHang a c L i t m r p W hF hR hG') (fun W hF h0 => ?_)
  cases hp : place (FL L) L.length i with
  | none => simp [partS, hp] at h0
  | some j =>
    have hj := (place_some hp).1
    cases hq : place (FL L) L.length t with
    | none => simp [partS, hp, hq] at h0
    | some q =>
      have hql := (place_some hq).1
      have e : partS L 9 i t m r = hangS L j q ((place (FL L) L.length (FL L j).up).getD 0) := by simp [partS, hp, hq]
      rw [e] at h0 ⊢
      unfold hangS at h0 ⊢
      split at h0
      · simp at h0
      · rename_i hc1
        rw [if_neg hc1]
        split at h0
        · simp at h0
        · rename_i hc2
          rw [if_neg hc2, (place_some hq).2]
          exact chgHang a c L i t j W hF hp

theorem tri1 (a : Option Addr) (c : Nat) (L : List Acc) (i t m r : Int) (p : Nat → Addr) (w : World) (h : Fo w a L.length (FL L)) (hR : Right (FL L) L.length) (hG : GE w p) (ho : opOk 1 i t m r) :
    Calls Tryd.prog 16 #[.slice a L.length c, .agg #[.int .i64 1, .int .i64 i, .int .i64 t, .int .i64 m, .int .i64 r]] w fun e w' => TOut p (finS L (partS L 1 i t m r)) w e w' := by
  have hl : (partS L 1 i t m r).2.length ≤ 1048576 := by have h1 := partS_len L 1 i t m r; have h2 := hR.1; omega
  refine triedG 75 82 (.agg #[.int .i64 i, .int .i64 t, .int .i64 m, .int .i64 r, .int .i64 (-1), .bool false, .int .i64 0, .int .i64 0]) a c L 1 i t m r p w h hG ho (partS L 1 i t m r) hl (fun W => deed1 i t m r W) (fun W => meth75 _ W) (enters_of Tryd.func82 (by kernel_rfl) rfl) (fun W hF hG' => hOpen a c L i t m r p W hF hR hG') (fun W hF h0 => ?_)
  have e : partS L 1 i t m r = openS L i t m r := by simp [partS]
  rw [e] at h0 ⊢
  unfold openS at h0 ⊢
  split at h0
  · simp at h0
  · rename_i hc1
    rw [if_neg hc1]
    split at h0
    · simp at h0
    · rename_i hc2
      rw [if_neg hc2]
      refine chgOpen a c L i t m r W hF (fun j hj e => hc1 ?_)
      rw [← e, place_self hR.2.2.1 hj]
      rfl

theorem tried (a : Option Addr) (c : Nat) (L : List Acc) (k i t m r : Int) (p : Nat → Addr) (w : World) (h : Fo w a L.length (FL L)) (hR : Right (FL L) L.length) (hG : GE w p) :
    Calls Tryd.prog 16 #[.slice a L.length c, .agg #[.int .i64 k, .int .i64 i, .int .i64 t, .int .i64 m, .int .i64 r]] w fun e w' => TOut p (doneS L k i t m r) w e w' := by
  unfold doneS
  by_cases ho : opOk k i t m r
  · rw [if_pos ho]
    have hk : k = 1 ∨ k = 2 ∨ k = 3 ∨ k = 4 ∨ k = 5 ∨ k = 6 ∨ k = 7 ∨ k = 8 ∨ k = 9 ∨ k = 10 := by have := ho; unfold opOk at this; omega
    rcases hk with e | e | e | e | e | e | e | e | e | e <;> subst e
    · exact tri1 a c L i t m r p w h hR hG ho
    · exact tri2 a c L i t m r p w h hR hG ho
    · exact tri3 a c L i t m r p w h hR hG ho
    · exact tri4 a c L i t m r p w h hR hG ho
    · exact tri5 a c L i t m r p w h hR hG ho
    · exact tri6 a c L i t m r p w h hR hG ho
    · exact tri7 a c L i t m r p w h hR hG ho
    · exact tri8 a c L i t m r p w h hR hG ho
    · exact tri9 a c L i t m r p w h hR hG ho
    · exact tri10 a c L i t m r p w h hR hG ho
  · rw [if_neg ho]
    exact triedNo a c L k i t m r p w hG ho
end Go.Proofs.YtppgbjjojikpdaaDoor
