/- Texts of ops of a bank: what they are, and what the program and the specification lay of an op. Conditions: the op lies in memory. -/
import Derived.Test.YtedhlmipcfdldaaDoorRow
import Derived.Test.YtedhlmipcfdldaaDoorBos
import Derived.Deep.RegionWith
import Derived.BigRegion
namespace Go.Proofs.YtedhlmipcfdldaaDoor
open Go.RowKit
set_option maxRecDepth 8000

/-- The word and the numbers of an op of a bank. -/
def bopW (K : Int) (x : OpF) (o : Ord) (n : Int) : ByteArray × List Int :=
  if K = 20 then (⟨#[111, 114, 100, 101, 114]⟩, [o.id, o.src, o.dst, o.amount, o.first, o.every, o.times]) else if K = 21 then (⟨#[99, 97, 110, 99, 101, 108]⟩, [n]) else if K = 22 then (⟨#[100, 97, 121]⟩, [])
  else if x.k = 1 then (⟨#[111, 112, 101, 110]⟩, [x.i, x.t, x.m, x.r])
  else if x.k = 2 then (⟨#[102, 114, 101, 101, 122, 101]⟩, [x.i])
  else if x.k = 3 then (⟨#[116, 104, 97, 119]⟩, [x.i])
  else if x.k = 4 then (⟨#[99, 108, 111, 115, 101]⟩, [x.i])
  else if x.k = 5 then (⟨#[112, 117, 116]⟩, [x.i, x.m])
  else if x.k = 6 then (⟨#[116, 97, 107, 101]⟩, [x.i, x.m])
  else if x.k = 7 then (⟨#[112, 97, 121]⟩, [x.i, x.t, x.m])
  else if x.k = 8 then (⟨#[108, 105, 109, 105, 116]⟩, [x.i, x.m])
  else if x.k = 9 then (⟨#[104, 97, 110, 103]⟩, [x.i, x.t])
  else if x.k = 10 then (⟨#[116, 97, 114, 103, 101, 116]⟩, [x.i, x.m])
  else (⟨#[]⟩, [])
theorem IntC.lit (w : World) (ns : List Int) : IntC (w.alloc (.cells (ns.map (Value.int .i64)).toArray 2)) (some ⟨w.heap.size, 0, none⟩) ns := by
  refine Or.inr ⟨w.heap.size, 0, rfl, by simp, fun i hi => ?_⟩
  rw [World.cell?_alloc_mark]
  simp [hi]
theorem IntC.below {w w' : World} {a : Option Addr} {ns : List Int} (h : IntC w a ns) (hb : Below w.heap.size w w') : IntC w' a ns := by
  rcases h with e | ⟨b, o, h1, h2, h3⟩
  · exact Or.inl e
  · exact Or.inr ⟨b, o, h1, Nat.lt_of_lt_of_le h2 hb.size, fun i hi => (hb.cell (p := ⟨b, o + i, none⟩) h2).trans (h3 i hi)⟩
/-- Pointers to cells of one block, laid in a row. -/
def PtrP (w : World) (a : Option Addr) (R : Nat) (ps : List Nat) : Prop := ps = [] ∨ ∃ b, a = some ⟨b, 0, none⟩ ∧ b < w.heap.size ∧ R < b ∧ ∀ i (hi : i < ps.length), w.cell? ⟨b, i, none⟩ = some (.pointer (some ⟨R, ps[i], none⟩))
theorem PtrP.lit {w : World} {R : Nat} (hR : R < w.heap.size) (ps : List Nat) : PtrP (w.alloc (.cells (ps.map fun p => Value.pointer (some ⟨R, p, none⟩)).toArray 73)) (some ⟨w.heap.size, 0, none⟩) R ps := by
  refine Or.inr ⟨w.heap.size, rfl, by simp, hR, fun i hi => ?_⟩
  rw [World.cell?_alloc_mark]
  simp [hi]
/-- What a form comes to. -/
def FormOut (w : World) (R : Nat) (wd : ByteArray) (ps : List Nat) (e : Ending) (w' : World) : Prop :=
  ∃ a c, e = .returned (.tuple #[.string wd, .slice a ps.length c]) ∧ PtrP w' a R ps ∧ Below w.heap.size w w'
theorem Bx14.lt {w : World} {R : Nat} {K n : Int} {x : OpF} {o : Ord} (h : Bx14 w R K x o n) : R < w.heap.size := h.2

set_option maxHeartbeats 2000000 in
theorem opForm_1 (R : Nat) (K n : Int) (x : OpF) (o : Ord) (w : World) (h : Bx14 w R K x o n) (hk : x.k = 1) :
    Calls Tryd.prog 34 #[.pointer (some ⟨R, 1, none⟩)] w fun e w' => FormOut w R ⟨#[111, 112, 101, 110]⟩ [2, 3, 4, 5] e w' := by
  obtain ⟨⟨c0, c1, c2, c3, c4, c5, _⟩, hR⟩ := h
  have FI : Hid (FormOut w R ⟨#[111, 112, 101, 110]⟩ [2, 3, 4, 5] (.returned (.tuple #[.string ⟨#[111, 112, 101, 110]⟩, .slice (some ⟨w.heap.size, 0, none⟩) 4 4])) ((w.alloc (.cells #[.pointer (some ⟨R, 2, none⟩), .pointer (some ⟨R, 3, none⟩), .pointer (some ⟨R, 4, none⟩), .pointer (some ⟨R, 5, none⟩)] 73)).drew)) :=
    ⟨_, _, rfl, PtrP.lit hR [2, 3, 4, 5], ((Below.refl _ _).alloc (Nat.le_refl _) _).drew⟩
  rw [hk] at c1
  clear hk
  go_enter Tryd.func34, Tryd.ntmps34
  go_wp2_with fail
  go_region
  all_goals go_wp2
  all_goals refine bodyPost_ret (v := .tuple #[.string ⟨#[111, 112, 101, 110]⟩, .slice (some ⟨w.heap.size, 0, none⟩) 4 4]) (by simp [results, Tryd.results34, go_sem]) rfl ?_
  all_goals exact FI.out
set_option maxHeartbeats 2000000 in
theorem opForm_2 (R : Nat) (K n : Int) (x : OpF) (o : Ord) (w : World) (h : Bx14 w R K x o n) (hk : x.k = 2) :
    Calls Tryd.prog 34 #[.pointer (some ⟨R, 1, none⟩)] w fun e w' => FormOut w R ⟨#[102, 114, 101, 101, 122, 101]⟩ [2] e w' := by
  obtain ⟨⟨c0, c1, c2, c3, c4, c5, _⟩, hR⟩ := h
  have FI : Hid (FormOut w R ⟨#[102, 114, 101, 101, 122, 101]⟩ [2] (.returned (.tuple #[.string ⟨#[102, 114, 101, 101, 122, 101]⟩, .slice (some ⟨w.heap.size, 0, none⟩) 1 1])) ((w.alloc (.cells #[.pointer (some ⟨R, 2, none⟩)] 73)).drew)) :=
    ⟨_, _, rfl, PtrP.lit hR [2], ((Below.refl _ _).alloc (Nat.le_refl _) _).drew⟩
  rw [hk] at c1
  clear hk
  go_enter Tryd.func34, Tryd.ntmps34
  go_wp2_with fail
  go_region
  all_goals go_wp2
  all_goals refine bodyPost_ret (v := .tuple #[.string ⟨#[102, 114, 101, 101, 122, 101]⟩, .slice (some ⟨w.heap.size, 0, none⟩) 1 1]) (by simp [results, Tryd.results34, go_sem]) rfl ?_
  all_goals exact FI.out
set_option maxHeartbeats 2000000 in
theorem opForm_3 (R : Nat) (K n : Int) (x : OpF) (o : Ord) (w : World) (h : Bx14 w R K x o n) (hk : x.k = 3) :
    Calls Tryd.prog 34 #[.pointer (some ⟨R, 1, none⟩)] w fun e w' => FormOut w R ⟨#[116, 104, 97, 119]⟩ [2] e w' := by
  obtain ⟨⟨c0, c1, c2, c3, c4, c5, _⟩, hR⟩ := h
  have FI : Hid (FormOut w R ⟨#[116, 104, 97, 119]⟩ [2] (.returned (.tuple #[.string ⟨#[116, 104, 97, 119]⟩, .slice (some ⟨w.heap.size, 0, none⟩) 1 1])) ((w.alloc (.cells #[.pointer (some ⟨R, 2, none⟩)] 73)).drew)) :=
    ⟨_, _, rfl, PtrP.lit hR [2], ((Below.refl _ _).alloc (Nat.le_refl _) _).drew⟩
  rw [hk] at c1
  clear hk
  go_enter Tryd.func34, Tryd.ntmps34
  go_wp2_with fail
  go_region
  all_goals go_wp2
  all_goals refine bodyPost_ret (v := .tuple #[.string ⟨#[116, 104, 97, 119]⟩, .slice (some ⟨w.heap.size, 0, none⟩) 1 1]) (by simp [results, Tryd.results34, go_sem]) rfl ?_
  all_goals exact FI.out
set_option maxHeartbeats 2000000 in
theorem opForm_4 (R : Nat) (K n : Int) (x : OpF) (o : Ord) (w : World) (h : Bx14 w R K x o n) (hk : x.k = 4) :
    Calls Tryd.prog 34 #[.pointer (some ⟨R, 1, none⟩)] w fun e w' => FormOut w R ⟨#[99, 108, 111, 115, 101]⟩ [2] e w' := by
  obtain ⟨⟨c0, c1, c2, c3, c4, c5, _⟩, hR⟩ := h
  have FI : Hid (FormOut w R ⟨#[99, 108, 111, 115, 101]⟩ [2] (.returned (.tuple #[.string ⟨#[99, 108, 111, 115, 101]⟩, .slice (some ⟨w.heap.size, 0, none⟩) 1 1])) ((w.alloc (.cells #[.pointer (some ⟨R, 2, none⟩)] 73)).drew)) :=
    ⟨_, _, rfl, PtrP.lit hR [2], ((Below.refl _ _).alloc (Nat.le_refl _) _).drew⟩
  rw [hk] at c1
  clear hk
  go_enter Tryd.func34, Tryd.ntmps34
  go_wp2_with fail
  go_region
  all_goals go_wp2
  all_goals refine bodyPost_ret (v := .tuple #[.string ⟨#[99, 108, 111, 115, 101]⟩, .slice (some ⟨w.heap.size, 0, none⟩) 1 1]) (by simp [results, Tryd.results34, go_sem]) rfl ?_
  all_goals exact FI.out
set_option maxHeartbeats 2000000 in
theorem opForm_5 (R : Nat) (K n : Int) (x : OpF) (o : Ord) (w : World) (h : Bx14 w R K x o n) (hk : x.k = 5) :
    Calls Tryd.prog 34 #[.pointer (some ⟨R, 1, none⟩)] w fun e w' => FormOut w R ⟨#[112, 117, 116]⟩ [2, 4] e w' := by
  obtain ⟨⟨c0, c1, c2, c3, c4, c5, _⟩, hR⟩ := h
  have FI : Hid (FormOut w R ⟨#[112, 117, 116]⟩ [2, 4] (.returned (.tuple #[.string ⟨#[112, 117, 116]⟩, .slice (some ⟨w.heap.size, 0, none⟩) 2 2])) ((w.alloc (.cells #[.pointer (some ⟨R, 2, none⟩), .pointer (some ⟨R, 4, none⟩)] 73)).drew)) :=
    ⟨_, _, rfl, PtrP.lit hR [2, 4], ((Below.refl _ _).alloc (Nat.le_refl _) _).drew⟩
  rw [hk] at c1
  clear hk
  go_enter Tryd.func34, Tryd.ntmps34
  go_wp2_with fail
  go_region
  all_goals go_wp2
  all_goals refine bodyPost_ret (v := .tuple #[.string ⟨#[112, 117, 116]⟩, .slice (some ⟨w.heap.size, 0, none⟩) 2 2]) (by simp [results, Tryd.results34, go_sem]) rfl ?_
  all_goals exact FI.out
set_option maxHeartbeats 2000000 in
theorem opForm_6 (R : Nat) (K n : Int) (x : OpF) (o : Ord) (w : World) (h : Bx14 w R K x o n) (hk : x.k = 6) :
    Calls Tryd.prog 34 #[.pointer (some ⟨R, 1, none⟩)] w fun e w' => FormOut w R ⟨#[116, 97, 107, 101]⟩ [2, 4] e w' := by
  obtain ⟨⟨c0, c1, c2, c3, c4, c5, _⟩, hR⟩ := h
  have FI : Hid (FormOut w R ⟨#[116, 97, 107, 101]⟩ [2, 4] (.returned (.tuple #[.string ⟨#[116, 97, 107, 101]⟩, .slice (some ⟨w.heap.size, 0, none⟩) 2 2])) ((w.alloc (.cells #[.pointer (some ⟨R, 2, none⟩), .pointer (some ⟨R, 4, none⟩)] 73)).drew)) :=
    ⟨_, _, rfl, PtrP.lit hR [2, 4], ((Below.refl _ _).alloc (Nat.le_refl _) _).drew⟩
  rw [hk] at c1
  clear hk
  go_enter Tryd.func34, Tryd.ntmps34
  go_wp2_with fail
  go_region
  all_goals go_wp2
  all_goals refine bodyPost_ret (v := .tuple #[.string ⟨#[116, 97, 107, 101]⟩, .slice (some ⟨w.heap.size, 0, none⟩) 2 2]) (by simp [results, Tryd.results34, go_sem]) rfl ?_
  all_goals exact FI.out
set_option maxHeartbeats 2000000 in
theorem opForm_7 (R : Nat) (K n : Int) (x : OpF) (o : Ord) (w : World) (h : Bx14 w R K x o n) (hk : x.k = 7) :
    Calls Tryd.prog 34 #[.pointer (some ⟨R, 1, none⟩)] w fun e w' => FormOut w R ⟨#[112, 97, 121]⟩ [2, 3, 4] e w' := by
  obtain ⟨⟨c0, c1, c2, c3, c4, c5, _⟩, hR⟩ := h
  have FI : Hid (FormOut w R ⟨#[112, 97, 121]⟩ [2, 3, 4] (.returned (.tuple #[.string ⟨#[112, 97, 121]⟩, .slice (some ⟨w.heap.size, 0, none⟩) 3 3])) ((w.alloc (.cells #[.pointer (some ⟨R, 2, none⟩), .pointer (some ⟨R, 3, none⟩), .pointer (some ⟨R, 4, none⟩)] 73)).drew)) :=
    ⟨_, _, rfl, PtrP.lit hR [2, 3, 4], ((Below.refl _ _).alloc (Nat.le_refl _) _).drew⟩
  rw [hk] at c1
  clear hk
  go_enter Tryd.func34, Tryd.ntmps34
  go_wp2_with fail
  go_region
  all_goals go_wp2
  all_goals refine bodyPost_ret (v := .tuple #[.string ⟨#[112, 97, 121]⟩, .slice (some ⟨w.heap.size, 0, none⟩) 3 3]) (by simp [results, Tryd.results34, go_sem]) rfl ?_
  all_goals exact FI.out
set_option maxHeartbeats 2000000 in
theorem opForm_8 (R : Nat) (K n : Int) (x : OpF) (o : Ord) (w : World) (h : Bx14 w R K x o n) (hk : x.k = 8) :
    Calls Tryd.prog 34 #[.pointer (some ⟨R, 1, none⟩)] w fun e w' => FormOut w R ⟨#[108, 105, 109, 105, 116]⟩ [2, 4] e w' := by
  obtain ⟨⟨c0, c1, c2, c3, c4, c5, _⟩, hR⟩ := h
  have FI : Hid (FormOut w R ⟨#[108, 105, 109, 105, 116]⟩ [2, 4] (.returned (.tuple #[.string ⟨#[108, 105, 109, 105, 116]⟩, .slice (some ⟨w.heap.size, 0, none⟩) 2 2])) ((w.alloc (.cells #[.pointer (some ⟨R, 2, none⟩), .pointer (some ⟨R, 4, none⟩)] 73)).drew)) :=
    ⟨_, _, rfl, PtrP.lit hR [2, 4], ((Below.refl _ _).alloc (Nat.le_refl _) _).drew⟩
  rw [hk] at c1
  clear hk
  go_enter Tryd.func34, Tryd.ntmps34
  go_wp2_with fail
  go_region
  all_goals go_wp2
  all_goals refine bodyPost_ret (v := .tuple #[.string ⟨#[108, 105, 109, 105, 116]⟩, .slice (some ⟨w.heap.size, 0, none⟩) 2 2]) (by simp [results, Tryd.results34, go_sem]) rfl ?_
  all_goals exact FI.out
set_option maxHeartbeats 2000000 in
theorem opForm_9 (R : Nat) (K n : Int) (x : OpF) (o : Ord) (w : World) (h : Bx14 w R K x o n) (hk : x.k = 9) :
    Calls Tryd.prog 34 #[.pointer (some ⟨R, 1, none⟩)] w fun e w' => FormOut w R ⟨#[104, 97, 110, 103]⟩ [2, 3] e w' := by
  obtain ⟨⟨c0, c1, c2, c3, c4, c5, _⟩, hR⟩ := h
  have FI : Hid (FormOut w R ⟨#[104, 97, 110, 103]⟩ [2, 3] (.returned (.tuple #[.string ⟨#[104, 97, 110, 103]⟩, .slice (some ⟨w.heap.size, 0, none⟩) 2 2])) ((w.alloc (.cells #[.pointer (some ⟨R, 2, none⟩), .pointer (some ⟨R, 3, none⟩)] 73)).drew)) :=
    ⟨_, _, rfl, PtrP.lit hR [2, 3], ((Below.refl _ _).alloc (Nat.le_refl _) _).drew⟩
  rw [hk] at c1
  clear hk
  go_enter Tryd.func34, Tryd.ntmps34
  go_wp2_with fail
  go_region
  all_goals go_wp2
  all_goals refine bodyPost_ret (v := .tuple #[.string ⟨#[104, 97, 110, 103]⟩, .slice (some ⟨w.heap.size, 0, none⟩) 2 2]) (by simp [results, Tryd.results34, go_sem]) rfl ?_
  all_goals exact FI.out
set_option maxHeartbeats 2000000 in
theorem opForm_10 (R : Nat) (K n : Int) (x : OpF) (o : Ord) (w : World) (h : Bx14 w R K x o n) (hk : x.k = 10) :
    Calls Tryd.prog 34 #[.pointer (some ⟨R, 1, none⟩)] w fun e w' => FormOut w R ⟨#[116, 97, 114, 103, 101, 116]⟩ [2, 4] e w' := by
  obtain ⟨⟨c0, c1, c2, c3, c4, c5, _⟩, hR⟩ := h
  have FI : Hid (FormOut w R ⟨#[116, 97, 114, 103, 101, 116]⟩ [2, 4] (.returned (.tuple #[.string ⟨#[116, 97, 114, 103, 101, 116]⟩, .slice (some ⟨w.heap.size, 0, none⟩) 2 2])) ((w.alloc (.cells #[.pointer (some ⟨R, 2, none⟩), .pointer (some ⟨R, 4, none⟩)] 73)).drew)) :=
    ⟨_, _, rfl, PtrP.lit hR [2, 4], ((Below.refl _ _).alloc (Nat.le_refl _) _).drew⟩
  rw [hk] at c1
  clear hk
  go_enter Tryd.func34, Tryd.ntmps34
  go_wp2_with fail
  go_region
  all_goals go_wp2
  all_goals refine bodyPost_ret (v := .tuple #[.string ⟨#[116, 97, 114, 103, 101, 116]⟩, .slice (some ⟨w.heap.size, 0, none⟩) 2 2]) (by simp [results, Tryd.results34, go_sem]) rfl ?_
  all_goals exact FI.out

set_option maxHeartbeats 4000000 in
theorem ordNums (R : Nat) (K n : Int) (x : OpF) (o : Ord) (w : World) (h : Bx14 w R K x o n) :
    Calls Tryd.prog 33 #[.pointer (some ⟨R, 6, none⟩)] w fun e w' => ∃ a c, e = .returned (.slice a 7 c) ∧ PtrP w' a R [6, 7, 8, 9, 10, 11, 12] ∧ Below w.heap.size w w' := by
  obtain ⟨⟨_, _, _, _, _, _, c6, c7, c8, c9, c10, c11, c12, _⟩, hR⟩ := h
  have FI : Hid (PtrP ((w.alloc (.cells #[.pointer (some ⟨R, 6, none⟩), .pointer (some ⟨R, 7, none⟩), .pointer (some ⟨R, 8, none⟩), .pointer (some ⟨R, 9, none⟩), .pointer (some ⟨R, 10, none⟩), .pointer (some ⟨R, 11, none⟩), .pointer (some ⟨R, 12, none⟩)] 73)).drew) (some ⟨w.heap.size, 0, none⟩) R [6, 7, 8, 9, 10, 11, 12] ∧ Below w.heap.size w ((w.alloc (.cells #[.pointer (some ⟨R, 6, none⟩), .pointer (some ⟨R, 7, none⟩), .pointer (some ⟨R, 8, none⟩), .pointer (some ⟨R, 9, none⟩), .pointer (some ⟨R, 10, none⟩), .pointer (some ⟨R, 11, none⟩), .pointer (some ⟨R, 12, none⟩)] 73)).drew)) :=
    ⟨PtrP.lit hR [6, 7, 8, 9, 10, 11, 12], ((Below.refl _ _).alloc (Nat.le_refl _) _).drew⟩
  go_enter Tryd.func33, Tryd.ntmps33
  go_wp2_with fail
  go_region
  all_goals go_wp2
  all_goals go_ret
  all_goals exact ⟨_, _, rfl, FI.out.1, FI.out.2⟩

set_option maxHeartbeats 2000000 in
theorem form_20 (R : Nat) (n : Int) (x : OpF) (o : Ord) (w : World) (h : Bx14 w R 20 x o n) :
    Calls Tryd.prog 25 #[.pointer (some ⟨R, 0, none⟩)] w fun e w' => FormOut w R ⟨#[111, 114, 100, 101, 114]⟩ [6, 7, 8, 9, 10, 11, 12] e w' := by
  have H : Hid (Bx14 w R 20 x o n) := h
  obtain ⟨⟨c0, _⟩, hR⟩ := h
  go_enter Tryd.func25, Tryd.ntmps25
  go_wp2_with fail
  refine (ordNums R 20 n x o w H.out).mono ?_
  rintro e w1 ⟨a, c, rfl, P1, B1⟩
  have FI : Hid (FormOut w R ⟨#[111, 114, 100, 101, 114]⟩ [6, 7, 8, 9, 10, 11, 12] (.returned (.tuple #[.string ⟨#[111, 114, 100, 101, 114]⟩, .slice a 7 c])) w1) := ⟨a, c, rfl, P1, B1⟩
  clear P1 B1 H
  go_wp2
  refine bodyPost_ret (v := .tuple #[.string ⟨#[111, 114, 100, 101, 114]⟩, .slice a 7 c]) (by simp [results, Tryd.results25, go_sem]) rfl ?_
  exact FI.out
set_option maxHeartbeats 2000000 in
theorem form_21 (R : Nat) (n : Int) (x : OpF) (o : Ord) (w : World) (h : Bx14 w R 21 x o n) :
    Calls Tryd.prog 25 #[.pointer (some ⟨R, 0, none⟩)] w fun e w' => FormOut w R ⟨#[99, 97, 110, 99, 101, 108]⟩ [13] e w' := by
  obtain ⟨⟨c0, _, _, _, _, _, _, _, _, _, _, _, _, c13⟩, hR⟩ := h
  have FI : Hid (FormOut w R ⟨#[99, 97, 110, 99, 101, 108]⟩ [13] (.returned (.tuple #[.string ⟨#[99, 97, 110, 99, 101, 108]⟩, .slice (some ⟨w.heap.size, 0, none⟩) 1 1])) ((w.alloc (.cells #[.pointer (some ⟨R, 13, none⟩)] 73)).drew)) :=
    ⟨_, _, rfl, PtrP.lit hR [13], ((Below.refl _ _).alloc (Nat.le_refl _) _).drew⟩
  go_enter Tryd.func25, Tryd.ntmps25
  go_wp2_with fail
  go_region
  all_goals go_wp2
  all_goals refine bodyPost_ret (v := .tuple #[.string ⟨#[99, 97, 110, 99, 101, 108]⟩, .slice (some ⟨w.heap.size, 0, none⟩) 1 1]) (by simp [results, Tryd.results25, go_sem]) rfl ?_
  all_goals exact FI.out
set_option maxHeartbeats 2000000 in
theorem form_22 (R : Nat) (n : Int) (x : OpF) (o : Ord) (w : World) (h : Bx14 w R 22 x o n) :
    Calls Tryd.prog 25 #[.pointer (some ⟨R, 0, none⟩)] w fun e w' => FormOut w R ⟨#[100, 97, 121]⟩ [] e w' := by
  obtain ⟨⟨c0, _⟩, hR⟩ := h
  have FI : Hid (FormOut w R ⟨#[100, 97, 121]⟩ [] (.returned (.tuple #[.string ⟨#[100, 97, 121]⟩, .slice none 0 0])) w) := ⟨_, _, rfl, Or.inl rfl, Below.refl _ _⟩
  go_enter Tryd.func25, Tryd.ntmps25
  go_wp2
  refine bodyPost_ret (v := .tuple #[.string ⟨#[100, 97, 121]⟩, .slice none 0 0]) (by simp [results, Tryd.results25, go_sem]) rfl ?_
  exact FI.out
set_option maxHeartbeats 2000000 in
theorem form_19 (R : Nat) (n : Int) (x : OpF) (o : Ord) (w : World) (h : Bx14 w R 19 x o n) (wd : ByteArray) (ps : List Nat) (hf : ∀ w, Bx14 w R 19 x o n → Calls Tryd.prog 34 #[.pointer (some ⟨R, 1, none⟩)] w fun e w' => FormOut w R wd ps e w') :
    Calls Tryd.prog 25 #[.pointer (some ⟨R, 0, none⟩)] w fun e w' => FormOut w R wd ps e w' := by
  have H : Hid (Bx14 w R 19 x o n) := h
  have HF : Hid (∀ w, Bx14 w R 19 x o n → Calls Tryd.prog 34 #[.pointer (some ⟨R, 1, none⟩)] w fun e w' => FormOut w R wd ps e w') := hf
  obtain ⟨⟨c0, _⟩, hR⟩ := h
  clear hf
  go_enter Tryd.func25, Tryd.ntmps25
  go_wp2_with fail
  refine (HF.out w H.out).mono ?_
  rintro e w1 ⟨a, c, rfl, P1, B1⟩
  have FI : Hid (FormOut w R wd ps (.returned (.tuple #[.string wd, .slice a ps.length c])) w1) := ⟨a, c, rfl, P1, B1⟩
  clear P1 B1 H HF
  generalize ps.length = q at *
  go_wp2
  refine bodyPost_ret (v := .tuple #[.string wd, .slice a q c]) (by simp [results, Tryd.results25, go_sem]) rfl ?_
  exact FI.out
end Go.Proofs.YtedhlmipcfdldaaDoor
