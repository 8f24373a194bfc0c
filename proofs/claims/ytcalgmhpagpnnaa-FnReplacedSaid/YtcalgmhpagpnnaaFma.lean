/- A region that draws its order, whose operations only read and whose callees only read and make memory: one walk, in the order of the text, over the class of worlds that have grown. Of whatever program; no conditions. -/
import Derived.WalkKit
import Derived.WalkLawsBesides
import Derived.Below
import Derived.Deep.QuietTactic
import Derived.BigQuiet
import Derived.Maps.Own
import Derived.Maps.OwnSet
import Derived.Maps.Views
import Derived.Lib.Strings
namespace Go.Proofs.Ytcalgmhpagpnnaa
open Go.RowKit

/-- The world v, with all that was there in w as it was in w. -/
def over (w v : World) : World := { v with os := w.os, tape := w.tape, output := w.output, heap := w.heap ++ v.heap.extract w.heap.size v.heap.size }

theorem over_block (w v : World) (k : Nat) (hk : k < w.heap.size) : (over w v).heap[k]? = w.heap[k]? := by
  show (w.heap ++ v.heap.extract w.heap.size v.heap.size)[k]? = _
  rw [Array.getElem?_append_left hk]
theorem over_size (w v : World) : w.heap.size ≤ (over w v).heap.size := by
  show w.heap.size ≤ (w.heap ++ v.heap.extract w.heap.size v.heap.size).size
  simp
theorem below_over (w v : World) : Below w.heap.size w (over w v) := ⟨rfl, rfl, rfl, over_size w v, fun k hk => over_block w v k hk⟩
theorem over_of_below {w v : World} (h : Below w.heap.size w v) : v = over w v := by
  have hh : v.heap = w.heap ++ v.heap.extract w.heap.size v.heap.size := by
    apply Array.ext_getElem?
    intro i
    by_cases hi : i < w.heap.size
    · rw [Array.getElem?_append_left hi, h.block i hi]
    · rw [Array.getElem?_append_right (by omega), Array.getElem?_extract]
      have := h.size
      by_cases hv : i < v.heap.size
      · rw [if_pos (by omega)]; congr 1; omega
      · rw [if_neg (by omega)]; simp; omega
  obtain ⟨h1, h2, h3, h4, h5⟩ := h
  cases v
  simp only [over]
  congr
theorem over_drawn (w : World) : ({ w with drawn := w.drawn + 1 } : World) = over w { w with drawn := w.drawn + 1 } := over_of_below ⟨rfl, rfl, rfl, Nat.le_refl _, fun _ _ => rfl⟩

theorem wp_region_over {P : Program} {id : Nat} {Q : Exit → Act → World → Prop} {a : Act} {w : World} {l : List Oper} (hm : P.follows .mixedOrders = true) (hB : Region.lexB .any l.toArray = true)
    (h : wpQuiet P l.toArray (fun w' => ∃ v, w' = over w v) (fun a' => ∀ w', (∃ v, w' = over w v) → Q .normal a' w') l a) : (Code.region id l.toArray true).wp P Q a w :=
  wp_region_quiet (C := fun w' => ∃ v, w' = over w v) hm hB ⟨_, over_drawn w⟩ (by simpa using h)

/-- A callee that makes memory alone, met inside such a region. -/
theorem Calls.over_of {P : Program} {f : FuncId} {args : Array Value} {w v : World} {u : Value}
    (h : Calls P f args (over w v) fun e w' => e = .returned u ∧ Below (over w v).heap.size (over w v) w') : Calls P f args (over w v) fun e w'' => e = .returned u ∧ ∃ x, w'' = over w x :=
  h.mono fun _ w' ⟨he, hb⟩ => ⟨he, w', over_of_below ((below_over w v).trans (hb.mono (over_size w v)))⟩
end Go.Proofs.Ytcalgmhpagpnnaa

/- Files in lists that rise by their names: putting, cutting, finding; the mathematics of disks. No conditions. -/
namespace Go.Proofs.Ytcalgmhpagpnnaa
open Go.Maps
set_option maxRecDepth 8000

structure Fl where
  name : ByteArray
  data : ByteArray
structure Dp where
  kind : Int
  name : ByteArray
  dst : ByteArray
  data : ByteArray

/-- Names in order. -/
def lt (a b : ByteArray) : Bool := Op.bytesLess a.toList b.toList
def nmOk (s : ByteArray) : Bool := decide (1 ≤ s.size ∧ s.size ≤ 100)

theorem less_iff (x : List UInt8) : ∀ y : List UInt8, Op.bytesLess x y = true ↔ x < y := by
  induction x with
  | nil => intro y; cases y <;> simp [Op.bytesLess]
  | cons a x ih =>
    intro y
    cases y with
    | nil => simp [Op.bytesLess]
    | cons b y => simp [Op.bytesLess, ih y, List.cons_lt_cons_iff]
theorem lt_iff {a b : ByteArray} : lt a b = true ↔ a.data.toList < b.data.toList := by
  unfold lt
  rw [less_iff, Lib.toList_data, Lib.toList_data]
theorem ba_ext {a b : ByteArray} (h : a.data.toList = b.data.toList) : a = b := by
  cases a; cases b
  simp at h
  exact congrArg _ (Array.ext' (by simpa using h))
theorem lt_irrefl (a : ByteArray) : lt a a = false := by
  rw [Bool.eq_false_iff]
  intro h
  exact List.lt_irrefl _ (lt_iff.1 h)
theorem lt_trans {a b c : ByteArray} (h : lt a b = true) (k : lt b c = true) : lt a c = true :=
  lt_iff.2 (List.lt_trans (lt_iff.1 h) (lt_iff.1 k))
theorem lt_asymm {a b : ByteArray} (h : lt a b = true) : lt b a = false := by
  rw [Bool.eq_false_iff]
  intro k
  have := lt_trans h k
  rw [lt_irrefl] at this
  cases this
theorem lt_ne {a b : ByteArray} (h : lt a b = true) : a ≠ b := by
  rintro rfl
  rw [lt_irrefl] at h
  cases h
theorem lt_tri {a b : ByteArray} (h : lt a b = false) : a = b ∨ lt b a = true := by
  have h' : ¬ a.data.toList < b.data.toList := fun k => by rw [lt_iff.2 k] at h; cases h
  have h2 := List.not_lt.1 h'
  rcases List.le_iff_lt_or_eq.1 h2 with k | k
  · exact Or.inr (lt_iff.2 k)
  · exact Or.inl (ba_ext k.symm)
theorem before_eq : ∀ (x y : List UInt8), bytesBefore x y = Op.bytesLess x y
  | [], [] => rfl
  | _ :: _, [] => rfl
  | [], _ :: _ => rfl
  | a :: x, b :: y => by simp [bytesBefore, Op.bytesLess, before_eq x y]
theorem before_lt (a b : ByteArray) : (Lit.string a.data.toList).before (.string b.data.toList) = lt a b := by
  simp only [Lit.before, before_eq, lt, Lib.toList_data]
theorem beq_name (a b : ByteArray) : (a.toList == b.toList) = decide (a = b) := by
  rw [Lib.toList_data, Lib.toList_data]
  by_cases h : a = b
  · subst h; simp
  · simp [h]
    intro k
    exact h (ba_ext (by rw [k]))
theorem same_name (a b : ByteArray) : (Lit.string a.data.toList).sameKey (.string b.data.toList) = decide (a = b) := by
  rw [← beq_name, Lib.toList_data, Lib.toList_data]
  rfl

section
variable {α β : Type}
/-- Into its place. -/
def insN (nm : α → ByteArray) (x : α) : List α → List α
  | [] => [x]
  | y :: r => if lt (nm x) (nm y) then x :: y :: r else y :: insN nm x r
def cutN (nm : α → ByteArray) (n : ByteArray) (l : List α) : List α := l.filter fun y => !decide (nm y = n)
def putN (nm : α → ByteArray) (x : α) (l : List α) : List α := insN nm x (cutN nm (nm x) l)
def getN (nm : α → ByteArray) (n : ByteArray) (l : List α) : Option α := l.find? fun y => decide (nm y = n)
def Ris (nm : α → ByteArray) (l : List α) : Prop := l.Pairwise fun x y => lt (nm x) (nm y) = true
instance (nm : α → ByteArray) (l : List α) : Decidable (Ris nm l) := by unfold Ris; infer_instance

theorem insN_map (nm : α → ByteArray) (mn : β → ByteArray) (f : α → β) (h : ∀ a, mn (f a) = nm a) (x : α) : ∀ l : List α, (insN nm x l).map f = insN mn (f x) (l.map f)
  | [] => rfl
  | y :: r => by
    simp only [insN, List.map_cons, h]
    by_cases e : lt (nm x) (nm y) = true
    · simp [e]
    · simp [e, insN_map nm mn f h x r]
theorem cutN_map (nm : α → ByteArray) (mn : β → ByteArray) (f : α → β) (h : ∀ a, mn (f a) = nm a) (n : ByteArray) (l : List α) : (cutN nm n l).map f = cutN mn n (l.map f) := by
  unfold cutN
  rw [List.filter_map]
  congr 1
  congr 1
  funext y
  simp [h]
theorem putN_map (nm : α → ByteArray) (mn : β → ByteArray) (f : α → β) (h : ∀ a, mn (f a) = nm a) (x : α) (l : List α) : (putN nm x l).map f = putN mn (f x) (l.map f) := by
  unfold putN
  rw [insN_map nm mn f h, cutN_map nm mn f h, h]
theorem getN_map (nm : α → ByteArray) (mn : β → ByteArray) (f : α → β) (h : ∀ a, mn (f a) = nm a) (n : ByteArray) (l : List α) : (getN nm n l).map f = getN mn n (l.map f) := by
  unfold getN
  rw [List.find?_map]
  congr 1
  congr 1
  funext y
  simp [h]

theorem insN_mem {nm : α → ByteArray} {x y : α} : ∀ {l : List α}, y ∈ insN nm x l ↔ y = x ∨ y ∈ l
  | [] => by simp [insN]
  | z :: r => by
    unfold insN
    split
    · simp
    · simp only [List.mem_cons, insN_mem (l := r)]
      constructor
      · rintro (h | h | h) <;> simp [h]
      · rintro (h | h | h) <;> simp [h]
theorem cutN_mem {nm : α → ByteArray} {n : ByteArray} {y : α} {l : List α} : y ∈ cutN nm n l ↔ y ∈ l ∧ nm y ≠ n := by
  unfold cutN
  simp
theorem putN_mem {nm : α → ByteArray} {x y : α} {l : List α} : y ∈ putN nm x l ↔ y = x ∨ y ∈ l ∧ nm y ≠ nm x := by
  unfold putN
  rw [insN_mem, cutN_mem]
theorem getN_some {nm : α → ByteArray} {n : ByteArray} {l : List α} {x : α} (h : getN nm n l = some x) : x ∈ l ∧ nm x = n := by
  unfold getN at h
  exact ⟨List.mem_of_find?_eq_some h, by have := List.find?_some h; simpa using this⟩
theorem getN_none {nm : α → ByteArray} {n : ByteArray} {l : List α} (h : getN nm n l = none) : ∀ x ∈ l, nm x ≠ n := by
  unfold getN at h
  rw [List.find?_eq_none] at h
  intro x hx
  have := h x hx
  simpa using this

theorem Ris.cut {nm : α → ByteArray} {l : List α} (h : Ris nm l) (n : ByteArray) : Ris nm (cutN nm n l) := List.Pairwise.filter _ h
theorem Ris.ins {nm : α → ByteArray} {x : α} : ∀ {l : List α}, Ris nm l → (∀ y ∈ l, nm y ≠ nm x) → Ris nm (insN nm x l)
  | [], _, _ => List.pairwise_singleton _ _
  | y :: r, h, hx => by
    unfold Ris at h
    rw [List.pairwise_cons] at h
    unfold insN
    by_cases e : lt (nm x) (nm y) = true
    · rw [if_pos e]
      unfold Ris
      rw [List.pairwise_cons, List.pairwise_cons]
      refine ⟨fun z hz => ?_, h⟩
      rcases List.mem_cons.1 hz with rfl | hz
      · exact e
      · exact lt_trans e (h.1 z hz)
    · rw [if_neg e]
      have e2 : lt (nm y) (nm x) = true := by
        rcases lt_tri (by simpa using e) with k | k
        · exact absurd k.symm (hx y (by simp))
        · exact k
      unfold Ris
      rw [List.pairwise_cons]
      refine ⟨fun z hz => ?_, Ris.ins h.2 (fun z hz => hx z (by simp [hz]))⟩
      rcases insN_mem.1 hz with rfl | hz
      · exact e2
      · exact h.1 z hz
theorem Ris.put {nm : α → ByteArray} {x : α} {l : List α} (h : Ris nm l) : Ris nm (putN nm x l) :=
  (h.cut _).ins fun _ hy => (cutN_mem.1 hy).2
theorem Ris.map {nm : α → ByteArray} {mn : β → ByteArray} {f : α → β} (hf : ∀ a, mn (f a) = nm a) {l : List α} : Ris mn (l.map f) ↔ Ris nm l := by
  unfold Ris
  rw [List.pairwise_map]
  simp only [hf]

/-- Into its place, among those of which none has its name. -/
theorem cut_none {nm : α → ByteArray} {n : ByteArray} {l : List α} (h : ∀ y ∈ l, nm y ≠ n) : cutN nm n l = l := by
  unfold cutN
  rw [List.filter_eq_self]
  intro y hy
  simp [h y hy]
theorem ins_behind {nm : α → ByteArray} {x : α} : ∀ {l : List α}, (∀ y ∈ l, lt (nm y) (nm x) = true) → insN nm x l = l ++ [x]
  | [], _ => rfl
  | y :: r, h => by
    have h1 := lt_asymm (h y (by simp))
    simp [insN, h1, ins_behind (l := r) (fun z hz => h z (by simp [hz]))]
theorem ins_snoc {nm : α → ByteArray} {x z : α} : ∀ {l : List α}, (∃ y ∈ l, lt (nm x) (nm y) = true) → insN nm x (l ++ [z]) = insN nm x l ++ [z]
  | [], h => by obtain ⟨_, h, _⟩ := h; cases h
  | y :: r, h => by
    simp only [List.cons_append, insN]
    by_cases e : lt (nm x) (nm y) = true
    · simp [e]
    · obtain ⟨u, hu, hlt⟩ := h
      have hu' : u ∈ r := by
        rcases List.mem_cons.1 hu with rfl | hu
        · exact absurd hlt e
        · exact hu
      simp [e, ins_snoc (z := z) ⟨u, hu', hlt⟩]
theorem ins_before_last {nm : α → ByteArray} {x z : α} (hz : lt (nm x) (nm z) = true) : ∀ {l : List α}, (∀ y ∈ l, lt (nm y) (nm x) = true) → insN nm x (l ++ [z]) = l ++ [x, z]
  | [], _ => by simp [insN, hz]
  | y :: r, h => by
    have h1 := lt_asymm (h y (by simp))
    simp [insN, h1, ins_before_last hz (l := r) (fun z hz => h z (by simp [hz]))]
theorem put_behind {nm : α → ByteArray} {x : α} {l : List α} (h : ∀ y ∈ l, lt (nm y) (nm x) = true) : putN nm x l = l ++ [x] := by
  unfold putN
  rw [cut_none (fun y hy => lt_ne (h y hy)), ins_behind h]
theorem cut_snoc {nm : α → ByteArray} {n : ByteArray} {z : α} {l : List α} (h : nm z ≠ n) : cutN nm n (l ++ [z]) = cutN nm n l ++ [z] := by
  simp [cutN, h]
theorem cut_snoc_same {nm : α → ByteArray} {n : ByteArray} {z : α} {l : List α} (h : nm z = n) : cutN nm n (l ++ [z]) = cutN nm n l := by
  simp [cutN, h]
/-- The place is found at z, which has another name. -/
theorem put_here {nm : α → ByteArray} {x z : α} {l : List α} (h : ∀ y ∈ l, lt (nm y) (nm x) = true) (hz : lt (nm x) (nm z) = true) : putN nm x (l ++ [z]) = l ++ [x, z] := by
  unfold putN
  rw [cut_snoc (fun e => lt_ne hz e.symm), cut_none (fun y hy => lt_ne (h y hy)), ins_before_last hz h]
/-- The place is that of z. -/
theorem put_over {nm : α → ByteArray} {x z : α} {l : List α} (h : ∀ y ∈ l, lt (nm y) (nm x) = true) (hz : nm z = nm x) : putN nm x (l ++ [z]) = l ++ [x] := by
  unfold putN
  rw [cut_snoc_same hz, cut_none (fun y hy => lt_ne (h y hy)), ins_behind h]
/-- Past the place. -/
theorem put_past {nm : α → ByteArray} {x z u : α} {l : List α} (hr : Ris nm (l ++ [z])) (hu : u ∈ l) (hle : lt (nm u) (nm x) = false) : putN nm x (l ++ [z]) = putN nm x l ++ [z] := by
  have hz : ∀ y ∈ l, lt (nm y) (nm z) = true := by
    unfold Ris at hr
    rw [List.pairwise_append] at hr
    exact fun y hy => hr.2.2 y hy z (by simp)
  have hxz : lt (nm x) (nm z) = true := by
    rcases lt_tri hle with e | e
    · rw [← e]; exact hz u hu
    · exact lt_trans e (hz u hu)
  unfold putN
  rw [cut_snoc (fun e => lt_ne hxz e.symm)]
  by_cases hex : ∃ y ∈ cutN nm (nm x) l, lt (nm x) (nm y) = true
  · exact ins_snoc hex
  · have hall : ∀ y ∈ cutN nm (nm x) l, lt (nm y) (nm x) = true := by
      intro y hy
      have h1 : lt (nm x) (nm y) = false := by
        rw [Bool.eq_false_iff]
        exact fun k => hex ⟨y, hy, k⟩
      rcases lt_tri h1 with k | k
      · exact absurd k.symm (cutN_mem.1 hy).2
      · exact k
    rw [ins_before_last hxz hall, ins_behind hall]
    simp
end

/-- How many bytes the files have. -/
def byt (L : List Fl) : Nat := (L.map fun f => f.data.size).sum
/-- Right files. -/
def filesB (L : List Fl) : Bool := decide (L.length ≤ 60 ∧ byt L ≤ 200000) && L.all (fun f => nmOk f.name) && decide (Ris Fl.name L)
def fitsB (L : List Fl) : Bool := decide (L.length ≤ 60 ∧ byt L ≤ 200000)
def empB (s : ByteArray) : Bool := decide (s = ByteArray.empty)
/-- An op of its form. -/
def formB (o : Dp) : Bool :=
  nmOk o.name && (if o.kind = 1 then empB o.dst else if o.kind = 2 then nmOk o.dst && empB o.data else if o.kind = 3 then empB o.dst && empB o.data else false)
/-- What an op does to files; none: it finds no file. -/
def doF (L : List Fl) (o : Dp) : Option (List Fl) :=
  if o.kind = 1 then some (putN Fl.name ⟨o.name, (((getN Fl.name o.name L).map Fl.data).getD ByteArray.empty) ++ o.data⟩ L)
  else match getN Fl.name o.name L with
    | none => none
    | some f => if o.kind = 2 then some (putN Fl.name ⟨o.dst, f.data⟩ (cutN Fl.name o.name L)) else some (cutN Fl.name o.name L)
/-- One step of a disk's ops. -/
def stepF (L : List Fl) (o : Dp) : Option (List Fl) := if formB o then (doF L o).bind fun M => if fitsB M then some M else none else none
/-- The ops, one behind the other. -/
def runF : List Fl → List Dp → Option (List Fl)
  | L, [] => some L
  | L, o :: r => (stepF L o).bind fun M => runF M r
theorem runF_snoc (o : Dp) : ∀ (L : List Fl) (r : List Dp), runF L (r ++ [o]) = (runF L r).bind fun M => stepF M o
  | L, [] => by cases h : stepF L o <;> simp [runF, h]
  | L, p :: r => by
    simp only [List.cons_append, runF]
    cases h : stepF L p with
    | none => simp
    | some M => simp [runF_snoc o M r]
end Go.Proofs.Ytcalgmhpagpnnaa
