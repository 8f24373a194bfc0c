/- BankText of the program. Conditions: the bank lies in memory; the library's table of powers of ten as its text lays it. -/
import Derived.Test.YtedhlmipcfdldaaGreatDoorBt
import Derived.Test.YtedhlmipcfdldaaGreatDoorFBanks
namespace Go.Proofs.YtedhlmipcfdldaaGreatDoor
open Go.RowKit
set_option maxRecDepth 8000

def acN (a : Acc) : List Int := [a.id, a.up, a.limit, a.rate, a.target, flagZ a.frozen, a.balance, a.carry]
def orN (o : Ord) : List Int := [o.id, o.src, o.dst, o.amount, o.first, o.every, o.times]
def bkN (k : Bk) : List Int := [k.day, k.inn, k.out, k.posted, k.missed]
def wAcc : ByteArray := ⟨#[97, 99, 99, 111, 117, 110, 116]⟩
def wOrd : ByteArray := ⟨#[111, 114, 100, 101, 114]⟩
def wBank : ByteArray := ⟨#[98, 97, 110, 107]⟩
def accT (T : ByteArray) (F : Nat → Acc) : Nat → ByteArray
  | 0 => T
  | j + 1 => accT T F j ++ lineB wAcc (acN (F j))
def ordT (T : ByteArray) (O : Nat → Ord) : Nat → ByteArray
  | 0 => T
  | j + 1 => ordT T O j ++ lineB wOrd (orN (O j))
/-- The text of a right bank. -/
def bankB (F : Nat → Acc) (n : Nat) (O : Nat → Ord) (m : Nat) (k : Bk) : ByteArray := ordT (accT (lineB wBank (bkN k)) F n) O m
theorem acN_sml {a : Acc} (h : okS a) : ∀ z ∈ acN a, Sml z := by
  unfold okS at h
  intro z hz
  simp only [acN, List.mem_cons, List.not_mem_nil, or_false] at hz
  rcases hz with rfl | rfl | rfl | rfl | rfl | rfl | rfl | rfl
  case inr.inr.inr.inr.inr.inl => cases a.frozen <;> exact ⟨by decide, by decide⟩
  all_goals exact ⟨by omega, by omega⟩
theorem orN_sml {o : Ord} (h : ordOk o) : ∀ z ∈ orN o, Sml z := by
  unfold ordOk at h
  intro z hz
  simp only [orN, List.mem_cons, List.not_mem_nil, or_false] at hz
  rcases hz with rfl | rfl | rfl | rfl | rfl | rfl | rfl <;> exact ⟨by omega, by omega⟩
theorem bkN_sml {F : Nat → Acc} {n : Nat} {O : Nat → Ord} {m : Nat} {k : Bk} (h : bankOk F n O m k) : ∀ z ∈ bkN k, Sml z := by
  unfold bankOk at h
  obtain ⟨h0, _, _, h1, h2, h3, h4⟩ := h
  intro z hz
  simp only [bkN, List.mem_cons, List.not_mem_nil, or_false] at hz
  rcases hz with rfl | rfl | rfl | rfl | rfl <;> exact ⟨by omega, by omega⟩
theorem lineB_size {S : ByteArray} {ns : List Int} (hS : S.size ≤ 100) (hl : ns.length ≤ 8) (hs : ∀ z ∈ ns, Sml z) : (lineB S ns).size ≤ 253 := by
  have := rowB_size (k := 100) hs hS
  unfold lineB
  rw [ByteArray.size_append]
  have h1 : (⟨#[10]⟩ : ByteArray).size = 1 := rfl
  omega
theorem accT_size {T : ByteArray} {F : Nat → Acc} (hT : T.size ≤ 253) : ∀ j, (∀ i, i < j → okS (F i)) → (accT T F j).size ≤ 253 + 253 * j
  | 0, _ => by simpa [accT] using hT
  | j + 1, h => by
    have h1 := accT_size hT j (fun i hi => h i (by omega))
    have h2 := lineB_size (S := wAcc) (by decide) (by simp [acN]) (acN_sml (h j (by omega)))
    simp only [accT, ByteArray.size_append]
    omega
theorem ordT_size {T : ByteArray} {O : Nat → Ord} {t : Nat} (hT : T.size ≤ t) : ∀ j, (∀ i, i < j → ordOk (O i)) → (ordT T O j).size ≤ t + 253 * j
  | 0, _ => by simpa [ordT] using hT
  | j + 1, h => by
    have h1 := ordT_size hT j (fun i hi => h i (by omega))
    have h2 := lineB_size (S := wOrd) (by decide) (by simp [orN]) (orN_sml (h j (by omega)))
    simp only [ordT, ByteArray.size_append]
    omega
end Go.Proofs.YtedhlmipcfdldaaGreatDoor
