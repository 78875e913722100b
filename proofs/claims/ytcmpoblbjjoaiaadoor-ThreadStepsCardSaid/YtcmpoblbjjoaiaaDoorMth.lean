/- When two lists match, and the list that then leads from one to the other; the greatest element. -/
import Derived.Test.YtcmpoblbjjoaiaaDoorBase
namespace Go.Proofs.YtcmpoblbjjoaiaaDoor
open Go.RowKit
set_option linter.unusedVariables false
set_option linter.unusedSimpArgs false

/-- What stands at x of the match, behind k elements. -/
def mt (a b : Nat → Int) : Nat → Int → Int
  | 0, _ => -1
  | k + 1, x => if a k = x then b k else mt a b k x
/-- The first k elements of both are equal at the same places. -/
def Cons (a b : Nat → Int) (k : Nat) : Prop := ∀ i j, i < k → j < i → (a i = a j ↔ b i = b j)
/-- The greatest of the first k elements, or -1. -/
def mxs (a : Nat → Int) : Nat → Int
  | 0 => -1
  | k + 1 => max (mxs a k) (a k)
/-- Is v among the first k elements? -/
def tk (b : Nat → Int) (k : Nat) (v : Nat) : Bool := decide (∃ i, i < k ∧ b i = (v : Int))

section
variable {a b : Nat → Int} {k : Nat}
theorem mt_neg (hb : ∀ i, i < k → 0 ≤ b i) {x : Int} (h : mt a b k x = -1) : ∀ i, i < k → a i ≠ x := by
  induction k with
  | zero => intro i hi; omega
  | succ k ih =>
    intro i hi
    unfold mt at h
    by_cases e : a k = x
    · rw [if_pos e] at h
      have := hb k (by omega)
      omega
    · rw [if_neg e] at h
      rcases Nat.lt_or_ge i k with h1 | h1
      · exact ih (fun j hj => hb j (by omega)) h i h1
      · obtain rfl : i = k := by omega
        exact e
theorem mt_pos {x : Int} (h : mt a b k x ≠ -1) : ∃ i, i < k ∧ a i = x ∧ b i = mt a b k x := by
  induction k with
  | zero => exact absurd rfl h
  | succ k ih =>
    unfold mt at h ⊢
    by_cases e : a k = x
    · exact ⟨k, by omega, e, by rw [if_pos e]⟩
    · rw [if_neg e] at h ⊢
      obtain ⟨i, h1, h2, h3⟩ := ih h
      exact ⟨i, by omega, h2, h3⟩
theorem mt_bd (hb : ∀ i, i < k → 0 ≤ b i ∧ b i < 400) (x : Int) : -1 ≤ mt a b k x ∧ mt a b k x < 400 := by
  induction k with
  | zero => simp [mt]
  | succ k ih =>
    unfold mt
    split
    · have := hb k (by omega); omega
    · exact ih fun j hj => hb j (by omega)
theorem Cons.mono {n : Nat} (h : Cons a b n) (hk : k ≤ n) : Cons a b k := fun i j hi hj => h i j (by omega) hj
theorem Cons.sym (h : Cons a b k) {i j : Nat} (hi : i < k) (hj : j < k) : a i = a j ↔ b i = b j := by
  rcases Nat.lt_trichotomy i j with h1 | h1 | h1
  · have := h j i hj h1
    constructor
    · intro e; exact (this.1 e.symm).symm
    · intro e; exact (this.2 e.symm).symm
  · subst h1; simp
  · exact h i j hi h1
/-- The element is known. -/
theorem cons_known (hb : 0 ≤ b k) (h : Cons a b k) (e : mt a b k (a k) = b k) : Cons a b (k + 1) ∧ (∀ x, mt a b (k + 1) x = mt a b k x) ∧ ∀ v, tk b (k + 1) v = tk b k v := by
  obtain ⟨i, hi, h1, h2⟩ := mt_pos (a := a) (b := b) (k := k) (x := a k) (by omega)
  rw [e] at h2
  refine ⟨fun p q hp hq => ?_, fun x => ?_, fun v => ?_⟩
  · rcases Nat.lt_or_ge p k with h3 | h3
    · exact h p q h3 hq
    · obtain rfl : p = k := by omega
      rw [← h1, ← h2]
      exact h.sym hi hq
  · rw [mt]
    split
    · rename_i e2; rw [← e2, e]
    · rfl
  · unfold tk
    congr 1
    apply propext
    constructor
    · rintro ⟨p, hp, e3⟩
      rcases Nat.lt_or_ge p k with h3 | h3
      · exact ⟨p, h3, e3⟩
      · obtain rfl : p = k := by omega
        exact ⟨i, hi, h2.trans e3⟩
    · rintro ⟨p, hp, e3⟩
      exact ⟨p, by omega, e3⟩
/-- The element stands for another one. -/
theorem cons_other {n : Nat} (hk : k < n) (h1 : mt a b k (a k) ≠ b k) (h2 : mt a b k (a k) ≠ -1) : ¬ Cons a b n := by
  obtain ⟨i, hi, e1, e2⟩ := mt_pos h2
  intro h
  have := (h k i hk hi).1 e1.symm
  exact h1 (by rw [← e2, this])
/-- Another element stands for it. -/
theorem cons_taken {n v : Nat} (hb : ∀ i, i < k → 0 ≤ b i) (hk : k < n) (hv : b k = v) (h1 : mt a b k (a k) = -1) (h2 : tk b k v = true) : ¬ Cons a b n := by
  obtain ⟨i, hi, e1⟩ := of_decide_eq_true h2
  intro h
  have := (h k i hk hi).2 (by rw [hv, e1])
  exact mt_neg hb h1 i hi this.symm
/-- The element is new. -/
theorem cons_new {v : Nat} (hb : ∀ i, i < k → 0 ≤ b i) (hv : b k = v) (h : Cons a b k) (h1 : mt a b k (a k) = -1) (h2 : tk b k v = false) :
    Cons a b (k + 1) ∧ ∀ u, tk b (k + 1) u = if u = v then true else tk b k u := by
  have h2' : ∀ i, i < k → b i ≠ (v : Int) := fun i hi e => of_decide_eq_false h2 ⟨i, hi, e⟩
  refine ⟨fun p q hp hq => ?_, fun u => ?_⟩
  · rcases Nat.lt_or_ge p k with h3 | h3
    · exact h p q h3 hq
    · obtain rfl : p = k := by omega
      constructor
      · intro e; exact absurd e.symm (mt_neg hb h1 q hq)
      · intro e; exact absurd (e.symm.trans hv) (h2' q hq)
  · unfold tk
    by_cases e : u = v
    · subst e
      rw [if_pos rfl]
      exact decide_eq_true ⟨k, by omega, hv⟩
    · rw [if_neg e]
      congr 1
      apply propext
      constructor
      · rintro ⟨p, hp, e3⟩
        rcases Nat.lt_or_ge p k with h3 | h3
        · exact ⟨p, h3, e3⟩
        · obtain rfl : p = k := by omega
          exact absurd (by omega) e
      · rintro ⟨p, hp, e3⟩
        exact ⟨p, by omega, e3⟩
theorem mxs_ge (a : Nat → Int) (k : Nat) : -1 ≤ mxs a k := by
  induction k with
  | zero => simp [mxs]
  | succ k ih => unfold mxs; omega
theorem mxs_lt (ha : ∀ i, i < k → a i < 400) : mxs a k < 400 := by
  induction k with
  | zero => simp [mxs]
  | succ k ih => unfold mxs; have := ih fun i hi => ha i (by omega); have := ha k (by omega); omega
theorem mxs_le (a : Nat → Int) (k : Nat) : ∀ i, i < k → a i ≤ mxs a k := by
  induction k with
  | zero => intro i hi; omega
  | succ k ih =>
    intro i hi
    unfold mxs
    rcases Nat.lt_or_ge i k with h | h
    · have := ih i h; omega
    · obtain rfl : i = k := by omega
      omega
end
end Go.Proofs.YtcmpoblbjjoaiaaDoor
