/- The text of a list. No program. -/
import Derived.Test.YtcmpoblbjjoaiaaDoorWrd
namespace Go.Proofs.YtcmpoblbjjoaiaaDoor
set_option linter.unusedVariables false
set_option linter.unusedSimpArgs false

theorem join_one (x sep : List UInt8) : Lib.join [x] sep = x := by simp [Lib.join, List.intercalate]
theorem join_snoc (xs : List (List UInt8)) (x sep : List UInt8) (h : xs ≠ []) : Lib.join (xs ++ [x]) sep = Lib.join xs sep ++ sep ++ x := by
  induction xs with
  | nil => exact absurd rfl h
  | cons y ys ih =>
    cases ys with
    | nil => simp [Lib.join, List.intercalate]
    | cons z zs =>
      have := ih (by simp)
      simp only [Lib.join, List.intercalate, List.cons_append, List.intersperse_cons_cons, List.flatten_cons] at this ⊢
      rw [this]
      simp
theorem join_length (xs : List (List UInt8)) (sep : List UInt8) (k : Nat) (h : ∀ x ∈ xs, x.length ≤ k) : (Lib.join xs sep).length ≤ xs.length * (k + sep.length) := by
  induction xs with
  | nil => simp [Lib.join, List.intercalate]
  | cons y ys ih =>
    have hy := h y (by simp)
    cases ys with
    | nil => rw [join_one]; simp; omega
    | cons z zs =>
      have := ih fun x hx => h x (List.mem_cons_of_mem _ hx)
      simp only [Lib.join, List.intercalate, List.intersperse_cons_cons, List.flatten_cons, List.length_append] at this ⊢
      simp only [List.length_cons] at this ⊢
      rw [Nat.add_mul (zs.length + 1) 1]
      omega
theorem dd_len {n : Nat} (h : n < 1000) : (dd n).length ≤ 3 := by
  by_cases h1 : n < 10
  · rw [dd_small h1]; simp
  · rw [dd_big (by omega)]
    by_cases h2 : n / 10 < 10
    · rw [dd_small h2]; simp
    · rw [dd_big (by omega), dd_small (by omega)]; simp

/-- The word of an element. -/
def wo (z : Int) : List UInt8 := dd (z.toNat + 1)
/-- The text of the first n elements. -/
def tx (f : Nat → Int) (n : Nat) : List UInt8 := Lib.join ((List.range n).map fun i => wo (f i)) [32]
theorem tx_zero (f : Nat → Int) : tx f 0 = [] := by simp [tx, Lib.join, List.intercalate]
theorem tx_one (f : Nat → Int) : tx f 1 = wo (f 0) := by simp [tx, join_one]
theorem tx_succ (f : Nat → Int) {n : Nat} (h : 0 < n) : tx f (n + 1) = tx f n ++ [32] ++ wo (f n) := by
  unfold tx
  rw [List.range_succ, List.map_append, List.map_cons, List.map_nil, join_snoc]
  intro e
  have := congrArg List.length e
  simp at this
  omega
theorem wo_len {z : Int} (h : z < 400) : (wo z).length ≤ 3 := dd_len (by omega)
theorem tx_length {f : Nat → Int} {n : Nat} (h : ∀ i, i < n → f i < 400) : (tx f n).length ≤ n * 4 := by
  unfold tx
  have := join_length ((List.range n).map fun i => wo (f i)) [32] 3 (by
    intro x hx
    obtain ⟨i, hi, rfl⟩ := List.mem_map.1 hx
    exact wo_len (h i (List.mem_range.1 hi)))
  simpa using this
theorem tx_congr {f g : Nat → Int} {n : Nat} (h : ∀ i, i < n → f i = g i) : tx f n = tx g n := by
  unfold tx
  congr 1
  exact List.map_congr_left fun i hi => by rw [h i (List.mem_range.1 hi)]
end Go.Proofs.YtcmpoblbjjoaiaaDoor
