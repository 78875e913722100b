/- Renumbered lists: what ThreadCanonical asks of them. No program. -/
import Derived.Test.YtcmpoblbjjoaiaaDoorNamw
namespace Go.Proofs.YtcmpoblbjjoaiaaDoor
set_option linter.unusedVariables false
set_option linter.unusedSimpArgs false

theorem fst_all {f : Nat → Int} {i M : Nat} (h : i < M) : fst f (f i) i = fst f (f i) M ∧ fst f (f i) M < M := by
  have key : fst f (f i) (i + 1) = fst f (f i) i := by
    by_cases h1 : fst f (f i) i < i
    · exact fst_keep h1
    · rw [fst_succ_hit h1 rfl, fst_end h1]
  have lt : fst f (f i) (i + 1) < i + 1 := by rw [key]; have := fst_le f (f i) i; omega
  have e := fst_mono lt M (by omega)
  rw [e]
  exact ⟨key.symm, by omega⟩
theorem nd_mono (f : Nat → Int) {j k : Nat} (h : j ≤ k) : nd f j ≤ nd f k := by
  induction k with
  | zero => obtain rfl : j = 0 := by omega
            exact Nat.le_refl _
  | succ k ih =>
    rcases Nat.lt_or_ge j (k + 1) with h1 | h1
    · exact Nat.le_trans (ih (by omega)) (Nat.le_add_right _ _)
    · obtain rfl : j = k + 1 := by omega
      exact Nat.le_refl _
theorem nd_first {f : Nat → Int} {p : Nat} (h : ¬ fst f (f p) p < p) : nd f (p + 1) = nd f p + 1 := by
  rw [nd, if_neg h]
theorem fst_first {f : Nat → Int} {x : Int} {M : Nat} (h : fst f x M < M) : f (fst f x M) = x ∧ ¬ fst f (f (fst f x M)) (fst f x M) < fst f x M := by
  have e := fst_at f x M h
  refine ⟨e, ?_⟩
  rw [e]
  intro hlt
  exact fst_no f x M _ hlt (fst_at f x _ hlt)
theorem ren_iff {f : Nat → Int} {i j : Nat} : ren f i = ren f j ↔ f i = f j := by
  have a1 := fst_all (f := f) (i := i) (M := max i j + 1) (by omega)
  have a2 := fst_all (f := f) (i := j) (M := max i j + 1) (by omega)
  constructor
  · intro h
    have b1 := fst_first a1.2
    have b2 := fst_first a2.2
    unfold ren at h
    rw [a1.1, a2.1] at h
    generalize fst f (f i) (max i j + 1) = p at *
    generalize fst f (f j) (max i j + 1) = q at *
    have c1 := nd_first b1.2
    have c2 := nd_first b2.2
    rcases Nat.lt_trichotomy p q with h1 | h1 | h1
    · have := nd_mono f (show p + 1 ≤ q from h1)
      omega
    · rw [← b1.1, ← b2.1, h1]
    · have := nd_mono f (show q + 1 ≤ p from h1)
      omega
  · intro h
    unfold ren
    rw [a1.1, a2.1, h]
theorem fst_congr {f g : Nat → Int} {n : Nat} (h : ∀ i j, i < n → j < n → (f i = f j ↔ g i = g j)) {i : Nat} (hi : i < n) : ∀ k, k ≤ n → fst f (f i) k = fst g (g i) k := by
  intro k hk
  induction k with
  | zero => rfl
  | succ k ih =>
    have e := ih (by omega)
    unfold fst
    rw [e]
    have := h k i (by omega) hi
    by_cases h1 : f k = f i
    · rw [if_pos h1, if_pos (this.1 h1)]
    · rw [if_neg h1, if_neg (fun h2 => h1 (this.2 h2))]
theorem nd_congr {f g : Nat → Int} {n : Nat} (h : ∀ i j, i < n → j < n → (f i = f j ↔ g i = g j)) : ∀ k, k ≤ n → nd f k = nd g k := by
  intro k hk
  induction k with
  | zero => rfl
  | succ k ih =>
    unfold nd
    rw [ih (by omega), fst_congr h (show k < n by omega) k (by omega)]
theorem ren_congr {f g : Nat → Int} {n : Nat} (h : ∀ i j, i < n → j < n → (f i = f j ↔ g i = g j)) {i : Nat} (hi : i < n) : ren f i = ren g i := by
  unfold ren
  have hl := fst_le g (g i) i
  rw [fst_congr h hi i (by omega), nd_congr h _ (by omega)]
theorem ren_ren (f : Nat → Int) (i : Nat) : ren f i = ren (ren f) i :=
  ren_congr (n := i + 1) (fun a b _ _ => ren_iff.symm) (by omega)
theorem ren_bd (f : Nat → Int) (i : Nat) : 0 ≤ ren f i ∧ ren f i ≤ nd f i ∧ ren f i ≤ i := by
  have h1 := nd_mono f (fst_le f (f i) i)
  have h2 := nd_le f i
  unfold ren
  omega
theorem ren_max (f : Nat → Int) (i : Nat) : max ((nd f i : Int) - 1) (ren f i) = (nd f (i + 1) : Int) - 1 := by
  by_cases h : fst f (f i) i < i
  · have b := fst_first h
    have c := nd_first b.2
    have m := nd_mono f (show fst f (f i) i + 1 ≤ i from h)
    have e : nd f (i + 1) = nd f i := by rw [nd, if_pos h]; rfl
    unfold ren
    omega
  · have e := nd_first h
    have r := ren_new h
    omega
theorem cons_iff {f g : Nat → Int} {n : Nat} : Cons f g n ↔ ∀ i, i < n → ren f i = ren g i := by
  constructor
  · intro h i hi
    exact ren_congr (fun i j hi hj => h.sym hi hj) hi
  · intro h i j hi hj
    rw [← ren_iff (f := f), h i hi, h j (by omega), ren_iff]
theorem mt_at {f g : Nat → Int} {n k : Nat} (hb : ∀ i, i < n → 0 ≤ g i) (hc : Cons f g n) (hk : k < n) : mt f g n (f k) = g k := by
  by_cases e : mt f g n (f k) = -1
  · exact absurd rfl (mt_neg hb e k hk)
  · obtain ⟨i, hi, h1, h2⟩ := mt_pos e
    rw [← h2]
    exact (hc.sym hi hk).1 h1
end Go.Proofs.YtcmpoblbjjoaiaaDoor
