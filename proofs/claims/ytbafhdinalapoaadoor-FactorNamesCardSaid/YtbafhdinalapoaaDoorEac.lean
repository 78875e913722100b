/- A list has each number once if and only if all are kept. -/
import Derived.Test.YtbafhdinalapoaaDoorKpt
namespace Go.Proofs.YtbafhdinalapoaaDoor
open Go.RowKit
set_option linter.unusedVariables false
set_option linter.unusedSimpArgs false
set_option maxRecDepth 100000

open L2 (plc fst fst_end fst_succ_miss fst_succ_hit plc_hit plc_miss fst_mono fst_at fst_no fst_le fst_keep)
theorem seen_next (f : Nat → Int) (x : Int) (m : Nat) : fst f x (m + 1) < m + 1 ↔ fst f x m < m ∨ f m = x := by
  by_cases h : fst f x m < m
  · rw [fst_keep h]; constructor
    · intro _; exact Or.inl h
    · intro _; omega
  · by_cases e : f m = x
    · rw [fst_succ_hit h e]; simp [e]
    · rw [fst_succ_miss h e]; simp [h, e]
theorem kc_step (f : Nat → Int) (m N : Nat) : kc f (m + 1) N = kc f m N + if 0 ≤ f m ∧ f m < N ∧ ¬ fst f (f m) m < m then 1 else 0 := by
  induction N with
  | zero => rw [if_neg (by omega)]; rfl
  | succ N ih =>
    have h1 : kc f (m + 1) (N + 1) = kc f (m + 1) N + if fst f N (m + 1) < m + 1 then 1 else 0 := rfl
    have h2 : kc f m (N + 1) = kc f m N + if fst f N m < m then 1 else 0 := rfl
    rw [h1, h2, ih]
    simp only [seen_next]
    by_cases e : f m = (N : Int)
    · rw [e]
      by_cases h : fst f (N : Int) m < m
      · rw [if_neg (by omega), if_pos (Or.inr rfl), if_pos h, if_neg (fun x => x.2.2 h)]
      · rw [if_neg (by omega), if_pos (Or.inr rfl), if_neg h, if_pos ⟨by omega, by omega, h⟩]
    · have e1 : (fst f (N : Int) m < m ∨ f m = (N : Int)) ↔ fst f (N : Int) m < m := ⟨fun h => h.resolve_right e, Or.inl⟩
      have e2 : (0 ≤ f m ∧ f m < ((N + 1 : Nat) : Int) ∧ ¬ fst f (f m) m < m) ↔ (0 ≤ f m ∧ f m < (N : Int) ∧ ¬ fst f (f m) m < m) := by
        constructor
        · rintro ⟨a, b, c⟩; exact ⟨a, by omega, c⟩
        · rintro ⟨a, b, c⟩; exact ⟨a, by omega, c⟩
      simp only [e1, e2]
      omega
theorem kc_full (f : Nat → Int) (N m : Nat) : kc f m N ≤ m ∧ (kc f m N = m ↔ ∀ i, i < m → 0 ≤ f i ∧ f i < N ∧ ¬ fst f (f i) i < i) := by
  induction m with
  | zero =>
    have h : kc f 0 N = 0 := by
      induction N with
      | zero => rfl
      | succ N ih => show kc f 0 N + (if fst f N 0 < 0 then 1 else 0) = 0; rw [ih, if_neg (by omega)]
    rw [h]
    exact ⟨Nat.le_refl _, fun _ i hi => absurd hi (by omega), fun _ => rfl⟩
  | succ m ih =>
    rw [kc_step]
    by_cases h : 0 ≤ f m ∧ f m < N ∧ ¬ fst f (f m) m < m
    · rw [if_pos h]
      refine ⟨by omega, fun e i hi => ?_, fun e => ?_⟩
      · rcases Nat.lt_succ_iff_lt_or_eq.1 hi with h' | rfl
        · exact ih.2.1 (by omega) i h'
        · exact h
      · rw [ih.2.2 fun i hi => e i (by omega)]
    · rw [if_neg h]
      refine ⟨by omega, fun e => by omega, fun e => absurd (e m (by omega)) h⟩
theorem prm_kc (m : Nat) (f : Nat → Int) (N : Nat) : prm m f N = (decide (m = N) && decide (kc f m N = N)) := by
  unfold prm
  rw [Bool.eq_iff_iff, Bool.and_eq_true, decide_eq_true_iff, decide_eq_true_iff, decide_eq_true_iff]
  have h := (kc_full f N m).2
  constructor
  · rintro ⟨rfl, h1, h2⟩
    exact ⟨rfl, h.2 fun i hi => ⟨(h1 i hi).1, (h1 i hi).2, h2 i hi⟩⟩
  · rintro ⟨rfl, h1⟩
    exact ⟨rfl, fun i hi => ⟨(h.1 h1 i hi).1, (h.1 h1 i hi).2.1⟩, fun i hi => (h.1 h1 i hi).2.2⟩

end Go.Proofs.YtbafhdinalapoaaDoor
