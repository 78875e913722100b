/- Parse of a text gives the grid that it was made of. -/
import Derived.Test.YtnamjpdbadjgpaaBackp
namespace Go.Proofs.Ytnamjpdbadjgpaa
open Go.RowKit
set_option linter.unusedVariables false
set_option linter.unusedSimpArgs false

theorem T_small {W H : Nat} (f : Nat → Bool) (a2 : W ≤ 64) (a4 : H ≤ 64) : (T W H f).size ≤ 5000 := by
  rw [T_size]
  have := Nat.mul_le_mul a4 (show W + 1 ≤ 65 by omega)
  omega
/-- Parse of a text gives the grid that it was made of. -/
theorem parse_T (W H : Nat) (f : Nat → Bool) (w : World) (a1 : 1 ≤ W) (a2 : W ≤ 64) (a3 : 1 ≤ H) (a4 : H ≤ 64) :
    Calls Try.prog 29 #[.string (T W H f)] w (OkGrid w W H f) := by
  have ht := T_txt W H f a1 a2 a3 a4
  refine (parse_any (T W H f) w (T_small f a2 a4)).mono ?_
  rintro e w' (⟨W', H', ht', k, he, hk, hR, hB⟩ | ⟨hn, _⟩)
  · have e1 : W' = W := by have h1 := ht.2.2.2.2.2.2; have h2 := ht'.2.2.2.2.2.2; rw [h1] at h2; omega
    subst e1
    have e2 : H' = H := by
      have h1 := ht.2.2.2.2.1; have h2 := ht'.2.2.2.2.1
      rw [← h1] at h2
      exact Nat.eq_of_mul_eq_mul_right (by omega) h2
    subst e2
    exact ⟨k, he, hk, hR.congr fun i hi => T_bits W' H' f i hi, hB⟩
  · exact absurd ht (hn W H)

end Go.Proofs.Ytnamjpdbadjgpaa
