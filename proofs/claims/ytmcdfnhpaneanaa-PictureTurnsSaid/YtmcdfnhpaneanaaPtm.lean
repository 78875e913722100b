/- The turned image: fits, choices. -/
import Derived.Test.YtmcdfnhpaneanaaPho
namespace Go.Proofs.Ytmcdfnhpaneanaa
open Go.RowKit
set_option maxRecDepth 100000
set_option linter.unusedVariables false
set_option linter.unusedSimpArgs false

/-- The image turned: its ends are the picks. -/
def tuF (W H : Nat) (f : Nat → Int) : Nat → Int := fun i => f (i % H * W + i / H)
/-- Ends and picks exchanged: there are N ends of the new ones, M of the old ones. -/
def xch (M N : Nat) (p : Nat → Int) : Nat → Int := fun u => if u < N then p (M + u) else p (u - N)
theorem xch_lo {M N u : Nat} {p : Nat → Int} (h : u < N) : xch M N p u = p (M + u) := if_pos h
theorem xch_hi {M N u : Nat} {p : Nat → Int} : xch M N p (N + u) = p u := by
  unfold xch
  rw [if_neg (by omega), show N + u - N = u by omega]
theorem fits_turn {W H : Nat} {f p : Nat → Int} (h : Fits W H f p) : Fits H W (tuF W H f) (xch W H p) := fun x y hx hy => by
  have h1 := h y x hy hx
  unfold tuF
  rw [(co (W := H) y hx).1, (co (W := H) y hx).2, xch_lo hx, xch_hi]
  exact h1.symm
theorem turn_fits {W H : Nat} {f p : Nat → Int} (h : Fits H W (tuF W H f) p) : Fits W H f (xch H W p) := fun x y hx hy => by
  have h1 := h y x hy hx
  unfold tuF at h1
  rw [(co (W := H) x hy).1, (co (W := H) x hy).2] at h1
  rw [xch_lo hx, xch_hi]
  exact h1.symm
theorem cols_xch {W H : Nat} {p : Nat → Int} (h : Cols (W + H) p) : Cols (H + W) (xch W H p) := fun u hu => by
  unfold xch
  by_cases h1 : u < H
  · rw [if_pos h1]; exact h _ (by omega)
  · rw [if_neg h1]; exact h _ (by omega)
theorem nofit_turn {W H : Nat} {f : Nat → Int} : NoFit H W (tuF W H f) ↔ NoFit W H f :=
  ⟨fun h p hp hc => h _ (fits_turn hp) (cols_xch hc), fun h p hp hc => h _ (turn_fits hp) (cols_xch hc)⟩
theorem cho_lo {W H t : Nat} {f : Nat → Int} {c : Int} (ht : t < H) : Cho H W (tuF W H f) t c ↔ Cho W H f (W + t) c :=
  ⟨fun ⟨q, a, b, e⟩ => ⟨_, turn_fits a, cols_xch b, by rw [xch_hi]; exact e⟩, fun ⟨q, a, b, e⟩ => ⟨_, fits_turn a, cols_xch b, by rw [xch_lo ht]; exact e⟩⟩
theorem cho_hi {W H t : Nat} {f : Nat → Int} {c : Int} (ht : t < W) : Cho H W (tuF W H f) (H + t) c ↔ Cho W H f t c :=
  ⟨fun ⟨q, a, b, e⟩ => ⟨_, turn_fits a, cols_xch b, by rw [xch_lo ht]; exact e⟩, fun ⟨q, a, b, e⟩ => ⟨_, fits_turn a, cols_xch b, by rw [xch_hi]; exact e⟩⟩
theorem cho_eq {W H V U s t : Nat} {f g : Nat → Int} (h : ∀ c : Int, Cho W H f t c ↔ Cho V U g s c) (n : Nat) : cho W H f t n = cho V U g s n := by
  cases e : cho V U g s n
  · exact cho_no fun q => by rw [cho_yes ((h n).1 q)] at e; cases e
  · exact cho_yes ((h n).2 (cho_iff.1 e))
theorem chl_lo {W H t : Nat} {f : Nat → Int} (ht : t < H) : chl H W (tuF W H f) t 16 = chl W H f (W + t) 16 := by
  unfold chl
  rw [show cho H W (tuF W H f) t = cho W H f (W + t) from funext fun n => cho_eq (fun c => cho_lo ht) n]
theorem chl_hi {W H t : Nat} {f : Nat → Int} (ht : t < W) : chl H W (tuF W H f) (H + t) 16 = chl W H f t 16 := by
  unfold chl
  rw [show cho H W (tuF W H f) (H + t) = cho W H f t from funext fun n => cho_eq (fun c => cho_hi ht) n]
end Go.Proofs.Ytmcdfnhpaneanaa
