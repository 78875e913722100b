/- Renumber, the program's (a map in a closure) and the reference's. -/
import Derived.Test.YtbafhdinalapoaaDoorIa
namespace Go.Proofs.YtbafhdinalapoaaDoor.L2
open Go.RowKit Go.Maps
set_option linter.unusedVariables false
set_option linter.unusedSimpArgs false

/-- What the closure of 'convert' finds, behind k elements. -/
structure CS (W : World) (B b1 b2 : Nat) (A : Option Addr) (n c : Nat) (f : Nat → Int) (k : Nat) (w : World) : Prop where
  num : NumSt w B f k
  bel : Below W.heap.size W w
  l : w.cell? ⟨b1, 0, none⟩ = some (.slice A n c)
  to : w.cell? ⟨b2, 0, none⟩ = some (.func (.func 85) #[.map (some B)] #[])
  hB : W.heap.size ≤ B
  n1 : B < b1
  n2 : b1 < b2
  n3 : b2 < w.heap.size
theorem CS.keep {W : World} {B b1 b2 : Nat} {A : Option Addr} {n c : Nat} {f : Nat → Int} {k : Nat} {w1 w2 : World} (h : CS W B b1 b2 A n c f k w1) (hb : Below (b2 + 1) w1 w2) : CS W B b1 b2 A n c f k w2 := by
  have n1 := h.n1
  have n2 := h.n2
  have hB := h.hB
  exact ⟨h.num.block (hb.block B (by omega)), h.bel.trans (hb.mono (by omega)), (hb.cell (p := ⟨b1, 0, none⟩) (by simp; omega)).trans h.l, (hb.cell (p := ⟨b2, 0, none⟩) (by simp)).trans h.to, hB, n1, n2, Nat.lt_of_lt_of_le h.n3 hb.size⟩

theorem lchk_zero {n : Nat} {f : Nat → Int} (h : lchk n f = 0) : ∀ i, i < n → 0 ≤ f i ∧ f i < 400 := by
  unfold lchk at h
  split at h
  · cases h
  · split at h
    · rename_i h1; exact of_decide_eq_true h1
    · cases h

end Go.Proofs.YtbafhdinalapoaaDoor.L2
