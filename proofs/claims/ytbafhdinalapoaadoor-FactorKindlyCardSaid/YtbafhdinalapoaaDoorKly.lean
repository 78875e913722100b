/- FactorKindly: the kinds of a turned grid, and its least draft. -/
import Derived.Test.YtbafhdinalapoaaDoorFew
import Derived.Test.YtbafhdinalapoaaDoorFlm
import Derived.Test.YtbafhdinalapoaaDoorDtn
namespace Go.Proofs.YtbafhdinalapoaaDoor
open Go.RowKit
set_option linter.unusedVariables false
set_option linter.unusedSimpArgs false
set_option maxRecDepth 100000

open L2 (nd ren fst)
theorem rcode_congr {W y : Nat} {f g : Nat → Bool} (k : Nat) (h : ∀ i, i < k → f (y * W + i) = g (y * W + i)) : rcode W f y k = rcode W g y k := by
  induction k with
  | zero => rfl
  | succ k ih =>
    unfold rcode
    rw [ih fun i hi => h i (by omega), h k (by omega)]
theorem fst_congr {c d : Nat → Int} (x : Int) (m : Nat) (h : ∀ i, i < m → c i = d i) : fst c x m = fst d x m := by
  induction m with
  | zero => rfl
  | succ m ih =>
    have ih := ih fun i hi => h i (by omega)
    unfold fst
    rw [ih, h m (by omega)]
theorem nd_congr {c d : Nat → Int} (m : Nat) (h : ∀ i, i < m → c i = d i) : nd c m = nd d m := by
  induction m with
  | zero => rfl
  | succ m ih =>
    have ih := ih fun i hi => h i (by omega)
    unfold nd
    rw [ih, h m (by omega), fst_congr _ m fun i hi => h i (by omega)]
theorem frn_congr {c d : Nat → Int} (m k : Nat) (h : ∀ i, i < m → c i = d i) : frn c m k = frn d m k := by
  induction m with
  | zero => rfl
  | succ m ih =>
    have ih := ih fun i hi => h i (by omega)
    unfold frn
    rw [ih, h m (by omega), fst_congr _ m fun i hi => h i (by omega), nd_congr m fun i hi => h i (by omega)]
theorem ren_congr_ {c d : Nat → Int} (y : Nat) (h : ∀ i, i ≤ y → c i = d i) : ren c y = ren d y := by
  unfold ren
  rw [h y (by omega), fst_congr _ y fun i hi => h i (by omega), nd_congr _ fun i hi => h i (by have := L2.fst_le d (d y) y; omega)]
/-- The rows of a grid turned twice are those of the grid. -/
theorem tnf2 {W H : Nat} (f : Nat → Bool) {y : Nat} (hy : y < H) : rc W (tnf H W (tnf W H f)) y = rc W f y := by
  unfold rc
  rw [rcode_congr (g := f) W fun i hi => by rw [tnf_at _ _ _ hi, tnf_at _ _ _ hy]]
theorem oft_eqv (W H : Nat) (f : Nat → Bool) : (ofp H W (tnf W H f)).Eqv (ofp W H f).turn := by
  have h : ∀ i, i < H → rc W (tnf H W (tnf W H f)) i = rc W f i := fun i hi => tnf2 f hi
  refine ⟨nd_congr H h, rfl, rfl, rfl, fun i hi => ?_, fun _ _ => rfl, fun t s ht hs => ?_⟩
  · show (ren (rc W (tnf H W (tnf W H f))) i).toNat = (ren (rc W f) i).toNat
    rw [ren_congr_ i fun j hj => h j (Nat.lt_of_le_of_lt hj hi)]
  · show tnf W H f (frn (rc H (tnf W H f)) W t * H + frn (rc W (tnf H W (tnf W H f))) H s) = f (frn (rc W f) H s * W + frn (rc H (tnf W H f)) W t)
    have hs' : s < nd (rc W f) H := by
      have hs : s < nd (rc W (tnf H W (tnf W H f))) H := hs
      rwa [nd_congr H h] at hs
    rw [frn_congr H s h, tnf_at _ _ _ (frn_spec (rc W f) H s hs').1]
/-- Two columns are of one kind exactly if they have the same cells. -/
theorem col_same (W H : Nat) (f : Nat → Bool) (x z : Nat) : (decide (∀ y, y < H → f (y * W + x) = f (y * W + z)) != (ren (rc H (tnf W H f)) x == ren (rc H (tnf W H f)) z)) = false := by
  have e : (ren (rc H (tnf W H f)) x == ren (rc H (tnf W H f)) z) = decide (∀ y, y < H → f (y * W + x) = f (y * W + z)) := by
    rw [Bool.eq_iff_iff]
    simp only [beq_iff_eq, decide_eq_true_eq]
    rw [ren_eq, rc_eq]
    unfold rsm
    rw [decide_eq_true_iff]
    constructor
    · intro h y hy
      have := h y hy
      rwa [tnf_at _ _ _ hy, tnf_at _ _ _ hy] at this
    · intro h y hy
      rw [tnf_at _ _ _ hy, tnf_at _ _ _ hy]
      exact h y hy
  rw [e]
  simp
end Go.Proofs.YtbafhdinalapoaaDoor
