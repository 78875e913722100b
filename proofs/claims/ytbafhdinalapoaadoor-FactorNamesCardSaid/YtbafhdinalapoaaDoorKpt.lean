/- The reference's kept and Each. -/
import Derived.Test.YtbafhdinalapoaaDoorInv
namespace Go.Proofs.YtbafhdinalapoaaDoor
open Go.RowKit
set_option linter.unusedVariables false
set_option linter.unusedSimpArgs false
set_option maxRecDepth 100000

open L2 (plc fst fst_end fst_succ_miss fst_succ_hit plc_hit plc_miss fst_mono fst_at fst_no fst_le fst_keep)
/-- How many numbers below k are in a list, and which. -/
def kc (f : Nat → Int) (m : Nat) : Nat → Nat
  | 0 => 0
  | k + 1 => kc f m k + if fst f k m < m then 1 else 0
def kf (f : Nat → Int) (m : Nat) : Nat → Nat → Int
  | 0, _ => 0
  | k + 1, i => if i = kc f m k then k else kf f m k i
theorem kc_le (f : Nat → Int) (m k : Nat) : kc f m k ≤ k := by
  induction k with
  | zero => exact Nat.le_refl _
  | succ k ih => unfold kc; split <;> omega

end Go.Proofs.YtbafhdinalapoaaDoor
