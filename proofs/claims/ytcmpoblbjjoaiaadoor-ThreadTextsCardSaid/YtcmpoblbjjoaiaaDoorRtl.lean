/- The reference's Tile. -/
import Derived.Test.YtcmpoblbjjoaiaaDoorRev
namespace Go.Proofs.YtcmpoblbjjoaiaaDoor
open Go.RowKit
set_option linter.unusedVariables false
set_option linter.unusedSimpArgs false

theorem tile_step {n k : Nat} {f : Nat → Int} (hn : 0 < n) : ∀ i, i < k * n + n → both (k * n) (fun x => f (x % n)) f i = f (i % n) := by
  intro i hi
  unfold both
  by_cases h : i < k * n
  · rw [if_pos h]
  · rw [if_neg h]
    congr 1
    have e : i = n * k + (i - k * n) := by rw [Nat.mul_comm]; omega
    conv => rhs; rw [e]
    rw [Nat.mul_add_mod, Nat.mod_eq_of_lt (by omega)]

end Go.Proofs.YtcmpoblbjjoaiaaDoor
