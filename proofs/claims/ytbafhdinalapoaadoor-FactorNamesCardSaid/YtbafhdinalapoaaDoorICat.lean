/- slices.Concat of two lists; Join, the program's and the reference's. -/
import Derived.Test.YtbafhdinalapoaaDoorIJoi
namespace Go.Proofs.YtbafhdinalapoaaDoor.L2
open Go.RowKit
set_option linter.unusedVariables false
set_option linter.unusedSimpArgs false

def CatOut (w : World) (n : Nat) (f : Nat → Int) (e : Ending) (w' : World) : Prop := ∃ v, e = .returned v ∧ Own w' w.heap.size v n f ∧ Below w.heap.size w w'

theorem both_zero (f g : Nat → Int) : both 0 f g = g := by funext i; simp [both]

/-- The error of Join, or 0. -/
def jchk (n : Nat) (f : Nat → Int) (m : Nat) (g : Nat → Int) : Int := if bchk n f m g ≠ 0 then bchk n f m g else if 400 < n + m then 4 else 0

end Go.Proofs.YtbafhdinalapoaaDoor.L2
