/- The reference: Hangs, Apart, way, Walk. -/
import Derived.Test.YtchbbphokpmacaaHrf
namespace Go.Proofs.Ytchbbphokpmacaa
open Go.RowKit
set_option maxRecDepth 100000
set_option linter.unusedVariables false
set_option linter.unusedSimpArgs false

theorem hgs_int {R : Nat → Nat → Bool} {N L : Nat} (h : (ofl (up R N (t0 R N)) N).length = L) : ((L : Int) == (N : Int)) = hgs R N := by
  subst h
  unfold hgs sz
  rw [Bool.eq_iff_iff, beq_iff_eq, beq_iff_eq]
  omega
/-- A list and an error came back. -/
def PRet (w : World) (l : List Nat) (z : Int) (e : Ending) (w' : World) : Prop :=
  ∃ D c, e = .returned (.tuple #[.slice D l.length c, .int .i64 z]) ∧ Cp D l.length c ∧ LL w' D l ∧ Below w.heap.size w w'
/-- The set that comes off first. -/
def apL (R : Nat → Nat → Bool) (N : Nat) : List Nat := if hgs R N then [] else ofl (up R N (t0 R N)) N
theorem ll_nil (w : World) (D : Option Addr) : LL w D [] := L2.Holds.none_
end Go.Proofs.Ytchbbphokpmacaa
