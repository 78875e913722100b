/- The function values that the program hands to 'build': what each one answers. -/
import Derived.Test.YtbafhdinalapoaaIBld
import Derived.Deep.RegionHeld3
import Derived.StillTailTactics
namespace Go.Proofs.Ytbafhdinalapoaa.L2
open Go.RowKit
set_option linter.unusedVariables false
set_option linter.unusedSimpArgs false

/-- A captured number in a variable of its own. -/
def Num (w : World) (g : Nat) (v : Int) : Prop := w.cell? ⟨g, 0, none⟩ = some (.int .i64 v) ∧ g < w.heap.size
theorem Num.below {w w' : World} {g : Nat} {v : Int} (h : Num w g v) (hb : Below w.heap.size w w') : Num w' g v :=
  ⟨(hb.cell (p := ⟨g, 0, none⟩) h.2).trans h.1, Nat.lt_of_lt_of_le h.2 hb.size⟩
/-- A captured list in a variable of its own. -/
structure Lst (w : World) (g : Nat) (A : Option Addr) (n c : Nat) (f : Nat → Int) : Prop where
  box : w.cell? ⟨g, 0, none⟩ = some (.slice A n c)
  lt : g < w.heap.size
  cells : Holds w w.heap.size A n f
theorem Lst.below {w w' : World} {g n c : Nat} {A : Option Addr} {f : Nat → Int} (h : Lst w g A n c f) (hb : Below w.heap.size w w') : Lst w' g A n c f :=
  ⟨(hb.cell (p := ⟨g, 0, none⟩) h.lt).trans h.box, Nat.lt_of_lt_of_le h.lt hb.size, (h.cells.below hb).more hb.size⟩

/-- The place in a pointed list. -/
def ptd (p : Nat) (x : Nat) : Int := min ((x % p : Nat) : Int) ((p : Int) - ((x % p : Nat) : Int))

end Go.Proofs.Ytbafhdinalapoaa.L2
