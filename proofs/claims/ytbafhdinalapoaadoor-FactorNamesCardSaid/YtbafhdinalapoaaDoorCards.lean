/-
  DERIVED. GIVEN WITH THE SEED: THE CARDS: each row of YtbafhdinalapoaaDoorRows.lean that lists a variable, with what it lists TIED to the program's text (the seventh form; the later family's looks); each row that meets fmt, with fmt's text TOLD by the authors' own Lean function (tested against real Go, not proved from fmt's source: count such statements apart). THE CARD IS WHAT COUNTS. Prove the row's statement (the work); the ties are given (YtbafhdinalapoaaDoorTie.lean); close each card by the builder's one call (the guide's Derived/Test/ToyasCard.lean, 'card_holds'). Laid BY PROGRAM, IN A SANDBOX (cutbox-door.mjs). By AI agents, Wed Nov 11 2026. No macro, syntax, notation, axiom, sorry.
-/
import Derived.Test.YtbafhdinalapoaaDoorRows
import GoSem.ClaimSeven
namespace Go.Proofs.YtbafhdinalapoaaDoor
namespace Rows

/-- THE TIED CARD OF 'raddlelaw04.FactorNames'. -/
def factorNamesCard : Claim7 := { stood := { row := factorNamesRow, standIns := [], harness := (true, "e8a8f8990c8244179f64cb2e1ffa9572fb450fbaadf145e8848769ba0e0f6c0d"), looks := false }, kinds := [], alts := [], laidByText := true, laidKinds := [.data], laidTests := true, laidLooks := .later }
def FactorNamesCardSaid : Prop := Claim7.holds Tryd.pinned (.plain (OpenSpec.ofChange factorNamesSpec)) factorNamesCard

/-- THE TIED CARD OF 'raddlelaw04.FactorKinds'. -/
def factorKindsCard : Claim7 := { stood := { row := factorKindsRow, standIns := [], harness := (true, "e8a8f8990c8244179f64cb2e1ffa9572fb450fbaadf145e8848769ba0e0f6c0d"), looks := false }, kinds := [], alts := [], laidByText := true, laidKinds := [.data], laidTests := true, laidLooks := .later }
def FactorKindsCardSaid : Prop := Claim7.holds Tryd.pinned (.plain (OpenSpec.ofChange factorKindsSpec)) factorKindsCard

/-- THE TIED CARD OF 'raddlelaw04.FactorInverse'. -/
def factorInverseCard : Claim7 := { stood := { row := factorInverseRow, standIns := [], harness := (true, "e8a8f8990c8244179f64cb2e1ffa9572fb450fbaadf145e8848769ba0e0f6c0d"), looks := false }, kinds := [], alts := [], laidByText := true, laidKinds := [.data], laidTests := true, laidLooks := .later }
def FactorInverseCardSaid : Prop := Claim7.holds Tryd.pinned (.plain (OpenSpec.ofChange factorInverseSpec)) factorInverseCard

/-- THE TIED CARD OF 'raddlelaw04.FactorFewest'. -/
def factorFewestCard : Claim7 := { stood := { row := factorFewestRow, standIns := [], harness := (true, "e8a8f8990c8244179f64cb2e1ffa9572fb450fbaadf145e8848769ba0e0f6c0d"), looks := false }, kinds := [], alts := [], laidByText := true, laidKinds := [.data], laidTests := true, laidLooks := .later }
def FactorFewestCardSaid : Prop := Claim7.holds Tryd.pinned (.plain (OpenSpec.ofChange factorFewestSpec)) factorFewestCard

/-- THE TIED CARD OF 'raddlelaw04.FactorKindly'. -/
def factorKindlyCard : Claim7 := { stood := { row := factorKindlyRow, standIns := [], harness := (true, "e8a8f8990c8244179f64cb2e1ffa9572fb450fbaadf145e8848769ba0e0f6c0d"), looks := false }, kinds := [], alts := [], laidByText := true, laidKinds := [.data], laidTests := true, laidLooks := .later }
def FactorKindlyCardSaid : Prop := Claim7.holds Tryd.pinned (.plain (OpenSpec.ofChange factorKindlySpec)) factorKindlyCard

/-- THE TIED CARD OF 'raddlelaw04.FactorSame'. -/
def factorSameCard : Claim7 := { stood := { row := factorSameRow, standIns := [], harness := (true, "e8a8f8990c8244179f64cb2e1ffa9572fb450fbaadf145e8848769ba0e0f6c0d"), looks := false }, kinds := [], alts := [], laidByText := true, laidKinds := [.data], laidTests := true, laidLooks := .later }
def FactorSameCardSaid : Prop := Claim7.holds Tryd.pinned (.plain (OpenSpec.ofChange factorSameSpec)) factorSameCard

/-- THE SECOND FORM's CARD OF 'raddlelaw04.FactorNames'. -/
def factorNamesUptoCard : Claim7 := { stood := { row := factorNamesUptoRow, standIns := [], harness := (true, "e8a8f8990c8244179f64cb2e1ffa9572fb450fbaadf145e8848769ba0e0f6c0d"), looks := false }, kinds := [], alts := [], laidByText := true, laidKinds := [.data], laidTests := true, laidLooks := .later }
def FactorNamesUptoCardSaid : Prop := Claim7.holds Tryd.pinned (.plain (OpenSpec.upto factorNamesSpec)) factorNamesUptoCard

/-- THE SECOND FORM's CARD OF 'raddlelaw04.FactorKinds'. -/
def factorKindsUptoCard : Claim7 := { stood := { row := factorKindsUptoRow, standIns := [], harness := (true, "e8a8f8990c8244179f64cb2e1ffa9572fb450fbaadf145e8848769ba0e0f6c0d"), looks := false }, kinds := [], alts := [], laidByText := true, laidKinds := [.data], laidTests := true, laidLooks := .later }
def FactorKindsUptoCardSaid : Prop := Claim7.holds Tryd.pinned (.plain (OpenSpec.upto factorKindsSpec)) factorKindsUptoCard

/-- THE SECOND FORM's CARD OF 'raddlelaw04.FactorInverse'. -/
def factorInverseUptoCard : Claim7 := { stood := { row := factorInverseUptoRow, standIns := [], harness := (true, "e8a8f8990c8244179f64cb2e1ffa9572fb450fbaadf145e8848769ba0e0f6c0d"), looks := false }, kinds := [], alts := [], laidByText := true, laidKinds := [.data], laidTests := true, laidLooks := .later }
def FactorInverseUptoCardSaid : Prop := Claim7.holds Tryd.pinned (.plain (OpenSpec.upto factorInverseSpec)) factorInverseUptoCard

/-- THE SECOND FORM's CARD OF 'raddlelaw04.FactorFewest'. -/
def factorFewestUptoCard : Claim7 := { stood := { row := factorFewestUptoRow, standIns := [], harness := (true, "e8a8f8990c8244179f64cb2e1ffa9572fb450fbaadf145e8848769ba0e0f6c0d"), looks := false }, kinds := [], alts := [], laidByText := true, laidKinds := [.data], laidTests := true, laidLooks := .later }
def FactorFewestUptoCardSaid : Prop := Claim7.holds Tryd.pinned (.plain (OpenSpec.upto factorFewestSpec)) factorFewestUptoCard

/-- THE SECOND FORM's CARD OF 'raddlelaw04.FactorKindly'. -/
def factorKindlyUptoCard : Claim7 := { stood := { row := factorKindlyUptoRow, standIns := [], harness := (true, "e8a8f8990c8244179f64cb2e1ffa9572fb450fbaadf145e8848769ba0e0f6c0d"), looks := false }, kinds := [], alts := [], laidByText := true, laidKinds := [.data], laidTests := true, laidLooks := .later }
def FactorKindlyUptoCardSaid : Prop := Claim7.holds Tryd.pinned (.plain (OpenSpec.upto factorKindlySpec)) factorKindlyUptoCard

/-- THE SECOND FORM's CARD OF 'raddlelaw04.FactorSame'. -/
def factorSameUptoCard : Claim7 := { stood := { row := factorSameUptoRow, standIns := [], harness := (true, "e8a8f8990c8244179f64cb2e1ffa9572fb450fbaadf145e8848769ba0e0f6c0d"), looks := false }, kinds := [], alts := [], laidByText := true, laidKinds := [.data], laidTests := true, laidLooks := .later }
def FactorSameUptoCardSaid : Prop := Claim7.holds Tryd.pinned (.plain (OpenSpec.upto factorSameSpec)) factorSameUptoCard
end Rows
end Go.Proofs.YtbafhdinalapoaaDoor
