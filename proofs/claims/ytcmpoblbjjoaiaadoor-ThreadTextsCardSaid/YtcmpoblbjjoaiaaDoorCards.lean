/-
  DERIVED. GIVEN WITH THE SEED: THE CARDS: each row of YtcmpoblbjjoaiaaDoorRows.lean that lists a variable, with what it lists TIED to the program's text (the seventh form; the later family's looks); each row that meets fmt, with fmt's text TOLD by the authors' own Lean function (tested against real Go, not proved from fmt's source: count such statements apart). THE CARD IS WHAT COUNTS. Prove the row's statement (the work); the ties are given (YtcmpoblbjjoaiaaDoorTie.lean); close each card by the builder's one call (the guide's Derived/Test/ToyasCard.lean, 'card_holds'). Laid BY PROGRAM, IN A SANDBOX (cutbox-door.mjs). By AI agents, Wed Nov 11 2026. No macro, syntax, notation, axiom, sorry.
-/
import Derived.Test.YtcmpoblbjjoaiaaDoorRows
import GoSem.ClaimSeven
namespace Go.Proofs.YtcmpoblbjjoaiaaDoor
namespace Rows

/-- THE TIED CARD OF 'raddlelaw02.ThreadNames'. -/
def threadNamesCard : Claim7 := { stood := { row := threadNamesRow, standIns := [], harness := (true, "2b021d397cc8383c79b7b8c8f282710f62c40b51a43016d093dce75471dfd73a"), looks := true }, kinds := [], alts := [], laidByText := true, laidKinds := [.data, .data, .data, .sentinel, .sentinel], laidTests := true, laidLooks := .later }
def ThreadNamesCardSaid : Prop := Claim7.holds Tryd.pinned (.plain (OpenSpec.ofChange threadNamesSpec)) threadNamesCard

/-- THE TIED CARD OF 'raddlelaw02.ThreadTexts'. -/
def threadTextsCard : Claim7 := { stood := { row := threadTextsRow, standIns := [], harness := (true, "2b021d397cc8383c79b7b8c8f282710f62c40b51a43016d093dce75471dfd73a"), looks := true }, kinds := [], alts := [], laidByText := true, laidKinds := [.data, .data, .data, .sentinel, .sentinel], laidTests := true, laidLooks := .later }
def ThreadTextsCardSaid : Prop := Claim7.holds Tryd.pinned (.plain (OpenSpec.ofChange threadTextsSpec)) threadTextsCard

/-- THE TIED CARD OF 'raddlelaw02.ThreadBack'. -/
def threadBackCard : Claim7 := { stood := { row := threadBackRow, standIns := [], harness := (true, "2b021d397cc8383c79b7b8c8f282710f62c40b51a43016d093dce75471dfd73a"), looks := true }, kinds := [], alts := [], laidByText := true, laidKinds := [.data, .data, .data, .sentinel, .sentinel], laidTests := true, laidLooks := .later }
def ThreadBackCardSaid : Prop := Claim7.holds Tryd.pinned (.plain (OpenSpec.ofChange threadBackSpec)) threadBackCard

/-- THE TIED CARD OF 'raddlelaw02.ThreadCanonical'. -/
def threadCanonicalCard : Claim7 := { stood := { row := threadCanonicalRow, standIns := [], harness := (true, "2b021d397cc8383c79b7b8c8f282710f62c40b51a43016d093dce75471dfd73a"), looks := true }, kinds := [], alts := [], laidByText := true, laidKinds := [.data, .data, .data, .sentinel, .sentinel], laidTests := true, laidLooks := .later }
def ThreadCanonicalCardSaid : Prop := Claim7.holds Tryd.pinned (.plain (OpenSpec.ofChange threadCanonicalSpec)) threadCanonicalCard

/-- THE TIED CARD OF 'raddlelaw02.ThreadTurns'. -/
def threadTurnsCard : Claim7 := { stood := { row := threadTurnsRow, standIns := [], harness := (true, "2b021d397cc8383c79b7b8c8f282710f62c40b51a43016d093dce75471dfd73a"), looks := true }, kinds := [], alts := [], laidByText := true, laidKinds := [.data, .data, .data, .sentinel, .sentinel], laidTests := true, laidLooks := .later }
def ThreadTurnsCardSaid : Prop := Claim7.holds Tryd.pinned (.plain (OpenSpec.ofChange threadTurnsSpec)) threadTurnsCard

/-- THE TIED CARD OF 'raddlelaw02.ThreadSteps'. -/
def threadStepsCard : Claim7 := { stood := { row := threadStepsRow, standIns := [], harness := (true, "2b021d397cc8383c79b7b8c8f282710f62c40b51a43016d093dce75471dfd73a"), looks := true }, kinds := [], alts := [], laidByText := true, laidKinds := [.data, .data, .data, .sentinel, .sentinel], laidTests := true, laidLooks := .later }
def ThreadStepsCardSaid : Prop := Claim7.holds Tryd.pinned (.plain (OpenSpec.ofChange threadStepsSpec)) threadStepsCard

/-- THE SECOND FORM's CARD OF 'raddlelaw02.ThreadNames'. -/
def threadNamesUptoCard : Claim7 := { stood := { row := threadNamesUptoRow, standIns := [], harness := (true, "2b021d397cc8383c79b7b8c8f282710f62c40b51a43016d093dce75471dfd73a"), looks := true }, kinds := [], alts := [], laidByText := true, laidKinds := [.data, .data, .data, .sentinel, .sentinel], laidTests := true, laidLooks := .later }
def ThreadNamesUptoCardSaid : Prop := Claim7.holds Tryd.pinned (.plain (OpenSpec.upto threadNamesSpec)) threadNamesUptoCard

/-- THE SECOND FORM's CARD OF 'raddlelaw02.ThreadTexts'. -/
def threadTextsUptoCard : Claim7 := { stood := { row := threadTextsUptoRow, standIns := [], harness := (true, "2b021d397cc8383c79b7b8c8f282710f62c40b51a43016d093dce75471dfd73a"), looks := true }, kinds := [], alts := [], laidByText := true, laidKinds := [.data, .data, .data, .sentinel, .sentinel], laidTests := true, laidLooks := .later }
def ThreadTextsUptoCardSaid : Prop := Claim7.holds Tryd.pinned (.plain (OpenSpec.upto threadTextsSpec)) threadTextsUptoCard

/-- THE SECOND FORM's CARD OF 'raddlelaw02.ThreadBack'. -/
def threadBackUptoCard : Claim7 := { stood := { row := threadBackUptoRow, standIns := [], harness := (true, "2b021d397cc8383c79b7b8c8f282710f62c40b51a43016d093dce75471dfd73a"), looks := true }, kinds := [], alts := [], laidByText := true, laidKinds := [.data, .data, .data, .sentinel, .sentinel], laidTests := true, laidLooks := .later }
def ThreadBackUptoCardSaid : Prop := Claim7.holds Tryd.pinned (.plain (OpenSpec.upto threadBackSpec)) threadBackUptoCard

/-- THE SECOND FORM's CARD OF 'raddlelaw02.ThreadCanonical'. -/
def threadCanonicalUptoCard : Claim7 := { stood := { row := threadCanonicalUptoRow, standIns := [], harness := (true, "2b021d397cc8383c79b7b8c8f282710f62c40b51a43016d093dce75471dfd73a"), looks := true }, kinds := [], alts := [], laidByText := true, laidKinds := [.data, .data, .data, .sentinel, .sentinel], laidTests := true, laidLooks := .later }
def ThreadCanonicalUptoCardSaid : Prop := Claim7.holds Tryd.pinned (.plain (OpenSpec.upto threadCanonicalSpec)) threadCanonicalUptoCard

/-- THE SECOND FORM's CARD OF 'raddlelaw02.ThreadTurns'. -/
def threadTurnsUptoCard : Claim7 := { stood := { row := threadTurnsUptoRow, standIns := [], harness := (true, "2b021d397cc8383c79b7b8c8f282710f62c40b51a43016d093dce75471dfd73a"), looks := true }, kinds := [], alts := [], laidByText := true, laidKinds := [.data, .data, .data, .sentinel, .sentinel], laidTests := true, laidLooks := .later }
def ThreadTurnsUptoCardSaid : Prop := Claim7.holds Tryd.pinned (.plain (OpenSpec.upto threadTurnsSpec)) threadTurnsUptoCard

/-- THE SECOND FORM's CARD OF 'raddlelaw02.ThreadSteps'. -/
def threadStepsUptoCard : Claim7 := { stood := { row := threadStepsUptoRow, standIns := [], harness := (true, "2b021d397cc8383c79b7b8c8f282710f62c40b51a43016d093dce75471dfd73a"), looks := true }, kinds := [], alts := [], laidByText := true, laidKinds := [.data, .data, .data, .sentinel, .sentinel], laidTests := true, laidLooks := .later }
def ThreadStepsUptoCardSaid : Prop := Claim7.holds Tryd.pinned (.plain (OpenSpec.upto threadStepsSpec)) threadStepsUptoCard
end Rows
end Go.Proofs.YtcmpoblbjjoaiaaDoor
