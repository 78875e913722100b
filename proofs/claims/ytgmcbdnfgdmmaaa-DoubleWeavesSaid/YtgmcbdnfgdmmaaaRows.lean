/-
  No cell of these rows narrows 'for every input' (looked for: loops, veiled, ifaces, maps, wideKeys, modest, calm, conditions, laid).
  DERIVED. THE GIVEN ROWS OF THIS SEAT. 14 by the template 'for every input the law returns true; each argument reads behind the call as it read before'; 0 by the template 'total and deterministic' (their statements: YtgmcbdnfgdmmaaaTotals.lean).
  GIVEN WITH THE SEED: the statements are not yours to turn. If you find one false, say at which input.
  Laid BY PROGRAM, IN A SANDBOX (cutbox-rows.mjs): the forced cells as the released guide's own fill.sh prints them over the translation 96b76ab86be1356e… (all of the seat's roots in one cut). By AI agents, Wed Nov 11 2026. No macro, syntax, notation, axiom, sorry.
-/
import Derived.Test.YtgmcbdnfgdmmaaaChecked
import GoSem.Claim
import GoSem.ClaimJoined
import GoSem.ClaimMapViews
import Derived.JoinedTies
import Derived.KernelRfl
namespace Go.Proofs.Ytgmcbdnfgdmmaaa
/- THE CELL 'sum', in the pinned program and in every row, IS THE sha256 OF THE DUMP (.gsa) THAT YtgmcbdnfgdmmaaaProg.lean LOADS. Nothing in Lean hashes anything: it is a label: what it is worth is what the hold of that sum in a sandbox is worth. -/
noncomputable def Try.pinned : Pinned := { name := "ytgmcbdnfgdmmaaa", sum := "96b76ab86be1356eb08c00f46d70b74570e57a71bed5fcbd348733d398e96ada", checked := Try.checked }
namespace Rows
def none {H : Type} : Left H := { results := [], args := [] }

/-- 'raddlelaw08.FloatNames': WHATEVER THE INPUT: true; the input reads as it did. -/
def floatNamesSpec : ChangeSpec := { name := "floatNames", fn := fun _ => fun
  | [] => { results := [.lit (.bool true)], args := [] }
  | _ => none }
def floatNamesRow : OpenClaim := { program := "ytgmcbdnfgdmmaaa", sum := "96b76ab86be1356eb08c00f46d70b74570e57a71bed5fcbd348733d398e96ada", func := "raddle/raddlelaw08.FloatNames", spec := "floatNames", inPlace := ["internal/bytealg.IndexByteString"], unfollowed := true, recurses := true, apart := false }
def FloatNamesSaid : Prop := floatNamesRow.holds Try.pinned (OpenSpec.ofChange floatNamesSpec)

/-- ITS FALSE NEIGHBOUR: 'it returns false'. Refute it at one input. -/
def floatNamesWrong : ChangeSpec := { name := "floatNames", fn := fun _ => fun
  | [] => { results := [.lit (.bool false)], args := [] }
  | _ => none }
def FloatNamesWrongFalsely : Prop := floatNamesRow.holds Try.pinned (OpenSpec.ofChange floatNamesWrong)

/-- 'raddlelaw08.FloatLists': WHATEVER THE INPUT: true; the input reads as it did. -/
def floatListsSpec : ChangeSpec := { name := "floatLists", fn := fun _ => fun
  | [d1, d2, d3] => { results := [.lit (.bool true)], args := [d1, d2, d3] }
  | _ => none }
def floatListsRow : OpenClaim := { program := "ytgmcbdnfgdmmaaa", sum := "96b76ab86be1356eb08c00f46d70b74570e57a71bed5fcbd348733d398e96ada", func := "raddle/raddlelaw08.FloatLists", spec := "floatLists", unfollowed := true, recurses := true, apart := false }
def FloatListsSaid : Prop := floatListsRow.holds Try.pinned (OpenSpec.ofChange floatListsSpec)

/-- ITS FALSE NEIGHBOUR: 'it returns false'. Refute it at one input. -/
def floatListsWrong : ChangeSpec := { name := "floatLists", fn := fun _ => fun
  | [d1, d2, d3] => { results := [.lit (.bool false)], args := [d1, d2, d3] }
  | _ => none }
def FloatListsWrongFalsely : Prop := floatListsRow.holds Try.pinned (OpenSpec.ofChange floatListsWrong)

/-- 'raddlelaw08.FloatCovers': WHATEVER THE INPUT: true; the input reads as it did. -/
def floatCoversSpec : ChangeSpec := { name := "floatCovers", fn := fun _ => fun
  | [d] => { results := [.lit (.bool true)], args := [d] }
  | _ => none }
def floatCoversRow : OpenClaim := { program := "ytgmcbdnfgdmmaaa", sum := "96b76ab86be1356eb08c00f46d70b74570e57a71bed5fcbd348733d398e96ada", func := "raddle/raddlelaw08.FloatCovers", spec := "floatCovers", inPlace := ["internal/bytealg.IndexByteString"], unfollowed := true, recurses := true, apart := false }
def FloatCoversSaid : Prop := floatCoversRow.holds Try.pinned (OpenSpec.ofChange floatCoversSpec)

/-- ITS FALSE NEIGHBOUR: 'it returns false'. Refute it at one input. -/
def floatCoversWrong : ChangeSpec := { name := "floatCovers", fn := fun _ => fun
  | [d] => { results := [.lit (.bool false)], args := [d] }
  | _ => none }
def FloatCoversWrongFalsely : Prop := floatCoversRow.holds Try.pinned (OpenSpec.ofChange floatCoversWrong)

/-- 'raddlelaw08.FloatSides': WHATEVER THE INPUT: true; the input reads as it did. -/
def floatSidesSpec : ChangeSpec := { name := "floatSides", fn := fun _ => fun
  | [d1, d2] => { results := [.lit (.bool true)], args := [d1, d2] }
  | _ => none }
def floatSidesRow : OpenClaim := { program := "ytgmcbdnfgdmmaaa", sum := "96b76ab86be1356eb08c00f46d70b74570e57a71bed5fcbd348733d398e96ada", func := "raddle/raddlelaw08.FloatSides", spec := "floatSides", inPlace := ["internal/bytealg.IndexByteString"], unfollowed := true, recurses := true, apart := false }
def FloatSidesSaid : Prop := floatSidesRow.holds Try.pinned (OpenSpec.ofChange floatSidesSpec)

/-- ITS FALSE NEIGHBOUR: 'it returns false'. Refute it at one input. -/
def floatSidesWrong : ChangeSpec := { name := "floatSides", fn := fun _ => fun
  | [d1, d2] => { results := [.lit (.bool false)], args := [d1, d2] }
  | _ => none }
def FloatSidesWrongFalsely : Prop := floatSidesRow.holds Try.pinned (OpenSpec.ofChange floatSidesWrong)

/-- 'raddlelaw08.FloatMoved': WHATEVER THE INPUT: true; the input reads as it did. -/
def floatMovedSpec : ChangeSpec := { name := "floatMoved", fn := fun _ => fun
  | [d1, d2, d3, d4] => { results := [.lit (.bool true)], args := [d1, d2, d3, d4] }
  | _ => none }
def floatMovedRow : OpenClaim := { program := "ytgmcbdnfgdmmaaa", sum := "96b76ab86be1356eb08c00f46d70b74570e57a71bed5fcbd348733d398e96ada", func := "raddle/raddlelaw08.FloatMoved", spec := "floatMoved", inPlace := ["internal/bytealg.IndexByteString"], unfollowed := true, recurses := true, apart := false }
def FloatMovedSaid : Prop := floatMovedRow.holds Try.pinned (OpenSpec.ofChange floatMovedSpec)

/-- ITS FALSE NEIGHBOUR: 'it returns false'. Refute it at one input. -/
def floatMovedWrong : ChangeSpec := { name := "floatMoved", fn := fun _ => fun
  | [d1, d2, d3, d4] => { results := [.lit (.bool false)], args := [d1, d2, d3, d4] }
  | _ => none }
def FloatMovedWrongFalsely : Prop := floatMovedRow.holds Try.pinned (OpenSpec.ofChange floatMovedWrong)

/-- 'raddlelaw08.FloatOver': WHATEVER THE INPUT: true; the input reads as it did. -/
def floatOverSpec : ChangeSpec := { name := "floatOver", fn := fun _ => fun
  | [d1, d2] => { results := [.lit (.bool true)], args := [d1, d2] }
  | _ => none }
def floatOverRow : OpenClaim := { program := "ytgmcbdnfgdmmaaa", sum := "96b76ab86be1356eb08c00f46d70b74570e57a71bed5fcbd348733d398e96ada", func := "raddle/raddlelaw08.FloatOver", spec := "floatOver", inPlace := ["internal/bytealg.IndexByteString"], unfollowed := true, recurses := true, apart := false }
def FloatOverSaid : Prop := floatOverRow.holds Try.pinned (OpenSpec.ofChange floatOverSpec)

/-- ITS FALSE NEIGHBOUR: 'it returns false'. Refute it at one input. -/
def floatOverWrong : ChangeSpec := { name := "floatOver", fn := fun _ => fun
  | [d1, d2] => { results := [.lit (.bool false)], args := [d1, d2] }
  | _ => none }
def FloatOverWrongFalsely : Prop := floatOverRow.holds Try.pinned (OpenSpec.ofChange floatOverWrong)

/-- 'raddlelaw10.HangWhole': WHATEVER THE INPUT: true; the input reads as it did. -/
def hangWholeSpec : ChangeSpec := { name := "hangWhole", fn := fun _ => fun
  | [d1, d2] => { results := [.lit (.bool true)], args := [d1, d2] }
  | _ => none }
def hangWholeRow : OpenClaim := { program := "ytgmcbdnfgdmmaaa", sum := "96b76ab86be1356eb08c00f46d70b74570e57a71bed5fcbd348733d398e96ada", func := "raddle/raddlelaw10.HangWhole", spec := "hangWhole", inPlace := ["internal/bytealg.IndexByteString"], unfollowed := true, recurses := true, apart := false }
def HangWholeSaid : Prop := hangWholeRow.holds Try.pinned (OpenSpec.ofChange hangWholeSpec)

/-- ITS FALSE NEIGHBOUR: 'it returns false'. Refute it at one input. -/
def hangWholeWrong : ChangeSpec := { name := "hangWhole", fn := fun _ => fun
  | [d1, d2] => { results := [.lit (.bool false)], args := [d1, d2] }
  | _ => none }
def HangWholeWrongFalsely : Prop := hangWholeRow.holds Try.pinned (OpenSpec.ofChange hangWholeWrong)

/-- 'raddlelaw12.DoubleNames': WHATEVER THE INPUT: true; the input reads as it did. -/
def doubleNamesSpec : ChangeSpec := { name := "doubleNames", fn := fun _ => fun
  | [] => { results := [.lit (.bool true)], args := [] }
  | _ => none }
def doubleNamesRow : OpenClaim := { program := "ytgmcbdnfgdmmaaa", sum := "96b76ab86be1356eb08c00f46d70b74570e57a71bed5fcbd348733d398e96ada", func := "raddle/raddlelaw12.DoubleNames", spec := "doubleNames", inPlace := ["internal/bytealg.IndexByteString", "internal/abi.NoEscape"], unfollowed := true, recurses := true, apart := false }
def DoubleNamesSaid : Prop := doubleNamesRow.holds Try.pinned (OpenSpec.ofChange doubleNamesSpec)

/-- ITS FALSE NEIGHBOUR: 'it returns false'. Refute it at one input. -/
def doubleNamesWrong : ChangeSpec := { name := "doubleNames", fn := fun _ => fun
  | [] => { results := [.lit (.bool false)], args := [] }
  | _ => none }
def DoubleNamesWrongFalsely : Prop := doubleNamesRow.holds Try.pinned (OpenSpec.ofChange doubleNamesWrong)

/-- 'raddlelaw12.DoubleWeaves': WHATEVER THE INPUT: true; the input reads as it did. -/
def doubleWeavesSpec : ChangeSpec := { name := "doubleWeaves", fn := fun _ => fun
  | [d1, d2, d3, d4] => { results := [.lit (.bool true)], args := [d1, d2, d3, d4] }
  | _ => none }
def doubleWeavesRow : OpenClaim := { program := "ytgmcbdnfgdmmaaa", sum := "96b76ab86be1356eb08c00f46d70b74570e57a71bed5fcbd348733d398e96ada", func := "raddle/raddlelaw12.DoubleWeaves", spec := "doubleWeaves", unfollowed := true, recurses := true, apart := false }
def DoubleWeavesSaid : Prop := doubleWeavesRow.holds Try.pinned (OpenSpec.ofChange doubleWeavesSpec)

/-- ITS FALSE NEIGHBOUR: 'it returns false'. Refute it at one input. -/
def doubleWeavesWrong : ChangeSpec := { name := "doubleWeaves", fn := fun _ => fun
  | [d1, d2, d3, d4] => { results := [.lit (.bool false)], args := [d1, d2, d3, d4] }
  | _ => none }
def DoubleWeavesWrongFalsely : Prop := doubleWeavesRow.holds Try.pinned (OpenSpec.ofChange doubleWeavesWrong)

/-- 'raddlelaw12.DoubleFaces': WHATEVER THE INPUT: true; the input reads as it did. -/
def doubleFacesSpec : ChangeSpec := { name := "doubleFaces", fn := fun _ => fun
  | [d1, d2, d3] => { results := [.lit (.bool true)], args := [d1, d2, d3] }
  | _ => none }
def doubleFacesRow : OpenClaim := { program := "ytgmcbdnfgdmmaaa", sum := "96b76ab86be1356eb08c00f46d70b74570e57a71bed5fcbd348733d398e96ada", func := "raddle/raddlelaw12.DoubleFaces", spec := "doubleFaces", unfollowed := true, recurses := true, apart := false }
def DoubleFacesSaid : Prop := doubleFacesRow.holds Try.pinned (OpenSpec.ofChange doubleFacesSpec)

/-- ITS FALSE NEIGHBOUR: 'it returns false'. Refute it at one input. -/
def doubleFacesWrong : ChangeSpec := { name := "doubleFaces", fn := fun _ => fun
  | [d1, d2, d3] => { results := [.lit (.bool false)], args := [d1, d2, d3] }
  | _ => none }
def DoubleFacesWrongFalsely : Prop := doubleFacesRow.holds Try.pinned (OpenSpec.ofChange doubleFacesWrong)

/-- 'raddlelaw12.DoubleInverse': WHATEVER THE INPUT: true; the input reads as it did. -/
def doubleInverseSpec : ChangeSpec := { name := "doubleInverse", fn := fun _ => fun
  | [d1, d2, d3, d4] => { results := [.lit (.bool true)], args := [d1, d2, d3, d4] }
  | _ => none }
def doubleInverseRow : OpenClaim := { program := "ytgmcbdnfgdmmaaa", sum := "96b76ab86be1356eb08c00f46d70b74570e57a71bed5fcbd348733d398e96ada", func := "raddle/raddlelaw12.DoubleInverse", spec := "doubleInverse", inPlace := ["internal/bytealg.IndexByteString", "internal/abi.NoEscape"], unfollowed := true, recurses := true, apart := false }
def DoubleInverseSaid : Prop := doubleInverseRow.holds Try.pinned (OpenSpec.ofChange doubleInverseSpec)

/-- ITS FALSE NEIGHBOUR: 'it returns false'. Refute it at one input. -/
def doubleInverseWrong : ChangeSpec := { name := "doubleInverse", fn := fun _ => fun
  | [d1, d2, d3, d4] => { results := [.lit (.bool false)], args := [d1, d2, d3, d4] }
  | _ => none }
def DoubleInverseWrongFalsely : Prop := doubleInverseRow.holds Try.pinned (OpenSpec.ofChange doubleInverseWrong)

/-- 'raddlelaw12.DoubleHangs': WHATEVER THE INPUT: true; the input reads as it did. -/
def doubleHangsSpec : ChangeSpec := { name := "doubleHangs", fn := fun _ => fun
  | [d1, d2, d3] => { results := [.lit (.bool true)], args := [d1, d2, d3] }
  | _ => none }
def doubleHangsRow : OpenClaim := { program := "ytgmcbdnfgdmmaaa", sum := "96b76ab86be1356eb08c00f46d70b74570e57a71bed5fcbd348733d398e96ada", func := "raddle/raddlelaw12.DoubleHangs", spec := "doubleHangs", inPlace := ["internal/bytealg.IndexByteString", "internal/abi.NoEscape"], unfollowed := true, recurses := true, apart := false }
def DoubleHangsSaid : Prop := doubleHangsRow.holds Try.pinned (OpenSpec.ofChange doubleHangsSpec)

/-- ITS FALSE NEIGHBOUR: 'it returns false'. Refute it at one input. -/
def doubleHangsWrong : ChangeSpec := { name := "doubleHangs", fn := fun _ => fun
  | [d1, d2, d3] => { results := [.lit (.bool false)], args := [d1, d2, d3] }
  | _ => none }
def DoubleHangsWrongFalsely : Prop := doubleHangsRow.holds Try.pinned (OpenSpec.ofChange doubleHangsWrong)

/-- 'raddlelaw12.DoubleComes': WHATEVER THE INPUT: true; the input reads as it did. -/
def doubleComesSpec : ChangeSpec := { name := "doubleComes", fn := fun _ => fun
  | [d1, d2, d3] => { results := [.lit (.bool true)], args := [d1, d2, d3] }
  | _ => none }
def doubleComesRow : OpenClaim := { program := "ytgmcbdnfgdmmaaa", sum := "96b76ab86be1356eb08c00f46d70b74570e57a71bed5fcbd348733d398e96ada", func := "raddle/raddlelaw12.DoubleComes", spec := "doubleComes", inPlace := ["internal/bytealg.IndexByteString", "internal/abi.NoEscape"], unfollowed := true, recurses := true, apart := false }
def DoubleComesSaid : Prop := doubleComesRow.holds Try.pinned (OpenSpec.ofChange doubleComesSpec)

/-- ITS FALSE NEIGHBOUR: 'it returns false'. Refute it at one input. -/
def doubleComesWrong : ChangeSpec := { name := "doubleComes", fn := fun _ => fun
  | [d1, d2, d3] => { results := [.lit (.bool false)], args := [d1, d2, d3] }
  | _ => none }
def DoubleComesWrongFalsely : Prop := doubleComesRow.holds Try.pinned (OpenSpec.ofChange doubleComesWrong)

/-- 'raddlelaw12.DoubleBack': WHATEVER THE INPUT: true; the input reads as it did. -/
def doubleBackSpec : ChangeSpec := { name := "doubleBack", fn := fun _ => fun
  | [d1, d2, d3] => { results := [.lit (.bool true)], args := [d1, d2, d3] }
  | _ => none }
def doubleBackRow : OpenClaim := { program := "ytgmcbdnfgdmmaaa", sum := "96b76ab86be1356eb08c00f46d70b74570e57a71bed5fcbd348733d398e96ada", func := "raddle/raddlelaw12.DoubleBack", spec := "doubleBack", inPlace := ["internal/bytealg.IndexByteString", "internal/abi.NoEscape"], unfollowed := true, recurses := true, apart := false }
def DoubleBackSaid : Prop := doubleBackRow.holds Try.pinned (OpenSpec.ofChange doubleBackSpec)

/-- ITS FALSE NEIGHBOUR: 'it returns false'. Refute it at one input. -/
def doubleBackWrong : ChangeSpec := { name := "doubleBack", fn := fun _ => fun
  | [d1, d2, d3] => { results := [.lit (.bool false)], args := [d1, d2, d3] }
  | _ => none }
def DoubleBackWrongFalsely : Prop := doubleBackRow.holds Try.pinned (OpenSpec.ofChange doubleBackWrong)

/- THE SECOND FORM. 'bulk': how many values and letters a reading holds, each counted each time it is reached (what is shared counts as often as it is met; a slice's spare places count too). A statement '..UptoSaid' is the law's where the arguments, and the package variables that the reading takes, are together of bulk at most 1048576: NARROWER than '..Said'. Prove '..Said' where nothing that the law and all that it calls make is longer than what came in: it says more and counts as full. Else prove '..UptoSaid'. A law counts once. -/
mutual
def uptoBulk {H : Type} : DataW H → Nat
  | .lit (.string bytes) => bytes.length + 1
  | .lit _ => 1
  | .nil => 1
  | .ptr d => uptoBulk d + 1
  | .slice elems spare => uptoBulkAll elems + uptoBulkAll spare + 1
  | .agg parts => uptoBulkAll parts + 1
  | .iface _ d => uptoBulk d + 1
  | .map entries => uptoBulkEntries entries + 1
  | .held _ => 1
def uptoBulkAll {H : Type} : List (DataW H) → Nat
  | [] => 0
  | d :: r => uptoBulk d + uptoBulkAll r
def uptoBulkEntries {H : Type} : List (Lit × DataW H) → Nat
  | [] => 0
  | x :: r => uptoBulkEntry x + uptoBulkEntries r
def uptoBulkEntry {H : Type} : Lit × DataW H → Nat
  | (.string bytes, d) => bytes.length + uptoBulk d + 1
  | (_, d) => uptoBulk d + 1
 end
def uptoSmall : (H : Type) → List (DataW H) → Bool := fun _ ds => decide (uptoBulkAll ds ≤ 1048576)
def OpenSpec.upto (s : _root_.Go.ChangeSpec) : _root_.Go.OpenSpec := { _root_.Go.OpenSpec.ofChange s with cond := some uptoSmall }

/-- 'raddlelaw08.FloatNames', WHERE WHAT IT READS IS OF BULK AT MOST 1048576: true; the input reads as it did. -/
def floatNamesUptoRow : OpenClaim := { program := "ytgmcbdnfgdmmaaa", sum := "96b76ab86be1356eb08c00f46d70b74570e57a71bed5fcbd348733d398e96ada", func := "raddle/raddlelaw08.FloatNames", spec := "floatNames", inPlace := ["internal/bytealg.IndexByteString"], unfollowed := true, recurses := true, apart := false, narrowed := true }
def FloatNamesUptoSaid : Prop := floatNamesUptoRow.holds Try.pinned (OpenSpec.upto floatNamesSpec)

/-- 'raddlelaw08.FloatLists', WHERE WHAT IT READS IS OF BULK AT MOST 1048576: true; the input reads as it did. -/
def floatListsUptoRow : OpenClaim := { program := "ytgmcbdnfgdmmaaa", sum := "96b76ab86be1356eb08c00f46d70b74570e57a71bed5fcbd348733d398e96ada", func := "raddle/raddlelaw08.FloatLists", spec := "floatLists", unfollowed := true, recurses := true, apart := false, narrowed := true }
def FloatListsUptoSaid : Prop := floatListsUptoRow.holds Try.pinned (OpenSpec.upto floatListsSpec)

/-- 'raddlelaw08.FloatCovers', WHERE WHAT IT READS IS OF BULK AT MOST 1048576: true; the input reads as it did. -/
def floatCoversUptoRow : OpenClaim := { program := "ytgmcbdnfgdmmaaa", sum := "96b76ab86be1356eb08c00f46d70b74570e57a71bed5fcbd348733d398e96ada", func := "raddle/raddlelaw08.FloatCovers", spec := "floatCovers", inPlace := ["internal/bytealg.IndexByteString"], unfollowed := true, recurses := true, apart := false, narrowed := true }
def FloatCoversUptoSaid : Prop := floatCoversUptoRow.holds Try.pinned (OpenSpec.upto floatCoversSpec)

/-- 'raddlelaw08.FloatSides', WHERE WHAT IT READS IS OF BULK AT MOST 1048576: true; the input reads as it did. -/
def floatSidesUptoRow : OpenClaim := { program := "ytgmcbdnfgdmmaaa", sum := "96b76ab86be1356eb08c00f46d70b74570e57a71bed5fcbd348733d398e96ada", func := "raddle/raddlelaw08.FloatSides", spec := "floatSides", inPlace := ["internal/bytealg.IndexByteString"], unfollowed := true, recurses := true, apart := false, narrowed := true }
def FloatSidesUptoSaid : Prop := floatSidesUptoRow.holds Try.pinned (OpenSpec.upto floatSidesSpec)

/-- 'raddlelaw08.FloatMoved', WHERE WHAT IT READS IS OF BULK AT MOST 1048576: true; the input reads as it did. -/
def floatMovedUptoRow : OpenClaim := { program := "ytgmcbdnfgdmmaaa", sum := "96b76ab86be1356eb08c00f46d70b74570e57a71bed5fcbd348733d398e96ada", func := "raddle/raddlelaw08.FloatMoved", spec := "floatMoved", inPlace := ["internal/bytealg.IndexByteString"], unfollowed := true, recurses := true, apart := false, narrowed := true }
def FloatMovedUptoSaid : Prop := floatMovedUptoRow.holds Try.pinned (OpenSpec.upto floatMovedSpec)

/-- 'raddlelaw08.FloatOver', WHERE WHAT IT READS IS OF BULK AT MOST 1048576: true; the input reads as it did. -/
def floatOverUptoRow : OpenClaim := { program := "ytgmcbdnfgdmmaaa", sum := "96b76ab86be1356eb08c00f46d70b74570e57a71bed5fcbd348733d398e96ada", func := "raddle/raddlelaw08.FloatOver", spec := "floatOver", inPlace := ["internal/bytealg.IndexByteString"], unfollowed := true, recurses := true, apart := false, narrowed := true }
def FloatOverUptoSaid : Prop := floatOverUptoRow.holds Try.pinned (OpenSpec.upto floatOverSpec)

/-- 'raddlelaw10.HangWhole', WHERE WHAT IT READS IS OF BULK AT MOST 1048576: true; the input reads as it did. -/
def hangWholeUptoRow : OpenClaim := { program := "ytgmcbdnfgdmmaaa", sum := "96b76ab86be1356eb08c00f46d70b74570e57a71bed5fcbd348733d398e96ada", func := "raddle/raddlelaw10.HangWhole", spec := "hangWhole", inPlace := ["internal/bytealg.IndexByteString"], unfollowed := true, recurses := true, apart := false, narrowed := true }
def HangWholeUptoSaid : Prop := hangWholeUptoRow.holds Try.pinned (OpenSpec.upto hangWholeSpec)

/-- 'raddlelaw12.DoubleNames', WHERE WHAT IT READS IS OF BULK AT MOST 1048576: true; the input reads as it did. -/
def doubleNamesUptoRow : OpenClaim := { program := "ytgmcbdnfgdmmaaa", sum := "96b76ab86be1356eb08c00f46d70b74570e57a71bed5fcbd348733d398e96ada", func := "raddle/raddlelaw12.DoubleNames", spec := "doubleNames", inPlace := ["internal/bytealg.IndexByteString", "internal/abi.NoEscape"], unfollowed := true, recurses := true, apart := false, narrowed := true }
def DoubleNamesUptoSaid : Prop := doubleNamesUptoRow.holds Try.pinned (OpenSpec.upto doubleNamesSpec)

/-- 'raddlelaw12.DoubleWeaves', WHERE WHAT IT READS IS OF BULK AT MOST 1048576: true; the input reads as it did. -/
def doubleWeavesUptoRow : OpenClaim := { program := "ytgmcbdnfgdmmaaa", sum := "96b76ab86be1356eb08c00f46d70b74570e57a71bed5fcbd348733d398e96ada", func := "raddle/raddlelaw12.DoubleWeaves", spec := "doubleWeaves", unfollowed := true, recurses := true, apart := false, narrowed := true }
def DoubleWeavesUptoSaid : Prop := doubleWeavesUptoRow.holds Try.pinned (OpenSpec.upto doubleWeavesSpec)

/-- 'raddlelaw12.DoubleFaces', WHERE WHAT IT READS IS OF BULK AT MOST 1048576: true; the input reads as it did. -/
def doubleFacesUptoRow : OpenClaim := { program := "ytgmcbdnfgdmmaaa", sum := "96b76ab86be1356eb08c00f46d70b74570e57a71bed5fcbd348733d398e96ada", func := "raddle/raddlelaw12.DoubleFaces", spec := "doubleFaces", unfollowed := true, recurses := true, apart := false, narrowed := true }
def DoubleFacesUptoSaid : Prop := doubleFacesUptoRow.holds Try.pinned (OpenSpec.upto doubleFacesSpec)

/-- 'raddlelaw12.DoubleInverse', WHERE WHAT IT READS IS OF BULK AT MOST 1048576: true; the input reads as it did. -/
def doubleInverseUptoRow : OpenClaim := { program := "ytgmcbdnfgdmmaaa", sum := "96b76ab86be1356eb08c00f46d70b74570e57a71bed5fcbd348733d398e96ada", func := "raddle/raddlelaw12.DoubleInverse", spec := "doubleInverse", inPlace := ["internal/bytealg.IndexByteString", "internal/abi.NoEscape"], unfollowed := true, recurses := true, apart := false, narrowed := true }
def DoubleInverseUptoSaid : Prop := doubleInverseUptoRow.holds Try.pinned (OpenSpec.upto doubleInverseSpec)

/-- 'raddlelaw12.DoubleHangs', WHERE WHAT IT READS IS OF BULK AT MOST 1048576: true; the input reads as it did. -/
def doubleHangsUptoRow : OpenClaim := { program := "ytgmcbdnfgdmmaaa", sum := "96b76ab86be1356eb08c00f46d70b74570e57a71bed5fcbd348733d398e96ada", func := "raddle/raddlelaw12.DoubleHangs", spec := "doubleHangs", inPlace := ["internal/bytealg.IndexByteString", "internal/abi.NoEscape"], unfollowed := true, recurses := true, apart := false, narrowed := true }
def DoubleHangsUptoSaid : Prop := doubleHangsUptoRow.holds Try.pinned (OpenSpec.upto doubleHangsSpec)

/-- 'raddlelaw12.DoubleComes', WHERE WHAT IT READS IS OF BULK AT MOST 1048576: true; the input reads as it did. -/
def doubleComesUptoRow : OpenClaim := { program := "ytgmcbdnfgdmmaaa", sum := "96b76ab86be1356eb08c00f46d70b74570e57a71bed5fcbd348733d398e96ada", func := "raddle/raddlelaw12.DoubleComes", spec := "doubleComes", inPlace := ["internal/bytealg.IndexByteString", "internal/abi.NoEscape"], unfollowed := true, recurses := true, apart := false, narrowed := true }
def DoubleComesUptoSaid : Prop := doubleComesUptoRow.holds Try.pinned (OpenSpec.upto doubleComesSpec)

/-- 'raddlelaw12.DoubleBack', WHERE WHAT IT READS IS OF BULK AT MOST 1048576: true; the input reads as it did. -/
def doubleBackUptoRow : OpenClaim := { program := "ytgmcbdnfgdmmaaa", sum := "96b76ab86be1356eb08c00f46d70b74570e57a71bed5fcbd348733d398e96ada", func := "raddle/raddlelaw12.DoubleBack", spec := "doubleBack", inPlace := ["internal/bytealg.IndexByteString", "internal/abi.NoEscape"], unfollowed := true, recurses := true, apart := false, narrowed := true }
def DoubleBackUptoSaid : Prop := doubleBackUptoRow.holds Try.pinned (OpenSpec.upto doubleBackSpec)

end Rows
end Go.Proofs.Ytgmcbdnfgdmmaaa
