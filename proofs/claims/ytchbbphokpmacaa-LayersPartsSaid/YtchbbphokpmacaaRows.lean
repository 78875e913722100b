/-
  No cell of these rows narrows 'for every input' (looked for: loops, veiled, ifaces, maps, wideKeys, modest, calm, conditions, laid).
  DERIVED. THE GIVEN ROWS OF THIS SEAT. 14 by the template 'for every input the law returns true; each argument reads behind the call as it read before'; 0 by the template 'total and deterministic' (their statements: YtchbbphokpmacaaTotals.lean).
  GIVEN WITH THE SEED: the statements are not yours to turn. If you find one false, say at which input.
  Laid BY PROGRAM, IN A SANDBOX (cutbox-rows.mjs): the forced cells as the released guide's own fill.sh prints them over the translation 06d0b0f6cd7b0d4d… (all of the seat's roots in one cut). By AI agents, Wed Nov 11 2026. No macro, syntax, notation, axiom, sorry.
-/
import Derived.Test.YtchbbphokpmacaaChecked
import GoSem.Claim
import GoSem.ClaimJoined
import GoSem.ClaimMapViews
import Derived.JoinedTies
import Derived.KernelRfl
namespace Go.Proofs.Ytchbbphokpmacaa
/- THE CELL 'sum', in the pinned program and in every row, IS THE sha256 OF THE DUMP (.gsa) THAT YtchbbphokpmacaaProg.lean LOADS. Nothing in Lean hashes anything: it is a label: what it is worth is what the hold of that sum in a sandbox is worth. -/
noncomputable def Try.pinned : Pinned := { name := "ytchbbphokpmacaa", sum := "06d0b0f6cd7b0d4dffabd3dcd06a95155adb0147ae8abc7350cefc924b246ce1", checked := Try.checked }
namespace Rows
def none {H : Type} : Left H := { results := [], args := [] }

/-- 'raddlelaw08.FloatNames': WHATEVER THE INPUT: true; the input reads as it did. -/
def floatNamesSpec : ChangeSpec := { name := "floatNames", fn := fun _ => fun
  | [] => { results := [.lit (.bool true)], args := [] }
  | _ => none }
def floatNamesRow : OpenClaim := { program := "ytchbbphokpmacaa", sum := "06d0b0f6cd7b0d4dffabd3dcd06a95155adb0147ae8abc7350cefc924b246ce1", func := "raddle/raddlelaw08.FloatNames", spec := "floatNames", inPlace := ["internal/bytealg.IndexByteString"], unfollowed := true, recurses := true, apart := false }
def FloatNamesSaid : Prop := floatNamesRow.holds Try.pinned (OpenSpec.ofChange floatNamesSpec)

/-- ITS FALSE NEIGHBOUR: 'it returns false'. Refute it at one input. -/
def floatNamesWrong : ChangeSpec := { name := "floatNames", fn := fun _ => fun
  | [] => { results := [.lit (.bool false)], args := [] }
  | _ => none }
def FloatNamesWrongFalsely : Prop := floatNamesRow.holds Try.pinned (OpenSpec.ofChange floatNamesWrong)

/-- 'raddlelaw08.FloatLists': WHATEVER THE INPUT: true; the input reads as it did. -/
def floatListsSpec : ChangeSpec := { name := "floatLists", fn := fun _ => fun
  | [d1, d2, d3] => { results := [.lit (.bool true)], args := [d1, d2, d3] }
  | _ => none }
def floatListsRow : OpenClaim := { program := "ytchbbphokpmacaa", sum := "06d0b0f6cd7b0d4dffabd3dcd06a95155adb0147ae8abc7350cefc924b246ce1", func := "raddle/raddlelaw08.FloatLists", spec := "floatLists", unfollowed := true, recurses := true, apart := false }
def FloatListsSaid : Prop := floatListsRow.holds Try.pinned (OpenSpec.ofChange floatListsSpec)

/-- ITS FALSE NEIGHBOUR: 'it returns false'. Refute it at one input. -/
def floatListsWrong : ChangeSpec := { name := "floatLists", fn := fun _ => fun
  | [d1, d2, d3] => { results := [.lit (.bool false)], args := [d1, d2, d3] }
  | _ => none }
def FloatListsWrongFalsely : Prop := floatListsRow.holds Try.pinned (OpenSpec.ofChange floatListsWrong)

/-- 'raddlelaw08.FloatCovers': WHATEVER THE INPUT: true; the input reads as it did. -/
def floatCoversSpec : ChangeSpec := { name := "floatCovers", fn := fun _ => fun
  | [d] => { results := [.lit (.bool true)], args := [d] }
  | _ => none }
def floatCoversRow : OpenClaim := { program := "ytchbbphokpmacaa", sum := "06d0b0f6cd7b0d4dffabd3dcd06a95155adb0147ae8abc7350cefc924b246ce1", func := "raddle/raddlelaw08.FloatCovers", spec := "floatCovers", inPlace := ["internal/bytealg.IndexByteString"], unfollowed := true, recurses := true, apart := false }
def FloatCoversSaid : Prop := floatCoversRow.holds Try.pinned (OpenSpec.ofChange floatCoversSpec)

/-- ITS FALSE NEIGHBOUR: 'it returns false'. Refute it at one input. -/
def floatCoversWrong : ChangeSpec := { name := "floatCovers", fn := fun _ => fun
  | [d] => { results := [.lit (.bool false)], args := [d] }
  | _ => none }
def FloatCoversWrongFalsely : Prop := floatCoversRow.holds Try.pinned (OpenSpec.ofChange floatCoversWrong)

/-- 'raddlelaw08.FloatSides': WHATEVER THE INPUT: true; the input reads as it did. -/
def floatSidesSpec : ChangeSpec := { name := "floatSides", fn := fun _ => fun
  | [d1, d2] => { results := [.lit (.bool true)], args := [d1, d2] }
  | _ => none }
def floatSidesRow : OpenClaim := { program := "ytchbbphokpmacaa", sum := "06d0b0f6cd7b0d4dffabd3dcd06a95155adb0147ae8abc7350cefc924b246ce1", func := "raddle/raddlelaw08.FloatSides", spec := "floatSides", inPlace := ["internal/bytealg.IndexByteString"], unfollowed := true, recurses := true, apart := false }
def FloatSidesSaid : Prop := floatSidesRow.holds Try.pinned (OpenSpec.ofChange floatSidesSpec)

/-- ITS FALSE NEIGHBOUR: 'it returns false'. Refute it at one input. -/
def floatSidesWrong : ChangeSpec := { name := "floatSides", fn := fun _ => fun
  | [d1, d2] => { results := [.lit (.bool false)], args := [d1, d2] }
  | _ => none }
def FloatSidesWrongFalsely : Prop := floatSidesRow.holds Try.pinned (OpenSpec.ofChange floatSidesWrong)

/-- 'raddlelaw08.FloatMoved': WHATEVER THE INPUT: true; the input reads as it did. -/
def floatMovedSpec : ChangeSpec := { name := "floatMoved", fn := fun _ => fun
  | [d1, d2, d3, d4] => { results := [.lit (.bool true)], args := [d1, d2, d3, d4] }
  | _ => none }
def floatMovedRow : OpenClaim := { program := "ytchbbphokpmacaa", sum := "06d0b0f6cd7b0d4dffabd3dcd06a95155adb0147ae8abc7350cefc924b246ce1", func := "raddle/raddlelaw08.FloatMoved", spec := "floatMoved", inPlace := ["internal/bytealg.IndexByteString"], unfollowed := true, recurses := true, apart := false }
def FloatMovedSaid : Prop := floatMovedRow.holds Try.pinned (OpenSpec.ofChange floatMovedSpec)

/-- ITS FALSE NEIGHBOUR: 'it returns false'. Refute it at one input. -/
def floatMovedWrong : ChangeSpec := { name := "floatMoved", fn := fun _ => fun
  | [d1, d2, d3, d4] => { results := [.lit (.bool false)], args := [d1, d2, d3, d4] }
  | _ => none }
def FloatMovedWrongFalsely : Prop := floatMovedRow.holds Try.pinned (OpenSpec.ofChange floatMovedWrong)

/-- 'raddlelaw08.FloatOver': WHATEVER THE INPUT: true; the input reads as it did. -/
def floatOverSpec : ChangeSpec := { name := "floatOver", fn := fun _ => fun
  | [d1, d2] => { results := [.lit (.bool true)], args := [d1, d2] }
  | _ => none }
def floatOverRow : OpenClaim := { program := "ytchbbphokpmacaa", sum := "06d0b0f6cd7b0d4dffabd3dcd06a95155adb0147ae8abc7350cefc924b246ce1", func := "raddle/raddlelaw08.FloatOver", spec := "floatOver", inPlace := ["internal/bytealg.IndexByteString"], unfollowed := true, recurses := true, apart := false }
def FloatOverSaid : Prop := floatOverRow.holds Try.pinned (OpenSpec.ofChange floatOverSpec)

/-- ITS FALSE NEIGHBOUR: 'it returns false'. Refute it at one input. -/
def floatOverWrong : ChangeSpec := { name := "floatOver", fn := fun _ => fun
  | [d1, d2] => { results := [.lit (.bool false)], args := [d1, d2] }
  | _ => none }
def FloatOverWrongFalsely : Prop := floatOverRow.holds Try.pinned (OpenSpec.ofChange floatOverWrong)

/-- 'raddlelaw10.HangWhole': WHATEVER THE INPUT: true; the input reads as it did. -/
def hangWholeSpec : ChangeSpec := { name := "hangWhole", fn := fun _ => fun
  | [d1, d2] => { results := [.lit (.bool true)], args := [d1, d2] }
  | _ => none }
def hangWholeRow : OpenClaim := { program := "ytchbbphokpmacaa", sum := "06d0b0f6cd7b0d4dffabd3dcd06a95155adb0147ae8abc7350cefc924b246ce1", func := "raddle/raddlelaw10.HangWhole", spec := "hangWhole", inPlace := ["internal/bytealg.IndexByteString"], unfollowed := true, recurses := true, apart := false }
def HangWholeSaid : Prop := hangWholeRow.holds Try.pinned (OpenSpec.ofChange hangWholeSpec)

/-- ITS FALSE NEIGHBOUR: 'it returns false'. Refute it at one input. -/
def hangWholeWrong : ChangeSpec := { name := "hangWhole", fn := fun _ => fun
  | [d1, d2] => { results := [.lit (.bool false)], args := [d1, d2] }
  | _ => none }
def HangWholeWrongFalsely : Prop := hangWholeRow.holds Try.pinned (OpenSpec.ofChange hangWholeWrong)

/-- 'raddlelaw11.LayersNames': WHATEVER THE INPUT: true; the input reads as it did. -/
def layersNamesSpec : ChangeSpec := { name := "layersNames", fn := fun _ => fun
  | [] => { results := [.lit (.bool true)], args := [] }
  | _ => none }
def layersNamesRow : OpenClaim := { program := "ytchbbphokpmacaa", sum := "06d0b0f6cd7b0d4dffabd3dcd06a95155adb0147ae8abc7350cefc924b246ce1", func := "raddle/raddlelaw11.LayersNames", spec := "layersNames", inPlace := ["internal/bytealg.IndexByteString", "internal/abi.NoEscape"], unfollowed := true, recurses := true, apart := false }
def LayersNamesSaid : Prop := layersNamesRow.holds Try.pinned (OpenSpec.ofChange layersNamesSpec)

/-- ITS FALSE NEIGHBOUR: 'it returns false'. Refute it at one input. -/
def layersNamesWrong : ChangeSpec := { name := "layersNames", fn := fun _ => fun
  | [] => { results := [.lit (.bool false)], args := [] }
  | _ => none }
def LayersNamesWrongFalsely : Prop := layersNamesRow.holds Try.pinned (OpenSpec.ofChange layersNamesWrong)

/-- 'raddlelaw11.LayersParts': WHATEVER THE INPUT: true; the input reads as it did. -/
def layersPartsSpec : ChangeSpec := { name := "layersParts", fn := fun _ => fun
  | [d1, d2, d3, d4] => { results := [.lit (.bool true)], args := [d1, d2, d3, d4] }
  | _ => none }
def layersPartsRow : OpenClaim := { program := "ytchbbphokpmacaa", sum := "06d0b0f6cd7b0d4dffabd3dcd06a95155adb0147ae8abc7350cefc924b246ce1", func := "raddle/raddlelaw11.LayersParts", spec := "layersParts", unfollowed := true, recurses := true, apart := false }
def LayersPartsSaid : Prop := layersPartsRow.holds Try.pinned (OpenSpec.ofChange layersPartsSpec)

/-- ITS FALSE NEIGHBOUR: 'it returns false'. Refute it at one input. -/
def layersPartsWrong : ChangeSpec := { name := "layersParts", fn := fun _ => fun
  | [d1, d2, d3, d4] => { results := [.lit (.bool false)], args := [d1, d2, d3, d4] }
  | _ => none }
def LayersPartsWrongFalsely : Prop := layersPartsRow.holds Try.pinned (OpenSpec.ofChange layersPartsWrong)

/-- 'raddlelaw11.LayersOnly': WHATEVER THE INPUT: true; the input reads as it did. -/
def layersOnlySpec : ChangeSpec := { name := "layersOnly", fn := fun _ => fun
  | [d1, d2] => { results := [.lit (.bool true)], args := [d1, d2] }
  | _ => none }
def layersOnlyRow : OpenClaim := { program := "ytchbbphokpmacaa", sum := "06d0b0f6cd7b0d4dffabd3dcd06a95155adb0147ae8abc7350cefc924b246ce1", func := "raddle/raddlelaw11.LayersOnly", spec := "layersOnly", unfollowed := true, recurses := true, apart := false }
def LayersOnlySaid : Prop := layersOnlyRow.holds Try.pinned (OpenSpec.ofChange layersOnlySpec)

/-- ITS FALSE NEIGHBOUR: 'it returns false'. Refute it at one input. -/
def layersOnlyWrong : ChangeSpec := { name := "layersOnly", fn := fun _ => fun
  | [d1, d2] => { results := [.lit (.bool false)], args := [d1, d2] }
  | _ => none }
def LayersOnlyWrongFalsely : Prop := layersOnlyRow.holds Try.pinned (OpenSpec.ofChange layersOnlyWrong)

/-- 'raddlelaw11.LayersFinest': WHATEVER THE INPUT: true; the input reads as it did. -/
def layersFinestSpec : ChangeSpec := { name := "layersFinest", fn := fun _ => fun
  | [d1, d2] => { results := [.lit (.bool true)], args := [d1, d2] }
  | _ => none }
def layersFinestRow : OpenClaim := { program := "ytchbbphokpmacaa", sum := "06d0b0f6cd7b0d4dffabd3dcd06a95155adb0147ae8abc7350cefc924b246ce1", func := "raddle/raddlelaw11.LayersFinest", spec := "layersFinest", inPlace := ["internal/bytealg.IndexByteString"], unfollowed := true, recurses := true, apart := false }
def LayersFinestSaid : Prop := layersFinestRow.holds Try.pinned (OpenSpec.ofChange layersFinestSpec)

/-- ITS FALSE NEIGHBOUR: 'it returns false'. Refute it at one input. -/
def layersFinestWrong : ChangeSpec := { name := "layersFinest", fn := fun _ => fun
  | [d1, d2] => { results := [.lit (.bool false)], args := [d1, d2] }
  | _ => none }
def LayersFinestWrongFalsely : Prop := layersFinestRow.holds Try.pinned (OpenSpec.ofChange layersFinestWrong)

/-- 'raddlelaw11.LayersHeld': WHATEVER THE INPUT: true; the input reads as it did. -/
def layersHeldSpec : ChangeSpec := { name := "layersHeld", fn := fun _ => fun
  | [d1, d2, d3, d4] => { results := [.lit (.bool true)], args := [d1, d2, d3, d4] }
  | _ => none }
def layersHeldRow : OpenClaim := { program := "ytchbbphokpmacaa", sum := "06d0b0f6cd7b0d4dffabd3dcd06a95155adb0147ae8abc7350cefc924b246ce1", func := "raddle/raddlelaw11.LayersHeld", spec := "layersHeld", inPlace := ["internal/bytealg.IndexByteString"], unfollowed := true, recurses := true, apart := false }
def LayersHeldSaid : Prop := layersHeldRow.holds Try.pinned (OpenSpec.ofChange layersHeldSpec)

/-- ITS FALSE NEIGHBOUR: 'it returns false'. Refute it at one input. -/
def layersHeldWrong : ChangeSpec := { name := "layersHeld", fn := fun _ => fun
  | [d1, d2, d3, d4] => { results := [.lit (.bool false)], args := [d1, d2, d3, d4] }
  | _ => none }
def LayersHeldWrongFalsely : Prop := layersHeldRow.holds Try.pinned (OpenSpec.ofChange layersHeldWrong)

/-- 'raddlelaw11.LayersHang': WHATEVER THE INPUT: true; the input reads as it did. -/
def layersHangSpec : ChangeSpec := { name := "layersHang", fn := fun _ => fun
  | [d] => { results := [.lit (.bool true)], args := [d] }
  | _ => none }
def layersHangRow : OpenClaim := { program := "ytchbbphokpmacaa", sum := "06d0b0f6cd7b0d4dffabd3dcd06a95155adb0147ae8abc7350cefc924b246ce1", func := "raddle/raddlelaw11.LayersHang", spec := "layersHang", inPlace := ["internal/bytealg.IndexByteString"], unfollowed := true, recurses := true, apart := false }
def LayersHangSaid : Prop := layersHangRow.holds Try.pinned (OpenSpec.ofChange layersHangSpec)

/-- ITS FALSE NEIGHBOUR: 'it returns false'. Refute it at one input. -/
def layersHangWrong : ChangeSpec := { name := "layersHang", fn := fun _ => fun
  | [d] => { results := [.lit (.bool false)], args := [d] }
  | _ => none }
def LayersHangWrongFalsely : Prop := layersHangRow.holds Try.pinned (OpenSpec.ofChange layersHangWrong)

/-- 'raddlelaw11.LayersBack': WHATEVER THE INPUT: true; the input reads as it did. -/
def layersBackSpec : ChangeSpec := { name := "layersBack", fn := fun _ => fun
  | [d1, d2, d3, d4] => { results := [.lit (.bool true)], args := [d1, d2, d3, d4] }
  | _ => none }
def layersBackRow : OpenClaim := { program := "ytchbbphokpmacaa", sum := "06d0b0f6cd7b0d4dffabd3dcd06a95155adb0147ae8abc7350cefc924b246ce1", func := "raddle/raddlelaw11.LayersBack", spec := "layersBack", inPlace := ["internal/bytealg.IndexByteString"], unfollowed := true, recurses := true, apart := false }
def LayersBackSaid : Prop := layersBackRow.holds Try.pinned (OpenSpec.ofChange layersBackSpec)

/-- ITS FALSE NEIGHBOUR: 'it returns false'. Refute it at one input. -/
def layersBackWrong : ChangeSpec := { name := "layersBack", fn := fun _ => fun
  | [d1, d2, d3, d4] => { results := [.lit (.bool false)], args := [d1, d2, d3, d4] }
  | _ => none }
def LayersBackWrongFalsely : Prop := layersBackRow.holds Try.pinned (OpenSpec.ofChange layersBackWrong)

/- THE SECOND FORM. 'bulk': how many values and letters a reading holds, each counted each time it is reached (what is shared counts as often as it is met; a slice's spare places count too). A statement '..UptoSaid' is the law's where the arguments, and the package variables that the reading takes, are together of bulk at most 1048576: NARROWER than '..Said'. Prove '..Said' where nothing that the law and all that it calls make is longer than what came in: it says more and counts as full. Else prove '..UptoSaid'. A law counts once. -/
mutual
def uptoBulk {H : Type} : DataW H → Nat
  | .lit (.string bytes) => bytes.length + 1
  | .lit _ => 1
  | .nil => 1
  | .ptr d => uptoBulk d + 1
  | .slice elems spare => uptoBulkAll elems + uptoBulkAll spare + 1
  | .agg parts => uptoBulkAll parts + 1
  | .iface _ d => uptoBulk d + 1
  | .map entries => uptoBulkEntries entries + 1
  | .held _ => 1
def uptoBulkAll {H : Type} : List (DataW H) → Nat
  | [] => 0
  | d :: r => uptoBulk d + uptoBulkAll r
def uptoBulkEntries {H : Type} : List (Lit × DataW H) → Nat
  | [] => 0
  | x :: r => uptoBulkEntry x + uptoBulkEntries r
def uptoBulkEntry {H : Type} : Lit × DataW H → Nat
  | (.string bytes, d) => bytes.length + uptoBulk d + 1
  | (_, d) => uptoBulk d + 1
 end
def uptoSmall : (H : Type) → List (DataW H) → Bool := fun _ ds => decide (uptoBulkAll ds ≤ 1048576)
def OpenSpec.upto (s : _root_.Go.ChangeSpec) : _root_.Go.OpenSpec := { _root_.Go.OpenSpec.ofChange s with cond := some uptoSmall }

/-- 'raddlelaw08.FloatNames', WHERE WHAT IT READS IS OF BULK AT MOST 1048576: true; the input reads as it did. -/
def floatNamesUptoRow : OpenClaim := { program := "ytchbbphokpmacaa", sum := "06d0b0f6cd7b0d4dffabd3dcd06a95155adb0147ae8abc7350cefc924b246ce1", func := "raddle/raddlelaw08.FloatNames", spec := "floatNames", inPlace := ["internal/bytealg.IndexByteString"], unfollowed := true, recurses := true, apart := false, narrowed := true }
def FloatNamesUptoSaid : Prop := floatNamesUptoRow.holds Try.pinned (OpenSpec.upto floatNamesSpec)

/-- 'raddlelaw08.FloatLists', WHERE WHAT IT READS IS OF BULK AT MOST 1048576: true; the input reads as it did. -/
def floatListsUptoRow : OpenClaim := { program := "ytchbbphokpmacaa", sum := "06d0b0f6cd7b0d4dffabd3dcd06a95155adb0147ae8abc7350cefc924b246ce1", func := "raddle/raddlelaw08.FloatLists", spec := "floatLists", unfollowed := true, recurses := true, apart := false, narrowed := true }
def FloatListsUptoSaid : Prop := floatListsUptoRow.holds Try.pinned (OpenSpec.upto floatListsSpec)

/-- 'raddlelaw08.FloatCovers', WHERE WHAT IT READS IS OF BULK AT MOST 1048576: true; the input reads as it did. -/
def floatCoversUptoRow : OpenClaim := { program := "ytchbbphokpmacaa", sum := "06d0b0f6cd7b0d4dffabd3dcd06a95155adb0147ae8abc7350cefc924b246ce1", func := "raddle/raddlelaw08.FloatCovers", spec := "floatCovers", inPlace := ["internal/bytealg.IndexByteString"], unfollowed := true, recurses := true, apart := false, narrowed := true }
def FloatCoversUptoSaid : Prop := floatCoversUptoRow.holds Try.pinned (OpenSpec.upto floatCoversSpec)

/-- 'raddlelaw08.FloatSides', WHERE WHAT IT READS IS OF BULK AT MOST 1048576: true; the input reads as it did. -/
def floatSidesUptoRow : OpenClaim := { program := "ytchbbphokpmacaa", sum := "06d0b0f6cd7b0d4dffabd3dcd06a95155adb0147ae8abc7350cefc924b246ce1", func := "raddle/raddlelaw08.FloatSides", spec := "floatSides", inPlace := ["internal/bytealg.IndexByteString"], unfollowed := true, recurses := true, apart := false, narrowed := true }
def FloatSidesUptoSaid : Prop := floatSidesUptoRow.holds Try.pinned (OpenSpec.upto floatSidesSpec)

/-- 'raddlelaw08.FloatMoved', WHERE WHAT IT READS IS OF BULK AT MOST 1048576: true; the input reads as it did. -/
def floatMovedUptoRow : OpenClaim := { program := "ytchbbphokpmacaa", sum := "06d0b0f6cd7b0d4dffabd3dcd06a95155adb0147ae8abc7350cefc924b246ce1", func := "raddle/raddlelaw08.FloatMoved", spec := "floatMoved", inPlace := ["internal/bytealg.IndexByteString"], unfollowed := true, recurses := true, apart := false, narrowed := true }
def FloatMovedUptoSaid : Prop := floatMovedUptoRow.holds Try.pinned (OpenSpec.upto floatMovedSpec)

/-- 'raddlelaw08.FloatOver', WHERE WHAT IT READS IS OF BULK AT MOST 1048576: true; the input reads as it did. -/
def floatOverUptoRow : OpenClaim := { program := "ytchbbphokpmacaa", sum := "06d0b0f6cd7b0d4dffabd3dcd06a95155adb0147ae8abc7350cefc924b246ce1", func := "raddle/raddlelaw08.FloatOver", spec := "floatOver", inPlace := ["internal/bytealg.IndexByteString"], unfollowed := true, recurses := true, apart := false, narrowed := true }
def FloatOverUptoSaid : Prop := floatOverUptoRow.holds Try.pinned (OpenSpec.upto floatOverSpec)

/-- 'raddlelaw10.HangWhole', WHERE WHAT IT READS IS OF BULK AT MOST 1048576: true; the input reads as it did. -/
def hangWholeUptoRow : OpenClaim := { program := "ytchbbphokpmacaa", sum := "06d0b0f6cd7b0d4dffabd3dcd06a95155adb0147ae8abc7350cefc924b246ce1", func := "raddle/raddlelaw10.HangWhole", spec := "hangWhole", inPlace := ["internal/bytealg.IndexByteString"], unfollowed := true, recurses := true, apart := false, narrowed := true }
def HangWholeUptoSaid : Prop := hangWholeUptoRow.holds Try.pinned (OpenSpec.upto hangWholeSpec)

/-- 'raddlelaw11.LayersNames', WHERE WHAT IT READS IS OF BULK AT MOST 1048576: true; the input reads as it did. -/
def layersNamesUptoRow : OpenClaim := { program := "ytchbbphokpmacaa", sum := "06d0b0f6cd7b0d4dffabd3dcd06a95155adb0147ae8abc7350cefc924b246ce1", func := "raddle/raddlelaw11.LayersNames", spec := "layersNames", inPlace := ["internal/bytealg.IndexByteString", "internal/abi.NoEscape"], unfollowed := true, recurses := true, apart := false, narrowed := true }
def LayersNamesUptoSaid : Prop := layersNamesUptoRow.holds Try.pinned (OpenSpec.upto layersNamesSpec)

/-- 'raddlelaw11.LayersParts', WHERE WHAT IT READS IS OF BULK AT MOST 1048576: true; the input reads as it did. -/
def layersPartsUptoRow : OpenClaim := { program := "ytchbbphokpmacaa", sum := "06d0b0f6cd7b0d4dffabd3dcd06a95155adb0147ae8abc7350cefc924b246ce1", func := "raddle/raddlelaw11.LayersParts", spec := "layersParts", unfollowed := true, recurses := true, apart := false, narrowed := true }
def LayersPartsUptoSaid : Prop := layersPartsUptoRow.holds Try.pinned (OpenSpec.upto layersPartsSpec)

/-- 'raddlelaw11.LayersOnly', WHERE WHAT IT READS IS OF BULK AT MOST 1048576: true; the input reads as it did. -/
def layersOnlyUptoRow : OpenClaim := { program := "ytchbbphokpmacaa", sum := "06d0b0f6cd7b0d4dffabd3dcd06a95155adb0147ae8abc7350cefc924b246ce1", func := "raddle/raddlelaw11.LayersOnly", spec := "layersOnly", unfollowed := true, recurses := true, apart := false, narrowed := true }
def LayersOnlyUptoSaid : Prop := layersOnlyUptoRow.holds Try.pinned (OpenSpec.upto layersOnlySpec)

/-- 'raddlelaw11.LayersFinest', WHERE WHAT IT READS IS OF BULK AT MOST 1048576: true; the input reads as it did. -/
def layersFinestUptoRow : OpenClaim := { program := "ytchbbphokpmacaa", sum := "06d0b0f6cd7b0d4dffabd3dcd06a95155adb0147ae8abc7350cefc924b246ce1", func := "raddle/raddlelaw11.LayersFinest", spec := "layersFinest", inPlace := ["internal/bytealg.IndexByteString"], unfollowed := true, recurses := true, apart := false, narrowed := true }
def LayersFinestUptoSaid : Prop := layersFinestUptoRow.holds Try.pinned (OpenSpec.upto layersFinestSpec)

/-- 'raddlelaw11.LayersHeld', WHERE WHAT IT READS IS OF BULK AT MOST 1048576: true; the input reads as it did. -/
def layersHeldUptoRow : OpenClaim := { program := "ytchbbphokpmacaa", sum := "06d0b0f6cd7b0d4dffabd3dcd06a95155adb0147ae8abc7350cefc924b246ce1", func := "raddle/raddlelaw11.LayersHeld", spec := "layersHeld", inPlace := ["internal/bytealg.IndexByteString"], unfollowed := true, recurses := true, apart := false, narrowed := true }
def LayersHeldUptoSaid : Prop := layersHeldUptoRow.holds Try.pinned (OpenSpec.upto layersHeldSpec)

/-- 'raddlelaw11.LayersHang', WHERE WHAT IT READS IS OF BULK AT MOST 1048576: true; the input reads as it did. -/
def layersHangUptoRow : OpenClaim := { program := "ytchbbphokpmacaa", sum := "06d0b0f6cd7b0d4dffabd3dcd06a95155adb0147ae8abc7350cefc924b246ce1", func := "raddle/raddlelaw11.LayersHang", spec := "layersHang", inPlace := ["internal/bytealg.IndexByteString"], unfollowed := true, recurses := true, apart := false, narrowed := true }
def LayersHangUptoSaid : Prop := layersHangUptoRow.holds Try.pinned (OpenSpec.upto layersHangSpec)

/-- 'raddlelaw11.LayersBack', WHERE WHAT IT READS IS OF BULK AT MOST 1048576: true; the input reads as it did. -/
def layersBackUptoRow : OpenClaim := { program := "ytchbbphokpmacaa", sum := "06d0b0f6cd7b0d4dffabd3dcd06a95155adb0147ae8abc7350cefc924b246ce1", func := "raddle/raddlelaw11.LayersBack", spec := "layersBack", inPlace := ["internal/bytealg.IndexByteString"], unfollowed := true, recurses := true, apart := false, narrowed := true }
def LayersBackUptoSaid : Prop := layersBackUptoRow.holds Try.pinned (OpenSpec.upto layersBackSpec)

end Rows
end Go.Proofs.Ytchbbphokpmacaa
