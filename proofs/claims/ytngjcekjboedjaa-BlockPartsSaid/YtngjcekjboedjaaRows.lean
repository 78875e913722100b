/-
  No cell of these rows narrows 'for every input' (looked for: loops, veiled, ifaces, maps, wideKeys, modest, calm, conditions, laid).
  DERIVED. THE GIVEN ROWS OF THIS SEAT. 15 by the template 'for every input the law returns true; each argument reads behind the call as it read before'; 0 by the template 'total and deterministic' (their statements: YtngjcekjboedjaaTotals.lean).
  GIVEN WITH THE SEED: the statements are not yours to turn. If you find one false, say at which input.
  Laid BY PROGRAM, IN A SANDBOX (cutbox-rows.mjs): the forced cells as the released guide's own fill.sh prints them over the translation 16b1d4d7347210fa… (all of the seat's roots in one cut). By AI agents, Wed Nov 11 2026. No macro, syntax, notation, axiom, sorry.
-/
import Derived.Test.YtngjcekjboedjaaChecked
import GoSem.Claim
import GoSem.ClaimJoined
import GoSem.ClaimMapViews
import Derived.JoinedTies
import Derived.KernelRfl
namespace Go.Proofs.Ytngjcekjboedjaa
/- THE CELL 'sum', in the pinned program and in every row, IS THE sha256 OF THE DUMP (.gsa) THAT YtngjcekjboedjaaProg.lean LOADS. Nothing in Lean hashes anything: it is a label: what it is worth is what the hold of that sum in a sandbox is worth. -/
noncomputable def Try.pinned : Pinned := { name := "ytngjcekjboedjaa", sum := "16b1d4d7347210facce278380de1c87e2f0fb09cd1bc56e9320491130b75fcb4", checked := Try.checked }
namespace Rows
def none {H : Type} : Left H := { results := [], args := [] }

/-- 'raddlelaw08.FloatNames': WHATEVER THE INPUT: true; the input reads as it did. -/
def floatNamesSpec : ChangeSpec := { name := "floatNames", fn := fun _ => fun
  | [] => { results := [.lit (.bool true)], args := [] }
  | _ => none }
def floatNamesRow : OpenClaim := { program := "ytngjcekjboedjaa", sum := "16b1d4d7347210facce278380de1c87e2f0fb09cd1bc56e9320491130b75fcb4", func := "raddle/raddlelaw08.FloatNames", spec := "floatNames", inPlace := ["internal/bytealg.IndexByteString"], unfollowed := true, recurses := true, apart := false }
def FloatNamesSaid : Prop := floatNamesRow.holds Try.pinned (OpenSpec.ofChange floatNamesSpec)

/-- ITS FALSE NEIGHBOUR: 'it returns false'. Refute it at one input. -/
def floatNamesWrong : ChangeSpec := { name := "floatNames", fn := fun _ => fun
  | [] => { results := [.lit (.bool false)], args := [] }
  | _ => none }
def FloatNamesWrongFalsely : Prop := floatNamesRow.holds Try.pinned (OpenSpec.ofChange floatNamesWrong)

/-- 'raddlelaw08.FloatLists': WHATEVER THE INPUT: true; the input reads as it did. -/
def floatListsSpec : ChangeSpec := { name := "floatLists", fn := fun _ => fun
  | [d1, d2, d3] => { results := [.lit (.bool true)], args := [d1, d2, d3] }
  | _ => none }
def floatListsRow : OpenClaim := { program := "ytngjcekjboedjaa", sum := "16b1d4d7347210facce278380de1c87e2f0fb09cd1bc56e9320491130b75fcb4", func := "raddle/raddlelaw08.FloatLists", spec := "floatLists", unfollowed := true, recurses := true, apart := false }
def FloatListsSaid : Prop := floatListsRow.holds Try.pinned (OpenSpec.ofChange floatListsSpec)

/-- ITS FALSE NEIGHBOUR: 'it returns false'. Refute it at one input. -/
def floatListsWrong : ChangeSpec := { name := "floatLists", fn := fun _ => fun
  | [d1, d2, d3] => { results := [.lit (.bool false)], args := [d1, d2, d3] }
  | _ => none }
def FloatListsWrongFalsely : Prop := floatListsRow.holds Try.pinned (OpenSpec.ofChange floatListsWrong)

/-- 'raddlelaw08.FloatCovers': WHATEVER THE INPUT: true; the input reads as it did. -/
def floatCoversSpec : ChangeSpec := { name := "floatCovers", fn := fun _ => fun
  | [d] => { results := [.lit (.bool true)], args := [d] }
  | _ => none }
def floatCoversRow : OpenClaim := { program := "ytngjcekjboedjaa", sum := "16b1d4d7347210facce278380de1c87e2f0fb09cd1bc56e9320491130b75fcb4", func := "raddle/raddlelaw08.FloatCovers", spec := "floatCovers", inPlace := ["internal/bytealg.IndexByteString"], unfollowed := true, recurses := true, apart := false }
def FloatCoversSaid : Prop := floatCoversRow.holds Try.pinned (OpenSpec.ofChange floatCoversSpec)

/-- ITS FALSE NEIGHBOUR: 'it returns false'. Refute it at one input. -/
def floatCoversWrong : ChangeSpec := { name := "floatCovers", fn := fun _ => fun
  | [d] => { results := [.lit (.bool false)], args := [d] }
  | _ => none }
def FloatCoversWrongFalsely : Prop := floatCoversRow.holds Try.pinned (OpenSpec.ofChange floatCoversWrong)

/-- 'raddlelaw08.FloatSides': WHATEVER THE INPUT: true; the input reads as it did. -/
def floatSidesSpec : ChangeSpec := { name := "floatSides", fn := fun _ => fun
  | [d1, d2] => { results := [.lit (.bool true)], args := [d1, d2] }
  | _ => none }
def floatSidesRow : OpenClaim := { program := "ytngjcekjboedjaa", sum := "16b1d4d7347210facce278380de1c87e2f0fb09cd1bc56e9320491130b75fcb4", func := "raddle/raddlelaw08.FloatSides", spec := "floatSides", inPlace := ["internal/bytealg.IndexByteString"], unfollowed := true, recurses := true, apart := false }
def FloatSidesSaid : Prop := floatSidesRow.holds Try.pinned (OpenSpec.ofChange floatSidesSpec)

/-- ITS FALSE NEIGHBOUR: 'it returns false'. Refute it at one input. -/
def floatSidesWrong : ChangeSpec := { name := "floatSides", fn := fun _ => fun
  | [d1, d2] => { results := [.lit (.bool false)], args := [d1, d2] }
  | _ => none }
def FloatSidesWrongFalsely : Prop := floatSidesRow.holds Try.pinned (OpenSpec.ofChange floatSidesWrong)

/-- 'raddlelaw08.FloatMoved': WHATEVER THE INPUT: true; the input reads as it did. -/
def floatMovedSpec : ChangeSpec := { name := "floatMoved", fn := fun _ => fun
  | [d1, d2, d3, d4] => { results := [.lit (.bool true)], args := [d1, d2, d3, d4] }
  | _ => none }
def floatMovedRow : OpenClaim := { program := "ytngjcekjboedjaa", sum := "16b1d4d7347210facce278380de1c87e2f0fb09cd1bc56e9320491130b75fcb4", func := "raddle/raddlelaw08.FloatMoved", spec := "floatMoved", inPlace := ["internal/bytealg.IndexByteString"], unfollowed := true, recurses := true, apart := false }
def FloatMovedSaid : Prop := floatMovedRow.holds Try.pinned (OpenSpec.ofChange floatMovedSpec)

/-- ITS FALSE NEIGHBOUR: 'it returns false'. Refute it at one input. -/
def floatMovedWrong : ChangeSpec := { name := "floatMoved", fn := fun _ => fun
  | [d1, d2, d3, d4] => { results := [.lit (.bool false)], args := [d1, d2, d3, d4] }
  | _ => none }
def FloatMovedWrongFalsely : Prop := floatMovedRow.holds Try.pinned (OpenSpec.ofChange floatMovedWrong)

/-- 'raddlelaw08.FloatOver': WHATEVER THE INPUT: true; the input reads as it did. -/
def floatOverSpec : ChangeSpec := { name := "floatOver", fn := fun _ => fun
  | [d1, d2] => { results := [.lit (.bool true)], args := [d1, d2] }
  | _ => none }
def floatOverRow : OpenClaim := { program := "ytngjcekjboedjaa", sum := "16b1d4d7347210facce278380de1c87e2f0fb09cd1bc56e9320491130b75fcb4", func := "raddle/raddlelaw08.FloatOver", spec := "floatOver", inPlace := ["internal/bytealg.IndexByteString"], unfollowed := true, recurses := true, apart := false }
def FloatOverSaid : Prop := floatOverRow.holds Try.pinned (OpenSpec.ofChange floatOverSpec)

/-- ITS FALSE NEIGHBOUR: 'it returns false'. Refute it at one input. -/
def floatOverWrong : ChangeSpec := { name := "floatOver", fn := fun _ => fun
  | [d1, d2] => { results := [.lit (.bool false)], args := [d1, d2] }
  | _ => none }
def FloatOverWrongFalsely : Prop := floatOverRow.holds Try.pinned (OpenSpec.ofChange floatOverWrong)

/-- 'raddlelaw10.HangWhole': WHATEVER THE INPUT: true; the input reads as it did. -/
def hangWholeSpec : ChangeSpec := { name := "hangWhole", fn := fun _ => fun
  | [d1, d2] => { results := [.lit (.bool true)], args := [d1, d2] }
  | _ => none }
def hangWholeRow : OpenClaim := { program := "ytngjcekjboedjaa", sum := "16b1d4d7347210facce278380de1c87e2f0fb09cd1bc56e9320491130b75fcb4", func := "raddle/raddlelaw10.HangWhole", spec := "hangWhole", inPlace := ["internal/bytealg.IndexByteString"], unfollowed := true, recurses := true, apart := false }
def HangWholeSaid : Prop := hangWholeRow.holds Try.pinned (OpenSpec.ofChange hangWholeSpec)

/-- ITS FALSE NEIGHBOUR: 'it returns false'. Refute it at one input. -/
def hangWholeWrong : ChangeSpec := { name := "hangWhole", fn := fun _ => fun
  | [d1, d2] => { results := [.lit (.bool false)], args := [d1, d2] }
  | _ => none }
def HangWholeWrongFalsely : Prop := hangWholeRow.holds Try.pinned (OpenSpec.ofChange hangWholeWrong)

/-- 'raddlelaw13.BlockFills': WHATEVER THE INPUT: true; the input reads as it did. -/
def blockFillsSpec : ChangeSpec := { name := "blockFills", fn := fun _ => fun
  | [d1, d2, d3] => { results := [.lit (.bool true)], args := [d1, d2, d3] }
  | _ => none }
def blockFillsRow : OpenClaim := { program := "ytngjcekjboedjaa", sum := "16b1d4d7347210facce278380de1c87e2f0fb09cd1bc56e9320491130b75fcb4", func := "raddle/raddlelaw13.BlockFills", spec := "blockFills", unfollowed := true, recurses := true, apart := false }
def BlockFillsSaid : Prop := blockFillsRow.holds Try.pinned (OpenSpec.ofChange blockFillsSpec)

/-- ITS FALSE NEIGHBOUR: 'it returns false'. Refute it at one input. -/
def blockFillsWrong : ChangeSpec := { name := "blockFills", fn := fun _ => fun
  | [d1, d2, d3] => { results := [.lit (.bool false)], args := [d1, d2, d3] }
  | _ => none }
def BlockFillsWrongFalsely : Prop := blockFillsRow.holds Try.pinned (OpenSpec.ofChange blockFillsWrong)

/-- 'raddlelaw13.BlockParts': WHATEVER THE INPUT: true; the input reads as it did. -/
def blockPartsSpec : ChangeSpec := { name := "blockParts", fn := fun _ => fun
  | [d1, d2, d3, d4, d5] => { results := [.lit (.bool true)], args := [d1, d2, d3, d4, d5] }
  | _ => none }
def blockPartsRow : OpenClaim := { program := "ytngjcekjboedjaa", sum := "16b1d4d7347210facce278380de1c87e2f0fb09cd1bc56e9320491130b75fcb4", func := "raddle/raddlelaw13.BlockParts", spec := "blockParts", unfollowed := true, recurses := true, apart := false }
def BlockPartsSaid : Prop := blockPartsRow.holds Try.pinned (OpenSpec.ofChange blockPartsSpec)

/-- ITS FALSE NEIGHBOUR: 'it returns false'. Refute it at one input. -/
def blockPartsWrong : ChangeSpec := { name := "blockParts", fn := fun _ => fun
  | [d1, d2, d3, d4, d5] => { results := [.lit (.bool false)], args := [d1, d2, d3, d4, d5] }
  | _ => none }
def BlockPartsWrongFalsely : Prop := blockPartsRow.holds Try.pinned (OpenSpec.ofChange blockPartsWrong)

/-- 'raddlelaw13.BlockSpells': WHATEVER THE INPUT: true; the input reads as it did. -/
def blockSpellsSpec : ChangeSpec := { name := "blockSpells", fn := fun _ => fun
  | [d1, d2] => { results := [.lit (.bool true)], args := [d1, d2] }
  | _ => none }
def blockSpellsRow : OpenClaim := { program := "ytngjcekjboedjaa", sum := "16b1d4d7347210facce278380de1c87e2f0fb09cd1bc56e9320491130b75fcb4", func := "raddle/raddlelaw13.BlockSpells", spec := "blockSpells", unfollowed := true, recurses := true, apart := false }
def BlockSpellsSaid : Prop := blockSpellsRow.holds Try.pinned (OpenSpec.ofChange blockSpellsSpec)

/-- ITS FALSE NEIGHBOUR: 'it returns false'. Refute it at one input. -/
def blockSpellsWrong : ChangeSpec := { name := "blockSpells", fn := fun _ => fun
  | [d1, d2] => { results := [.lit (.bool false)], args := [d1, d2] }
  | _ => none }
def BlockSpellsWrongFalsely : Prop := blockSpellsRow.holds Try.pinned (OpenSpec.ofChange blockSpellsWrong)

/-- 'raddlelaw13.BlockNames': WHATEVER THE INPUT: true; the input reads as it did. -/
def blockNamesSpec : ChangeSpec := { name := "blockNames", fn := fun _ => fun
  | [] => { results := [.lit (.bool true)], args := [] }
  | _ => none }
def blockNamesRow : OpenClaim := { program := "ytngjcekjboedjaa", sum := "16b1d4d7347210facce278380de1c87e2f0fb09cd1bc56e9320491130b75fcb4", func := "raddle/raddlelaw13.BlockNames", spec := "blockNames", unfollowed := true, recurses := true, apart := false }
def BlockNamesSaid : Prop := blockNamesRow.holds Try.pinned (OpenSpec.ofChange blockNamesSpec)

/-- ITS FALSE NEIGHBOUR: 'it returns false'. Refute it at one input. -/
def blockNamesWrong : ChangeSpec := { name := "blockNames", fn := fun _ => fun
  | [] => { results := [.lit (.bool false)], args := [] }
  | _ => none }
def BlockNamesWrongFalsely : Prop := blockNamesRow.holds Try.pinned (OpenSpec.ofChange blockNamesWrong)

/-- 'raddlelaw13.BlockBack': WHATEVER THE INPUT: true; the input reads as it did. -/
def blockBackSpec : ChangeSpec := { name := "blockBack", fn := fun _ => fun
  | [d1, d2, d3] => { results := [.lit (.bool true)], args := [d1, d2, d3] }
  | _ => none }
def blockBackRow : OpenClaim := { program := "ytngjcekjboedjaa", sum := "16b1d4d7347210facce278380de1c87e2f0fb09cd1bc56e9320491130b75fcb4", func := "raddle/raddlelaw13.BlockBack", spec := "blockBack", unfollowed := true, recurses := true, apart := false }
def BlockBackSaid : Prop := blockBackRow.holds Try.pinned (OpenSpec.ofChange blockBackSpec)

/-- ITS FALSE NEIGHBOUR: 'it returns false'. Refute it at one input. -/
def blockBackWrong : ChangeSpec := { name := "blockBack", fn := fun _ => fun
  | [d1, d2, d3] => { results := [.lit (.bool false)], args := [d1, d2, d3] }
  | _ => none }
def BlockBackWrongFalsely : Prop := blockBackRow.holds Try.pinned (OpenSpec.ofChange blockBackWrong)

/-- 'raddlelaw13.BlockJoins': WHATEVER THE INPUT: true; the input reads as it did. -/
def blockJoinsSpec : ChangeSpec := { name := "blockJoins", fn := fun _ => fun
  | [d1, d2, d3, d4, d5] => { results := [.lit (.bool true)], args := [d1, d2, d3, d4, d5] }
  | _ => none }
def blockJoinsRow : OpenClaim := { program := "ytngjcekjboedjaa", sum := "16b1d4d7347210facce278380de1c87e2f0fb09cd1bc56e9320491130b75fcb4", func := "raddle/raddlelaw13.BlockJoins", spec := "blockJoins", unfollowed := true, recurses := true, apart := false }
def BlockJoinsSaid : Prop := blockJoinsRow.holds Try.pinned (OpenSpec.ofChange blockJoinsSpec)

/-- ITS FALSE NEIGHBOUR: 'it returns false'. Refute it at one input. -/
def blockJoinsWrong : ChangeSpec := { name := "blockJoins", fn := fun _ => fun
  | [d1, d2, d3, d4, d5] => { results := [.lit (.bool false)], args := [d1, d2, d3, d4, d5] }
  | _ => none }
def BlockJoinsWrongFalsely : Prop := blockJoinsRow.holds Try.pinned (OpenSpec.ofChange blockJoinsWrong)

/-- 'raddlelaw13.BlockTurns': WHATEVER THE INPUT: true; the input reads as it did. -/
def blockTurnsSpec : ChangeSpec := { name := "blockTurns", fn := fun _ => fun
  | [d1, d2, d3, d4, d5] => { results := [.lit (.bool true)], args := [d1, d2, d3, d4, d5] }
  | _ => none }
def blockTurnsRow : OpenClaim := { program := "ytngjcekjboedjaa", sum := "16b1d4d7347210facce278380de1c87e2f0fb09cd1bc56e9320491130b75fcb4", func := "raddle/raddlelaw13.BlockTurns", spec := "blockTurns", unfollowed := true, recurses := true, apart := false }
def BlockTurnsSaid : Prop := blockTurnsRow.holds Try.pinned (OpenSpec.ofChange blockTurnsSpec)

/-- ITS FALSE NEIGHBOUR: 'it returns false'. Refute it at one input. -/
def blockTurnsWrong : ChangeSpec := { name := "blockTurns", fn := fun _ => fun
  | [d1, d2, d3, d4, d5] => { results := [.lit (.bool false)], args := [d1, d2, d3, d4, d5] }
  | _ => none }
def BlockTurnsWrongFalsely : Prop := blockTurnsRow.holds Try.pinned (OpenSpec.ofChange blockTurnsWrong)

/-- 'raddlelaw13.BlockReads': WHATEVER THE INPUT: true; the input reads as it did. -/
def blockReadsSpec : ChangeSpec := { name := "blockReads", fn := fun _ => fun
  | [d1, d2] => { results := [.lit (.bool true)], args := [d1, d2] }
  | _ => none }
def blockReadsRow : OpenClaim := { program := "ytngjcekjboedjaa", sum := "16b1d4d7347210facce278380de1c87e2f0fb09cd1bc56e9320491130b75fcb4", func := "raddle/raddlelaw13.BlockReads", spec := "blockReads", unfollowed := true, recurses := true, apart := false }
def BlockReadsSaid : Prop := blockReadsRow.holds Try.pinned (OpenSpec.ofChange blockReadsSpec)

/-- ITS FALSE NEIGHBOUR: 'it returns false'. Refute it at one input. -/
def blockReadsWrong : ChangeSpec := { name := "blockReads", fn := fun _ => fun
  | [d1, d2] => { results := [.lit (.bool false)], args := [d1, d2] }
  | _ => none }
def BlockReadsWrongFalsely : Prop := blockReadsRow.holds Try.pinned (OpenSpec.ofChange blockReadsWrong)

/- THE SECOND FORM. 'bulk': how many values and letters a reading holds, each counted each time it is reached (what is shared counts as often as it is met; a slice's spare places count too). A statement '..UptoSaid' is the law's where the arguments, and the package variables that the reading takes, are together of bulk at most 1048576: NARROWER than '..Said'. Prove '..Said' where nothing that the law and all that it calls make is longer than what came in: it says more and counts as full. Else prove '..UptoSaid'. A law counts once. -/
mutual
def uptoBulk {H : Type} : DataW H → Nat
  | .lit (.string bytes) => bytes.length + 1
  | .lit _ => 1
  | .nil => 1
  | .ptr d => uptoBulk d + 1
  | .slice elems spare => uptoBulkAll elems + uptoBulkAll spare + 1
  | .agg parts => uptoBulkAll parts + 1
  | .iface _ d => uptoBulk d + 1
  | .map entries => uptoBulkEntries entries + 1
  | .held _ => 1
def uptoBulkAll {H : Type} : List (DataW H) → Nat
  | [] => 0
  | d :: r => uptoBulk d + uptoBulkAll r
def uptoBulkEntries {H : Type} : List (Lit × DataW H) → Nat
  | [] => 0
  | x :: r => uptoBulkEntry x + uptoBulkEntries r
def uptoBulkEntry {H : Type} : Lit × DataW H → Nat
  | (.string bytes, d) => bytes.length + uptoBulk d + 1
  | (_, d) => uptoBulk d + 1
 end
def uptoSmall : (H : Type) → List (DataW H) → Bool := fun _ ds => decide (uptoBulkAll ds ≤ 1048576)
def OpenSpec.upto (s : _root_.Go.ChangeSpec) : _root_.Go.OpenSpec := { _root_.Go.OpenSpec.ofChange s with cond := some uptoSmall }

/-- 'raddlelaw08.FloatNames', WHERE WHAT IT READS IS OF BULK AT MOST 1048576: true; the input reads as it did. -/
def floatNamesUptoRow : OpenClaim := { program := "ytngjcekjboedjaa", sum := "16b1d4d7347210facce278380de1c87e2f0fb09cd1bc56e9320491130b75fcb4", func := "raddle/raddlelaw08.FloatNames", spec := "floatNames", inPlace := ["internal/bytealg.IndexByteString"], unfollowed := true, recurses := true, apart := false, narrowed := true }
def FloatNamesUptoSaid : Prop := floatNamesUptoRow.holds Try.pinned (OpenSpec.upto floatNamesSpec)

/-- 'raddlelaw08.FloatLists', WHERE WHAT IT READS IS OF BULK AT MOST 1048576: true; the input reads as it did. -/
def floatListsUptoRow : OpenClaim := { program := "ytngjcekjboedjaa", sum := "16b1d4d7347210facce278380de1c87e2f0fb09cd1bc56e9320491130b75fcb4", func := "raddle/raddlelaw08.FloatLists", spec := "floatLists", unfollowed := true, recurses := true, apart := false, narrowed := true }
def FloatListsUptoSaid : Prop := floatListsUptoRow.holds Try.pinned (OpenSpec.upto floatListsSpec)

/-- 'raddlelaw08.FloatCovers', WHERE WHAT IT READS IS OF BULK AT MOST 1048576: true; the input reads as it did. -/
def floatCoversUptoRow : OpenClaim := { program := "ytngjcekjboedjaa", sum := "16b1d4d7347210facce278380de1c87e2f0fb09cd1bc56e9320491130b75fcb4", func := "raddle/raddlelaw08.FloatCovers", spec := "floatCovers", inPlace := ["internal/bytealg.IndexByteString"], unfollowed := true, recurses := true, apart := false, narrowed := true }
def FloatCoversUptoSaid : Prop := floatCoversUptoRow.holds Try.pinned (OpenSpec.upto floatCoversSpec)

/-- 'raddlelaw08.FloatSides', WHERE WHAT IT READS IS OF BULK AT MOST 1048576: true; the input reads as it did. -/
def floatSidesUptoRow : OpenClaim := { program := "ytngjcekjboedjaa", sum := "16b1d4d7347210facce278380de1c87e2f0fb09cd1bc56e9320491130b75fcb4", func := "raddle/raddlelaw08.FloatSides", spec := "floatSides", inPlace := ["internal/bytealg.IndexByteString"], unfollowed := true, recurses := true, apart := false, narrowed := true }
def FloatSidesUptoSaid : Prop := floatSidesUptoRow.holds Try.pinned (OpenSpec.upto floatSidesSpec)

/-- 'raddlelaw08.FloatMoved', WHERE WHAT IT READS IS OF BULK AT MOST 1048576: true; the input reads as it did. -/
def floatMovedUptoRow : OpenClaim := { program := "ytngjcekjboedjaa", sum := "16b1d4d7347210facce278380de1c87e2f0fb09cd1bc56e9320491130b75fcb4", func := "raddle/raddlelaw08.FloatMoved", spec := "floatMoved", inPlace := ["internal/bytealg.IndexByteString"], unfollowed := true, recurses := true, apart := false, narrowed := true }
def FloatMovedUptoSaid : Prop := floatMovedUptoRow.holds Try.pinned (OpenSpec.upto floatMovedSpec)

/-- 'raddlelaw08.FloatOver', WHERE WHAT IT READS IS OF BULK AT MOST 1048576: true; the input reads as it did. -/
def floatOverUptoRow : OpenClaim := { program := "ytngjcekjboedjaa", sum := "16b1d4d7347210facce278380de1c87e2f0fb09cd1bc56e9320491130b75fcb4", func := "raddle/raddlelaw08.FloatOver", spec := "floatOver", inPlace := ["internal/bytealg.IndexByteString"], unfollowed := true, recurses := true, apart := false, narrowed := true }
def FloatOverUptoSaid : Prop := floatOverUptoRow.holds Try.pinned (OpenSpec.upto floatOverSpec)

/-- 'raddlelaw10.HangWhole', WHERE WHAT IT READS IS OF BULK AT MOST 1048576: true; the input reads as it did. -/
def hangWholeUptoRow : OpenClaim := { program := "ytngjcekjboedjaa", sum := "16b1d4d7347210facce278380de1c87e2f0fb09cd1bc56e9320491130b75fcb4", func := "raddle/raddlelaw10.HangWhole", spec := "hangWhole", inPlace := ["internal/bytealg.IndexByteString"], unfollowed := true, recurses := true, apart := false, narrowed := true }
def HangWholeUptoSaid : Prop := hangWholeUptoRow.holds Try.pinned (OpenSpec.upto hangWholeSpec)

/-- 'raddlelaw13.BlockFills', WHERE WHAT IT READS IS OF BULK AT MOST 1048576: true; the input reads as it did. -/
def blockFillsUptoRow : OpenClaim := { program := "ytngjcekjboedjaa", sum := "16b1d4d7347210facce278380de1c87e2f0fb09cd1bc56e9320491130b75fcb4", func := "raddle/raddlelaw13.BlockFills", spec := "blockFills", unfollowed := true, recurses := true, apart := false, narrowed := true }
def BlockFillsUptoSaid : Prop := blockFillsUptoRow.holds Try.pinned (OpenSpec.upto blockFillsSpec)

/-- 'raddlelaw13.BlockParts', WHERE WHAT IT READS IS OF BULK AT MOST 1048576: true; the input reads as it did. -/
def blockPartsUptoRow : OpenClaim := { program := "ytngjcekjboedjaa", sum := "16b1d4d7347210facce278380de1c87e2f0fb09cd1bc56e9320491130b75fcb4", func := "raddle/raddlelaw13.BlockParts", spec := "blockParts", unfollowed := true, recurses := true, apart := false, narrowed := true }
def BlockPartsUptoSaid : Prop := blockPartsUptoRow.holds Try.pinned (OpenSpec.upto blockPartsSpec)

/-- 'raddlelaw13.BlockSpells', WHERE WHAT IT READS IS OF BULK AT MOST 1048576: true; the input reads as it did. -/
def blockSpellsUptoRow : OpenClaim := { program := "ytngjcekjboedjaa", sum := "16b1d4d7347210facce278380de1c87e2f0fb09cd1bc56e9320491130b75fcb4", func := "raddle/raddlelaw13.BlockSpells", spec := "blockSpells", unfollowed := true, recurses := true, apart := false, narrowed := true }
def BlockSpellsUptoSaid : Prop := blockSpellsUptoRow.holds Try.pinned (OpenSpec.upto blockSpellsSpec)

/-- 'raddlelaw13.BlockNames', WHERE WHAT IT READS IS OF BULK AT MOST 1048576: true; the input reads as it did. -/
def blockNamesUptoRow : OpenClaim := { program := "ytngjcekjboedjaa", sum := "16b1d4d7347210facce278380de1c87e2f0fb09cd1bc56e9320491130b75fcb4", func := "raddle/raddlelaw13.BlockNames", spec := "blockNames", unfollowed := true, recurses := true, apart := false, narrowed := true }
def BlockNamesUptoSaid : Prop := blockNamesUptoRow.holds Try.pinned (OpenSpec.upto blockNamesSpec)

/-- 'raddlelaw13.BlockBack', WHERE WHAT IT READS IS OF BULK AT MOST 1048576: true; the input reads as it did. -/
def blockBackUptoRow : OpenClaim := { program := "ytngjcekjboedjaa", sum := "16b1d4d7347210facce278380de1c87e2f0fb09cd1bc56e9320491130b75fcb4", func := "raddle/raddlelaw13.BlockBack", spec := "blockBack", unfollowed := true, recurses := true, apart := false, narrowed := true }
def BlockBackUptoSaid : Prop := blockBackUptoRow.holds Try.pinned (OpenSpec.upto blockBackSpec)

/-- 'raddlelaw13.BlockJoins', WHERE WHAT IT READS IS OF BULK AT MOST 1048576: true; the input reads as it did. -/
def blockJoinsUptoRow : OpenClaim := { program := "ytngjcekjboedjaa", sum := "16b1d4d7347210facce278380de1c87e2f0fb09cd1bc56e9320491130b75fcb4", func := "raddle/raddlelaw13.BlockJoins", spec := "blockJoins", unfollowed := true, recurses := true, apart := false, narrowed := true }
def BlockJoinsUptoSaid : Prop := blockJoinsUptoRow.holds Try.pinned (OpenSpec.upto blockJoinsSpec)

/-- 'raddlelaw13.BlockTurns', WHERE WHAT IT READS IS OF BULK AT MOST 1048576: true; the input reads as it did. -/
def blockTurnsUptoRow : OpenClaim := { program := "ytngjcekjboedjaa", sum := "16b1d4d7347210facce278380de1c87e2f0fb09cd1bc56e9320491130b75fcb4", func := "raddle/raddlelaw13.BlockTurns", spec := "blockTurns", unfollowed := true, recurses := true, apart := false, narrowed := true }
def BlockTurnsUptoSaid : Prop := blockTurnsUptoRow.holds Try.pinned (OpenSpec.upto blockTurnsSpec)

/-- 'raddlelaw13.BlockReads', WHERE WHAT IT READS IS OF BULK AT MOST 1048576: true; the input reads as it did. -/
def blockReadsUptoRow : OpenClaim := { program := "ytngjcekjboedjaa", sum := "16b1d4d7347210facce278380de1c87e2f0fb09cd1bc56e9320491130b75fcb4", func := "raddle/raddlelaw13.BlockReads", spec := "blockReads", unfollowed := true, recurses := true, apart := false, narrowed := true }
def BlockReadsUptoSaid : Prop := blockReadsUptoRow.holds Try.pinned (OpenSpec.upto blockReadsSpec)

end Rows
end Go.Proofs.Ytngjcekjboedjaa
