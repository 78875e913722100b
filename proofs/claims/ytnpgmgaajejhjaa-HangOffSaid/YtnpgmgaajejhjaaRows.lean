/-
  No cell of these rows narrows 'for every input' (looked for: loops, veiled, ifaces, maps, wideKeys, modest, calm, conditions, laid).
  DERIVED. THE GIVEN ROWS OF THIS SEAT. 13 by the template 'for every input the law returns true; each argument reads behind the call as it read before'; 0 by the template 'total and deterministic' (their statements: YtnpgmgaajejhjaaTotals.lean).
  GIVEN WITH THE SEED: the statements are not yours to turn. If you find one false, say at which input.
  Laid BY PROGRAM, IN A SANDBOX (cutbox-rows.mjs): the forced cells as the released guide's own fill.sh prints them over the translation 2e5574e9c55cdacf… (all of the seat's roots in one cut). By AI agents, Wed Nov 11 2026. No macro, syntax, notation, axiom, sorry.
-/
import Derived.Test.YtnpgmgaajejhjaaChecked
import GoSem.Claim
import GoSem.ClaimJoined
import GoSem.ClaimMapViews
import Derived.JoinedTies
import Derived.KernelRfl
namespace Go.Proofs.Ytnpgmgaajejhjaa
/- THE CELL 'sum', in the pinned program and in every row, IS THE sha256 OF THE DUMP (.gsa) THAT YtnpgmgaajejhjaaProg.lean LOADS. Nothing in Lean hashes anything: it is a label: what it is worth is what the hold of that sum in a sandbox is worth. -/
noncomputable def Try.pinned : Pinned := { name := "ytnpgmgaajejhjaa", sum := "2e5574e9c55cdacfab02d363f8e8be7b5f72056a925b17370e2b965f6bf12191", checked := Try.checked }
namespace Rows
def none {H : Type} : Left H := { results := [], args := [] }

/-- 'raddlelaw08.FloatNames': WHATEVER THE INPUT: true; the input reads as it did. -/
def floatNamesSpec : ChangeSpec := { name := "floatNames", fn := fun _ => fun
  | [] => { results := [.lit (.bool true)], args := [] }
  | _ => none }
def floatNamesRow : OpenClaim := { program := "ytnpgmgaajejhjaa", sum := "2e5574e9c55cdacfab02d363f8e8be7b5f72056a925b17370e2b965f6bf12191", func := "raddle/raddlelaw08.FloatNames", spec := "floatNames", inPlace := ["internal/bytealg.IndexByteString"], unfollowed := true, recurses := true, apart := false }
def FloatNamesSaid : Prop := floatNamesRow.holds Try.pinned (OpenSpec.ofChange floatNamesSpec)

/-- ITS FALSE NEIGHBOUR: 'it returns false'. Refute it at one input. -/
def floatNamesWrong : ChangeSpec := { name := "floatNames", fn := fun _ => fun
  | [] => { results := [.lit (.bool false)], args := [] }
  | _ => none }
def FloatNamesWrongFalsely : Prop := floatNamesRow.holds Try.pinned (OpenSpec.ofChange floatNamesWrong)

/-- 'raddlelaw08.FloatLists': WHATEVER THE INPUT: true; the input reads as it did. -/
def floatListsSpec : ChangeSpec := { name := "floatLists", fn := fun _ => fun
  | [d1, d2, d3] => { results := [.lit (.bool true)], args := [d1, d2, d3] }
  | _ => none }
def floatListsRow : OpenClaim := { program := "ytnpgmgaajejhjaa", sum := "2e5574e9c55cdacfab02d363f8e8be7b5f72056a925b17370e2b965f6bf12191", func := "raddle/raddlelaw08.FloatLists", spec := "floatLists", unfollowed := true, recurses := true, apart := false }
def FloatListsSaid : Prop := floatListsRow.holds Try.pinned (OpenSpec.ofChange floatListsSpec)

/-- ITS FALSE NEIGHBOUR: 'it returns false'. Refute it at one input. -/
def floatListsWrong : ChangeSpec := { name := "floatLists", fn := fun _ => fun
  | [d1, d2, d3] => { results := [.lit (.bool false)], args := [d1, d2, d3] }
  | _ => none }
def FloatListsWrongFalsely : Prop := floatListsRow.holds Try.pinned (OpenSpec.ofChange floatListsWrong)

/-- 'raddlelaw08.FloatCounts': WHATEVER THE INPUT: true; the input reads as it did. -/
def floatCountsSpec : ChangeSpec := { name := "floatCounts", fn := fun _ => fun
  | [d1, d2, d3] => { results := [.lit (.bool true)], args := [d1, d2, d3] }
  | _ => none }
def floatCountsRow : OpenClaim := { program := "ytnpgmgaajejhjaa", sum := "2e5574e9c55cdacfab02d363f8e8be7b5f72056a925b17370e2b965f6bf12191", func := "raddle/raddlelaw08.FloatCounts", spec := "floatCounts", unfollowed := true, recurses := true, apart := false }
def FloatCountsSaid : Prop := floatCountsRow.holds Try.pinned (OpenSpec.ofChange floatCountsSpec)

/-- ITS FALSE NEIGHBOUR: 'it returns false'. Refute it at one input. -/
def floatCountsWrong : ChangeSpec := { name := "floatCounts", fn := fun _ => fun
  | [d1, d2, d3] => { results := [.lit (.bool false)], args := [d1, d2, d3] }
  | _ => none }
def FloatCountsWrongFalsely : Prop := floatCountsRow.holds Try.pinned (OpenSpec.ofChange floatCountsWrong)

/-- 'raddlelaw08.FloatCovers': WHATEVER THE INPUT: true; the input reads as it did. -/
def floatCoversSpec : ChangeSpec := { name := "floatCovers", fn := fun _ => fun
  | [d] => { results := [.lit (.bool true)], args := [d] }
  | _ => none }
def floatCoversRow : OpenClaim := { program := "ytnpgmgaajejhjaa", sum := "2e5574e9c55cdacfab02d363f8e8be7b5f72056a925b17370e2b965f6bf12191", func := "raddle/raddlelaw08.FloatCovers", spec := "floatCovers", inPlace := ["internal/bytealg.IndexByteString"], unfollowed := true, recurses := true, apart := false }
def FloatCoversSaid : Prop := floatCoversRow.holds Try.pinned (OpenSpec.ofChange floatCoversSpec)

/-- ITS FALSE NEIGHBOUR: 'it returns false'. Refute it at one input. -/
def floatCoversWrong : ChangeSpec := { name := "floatCovers", fn := fun _ => fun
  | [d] => { results := [.lit (.bool false)], args := [d] }
  | _ => none }
def FloatCoversWrongFalsely : Prop := floatCoversRow.holds Try.pinned (OpenSpec.ofChange floatCoversWrong)

/-- 'raddlelaw08.FloatSides': WHATEVER THE INPUT: true; the input reads as it did. -/
def floatSidesSpec : ChangeSpec := { name := "floatSides", fn := fun _ => fun
  | [d1, d2] => { results := [.lit (.bool true)], args := [d1, d2] }
  | _ => none }
def floatSidesRow : OpenClaim := { program := "ytnpgmgaajejhjaa", sum := "2e5574e9c55cdacfab02d363f8e8be7b5f72056a925b17370e2b965f6bf12191", func := "raddle/raddlelaw08.FloatSides", spec := "floatSides", inPlace := ["internal/bytealg.IndexByteString"], unfollowed := true, recurses := true, apart := false }
def FloatSidesSaid : Prop := floatSidesRow.holds Try.pinned (OpenSpec.ofChange floatSidesSpec)

/-- ITS FALSE NEIGHBOUR: 'it returns false'. Refute it at one input. -/
def floatSidesWrong : ChangeSpec := { name := "floatSides", fn := fun _ => fun
  | [d1, d2] => { results := [.lit (.bool false)], args := [d1, d2] }
  | _ => none }
def FloatSidesWrongFalsely : Prop := floatSidesRow.holds Try.pinned (OpenSpec.ofChange floatSidesWrong)

/-- 'raddlelaw08.FloatMoved': WHATEVER THE INPUT: true; the input reads as it did. -/
def floatMovedSpec : ChangeSpec := { name := "floatMoved", fn := fun _ => fun
  | [d1, d2, d3, d4] => { results := [.lit (.bool true)], args := [d1, d2, d3, d4] }
  | _ => none }
def floatMovedRow : OpenClaim := { program := "ytnpgmgaajejhjaa", sum := "2e5574e9c55cdacfab02d363f8e8be7b5f72056a925b17370e2b965f6bf12191", func := "raddle/raddlelaw08.FloatMoved", spec := "floatMoved", inPlace := ["internal/bytealg.IndexByteString"], unfollowed := true, recurses := true, apart := false }
def FloatMovedSaid : Prop := floatMovedRow.holds Try.pinned (OpenSpec.ofChange floatMovedSpec)

/-- ITS FALSE NEIGHBOUR: 'it returns false'. Refute it at one input. -/
def floatMovedWrong : ChangeSpec := { name := "floatMoved", fn := fun _ => fun
  | [d1, d2, d3, d4] => { results := [.lit (.bool false)], args := [d1, d2, d3, d4] }
  | _ => none }
def FloatMovedWrongFalsely : Prop := floatMovedRow.holds Try.pinned (OpenSpec.ofChange floatMovedWrong)

/-- 'raddlelaw08.FloatOver': WHATEVER THE INPUT: true; the input reads as it did. -/
def floatOverSpec : ChangeSpec := { name := "floatOver", fn := fun _ => fun
  | [d1, d2] => { results := [.lit (.bool true)], args := [d1, d2] }
  | _ => none }
def floatOverRow : OpenClaim := { program := "ytnpgmgaajejhjaa", sum := "2e5574e9c55cdacfab02d363f8e8be7b5f72056a925b17370e2b965f6bf12191", func := "raddle/raddlelaw08.FloatOver", spec := "floatOver", inPlace := ["internal/bytealg.IndexByteString"], unfollowed := true, recurses := true, apart := false }
def FloatOverSaid : Prop := floatOverRow.holds Try.pinned (OpenSpec.ofChange floatOverSpec)

/-- ITS FALSE NEIGHBOUR: 'it returns false'. Refute it at one input. -/
def floatOverWrong : ChangeSpec := { name := "floatOver", fn := fun _ => fun
  | [d1, d2] => { results := [.lit (.bool false)], args := [d1, d2] }
  | _ => none }
def FloatOverWrongFalsely : Prop := floatOverRow.holds Try.pinned (OpenSpec.ofChange floatOverWrong)

/-- 'raddlelaw10.HangNames': WHATEVER THE INPUT: true; the input reads as it did. -/
def hangNamesSpec : ChangeSpec := { name := "hangNames", fn := fun _ => fun
  | [] => { results := [.lit (.bool true)], args := [] }
  | _ => none }
def hangNamesRow : OpenClaim := { program := "ytnpgmgaajejhjaa", sum := "2e5574e9c55cdacfab02d363f8e8be7b5f72056a925b17370e2b965f6bf12191", func := "raddle/raddlelaw10.HangNames", spec := "hangNames", inPlace := ["internal/bytealg.IndexByteString"], unfollowed := true, recurses := true, apart := false }
def HangNamesSaid : Prop := hangNamesRow.holds Try.pinned (OpenSpec.ofChange hangNamesSpec)

/-- ITS FALSE NEIGHBOUR: 'it returns false'. Refute it at one input. -/
def hangNamesWrong : ChangeSpec := { name := "hangNames", fn := fun _ => fun
  | [] => { results := [.lit (.bool false)], args := [] }
  | _ => none }
def HangNamesWrongFalsely : Prop := hangNamesRow.holds Try.pinned (OpenSpec.ofChange hangNamesWrong)

/-- 'raddlelaw10.HangAsks': WHATEVER THE INPUT: true; the input reads as it did. -/
def hangAsksSpec : ChangeSpec := { name := "hangAsks", fn := fun _ => fun
  | [d1, d2, d3, d4] => { results := [.lit (.bool true)], args := [d1, d2, d3, d4] }
  | _ => none }
def hangAsksRow : OpenClaim := { program := "ytnpgmgaajejhjaa", sum := "2e5574e9c55cdacfab02d363f8e8be7b5f72056a925b17370e2b965f6bf12191", func := "raddle/raddlelaw10.HangAsks", spec := "hangAsks", unfollowed := true, recurses := true, apart := false }
def HangAsksSaid : Prop := hangAsksRow.holds Try.pinned (OpenSpec.ofChange hangAsksSpec)

/-- ITS FALSE NEIGHBOUR: 'it returns false'. Refute it at one input. -/
def hangAsksWrong : ChangeSpec := { name := "hangAsks", fn := fun _ => fun
  | [d1, d2, d3, d4] => { results := [.lit (.bool false)], args := [d1, d2, d3, d4] }
  | _ => none }
def HangAsksWrongFalsely : Prop := hangAsksRow.holds Try.pinned (OpenSpec.ofChange hangAsksWrong)

/-- 'raddlelaw10.HangWalks': WHATEVER THE INPUT: true; the input reads as it did. -/
def hangWalksSpec : ChangeSpec := { name := "hangWalks", fn := fun _ => fun
  | [d1, d2] => { results := [.lit (.bool true)], args := [d1, d2] }
  | _ => none }
def hangWalksRow : OpenClaim := { program := "ytnpgmgaajejhjaa", sum := "2e5574e9c55cdacfab02d363f8e8be7b5f72056a925b17370e2b965f6bf12191", func := "raddle/raddlelaw10.HangWalks", spec := "hangWalks", unfollowed := true, recurses := true, apart := false }
def HangWalksSaid : Prop := hangWalksRow.holds Try.pinned (OpenSpec.ofChange hangWalksSpec)

/-- ITS FALSE NEIGHBOUR: 'it returns false'. Refute it at one input. -/
def hangWalksWrong : ChangeSpec := { name := "hangWalks", fn := fun _ => fun
  | [d1, d2] => { results := [.lit (.bool false)], args := [d1, d2] }
  | _ => none }
def HangWalksWrongFalsely : Prop := hangWalksRow.holds Try.pinned (OpenSpec.ofChange hangWalksWrong)

/-- 'raddlelaw10.HangExactly': WHATEVER THE INPUT: true; the input reads as it did. -/
def hangExactlySpec : ChangeSpec := { name := "hangExactly", fn := fun _ => fun
  | [d1, d2, d3] => { results := [.lit (.bool true)], args := [d1, d2, d3] }
  | _ => none }
def hangExactlyRow : OpenClaim := { program := "ytnpgmgaajejhjaa", sum := "2e5574e9c55cdacfab02d363f8e8be7b5f72056a925b17370e2b965f6bf12191", func := "raddle/raddlelaw10.HangExactly", spec := "hangExactly", inPlace := ["internal/bytealg.IndexByteString"], unfollowed := true, recurses := true, apart := false }
def HangExactlySaid : Prop := hangExactlyRow.holds Try.pinned (OpenSpec.ofChange hangExactlySpec)

/-- ITS FALSE NEIGHBOUR: 'it returns false'. Refute it at one input. -/
def hangExactlyWrong : ChangeSpec := { name := "hangExactly", fn := fun _ => fun
  | [d1, d2, d3] => { results := [.lit (.bool false)], args := [d1, d2, d3] }
  | _ => none }
def HangExactlyWrongFalsely : Prop := hangExactlyRow.holds Try.pinned (OpenSpec.ofChange hangExactlyWrong)

/-- 'raddlelaw10.HangWhole': WHATEVER THE INPUT: true; the input reads as it did. -/
def hangWholeSpec : ChangeSpec := { name := "hangWhole", fn := fun _ => fun
  | [d1, d2] => { results := [.lit (.bool true)], args := [d1, d2] }
  | _ => none }
def hangWholeRow : OpenClaim := { program := "ytnpgmgaajejhjaa", sum := "2e5574e9c55cdacfab02d363f8e8be7b5f72056a925b17370e2b965f6bf12191", func := "raddle/raddlelaw10.HangWhole", spec := "hangWhole", inPlace := ["internal/bytealg.IndexByteString"], unfollowed := true, recurses := true, apart := false }
def HangWholeSaid : Prop := hangWholeRow.holds Try.pinned (OpenSpec.ofChange hangWholeSpec)

/-- ITS FALSE NEIGHBOUR: 'it returns false'. Refute it at one input. -/
def hangWholeWrong : ChangeSpec := { name := "hangWhole", fn := fun _ => fun
  | [d1, d2] => { results := [.lit (.bool false)], args := [d1, d2] }
  | _ => none }
def HangWholeWrongFalsely : Prop := hangWholeRow.holds Try.pinned (OpenSpec.ofChange hangWholeWrong)

/-- 'raddlelaw10.HangOff': WHATEVER THE INPUT: true; the input reads as it did. -/
def hangOffSpec : ChangeSpec := { name := "hangOff", fn := fun _ => fun
  | [d1, d2, d3] => { results := [.lit (.bool true)], args := [d1, d2, d3] }
  | _ => none }
def hangOffRow : OpenClaim := { program := "ytnpgmgaajejhjaa", sum := "2e5574e9c55cdacfab02d363f8e8be7b5f72056a925b17370e2b965f6bf12191", func := "raddle/raddlelaw10.HangOff", spec := "hangOff", inPlace := ["internal/bytealg.IndexByteString"], unfollowed := true, recurses := true, apart := false }
def HangOffSaid : Prop := hangOffRow.holds Try.pinned (OpenSpec.ofChange hangOffSpec)

/-- ITS FALSE NEIGHBOUR: 'it returns false'. Refute it at one input. -/
def hangOffWrong : ChangeSpec := { name := "hangOff", fn := fun _ => fun
  | [d1, d2, d3] => { results := [.lit (.bool false)], args := [d1, d2, d3] }
  | _ => none }
def HangOffWrongFalsely : Prop := hangOffRow.holds Try.pinned (OpenSpec.ofChange hangOffWrong)

/- THE SECOND FORM. 'bulk': how many values and letters a reading holds, each counted each time it is reached (what is shared counts as often as it is met; a slice's spare places count too). A statement '..UptoSaid' is the law's where the arguments, and the package variables that the reading takes, are together of bulk at most 1048576: NARROWER than '..Said'. Prove '..Said' where nothing that the law and all that it calls make is longer than what came in: it says more and counts as full. Else prove '..UptoSaid'. A law counts once. -/
mutual
def uptoBulk {H : Type} : DataW H → Nat
  | .lit (.string bytes) => bytes.length + 1
  | .lit _ => 1
  | .nil => 1
  | .ptr d => uptoBulk d + 1
  | .slice elems spare => uptoBulkAll elems + uptoBulkAll spare + 1
  | .agg parts => uptoBulkAll parts + 1
  | .iface _ d => uptoBulk d + 1
  | .map entries => uptoBulkEntries entries + 1
  | .held _ => 1
def uptoBulkAll {H : Type} : List (DataW H) → Nat
  | [] => 0
  | d :: r => uptoBulk d + uptoBulkAll r
def uptoBulkEntries {H : Type} : List (Lit × DataW H) → Nat
  | [] => 0
  | x :: r => uptoBulkEntry x + uptoBulkEntries r
def uptoBulkEntry {H : Type} : Lit × DataW H → Nat
  | (.string bytes, d) => bytes.length + uptoBulk d + 1
  | (_, d) => uptoBulk d + 1
 end
def uptoSmall : (H : Type) → List (DataW H) → Bool := fun _ ds => decide (uptoBulkAll ds ≤ 1048576)
def OpenSpec.upto (s : _root_.Go.ChangeSpec) : _root_.Go.OpenSpec := { _root_.Go.OpenSpec.ofChange s with cond := some uptoSmall }

/-- 'raddlelaw08.FloatNames', WHERE WHAT IT READS IS OF BULK AT MOST 1048576: true; the input reads as it did. -/
def floatNamesUptoRow : OpenClaim := { program := "ytnpgmgaajejhjaa", sum := "2e5574e9c55cdacfab02d363f8e8be7b5f72056a925b17370e2b965f6bf12191", func := "raddle/raddlelaw08.FloatNames", spec := "floatNames", inPlace := ["internal/bytealg.IndexByteString"], unfollowed := true, recurses := true, apart := false, narrowed := true }
def FloatNamesUptoSaid : Prop := floatNamesUptoRow.holds Try.pinned (OpenSpec.upto floatNamesSpec)

/-- 'raddlelaw08.FloatLists', WHERE WHAT IT READS IS OF BULK AT MOST 1048576: true; the input reads as it did. -/
def floatListsUptoRow : OpenClaim := { program := "ytnpgmgaajejhjaa", sum := "2e5574e9c55cdacfab02d363f8e8be7b5f72056a925b17370e2b965f6bf12191", func := "raddle/raddlelaw08.FloatLists", spec := "floatLists", unfollowed := true, recurses := true, apart := false, narrowed := true }
def FloatListsUptoSaid : Prop := floatListsUptoRow.holds Try.pinned (OpenSpec.upto floatListsSpec)

/-- 'raddlelaw08.FloatCounts', WHERE WHAT IT READS IS OF BULK AT MOST 1048576: true; the input reads as it did. -/
def floatCountsUptoRow : OpenClaim := { program := "ytnpgmgaajejhjaa", sum := "2e5574e9c55cdacfab02d363f8e8be7b5f72056a925b17370e2b965f6bf12191", func := "raddle/raddlelaw08.FloatCounts", spec := "floatCounts", unfollowed := true, recurses := true, apart := false, narrowed := true }
def FloatCountsUptoSaid : Prop := floatCountsUptoRow.holds Try.pinned (OpenSpec.upto floatCountsSpec)

/-- 'raddlelaw08.FloatCovers', WHERE WHAT IT READS IS OF BULK AT MOST 1048576: true; the input reads as it did. -/
def floatCoversUptoRow : OpenClaim := { program := "ytnpgmgaajejhjaa", sum := "2e5574e9c55cdacfab02d363f8e8be7b5f72056a925b17370e2b965f6bf12191", func := "raddle/raddlelaw08.FloatCovers", spec := "floatCovers", inPlace := ["internal/bytealg.IndexByteString"], unfollowed := true, recurses := true, apart := false, narrowed := true }
def FloatCoversUptoSaid : Prop := floatCoversUptoRow.holds Try.pinned (OpenSpec.upto floatCoversSpec)

/-- 'raddlelaw08.FloatSides', WHERE WHAT IT READS IS OF BULK AT MOST 1048576: true; the input reads as it did. -/
def floatSidesUptoRow : OpenClaim := { program := "ytnpgmgaajejhjaa", sum := "2e5574e9c55cdacfab02d363f8e8be7b5f72056a925b17370e2b965f6bf12191", func := "raddle/raddlelaw08.FloatSides", spec := "floatSides", inPlace := ["internal/bytealg.IndexByteString"], unfollowed := true, recurses := true, apart := false, narrowed := true }
def FloatSidesUptoSaid : Prop := floatSidesUptoRow.holds Try.pinned (OpenSpec.upto floatSidesSpec)

/-- 'raddlelaw08.FloatMoved', WHERE WHAT IT READS IS OF BULK AT MOST 1048576: true; the input reads as it did. -/
def floatMovedUptoRow : OpenClaim := { program := "ytnpgmgaajejhjaa", sum := "2e5574e9c55cdacfab02d363f8e8be7b5f72056a925b17370e2b965f6bf12191", func := "raddle/raddlelaw08.FloatMoved", spec := "floatMoved", inPlace := ["internal/bytealg.IndexByteString"], unfollowed := true, recurses := true, apart := false, narrowed := true }
def FloatMovedUptoSaid : Prop := floatMovedUptoRow.holds Try.pinned (OpenSpec.upto floatMovedSpec)

/-- 'raddlelaw08.FloatOver', WHERE WHAT IT READS IS OF BULK AT MOST 1048576: true; the input reads as it did. -/
def floatOverUptoRow : OpenClaim := { program := "ytnpgmgaajejhjaa", sum := "2e5574e9c55cdacfab02d363f8e8be7b5f72056a925b17370e2b965f6bf12191", func := "raddle/raddlelaw08.FloatOver", spec := "floatOver", inPlace := ["internal/bytealg.IndexByteString"], unfollowed := true, recurses := true, apart := false, narrowed := true }
def FloatOverUptoSaid : Prop := floatOverUptoRow.holds Try.pinned (OpenSpec.upto floatOverSpec)

/-- 'raddlelaw10.HangNames', WHERE WHAT IT READS IS OF BULK AT MOST 1048576: true; the input reads as it did. -/
def hangNamesUptoRow : OpenClaim := { program := "ytnpgmgaajejhjaa", sum := "2e5574e9c55cdacfab02d363f8e8be7b5f72056a925b17370e2b965f6bf12191", func := "raddle/raddlelaw10.HangNames", spec := "hangNames", inPlace := ["internal/bytealg.IndexByteString"], unfollowed := true, recurses := true, apart := false, narrowed := true }
def HangNamesUptoSaid : Prop := hangNamesUptoRow.holds Try.pinned (OpenSpec.upto hangNamesSpec)

/-- 'raddlelaw10.HangAsks', WHERE WHAT IT READS IS OF BULK AT MOST 1048576: true; the input reads as it did. -/
def hangAsksUptoRow : OpenClaim := { program := "ytnpgmgaajejhjaa", sum := "2e5574e9c55cdacfab02d363f8e8be7b5f72056a925b17370e2b965f6bf12191", func := "raddle/raddlelaw10.HangAsks", spec := "hangAsks", unfollowed := true, recurses := true, apart := false, narrowed := true }
def HangAsksUptoSaid : Prop := hangAsksUptoRow.holds Try.pinned (OpenSpec.upto hangAsksSpec)

/-- 'raddlelaw10.HangWalks', WHERE WHAT IT READS IS OF BULK AT MOST 1048576: true; the input reads as it did. -/
def hangWalksUptoRow : OpenClaim := { program := "ytnpgmgaajejhjaa", sum := "2e5574e9c55cdacfab02d363f8e8be7b5f72056a925b17370e2b965f6bf12191", func := "raddle/raddlelaw10.HangWalks", spec := "hangWalks", unfollowed := true, recurses := true, apart := false, narrowed := true }
def HangWalksUptoSaid : Prop := hangWalksUptoRow.holds Try.pinned (OpenSpec.upto hangWalksSpec)

/-- 'raddlelaw10.HangExactly', WHERE WHAT IT READS IS OF BULK AT MOST 1048576: true; the input reads as it did. -/
def hangExactlyUptoRow : OpenClaim := { program := "ytnpgmgaajejhjaa", sum := "2e5574e9c55cdacfab02d363f8e8be7b5f72056a925b17370e2b965f6bf12191", func := "raddle/raddlelaw10.HangExactly", spec := "hangExactly", inPlace := ["internal/bytealg.IndexByteString"], unfollowed := true, recurses := true, apart := false, narrowed := true }
def HangExactlyUptoSaid : Prop := hangExactlyUptoRow.holds Try.pinned (OpenSpec.upto hangExactlySpec)

/-- 'raddlelaw10.HangWhole', WHERE WHAT IT READS IS OF BULK AT MOST 1048576: true; the input reads as it did. -/
def hangWholeUptoRow : OpenClaim := { program := "ytnpgmgaajejhjaa", sum := "2e5574e9c55cdacfab02d363f8e8be7b5f72056a925b17370e2b965f6bf12191", func := "raddle/raddlelaw10.HangWhole", spec := "hangWhole", inPlace := ["internal/bytealg.IndexByteString"], unfollowed := true, recurses := true, apart := false, narrowed := true }
def HangWholeUptoSaid : Prop := hangWholeUptoRow.holds Try.pinned (OpenSpec.upto hangWholeSpec)

/-- 'raddlelaw10.HangOff', WHERE WHAT IT READS IS OF BULK AT MOST 1048576: true; the input reads as it did. -/
def hangOffUptoRow : OpenClaim := { program := "ytnpgmgaajejhjaa", sum := "2e5574e9c55cdacfab02d363f8e8be7b5f72056a925b17370e2b965f6bf12191", func := "raddle/raddlelaw10.HangOff", spec := "hangOff", inPlace := ["internal/bytealg.IndexByteString"], unfollowed := true, recurses := true, apart := false, narrowed := true }
def HangOffUptoSaid : Prop := hangOffUptoRow.holds Try.pinned (OpenSpec.upto hangOffSpec)

end Rows
end Go.Proofs.Ytnpgmgaajejhjaa
