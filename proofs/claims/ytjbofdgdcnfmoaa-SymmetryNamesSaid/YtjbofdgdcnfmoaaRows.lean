/-
  No cell of these rows narrows 'for every input' (looked for: loops, veiled, ifaces, maps, wideKeys, modest, calm, conditions, laid).
  DERIVED. THE GIVEN ROWS OF THIS SEAT. 15 by the template 'for every input the law returns true; each argument reads behind the call as it read before'; 0 by the template 'total and deterministic' (their statements: YtjbofdgdcnfmoaaTotals.lean).
  GIVEN WITH THE SEED: the statements are not yours to turn. If you find one false, say at which input.
  Laid BY PROGRAM, IN A SANDBOX (cutbox-rows.mjs): the forced cells as the released guide's own fill.sh prints them over the translation 94946d07b52d3357… (all of the seat's roots in one cut). By AI agents, Wed Nov 11 2026. No macro, syntax, notation, axiom, sorry.
-/
import Derived.Test.YtjbofdgdcnfmoaaChecked
import GoSem.Claim
import GoSem.ClaimJoined
import GoSem.ClaimMapViews
import Derived.JoinedTies
import Derived.KernelRfl
namespace Go.Proofs.Ytjbofdgdcnfmoaa
/- THE CELL 'sum', in the pinned program and in every row, IS THE sha256 OF THE DUMP (.gsa) THAT YtjbofdgdcnfmoaaProg.lean LOADS. Nothing in Lean hashes anything: it is a label: what it is worth is what the hold of that sum in a sandbox is worth. -/
noncomputable def Try.pinned : Pinned := { name := "ytjbofdgdcnfmoaa", sum := "94946d07b52d3357499eb7bd8a839d176bc4b6cf63a3c51f3b6443ae0c7fd915", checked := Try.checked }
namespace Rows
def none {H : Type} : Left H := { results := [], args := [] }

/-- 'raddlelaw06.RepeatNames': WHATEVER THE INPUT: true; the input reads as it did. -/
def repeatNamesSpec : ChangeSpec := { name := "repeatNames", fn := fun _ => fun
  | [] => { results := [.lit (.bool true)], args := [] }
  | _ => none }
def repeatNamesRow : OpenClaim := { program := "ytjbofdgdcnfmoaa", sum := "94946d07b52d3357499eb7bd8a839d176bc4b6cf63a3c51f3b6443ae0c7fd915", func := "raddle/raddlelaw06.RepeatNames", spec := "repeatNames", inPlace := ["internal/bytealg.IndexByteString", "internal/abi.NoEscape"], unfollowed := true, recurses := true, apart := false }
def RepeatNamesSaid : Prop := repeatNamesRow.holds Try.pinned (OpenSpec.ofChange repeatNamesSpec)

/-- ITS FALSE NEIGHBOUR: 'it returns false'. Refute it at one input. -/
def repeatNamesWrong : ChangeSpec := { name := "repeatNames", fn := fun _ => fun
  | [] => { results := [.lit (.bool false)], args := [] }
  | _ => none }
def RepeatNamesWrongFalsely : Prop := repeatNamesRow.holds Try.pinned (OpenSpec.ofChange repeatNamesWrong)

/-- 'raddlelaw06.RepeatAsks': WHATEVER THE INPUT: true; the input reads as it did. -/
def repeatAsksSpec : ChangeSpec := { name := "repeatAsks", fn := fun _ => fun
  | [d1, d2, d3, d4] => { results := [.lit (.bool true)], args := [d1, d2, d3, d4] }
  | _ => none }
def repeatAsksRow : OpenClaim := { program := "ytjbofdgdcnfmoaa", sum := "94946d07b52d3357499eb7bd8a839d176bc4b6cf63a3c51f3b6443ae0c7fd915", func := "raddle/raddlelaw06.RepeatAsks", spec := "repeatAsks", unfollowed := true, recurses := true, apart := false }
def RepeatAsksSaid : Prop := repeatAsksRow.holds Try.pinned (OpenSpec.ofChange repeatAsksSpec)

/-- ITS FALSE NEIGHBOUR: 'it returns false'. Refute it at one input. -/
def repeatAsksWrong : ChangeSpec := { name := "repeatAsks", fn := fun _ => fun
  | [d1, d2, d3, d4] => { results := [.lit (.bool false)], args := [d1, d2, d3, d4] }
  | _ => none }
def RepeatAsksWrongFalsely : Prop := repeatAsksRow.holds Try.pinned (OpenSpec.ofChange repeatAsksWrong)

/-- 'raddlelaw06.RepeatCells': WHATEVER THE INPUT: true; the input reads as it did. -/
def repeatCellsSpec : ChangeSpec := { name := "repeatCells", fn := fun _ => fun
  | [d1, d2, d3, d4, d5] => { results := [.lit (.bool true)], args := [d1, d2, d3, d4, d5] }
  | _ => none }
def repeatCellsRow : OpenClaim := { program := "ytjbofdgdcnfmoaa", sum := "94946d07b52d3357499eb7bd8a839d176bc4b6cf63a3c51f3b6443ae0c7fd915", func := "raddle/raddlelaw06.RepeatCells", spec := "repeatCells", unfollowed := true, recurses := true, apart := false }
def RepeatCellsSaid : Prop := repeatCellsRow.holds Try.pinned (OpenSpec.ofChange repeatCellsSpec)

/-- ITS FALSE NEIGHBOUR: 'it returns false'. Refute it at one input. -/
def repeatCellsWrong : ChangeSpec := { name := "repeatCells", fn := fun _ => fun
  | [d1, d2, d3, d4, d5] => { results := [.lit (.bool false)], args := [d1, d2, d3, d4, d5] }
  | _ => none }
def RepeatCellsWrongFalsely : Prop := repeatCellsRow.holds Try.pinned (OpenSpec.ofChange repeatCellsWrong)

/-- 'raddlelaw06.RepeatExactly': WHATEVER THE INPUT: true; the input reads as it did. -/
def repeatExactlySpec : ChangeSpec := { name := "repeatExactly", fn := fun _ => fun
  | [d1, d2, d3] => { results := [.lit (.bool true)], args := [d1, d2, d3] }
  | _ => none }
def repeatExactlyRow : OpenClaim := { program := "ytjbofdgdcnfmoaa", sum := "94946d07b52d3357499eb7bd8a839d176bc4b6cf63a3c51f3b6443ae0c7fd915", func := "raddle/raddlelaw06.RepeatExactly", spec := "repeatExactly", inPlace := ["internal/bytealg.IndexByteString", "internal/abi.NoEscape"], unfollowed := true, recurses := true, apart := false }
def RepeatExactlySaid : Prop := repeatExactlyRow.holds Try.pinned (OpenSpec.ofChange repeatExactlySpec)

/-- ITS FALSE NEIGHBOUR: 'it returns false'. Refute it at one input. -/
def repeatExactlyWrong : ChangeSpec := { name := "repeatExactly", fn := fun _ => fun
  | [d1, d2, d3] => { results := [.lit (.bool false)], args := [d1, d2, d3] }
  | _ => none }
def RepeatExactlyWrongFalsely : Prop := repeatExactlyRow.holds Try.pinned (OpenSpec.ofChange repeatExactlyWrong)

/-- 'raddlelaw06.RepeatSteps': WHATEVER THE INPUT: true; the input reads as it did. -/
def repeatStepsSpec : ChangeSpec := { name := "repeatSteps", fn := fun _ => fun
  | [d1, d2, d3, d4, d5] => { results := [.lit (.bool true)], args := [d1, d2, d3, d4, d5] }
  | _ => none }
def repeatStepsRow : OpenClaim := { program := "ytjbofdgdcnfmoaa", sum := "94946d07b52d3357499eb7bd8a839d176bc4b6cf63a3c51f3b6443ae0c7fd915", func := "raddle/raddlelaw06.RepeatSteps", spec := "repeatSteps", inPlace := ["internal/bytealg.IndexByteString", "internal/abi.NoEscape"], unfollowed := true, recurses := true, apart := false }
def RepeatStepsSaid : Prop := repeatStepsRow.holds Try.pinned (OpenSpec.ofChange repeatStepsSpec)

/-- ITS FALSE NEIGHBOUR: 'it returns false'. Refute it at one input. -/
def repeatStepsWrong : ChangeSpec := { name := "repeatSteps", fn := fun _ => fun
  | [d1, d2, d3, d4, d5] => { results := [.lit (.bool false)], args := [d1, d2, d3, d4, d5] }
  | _ => none }
def RepeatStepsWrongFalsely : Prop := repeatStepsRow.holds Try.pinned (OpenSpec.ofChange repeatStepsWrong)

/-- 'raddlelaw06.RepeatSpread': WHATEVER THE INPUT: true; the input reads as it did. -/
def repeatSpreadSpec : ChangeSpec := { name := "repeatSpread", fn := fun _ => fun
  | [d] => { results := [.lit (.bool true)], args := [d] }
  | _ => none }
def repeatSpreadRow : OpenClaim := { program := "ytjbofdgdcnfmoaa", sum := "94946d07b52d3357499eb7bd8a839d176bc4b6cf63a3c51f3b6443ae0c7fd915", func := "raddle/raddlelaw06.RepeatSpread", spec := "repeatSpread", inPlace := ["internal/bytealg.IndexByteString", "internal/abi.NoEscape"], unfollowed := true, recurses := true, apart := false }
def RepeatSpreadSaid : Prop := repeatSpreadRow.holds Try.pinned (OpenSpec.ofChange repeatSpreadSpec)

/-- ITS FALSE NEIGHBOUR: 'it returns false'. Refute it at one input. -/
def repeatSpreadWrong : ChangeSpec := { name := "repeatSpread", fn := fun _ => fun
  | [d] => { results := [.lit (.bool false)], args := [d] }
  | _ => none }
def RepeatSpreadWrongFalsely : Prop := repeatSpreadRow.holds Try.pinned (OpenSpec.ofChange repeatSpreadWrong)

/-- 'raddlelaw06.RepeatMoved': WHATEVER THE INPUT: true; the input reads as it did. -/
def repeatMovedSpec : ChangeSpec := { name := "repeatMoved", fn := fun _ => fun
  | [d1, d2, d3, d4] => { results := [.lit (.bool true)], args := [d1, d2, d3, d4] }
  | _ => none }
def repeatMovedRow : OpenClaim := { program := "ytjbofdgdcnfmoaa", sum := "94946d07b52d3357499eb7bd8a839d176bc4b6cf63a3c51f3b6443ae0c7fd915", func := "raddle/raddlelaw06.RepeatMoved", spec := "repeatMoved", inPlace := ["internal/bytealg.IndexByteString", "internal/abi.NoEscape"], unfollowed := true, recurses := true, apart := false }
def RepeatMovedSaid : Prop := repeatMovedRow.holds Try.pinned (OpenSpec.ofChange repeatMovedSpec)

/-- ITS FALSE NEIGHBOUR: 'it returns false'. Refute it at one input. -/
def repeatMovedWrong : ChangeSpec := { name := "repeatMoved", fn := fun _ => fun
  | [d1, d2, d3, d4] => { results := [.lit (.bool false)], args := [d1, d2, d3, d4] }
  | _ => none }
def RepeatMovedWrongFalsely : Prop := repeatMovedRow.holds Try.pinned (OpenSpec.ofChange repeatMovedWrong)

/-- 'raddlelaw07.SymmetryNames': WHATEVER THE INPUT: true; the input reads as it did. -/
def symmetryNamesSpec : ChangeSpec := { name := "symmetryNames", fn := fun _ => fun
  | [] => { results := [.lit (.bool true)], args := [] }
  | _ => none }
def symmetryNamesRow : OpenClaim := { program := "ytjbofdgdcnfmoaa", sum := "94946d07b52d3357499eb7bd8a839d176bc4b6cf63a3c51f3b6443ae0c7fd915", func := "raddle/raddlelaw07.SymmetryNames", spec := "symmetryNames", inPlace := ["internal/bytealg.IndexByteString", "internal/abi.NoEscape", "internal/bytealg.MakeNoZero", "internal/bytealg.abigen_runtime_cmpstring"], unfollowed := true, recurses := true, apart := false }
def SymmetryNamesSaid : Prop := symmetryNamesRow.holds Try.pinned (OpenSpec.ofChange symmetryNamesSpec)

/-- ITS FALSE NEIGHBOUR: 'it returns false'. Refute it at one input. -/
def symmetryNamesWrong : ChangeSpec := { name := "symmetryNames", fn := fun _ => fun
  | [] => { results := [.lit (.bool false)], args := [] }
  | _ => none }
def SymmetryNamesWrongFalsely : Prop := symmetryNamesRow.holds Try.pinned (OpenSpec.ofChange symmetryNamesWrong)

/-- 'raddlelaw07.SymmetryApplies': WHATEVER THE INPUT: true; the input reads as it did. -/
def symmetryAppliesSpec : ChangeSpec := { name := "symmetryApplies", fn := fun _ => fun
  | [d1, d2, d3] => { results := [.lit (.bool true)], args := [d1, d2, d3] }
  | _ => none }
def symmetryAppliesRow : OpenClaim := { program := "ytjbofdgdcnfmoaa", sum := "94946d07b52d3357499eb7bd8a839d176bc4b6cf63a3c51f3b6443ae0c7fd915", func := "raddle/raddlelaw07.SymmetryApplies", spec := "symmetryApplies", unfollowed := true, recurses := true, apart := false }
def SymmetryAppliesSaid : Prop := symmetryAppliesRow.holds Try.pinned (OpenSpec.ofChange symmetryAppliesSpec)

/-- ITS FALSE NEIGHBOUR: 'it returns false'. Refute it at one input. -/
def symmetryAppliesWrong : ChangeSpec := { name := "symmetryApplies", fn := fun _ => fun
  | [d1, d2, d3] => { results := [.lit (.bool false)], args := [d1, d2, d3] }
  | _ => none }
def SymmetryAppliesWrongFalsely : Prop := symmetryAppliesRow.holds Try.pinned (OpenSpec.ofChange symmetryAppliesWrong)

/-- 'raddlelaw07.SymmetryAsks': WHATEVER THE INPUT: true; the input reads as it did. -/
def symmetryAsksSpec : ChangeSpec := { name := "symmetryAsks", fn := fun _ => fun
  | [d1, d2, d3] => { results := [.lit (.bool true)], args := [d1, d2, d3] }
  | _ => none }
def symmetryAsksRow : OpenClaim := { program := "ytjbofdgdcnfmoaa", sum := "94946d07b52d3357499eb7bd8a839d176bc4b6cf63a3c51f3b6443ae0c7fd915", func := "raddle/raddlelaw07.SymmetryAsks", spec := "symmetryAsks", unfollowed := true, recurses := true, apart := false }
def SymmetryAsksSaid : Prop := symmetryAsksRow.holds Try.pinned (OpenSpec.ofChange symmetryAsksSpec)

/-- ITS FALSE NEIGHBOUR: 'it returns false'. Refute it at one input. -/
def symmetryAsksWrong : ChangeSpec := { name := "symmetryAsks", fn := fun _ => fun
  | [d1, d2, d3] => { results := [.lit (.bool false)], args := [d1, d2, d3] }
  | _ => none }
def SymmetryAsksWrongFalsely : Prop := symmetryAsksRow.holds Try.pinned (OpenSpec.ofChange symmetryAsksWrong)

/-- 'raddlelaw07.SymmetryForms': WHATEVER THE INPUT: true; the input reads as it did. -/
def symmetryFormsSpec : ChangeSpec := { name := "symmetryForms", fn := fun _ => fun
  | [d] => { results := [.lit (.bool true)], args := [d] }
  | _ => none }
def symmetryFormsRow : OpenClaim := { program := "ytjbofdgdcnfmoaa", sum := "94946d07b52d3357499eb7bd8a839d176bc4b6cf63a3c51f3b6443ae0c7fd915", func := "raddle/raddlelaw07.SymmetryForms", spec := "symmetryForms", inPlace := ["internal/abi.NoEscape", "internal/bytealg.MakeNoZero", "internal/bytealg.abigen_runtime_cmpstring"], unfollowed := true, recurses := true, apart := false }
def SymmetryFormsSaid : Prop := symmetryFormsRow.holds Try.pinned (OpenSpec.ofChange symmetryFormsSpec)

/-- ITS FALSE NEIGHBOUR: 'it returns false'. Refute it at one input. -/
def symmetryFormsWrong : ChangeSpec := { name := "symmetryForms", fn := fun _ => fun
  | [d] => { results := [.lit (.bool false)], args := [d] }
  | _ => none }
def SymmetryFormsWrongFalsely : Prop := symmetryFormsRow.holds Try.pinned (OpenSpec.ofChange symmetryFormsWrong)

/-- 'raddlelaw07.SymmetryGroup': WHATEVER THE INPUT: true; the input reads as it did. -/
def symmetryGroupSpec : ChangeSpec := { name := "symmetryGroup", fn := fun _ => fun
  | [d] => { results := [.lit (.bool true)], args := [d] }
  | _ => none }
def symmetryGroupRow : OpenClaim := { program := "ytjbofdgdcnfmoaa", sum := "94946d07b52d3357499eb7bd8a839d176bc4b6cf63a3c51f3b6443ae0c7fd915", func := "raddle/raddlelaw07.SymmetryGroup", spec := "symmetryGroup", inPlace := ["internal/bytealg.IndexByteString", "internal/abi.NoEscape", "internal/bytealg.MakeNoZero", "internal/bytealg.abigen_runtime_cmpstring"], unfollowed := true, recurses := true, apart := false }
def SymmetryGroupSaid : Prop := symmetryGroupRow.holds Try.pinned (OpenSpec.ofChange symmetryGroupSpec)

/-- ITS FALSE NEIGHBOUR: 'it returns false'. Refute it at one input. -/
def symmetryGroupWrong : ChangeSpec := { name := "symmetryGroup", fn := fun _ => fun
  | [d] => { results := [.lit (.bool false)], args := [d] }
  | _ => none }
def SymmetryGroupWrongFalsely : Prop := symmetryGroupRow.holds Try.pinned (OpenSpec.ofChange symmetryGroupWrong)

/-- 'raddlelaw07.SymmetryCompose': WHATEVER THE INPUT: true; the input reads as it did. -/
def symmetryComposeSpec : ChangeSpec := { name := "symmetryCompose", fn := fun _ => fun
  | [d1, d2, d3, d4] => { results := [.lit (.bool true)], args := [d1, d2, d3, d4] }
  | _ => none }
def symmetryComposeRow : OpenClaim := { program := "ytjbofdgdcnfmoaa", sum := "94946d07b52d3357499eb7bd8a839d176bc4b6cf63a3c51f3b6443ae0c7fd915", func := "raddle/raddlelaw07.SymmetryCompose", spec := "symmetryCompose", inPlace := ["internal/bytealg.IndexByteString", "internal/abi.NoEscape", "internal/bytealg.MakeNoZero", "internal/bytealg.abigen_runtime_cmpstring"], unfollowed := true, recurses := true, apart := false }
def SymmetryComposeSaid : Prop := symmetryComposeRow.holds Try.pinned (OpenSpec.ofChange symmetryComposeSpec)

/-- ITS FALSE NEIGHBOUR: 'it returns false'. Refute it at one input. -/
def symmetryComposeWrong : ChangeSpec := { name := "symmetryCompose", fn := fun _ => fun
  | [d1, d2, d3, d4] => { results := [.lit (.bool false)], args := [d1, d2, d3, d4] }
  | _ => none }
def SymmetryComposeWrongFalsely : Prop := symmetryComposeRow.holds Try.pinned (OpenSpec.ofChange symmetryComposeWrong)

/-- 'raddlelaw07.SymmetryAlike': WHATEVER THE INPUT: true; the input reads as it did. -/
def symmetryAlikeSpec : ChangeSpec := { name := "symmetryAlike", fn := fun _ => fun
  | [d1, d2] => { results := [.lit (.bool true)], args := [d1, d2] }
  | _ => none }
def symmetryAlikeRow : OpenClaim := { program := "ytjbofdgdcnfmoaa", sum := "94946d07b52d3357499eb7bd8a839d176bc4b6cf63a3c51f3b6443ae0c7fd915", func := "raddle/raddlelaw07.SymmetryAlike", spec := "symmetryAlike", inPlace := ["internal/bytealg.IndexByteString", "internal/abi.NoEscape", "internal/bytealg.MakeNoZero", "internal/bytealg.abigen_runtime_cmpstring"], unfollowed := true, recurses := true, apart := false }
def SymmetryAlikeSaid : Prop := symmetryAlikeRow.holds Try.pinned (OpenSpec.ofChange symmetryAlikeSpec)

/-- ITS FALSE NEIGHBOUR: 'it returns false'. Refute it at one input. -/
def symmetryAlikeWrong : ChangeSpec := { name := "symmetryAlike", fn := fun _ => fun
  | [d1, d2] => { results := [.lit (.bool false)], args := [d1, d2] }
  | _ => none }
def SymmetryAlikeWrongFalsely : Prop := symmetryAlikeRow.holds Try.pinned (OpenSpec.ofChange symmetryAlikeWrong)

/-- 'raddlelaw07.SymmetryLeast': WHATEVER THE INPUT: true; the input reads as it did. -/
def symmetryLeastSpec : ChangeSpec := { name := "symmetryLeast", fn := fun _ => fun
  | [d1, d2, d3, d4] => { results := [.lit (.bool true)], args := [d1, d2, d3, d4] }
  | _ => none }
def symmetryLeastRow : OpenClaim := { program := "ytjbofdgdcnfmoaa", sum := "94946d07b52d3357499eb7bd8a839d176bc4b6cf63a3c51f3b6443ae0c7fd915", func := "raddle/raddlelaw07.SymmetryLeast", spec := "symmetryLeast", inPlace := ["internal/bytealg.IndexByteString", "internal/abi.NoEscape", "internal/bytealg.MakeNoZero", "internal/bytealg.abigen_runtime_cmpstring"], unfollowed := true, recurses := true, apart := false }
def SymmetryLeastSaid : Prop := symmetryLeastRow.holds Try.pinned (OpenSpec.ofChange symmetryLeastSpec)

/-- ITS FALSE NEIGHBOUR: 'it returns false'. Refute it at one input. -/
def symmetryLeastWrong : ChangeSpec := { name := "symmetryLeast", fn := fun _ => fun
  | [d1, d2, d3, d4] => { results := [.lit (.bool false)], args := [d1, d2, d3, d4] }
  | _ => none }
def SymmetryLeastWrongFalsely : Prop := symmetryLeastRow.holds Try.pinned (OpenSpec.ofChange symmetryLeastWrong)

/- THE SECOND FORM. 'bulk': how many values and letters a reading holds, each counted each time it is reached (what is shared counts as often as it is met; a slice's spare places count too). A statement '..UptoSaid' is the law's where the arguments, and the package variables that the reading takes, are together of bulk at most 1048576: NARROWER than '..Said'. Prove '..Said' where nothing that the law and all that it calls make is longer than what came in: it says more and counts as full. Else prove '..UptoSaid'. A law counts once. -/
mutual
def uptoBulk {H : Type} : DataW H → Nat
  | .lit (.string bytes) => bytes.length + 1
  | .lit _ => 1
  | .nil => 1
  | .ptr d => uptoBulk d + 1
  | .slice elems spare => uptoBulkAll elems + uptoBulkAll spare + 1
  | .agg parts => uptoBulkAll parts + 1
  | .iface _ d => uptoBulk d + 1
  | .map entries => uptoBulkEntries entries + 1
  | .held _ => 1
def uptoBulkAll {H : Type} : List (DataW H) → Nat
  | [] => 0
  | d :: r => uptoBulk d + uptoBulkAll r
def uptoBulkEntries {H : Type} : List (Lit × DataW H) → Nat
  | [] => 0
  | x :: r => uptoBulkEntry x + uptoBulkEntries r
def uptoBulkEntry {H : Type} : Lit × DataW H → Nat
  | (.string bytes, d) => bytes.length + uptoBulk d + 1
  | (_, d) => uptoBulk d + 1
 end
def uptoSmall : (H : Type) → List (DataW H) → Bool := fun _ ds => decide (uptoBulkAll ds ≤ 1048576)
def OpenSpec.upto (s : _root_.Go.ChangeSpec) : _root_.Go.OpenSpec := { _root_.Go.OpenSpec.ofChange s with cond := some uptoSmall }

/-- 'raddlelaw06.RepeatNames', WHERE WHAT IT READS IS OF BULK AT MOST 1048576: true; the input reads as it did. -/
def repeatNamesUptoRow : OpenClaim := { program := "ytjbofdgdcnfmoaa", sum := "94946d07b52d3357499eb7bd8a839d176bc4b6cf63a3c51f3b6443ae0c7fd915", func := "raddle/raddlelaw06.RepeatNames", spec := "repeatNames", inPlace := ["internal/bytealg.IndexByteString", "internal/abi.NoEscape"], unfollowed := true, recurses := true, apart := false, narrowed := true }
def RepeatNamesUptoSaid : Prop := repeatNamesUptoRow.holds Try.pinned (OpenSpec.upto repeatNamesSpec)

/-- 'raddlelaw06.RepeatAsks', WHERE WHAT IT READS IS OF BULK AT MOST 1048576: true; the input reads as it did. -/
def repeatAsksUptoRow : OpenClaim := { program := "ytjbofdgdcnfmoaa", sum := "94946d07b52d3357499eb7bd8a839d176bc4b6cf63a3c51f3b6443ae0c7fd915", func := "raddle/raddlelaw06.RepeatAsks", spec := "repeatAsks", unfollowed := true, recurses := true, apart := false, narrowed := true }
def RepeatAsksUptoSaid : Prop := repeatAsksUptoRow.holds Try.pinned (OpenSpec.upto repeatAsksSpec)

/-- 'raddlelaw06.RepeatCells', WHERE WHAT IT READS IS OF BULK AT MOST 1048576: true; the input reads as it did. -/
def repeatCellsUptoRow : OpenClaim := { program := "ytjbofdgdcnfmoaa", sum := "94946d07b52d3357499eb7bd8a839d176bc4b6cf63a3c51f3b6443ae0c7fd915", func := "raddle/raddlelaw06.RepeatCells", spec := "repeatCells", unfollowed := true, recurses := true, apart := false, narrowed := true }
def RepeatCellsUptoSaid : Prop := repeatCellsUptoRow.holds Try.pinned (OpenSpec.upto repeatCellsSpec)

/-- 'raddlelaw06.RepeatExactly', WHERE WHAT IT READS IS OF BULK AT MOST 1048576: true; the input reads as it did. -/
def repeatExactlyUptoRow : OpenClaim := { program := "ytjbofdgdcnfmoaa", sum := "94946d07b52d3357499eb7bd8a839d176bc4b6cf63a3c51f3b6443ae0c7fd915", func := "raddle/raddlelaw06.RepeatExactly", spec := "repeatExactly", inPlace := ["internal/bytealg.IndexByteString", "internal/abi.NoEscape"], unfollowed := true, recurses := true, apart := false, narrowed := true }
def RepeatExactlyUptoSaid : Prop := repeatExactlyUptoRow.holds Try.pinned (OpenSpec.upto repeatExactlySpec)

/-- 'raddlelaw06.RepeatSteps', WHERE WHAT IT READS IS OF BULK AT MOST 1048576: true; the input reads as it did. -/
def repeatStepsUptoRow : OpenClaim := { program := "ytjbofdgdcnfmoaa", sum := "94946d07b52d3357499eb7bd8a839d176bc4b6cf63a3c51f3b6443ae0c7fd915", func := "raddle/raddlelaw06.RepeatSteps", spec := "repeatSteps", inPlace := ["internal/bytealg.IndexByteString", "internal/abi.NoEscape"], unfollowed := true, recurses := true, apart := false, narrowed := true }
def RepeatStepsUptoSaid : Prop := repeatStepsUptoRow.holds Try.pinned (OpenSpec.upto repeatStepsSpec)

/-- 'raddlelaw06.RepeatSpread', WHERE WHAT IT READS IS OF BULK AT MOST 1048576: true; the input reads as it did. -/
def repeatSpreadUptoRow : OpenClaim := { program := "ytjbofdgdcnfmoaa", sum := "94946d07b52d3357499eb7bd8a839d176bc4b6cf63a3c51f3b6443ae0c7fd915", func := "raddle/raddlelaw06.RepeatSpread", spec := "repeatSpread", inPlace := ["internal/bytealg.IndexByteString", "internal/abi.NoEscape"], unfollowed := true, recurses := true, apart := false, narrowed := true }
def RepeatSpreadUptoSaid : Prop := repeatSpreadUptoRow.holds Try.pinned (OpenSpec.upto repeatSpreadSpec)

/-- 'raddlelaw06.RepeatMoved', WHERE WHAT IT READS IS OF BULK AT MOST 1048576: true; the input reads as it did. -/
def repeatMovedUptoRow : OpenClaim := { program := "ytjbofdgdcnfmoaa", sum := "94946d07b52d3357499eb7bd8a839d176bc4b6cf63a3c51f3b6443ae0c7fd915", func := "raddle/raddlelaw06.RepeatMoved", spec := "repeatMoved", inPlace := ["internal/bytealg.IndexByteString", "internal/abi.NoEscape"], unfollowed := true, recurses := true, apart := false, narrowed := true }
def RepeatMovedUptoSaid : Prop := repeatMovedUptoRow.holds Try.pinned (OpenSpec.upto repeatMovedSpec)

/-- 'raddlelaw07.SymmetryNames', WHERE WHAT IT READS IS OF BULK AT MOST 1048576: true; the input reads as it did. -/
def symmetryNamesUptoRow : OpenClaim := { program := "ytjbofdgdcnfmoaa", sum := "94946d07b52d3357499eb7bd8a839d176bc4b6cf63a3c51f3b6443ae0c7fd915", func := "raddle/raddlelaw07.SymmetryNames", spec := "symmetryNames", inPlace := ["internal/bytealg.IndexByteString", "internal/abi.NoEscape", "internal/bytealg.MakeNoZero", "internal/bytealg.abigen_runtime_cmpstring"], unfollowed := true, recurses := true, apart := false, narrowed := true }
def SymmetryNamesUptoSaid : Prop := symmetryNamesUptoRow.holds Try.pinned (OpenSpec.upto symmetryNamesSpec)

/-- 'raddlelaw07.SymmetryApplies', WHERE WHAT IT READS IS OF BULK AT MOST 1048576: true; the input reads as it did. -/
def symmetryAppliesUptoRow : OpenClaim := { program := "ytjbofdgdcnfmoaa", sum := "94946d07b52d3357499eb7bd8a839d176bc4b6cf63a3c51f3b6443ae0c7fd915", func := "raddle/raddlelaw07.SymmetryApplies", spec := "symmetryApplies", unfollowed := true, recurses := true, apart := false, narrowed := true }
def SymmetryAppliesUptoSaid : Prop := symmetryAppliesUptoRow.holds Try.pinned (OpenSpec.upto symmetryAppliesSpec)

/-- 'raddlelaw07.SymmetryAsks', WHERE WHAT IT READS IS OF BULK AT MOST 1048576: true; the input reads as it did. -/
def symmetryAsksUptoRow : OpenClaim := { program := "ytjbofdgdcnfmoaa", sum := "94946d07b52d3357499eb7bd8a839d176bc4b6cf63a3c51f3b6443ae0c7fd915", func := "raddle/raddlelaw07.SymmetryAsks", spec := "symmetryAsks", unfollowed := true, recurses := true, apart := false, narrowed := true }
def SymmetryAsksUptoSaid : Prop := symmetryAsksUptoRow.holds Try.pinned (OpenSpec.upto symmetryAsksSpec)

/-- 'raddlelaw07.SymmetryForms', WHERE WHAT IT READS IS OF BULK AT MOST 1048576: true; the input reads as it did. -/
def symmetryFormsUptoRow : OpenClaim := { program := "ytjbofdgdcnfmoaa", sum := "94946d07b52d3357499eb7bd8a839d176bc4b6cf63a3c51f3b6443ae0c7fd915", func := "raddle/raddlelaw07.SymmetryForms", spec := "symmetryForms", inPlace := ["internal/abi.NoEscape", "internal/bytealg.MakeNoZero", "internal/bytealg.abigen_runtime_cmpstring"], unfollowed := true, recurses := true, apart := false, narrowed := true }
def SymmetryFormsUptoSaid : Prop := symmetryFormsUptoRow.holds Try.pinned (OpenSpec.upto symmetryFormsSpec)

/-- 'raddlelaw07.SymmetryGroup', WHERE WHAT IT READS IS OF BULK AT MOST 1048576: true; the input reads as it did. -/
def symmetryGroupUptoRow : OpenClaim := { program := "ytjbofdgdcnfmoaa", sum := "94946d07b52d3357499eb7bd8a839d176bc4b6cf63a3c51f3b6443ae0c7fd915", func := "raddle/raddlelaw07.SymmetryGroup", spec := "symmetryGroup", inPlace := ["internal/bytealg.IndexByteString", "internal/abi.NoEscape", "internal/bytealg.MakeNoZero", "internal/bytealg.abigen_runtime_cmpstring"], unfollowed := true, recurses := true, apart := false, narrowed := true }
def SymmetryGroupUptoSaid : Prop := symmetryGroupUptoRow.holds Try.pinned (OpenSpec.upto symmetryGroupSpec)

/-- 'raddlelaw07.SymmetryCompose', WHERE WHAT IT READS IS OF BULK AT MOST 1048576: true; the input reads as it did. -/
def symmetryComposeUptoRow : OpenClaim := { program := "ytjbofdgdcnfmoaa", sum := "94946d07b52d3357499eb7bd8a839d176bc4b6cf63a3c51f3b6443ae0c7fd915", func := "raddle/raddlelaw07.SymmetryCompose", spec := "symmetryCompose", inPlace := ["internal/bytealg.IndexByteString", "internal/abi.NoEscape", "internal/bytealg.MakeNoZero", "internal/bytealg.abigen_runtime_cmpstring"], unfollowed := true, recurses := true, apart := false, narrowed := true }
def SymmetryComposeUptoSaid : Prop := symmetryComposeUptoRow.holds Try.pinned (OpenSpec.upto symmetryComposeSpec)

/-- 'raddlelaw07.SymmetryAlike', WHERE WHAT IT READS IS OF BULK AT MOST 1048576: true; the input reads as it did. -/
def symmetryAlikeUptoRow : OpenClaim := { program := "ytjbofdgdcnfmoaa", sum := "94946d07b52d3357499eb7bd8a839d176bc4b6cf63a3c51f3b6443ae0c7fd915", func := "raddle/raddlelaw07.SymmetryAlike", spec := "symmetryAlike", inPlace := ["internal/bytealg.IndexByteString", "internal/abi.NoEscape", "internal/bytealg.MakeNoZero", "internal/bytealg.abigen_runtime_cmpstring"], unfollowed := true, recurses := true, apart := false, narrowed := true }
def SymmetryAlikeUptoSaid : Prop := symmetryAlikeUptoRow.holds Try.pinned (OpenSpec.upto symmetryAlikeSpec)

/-- 'raddlelaw07.SymmetryLeast', WHERE WHAT IT READS IS OF BULK AT MOST 1048576: true; the input reads as it did. -/
def symmetryLeastUptoRow : OpenClaim := { program := "ytjbofdgdcnfmoaa", sum := "94946d07b52d3357499eb7bd8a839d176bc4b6cf63a3c51f3b6443ae0c7fd915", func := "raddle/raddlelaw07.SymmetryLeast", spec := "symmetryLeast", inPlace := ["internal/bytealg.IndexByteString", "internal/abi.NoEscape", "internal/bytealg.MakeNoZero", "internal/bytealg.abigen_runtime_cmpstring"], unfollowed := true, recurses := true, apart := false, narrowed := true }
def SymmetryLeastUptoSaid : Prop := symmetryLeastUptoRow.holds Try.pinned (OpenSpec.upto symmetryLeastSpec)

end Rows
end Go.Proofs.Ytjbofdgdcnfmoaa
