/-
  No cell of these rows narrows 'for every input' (looked for: loops, veiled, ifaces, maps, wideKeys, modest, calm, conditions, laid).
  DERIVED. THE GIVEN ROWS OF THIS SEAT. 8 by the template 'for every input the law returns true; each argument reads behind the call as it read before'; 0 by the template 'total and deterministic' (their statements: YtnamjpdbadjgpaaTotals.lean).
  GIVEN WITH THE SEED: the statements are not yours to turn. If you find one false, say at which input.
  Laid BY PROGRAM, IN A SANDBOX (cutbox-rows.mjs): the forced cells as the released guide's own fill.sh prints them over the translation afe3f549475e9b5b… (all of the seat's roots in one cut). By AI agents, Wed Nov 11 2026. No macro, syntax, notation, axiom, sorry.
-/
import Derived.Test.YtnamjpdbadjgpaaChecked
import GoSem.Claim
import GoSem.ClaimJoined
import GoSem.ClaimMapViews
import Derived.JoinedTies
import Derived.KernelRfl
namespace Go.Proofs.Ytnamjpdbadjgpaa
/- THE CELL 'sum', in the pinned program and in every row, IS THE sha256 OF THE DUMP (.gsa) THAT YtnamjpdbadjgpaaProg.lean LOADS. Nothing in Lean hashes anything: it is a label: what it is worth is what the hold of that sum in a sandbox is worth. -/
noncomputable def Try.pinned : Pinned := { name := "ytnamjpdbadjgpaa", sum := "afe3f549475e9b5b1c50e1483caf81d367da82d1d5a441f364f33dabf1ec56fa", checked := Try.checked }
namespace Rows
def none {H : Type} : Left H := { results := [], args := [] }

/-- 'raddlelaw01.GridNames': WHATEVER THE INPUT: true; the input reads as it did. -/
def gridNamesSpec : ChangeSpec := { name := "gridNames", fn := fun _ => fun
  | [] => { results := [.lit (.bool true)], args := [] }
  | _ => none }
def gridNamesRow : OpenClaim := { program := "ytnamjpdbadjgpaa", sum := "afe3f549475e9b5b1c50e1483caf81d367da82d1d5a441f364f33dabf1ec56fa", func := "raddle/raddlelaw01.GridNames", spec := "gridNames", inPlace := ["internal/abi.NoEscape", "internal/bytealg.IndexByteString"], unfollowed := true, recurses := true, apart := false }
def GridNamesSaid : Prop := gridNamesRow.holds Try.pinned (OpenSpec.ofChange gridNamesSpec)

/-- ITS FALSE NEIGHBOUR: 'it returns false'. Refute it at one input. -/
def gridNamesWrong : ChangeSpec := { name := "gridNames", fn := fun _ => fun
  | [] => { results := [.lit (.bool false)], args := [] }
  | _ => none }
def GridNamesWrongFalsely : Prop := gridNamesRow.holds Try.pinned (OpenSpec.ofChange gridNamesWrong)

/-- 'raddlelaw01.GridChecks': WHATEVER THE INPUT: true; the input reads as it did. -/
def gridChecksSpec : ChangeSpec := { name := "gridChecks", fn := fun _ => fun
  | [d1, d2, d3] => { results := [.lit (.bool true)], args := [d1, d2, d3] }
  | _ => none }
def gridChecksRow : OpenClaim := { program := "ytnamjpdbadjgpaa", sum := "afe3f549475e9b5b1c50e1483caf81d367da82d1d5a441f364f33dabf1ec56fa", func := "raddle/raddlelaw01.GridChecks", spec := "gridChecks", inPlace := ["internal/abi.NoEscape", "internal/bytealg.IndexByteString"], unfollowed := true, recurses := true, apart := false }
def GridChecksSaid : Prop := gridChecksRow.holds Try.pinned (OpenSpec.ofChange gridChecksSpec)

/-- ITS FALSE NEIGHBOUR: 'it returns false'. Refute it at one input. -/
def gridChecksWrong : ChangeSpec := { name := "gridChecks", fn := fun _ => fun
  | [d1, d2, d3] => { results := [.lit (.bool false)], args := [d1, d2, d3] }
  | _ => none }
def GridChecksWrongFalsely : Prop := gridChecksRow.holds Try.pinned (OpenSpec.ofChange gridChecksWrong)

/-- 'raddlelaw01.GridMoves': WHATEVER THE INPUT: true; the input reads as it did. -/
def gridMovesSpec : ChangeSpec := { name := "gridMoves", fn := fun _ => fun
  | [d1, d2, d3, d4, d5] => { results := [.lit (.bool true)], args := [d1, d2, d3, d4, d5] }
  | _ => none }
def gridMovesRow : OpenClaim := { program := "ytnamjpdbadjgpaa", sum := "afe3f549475e9b5b1c50e1483caf81d367da82d1d5a441f364f33dabf1ec56fa", func := "raddle/raddlelaw01.GridMoves", spec := "gridMoves", unfollowed := true, recurses := true, apart := false }
def GridMovesSaid : Prop := gridMovesRow.holds Try.pinned (OpenSpec.ofChange gridMovesSpec)

/-- ITS FALSE NEIGHBOUR: 'it returns false'. Refute it at one input. -/
def gridMovesWrong : ChangeSpec := { name := "gridMoves", fn := fun _ => fun
  | [d1, d2, d3, d4, d5] => { results := [.lit (.bool false)], args := [d1, d2, d3, d4, d5] }
  | _ => none }
def GridMovesWrongFalsely : Prop := gridMovesRow.holds Try.pinned (OpenSpec.ofChange gridMovesWrong)

/-- 'raddlelaw01.GridLogic': WHATEVER THE INPUT: true; the input reads as it did. -/
def gridLogicSpec : ChangeSpec := { name := "gridLogic", fn := fun _ => fun
  | [d1, d2] => { results := [.lit (.bool true)], args := [d1, d2] }
  | _ => none }
def gridLogicRow : OpenClaim := { program := "ytnamjpdbadjgpaa", sum := "afe3f549475e9b5b1c50e1483caf81d367da82d1d5a441f364f33dabf1ec56fa", func := "raddle/raddlelaw01.GridLogic", spec := "gridLogic", unfollowed := true, recurses := true, apart := false }
def GridLogicSaid : Prop := gridLogicRow.holds Try.pinned (OpenSpec.ofChange gridLogicSpec)

/-- ITS FALSE NEIGHBOUR: 'it returns false'. Refute it at one input. -/
def gridLogicWrong : ChangeSpec := { name := "gridLogic", fn := fun _ => fun
  | [d1, d2] => { results := [.lit (.bool false)], args := [d1, d2] }
  | _ => none }
def GridLogicWrongFalsely : Prop := gridLogicRow.holds Try.pinned (OpenSpec.ofChange gridLogicWrong)

/-- 'raddlelaw01.GridBack': WHATEVER THE INPUT: true; the input reads as it did. -/
def gridBackSpec : ChangeSpec := { name := "gridBack", fn := fun _ => fun
  | [d1, d2] => { results := [.lit (.bool true)], args := [d1, d2] }
  | _ => none }
def gridBackRow : OpenClaim := { program := "ytnamjpdbadjgpaa", sum := "afe3f549475e9b5b1c50e1483caf81d367da82d1d5a441f364f33dabf1ec56fa", func := "raddle/raddlelaw01.GridBack", spec := "gridBack", inPlace := ["internal/abi.NoEscape", "internal/bytealg.IndexByteString"], unfollowed := true, recurses := true, apart := false }
def GridBackSaid : Prop := gridBackRow.holds Try.pinned (OpenSpec.ofChange gridBackSpec)

/-- ITS FALSE NEIGHBOUR: 'it returns false'. Refute it at one input. -/
def gridBackWrong : ChangeSpec := { name := "gridBack", fn := fun _ => fun
  | [d1, d2] => { results := [.lit (.bool false)], args := [d1, d2] }
  | _ => none }
def GridBackWrongFalsely : Prop := gridBackRow.holds Try.pinned (OpenSpec.ofChange gridBackWrong)

/-- 'raddlelaw01.GridUndo': WHATEVER THE INPUT: true; the input reads as it did. -/
def gridUndoSpec : ChangeSpec := { name := "gridUndo", fn := fun _ => fun
  | [d1, d2, d3, d4, d5] => { results := [.lit (.bool true)], args := [d1, d2, d3, d4, d5] }
  | _ => none }
def gridUndoRow : OpenClaim := { program := "ytnamjpdbadjgpaa", sum := "afe3f549475e9b5b1c50e1483caf81d367da82d1d5a441f364f33dabf1ec56fa", func := "raddle/raddlelaw01.GridUndo", spec := "gridUndo", inPlace := ["internal/abi.NoEscape", "internal/bytealg.IndexByteString"], unfollowed := true, recurses := true, apart := false }
def GridUndoSaid : Prop := gridUndoRow.holds Try.pinned (OpenSpec.ofChange gridUndoSpec)

/-- ITS FALSE NEIGHBOUR: 'it returns false'. Refute it at one input. -/
def gridUndoWrong : ChangeSpec := { name := "gridUndo", fn := fun _ => fun
  | [d1, d2, d3, d4, d5] => { results := [.lit (.bool false)], args := [d1, d2, d3, d4, d5] }
  | _ => none }
def GridUndoWrongFalsely : Prop := gridUndoRow.holds Try.pinned (OpenSpec.ofChange gridUndoWrong)

/-- 'raddlelaw01.GridExchange': WHATEVER THE INPUT: true; the input reads as it did. -/
def gridExchangeSpec : ChangeSpec := { name := "gridExchange", fn := fun _ => fun
  | [d1, d2, d3] => { results := [.lit (.bool true)], args := [d1, d2, d3] }
  | _ => none }
def gridExchangeRow : OpenClaim := { program := "ytnamjpdbadjgpaa", sum := "afe3f549475e9b5b1c50e1483caf81d367da82d1d5a441f364f33dabf1ec56fa", func := "raddle/raddlelaw01.GridExchange", spec := "gridExchange", inPlace := ["internal/abi.NoEscape", "internal/bytealg.IndexByteString"], unfollowed := true, recurses := true, apart := false }
def GridExchangeSaid : Prop := gridExchangeRow.holds Try.pinned (OpenSpec.ofChange gridExchangeSpec)

/-- ITS FALSE NEIGHBOUR: 'it returns false'. Refute it at one input. -/
def gridExchangeWrong : ChangeSpec := { name := "gridExchange", fn := fun _ => fun
  | [d1, d2, d3] => { results := [.lit (.bool false)], args := [d1, d2, d3] }
  | _ => none }
def GridExchangeWrongFalsely : Prop := gridExchangeRow.holds Try.pinned (OpenSpec.ofChange gridExchangeWrong)

/-- 'raddlelaw01.GridAlgebra': WHATEVER THE INPUT: true; the input reads as it did. -/
def gridAlgebraSpec : ChangeSpec := { name := "gridAlgebra", fn := fun _ => fun
  | [d1, d2, d3, d4] => { results := [.lit (.bool true)], args := [d1, d2, d3, d4] }
  | _ => none }
def gridAlgebraRow : OpenClaim := { program := "ytnamjpdbadjgpaa", sum := "afe3f549475e9b5b1c50e1483caf81d367da82d1d5a441f364f33dabf1ec56fa", func := "raddle/raddlelaw01.GridAlgebra", spec := "gridAlgebra", inPlace := ["internal/abi.NoEscape", "internal/bytealg.IndexByteString"], unfollowed := true, recurses := true, apart := false }
def GridAlgebraSaid : Prop := gridAlgebraRow.holds Try.pinned (OpenSpec.ofChange gridAlgebraSpec)

/-- ITS FALSE NEIGHBOUR: 'it returns false'. Refute it at one input. -/
def gridAlgebraWrong : ChangeSpec := { name := "gridAlgebra", fn := fun _ => fun
  | [d1, d2, d3, d4] => { results := [.lit (.bool false)], args := [d1, d2, d3, d4] }
  | _ => none }
def GridAlgebraWrongFalsely : Prop := gridAlgebraRow.holds Try.pinned (OpenSpec.ofChange gridAlgebraWrong)

/- THE SECOND FORM. 'bulk': how many values and letters a reading holds, each counted each time it is reached (what is shared counts as often as it is met; a slice's spare places count too). A statement '..UptoSaid' is the law's where the arguments, and the package variables that the reading takes, are together of bulk at most 1048576: NARROWER than '..Said'. Prove '..Said' where nothing that the law and all that it calls make is longer than what came in: it says more and counts as full. Else prove '..UptoSaid'. A law counts once. -/
mutual
def uptoBulk {H : Type} : DataW H → Nat
  | .lit (.string bytes) => bytes.length + 1
  | .lit _ => 1
  | .nil => 1
  | .ptr d => uptoBulk d + 1
  | .slice elems spare => uptoBulkAll elems + uptoBulkAll spare + 1
  | .agg parts => uptoBulkAll parts + 1
  | .iface _ d => uptoBulk d + 1
  | .map entries => uptoBulkEntries entries + 1
  | .held _ => 1
def uptoBulkAll {H : Type} : List (DataW H) → Nat
  | [] => 0
  | d :: r => uptoBulk d + uptoBulkAll r
def uptoBulkEntries {H : Type} : List (Lit × DataW H) → Nat
  | [] => 0
  | x :: r => uptoBulkEntry x + uptoBulkEntries r
def uptoBulkEntry {H : Type} : Lit × DataW H → Nat
  | (.string bytes, d) => bytes.length + uptoBulk d + 1
  | (_, d) => uptoBulk d + 1
 end
def uptoSmall : (H : Type) → List (DataW H) → Bool := fun _ ds => decide (uptoBulkAll ds ≤ 1048576)
def OpenSpec.upto (s : _root_.Go.ChangeSpec) : _root_.Go.OpenSpec := { _root_.Go.OpenSpec.ofChange s with cond := some uptoSmall }

/-- 'raddlelaw01.GridNames', WHERE WHAT IT READS IS OF BULK AT MOST 1048576: true; the input reads as it did. -/
def gridNamesUptoRow : OpenClaim := { program := "ytnamjpdbadjgpaa", sum := "afe3f549475e9b5b1c50e1483caf81d367da82d1d5a441f364f33dabf1ec56fa", func := "raddle/raddlelaw01.GridNames", spec := "gridNames", inPlace := ["internal/abi.NoEscape", "internal/bytealg.IndexByteString"], unfollowed := true, recurses := true, apart := false, narrowed := true }
def GridNamesUptoSaid : Prop := gridNamesUptoRow.holds Try.pinned (OpenSpec.upto gridNamesSpec)

/-- 'raddlelaw01.GridChecks', WHERE WHAT IT READS IS OF BULK AT MOST 1048576: true; the input reads as it did. -/
def gridChecksUptoRow : OpenClaim := { program := "ytnamjpdbadjgpaa", sum := "afe3f549475e9b5b1c50e1483caf81d367da82d1d5a441f364f33dabf1ec56fa", func := "raddle/raddlelaw01.GridChecks", spec := "gridChecks", inPlace := ["internal/abi.NoEscape", "internal/bytealg.IndexByteString"], unfollowed := true, recurses := true, apart := false, narrowed := true }
def GridChecksUptoSaid : Prop := gridChecksUptoRow.holds Try.pinned (OpenSpec.upto gridChecksSpec)

/-- 'raddlelaw01.GridMoves', WHERE WHAT IT READS IS OF BULK AT MOST 1048576: true; the input reads as it did. -/
def gridMovesUptoRow : OpenClaim := { program := "ytnamjpdbadjgpaa", sum := "afe3f549475e9b5b1c50e1483caf81d367da82d1d5a441f364f33dabf1ec56fa", func := "raddle/raddlelaw01.GridMoves", spec := "gridMoves", unfollowed := true, recurses := true, apart := false, narrowed := true }
def GridMovesUptoSaid : Prop := gridMovesUptoRow.holds Try.pinned (OpenSpec.upto gridMovesSpec)

/-- 'raddlelaw01.GridLogic', WHERE WHAT IT READS IS OF BULK AT MOST 1048576: true; the input reads as it did. -/
def gridLogicUptoRow : OpenClaim := { program := "ytnamjpdbadjgpaa", sum := "afe3f549475e9b5b1c50e1483caf81d367da82d1d5a441f364f33dabf1ec56fa", func := "raddle/raddlelaw01.GridLogic", spec := "gridLogic", unfollowed := true, recurses := true, apart := false, narrowed := true }
def GridLogicUptoSaid : Prop := gridLogicUptoRow.holds Try.pinned (OpenSpec.upto gridLogicSpec)

/-- 'raddlelaw01.GridBack', WHERE WHAT IT READS IS OF BULK AT MOST 1048576: true; the input reads as it did. -/
def gridBackUptoRow : OpenClaim := { program := "ytnamjpdbadjgpaa", sum := "afe3f549475e9b5b1c50e1483caf81d367da82d1d5a441f364f33dabf1ec56fa", func := "raddle/raddlelaw01.GridBack", spec := "gridBack", inPlace := ["internal/abi.NoEscape", "internal/bytealg.IndexByteString"], unfollowed := true, recurses := true, apart := false, narrowed := true }
def GridBackUptoSaid : Prop := gridBackUptoRow.holds Try.pinned (OpenSpec.upto gridBackSpec)

/-- 'raddlelaw01.GridUndo', WHERE WHAT IT READS IS OF BULK AT MOST 1048576: true; the input reads as it did. -/
def gridUndoUptoRow : OpenClaim := { program := "ytnamjpdbadjgpaa", sum := "afe3f549475e9b5b1c50e1483caf81d367da82d1d5a441f364f33dabf1ec56fa", func := "raddle/raddlelaw01.GridUndo", spec := "gridUndo", inPlace := ["internal/abi.NoEscape", "internal/bytealg.IndexByteString"], unfollowed := true, recurses := true, apart := false, narrowed := true }
def GridUndoUptoSaid : Prop := gridUndoUptoRow.holds Try.pinned (OpenSpec.upto gridUndoSpec)

/-- 'raddlelaw01.GridExchange', WHERE WHAT IT READS IS OF BULK AT MOST 1048576: true; the input reads as it did. -/
def gridExchangeUptoRow : OpenClaim := { program := "ytnamjpdbadjgpaa", sum := "afe3f549475e9b5b1c50e1483caf81d367da82d1d5a441f364f33dabf1ec56fa", func := "raddle/raddlelaw01.GridExchange", spec := "gridExchange", inPlace := ["internal/abi.NoEscape", "internal/bytealg.IndexByteString"], unfollowed := true, recurses := true, apart := false, narrowed := true }
def GridExchangeUptoSaid : Prop := gridExchangeUptoRow.holds Try.pinned (OpenSpec.upto gridExchangeSpec)

/-- 'raddlelaw01.GridAlgebra', WHERE WHAT IT READS IS OF BULK AT MOST 1048576: true; the input reads as it did. -/
def gridAlgebraUptoRow : OpenClaim := { program := "ytnamjpdbadjgpaa", sum := "afe3f549475e9b5b1c50e1483caf81d367da82d1d5a441f364f33dabf1ec56fa", func := "raddle/raddlelaw01.GridAlgebra", spec := "gridAlgebra", inPlace := ["internal/abi.NoEscape", "internal/bytealg.IndexByteString"], unfollowed := true, recurses := true, apart := false, narrowed := true }
def GridAlgebraUptoSaid : Prop := gridAlgebraUptoRow.holds Try.pinned (OpenSpec.upto gridAlgebraSpec)

end Rows
end Go.Proofs.Ytnamjpdbadjgpaa
