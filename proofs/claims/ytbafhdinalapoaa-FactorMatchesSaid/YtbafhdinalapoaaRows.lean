/-
  No cell of these rows narrows 'for every input' (looked for: loops, veiled, ifaces, maps, wideKeys, modest, calm, conditions, laid).
  DERIVED. THE GIVEN ROWS OF THIS SEAT. 9 by the template 'for every input the law returns true; each argument reads behind the call as it read before'; 0 by the template 'total and deterministic' (their statements: YtbafhdinalapoaaTotals.lean).
  GIVEN WITH THE SEED: the statements are not yours to turn. If you find one false, say at which input.
  Laid BY PROGRAM, IN A SANDBOX (cutbox-rows.mjs): the forced cells as the released guide's own fill.sh prints them over the translation 317cc395bb5d89e4… (all of the seat's roots in one cut). By AI agents, Wed Nov 11 2026. No macro, syntax, notation, axiom, sorry.
-/
import Derived.Test.YtbafhdinalapoaaChecked
import GoSem.Claim
import GoSem.ClaimJoined
import GoSem.ClaimMapViews
import Derived.JoinedTies
import Derived.KernelRfl
namespace Go.Proofs.Ytbafhdinalapoaa
/- THE CELL 'sum', in the pinned program and in every row, IS THE sha256 OF THE DUMP (.gsa) THAT YtbafhdinalapoaaProg.lean LOADS. Nothing in Lean hashes anything: it is a label: what it is worth is what the hold of that sum in a sandbox is worth. -/
noncomputable def Try.pinned : Pinned := { name := "ytbafhdinalapoaa", sum := "317cc395bb5d89e4a26a124b4624f97e7b0eb05f927eb3fa84905b183cc29977", checked := Try.checked }
namespace Rows
def none {H : Type} : Left H := { results := [], args := [] }

/-- 'raddlelaw03.DraftNames': WHATEVER THE INPUT: true; the input reads as it did. -/
def draftNamesSpec : ChangeSpec := { name := "draftNames", fn := fun _ => fun
  | [] => { results := [.lit (.bool true)], args := [] }
  | _ => none }
def draftNamesRow : OpenClaim := { program := "ytbafhdinalapoaa", sum := "317cc395bb5d89e4a26a124b4624f97e7b0eb05f927eb3fa84905b183cc29977", func := "raddle/raddlelaw03.DraftNames", spec := "draftNames", inPlace := ["internal/bytealg.IndexByteString", "internal/abi.NoEscape"], unfollowed := true, recurses := true, plainKeys := false, apart := false }
def DraftNamesSaid : Prop := draftNamesRow.holds Try.pinned (OpenSpec.ofChange draftNamesSpec)

/-- ITS FALSE NEIGHBOUR: 'it returns false'. Refute it at one input. -/
def draftNamesWrong : ChangeSpec := { name := "draftNames", fn := fun _ => fun
  | [] => { results := [.lit (.bool false)], args := [] }
  | _ => none }
def DraftNamesWrongFalsely : Prop := draftNamesRow.holds Try.pinned (OpenSpec.ofChange draftNamesWrong)

/-- 'raddlelaw03.DraftWeaves': WHATEVER THE INPUT: true; the input reads as it did. -/
def draftWeavesSpec : ChangeSpec := { name := "draftWeaves", fn := fun _ => fun
  | [d1, d2] => { results := [.lit (.bool true)], args := [d1, d2] }
  | _ => none }
def draftWeavesRow : OpenClaim := { program := "ytbafhdinalapoaa", sum := "317cc395bb5d89e4a26a124b4624f97e7b0eb05f927eb3fa84905b183cc29977", func := "raddle/raddlelaw03.DraftWeaves", spec := "draftWeaves", unfollowed := true, recurses := true, plainKeys := false, apart := false }
def DraftWeavesSaid : Prop := draftWeavesRow.holds Try.pinned (OpenSpec.ofChange draftWeavesSpec)

/-- ITS FALSE NEIGHBOUR: 'it returns false'. Refute it at one input. -/
def draftWeavesWrong : ChangeSpec := { name := "draftWeaves", fn := fun _ => fun
  | [d1, d2] => { results := [.lit (.bool false)], args := [d1, d2] }
  | _ => none }
def DraftWeavesWrongFalsely : Prop := draftWeavesRow.holds Try.pinned (OpenSpec.ofChange draftWeavesWrong)

/-- 'raddlelaw03.DraftTurns': WHATEVER THE INPUT: true; the input reads as it did. -/
def draftTurnsSpec : ChangeSpec := { name := "draftTurns", fn := fun _ => fun
  | [d] => { results := [.lit (.bool true)], args := [d] }
  | _ => none }
def draftTurnsRow : OpenClaim := { program := "ytbafhdinalapoaa", sum := "317cc395bb5d89e4a26a124b4624f97e7b0eb05f927eb3fa84905b183cc29977", func := "raddle/raddlelaw03.DraftTurns", spec := "draftTurns", unfollowed := true, recurses := true, plainKeys := false, apart := false }
def DraftTurnsSaid : Prop := draftTurnsRow.holds Try.pinned (OpenSpec.ofChange draftTurnsSpec)

/-- ITS FALSE NEIGHBOUR: 'it returns false'. Refute it at one input. -/
def draftTurnsWrong : ChangeSpec := { name := "draftTurns", fn := fun _ => fun
  | [d] => { results := [.lit (.bool false)], args := [d] }
  | _ => none }
def DraftTurnsWrongFalsely : Prop := draftTurnsRow.holds Try.pinned (OpenSpec.ofChange draftTurnsWrong)

/-- 'raddlelaw03.DraftMakes': WHATEVER THE INPUT: true; the input reads as it did. -/
def draftMakesSpec : ChangeSpec := { name := "draftMakes", fn := fun _ => fun
  | [d1, d2, d3, d4] => { results := [.lit (.bool true)], args := [d1, d2, d3, d4] }
  | _ => none }
def draftMakesRow : OpenClaim := { program := "ytbafhdinalapoaa", sum := "317cc395bb5d89e4a26a124b4624f97e7b0eb05f927eb3fa84905b183cc29977", func := "raddle/raddlelaw03.DraftMakes", spec := "draftMakes", unfollowed := true, recurses := true, plainKeys := false, apart := false }
def DraftMakesSaid : Prop := draftMakesRow.holds Try.pinned (OpenSpec.ofChange draftMakesSpec)

/-- ITS FALSE NEIGHBOUR: 'it returns false'. Refute it at one input. -/
def draftMakesWrong : ChangeSpec := { name := "draftMakes", fn := fun _ => fun
  | [d1, d2, d3, d4] => { results := [.lit (.bool false)], args := [d1, d2, d3, d4] }
  | _ => none }
def DraftMakesWrongFalsely : Prop := draftMakesRow.holds Try.pinned (OpenSpec.ofChange draftMakesWrong)

/-- 'raddlelaw03.DraftProduct': WHATEVER THE INPUT: true; the input reads as it did. -/
def draftProductSpec : ChangeSpec := { name := "draftProduct", fn := fun _ => fun
  | [d] => { results := [.lit (.bool true)], args := [d] }
  | _ => none }
def draftProductRow : OpenClaim := { program := "ytbafhdinalapoaa", sum := "317cc395bb5d89e4a26a124b4624f97e7b0eb05f927eb3fa84905b183cc29977", func := "raddle/raddlelaw03.DraftProduct", spec := "draftProduct", inPlace := ["internal/abi.NoEscape"], unfollowed := true, recurses := true, plainKeys := false, apart := false }
def DraftProductSaid : Prop := draftProductRow.holds Try.pinned (OpenSpec.ofChange draftProductSpec)

/-- ITS FALSE NEIGHBOUR: 'it returns false'. Refute it at one input. -/
def draftProductWrong : ChangeSpec := { name := "draftProduct", fn := fun _ => fun
  | [d] => { results := [.lit (.bool false)], args := [d] }
  | _ => none }
def DraftProductWrongFalsely : Prop := draftProductRow.holds Try.pinned (OpenSpec.ofChange draftProductWrong)

/-- 'raddlelaw03.DraftTurned': WHATEVER THE INPUT: true; the input reads as it did. -/
def draftTurnedSpec : ChangeSpec := { name := "draftTurned", fn := fun _ => fun
  | [d] => { results := [.lit (.bool true)], args := [d] }
  | _ => none }
def draftTurnedRow : OpenClaim := { program := "ytbafhdinalapoaa", sum := "317cc395bb5d89e4a26a124b4624f97e7b0eb05f927eb3fa84905b183cc29977", func := "raddle/raddlelaw03.DraftTurned", spec := "draftTurned", inPlace := ["internal/abi.NoEscape"], unfollowed := true, recurses := true, plainKeys := false, apart := false }
def DraftTurnedSaid : Prop := draftTurnedRow.holds Try.pinned (OpenSpec.ofChange draftTurnedSpec)

/-- ITS FALSE NEIGHBOUR: 'it returns false'. Refute it at one input. -/
def draftTurnedWrong : ChangeSpec := { name := "draftTurned", fn := fun _ => fun
  | [d] => { results := [.lit (.bool false)], args := [d] }
  | _ => none }
def DraftTurnedWrongFalsely : Prop := draftTurnedRow.holds Try.pinned (OpenSpec.ofChange draftTurnedWrong)

/-- 'raddlelaw03.DraftKept': WHATEVER THE INPUT: true; the input reads as it did. -/
def draftKeptSpec : ChangeSpec := { name := "draftKept", fn := fun _ => fun
  | [d1, d2, d3] => { results := [.lit (.bool true)], args := [d1, d2, d3] }
  | _ => none }
def draftKeptRow : OpenClaim := { program := "ytbafhdinalapoaa", sum := "317cc395bb5d89e4a26a124b4624f97e7b0eb05f927eb3fa84905b183cc29977", func := "raddle/raddlelaw03.DraftKept", spec := "draftKept", inPlace := ["internal/abi.NoEscape"], unfollowed := true, recurses := true, plainKeys := false, apart := false }
def DraftKeptSaid : Prop := draftKeptRow.holds Try.pinned (OpenSpec.ofChange draftKeptSpec)

/-- ITS FALSE NEIGHBOUR: 'it returns false'. Refute it at one input. -/
def draftKeptWrong : ChangeSpec := { name := "draftKept", fn := fun _ => fun
  | [d1, d2, d3] => { results := [.lit (.bool false)], args := [d1, d2, d3] }
  | _ => none }
def DraftKeptWrongFalsely : Prop := draftKeptRow.holds Try.pinned (OpenSpec.ofChange draftKeptWrong)

/-- 'raddlelaw03.DraftLifts': WHATEVER THE INPUT: true; the input reads as it did. -/
def draftLiftsSpec : ChangeSpec := { name := "draftLifts", fn := fun _ => fun
  | [d] => { results := [.lit (.bool true)], args := [d] }
  | _ => none }
def draftLiftsRow : OpenClaim := { program := "ytbafhdinalapoaa", sum := "317cc395bb5d89e4a26a124b4624f97e7b0eb05f927eb3fa84905b183cc29977", func := "raddle/raddlelaw03.DraftLifts", spec := "draftLifts", inPlace := ["internal/abi.NoEscape"], unfollowed := true, recurses := true, plainKeys := false, apart := false }
def DraftLiftsSaid : Prop := draftLiftsRow.holds Try.pinned (OpenSpec.ofChange draftLiftsSpec)

/-- ITS FALSE NEIGHBOUR: 'it returns false'. Refute it at one input. -/
def draftLiftsWrong : ChangeSpec := { name := "draftLifts", fn := fun _ => fun
  | [d] => { results := [.lit (.bool false)], args := [d] }
  | _ => none }
def DraftLiftsWrongFalsely : Prop := draftLiftsRow.holds Try.pinned (OpenSpec.ofChange draftLiftsWrong)

/-- 'raddlelaw04.FactorMatches': WHATEVER THE INPUT: true; the input reads as it did. -/
def factorMatchesSpec : ChangeSpec := { name := "factorMatches", fn := fun _ => fun
  | [d1, d2] => { results := [.lit (.bool true)], args := [d1, d2] }
  | _ => none }
def factorMatchesRow : OpenClaim := { program := "ytbafhdinalapoaa", sum := "317cc395bb5d89e4a26a124b4624f97e7b0eb05f927eb3fa84905b183cc29977", func := "raddle/raddlelaw04.FactorMatches", spec := "factorMatches", unfollowed := true, recurses := true, plainKeys := false, apart := false }
def FactorMatchesSaid : Prop := factorMatchesRow.holds Try.pinned (OpenSpec.ofChange factorMatchesSpec)

/-- ITS FALSE NEIGHBOUR: 'it returns false'. Refute it at one input. -/
def factorMatchesWrong : ChangeSpec := { name := "factorMatches", fn := fun _ => fun
  | [d1, d2] => { results := [.lit (.bool false)], args := [d1, d2] }
  | _ => none }
def FactorMatchesWrongFalsely : Prop := factorMatchesRow.holds Try.pinned (OpenSpec.ofChange factorMatchesWrong)

/- THE SECOND FORM. 'bulk': how many values and letters a reading holds, each counted each time it is reached (what is shared counts as often as it is met; a slice's spare places count too). A statement '..UptoSaid' is the law's where the arguments, and the package variables that the reading takes, are together of bulk at most 1048576: NARROWER than '..Said'. Prove '..Said' where nothing that the law and all that it calls make is longer than what came in: it says more and counts as full. Else prove '..UptoSaid'. A law counts once. -/
mutual
def uptoBulk {H : Type} : DataW H → Nat
  | .lit (.string bytes) => bytes.length + 1
  | .lit _ => 1
  | .nil => 1
  | .ptr d => uptoBulk d + 1
  | .slice elems spare => uptoBulkAll elems + uptoBulkAll spare + 1
  | .agg parts => uptoBulkAll parts + 1
  | .iface _ d => uptoBulk d + 1
  | .map entries => uptoBulkEntries entries + 1
  | .held _ => 1
def uptoBulkAll {H : Type} : List (DataW H) → Nat
  | [] => 0
  | d :: r => uptoBulk d + uptoBulkAll r
def uptoBulkEntries {H : Type} : List (Lit × DataW H) → Nat
  | [] => 0
  | x :: r => uptoBulkEntry x + uptoBulkEntries r
def uptoBulkEntry {H : Type} : Lit × DataW H → Nat
  | (.string bytes, d) => bytes.length + uptoBulk d + 1
  | (_, d) => uptoBulk d + 1
 end
def uptoSmall : (H : Type) → List (DataW H) → Bool := fun _ ds => decide (uptoBulkAll ds ≤ 1048576)
def OpenSpec.upto (s : _root_.Go.ChangeSpec) : _root_.Go.OpenSpec := { _root_.Go.OpenSpec.ofChange s with cond := some uptoSmall }

/-- 'raddlelaw03.DraftNames', WHERE WHAT IT READS IS OF BULK AT MOST 1048576: true; the input reads as it did. -/
def draftNamesUptoRow : OpenClaim := { program := "ytbafhdinalapoaa", sum := "317cc395bb5d89e4a26a124b4624f97e7b0eb05f927eb3fa84905b183cc29977", func := "raddle/raddlelaw03.DraftNames", spec := "draftNames", inPlace := ["internal/bytealg.IndexByteString", "internal/abi.NoEscape"], unfollowed := true, recurses := true, plainKeys := false, apart := false, narrowed := true }
def DraftNamesUptoSaid : Prop := draftNamesUptoRow.holds Try.pinned (OpenSpec.upto draftNamesSpec)

/-- 'raddlelaw03.DraftWeaves', WHERE WHAT IT READS IS OF BULK AT MOST 1048576: true; the input reads as it did. -/
def draftWeavesUptoRow : OpenClaim := { program := "ytbafhdinalapoaa", sum := "317cc395bb5d89e4a26a124b4624f97e7b0eb05f927eb3fa84905b183cc29977", func := "raddle/raddlelaw03.DraftWeaves", spec := "draftWeaves", unfollowed := true, recurses := true, plainKeys := false, apart := false, narrowed := true }
def DraftWeavesUptoSaid : Prop := draftWeavesUptoRow.holds Try.pinned (OpenSpec.upto draftWeavesSpec)

/-- 'raddlelaw03.DraftTurns', WHERE WHAT IT READS IS OF BULK AT MOST 1048576: true; the input reads as it did. -/
def draftTurnsUptoRow : OpenClaim := { program := "ytbafhdinalapoaa", sum := "317cc395bb5d89e4a26a124b4624f97e7b0eb05f927eb3fa84905b183cc29977", func := "raddle/raddlelaw03.DraftTurns", spec := "draftTurns", unfollowed := true, recurses := true, plainKeys := false, apart := false, narrowed := true }
def DraftTurnsUptoSaid : Prop := draftTurnsUptoRow.holds Try.pinned (OpenSpec.upto draftTurnsSpec)

/-- 'raddlelaw03.DraftMakes', WHERE WHAT IT READS IS OF BULK AT MOST 1048576: true; the input reads as it did. -/
def draftMakesUptoRow : OpenClaim := { program := "ytbafhdinalapoaa", sum := "317cc395bb5d89e4a26a124b4624f97e7b0eb05f927eb3fa84905b183cc29977", func := "raddle/raddlelaw03.DraftMakes", spec := "draftMakes", unfollowed := true, recurses := true, plainKeys := false, apart := false, narrowed := true }
def DraftMakesUptoSaid : Prop := draftMakesUptoRow.holds Try.pinned (OpenSpec.upto draftMakesSpec)

/-- 'raddlelaw03.DraftProduct', WHERE WHAT IT READS IS OF BULK AT MOST 1048576: true; the input reads as it did. -/
def draftProductUptoRow : OpenClaim := { program := "ytbafhdinalapoaa", sum := "317cc395bb5d89e4a26a124b4624f97e7b0eb05f927eb3fa84905b183cc29977", func := "raddle/raddlelaw03.DraftProduct", spec := "draftProduct", inPlace := ["internal/abi.NoEscape"], unfollowed := true, recurses := true, plainKeys := false, apart := false, narrowed := true }
def DraftProductUptoSaid : Prop := draftProductUptoRow.holds Try.pinned (OpenSpec.upto draftProductSpec)

/-- 'raddlelaw03.DraftTurned', WHERE WHAT IT READS IS OF BULK AT MOST 1048576: true; the input reads as it did. -/
def draftTurnedUptoRow : OpenClaim := { program := "ytbafhdinalapoaa", sum := "317cc395bb5d89e4a26a124b4624f97e7b0eb05f927eb3fa84905b183cc29977", func := "raddle/raddlelaw03.DraftTurned", spec := "draftTurned", inPlace := ["internal/abi.NoEscape"], unfollowed := true, recurses := true, plainKeys := false, apart := false, narrowed := true }
def DraftTurnedUptoSaid : Prop := draftTurnedUptoRow.holds Try.pinned (OpenSpec.upto draftTurnedSpec)

/-- 'raddlelaw03.DraftKept', WHERE WHAT IT READS IS OF BULK AT MOST 1048576: true; the input reads as it did. -/
def draftKeptUptoRow : OpenClaim := { program := "ytbafhdinalapoaa", sum := "317cc395bb5d89e4a26a124b4624f97e7b0eb05f927eb3fa84905b183cc29977", func := "raddle/raddlelaw03.DraftKept", spec := "draftKept", inPlace := ["internal/abi.NoEscape"], unfollowed := true, recurses := true, plainKeys := false, apart := false, narrowed := true }
def DraftKeptUptoSaid : Prop := draftKeptUptoRow.holds Try.pinned (OpenSpec.upto draftKeptSpec)

/-- 'raddlelaw03.DraftLifts', WHERE WHAT IT READS IS OF BULK AT MOST 1048576: true; the input reads as it did. -/
def draftLiftsUptoRow : OpenClaim := { program := "ytbafhdinalapoaa", sum := "317cc395bb5d89e4a26a124b4624f97e7b0eb05f927eb3fa84905b183cc29977", func := "raddle/raddlelaw03.DraftLifts", spec := "draftLifts", inPlace := ["internal/abi.NoEscape"], unfollowed := true, recurses := true, plainKeys := false, apart := false, narrowed := true }
def DraftLiftsUptoSaid : Prop := draftLiftsUptoRow.holds Try.pinned (OpenSpec.upto draftLiftsSpec)

/-- 'raddlelaw04.FactorMatches', WHERE WHAT IT READS IS OF BULK AT MOST 1048576: true; the input reads as it did. -/
def factorMatchesUptoRow : OpenClaim := { program := "ytbafhdinalapoaa", sum := "317cc395bb5d89e4a26a124b4624f97e7b0eb05f927eb3fa84905b183cc29977", func := "raddle/raddlelaw04.FactorMatches", spec := "factorMatches", unfollowed := true, recurses := true, plainKeys := false, apart := false, narrowed := true }
def FactorMatchesUptoSaid : Prop := factorMatchesUptoRow.holds Try.pinned (OpenSpec.upto factorMatchesSpec)

end Rows
end Go.Proofs.Ytbafhdinalapoaa
