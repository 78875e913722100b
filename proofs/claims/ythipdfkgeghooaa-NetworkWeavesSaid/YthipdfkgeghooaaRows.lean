/-
  No cell of these rows narrows 'for every input' (looked for: loops, veiled, ifaces, maps, wideKeys, modest, calm, conditions, laid).
  DERIVED. THE GIVEN ROWS OF THIS SEAT. 7 by the template 'for every input the law returns true; each argument reads behind the call as it read before'; 0 by the template 'total and deterministic' (their statements: YthipdfkgeghooaaTotals.lean).
  GIVEN WITH THE SEED: the statements are not yours to turn. If you find one false, say at which input.
  Laid BY PROGRAM, IN A SANDBOX (cutbox-rows.mjs): the forced cells as the released guide's own fill.sh prints them over the translation 58d32136a9de5bf0… (all of the seat's roots in one cut). By AI agents, Wed Nov 11 2026. No macro, syntax, notation, axiom, sorry.
-/
import Derived.Test.YthipdfkgeghooaaChecked
import GoSem.Claim
import GoSem.ClaimJoined
import GoSem.ClaimMapViews
import Derived.JoinedTies
import Derived.KernelRfl
namespace Go.Proofs.Ythipdfkgeghooaa
/- THE CELL 'sum', in the pinned program and in every row, IS THE sha256 OF THE DUMP (.gsa) THAT YthipdfkgeghooaaProg.lean LOADS. Nothing in Lean hashes anything: it is a label: what it is worth is what the hold of that sum in a sandbox is worth. -/
noncomputable def Try.pinned : Pinned := { name := "ythipdfkgeghooaa", sum := "58d32136a9de5bf010316c4920ae1df1e32c4a527dba734cfb2f6dca15173766", checked := Try.checked }
namespace Rows
def none {H : Type} : Left H := { results := [], args := [] }

/-- 'raddlelaw16.NetworkDraws': WHATEVER THE INPUT: true; the input reads as it did. -/
def networkDrawsSpec : ChangeSpec := { name := "networkDraws", fn := fun _ => fun
  | [d1, d2] => { results := [.lit (.bool true)], args := [d1, d2] }
  | _ => none }
def networkDrawsRow : OpenClaim := { program := "ythipdfkgeghooaa", sum := "58d32136a9de5bf010316c4920ae1df1e32c4a527dba734cfb2f6dca15173766", func := "raddle/raddlelaw16.NetworkDraws", spec := "networkDraws", unfollowed := true, recurses := true, apart := false }
def NetworkDrawsSaid : Prop := networkDrawsRow.holds Try.pinned (OpenSpec.ofChange networkDrawsSpec)

/-- ITS FALSE NEIGHBOUR: 'it returns false'. Refute it at one input. -/
def networkDrawsWrong : ChangeSpec := { name := "networkDraws", fn := fun _ => fun
  | [d1, d2] => { results := [.lit (.bool false)], args := [d1, d2] }
  | _ => none }
def NetworkDrawsWrongFalsely : Prop := networkDrawsRow.holds Try.pinned (OpenSpec.ofChange networkDrawsWrong)

/-- 'raddlelaw16.NetworkLines': WHATEVER THE INPUT: true; the input reads as it did. -/
def networkLinesSpec : ChangeSpec := { name := "networkLines", fn := fun _ => fun
  | [d1, d2, d3, d4, d5] => { results := [.lit (.bool true)], args := [d1, d2, d3, d4, d5] }
  | _ => none }
def networkLinesRow : OpenClaim := { program := "ythipdfkgeghooaa", sum := "58d32136a9de5bf010316c4920ae1df1e32c4a527dba734cfb2f6dca15173766", func := "raddle/raddlelaw16.NetworkLines", spec := "networkLines", apart := false }
def NetworkLinesSaid : Prop := networkLinesRow.holds Try.pinned (OpenSpec.ofChange networkLinesSpec)

/-- ITS FALSE NEIGHBOUR: 'it returns false'. Refute it at one input. -/
def networkLinesWrong : ChangeSpec := { name := "networkLines", fn := fun _ => fun
  | [d1, d2, d3, d4, d5] => { results := [.lit (.bool false)], args := [d1, d2, d3, d4, d5] }
  | _ => none }
def NetworkLinesWrongFalsely : Prop := networkLinesRow.holds Try.pinned (OpenSpec.ofChange networkLinesWrong)

/-- 'raddlelaw16.NetworkNames': WHATEVER THE INPUT: true; the input reads as it did. -/
def networkNamesSpec : ChangeSpec := { name := "networkNames", fn := fun _ => fun
  | [] => { results := [.lit (.bool true)], args := [] }
  | _ => none }
def networkNamesRow : OpenClaim := { program := "ythipdfkgeghooaa", sum := "58d32136a9de5bf010316c4920ae1df1e32c4a527dba734cfb2f6dca15173766", func := "raddle/raddlelaw16.NetworkNames", spec := "networkNames", unfollowed := true, recurses := true, apart := false }
def NetworkNamesSaid : Prop := networkNamesRow.holds Try.pinned (OpenSpec.ofChange networkNamesSpec)

/-- ITS FALSE NEIGHBOUR: 'it returns false'. Refute it at one input. -/
def networkNamesWrong : ChangeSpec := { name := "networkNames", fn := fun _ => fun
  | [] => { results := [.lit (.bool false)], args := [] }
  | _ => none }
def NetworkNamesWrongFalsely : Prop := networkNamesRow.holds Try.pinned (OpenSpec.ofChange networkNamesWrong)

/-- 'raddlelaw16.NetworkStays': WHATEVER THE INPUT: true; the input reads as it did. -/
def networkStaysSpec : ChangeSpec := { name := "networkStays", fn := fun _ => fun
  | [d1, d2] => { results := [.lit (.bool true)], args := [d1, d2] }
  | _ => none }
def networkStaysRow : OpenClaim := { program := "ythipdfkgeghooaa", sum := "58d32136a9de5bf010316c4920ae1df1e32c4a527dba734cfb2f6dca15173766", func := "raddle/raddlelaw16.NetworkStays", spec := "networkStays", unfollowed := true, recurses := true, apart := false }
def NetworkStaysSaid : Prop := networkStaysRow.holds Try.pinned (OpenSpec.ofChange networkStaysSpec)

/-- ITS FALSE NEIGHBOUR: 'it returns false'. Refute it at one input. -/
def networkStaysWrong : ChangeSpec := { name := "networkStays", fn := fun _ => fun
  | [d1, d2] => { results := [.lit (.bool false)], args := [d1, d2] }
  | _ => none }
def NetworkStaysWrongFalsely : Prop := networkStaysRow.holds Try.pinned (OpenSpec.ofChange networkStaysWrong)

/-- 'raddlelaw16.NetworkRises': WHATEVER THE INPUT: true; the input reads as it did. -/
def networkRisesSpec : ChangeSpec := { name := "networkRises", fn := fun _ => fun
  | [d1, d2] => { results := [.lit (.bool true)], args := [d1, d2] }
  | _ => none }
def networkRisesRow : OpenClaim := { program := "ythipdfkgeghooaa", sum := "58d32136a9de5bf010316c4920ae1df1e32c4a527dba734cfb2f6dca15173766", func := "raddle/raddlelaw16.NetworkRises", spec := "networkRises", unfollowed := true, recurses := true, apart := false }
def NetworkRisesSaid : Prop := networkRisesRow.holds Try.pinned (OpenSpec.ofChange networkRisesSpec)

/-- ITS FALSE NEIGHBOUR: 'it returns false'. Refute it at one input. -/
def networkRisesWrong : ChangeSpec := { name := "networkRises", fn := fun _ => fun
  | [d1, d2] => { results := [.lit (.bool false)], args := [d1, d2] }
  | _ => none }
def NetworkRisesWrongFalsely : Prop := networkRisesRow.holds Try.pinned (OpenSpec.ofChange networkRisesWrong)

/-- 'raddlelaw16.NetworkWeaves': WHATEVER THE INPUT: true; the input reads as it did. -/
def networkWeavesSpec : ChangeSpec := { name := "networkWeaves", fn := fun _ => fun
  | [d1, d2] => { results := [.lit (.bool true)], args := [d1, d2] }
  | _ => none }
def networkWeavesRow : OpenClaim := { program := "ythipdfkgeghooaa", sum := "58d32136a9de5bf010316c4920ae1df1e32c4a527dba734cfb2f6dca15173766", func := "raddle/raddlelaw16.NetworkWeaves", spec := "networkWeaves", unfollowed := true, recurses := true, apart := false }
def NetworkWeavesSaid : Prop := networkWeavesRow.holds Try.pinned (OpenSpec.ofChange networkWeavesSpec)

/-- ITS FALSE NEIGHBOUR: 'it returns false'. Refute it at one input. -/
def networkWeavesWrong : ChangeSpec := { name := "networkWeaves", fn := fun _ => fun
  | [d1, d2] => { results := [.lit (.bool false)], args := [d1, d2] }
  | _ => none }
def NetworkWeavesWrongFalsely : Prop := networkWeavesRow.holds Try.pinned (OpenSpec.ofChange networkWeavesWrong)

/-- 'raddlelaw16.NetworkStraight': WHATEVER THE INPUT: true; the input reads as it did. -/
def networkStraightSpec : ChangeSpec := { name := "networkStraight", fn := fun _ => fun
  | [d] => { results := [.lit (.bool true)], args := [d] }
  | _ => none }
def networkStraightRow : OpenClaim := { program := "ythipdfkgeghooaa", sum := "58d32136a9de5bf010316c4920ae1df1e32c4a527dba734cfb2f6dca15173766", func := "raddle/raddlelaw16.NetworkStraight", spec := "networkStraight", unfollowed := true, recurses := true, apart := false }
def NetworkStraightSaid : Prop := networkStraightRow.holds Try.pinned (OpenSpec.ofChange networkStraightSpec)

/-- ITS FALSE NEIGHBOUR: 'it returns false'. Refute it at one input. -/
def networkStraightWrong : ChangeSpec := { name := "networkStraight", fn := fun _ => fun
  | [d] => { results := [.lit (.bool false)], args := [d] }
  | _ => none }
def NetworkStraightWrongFalsely : Prop := networkStraightRow.holds Try.pinned (OpenSpec.ofChange networkStraightWrong)

/- THE SECOND FORM. 'bulk': how many values and letters a reading holds, each counted each time it is reached (what is shared counts as often as it is met; a slice's spare places count too). A statement '..UptoSaid' is the law's where the arguments, and the package variables that the reading takes, are together of bulk at most 1048576: NARROWER than '..Said'. Prove '..Said' where nothing that the law and all that it calls make is longer than what came in: it says more and counts as full. Else prove '..UptoSaid'. A law counts once. -/
mutual
def uptoBulk {H : Type} : DataW H → Nat
  | .lit (.string bytes) => bytes.length + 1
  | .lit _ => 1
  | .nil => 1
  | .ptr d => uptoBulk d + 1
  | .slice elems spare => uptoBulkAll elems + uptoBulkAll spare + 1
  | .agg parts => uptoBulkAll parts + 1
  | .iface _ d => uptoBulk d + 1
  | .map entries => uptoBulkEntries entries + 1
  | .held _ => 1
def uptoBulkAll {H : Type} : List (DataW H) → Nat
  | [] => 0
  | d :: r => uptoBulk d + uptoBulkAll r
def uptoBulkEntries {H : Type} : List (Lit × DataW H) → Nat
  | [] => 0
  | x :: r => uptoBulkEntry x + uptoBulkEntries r
def uptoBulkEntry {H : Type} : Lit × DataW H → Nat
  | (.string bytes, d) => bytes.length + uptoBulk d + 1
  | (_, d) => uptoBulk d + 1
 end
def uptoSmall : (H : Type) → List (DataW H) → Bool := fun _ ds => decide (uptoBulkAll ds ≤ 1048576)
def OpenSpec.upto (s : _root_.Go.ChangeSpec) : _root_.Go.OpenSpec := { _root_.Go.OpenSpec.ofChange s with cond := some uptoSmall }

/-- 'raddlelaw16.NetworkDraws', WHERE WHAT IT READS IS OF BULK AT MOST 1048576: true; the input reads as it did. -/
def networkDrawsUptoRow : OpenClaim := { program := "ythipdfkgeghooaa", sum := "58d32136a9de5bf010316c4920ae1df1e32c4a527dba734cfb2f6dca15173766", func := "raddle/raddlelaw16.NetworkDraws", spec := "networkDraws", unfollowed := true, recurses := true, apart := false, narrowed := true }
def NetworkDrawsUptoSaid : Prop := networkDrawsUptoRow.holds Try.pinned (OpenSpec.upto networkDrawsSpec)

/-- 'raddlelaw16.NetworkLines', WHERE WHAT IT READS IS OF BULK AT MOST 1048576: true; the input reads as it did. -/
def networkLinesUptoRow : OpenClaim := { program := "ythipdfkgeghooaa", sum := "58d32136a9de5bf010316c4920ae1df1e32c4a527dba734cfb2f6dca15173766", func := "raddle/raddlelaw16.NetworkLines", spec := "networkLines", apart := false, narrowed := true }
def NetworkLinesUptoSaid : Prop := networkLinesUptoRow.holds Try.pinned (OpenSpec.upto networkLinesSpec)

/-- 'raddlelaw16.NetworkNames', WHERE WHAT IT READS IS OF BULK AT MOST 1048576: true; the input reads as it did. -/
def networkNamesUptoRow : OpenClaim := { program := "ythipdfkgeghooaa", sum := "58d32136a9de5bf010316c4920ae1df1e32c4a527dba734cfb2f6dca15173766", func := "raddle/raddlelaw16.NetworkNames", spec := "networkNames", unfollowed := true, recurses := true, apart := false, narrowed := true }
def NetworkNamesUptoSaid : Prop := networkNamesUptoRow.holds Try.pinned (OpenSpec.upto networkNamesSpec)

/-- 'raddlelaw16.NetworkStays', WHERE WHAT IT READS IS OF BULK AT MOST 1048576: true; the input reads as it did. -/
def networkStaysUptoRow : OpenClaim := { program := "ythipdfkgeghooaa", sum := "58d32136a9de5bf010316c4920ae1df1e32c4a527dba734cfb2f6dca15173766", func := "raddle/raddlelaw16.NetworkStays", spec := "networkStays", unfollowed := true, recurses := true, apart := false, narrowed := true }
def NetworkStaysUptoSaid : Prop := networkStaysUptoRow.holds Try.pinned (OpenSpec.upto networkStaysSpec)

/-- 'raddlelaw16.NetworkRises', WHERE WHAT IT READS IS OF BULK AT MOST 1048576: true; the input reads as it did. -/
def networkRisesUptoRow : OpenClaim := { program := "ythipdfkgeghooaa", sum := "58d32136a9de5bf010316c4920ae1df1e32c4a527dba734cfb2f6dca15173766", func := "raddle/raddlelaw16.NetworkRises", spec := "networkRises", unfollowed := true, recurses := true, apart := false, narrowed := true }
def NetworkRisesUptoSaid : Prop := networkRisesUptoRow.holds Try.pinned (OpenSpec.upto networkRisesSpec)

/-- 'raddlelaw16.NetworkWeaves', WHERE WHAT IT READS IS OF BULK AT MOST 1048576: true; the input reads as it did. -/
def networkWeavesUptoRow : OpenClaim := { program := "ythipdfkgeghooaa", sum := "58d32136a9de5bf010316c4920ae1df1e32c4a527dba734cfb2f6dca15173766", func := "raddle/raddlelaw16.NetworkWeaves", spec := "networkWeaves", unfollowed := true, recurses := true, apart := false, narrowed := true }
def NetworkWeavesUptoSaid : Prop := networkWeavesUptoRow.holds Try.pinned (OpenSpec.upto networkWeavesSpec)

/-- 'raddlelaw16.NetworkStraight', WHERE WHAT IT READS IS OF BULK AT MOST 1048576: true; the input reads as it did. -/
def networkStraightUptoRow : OpenClaim := { program := "ythipdfkgeghooaa", sum := "58d32136a9de5bf010316c4920ae1df1e32c4a527dba734cfb2f6dca15173766", func := "raddle/raddlelaw16.NetworkStraight", spec := "networkStraight", unfollowed := true, recurses := true, apart := false, narrowed := true }
def NetworkStraightUptoSaid : Prop := networkStraightUptoRow.holds Try.pinned (OpenSpec.upto networkStraightSpec)

end Rows
end Go.Proofs.Ythipdfkgeghooaa
