/-
  NARROWER THAN 'FOR EVERY INPUT', by the rows' own cells (each row's printed sentence says how): FactorNames: laid · FactorKinds: laid · FactorInverse: laid · FactorFewest: laid · FactorKindly: laid · FactorSame: laid.
  DERIVED. THE GIVEN ROWS OF THIS SEAT. 6 by the template 'for every input the law returns true; each argument reads behind the call as it read before'; 0 by the template 'total and deterministic' (their statements: YtbafhdinalapoaaDoorTotals.lean).
  GIVEN WITH THE SEED: the statements are not yours to turn. If you find one false, say at which input.
  Laid BY PROGRAM, IN A SANDBOX (cutbox-rows.mjs): the forced cells as the released guide's own fill.sh prints them over the translation 2570493e52d74feb… (all of the seat's roots in one cut). By AI agents, Wed Nov 11 2026. No macro, syntax, notation, axiom, sorry.
-/
import Derived.Test.YtbafhdinalapoaaDoorChecked
import GoSem.Claim
import GoSem.ClaimJoined
import GoSem.ClaimMapViews
import Derived.JoinedTies
import Derived.KernelRfl
namespace Go.Proofs.YtbafhdinalapoaaDoor
/- THE CELL 'sum', in the pinned program and in every row, IS THE sha256 OF THE DUMP (.gsa) THAT YtbafhdinalapoaaDoorProg.lean LOADS. Nothing in Lean hashes anything: it is a label: what it is worth is what the hold of that sum in a sandbox is worth. -/
noncomputable def Tryd.pinned : Pinned := { name := "ytbafhdinalapoaadoor", sum := "2570493e52d74feb3daa67f4118d83b3fff433f9f181e70dc31512cde39df95e", checked := Tryd.checked }
namespace Rows
def none {H : Type} : Left H := { results := [], args := [] }

/- WHAT THE LISTED PACKAGE-LEVEL VARIABLES READ AS WHEN THE CALL BEGINS. Each datum BY PROGRAM (the guide's laid-datum.mjs) off the statement by which the dump's own 'gosem.cut.vars' lays the variable. In a bare row this is a premise. The card (YtbafhdinalapoaaDoorCards.lean) ties it to the program's text. -/
def laid_raddle_factor_most {H : Type} : DataW H := .agg [.lit (.int .i64 40), .lit (.int .i64 40)]

/-- 'raddlelaw04.FactorNames': WHATEVER THE INPUT: true; the input reads as it did. -/
def factorNamesSpec : ChangeSpec := { name := "factorNames", fn := fun _ => fun
  | [] => { results := [.lit (.bool true)], args := [] }
  | _ => none }
def factorNamesRow : OpenClaim := { program := "ytbafhdinalapoaadoor", sum := "2570493e52d74feb3daa67f4118d83b3fff433f9f181e70dc31512cde39df95e", func := "raddle/raddlelaw04.FactorNames", spec := "factorNames", inPlace := ["internal/bytealg.IndexByteString", "internal/abi.NoEscape"], unfollowed := true, recurses := true, named := ["raddle/factor.most"], plainKeys := false, apart := false, laid := [("raddle/factor.most", laid_raddle_factor_most)] }
def FactorNamesSaid : Prop := factorNamesRow.holds Tryd.pinned (OpenSpec.ofChange factorNamesSpec)

/-- ITS FALSE NEIGHBOUR: 'it returns false'. Refute it at one input. -/
def factorNamesWrong : ChangeSpec := { name := "factorNames", fn := fun _ => fun
  | [] => { results := [.lit (.bool false)], args := [] }
  | _ => none }
def FactorNamesWrongFalsely : Prop := factorNamesRow.holds Tryd.pinned (OpenSpec.ofChange factorNamesWrong)

/-- 'raddlelaw04.FactorKinds': WHATEVER THE INPUT: true; the input reads as it did. -/
def factorKindsSpec : ChangeSpec := { name := "factorKinds", fn := fun _ => fun
  | [d] => { results := [.lit (.bool true)], args := [d] }
  | _ => none }
def factorKindsRow : OpenClaim := { program := "ytbafhdinalapoaadoor", sum := "2570493e52d74feb3daa67f4118d83b3fff433f9f181e70dc31512cde39df95e", func := "raddle/raddlelaw04.FactorKinds", spec := "factorKinds", unfollowed := true, recurses := true, named := ["raddle/factor.most"], plainKeys := false, apart := false, laid := [("raddle/factor.most", laid_raddle_factor_most)] }
def FactorKindsSaid : Prop := factorKindsRow.holds Tryd.pinned (OpenSpec.ofChange factorKindsSpec)

/-- ITS FALSE NEIGHBOUR: 'it returns false'. Refute it at one input. -/
def factorKindsWrong : ChangeSpec := { name := "factorKinds", fn := fun _ => fun
  | [d] => { results := [.lit (.bool false)], args := [d] }
  | _ => none }
def FactorKindsWrongFalsely : Prop := factorKindsRow.holds Tryd.pinned (OpenSpec.ofChange factorKindsWrong)

/-- 'raddlelaw04.FactorInverse': WHATEVER THE INPUT: true; the input reads as it did. -/
def factorInverseSpec : ChangeSpec := { name := "factorInverse", fn := fun _ => fun
  | [d1, d2] => { results := [.lit (.bool true)], args := [d1, d2] }
  | _ => none }
def factorInverseRow : OpenClaim := { program := "ytbafhdinalapoaadoor", sum := "2570493e52d74feb3daa67f4118d83b3fff433f9f181e70dc31512cde39df95e", func := "raddle/raddlelaw04.FactorInverse", spec := "factorInverse", inPlace := ["internal/bytealg.IndexByteString", "internal/abi.NoEscape"], unfollowed := true, recurses := true, named := ["raddle/factor.most"], plainKeys := false, apart := false, laid := [("raddle/factor.most", laid_raddle_factor_most)] }
def FactorInverseSaid : Prop := factorInverseRow.holds Tryd.pinned (OpenSpec.ofChange factorInverseSpec)

/-- ITS FALSE NEIGHBOUR: 'it returns false'. Refute it at one input. -/
def factorInverseWrong : ChangeSpec := { name := "factorInverse", fn := fun _ => fun
  | [d1, d2] => { results := [.lit (.bool false)], args := [d1, d2] }
  | _ => none }
def FactorInverseWrongFalsely : Prop := factorInverseRow.holds Tryd.pinned (OpenSpec.ofChange factorInverseWrong)

/-- 'raddlelaw04.FactorFewest': WHATEVER THE INPUT: true; the input reads as it did. -/
def factorFewestSpec : ChangeSpec := { name := "factorFewest", fn := fun _ => fun
  | [d] => { results := [.lit (.bool true)], args := [d] }
  | _ => none }
def factorFewestRow : OpenClaim := { program := "ytbafhdinalapoaadoor", sum := "2570493e52d74feb3daa67f4118d83b3fff433f9f181e70dc31512cde39df95e", func := "raddle/raddlelaw04.FactorFewest", spec := "factorFewest", inPlace := ["internal/bytealg.IndexByteString", "internal/abi.NoEscape"], unfollowed := true, recurses := true, named := ["raddle/factor.most"], plainKeys := false, apart := false, laid := [("raddle/factor.most", laid_raddle_factor_most)] }
def FactorFewestSaid : Prop := factorFewestRow.holds Tryd.pinned (OpenSpec.ofChange factorFewestSpec)

/-- ITS FALSE NEIGHBOUR: 'it returns false'. Refute it at one input. -/
def factorFewestWrong : ChangeSpec := { name := "factorFewest", fn := fun _ => fun
  | [d] => { results := [.lit (.bool false)], args := [d] }
  | _ => none }
def FactorFewestWrongFalsely : Prop := factorFewestRow.holds Tryd.pinned (OpenSpec.ofChange factorFewestWrong)

/-- 'raddlelaw04.FactorKindly': WHATEVER THE INPUT: true; the input reads as it did. -/
def factorKindlySpec : ChangeSpec := { name := "factorKindly", fn := fun _ => fun
  | [d] => { results := [.lit (.bool true)], args := [d] }
  | _ => none }
def factorKindlyRow : OpenClaim := { program := "ytbafhdinalapoaadoor", sum := "2570493e52d74feb3daa67f4118d83b3fff433f9f181e70dc31512cde39df95e", func := "raddle/raddlelaw04.FactorKindly", spec := "factorKindly", inPlace := ["internal/bytealg.IndexByteString", "internal/abi.NoEscape"], unfollowed := true, recurses := true, named := ["raddle/factor.most"], plainKeys := false, apart := false, laid := [("raddle/factor.most", laid_raddle_factor_most)] }
def FactorKindlySaid : Prop := factorKindlyRow.holds Tryd.pinned (OpenSpec.ofChange factorKindlySpec)

/-- ITS FALSE NEIGHBOUR: 'it returns false'. Refute it at one input. -/
def factorKindlyWrong : ChangeSpec := { name := "factorKindly", fn := fun _ => fun
  | [d] => { results := [.lit (.bool false)], args := [d] }
  | _ => none }
def FactorKindlyWrongFalsely : Prop := factorKindlyRow.holds Tryd.pinned (OpenSpec.ofChange factorKindlyWrong)

/-- 'raddlelaw04.FactorSame': WHATEVER THE INPUT: true; the input reads as it did. -/
def factorSameSpec : ChangeSpec := { name := "factorSame", fn := fun _ => fun
  | [d1, d2, d3, d4] => { results := [.lit (.bool true)], args := [d1, d2, d3, d4] }
  | _ => none }
def factorSameRow : OpenClaim := { program := "ytbafhdinalapoaadoor", sum := "2570493e52d74feb3daa67f4118d83b3fff433f9f181e70dc31512cde39df95e", func := "raddle/raddlelaw04.FactorSame", spec := "factorSame", inPlace := ["internal/bytealg.IndexByteString", "internal/abi.NoEscape"], unfollowed := true, recurses := true, named := ["raddle/factor.most"], plainKeys := false, apart := false, laid := [("raddle/factor.most", laid_raddle_factor_most)] }
def FactorSameSaid : Prop := factorSameRow.holds Tryd.pinned (OpenSpec.ofChange factorSameSpec)

/-- ITS FALSE NEIGHBOUR: 'it returns false'. Refute it at one input. -/
def factorSameWrong : ChangeSpec := { name := "factorSame", fn := fun _ => fun
  | [d1, d2, d3, d4] => { results := [.lit (.bool false)], args := [d1, d2, d3, d4] }
  | _ => none }
def FactorSameWrongFalsely : Prop := factorSameRow.holds Tryd.pinned (OpenSpec.ofChange factorSameWrong)

/- THE SECOND FORM. 'bulk': how many values and letters a reading holds, each counted each time it is reached (what is shared counts as often as it is met; a slice's spare places count too). A statement '..UptoSaid' is the law's where the arguments, and the package variables that the reading takes, are together of bulk at most 1048576: NARROWER than '..Said'. Prove '..Said' where nothing that the law and all that it calls make is longer than what came in: it says more and counts as full. Else prove '..UptoSaid'. A law counts once. -/
mutual
def uptoBulk {H : Type} : DataW H → Nat
  | .lit (.string bytes) => bytes.length + 1
  | .lit _ => 1
  | .nil => 1
  | .ptr d => uptoBulk d + 1
  | .slice elems spare => uptoBulkAll elems + uptoBulkAll spare + 1
  | .agg parts => uptoBulkAll parts + 1
  | .iface _ d => uptoBulk d + 1
  | .map entries => uptoBulkEntries entries + 1
  | .held _ => 1
def uptoBulkAll {H : Type} : List (DataW H) → Nat
  | [] => 0
  | d :: r => uptoBulk d + uptoBulkAll r
def uptoBulkEntries {H : Type} : List (Lit × DataW H) → Nat
  | [] => 0
  | x :: r => uptoBulkEntry x + uptoBulkEntries r
def uptoBulkEntry {H : Type} : Lit × DataW H → Nat
  | (.string bytes, d) => bytes.length + uptoBulk d + 1
  | (_, d) => uptoBulk d + 1
 end
def uptoSmall : (H : Type) → List (DataW H) → Bool := fun _ ds => decide (uptoBulkAll ds ≤ 1048576)
def OpenSpec.upto (s : _root_.Go.ChangeSpec) : _root_.Go.OpenSpec := { _root_.Go.OpenSpec.ofChange s with cond := some uptoSmall }

/-- 'raddlelaw04.FactorNames', WHERE WHAT IT READS IS OF BULK AT MOST 1048576: true; the input reads as it did. -/
def factorNamesUptoRow : OpenClaim := { program := "ytbafhdinalapoaadoor", sum := "2570493e52d74feb3daa67f4118d83b3fff433f9f181e70dc31512cde39df95e", func := "raddle/raddlelaw04.FactorNames", spec := "factorNames", inPlace := ["internal/bytealg.IndexByteString", "internal/abi.NoEscape"], unfollowed := true, recurses := true, named := ["raddle/factor.most"], plainKeys := false, apart := false, laid := [("raddle/factor.most", laid_raddle_factor_most)], narrowed := true }
def FactorNamesUptoSaid : Prop := factorNamesUptoRow.holds Tryd.pinned (OpenSpec.upto factorNamesSpec)

/-- 'raddlelaw04.FactorKinds', WHERE WHAT IT READS IS OF BULK AT MOST 1048576: true; the input reads as it did. -/
def factorKindsUptoRow : OpenClaim := { program := "ytbafhdinalapoaadoor", sum := "2570493e52d74feb3daa67f4118d83b3fff433f9f181e70dc31512cde39df95e", func := "raddle/raddlelaw04.FactorKinds", spec := "factorKinds", unfollowed := true, recurses := true, named := ["raddle/factor.most"], plainKeys := false, apart := false, laid := [("raddle/factor.most", laid_raddle_factor_most)], narrowed := true }
def FactorKindsUptoSaid : Prop := factorKindsUptoRow.holds Tryd.pinned (OpenSpec.upto factorKindsSpec)

/-- 'raddlelaw04.FactorInverse', WHERE WHAT IT READS IS OF BULK AT MOST 1048576: true; the input reads as it did. -/
def factorInverseUptoRow : OpenClaim := { program := "ytbafhdinalapoaadoor", sum := "2570493e52d74feb3daa67f4118d83b3fff433f9f181e70dc31512cde39df95e", func := "raddle/raddlelaw04.FactorInverse", spec := "factorInverse", inPlace := ["internal/bytealg.IndexByteString", "internal/abi.NoEscape"], unfollowed := true, recurses := true, named := ["raddle/factor.most"], plainKeys := false, apart := false, laid := [("raddle/factor.most", laid_raddle_factor_most)], narrowed := true }
def FactorInverseUptoSaid : Prop := factorInverseUptoRow.holds Tryd.pinned (OpenSpec.upto factorInverseSpec)

/-- 'raddlelaw04.FactorFewest', WHERE WHAT IT READS IS OF BULK AT MOST 1048576: true; the input reads as it did. -/
def factorFewestUptoRow : OpenClaim := { program := "ytbafhdinalapoaadoor", sum := "2570493e52d74feb3daa67f4118d83b3fff433f9f181e70dc31512cde39df95e", func := "raddle/raddlelaw04.FactorFewest", spec := "factorFewest", inPlace := ["internal/bytealg.IndexByteString", "internal/abi.NoEscape"], unfollowed := true, recurses := true, named := ["raddle/factor.most"], plainKeys := false, apart := false, laid := [("raddle/factor.most", laid_raddle_factor_most)], narrowed := true }
def FactorFewestUptoSaid : Prop := factorFewestUptoRow.holds Tryd.pinned (OpenSpec.upto factorFewestSpec)

/-- 'raddlelaw04.FactorKindly', WHERE WHAT IT READS IS OF BULK AT MOST 1048576: true; the input reads as it did. -/
def factorKindlyUptoRow : OpenClaim := { program := "ytbafhdinalapoaadoor", sum := "2570493e52d74feb3daa67f4118d83b3fff433f9f181e70dc31512cde39df95e", func := "raddle/raddlelaw04.FactorKindly", spec := "factorKindly", inPlace := ["internal/bytealg.IndexByteString", "internal/abi.NoEscape"], unfollowed := true, recurses := true, named := ["raddle/factor.most"], plainKeys := false, apart := false, laid := [("raddle/factor.most", laid_raddle_factor_most)], narrowed := true }
def FactorKindlyUptoSaid : Prop := factorKindlyUptoRow.holds Tryd.pinned (OpenSpec.upto factorKindlySpec)

/-- 'raddlelaw04.FactorSame', WHERE WHAT IT READS IS OF BULK AT MOST 1048576: true; the input reads as it did. -/
def factorSameUptoRow : OpenClaim := { program := "ytbafhdinalapoaadoor", sum := "2570493e52d74feb3daa67f4118d83b3fff433f9f181e70dc31512cde39df95e", func := "raddle/raddlelaw04.FactorSame", spec := "factorSame", inPlace := ["internal/bytealg.IndexByteString", "internal/abi.NoEscape"], unfollowed := true, recurses := true, named := ["raddle/factor.most"], plainKeys := false, apart := false, laid := [("raddle/factor.most", laid_raddle_factor_most)], narrowed := true }
def FactorSameUptoSaid : Prop := factorSameUptoRow.holds Tryd.pinned (OpenSpec.upto factorSameSpec)

end Rows
end Go.Proofs.YtbafhdinalapoaaDoor
