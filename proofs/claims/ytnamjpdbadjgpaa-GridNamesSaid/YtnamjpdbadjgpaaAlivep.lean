/- The examples of alive, plain. -/
import Derived.Test.YtnamjpdbadjgpaaReads
import Derived.Test.YtnamjpdbadjgpaaRefused
import Derived.Test.YtnamjpdbadjgpaaGiven
import Derived.Test.YtnamjpdbadjgpaaCnt
import Derived.Test.YtnamjpdbadjgpaaRshf
namespace Go.Proofs.Ytnamjpdbadjgpaa
open Go.RowKit
set_option linter.unusedVariables false
set_option linter.unusedSimpArgs false

def S1 : ByteArray := T 3 2 givenF
def turnF (i : Nat) : Bool := givenF (i % 2 * 3 + i / 2)
def shiftF (i : Nat) : Bool := givenF (ay 3 2 (0 % 2) i * 3 + ax 3 (1 % 3) i)
theorem t1 : T 3 2 givenF = ⟨#[46, 120, 120, 10, 120, 46, 46, 10]⟩ := by decide +kernel
theorem t2 : T 2 3 turnF = ⟨#[46, 120, 10, 46, 120, 10, 120, 46, 10]⟩ := by decide +kernel
theorem t3 : T 3 2 shiftF = ⟨#[120, 46, 120, 10, 46, 120, 46, 10]⟩ := by decide +kernel
theorem n1 (w h : Nat) : ¬ Txt ⟨#[120]⟩ w h := by
  rintro ⟨_, _, _, _, _, _, e⟩
  have : Lib.indexByte [120] 10 = -1 := by decide +kernel
  have e' : Lib.indexByte [120] 10 = (w : Int) := e
  omega
theorem n2 (w h : Nat) : ¬ Txt ⟨#[120, 120, 10, 120, 10]⟩ w h := by
  rintro ⟨_, _, _, _, e5, _, e⟩
  have : Lib.indexByte [120, 120, 10, 120, 10] 10 = 2 := by decide +kernel
  have e' : Lib.indexByte [120, 120, 10, 120, 10] 10 = (w : Int) := e
  have : w = 2 := by omega
  subst this
  have : h * 3 = 5 := e5
  omega
theorem c1 : cnt givenF 6 = 3 := by decide +kernel
end Go.Proofs.Ytnamjpdbadjgpaa
