/- The walk of HangAsks. -/
import Derived.Test.YtgmcbdnfgdmmaaaHpz
import Derived.Test.YtgmcbdnfgdmmaaaOpl
namespace Go.Proofs.Ytgmcbdnfgdmmaaa
open Go.RowKit
set_option maxRecDepth 100000
set_option linter.unusedVariables false
set_option linter.unusedSimpArgs false

theorem grt_no {W H : Int} {n : Nat} (h : grt W H n = false) : n ≤ 200 := by
  unfold grt at h
  rw [Bool.or_eq_false_iff, decide_eq_false_iff_not] at h
  omega
theorem same_ll {v : World} {D E : Option Addr} {l : List Nat} (hn : l.length ≤ 5000) (h : LL v D l) (k : LL v E l) (c d : Nat) : Calls Try.prog 62 #[.slice D l.length c, .slice E l.length d] v fun e w' => e = .returned (.bool true) ∧ Below v.heap.size v w' :=
  lv_same hn ⟨h⟩ ⟨k⟩ c d (fun _ _ => rfl)
end Go.Proofs.Ytgmcbdnfgdmmaaa
