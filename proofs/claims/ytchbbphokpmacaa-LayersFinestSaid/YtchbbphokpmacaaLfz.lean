/- LayersFinest, put together. -/
import Derived.Test.YtchbbphokpmacaaLfb
import Derived.Test.YtchbbphokpmacaaLfc
namespace Go.Proofs.Ytchbbphokpmacaa
open Go.RowKit
set_option maxRecDepth 100000
set_option linter.unusedVariables false
set_option linter.unusedSimpArgs false

theorem finest11_any (W H : Int) (A : Option Addr) (n c : Nat) (f : Nat → Bool) (E : Option Addr) (m d : Nat) (s : Nat → Int) (w : World) (hg : Holds w w.heap.size A n f) (hs : L2.Holds w w.heap.size E m s) :
    Calls Try.prog 13 #[.agg #[.int .i64 W, .int .i64 H, .slice A n c], .slice E m d] w fun e w' => e = .returned (.bool true) ∧ Below w.heap.size w w' := by
  by_cases hgr : grt W H n = true
  · exact fin_inv E m d (.inl hgr) w
  have hgf : grt W H n = false := by simpa using hgr
  by_cases hz : chk W H n = 0
  · by_cases hm : 40 < m
    · exact fin_long E m d hgf hz hm w
    obtain ⟨x, y, rfl, rfl, rfl, h1, h2, h3, h4⟩ := chk_nat hz
    cases hS : setB (x + y) m s
    · exact fin_f x y (x + y) rfl A c f E m d s w hg hs h1 h2 h3 h4 hgf (by omega) hS
    · exact fin_t x y (x + y) rfl A c f E m d s w hg hs h1 h2 h3 h4 hgf (by omega) hS
  · exact fin_inv E m d (.inr hz) w
end Go.Proofs.Ytchbbphokpmacaa
