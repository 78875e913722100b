/- LayersHang, put together. -/
import Derived.Test.YtchbbphokpmacaaLgb
namespace Go.Proofs.Ytchbbphokpmacaa
open Go.RowKit
set_option maxRecDepth 100000
set_option linter.unusedVariables false
set_option linter.unusedSimpArgs false

theorem hang11_any (W H : Int) (A : Option Addr) (n c : Nat) (f : Nat → Bool) (w : World) (hg : Holds w w.heap.size A n f) :
    Calls Try.prog 15 #[.agg #[.int .i64 W, .int .i64 H, .slice A n c]] w fun e w' => e = .returned (.bool true) ∧ Below w.heap.size w w' := by
  by_cases hgr : grt W H n = true
  · exact hng_inv (.inl hgr) w
  have hgf : grt W H n = false := by simpa using hgr
  by_cases hz : chk W H n = 0
  · have h24 : W + H ≤ 24 := by
      unfold grt at hgf
      rw [hz] at hgf
      simp at hgf
      omega
    obtain ⟨x, y, rfl, rfl, rfl, h1, h2, h3, h4⟩ := chk_nat hz
    exact hng_main x y (x + y) rfl (by omega) A c f w hg h1 h2 h3 h4 hgf
  · exact hng_inv (.inr hz) w
end Go.Proofs.Ytchbbphokpmacaa
