/- LayersBack, put together. -/
import Derived.Test.YtchbbphokpmacaaLbb
namespace Go.Proofs.Ytchbbphokpmacaa
open Go.RowKit
set_option maxRecDepth 100000
set_option linter.unusedVariables false
set_option linter.unusedSimpArgs false

theorem back11_any (W H : Int) (A : Option Addr) (n c : Nat) (f : Nat → Bool) (E : Option Addr) (m d : Nat) (s : Nat → Int) (dx dy : Int) (w : World) (hg : Holds w w.heap.size A n f) (hs : L2.Holds w w.heap.size E m s)
    (x0 : -9223372036854775808 ≤ dx) (x1 : dx ≤ 9223372036854775807) (y0 : -9223372036854775808 ≤ dy) (y1 : dy ≤ 9223372036854775807) :
    Calls Try.prog 16 #[.agg #[.int .i64 W, .int .i64 H, .slice A n c], .slice E m d, .int .i64 dx, .int .i64 dy] w fun e w' => e = .returned (.bool true) ∧ Below w.heap.size w w' := by
  by_cases hgr : grt W H n = true
  · exact bck_inv E m d dx dy (.inl hgr) w
  have hgf : grt W H n = false := by simpa using hgr
  by_cases hz : chk W H n = 0
  · by_cases hm : 40 < m
    · exact bck_long E m d dx dy hgf hz hm w
    have h24 : W + H ≤ 24 := by
      unfold grt at hgf
      rw [hz] at hgf
      simp at hgf
      omega
    obtain ⟨x, y, rfl, rfl, rfl, h1, h2, h3, h4⟩ := chk_nat hz
    exact bck_main x y (x + y) rfl (by omega) A c f E m d s dx dy w hg hs h1 h2 h3 h4 hgf (by omega) x0 x1 y0 y1
  · exact bck_inv E m d dx dy (.inr hz) w
end Go.Proofs.Ytchbbphokpmacaa
