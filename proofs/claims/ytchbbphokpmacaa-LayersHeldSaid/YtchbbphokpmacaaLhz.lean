/- LayersHeld, put together. -/
import Derived.Test.YtchbbphokpmacaaLhw
namespace Go.Proofs.Ytchbbphokpmacaa
open Go.RowKit
set_option maxRecDepth 100000
set_option linter.unusedVariables false
set_option linter.unusedSimpArgs false

theorem held11_any (W H : Int) (A : Option Addr) (n c : Nat) (f : Nat → Bool) (a b d : Int) (w : World) (hg : Holds w w.heap.size A n f) :
    Calls Try.prog 14 #[.agg #[.int .i64 W, .int .i64 H, .slice A n c], .int .i64 a, .int .i64 b, .int .i64 d] w fun e w' => e = .returned (.bool true) ∧ Below w.heap.size w w' := by
  by_cases hgr : grt W H n = true
  · exact held_inv a b d (.inl hgr) w
  have hgf : grt W H n = false := by simpa using hgr
  by_cases hz : chk W H n = 0
  · obtain ⟨x, y, rfl, rfl, rfl, h1, h2, h3, h4⟩ := chk_nat hz
    by_cases ha : 0 ≤ a ∧ a < ((x + y : Nat) : Int)
    · by_cases hb : 0 ≤ b ∧ b < ((x + y : Nat) : Int)
      · by_cases hd : 0 ≤ d ∧ d < ((x + y : Nat) : Int)
        · obtain ⟨a', rfl⟩ : ∃ a' : Nat, a = (a' : Int) := ⟨a.toNat, by omega⟩
          obtain ⟨b', rfl⟩ : ∃ b' : Nat, b = (b' : Int) := ⟨b.toNat, by omega⟩
          obtain ⟨d', rfl⟩ : ∃ d' : Nat, d = (d' : Int) := ⟨d.toNat, by omega⟩
          exact held_main x y (x + y) rfl A c f a' b' d' w hg h1 h2 h3 h4 hgf (by omega) (by omega) (by omega)
        · exact held_nc x y A (x * y) c a b d h2 h4 hgf hz ha hb hd w
      · exact held_nb x y A (x * y) c a b d h2 h4 hgf hz ha hb w
    · exact held_na x y A (x * y) c a b d h2 h4 hgf hz ha w
  · exact held_inv a b d (.inr hz) w
end Go.Proofs.Ytchbbphokpmacaa
