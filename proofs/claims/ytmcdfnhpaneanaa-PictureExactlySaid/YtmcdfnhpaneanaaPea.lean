/- PictureExactly: the walk. -/
import Derived.Test.YtmcdfnhpaneanaaPez
namespace Go.Proofs.Ytmcdfnhpaneanaa
open Go.RowKit
set_option maxRecDepth 100000
set_option linter.unusedVariables false
set_option linter.unusedSimpArgs false

theorem exactly_any (W H : Int) (A B C : Option Addr) (n c m d k e : Nat) (f a b : Nat → Int) (X Y : Int) (D : Option Addr) (N g : Nat) (s : Nat → Bool) (w : World) (hf : L2.Holds w w.heap.size A n f) (ha : L2.Holds w w.heap.size B m a) (hb1 : L2.Holds w w.heap.size C k b) (hg : Holds w w.heap.size D N s) :
    Calls Try.prog 6 #[.agg #[.int .i64 W, .int .i64 H, .slice A n c], .slice B m d, .slice C k e, .agg #[.int .i64 X, .int .i64 Y, .slice D N g]] w fun e w' => e = .returned (.bool true) ∧ Below w.heap.size w w' := by
  by_cases hz : 4200 < n ∨ pcE W H n m k f a b ≠ 0 ∨ chk X Y N ≠ 0 ∨ X ≠ W ∨ Y ≠ H
  · exact exactly_no W H A B C n c m d k e f a b X Y D N g s w hf ha hb1 hg hz
  · have h2 : pcE W H n m k f a b = 0 := Classical.byContradiction fun q => hz (.inr (.inl q))
    have h3 : chk X Y N = 0 := Classical.byContradiction fun q => hz (.inr (.inr (.inl q)))
    obtain rfl : X = W := Classical.byContradiction fun q => hz (.inr (.inr (.inr (.inl q))))
    obtain rfl : Y = H := Classical.byContradiction fun q => hz (.inr (.inr (.inr (.inr q))))
    clear hz
    obtain ⟨P, Q, rfl, rfl, rfl, rfl, rfl, p0, p1, q0, q1, f1, f2, f3⟩ := pcE_zero h2
    obtain ⟨_, _, _, _, h4⟩ := chk_ok h3
    obtain rfl : N = m * k := Int.ofNat.inj (h4.trans (Int.natCast_mul m k).symm)
    by_cases hA : AllF m (m * k) f a b
    · exact exactly_all m k A B C D c d e g f a b s w hf ha hb1 hg p0 p1 q0 q1 f1 f2 f3 hA
    · exact exactly_imp m k A B C D c d e g f a b s w hf ha hb1 hg p0 p1 q0 q1 f1 f2 f3 hA
end Go.Proofs.Ytmcdfnhpaneanaa
