/- Reverse and Tile, the program's and the reference's. -/
import Derived.Test.YtbafhdinalapoaaIRun
import Derived.Test.YtbafhdinalapoaaIChk
namespace Go.Proofs.Ytbafhdinalapoaa.L2
open Go.RowKit
set_option linter.unusedVariables false
set_option linter.unusedSimpArgs false

theorem chk_is {A : Option Addr} {n : Nat} (c : Nat) {f : Nat → Int} {err : Int} (hn : n ≤ 420) (hx : lchk n f = err) (w : World) (hr : Holds w w.heap.size A n f) :
    Calls Try.prog 111 #[.slice A n c] w fun e w' => e = .returned (.int .i64 err) ∧ Below w.heap.size w w' := by
  subst hx
  exact check_any A n c f w hn hr
theorem rchk_is {A : Option Addr} {n : Nat} (c : Nat) {f : Nat → Int} {err : Int} (hn : n ≤ 420) (hx : lchk n f = err) (w : World) (hr : Holds w w.heap.size A n f) :
    Calls Try.prog 113 #[.slice A n c] w fun e w' => e = .returned (.int .i64 err) ∧ Below w.heap.size w w' := by
  subst hx
  exact rcheck_any A n c f w hn hr
theorem lchk_le {n : Nat} {f : Nat → Int} (h : lchk n f = 0) : n ≤ 400 := by
  unfold lchk at h
  split at h
  · cases h
  · omega
theorem Lst.new {w : World} {A : Option Addr} {n c : Nat} {f : Nat → Int} (h : Holds w w.heap.size A n f) : Lst (w.alloc (.cells #[.slice A n c] 28)) w.heap.size A n c f :=
  ⟨by simp only [World.cell?, heap_alloc_new]; rfl, by simp, (h.below (below_box w _ _)).more (by simp)⟩

/-- The error of Tile, or 0. -/
def tchk (n : Nat) (f : Nat → Int) (t : Int) : Int := if lchk n f ≠ 0 then lchk n f else if t < 0 then 2 else if 0 < n ∧ 400 / (n : Int) < t then 4 else 0

theorem tile_le {n : Nat} {f : Nat → Int} {t : Int} (h : tchk n f t = 0) : lchk n f = 0 ∧ 0 ≤ t ∧ (0 < n → t ≤ 400 / (n : Int)) := by
  unfold tchk at h
  split at h
  · exact absurd h (by assumption)
  · rename_i h1
    split at h
    · cases h
    · split at h
      · cases h
      · exact ⟨by omega, by omega, fun hn => by omega⟩

theorem tile_mul {n T : Nat} (h : 0 < n → (T : Int) ≤ 400 / (n : Int)) : n * T ≤ 400 := by
  rcases Nat.eq_zero_or_pos n with h0 | h0
  · subst h0; simp
  · have h1 := h h0
    have h2 : T ≤ 400 / n := Int.ofNat_le.1 (by rw [Int.natCast_ediv]; exact h1)
    calc n * T ≤ n * (400 / n) := Nat.mul_le_mul_left _ h2
      _ ≤ 400 := Nat.mul_div_le 400 n

end Go.Proofs.Ytbafhdinalapoaa.L2
