/- The reference's Not, And and Or. -/
import Derived.Test.YtbafhdinalapoaaOps
import Derived.Test.YtbafhdinalapoaaTwin
import Derived.StillTailTactics
namespace Go.Proofs.Ytbafhdinalapoaa
open Go.RowKit
set_option linter.unusedVariables false
set_option linter.unusedSimpArgs false

/-- A grid came back, in a new row, with no error (its capacity is open). -/
def OkRef (w : World) (W H : Nat) (F : Nat → Bool) (e : Ending) (w' : World) : Prop :=
  ∃ k d, e = .returned (.tuple #[.agg #[.int .i64 W, .int .i64 H, .slice (some ⟨k, 0, none⟩) (W * H) d], .int .i64 0]) ∧ w.heap.size ≤ k ∧ Row w' k (W * H) F ∧ Below w.heap.size w w'
theorem fin_ref {w w2 : World} {W H k r d : Nat} {F : Nat → Bool} {a b u : Value} (hr : w.heap.size ≤ r) (hk : r < k) (hrow : Row w2 k (W * H) F) (hb : Below w.heap.size w w2) :
    OkRef w W H F (.returned (.tuple #[.agg #[.int .i64 W, .int .i64 H, .slice (some ⟨k, 0, none⟩) (W * H) d], .int .i64 0])) (((w2.setCell ⟨r, 0, none⟩ a).setCell ⟨r, 1, none⟩ b).setCell ⟨r, 2, none⟩ u) :=
  ⟨k, d, rfl, by omega, ((hrow.far (by simp; omega) _).far (by simp; omega) _).far (by simp; omega) _, ((hb.setCell hr _).setCell hr _).setCell hr _⟩

theorem rchk_valid {W H : Nat} (A : Option Addr) (c : Nat) (w : World) (hW0 : 1 ≤ W) (hW : W ≤ 64) (hH0 : 1 ≤ H) (hH : H ≤ 64) :
    Calls Try.prog 41 #[.agg #[.int .i64 W, .int .i64 H, .slice A (W * H) c]] w fun e w' => e = .returned (.int .i64 0) ∧ Below w.heap.size w w' := by
  have h := rchk_any W H A (W * H) c w (by have := Nat.mul_le_mul hW hH; omega)
  rw [chk_zero hW0 hW hH0 hH] at h
  exact h
theorem rchk_err {W H : Int} {A : Option Addr} {n c : Nat} {err : Int} (hn : n ≤ 4200) (hx : chk W H n = err) (w : World) :
    Calls Try.prog 41 #[.agg #[.int .i64 W, .int .i64 H, .slice A n c]] w fun e w' => e = .returned (.int .i64 err) ∧ Below w.heap.size w w' := by
  have h := rchk_any W H A n c w hn
  rw [hx] at h
  exact h

/-- The reference's Not behind k rounds. -/
structure NotRel (w wr : World) (W H : Nat) (f : Nat → Bool) (r o k d : Nat) (m : Nat) : Prop where
  out : Box wr o W H (.slice (some ⟨k, 0, none⟩) (W * H) d)
  res : Box wr r 0 0 (.slice none 0 0)
  row : Row wr k (W * H) (fun i => if i < m then !f i else f i)
  bel : Below w.heap.size w wr

end Go.Proofs.Ytbafhdinalapoaa
