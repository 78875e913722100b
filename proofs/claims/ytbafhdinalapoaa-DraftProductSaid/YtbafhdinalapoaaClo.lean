/- The function values that the program hands to 'build': what each one answers. -/
import Derived.Test.YtbafhdinalapoaaBuild
import Derived.Deep.RegionHeld3
import Derived.StillTailTactics
namespace Go.Proofs.Ytbafhdinalapoaa
open Go.RowKit
set_option linter.unusedVariables false
set_option linter.unusedSimpArgs false

theorem ix_bd {W H : Nat} {x y : Nat} (hx : x < W) (hy : y < H) : y * W + x < W * H := by
  have h := Nat.mul_le_mul_right W (show y + 1 ≤ H by omega)
  rw [Nat.add_mul, Nat.one_mul, Nat.mul_comm H W] at h
  omega

/-- A valid grid in a variable of its own: its box, its cells, its sides. -/
structure Grid (w : World) (gb : Nat) (W H : Nat) (A : Option Addr) (c : Nat) (f : Nat → Bool) : Prop where
  box : Box w gb W H (.slice A (W * H) c)
  cells : Holds w w.heap.size A (W * H) f
  w0 : 1 ≤ W
  w1 : W ≤ 64
  h0 : 1 ≤ H
  h1 : H ≤ 64

theorem Grid.below {w w' : World} {gb W H c : Nat} {A : Option Addr} {f : Nat → Bool} (h : Grid w gb W H A c f) (hb : Below w.heap.size w w') : Grid w' gb W H A c f :=
  ⟨h.box.below hb h.box.lt, (h.cells.below hb).more hb.size, h.w0, h.w1, h.h0, h.h1⟩

theorem cell_nat (W H : Nat) (A : Option Addr) (c : Nat) (x y : Int) (f : Nat → Bool) (w : World) (hr : Holds w w.heap.size A (W * H) f)
    (hW : W ≤ 64) (hH : H ≤ 64) (i j : Nat) (hx : x = i) (hy : y = j) (hi : i < W) (hj : j < H) :
    Calls Try.prog 78 #[.agg #[.int .i64 W, .int .i64 H, .slice A (W * H) c], .int .i64 x, .int .i64 y] w fun e w' => e = .returned (.bool (f (j * W + i))) ∧ Below w.heap.size w w' := by
  subst hx hy
  have h1 := ix_bd hi hj
  have h2 : W * H ≤ 4096 := Nat.mul_le_mul hW hH
  have e : ((j : Int) * (W : Int) + (i : Int)).toNat = j * W + i := by
    have : ((j : Int) * (W : Int) + (i : Int)) = ((j * W + i : Nat) : Int) := by simp
    rw [this, Int.toNat_natCast]
  have h := cell_any W H A (W * H) c i j f w.heap.size w hr (Nat.le_refl _) (by omega) (by omega) (by omega) (by omega) (by omega) (by omega) (by omega) (by rw [e]; exact h1)
  rw [e] at h
  exact h

set_option maxHeartbeats 400000 in
theorem turn_clo {w : World} {gb W H c : Nat} {A : Option Addr} {f : Nat → Bool} (h : Grid w gb W H A c f) :
    Gives 77 #[.pointer (some ⟨gb, 0, none⟩)] w H W (fun x y => f (x * W + y)) := by
  intro w1 x y hb hx hy
  have h1 := h.below hb
  obtain ⟨q0, q1, q2, q3, q4, q5, q6⟩ := h1.box.all
  obtain ⟨w0, w1', h0, h1'⟩ : 1 ≤ W ∧ W ≤ 64 ∧ 1 ≤ H ∧ H ≤ 64 := ⟨h.w0, h.w1, h.h0, h.h1⟩
  have HC := Lib.hid (cell_nat W H A c ((y : Int)) ((x : Int)) f w1 h1.cells h.w1 h.h1 (y) (x) (by omega) (by omega) (by omega) (by omega))
  go_enter Try.func77, Try.ntmps77
  go_wp2_with (go_at_call 78; refine HC.out.mono ?_; rintro e w2 ⟨rfl, hb2⟩)
  go_ret
  exact ⟨rfl, hb2⟩

/-- A captured number in a variable of its own. -/
def Num (w : World) (g : Nat) (v : Int) : Prop := w.cell? ⟨g, 0, none⟩ = some (.int .i64 v) ∧ g < w.heap.size
theorem Num.below {w w' : World} {g : Nat} {v : Int} (h : Num w g v) (hb : Below w.heap.size w w') : Num w' g v :=
  ⟨(hb.cell (p := ⟨g, 0, none⟩) h.2).trans h.1, Nat.lt_of_lt_of_le h.2 hb.size⟩

theorem mod_eq (v n : Int) (h0 : 1 ≤ n) : (v.tmod n + n) % n = v % n := by
  rw [Int.add_emod_right]
  rcases Int.le_total 0 v with h | h
  · rw [Int.tmod_eq_emod_of_nonneg h, Int.emod_emod]
  · have e : v.tmod n = v - n * v.tdiv n := by have := Int.mul_tdiv_add_tmod v n; omega
    rw [e, Int.sub_mul_emod_self_left]

end Go.Proofs.Ytbafhdinalapoaa
