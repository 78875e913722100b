/- The function values that the program hands to 'build': what each one answers. -/
import Derived.Test.YtjbofdgdcnfmoaaBuild
import Derived.Deep.RegionHeld3
import Derived.StillTailTactics
namespace Go.Proofs.Ytjbofdgdcnfmoaa
open Go.RowKit
set_option maxRecDepth 100000
set_option linter.unusedVariables false
set_option linter.unusedSimpArgs false

theorem ix_bd {W H : Nat} {x y : Nat} (hx : x < W) (hy : y < H) : y * W + x < W * H := by
  have h := Nat.mul_le_mul_right W (show y + 1 ≤ H by omega)
  rw [Nat.add_mul, Nat.one_mul, Nat.mul_comm H W] at h
  omega

/-- A valid grid in a variable of its own: its box, its cells, its sides. -/
structure Grid (w : World) (gb : Nat) (W H : Nat) (A : Option Addr) (c : Nat) (f : Nat → Bool) : Prop where
  box : Box w gb W H (.slice A (W * H) c)
  cells : Holds w w.heap.size A (W * H) f
  w0 : 1 ≤ W
  w1 : W ≤ 64
  h0 : 1 ≤ H
  h1 : H ≤ 64

theorem Grid.below {w w' : World} {gb W H c : Nat} {A : Option Addr} {f : Nat → Bool} (h : Grid w gb W H A c f) (hb : Below w.heap.size w w') : Grid w' gb W H A c f :=
  ⟨h.box.below hb h.box.lt, (h.cells.below hb).more hb.size, h.w0, h.w1, h.h0, h.h1⟩

theorem cell_nat (W H : Nat) (A : Option Addr) (c : Nat) (x y : Int) (f : Nat → Bool) (w : World) (hr : Holds w w.heap.size A (W * H) f)
    (hW : W ≤ 64) (hH : H ≤ 64) (i j : Nat) (hx : x = i) (hy : y = j) (hi : i < W) (hj : j < H) :
    Calls Try.prog 88 #[.agg #[.int .i64 W, .int .i64 H, .slice A (W * H) c], .int .i64 x, .int .i64 y] w fun e w' => e = .returned (.bool (f (j * W + i))) ∧ Below w.heap.size w w' := by
  subst hx hy
  have h1 := ix_bd hi hj
  have h2 : W * H ≤ 4096 := Nat.mul_le_mul hW hH
  have e : ((j : Int) * (W : Int) + (i : Int)).toNat = j * W + i := by
    have : ((j : Int) * (W : Int) + (i : Int)) = ((j * W + i : Nat) : Int) := by simp
    rw [this, Int.toNat_natCast]
  have h := cell_any W H A (W * H) c i j f w.heap.size w hr (Nat.le_refl _) (by omega) (by omega) (by omega) (by omega) (by omega) (by omega) (by omega) (by rw [e]; exact h1)
  rw [e] at h
  exact h

set_option maxHeartbeats 400000 in
theorem not_clo {w : World} {gb W H c : Nat} {A : Option Addr} {f : Nat → Bool} (h : Grid w gb W H A c f) :
    Gives 136 #[.pointer (some ⟨gb, 0, none⟩)] w W H (fun x y => !f (y * W + x)) := by
  intro w1 x y hb hx hy
  have h1 := h.below hb
  obtain ⟨q0, q1, q2, q3, q4, q5, q6⟩ := h1.box.all
  have HC := Lib.hid (cell_nat W H A c x y f w1 h1.cells h.w1 h.h1 x y rfl rfl hx hy)
  go_enter Try.func136, Try.ntmps136
  go_wp2_with (go_at_call 88; refine HC.out.mono ?_; rintro e w2 ⟨rfl, hb2⟩)
  go_ret
  exact ⟨rfl, hb2⟩

set_option maxHeartbeats 400000 in
theorem mir0_clo {w : World} {gb W H c : Nat} {A : Option Addr} {f : Nat → Bool} (h : Grid w gb W H A c f) :
    Gives 133 #[.pointer (some ⟨gb, 0, none⟩)] w W H (fun x y => f (y * W + (W - 1 - x))) := by
  intro w1 x y hb hx hy
  have h1 := h.below hb
  obtain ⟨q0, q1, q2, q3, q4, q5, q6⟩ := h1.box.all
  obtain ⟨w0, w1', h0, h1'⟩ : 1 ≤ W ∧ W ≤ 64 ∧ 1 ≤ H ∧ H ≤ 64 := ⟨h.w0, h.w1, h.h0, h.h1⟩
  have HC := Lib.hid (cell_nat W H A c ((W : Int) - 1 - (x : Int)) ((y : Int)) f w1 h1.cells h.w1 h.h1 (W - 1 - x) (y) (by omega) (by omega) (by omega) (by omega))
  go_enter Try.func133, Try.ntmps133
  go_wp2_with (go_at_call 88; refine HC.out.mono ?_; rintro e w2 ⟨rfl, hb2⟩)
  go_ret
  exact ⟨rfl, hb2⟩

set_option maxHeartbeats 400000 in
theorem mir1_clo {w : World} {gb W H c : Nat} {A : Option Addr} {f : Nat → Bool} (h : Grid w gb W H A c f) :
    Gives 134 #[.pointer (some ⟨gb, 0, none⟩)] w W H (fun x y => f ((H - 1 - y) * W + x)) := by
  intro w1 x y hb hx hy
  have h1 := h.below hb
  obtain ⟨q0, q1, q2, q3, q4, q5, q6⟩ := h1.box.all
  obtain ⟨w0, w1', h0, h1'⟩ : 1 ≤ W ∧ W ≤ 64 ∧ 1 ≤ H ∧ H ≤ 64 := ⟨h.w0, h.w1, h.h0, h.h1⟩
  have HC := Lib.hid (cell_nat W H A c ((x : Int)) ((H : Int) - 1 - (y : Int)) f w1 h1.cells h.w1 h.h1 (x) (H - 1 - y) (by omega) (by omega) (by omega) (by omega))
  go_enter Try.func134, Try.ntmps134
  go_wp2_with (go_at_call 88; refine HC.out.mono ?_; rintro e w2 ⟨rfl, hb2⟩)
  go_ret
  exact ⟨rfl, hb2⟩

set_option maxHeartbeats 400000 in
theorem turn_clo {w : World} {gb W H c : Nat} {A : Option Addr} {f : Nat → Bool} (h : Grid w gb W H A c f) :
    Gives 135 #[.pointer (some ⟨gb, 0, none⟩)] w H W (fun x y => f (x * W + y)) := by
  intro w1 x y hb hx hy
  have h1 := h.below hb
  obtain ⟨q0, q1, q2, q3, q4, q5, q6⟩ := h1.box.all
  obtain ⟨w0, w1', h0, h1'⟩ : 1 ≤ W ∧ W ≤ 64 ∧ 1 ≤ H ∧ H ≤ 64 := ⟨h.w0, h.w1, h.h0, h.h1⟩
  have HC := Lib.hid (cell_nat W H A c ((y : Int)) ((x : Int)) f w1 h1.cells h.w1 h.h1 (y) (x) (by omega) (by omega) (by omega) (by omega))
  go_enter Try.func135, Try.ntmps135
  go_wp2_with (go_at_call 88; refine HC.out.mono ?_; rintro e w2 ⟨rfl, hb2⟩)
  go_ret
  exact ⟨rfl, hb2⟩

set_option maxHeartbeats 400000 in
theorem tile_clo {w : World} {gb W H c : Nat} {A : Option Addr} {f : Nat → Bool} (h : Grid w gb W H A c f) (NW NH : Nat) :
    Gives 89 #[.pointer (some ⟨gb, 0, none⟩)] w NW NH (fun x y => f ((y % H) * W + x % W)) := by
  intro w1 x y hb hx hy
  have h1 := h.below hb
  obtain ⟨q0, q1, q2, q3, q4, q5, q6⟩ := h1.box.all
  obtain ⟨w0, w1', h0, h1'⟩ : 1 ≤ W ∧ W ≤ 64 ∧ 1 ≤ H ∧ H ≤ 64 := ⟨h.w0, h.w1, h.h0, h.h1⟩
  have m1 : x % W < W := Nat.mod_lt _ (by omega)
  have m2 : y % H < H := Nat.mod_lt _ (by omega)
  have HC := Lib.hid (fun w' (hb' : Below w1.heap.size w1 w') => cell_nat W H A c ((x : Int) % (W : Int)) ((y : Int) % (H : Int)) f w' (h1.below hb').cells h.w1 h.h1 (x % W) (y % H) (by simp) (by simp) m1 m2)
  have z1 : ¬ W = 0 := by omega
  have z2 : ¬ H = 0 := by omega
  have z3 : (x : Int).tmod (W : Int) = (x : Int) % (W : Int) := Int.tmod_eq_emod_of_nonneg (by omega)
  have z4 : (y : Int).tmod (H : Int) = (y : Int) % (H : Int) := Int.tmod_eq_emod_of_nonneg (by omega)
  go_enter Try.func89, Try.ntmps89
  go_wp2
  go_still_tail 9, (by kernel_rfl)
  change wpList _ _ _ _ _ w1.drew
  go_wp2_with (go_at_call 88; refine (HC.out _ ?_).mono ?_; exact (Below.refl _ _).drew; rintro e w2 ⟨rfl, hb2⟩)
  go_ret
  exact ⟨rfl, (Below.refl _ _).drew.trans hb2⟩

/-- A captured number in a variable of its own. -/
def Num (w : World) (g : Nat) (v : Int) : Prop := w.cell? ⟨g, 0, none⟩ = some (.int .i64 v) ∧ g < w.heap.size
theorem Num.below {w w' : World} {g : Nat} {v : Int} (h : Num w g v) (hb : Below w.heap.size w w') : Num w' g v :=
  ⟨(hb.cell (p := ⟨g, 0, none⟩) h.2).trans h.1, Nat.lt_of_lt_of_le h.2 hb.size⟩

set_option maxHeartbeats 400000 in
theorem part_clo {w : World} {gb W H c : Nat} {A : Option Addr} {f : Nat → Bool} (h : Grid w gb W H A c f) {g1 g2 x0 y0 pw ph : Nat} (n1 : Num w g1 x0) (n2 : Num w g2 y0) (hx0 : x0 + pw ≤ W) (hy0 : y0 + ph ≤ H) :
    Gives 87 #[.pointer (some ⟨gb, 0, none⟩), .pointer (some ⟨g1, 0, none⟩), .pointer (some ⟨g2, 0, none⟩)] w pw ph (fun x y => f ((y0 + y) * W + (x0 + x))) := by
  intro w1 x y hb hx hy
  have h1 := h.below hb
  obtain ⟨q0, q1, q2, q3, q4, q5, q6⟩ := h1.box.all
  obtain ⟨w0, w1', h0, h1'⟩ : 1 ≤ W ∧ W ≤ 64 ∧ 1 ≤ H ∧ H ≤ 64 := ⟨h.w0, h.w1, h.h0, h.h1⟩
  obtain ⟨r1, r2⟩ := n1.below hb
  obtain ⟨r3, r4⟩ := n2.below hb
  have HC := Lib.hid (cell_nat W H A c ((x0 : Int) + (x : Int)) ((y0 : Int) + (y : Int)) f w1 h1.cells h.w1 h.h1 (x0 + x) (y0 + y) (by omega) (by omega) (by omega) (by omega))
  go_enter Try.func87, Try.ntmps87
  go_wp2_with (go_at_call 88; refine HC.out.mono ?_; rintro e w2 ⟨rfl, hb2⟩)
  go_ret
  exact ⟨rfl, hb2⟩

theorem mod_eq (v n : Int) (h0 : 1 ≤ n) : (v.tmod n + n) % n = v % n := by
  rw [Int.add_emod_right]
  rcases Int.le_total 0 v with h | h
  · rw [Int.tmod_eq_emod_of_nonneg h, Int.emod_emod]
  · have e : v.tmod n = v - n * v.tdiv n := by have := Int.mul_tdiv_add_tmod v n; omega
    rw [e, Int.sub_mul_emod_self_left]

set_option maxHeartbeats 400000 in
theorem modulo_any (v n : Int) (w : World) (h0 : 1 ≤ n) (h1 : n ≤ 64) (hv0 : -9223372036854775808 ≤ v) (hv1 : v ≤ 9223372036854775807) :
    Calls Try.prog 90 #[.int .i64 v, .int .i64 n] w fun e w' => e = .returned (.int .i64 (v % n)) ∧ w' = w := by
  have b1 : v.tmod n < n := Int.tmod_lt_of_pos v (by omega)
  have b2 : -n < v.tmod n := by
    have h := Int.tmod_lt_of_pos (-v) (show 0 < n by omega)
    rw [Int.neg_tmod] at h
    omega
  have hm := Lib.hid (mod_eq v n h0)
  go_enter Try.func90, Try.ntmps90
  go_wp2
  go_ret
  exact ⟨ret_i64 hm.out, rfl⟩

set_option maxHeartbeats 400000 in
theorem mod_any (v n : Int) (w : World) (h0 : 1 ≤ n) (h1 : n ≤ 64) (hv0 : -9223372036854775808 ≤ v) (hv1 : v ≤ 9223372036854775807) :
    Calls Try.prog 78 #[.int .i64 v, .int .i64 n] w fun e w' => e = .returned (.int .i64 (v % n)) ∧ w' = w := by
  have b1 : v.tmod n < n := Int.tmod_lt_of_pos v (by omega)
  have b2 : -n < v.tmod n := by
    have h := Int.tmod_lt_of_pos (-v) (show 0 < n by omega)
    rw [Int.neg_tmod] at h
    omega
  have hm := Lib.hid (mod_eq v n h0)
  go_enter Try.func78, Try.ntmps78
  go_wp2
  go_ret
  exact ⟨ret_i64 hm.out, rfl⟩

set_option maxHeartbeats 400000 in
theorem shift_clo {w : World} {gb W H c : Nat} {A : Option Addr} {f : Nat → Bool} (h : Grid w gb W H A c f) {g1 g2 : Nat} {r u : Int} (n1 : Num w g1 r) (n2 : Num w g2 u) (hr0 : 0 ≤ r) (hr1 : r < W) (hu0 : 0 ≤ u) (hu1 : u < H) :
    Gives 91 #[.pointer (some ⟨gb, 0, none⟩), .pointer (some ⟨g1, 0, none⟩), .pointer (some ⟨g2, 0, none⟩)] w W H (fun x y => f ((((y : Int) - u) % (H : Int)).toNat * W + (((x : Int) - r) % (W : Int)).toNat)) := by
  intro w1 x y hb hx hy
  have h1 := h.below hb
  obtain ⟨q0, q1, q2, q3, q4, q5, q6⟩ := h1.box.all
  obtain ⟨w0, w1', h0, h1'⟩ : 1 ≤ W ∧ W ≤ 64 ∧ 1 ≤ H ∧ H ≤ 64 := ⟨h.w0, h.w1, h.h0, h.h1⟩
  obtain ⟨r1, r2⟩ := n1.below hb
  obtain ⟨r3, r4⟩ := n2.below hb
  have m1 : 0 ≤ ((x : Int) - r) % (W : Int) := Int.emod_nonneg _ (by omega)
  have m2 : ((x : Int) - r) % (W : Int) < W := Int.emod_lt_of_pos _ (by omega)
  have m3 : 0 ≤ ((y : Int) - u) % (H : Int) := Int.emod_nonneg _ (by omega)
  have m4 : ((y : Int) - u) % (H : Int) < H := Int.emod_lt_of_pos _ (by omega)
  have HC := fun w' (hb' : Below w1.heap.size w1 w') => cell_nat W H A c (((x : Int) - r) % (W : Int)) (((y : Int) - u) % (H : Int)) f w' (h1.below hb').cells h.w1 h.h1 _ _ (Int.toNat_of_nonneg m1).symm (Int.toNat_of_nonneg m3).symm (by omega) (by omega)
  have HC := Lib.hid HC
  clear h h1
  have e1 : IntKind.i64.wrap ((x : Int) - r) = (x : Int) - r := IntWalk.i64_in _ (by omega)
  have e2 : IntKind.i64.wrap ((y : Int) - u) = (y : Int) - u := IntWalk.i64_in _ (by omega)
  go_enter Try.func91, Try.ntmps91
  go_wp2
  go_still_tail 13, (by kernel_rfl)
  still_call (modulo_any _ _ _ (by omega) (by omega) (by omega) (by omega))
  repeat still_step
  still_call (modulo_any _ _ _ (by omega) (by omega) (by omega) (by omega))
  refine wpStill_nil ?_
  change wpList _ _ _ _ _ w1.drew
  go_wp2_with (go_at_call 88; refine (HC.out _ ?_).mono ?_; exact (Below.refl _ _).drew; rintro e w2 ⟨rfl, hb2⟩)
  go_ret
  exact ⟨rfl, (Below.refl _ _).drew.trans hb2⟩
end Go.Proofs.Ytjbofdgdcnfmoaa
