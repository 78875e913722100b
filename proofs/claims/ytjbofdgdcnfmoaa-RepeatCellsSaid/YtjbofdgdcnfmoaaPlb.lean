/- plane$1: a row of the plane; modulo. -/
import Derived.Test.YtjbofdgdcnfmoaaPla
namespace Go.Proofs.Ytjbofdgdcnfmoaa
open Go.RowKit
set_option maxRecDepth 100000
set_option linter.unusedVariables false
set_option linter.unusedSimpArgs false

set_option maxHeartbeats 800000 in
theorem plane1_any {v : World} {lo g t W H k d : Nat} {s : Value} {f : Nat → Bool} (h : PL v lo g t W H k d s f) (hW0 : 1 ≤ W) (hW : W ≤ 64) (hH0 : 1 ≤ H) (hH : H ≤ 64) (x y n : Nat) (hx : x ≤ 1000) (hy : y ≤ 1000) (hn0 : 1 ≤ n) (hn : n ≤ W) :
    Calls Try.prog 132 #[.int .i64 (x : Nat), .int .i64 (y : Nat), .int .i64 (n : Nat), .pointer (some ⟨g, 0, none⟩), .pointer (some ⟨t, 0, none⟩)] v fun e w' => e = .returned (.slice (some ⟨k, 2 * W * (y % H) + x % W, none⟩) n n) ∧ ∃ m, w' = v.drewN m := by
  obtain ⟨q0, q1, -⟩ := h.box.all
  have q2 := h.var
  have m1 : y % H < H := Nat.mod_lt _ (by omega)
  have m2 : x % W < W := Nat.mod_lt _ (by omega)
  have z1 : ¬ H = 0 := by omega
  have z2 : ¬ W = 0 := by omega
  have z3 : (y : Int).tmod (H : Int) = ((y % H : Nat) : Int) := by rw [Int.tmod_eq_emod_of_nonneg (by omega)]; simp
  have z4 : (x : Int).tmod (W : Int) = ((x % W : Nat) : Int) := by rw [Int.tmod_eq_emod_of_nonneg (by omega)]; simp
  have e0 : 2 * W * (y % H) + 2 * W ≤ H * (2 * W) := by
    rw [← Nat.mul_succ, Nat.mul_comm H]; exact Nat.mul_le_mul_left _ m1
  have e1 : H * (2 * W) ≤ 64 * 128 := Nat.mul_le_mul hH (by omega)
  have hd := h.dd
  generalize y % H = r at *
  generalize x % W = c at *
  obtain ⟨p, hp⟩ : ∃ p, 2 * W * r = p := ⟨_, rfl⟩
  have z5 : IntKind.i64.wrap (2 * (W : Int)) = 2 * (W : Int) := IntWalk.i64_in _ (by omega)
  have z6 : IntKind.i64.wrap (2 * (W : Int) * (r : Int)) = (p : Int) := by
    have : 2 * (W : Int) * (r : Int) = (p : Int) := by rw [← hp]; simp
    rw [this]; exact IntWalk.i64_in _ (by omega)
  have z7 : IntKind.i64.wrap ((p : Int) + (c : Int)) = ((p + c : Nat) : Int) := by rw [IntWalk.i64_in _ (by omega)]; simp
  rw [hp] at e0 ⊢
  clear hp
  generalize H * (2 * W) = L at *
  go_enter Try.func132, Try.ntmps132
  go_wp2
  go_quiet (fail)
  go_wp2
  go_ret
  exact ⟨by show Ending.returned (.slice (some ⟨k, p + c, none⟩) (p + c + n - (p + c)) (p + c + n - (p + c))) = _; rw [Nat.add_sub_cancel_left], _, rfl⟩
set_option maxHeartbeats 400000 in
theorem modulo6_any (v n : Int) (w : World) (h0 : 1 ≤ n) (h1 : n ≤ 64) (hv0 : -9223372036854775808 ≤ v) (hv1 : v ≤ 9223372036854775807) :
    Calls Try.prog 73 #[.int .i64 v, .int .i64 n] w fun e w' => e = .returned (.int .i64 (v % n)) ∧ w' = w := by
  have b1 : v.tmod n < n := Int.tmod_lt_of_pos v (by omega)
  have b2 : -n < v.tmod n := by
    have h := Int.tmod_lt_of_pos (-v) (show 0 < n by omega)
    rw [Int.neg_tmod] at h
    omega
  have hm := Lib.hid (mod_eq v n h0)
  go_enter Try.func73, Try.ntmps73
  go_wp2
  go_ret
  exact ⟨ret_i64 hm.out, rfl⟩
set_option maxHeartbeats 400000 in
theorem side_any (n : Int) (w : World) : Calls Try.prog 74 #[.int .i64 n] w fun e w' => e = .returned (.bool (decide (1 ≤ n ∧ n ≤ 64))) ∧ w' = w := by
  by_cases h : 1 ≤ n <;> by_cases h' : n ≤ 64
  all_goals
    go_enter Try.func74, Try.ntmps74
    go_wp2
    go_ret
    exact ⟨ret_bool (by simp [h, h']), rfl⟩
end Go.Proofs.Ytjbofdgdcnfmoaa
