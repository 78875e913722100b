/- The checks of a grid, by the program and by the reference, and the guard on its number of cells. -/
import Derived.Test.YtjbofdgdcnfmoaaBase
namespace Go.Proofs.Ytjbofdgdcnfmoaa
open Go.RowKit
set_option maxRecDepth 100000
set_option linter.unusedVariables false
set_option linter.unusedSimpArgs false

/-- What Check answers for sides W, H and n cells. -/
def chk (W H : Int) (n : Nat) : Int := if 64 < W ∨ 64 < H then 4 else if W < 1 ∨ H < 1 ∨ (n : Int) ≠ W * H then 8 else 0

theorem mul_pos_bd {W H : Int} (hW0 : 1 ≤ W) (hW : W ≤ 64) (hH0 : 1 ≤ H) (hH : H ≤ 64) : 1 ≤ W * H ∧ W * H ≤ 4096 := by
  have h1 : 1 * 1 ≤ W * H := Int.mul_le_mul hW0 hH0 (by omega) (by omega)
  have h2 : W * H ≤ 64 * 64 := Int.mul_le_mul hW hH (by omega) (by omega)
  omega

theorem chk_bd (W H : Int) (n : Nat) : 0 ≤ chk W H n ∧ chk W H n ≤ 8 := by unfold chk; split <;> (try split) <;> omega
theorem chk_ok {W H : Int} {n : Nat} (h : chk W H n = 0) : 1 ≤ W ∧ W ≤ 64 ∧ 1 ≤ H ∧ H ≤ 64 ∧ (n : Int) = W * H := by
  unfold chk at h
  split at h
  · omega
  · split at h
    · omega
    · rename_i h1 h2
      refine ⟨by omega, by omega, by omega, by omega, ?_⟩
      by_cases e : (n : Int) = W * H
      · exact e
      · exact absurd (Or.inr (Or.inr e)) h2

theorem ret_i64 {a b : Int} (h : a = b) : Ending.returned (.int .i64 a) = .returned (.int .i64 b) := by rw [h]

set_option maxHeartbeats 400000 in
theorem chk_any (W H : Int) (A : Option Addr) (n c : Nat) (w : World) (hn : n ≤ 4200) :
    Calls Try.prog 70 #[.agg #[.int .i64 W, .int .i64 H, .slice A n c]] w fun e w' => e = .returned (.int .i64 (chk W H n)) ∧ Below w.heap.size w w' := by
  by_cases h1 : 64 < W
  · have hr : chk W H n = 4 := by unfold chk; rw [if_pos (.inl h1)]
    have Hr := Lib.hid hr
    clear hr
    go_enter Try.func70, Try.ntmps70
    go_wp2
    go_ret
    exact ⟨ret_i64 Hr.out.symm, (Below.refl _ _).alloc (Nat.le_refl _) _⟩
  by_cases h2 : 64 < H
  · have hr : chk W H n = 4 := by unfold chk; rw [if_pos (.inr h2)]
    have Hr := Lib.hid hr
    clear hr
    go_enter Try.func70, Try.ntmps70
    go_wp2
    go_ret
    exact ⟨ret_i64 Hr.out.symm, (Below.refl _ _).alloc (Nat.le_refl _) _⟩
  by_cases h3 : W < 1
  · have hr : chk W H n = 8 := by unfold chk; rw [if_neg (by omega), if_pos (.inl h3)]
    have Hr := Lib.hid hr
    clear hr
    go_enter Try.func70, Try.ntmps70
    go_wp2
    go_ret
    exact ⟨ret_i64 Hr.out.symm, (Below.refl _ _).alloc (Nat.le_refl _) _⟩
  by_cases h4 : H < 1
  · have hr : chk W H n = 8 := by unfold chk; rw [if_neg (by omega), if_pos (.inr (.inl h4))]
    have Hr := Lib.hid hr
    clear hr
    go_enter Try.func70, Try.ntmps70
    go_wp2
    go_ret
    exact ⟨ret_i64 Hr.out.symm, (Below.refl _ _).alloc (Nat.le_refl _) _⟩
  obtain ⟨m1, m2⟩ := mul_pos_bd (W := W) (H := H) (by omega) (by omega) (by omega) (by omega)
  by_cases h5 : (n : Int) = W * H
  · have hr : chk W H n = 0 := by unfold chk; rw [if_neg (by omega), if_neg]; rintro (h | h | h) <;> first | omega | exact h h5
    have Hr := Lib.hid hr
    have h6 : ((n : Int) != W * H) = false := by simp [h5]
    clear hr h5
    go_enter Try.func70, Try.ntmps70
    go_wp2
    go_ret
    exact ⟨ret_i64 Hr.out.symm, (Below.refl _ _).alloc (Nat.le_refl _) _⟩
  · have hr : chk W H n = 8 := by unfold chk; rw [if_neg (by omega), if_pos (.inr (.inr h5))]
    have Hr := Lib.hid hr
    have h6 : ((n : Int) != W * H) = true := by simp [h5]
    clear hr h5
    go_enter Try.func70, Try.ntmps70
    go_wp2
    go_ret
    exact ⟨ret_i64 Hr.out.symm, (Below.refl _ _).alloc (Nat.le_refl _) _⟩

set_option maxHeartbeats 400000 in
theorem rchk_any (W H : Int) (A : Option Addr) (n c : Nat) (w : World) (hn : n ≤ 4200) :
    Calls Try.prog 75 #[.agg #[.int .i64 W, .int .i64 H, .slice A n c]] w fun e w' => e = .returned (.int .i64 (chk W H n)) ∧ Below w.heap.size w w' := by
  by_cases h1 : 64 < W
  · have hr : chk W H n = 4 := by unfold chk; rw [if_pos (.inl h1)]
    have Hr := Lib.hid hr
    clear hr
    go_enter Try.func75, Try.ntmps75
    go_wp2
    go_ret
    exact ⟨ret_i64 Hr.out.symm, (Below.refl _ _).alloc (Nat.le_refl _) _⟩
  by_cases h2 : 64 < H
  · have hr : chk W H n = 4 := by unfold chk; rw [if_pos (.inr h2)]
    have Hr := Lib.hid hr
    clear hr
    go_enter Try.func75, Try.ntmps75
    go_wp2
    go_ret
    exact ⟨ret_i64 Hr.out.symm, (Below.refl _ _).alloc (Nat.le_refl _) _⟩
  by_cases h3 : W < 1
  · have hr : chk W H n = 8 := by unfold chk; rw [if_neg (by omega), if_pos (.inl h3)]
    have Hr := Lib.hid hr
    clear hr
    go_enter Try.func75, Try.ntmps75
    go_wp2
    go_ret
    exact ⟨ret_i64 Hr.out.symm, (Below.refl _ _).alloc (Nat.le_refl _) _⟩
  by_cases h4 : H < 1
  · have hr : chk W H n = 8 := by unfold chk; rw [if_neg (by omega), if_pos (.inr (.inl h4))]
    have Hr := Lib.hid hr
    clear hr
    go_enter Try.func75, Try.ntmps75
    go_wp2
    go_ret
    exact ⟨ret_i64 Hr.out.symm, (Below.refl _ _).alloc (Nat.le_refl _) _⟩
  obtain ⟨m1, m2⟩ := mul_pos_bd (W := W) (H := H) (by omega) (by omega) (by omega) (by omega)
  by_cases h5 : (n : Int) = W * H
  · have hr : chk W H n = 0 := by unfold chk; rw [if_neg (by omega), if_neg]; rintro (h | h | h) <;> first | omega | exact h h5
    have Hr := Lib.hid hr
    have h6 : ((n : Int) != W * H) = false := by simp [h5]
    clear hr h5
    go_enter Try.func75, Try.ntmps75
    go_wp2
    go_ret
    exact ⟨ret_i64 Hr.out.symm, (Below.refl _ _).alloc (Nat.le_refl _) _⟩
  · have hr : chk W H n = 8 := by unfold chk; rw [if_neg (by omega), if_pos (.inr (.inr h5))]
    have Hr := Lib.hid hr
    have h6 : ((n : Int) != W * H) = true := by simp [h5]
    clear hr h5
    go_enter Try.func75, Try.ntmps75
    go_wp2
    go_ret
    exact ⟨ret_i64 Hr.out.symm, (Below.refl _ _).alloc (Nat.le_refl _) _⟩

end Go.Proofs.Ytjbofdgdcnfmoaa
