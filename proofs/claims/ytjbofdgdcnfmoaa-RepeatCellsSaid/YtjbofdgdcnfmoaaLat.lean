/- The lattices: Check by the program and by the reference. -/
import Derived.Test.YtjbofdgdcnfmoaaPlb
namespace Go.Proofs.Ytjbofdgdcnfmoaa
open Go.RowKit
set_option maxRecDepth 100000
set_option linter.unusedVariables false
set_option linter.unusedSimpArgs false

/-- What Check answers for the lattice (a, b, c). -/
def lchk (a b c : Int) : Int := if a < 1 ∨ 64 < a ∨ c < 1 ∨ 64 < c ∨ b < 0 ∨ a ≤ b then 8 else 0
theorem lchk_bd (a b c : Int) : 0 ≤ lchk a b c ∧ lchk a b c ≤ 8 := by unfold lchk; split <;> omega
theorem lchk_ok {a b c : Int} (h : lchk a b c = 0) : 1 ≤ a ∧ a ≤ 64 ∧ 1 ≤ c ∧ c ≤ 64 ∧ 0 ≤ b ∧ b < a := by
  unfold lchk at h
  split at h <;> omega
theorem side_t {n : Int} (h0 : 1 ≤ n) (h1 : n ≤ 64) (w : World) : Calls Try.prog 74 #[.int .i64 n] w fun e w' => e = .returned (.bool true) ∧ w' = w := by
  have h := side_any n w
  rwa [decide_eq_true ⟨h0, h1⟩] at h
theorem side_f {n : Int} (h0 : ¬ (1 ≤ n ∧ n ≤ 64)) (w : World) : Calls Try.prog 74 #[.int .i64 n] w fun e w' => e = .returned (.bool false) ∧ w' = w := by
  have h := side_any n w
  rwa [decide_eq_false h0] at h
set_option maxHeartbeats 400000 in
theorem lc_a (a b c : Int) (w : World) (h : ¬ (1 ≤ a ∧ a ≤ 64)) : Calls Try.prog 26 #[.agg #[.int .i64 a, .int .i64 b, .int .i64 c]] w fun e w' => e = .returned (.int .i64 8) ∧ Below w.heap.size w w' := by
  go_enter Try.func26, Try.ntmps26
  go_wp2_with (go_at_call 74; refine (side_f (by omega) _).mono ?_; rintro e w2 ⟨rfl, rfl⟩)
  go_ret
  exact ⟨rfl, (Below.refl _ _).alloc (Nat.le_refl _) _⟩
set_option maxHeartbeats 400000 in
theorem lc_c (a b c : Int) (w : World) (h0 : 1 ≤ a) (h1 : a ≤ 64) (h : ¬ (1 ≤ c ∧ c ≤ 64)) : Calls Try.prog 26 #[.agg #[.int .i64 a, .int .i64 b, .int .i64 c]] w fun e w' => e = .returned (.int .i64 8) ∧ Below w.heap.size w w' := by
  have HA := Lib.hid (fun w => side_t h0 h1 w)
  have HC := Lib.hid (fun w => side_f h w)
  clear h0 h1 h
  go_enter Try.func26, Try.ntmps26
  go_wp2_with (go_at_call 74; first | (with_reducible refine (HA.out _).mono ?_; rintro e w2 ⟨rfl, rfl⟩) | (with_reducible refine (HC.out _).mono ?_; rintro e w2 ⟨rfl, rfl⟩))
  go_ret
  exact ⟨rfl, (Below.refl _ _).alloc (Nat.le_refl _) _⟩
set_option maxHeartbeats 400000 in
theorem lc_b (a b c : Int) (w : World) (h0 : 1 ≤ a) (h1 : a ≤ 64) (c0 : 1 ≤ c) (c1 : c ≤ 64) (hb : b < 0) : Calls Try.prog 26 #[.agg #[.int .i64 a, .int .i64 b, .int .i64 c]] w fun e w' => e = .returned (.int .i64 8) ∧ Below w.heap.size w w' := by
  have HA := Lib.hid (fun w => side_t h0 h1 w)
  have HC := Lib.hid (fun w => side_t c0 c1 w)
  clear h0 h1 c0 c1
  go_enter Try.func26, Try.ntmps26
  go_wp2_with (go_at_call 74; first | (with_reducible refine (HA.out _).mono ?_; rintro e w2 ⟨rfl, rfl⟩) | (with_reducible refine (HC.out _).mono ?_; rintro e w2 ⟨rfl, rfl⟩))
  go_ret
  exact ⟨rfl, (Below.refl _ _).alloc (Nat.le_refl _) _⟩
set_option maxHeartbeats 400000 in
theorem lc_g (a b c : Int) (w : World) (h0 : 1 ≤ a) (h1 : a ≤ 64) (c0 : 1 ≤ c) (c1 : c ≤ 64) (hb : 0 ≤ b) (hg : a ≤ b) : Calls Try.prog 26 #[.agg #[.int .i64 a, .int .i64 b, .int .i64 c]] w fun e w' => e = .returned (.int .i64 8) ∧ Below w.heap.size w w' := by
  have HA := Lib.hid (fun w => side_t h0 h1 w)
  have HC := Lib.hid (fun w => side_t c0 c1 w)
  clear h0 h1 c0 c1
  go_enter Try.func26, Try.ntmps26
  go_wp2_with (go_at_call 74; first | (with_reducible refine (HA.out _).mono ?_; rintro e w2 ⟨rfl, rfl⟩) | (with_reducible refine (HC.out _).mono ?_; rintro e w2 ⟨rfl, rfl⟩))
  go_ret
  exact ⟨rfl, (Below.refl _ _).alloc (Nat.le_refl _) _⟩
set_option maxHeartbeats 400000 in
theorem lc_o (a b c : Int) (w : World) (h0 : 1 ≤ a) (h1 : a ≤ 64) (c0 : 1 ≤ c) (c1 : c ≤ 64) (hb : 0 ≤ b) (hg : b < a) : Calls Try.prog 26 #[.agg #[.int .i64 a, .int .i64 b, .int .i64 c]] w fun e w' => e = .returned (.int .i64 0) ∧ Below w.heap.size w w' := by
  have HA := Lib.hid (fun w => side_t h0 h1 w)
  have HC := Lib.hid (fun w => side_t c0 c1 w)
  clear h0 h1 c0 c1
  go_enter Try.func26, Try.ntmps26
  go_wp2_with (go_at_call 74; first | (with_reducible refine (HA.out _).mono ?_; rintro e w2 ⟨rfl, rfl⟩) | (with_reducible refine (HC.out _).mono ?_; rintro e w2 ⟨rfl, rfl⟩))
  go_ret
  exact ⟨rfl, (Below.refl _ _).alloc (Nat.le_refl _) _⟩
theorem lchk_any (a b c : Int) (w : World) : Calls Try.prog 26 #[.agg #[.int .i64 a, .int .i64 b, .int .i64 c]] w fun e w' => e = .returned (.int .i64 (lchk a b c)) ∧ Below w.heap.size w w' := by
  have e8 : a < 1 ∨ 64 < a ∨ c < 1 ∨ 64 < c ∨ b < 0 ∨ a ≤ b → lchk a b c = 8 := fun h => if_pos h
  by_cases h : 1 ≤ a ∧ a ≤ 64
  · by_cases hc : 1 ≤ c ∧ c ≤ 64
    · by_cases hb : b < 0
      · rw [e8 (by omega)]; exact lc_b a b c w h.1 h.2 hc.1 hc.2 hb
      · by_cases hg : a ≤ b
        · rw [e8 (by omega)]; exact lc_g a b c w h.1 h.2 hc.1 hc.2 (by omega) hg
        · rw [show lchk a b c = 0 from if_neg (by omega)]; exact lc_o a b c w h.1 h.2 hc.1 hc.2 (by omega) (by omega)
    · rw [e8 (by omega)]; exact lc_c a b c w h.1 h.2 hc
  · rw [e8 (by omega)]; exact lc_a a b c w h
set_option maxHeartbeats 400000 in
theorem lr_a0 (a b c : Int) (w : World) (h : a < 1) : Calls Try.prog 32 #[.agg #[.int .i64 a, .int .i64 b, .int .i64 c]] w fun e w' => e = .returned (.int .i64 8) ∧ Below w.heap.size w w' := by
  go_enter Try.func32, Try.ntmps32
  go_wp2
  go_ret
  exact ⟨rfl, (Below.refl _ _).alloc (Nat.le_refl _) _⟩
set_option maxHeartbeats 400000 in
theorem lr_a1 (a b c : Int) (w : World) (h0 : 1 ≤ a) (h : 64 < a) : Calls Try.prog 32 #[.agg #[.int .i64 a, .int .i64 b, .int .i64 c]] w fun e w' => e = .returned (.int .i64 8) ∧ Below w.heap.size w w' := by
  go_enter Try.func32, Try.ntmps32
  go_wp2
  go_ret
  exact ⟨rfl, (Below.refl _ _).alloc (Nat.le_refl _) _⟩
set_option maxHeartbeats 400000 in
theorem lr_c0 (a b c : Int) (w : World) (h0 : 1 ≤ a) (h1 : a ≤ 64) (h : c < 1) : Calls Try.prog 32 #[.agg #[.int .i64 a, .int .i64 b, .int .i64 c]] w fun e w' => e = .returned (.int .i64 8) ∧ Below w.heap.size w w' := by
  go_enter Try.func32, Try.ntmps32
  go_wp2
  go_ret
  exact ⟨rfl, (Below.refl _ _).alloc (Nat.le_refl _) _⟩
set_option maxHeartbeats 400000 in
theorem lr_c1 (a b c : Int) (w : World) (h0 : 1 ≤ a) (h1 : a ≤ 64) (h2 : 1 ≤ c) (h : 64 < c) : Calls Try.prog 32 #[.agg #[.int .i64 a, .int .i64 b, .int .i64 c]] w fun e w' => e = .returned (.int .i64 8) ∧ Below w.heap.size w w' := by
  go_enter Try.func32, Try.ntmps32
  go_wp2
  go_ret
  exact ⟨rfl, (Below.refl _ _).alloc (Nat.le_refl _) _⟩
set_option maxHeartbeats 400000 in
theorem lr_b0 (a b c : Int) (w : World) (h0 : 1 ≤ a) (h1 : a ≤ 64) (h2 : 1 ≤ c) (h3 : c ≤ 64) (h : b < 0) : Calls Try.prog 32 #[.agg #[.int .i64 a, .int .i64 b, .int .i64 c]] w fun e w' => e = .returned (.int .i64 8) ∧ Below w.heap.size w w' := by
  go_enter Try.func32, Try.ntmps32
  go_wp2
  go_ret
  exact ⟨rfl, (Below.refl _ _).alloc (Nat.le_refl _) _⟩
set_option maxHeartbeats 400000 in
theorem lr_g (a b c : Int) (w : World) (h0 : 1 ≤ a) (h1 : a ≤ 64) (h2 : 1 ≤ c) (h3 : c ≤ 64) (h4 : 0 ≤ b) (h : a ≤ b) : Calls Try.prog 32 #[.agg #[.int .i64 a, .int .i64 b, .int .i64 c]] w fun e w' => e = .returned (.int .i64 8) ∧ Below w.heap.size w w' := by
  go_enter Try.func32, Try.ntmps32
  go_wp2
  go_ret
  exact ⟨rfl, (Below.refl _ _).alloc (Nat.le_refl _) _⟩
set_option maxHeartbeats 400000 in
theorem lr_o (a b c : Int) (w : World) (h0 : 1 ≤ a) (h1 : a ≤ 64) (h2 : 1 ≤ c) (h3 : c ≤ 64) (h4 : 0 ≤ b) (h : b < a) : Calls Try.prog 32 #[.agg #[.int .i64 a, .int .i64 b, .int .i64 c]] w fun e w' => e = .returned (.int .i64 0) ∧ Below w.heap.size w w' := by
  go_enter Try.func32, Try.ntmps32
  go_wp2
  go_ret
  exact ⟨rfl, (Below.refl _ _).alloc (Nat.le_refl _) _⟩
theorem rlchk_any (a b c : Int) (w : World) : Calls Try.prog 32 #[.agg #[.int .i64 a, .int .i64 b, .int .i64 c]] w fun e w' => e = .returned (.int .i64 (lchk a b c)) ∧ Below w.heap.size w w' := by
  have e8 : a < 1 ∨ 64 < a ∨ c < 1 ∨ 64 < c ∨ b < 0 ∨ a ≤ b → lchk a b c = 8 := fun h => if_pos h
  by_cases h : a < 1
  · rw [e8 (by omega)]; exact lr_a0 a b c w h
  by_cases h1 : 64 < a
  · rw [e8 (by omega)]; exact lr_a1 a b c w (by omega) h1
  by_cases h2 : c < 1
  · rw [e8 (by omega)]; exact lr_c0 a b c w (by omega) (by omega) h2
  by_cases h3 : 64 < c
  · rw [e8 (by omega)]; exact lr_c1 a b c w (by omega) (by omega) (by omega) h3
  by_cases h4 : b < 0
  · rw [e8 (by omega)]; exact lr_b0 a b c w (by omega) (by omega) (by omega) (by omega) h4
  by_cases h5 : a ≤ b
  · rw [e8 (by omega)]; exact lr_g a b c w (by omega) (by omega) (by omega) (by omega) (by omega) h5
  · rw [show lchk a b c = 0 from if_neg (by omega)]; exact lr_o a b c w (by omega) (by omega) (by omega) (by omega) (by omega) (by omega)
end Go.Proofs.Ytjbofdgdcnfmoaa
