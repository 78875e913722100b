/- Layer 13: fit. -/
import Derived.Test.YtngjcekjboedjaaKff
namespace Go.Proofs.Ytngjcekjboedjaa
open Go.RowKit
set_option maxRecDepth 100000
set_option linter.unusedVariables false
set_option linter.unusedSimpArgs false

theorem rgreat_any (W H : Int) (A : Option Addr) (n c : Nat) (w : World) :
    Calls Try.prog 43 #[.agg #[.int .i64 W, .int .i64 H, .slice A n c]] w fun e w' => e = .returned (.bool (decide (4200 < n))) ∧ Below w.heap.size w w' := by
  have hX := Box.new w W H (.slice A n c)
  obtain ⟨q0, q1, q2, q3, q4, q5, q6⟩ := hX.all
  have LB := Lib.hid (bel_alloc w (.cells #[.int .i64 W, .int .i64 H, .slice A n c] 24))
  have e1 : decide ((4200 : Int) < (n : Int)) = decide (4200 < n) := by rw [Bool.eq_iff_iff, decide_eq_true_iff, decide_eq_true_iff]; omega
  clear hX
  by_cases h : 4200 < n
  · have y1 : (4200 : Int) < (n : Int) := by omega
    have HE := Lib.hid (decide_eq_true h)
    go_enter Try.func43, Try.ntmps43
    go_wp2
    go_ret
    exact ⟨by first | rfl | (rw [HE.out]; rfl), LB.out⟩
  · have y1 : ¬ (4200 : Int) < (n : Int) := by omega
    have HE := Lib.hid (decide_eq_false h)
    go_enter Try.func43, Try.ntmps43
    go_wp2
    go_ret
    exact ⟨by first | rfl | (rw [HE.out]; rfl), LB.out⟩
/-- What fit answers. -/
def fitB (W H : Int) (n : Nat) : Bool := decide (n ≤ 4200 ∧ chk W H n = 0)
theorem fit_any (W H : Int) (A : Option Addr) (n c : Nat) (w : World) :
    Calls Try.prog 66 #[.agg #[.int .i64 W, .int .i64 H, .slice A n c]] w fun e w' => e = .returned (.bool (fitB W H n)) ∧ Below w.heap.size w w' := by
  have HG := Lib.hid (fun u => rgreat_any W H A n c u)
  have HC := Lib.hid (fun u (h : n ≤ 4200) => rchk_any W H A n c u h)
  have X0 := Lib.hid (Box.new w W H (.slice A n c))
  have LB0 := Lib.hid (bel_alloc w (.cells #[.int .i64 W, .int .i64 H, .slice A n c] 24))
  obtain ⟨q0, q1, q2, q3, q4, q5, q6⟩ := X0.out.all
  by_cases h : 4200 < n
  · have HE := Lib.hid (show fitB W H n = false from decide_eq_false (by omega))
    simp only [decide_eq_true h] at HG
    go_enter Try.func66, Try.ntmps66
    go_wp2_with fail
    with_reducible refine Calls.mono (HG.out _) ?_
    rintro e w1 ⟨rfl, hb⟩
    have LB1 := Lib.hid (LB0.out.trans (hb.mono LB0.out.size))
    clear hb q0 q1 q2 q3 q4 q5 q6
    go_wp2
    go_ret
    exact ⟨by rw [HE.out]; rfl, LB1.out⟩
  · simp only [decide_eq_false h] at HG
    have HC2 := Lib.hid (fun u => HC.out u (by omega))
    obtain ⟨z, hz⟩ : ∃ z, chk W H n = z := ⟨_, rfl⟩
    have HE := Lib.hid (show fitB W H n = decide (z = 0) by unfold fitB; rw [Bool.eq_iff_iff, decide_eq_true_iff, decide_eq_true_iff, hz]; omega)
    simp only [hz] at HC2
    clear hz HC h
    go_enter Try.func66, Try.ntmps66
    go_wp2_with fail
    with_reducible refine Calls.mono (HG.out _) ?_
    rintro e w1 ⟨rfl, hb⟩
    have LB1 := Lib.hid (LB0.out.trans (hb.mono LB0.out.size))
    have X1 := Lib.hid (X0.out.below hb X0.out.lt)
    clear hb q0 q1 q2 q3 q4 q5 q6 X0
    obtain ⟨q0, q1, q2, q3, q4, q5, q6⟩ := X1.out.all
    go_wp2_with fail
    with_reducible refine Calls.mono (HC2.out _) ?_
    rintro e w2 ⟨rfl, hb⟩
    have LB2 := Lib.hid (LB1.out.trans (hb.mono LB1.out.size))
    clear hb q0 q1 q2 q3 q4 q5 q6 X1
    by_cases h0 : z = 0
    · have y1 : (z == 0) = true := by rw [h0]; rfl
      have HE2 := Lib.hid (HE.out.trans (decide_eq_true h0))
      clear h0
      go_wp2
      go_ret
      exact ⟨by rw [HE2.out]; rfl, LB2.out⟩
    · have y1 : (z == 0) = false := by rw [beq_eq_false_iff_ne]; exact h0
      have HE2 := Lib.hid (HE.out.trans (decide_eq_false h0))
      clear h0
      go_wp2
      go_ret
      exact ⟨by rw [HE2.out]; rfl, LB2.out⟩
theorem fitB_yes {W H : Nat} (hW0 : 1 ≤ W) (hW : W ≤ 64) (hH0 : 1 ≤ H) (hH : H ≤ 64) : fitB (W : Nat) (H : Nat) (W * H) = true := decide_eq_true ⟨by have := Nat.mul_le_mul hW hH; omega, chk_zero hW0 hW hH0 hH⟩
theorem fitB_nat {W H : Int} {n : Nat} (h : fitB W H n = true) : ∃ P Q : Nat, W = P ∧ H = Q ∧ n = P * Q ∧ 1 ≤ P ∧ P ≤ 64 ∧ 1 ≤ Q ∧ Q ≤ 64 := by
  obtain ⟨h1, h2⟩ := of_decide_eq_true h
  obtain ⟨a1, a2, a3, a4, a5⟩ := chk_ok h2
  obtain ⟨P, rfl⟩ := Int.eq_ofNat_of_zero_le (show 0 ≤ W by omega)
  obtain ⟨Q, rfl⟩ := Int.eq_ofNat_of_zero_le (show 0 ≤ H by omega)
  refine ⟨P, Q, rfl, rfl, ?_, by omega, by omega, by omega, by omega⟩
  have : (n : Int) = ((P * Q : Nat) : Int) := by rw [Int.natCast_mul]; exact a5
  omega
end Go.Proofs.Ytngjcekjboedjaa
