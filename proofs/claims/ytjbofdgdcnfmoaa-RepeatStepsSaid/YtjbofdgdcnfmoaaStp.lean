/- The statement RepeatSteps: the walk. -/
import Derived.Test.YtjbofdgdcnfmoaaExa
namespace Go.Proofs.Ytjbofdgdcnfmoaa
open Go.RowKit
set_option maxRecDepth 100000
set_option linter.unusedVariables false
set_option linter.unusedSimpArgs false

theorem inn_own (a b c i k : Int) (hc : c ≠ 0) : inn a b c (i * a + k * b) (k * c) = true := by
  unfold inn
  rw [decide_eq_true_iff]
  refine ⟨Int.mul_emod_left _ _, ?_⟩
  rw [Int.mul_ediv_cancel _ hc, Int.add_sub_cancel]
  exact Int.mul_emod_left _ _
theorem inn_add (a b c i k x y : Int) (hc : c ≠ 0) : inn a b c (x + i * a + k * b) (y + k * c) = inn a b c x y := by
  unfold inn
  have e1 : (y + k * c) % c = y % c := Int.add_mul_emod_self_right _ _ _
  have e2 : (y + k * c) / c = y / c + k := Int.add_mul_ediv_right _ _ hc
  have e3 : x + i * a + k * b - (y / c + k) * b = x - y / c * b + i * a := by rw [Int.add_mul]; omega
  rw [e1, e2, e3, Int.add_mul_emod_self_right]
theorem inn_neg (a b c x y : Int) : inn a b c (-x) (-y) = inn a b c x y := by
  unfold inn
  have e : (-y % c = 0 ∧ (-x - -y / c * b) % a = 0) ↔ (y % c = 0 ∧ (x - y / c * b) % a = 0) := by
    have e1 : -y % c = 0 ↔ y % c = 0 := by
      rw [← Int.dvd_iff_emod_eq_zero, ← Int.dvd_iff_emod_eq_zero, Int.dvd_neg]
    rw [e1]
    constructor
    · rintro ⟨h1, h2⟩
      refine ⟨h1, ?_⟩
      rw [Int.neg_ediv_of_dvd (Int.dvd_of_emod_eq_zero h1), show -x - -(y / c) * b = -(x - y / c * b) by rw [Int.neg_mul]; omega, ← Int.dvd_iff_emod_eq_zero, Int.dvd_neg] at h2
      exact Int.emod_eq_zero_of_dvd h2
    · rintro ⟨h1, h2⟩
      refine ⟨h1, ?_⟩
      rw [Int.neg_ediv_of_dvd (Int.dvd_of_emod_eq_zero h1), show -x - -(y / c) * b = -(x - y / c * b) by rw [Int.neg_mul]; omega, ← Int.dvd_iff_emod_eq_zero, Int.dvd_neg]
      exact Int.dvd_of_emod_eq_zero h2
  by_cases h : y % c = 0 ∧ (x - y / c * b) % a = 0
  · rw [decide_eq_true h, decide_eq_true (e.2 h)]
  · rw [decide_eq_false h, decide_eq_false (fun k => h (e.1 k))]
theorem inn_short {a b c x y : Int} (h : inn a b c x y = true) (h1 : -c < y) (h2 : y < c) : y = 0 ∧ x % a = 0 := by
  unfold inn at h
  rw [decide_eq_true_iff] at h
  obtain ⟨m, rfl⟩ := Int.dvd_of_emod_eq_zero h.1
  have hm : m = 0 := by
    rcases Int.lt_trichotomy m 0 with i | i | i
    · have := Int.mul_le_mul_of_nonneg_left (show m ≤ -1 by omega) (show 0 ≤ c by omega); omega
    · exact i
    · have := Int.mul_le_mul_of_nonneg_left (show 1 ≤ m by omega) (show 0 ≤ c by omega); omega
  subst hm
  have h3 := h.2
  rw [Int.mul_zero, Int.zero_ediv, Int.zero_mul, Int.sub_zero] at h3
  exact ⟨by rw [Int.mul_zero], h3⟩
theorem max4 (i k x y : Int) : ∃ M : Int, (∀ ts t (w : World), (Builtin.max_ ts t #[.int .i64 i, .int .i64 k, .int .i64 x, .int .i64 y]).run Try.prog w = .ok (.int .i64 M) w) ∧ (M ≤ 1000000 ↔ i ≤ 1000000 ∧ k ≤ 1000000 ∧ x ≤ 1000000 ∧ y ≤ 1000000) := by
  refine ⟨_, fun ts t w => by simp [Builtin.max_, Builtin.max2]; rfl, ?_⟩
  split <;> split <;> split <;> omega
theorem min4 (i k x y : Int) : ∃ M : Int, (∀ ts t (w : World), (Builtin.min_ ts t #[.int .i64 i, .int .i64 k, .int .i64 x, .int .i64 y]).run Try.prog w = .ok (.int .i64 M) w) ∧ (-1000000 ≤ M ↔ -1000000 ≤ i ∧ -1000000 ≤ k ∧ -1000000 ≤ x ∧ -1000000 ≤ y) := by
  refine ⟨_, fun ts t w => by simp [Builtin.min_, Builtin.min2]; rfl, ?_⟩
  split <;> split <;> split <;> omega
set_option maxHeartbeats 800000 in
theorem steps_bad (a b c i k x y : Int) (w : World) (h : ¬ lchk a b c = 0) : Calls Try.prog 7 #[.agg #[.int .i64 a, .int .i64 b, .int .i64 c], .int .i64 i, .int .i64 k, .int .i64 x, .int .i64 y] w fun e w' => e = .returned (.bool true) ∧ Below w.heap.size w w' := by
  obtain ⟨z, hz⟩ : ∃ z, lchk a b c = z := ⟨_, rfl⟩
  have H1 := fun v => lchk_any a b c v
  have H2 := fun v => rlchk_any a b c v
  rw [hz] at H1 H2 h
  have H1 := Lib.hid H1
  have H2 := Lib.hid H2
  have hne : (z != 0) = true := by simpa using h
  clear hz
  have T0 := Lib.hid (Tri.new w a b c)
  have LB0 := Lib.hid (show Below w.heap.size w (w.alloc (.cells #[.int .i64 a, .int .i64 b, .int .i64 c] 27)) from (Below.refl _ _).alloc (Nat.le_refl _) _)
  go_enter Try.func7, Try.ntmps7
  obtain ⟨q0, q1, q2, q3, q4, q5⟩ := T0.out.all
  go_wp2_with fail
  clear q0 q1 q2 q3 q4 q5
  refine (H1.out _).mono ?_
  rintro e w1 ⟨rfl, hb⟩
  have T1 := Lib.hid (T0.out.below hb T0.out.lt)
  have LB1 := Lib.hid (LB0.out.trans (hb.mono LB0.out.size))
  clear hb T0 LB0
  obtain ⟨q0, q1, q2, q3, q4, q5⟩ := T1.out.all
  go_wp2_with fail
  clear q0 q1 q2 q3 q4 q5
  refine (H2.out _).mono ?_
  rintro e w2 ⟨rfl, hb⟩
  have T2 := Lib.hid (T1.out.below hb T1.out.lt)
  have LB2 := Lib.hid (LB1.out.trans (hb.mono LB1.out.size))
  clear hb T1 LB1
  go_wp2_with fail
  refine (alive6_any _).mono ?_
  rintro e w3 ⟨rfl, hb⟩
  have T3 := Lib.hid (T2.out.below hb T2.out.lt)
  have LB3 := Lib.hid (LB2.out.trans (hb.mono LB2.out.size))
  clear hb T2 LB2
  go_wp2
  go_ret
  exact ⟨rfl, LB3.out⟩
set_option maxHeartbeats 800000 in
theorem steps_far (a b c i k x y : Int) (w : World) (h : lchk a b c = 0) (hf : ¬ (i ≤ 1000000 ∧ k ≤ 1000000 ∧ x ≤ 1000000 ∧ y ≤ 1000000) ∨ (i ≤ 1000000 ∧ k ≤ 1000000 ∧ x ≤ 1000000 ∧ y ≤ 1000000) ∧ ¬ (-1000000 ≤ i ∧ -1000000 ≤ k ∧ -1000000 ≤ x ∧ -1000000 ≤ y)) : Calls Try.prog 7 #[.agg #[.int .i64 a, .int .i64 b, .int .i64 c], .int .i64 i, .int .i64 k, .int .i64 x, .int .i64 y] w fun e w' => e = .returned (.bool true) ∧ Below w.heap.size w w' := by
  have H1 := fun v => lchk_any a b c v
  have H2 := fun v => rlchk_any a b c v
  rw [h] at H1 H2
  have H1 := Lib.hid H1
  have H2 := Lib.hid H2
  obtain ⟨M, hM, hM2⟩ := max4 i k x y
  obtain ⟨N, hN, hN2⟩ := min4 i k x y
  rw [← hM2, ← hN2] at hf
  clear hM2 hN2 h
  have T0 := Lib.hid (Tri.new w a b c)
  have LB0 := Lib.hid (show Below w.heap.size w (w.alloc (.cells #[.int .i64 a, .int .i64 b, .int .i64 c] 27)) from (Below.refl _ _).alloc (Nat.le_refl _) _)
  rcases hf with hf | ⟨hf, hg⟩
  all_goals
    go_enter Try.func7, Try.ntmps7
    obtain ⟨q0, q1, q2, q3, q4, q5⟩ := T0.out.all
    go_wp2_with fail
    clear q0 q1 q2 q3 q4 q5
    refine (H1.out _).mono ?_
    rintro e w1 ⟨rfl, hb⟩
    have T1 := Lib.hid (T0.out.below hb T0.out.lt)
    have LB1 := Lib.hid (LB0.out.trans (hb.mono LB0.out.size))
    clear hb T0 LB0
    obtain ⟨q0, q1, q2, q3, q4, q5⟩ := T1.out.all
    go_wp2_with fail
    clear q0 q1 q2 q3 q4 q5
    refine (H2.out _).mono ?_
    rintro e w2 ⟨rfl, hb⟩
    have T2 := Lib.hid (T1.out.below hb T1.out.lt)
    have LB2 := Lib.hid (LB1.out.trans (hb.mono LB1.out.size))
    clear hb T1 LB1
    go_wp2_with fail
    refine (alive6_any _).mono ?_
    rintro e w3 ⟨rfl, hb⟩
    have T3 := Lib.hid (T2.out.below hb T2.out.lt)
    have LB3 := Lib.hid (LB2.out.trans (hb.mono LB2.out.size))
    clear hb T2 LB2
    go_wp2
    go_ret
    exact ⟨rfl, LB3.out⟩
set_option maxHeartbeats 3200000 in
theorem steps_main (a b c i k x y : Int) (w : World) (h : lchk a b c = 0) (hf : i ≤ 1000000 ∧ k ≤ 1000000 ∧ x ≤ 1000000 ∧ y ≤ 1000000) (hg : -1000000 ≤ i ∧ -1000000 ≤ k ∧ -1000000 ≤ x ∧ -1000000 ≤ y) : Calls Try.prog 7 #[.agg #[.int .i64 a, .int .i64 b, .int .i64 c], .int .i64 i, .int .i64 k, .int .i64 x, .int .i64 y] w fun e w' => e = .returned (.bool true) ∧ Below w.heap.size w w' := by
  have H1 := fun v => lchk_any a b c v
  have H2 := fun v => rlchk_any a b c v
  rw [h] at H1 H2
  have H1 := Lib.hid H1
  have H2 := Lib.hid H2
  obtain ⟨a1, a2, c1, c2, b1, b2⟩ := lchk_ok h
  obtain ⟨M, hM, hM2⟩ := max4 i k x y
  obtain ⟨N, hN, hN2⟩ := min4 i k x y
  have hM3 := hM2.2 hf
  have hN3 := hN2.2 hg
  have hM4 : ¬ 1000000 < M := by omega
  have hN4 : ¬ N < -1000000 := by omega
  clear hM2 hN2 hM3 hN3
  obtain ⟨hf1, hf2, hf3, hf4⟩ := hf
  obtain ⟨hg1, hg2, hg3, hg4⟩ := hg
  have bd : ∀ u v : Int, -1000000 ≤ u → u ≤ 1000000 → 0 ≤ v → v ≤ 64 → -64000000 ≤ u * v ∧ u * v ≤ 64000000 := fun u v h1 h2 h3 h4 => by
    have e1 : u * v ≤ 1000000 * v := Int.mul_le_mul_of_nonneg_right h2 h3
    have e2 : -1000000 * v ≤ u * v := Int.mul_le_mul_of_nonneg_right h1 h3
    omega
  obtain ⟨p1a, p1b⟩ := bd i a hg1 hf1 (by omega) a2
  obtain ⟨p2a, p2b⟩ := bd k b hg2 hf2 b1 (by omega)
  obtain ⟨p3a, p3b⟩ := bd k c hg2 hf2 (by omega) c2
  have I1 := inn_own a b c i k (by omega)
  have I2 := inn_add a b c i k x y (by omega)
  have I3 := inn_neg a b c x y
  have HS := Lib.hid (fun h1 h2 h3 => inn_short (a := a) (b := b) (c := c) (x := x) (y := y) h1 h2 h3)
  obtain ⟨p, hp⟩ : ∃ p, i * a = p := ⟨_, rfl⟩
  obtain ⟨q, hq⟩ : ∃ q, k * b = q := ⟨_, rfl⟩
  obtain ⟨r, hr⟩ : ∃ r, k * c = r := ⟨_, rfl⟩
  obtain ⟨tt, htt⟩ : ∃ tt, inn a b c x y = tt := ⟨_, rfl⟩
  rw [hp, hq, hr] at I1 I2
  rw [hp] at p1a p1b
  rw [hq] at p2a p2b
  rw [hr] at p3a p3b
  rw [htt] at I2 I3 HS
  have J1 := Lib.hid (fun v => (show Calls Try.prog 22 #[.agg #[.int .i64 a, .int .i64 b, .int .i64 c], .int .i64 (p + q), .int .i64 r] v fun e w' => e = .returned (.tuple #[.bool true, .int .i64 0]) ∧ Below v.heap.size v w' by have k1 := in_at h (p + q) r v (by omega) (by omega) (by omega) (by omega); rwa [I1] at k1))
  have J2 := Lib.hid (fun v => (show Calls Try.prog 22 #[.agg #[.int .i64 a, .int .i64 b, .int .i64 c], .int .i64 x, .int .i64 y] v fun e w' => e = .returned (.tuple #[.bool tt, .int .i64 0]) ∧ Below v.heap.size v w' by have k1 := in_at h x y v (by omega) (by omega) (by omega) (by omega); rwa [htt] at k1))
  have J3 := Lib.hid (fun v => (show Calls Try.prog 22 #[.agg #[.int .i64 a, .int .i64 b, .int .i64 c], .int .i64 (x + p + q), .int .i64 (y + r)] v fun e w' => e = .returned (.tuple #[.bool tt, .int .i64 0]) ∧ Below v.heap.size v w' by have k1 := in_at h (x + p + q) (y + r) v (by omega) (by omega) (by omega) (by omega); rwa [I2] at k1))
  have J4 := Lib.hid (fun v => (show Calls Try.prog 22 #[.agg #[.int .i64 a, .int .i64 b, .int .i64 c], .int .i64 (-x), .int .i64 (-y)] v fun e w' => e = .returned (.tuple #[.bool tt, .int .i64 0]) ∧ Below v.heap.size v w' by have k1 := in_at h (-x) (-y) v (by omega) (by omega) (by omega) (by omega); rwa [I3] at k1))
  have e1 : IntKind.i64.wrap (i * a) = p := by rw [hp]; exact IntWalk.i64_in _ (by omega)
  have e2 : IntKind.i64.wrap (k * b) = q := by rw [hq]; exact IntWalk.i64_in _ (by omega)
  have e3 : IntKind.i64.wrap (k * c) = r := by rw [hr]; exact IntWalk.i64_in _ (by omega)
  have e4 : IntKind.i64.wrap (p + q) = p + q := IntWalk.i64_in _ (by omega)
  have e5 : IntKind.i64.wrap (x + p) = x + p := IntWalk.i64_in _ (by omega)
  have e6 : IntKind.i64.wrap (x + p + q) = x + p + q := IntWalk.i64_in _ (by omega)
  have e7 : IntKind.i64.wrap (y + r) = y + r := IntWalk.i64_in _ (by omega)
  have e8 : IntKind.i64.wrap (-x) = -x := IntWalk.i64_in _ (by omega)
  have e9 : IntKind.i64.wrap (-y) = -y := IntWalk.i64_in _ (by omega)
  have e10 : IntKind.i64.wrap (-c) = -c := IntWalk.i64_in _ (by omega)
  have n1 : ¬ a = 0 := by omega
  have s1 : (tt != tt) = false := by simp
  clear hp hq hr htt I1 I2 I3 h bd
  have T0 := Lib.hid (Tri.new w a b c)
  have LB0 := Lib.hid (show Below w.heap.size w (w.alloc (.cells #[.int .i64 a, .int .i64 b, .int .i64 c] 27)) from (Below.refl _ _).alloc (Nat.le_refl _) _)
  go_enter Try.func7, Try.ntmps7
  obtain ⟨q0, q1, q2, q3, q4, q5⟩ := T0.out.all
  go_wp2_with fail
  clear q0 q1 q2 q3 q4 q5
  refine (H1.out _).mono ?_
  rintro e w1 ⟨rfl, hb⟩
  have T1 := Lib.hid (T0.out.below hb T0.out.lt)
  have LB1 := Lib.hid (LB0.out.trans (hb.mono LB0.out.size))
  clear hb T0 LB0
  obtain ⟨q0, q1, q2, q3, q4, q5⟩ := T1.out.all
  go_wp2_with fail
  clear q0 q1 q2 q3 q4 q5
  refine (H2.out _).mono ?_
  rintro e w2 ⟨rfl, hb⟩
  have T2 := Lib.hid (T1.out.below hb T1.out.lt)
  have LB2 := Lib.hid (LB1.out.trans (hb.mono LB1.out.size))
  clear hb T1 LB1
  obtain ⟨q0, q1, q2, q3, q4, q5⟩ := T2.out.all
  go_wp2_with fail
  clear q0 q1 q2 q3 q4 q5
  refine (J1.out _).mono ?_
  rintro e w3 ⟨rfl, hb⟩
  have T3 := Lib.hid (T2.out.below hb T2.out.lt)
  have LB3 := Lib.hid (LB2.out.trans (hb.mono LB2.out.size))
  clear hb T2 LB2
  obtain ⟨q0, q1, q2, q3, q4, q5⟩ := T3.out.all
  go_wp2_with fail
  clear q0 q1 q2 q3 q4 q5
  refine (J2.out _).mono ?_
  rintro e w4 ⟨rfl, hb⟩
  have T4 := Lib.hid (T3.out.below hb T3.out.lt)
  have LB4 := Lib.hid (LB3.out.trans (hb.mono LB3.out.size))
  clear hb T3 LB3
  obtain ⟨q0, q1, q2, q3, q4, q5⟩ := T4.out.all
  go_wp2_with fail
  clear q0 q1 q2 q3 q4 q5
  refine (J3.out _).mono ?_
  rintro e w5 ⟨rfl, hb⟩
  have T5 := Lib.hid (T4.out.below hb T4.out.lt)
  have LB5 := Lib.hid (LB4.out.trans (hb.mono LB4.out.size))
  clear hb T4 LB4
  obtain ⟨q0, q1, q2, q3, q4, q5⟩ := T5.out.all
  go_wp2_with fail
  clear q0 q1 q2 q3 q4 q5
  refine (J4.out _).mono ?_
  rintro e w6 ⟨rfl, hb⟩
  have T6 := Lib.hid (T5.out.below hb T5.out.lt)
  have LB6 := Lib.hid (LB5.out.trans (hb.mono LB5.out.size))
  clear hb T5 LB5
  clear e1 e2 e3 e4 e5 e6 e7 e8 e9 hM hN hM4 hN4
  cases tt
  · skip
    obtain ⟨q0, q1, q2, q3, q4, q5⟩ := T6.out.all
    go_wp2_with fail
    clear q0 q1 q2 q3 q4 q5
    refine (alive6_any _).mono ?_
    rintro e w7 ⟨rfl, hb⟩
    have T7 := Lib.hid (T6.out.below hb T6.out.lt)
    have LB7 := Lib.hid (LB6.out.trans (hb.mono LB6.out.size))
    clear hb T6 LB6
    go_wp2
    go_ret
    exact ⟨rfl, LB7.out⟩
  · skip
    by_cases y1 : -c < y
    · skip
      by_cases y2 : y < c
      · skip
        obtain ⟨hy0, hx0⟩ := HS.out (by first | rfl | trivial) y1 y2
        subst hy0
        have f1 : x.tmod a = 0 := (tm_zero x a).2 hx0
        obtain ⟨q0, q1, q2, q3, q4, q5⟩ := T6.out.all
        go_wp2_with fail
        clear q0 q1 q2 q3 q4 q5
        refine (alive6_any _).mono ?_
        rintro e w7 ⟨rfl, hb⟩
        have T7 := Lib.hid (T6.out.below hb T6.out.lt)
        have LB7 := Lib.hid (LB6.out.trans (hb.mono LB6.out.size))
        clear hb T6 LB6
        go_wp2
        go_ret
        exact ⟨rfl, LB7.out⟩
      · skip
        obtain ⟨q0, q1, q2, q3, q4, q5⟩ := T6.out.all
        go_wp2_with fail
        clear q0 q1 q2 q3 q4 q5
        refine (alive6_any _).mono ?_
        rintro e w7 ⟨rfl, hb⟩
        have T7 := Lib.hid (T6.out.below hb T6.out.lt)
        have LB7 := Lib.hid (LB6.out.trans (hb.mono LB6.out.size))
        clear hb T6 LB6
        go_wp2
        go_ret
        exact ⟨rfl, LB7.out⟩
    · skip
      obtain ⟨q0, q1, q2, q3, q4, q5⟩ := T6.out.all
      go_wp2_with fail
      clear q0 q1 q2 q3 q4 q5
      refine (alive6_any _).mono ?_
      rintro e w7 ⟨rfl, hb⟩
      have T7 := Lib.hid (T6.out.below hb T6.out.lt)
      have LB7 := Lib.hid (LB6.out.trans (hb.mono LB6.out.size))
      clear hb T6 LB6
      go_wp2
      go_ret
      exact ⟨rfl, LB7.out⟩
theorem steps_any (a b c i k x y : Int) (w : World) : Calls Try.prog 7 #[.agg #[.int .i64 a, .int .i64 b, .int .i64 c], .int .i64 i, .int .i64 k, .int .i64 x, .int .i64 y] w fun e w' => e = .returned (.bool true) ∧ Below w.heap.size w w' := by
  by_cases h : lchk a b c = 0
  · by_cases hf : i ≤ 1000000 ∧ k ≤ 1000000 ∧ x ≤ 1000000 ∧ y ≤ 1000000
    · by_cases hg : -1000000 ≤ i ∧ -1000000 ≤ k ∧ -1000000 ≤ x ∧ -1000000 ≤ y
      · exact steps_main a b c i k x y w h hf hg
      · exact steps_far a b c i k x y w h (.inr ⟨hf, hg⟩)
    · exact steps_far a b c i k x y w h (.inl hf)
  · exact steps_bad a b c i k x y w h
end Go.Proofs.Ytjbofdgdcnfmoaa
