/- isNumber, isMove, Move, modulo, Great, by contracts. -/
import Derived.Test.YtmakjdfkldacaaaCb
import Derived.Test.YtmakjdfkldacaaaPa
import Derived.Test.YtmakjdfkldacaaaStm
namespace Go.Proofs.Ytmakjdfkldacaaa
open Go.RowKit
set_option maxRecDepth 100000
set_option linter.unusedVariables false
set_option linter.unusedSimpArgs false

theorem below_drewN (w : World) (k : Nat) : Below w.heap.size w (w.drewN k) := ⟨rfl, rfl, rfl, Nat.le_refl _, fun _ _ => rfl⟩
theorem isnum_any (n : Int) (w : World) : Calls Try.prog 48 #[.int .i64 n] w fun e w' => e = .returned (.bool (decide (5 ≤ n ∧ n ≤ 64))) ∧ w' = w := by
  by_cases h : 5 ≤ n <;> by_cases h' : n ≤ 64
  all_goals
    go_enter Try.func48, Try.ntmps48
    go_wp2
    go_ret
    exact ⟨ret_bool (by simp [h, h']), rfl⟩
theorem isnum_t {n : Int} (h : 5 ≤ n) (h' : n ≤ 64) (w : World) : Calls Try.prog 48 #[.int .i64 n] w fun e w' => e = .returned (.bool true) ∧ w' = w := by
  have := isnum_any n w
  rwa [decide_eq_true ⟨h, h'⟩] at this
theorem isnum_f {n : Int} (h : ¬ (5 ≤ n ∧ n ≤ 64)) (w : World) : Calls Try.prog 48 #[.int .i64 n] w fun e w' => e = .returned (.bool false) ∧ w' = w := by
  have := isnum_any n w
  rwa [decide_eq_false h] at this
theorem mv_off {n m : Int} (h : ¬ (5 ≤ n ∧ n ≤ 64 ∧ 2 ≤ m ∧ m ≤ n - 2)) : mv n m = false := by unfold mv; rw [decide_eq_false h]; rfl
theorem mv_num {n m : Int} (h : ¬ (5 ≤ n ∧ n ≤ 64)) : mv n m = false := mv_off fun k => h ⟨k.1, k.2.1⟩
theorem mv_low {n m : Int} (h : m < 2) : mv n m = false := mv_off fun k => by omega
theorem mv_high {n m : Int} (h : n - 2 < m) : mv n m = false := mv_off fun k => by omega
theorem mv_gcd {a b : Nat} (h5 : 5 ≤ a) (h6 : a ≤ 64) (h1 : 2 ≤ b) (h2 : b + 2 ≤ a) : mv (a : Nat) (b : Nat) = (Nat.gcd a b == 1) := by
  unfold mv
  rw [decide_eq_true (by omega), Bool.true_and, Int.toNat_natCast, Int.toNat_natCast]
set_option maxHeartbeats 800000 in
theorem pmv_any (n m : Int) (w : World) : Calls Try.prog 49 #[.int .i64 n, .int .i64 m] w fun e w' => e = .returned (.bool (mv n m)) ∧ ∃ k, w' = w.drewN k := by
  by_cases h : ¬ (5 ≤ n ∧ n ≤ 64)
  · have HN := Lib.hid (isnum_f h)
    go_enter Try.func49, Try.ntmps49
    go_wp2_with fail
    refine (HN.out _).mono ?_
    rintro e w1 ⟨rfl, rfl⟩
    go_wp2
    go_ret
    exact ⟨ret_bool (mv_num h).symm, 0, rfl⟩
  obtain ⟨h5, h6⟩ : 5 ≤ n ∧ n ≤ 64 := Classical.not_not.1 h
  clear h
  have w1_ : IntKind.i64.wrap (n - 2) = n - 2 := IntWalk.i64_in _ (by omega)
  by_cases h1 : 2 ≤ m
  · by_cases h2 : m ≤ n - 2
    · obtain ⟨a, rfl⟩ := Int.eq_ofNat_of_zero_le (show 0 ≤ n by omega)
      obtain ⟨b, rfl⟩ := Int.eq_ofNat_of_zero_le (show 0 ≤ m by omega)
      try simp only [Int.ofNat_eq_natCast] at *
      obtain ⟨g, hg⟩ : ∃ g, Nat.gcd a b = g := ⟨_, rfl⟩
      have HE := Lib.hid (show mv (a : Nat) (b : Nat) = ((g : Int) == 1) by rw [mv_gcd (by omega) (by omega) (by omega) (by omega), hg, Bool.eq_iff_iff]; simp; omega)
      have hG := fun u => pgcd_any a b u (by omega) (by omega)
      rw [hg] at hG
      have HG := Lib.hid hG
      clear hg hG
      have HN := Lib.hid (isnum_t h5 h6)
      go_enter Try.func49, Try.ntmps49
      go_wp2_with fail
      refine (HN.out _).mono ?_
      rintro e w1 ⟨rfl, rfl⟩
      go_wp2_with fail
      refine (HG.out _).mono ?_
      rintro e w2 ⟨rfl, k, rfl⟩
      go_wp2
      go_ret
      exact ⟨ret_bool (by rw [HE.out]), k, rfl⟩
    · have HN := Lib.hid (isnum_t h5 h6)
      go_enter Try.func49, Try.ntmps49
      go_wp2_with fail
      refine (HN.out _).mono ?_
      rintro e w1 ⟨rfl, rfl⟩
      go_wp2
      go_ret
      exact ⟨ret_bool (mv_high (by omega)).symm, 0, rfl⟩
  · have HN := Lib.hid (isnum_t h5 h6)
    go_enter Try.func49, Try.ntmps49
    go_wp2_with fail
    refine (HN.out _).mono ?_
    rintro e w1 ⟨rfl, rfl⟩
    go_wp2
    go_ret
    exact ⟨ret_bool (mv_low (by omega)).symm, 0, rfl⟩
set_option maxHeartbeats 800000 in
theorem rmv_any (n m : Int) (w : World) : Calls Try.prog 30 #[.int .i64 n, .int .i64 m] w fun e w' => e = .returned (.bool (mv n m)) ∧ ∃ k, w' = w.drewN k := by
  by_cases h : ¬ (5 ≤ n ∧ n ≤ 64)
  · by_cases h5 : 5 ≤ n
    · have h6 : ¬ n ≤ 64 := fun k => h ⟨h5, k⟩
      go_enter Try.func30, Try.ntmps30
      go_wp2
      go_ret
      exact ⟨ret_bool (mv_num h).symm, 0, rfl⟩
    · go_enter Try.func30, Try.ntmps30
      go_wp2
      go_ret
      exact ⟨ret_bool (mv_num h).symm, 0, rfl⟩
  obtain ⟨h5, h6⟩ : 5 ≤ n ∧ n ≤ 64 := Classical.not_not.1 h
  clear h
  have w1_ : IntKind.i64.wrap (n - 2) = n - 2 := IntWalk.i64_in _ (by omega)
  by_cases h1 : 2 ≤ m
  · by_cases h2 : m ≤ n - 2
    · obtain ⟨a, rfl⟩ := Int.eq_ofNat_of_zero_le (show 0 ≤ n by omega)
      obtain ⟨b, rfl⟩ := Int.eq_ofNat_of_zero_le (show 0 ≤ m by omega)
      try simp only [Int.ofNat_eq_natCast] at *
      obtain ⟨g, hg⟩ : ∃ g, Nat.gcd a b = g := ⟨_, rfl⟩
      have HE := Lib.hid (show mv (a : Nat) (b : Nat) = ((g : Int) == 1) by rw [mv_gcd (by omega) (by omega) (by omega) (by omega), hg, Bool.eq_iff_iff]; simp; omega)
      have hG := fun u => rgcd_any a b u (by omega) (by omega)
      rw [hg] at hG
      have HG := Lib.hid hG
      clear hg hG
      go_enter Try.func30, Try.ntmps30
      go_wp2_with fail
      refine (HG.out _).mono ?_
      rintro e w2 ⟨rfl, k, rfl⟩
      go_wp2
      go_ret
      exact ⟨ret_bool (by rw [HE.out]), k, rfl⟩
    · skip
      go_enter Try.func30, Try.ntmps30
      go_wp2
      go_ret
      exact ⟨ret_bool (mv_high (by omega)).symm, 0, rfl⟩
  · skip
    go_enter Try.func30, Try.ntmps30
    go_wp2
    go_ret
    exact ⟨ret_bool (mv_low (by omega)).symm, 0, rfl⟩
theorem pmv_b (n m : Int) (w : World) : Calls Try.prog 49 #[.int .i64 n, .int .i64 m] w fun e w' => e = .returned (.bool (mv n m)) ∧ Below w.heap.size w w' :=
  (pmv_any n m w).mono fun e w' ⟨h, k, hk⟩ => ⟨h, by rw [hk]; exact below_drewN w k⟩
theorem rmv_b (n m : Int) (w : World) : Calls Try.prog 30 #[.int .i64 n, .int .i64 m] w fun e w' => e = .returned (.bool (mv n m)) ∧ Below w.heap.size w w' :=
  (rmv_any n m w).mono fun e w' ⟨h, k, hk⟩ => ⟨h, by rw [hk]; exact below_drewN w k⟩
theorem modulo9_any (v n : Int) (w : World) (h0 : 1 ≤ n) (h1 : n ≤ 64) (hv0 : -9223372036854775808 ≤ v) (hv1 : v ≤ 9223372036854775807) :
    Calls Try.prog 45 #[.int .i64 v, .int .i64 n] w fun e w' => e = .returned (.int .i64 (v % n)) ∧ w' = w := by
  have b1 : v.tmod n < n := Int.tmod_lt_of_pos v (by omega)
  have b2 : -n < v.tmod n := by
    have h := Int.tmod_lt_of_pos (-v) (show 0 < n by omega)
    rw [Int.neg_tmod] at h
    omega
  have hm := Lib.hid (mod_eq v n h0)
  go_enter Try.func45, Try.ntmps45
  go_wp2
  go_ret
  exact ⟨ret_i64 hm.out, rfl⟩
theorem great9_any (W H : Int) (A : Option Addr) (n c : Nat) (w : World) (t : Bool) (ht : decide (400 < n) = t) : Calls Try.prog 27 #[.agg #[.int .i64 W, .int .i64 H, .slice A n c]] w fun e w' => e = .returned (.bool t) ∧ Below w.heap.size w w' := by
  have X0 := Lib.hid (Box.new w W H (.slice A n c))
  have LB0 := Lib.hid (show Below w.heap.size w (w.alloc (.cells #[.int .i64 W, .int .i64 H, .slice A n c] 24)) from (Below.refl _ _).alloc (Nat.le_refl _) _)
  have y1 : decide ((400 : Int) < (n : Int)) = t := by rw [← ht]; simp; omega
  clear ht
  go_enter Try.func27, Try.ntmps27
  obtain ⟨q0, q1, q2, q3, q4, q5, q6⟩ := X0.out.all
  go_wp2
  go_ret
  exact ⟨ret_bool (by rw [← y1]), LB0.out⟩
end Go.Proofs.Ytmakjdfkldacaaa
