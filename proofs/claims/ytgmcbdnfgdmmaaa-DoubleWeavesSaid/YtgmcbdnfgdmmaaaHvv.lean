/- Over of both sides; Great. -/
import Derived.Test.YtgmcbdnfgdmmaaaHsx
namespace Go.Proofs.Ytgmcbdnfgdmmaaa
open Go.RowKit
set_option maxRecDepth 100000
set_option linter.unusedVariables false
set_option linter.unusedSimpArgs false

set_option maxHeartbeats 800000 in
theorem pover_a (W H : Nat) (A : Option Addr) (c : Nat) (g : Nat → Bool) (a b : Int) (w : World) (hg : Holds w w.heap.size A (W * H) g) (hW0 : 1 ≤ W) (hW : W ≤ 64) (hH0 : 1 ≤ H) (hH : H ≤ 64) (ha : ¬ (0 ≤ a ∧ a < ((W + H : Nat) : Int))) : Calls Try.prog 164 #[.agg #[.int .i64 (W : Nat), .int .i64 (H : Nat), .slice A (W * H) c], .int .i64 a, .int .i64 b] w (BRet w false 2) := by
  have HK := Lib.hid (fun u => chk_valid A c u hW0 hW hH0 hH)
  have HA1 := Lib.hid (fun u => (show Calls Try.prog 123 #[.agg #[.int .i64 (W : Nat), .int .i64 (H : Nat), .slice A (W * H) c], .int .i64 a] u fun e w' => e = .returned (.bool false) ∧ Below u.heap.size u w' from by have z := isthr_any W H A (W * H) c a u hW hH; rwa [decide_eq_false ha] at z))
  have X0 := Lib.hid (Box.new w (W : Nat) (H : Nat) (.slice A (W * H) c))
  have LB0 := Lib.hid (show Below w.heap.size w (w.alloc (.cells #[.int .i64 (W : Nat), .int .i64 (H : Nat), (.slice A (W * H) c)] 24)) from (Below.refl _ _).alloc (Nat.le_refl _) _)
  clear hg ha
  generalize W * H = M at *
  go_enter Try.func164, Try.ntmps164
  go_wp2_with fail
  generalize w.alloc (.cells #[.int .i64 (W : Nat), .int .i64 (H : Nat), .slice A M c] 24) = w0 at *
  obtain ⟨q0, q1, q2, q3, q4, q5, q6⟩ := X0.out.all
  go_wp2_with fail
  clear q0 q1 q2 q3 q4 q5 q6
  with_reducible refine Calls.mono (HK.out _) ?_
  rintro e w1 ⟨rfl, hb⟩
  have X1 := Lib.hid (X0.out.below hb X0.out.lt)
  have LB1 := Lib.hid (LB0.out.trans (hb.mono LB0.out.size))
  clear hb X0 LB0
  obtain ⟨q0, q1, q2, q3, q4, q5, q6⟩ := X1.out.all
  go_wp2_with fail
  clear q0 q1 q2 q3 q4 q5 q6
  with_reducible refine Calls.mono (HA1.out _) ?_
  rintro e w2 ⟨rfl, hb⟩
  have X2 := Lib.hid (X1.out.below hb X1.out.lt)
  have LB2 := Lib.hid (LB1.out.trans (hb.mono LB1.out.size))
  clear hb X1 LB1
  obtain ⟨q0, q1, q2, q3, q4, q5, q6⟩ := X2.out.all
  go_wp2
  go_ret2
  exact ⟨rfl, LB2.out⟩
set_option maxHeartbeats 800000 in
theorem pover_b (W H : Nat) (A : Option Addr) (c : Nat) (g : Nat → Bool) (a b : Int) (w : World) (hg : Holds w w.heap.size A (W * H) g) (hW0 : 1 ≤ W) (hW : W ≤ 64) (hH0 : 1 ≤ H) (hH : H ≤ 64) (ha : 0 ≤ a ∧ a < ((W + H : Nat) : Int)) (hb : ¬ (0 ≤ b ∧ b < ((W + H : Nat) : Int))) : Calls Try.prog 164 #[.agg #[.int .i64 (W : Nat), .int .i64 (H : Nat), .slice A (W * H) c], .int .i64 a, .int .i64 b] w (BRet w false 2) := by
  have HK := Lib.hid (fun u => chk_valid A c u hW0 hW hH0 hH)
  have HA1 := Lib.hid (fun u => (show Calls Try.prog 123 #[.agg #[.int .i64 (W : Nat), .int .i64 (H : Nat), .slice A (W * H) c], .int .i64 a] u fun e w' => e = .returned (.bool true) ∧ Below u.heap.size u w' from by have z := isthr_any W H A (W * H) c a u hW hH; rwa [decide_eq_true ha] at z))
  have HA2 := Lib.hid (fun u => (show Calls Try.prog 123 #[.agg #[.int .i64 (W : Nat), .int .i64 (H : Nat), .slice A (W * H) c], .int .i64 b] u fun e w' => e = .returned (.bool false) ∧ Below u.heap.size u w' from by have z := isthr_any W H A (W * H) c b u hW hH; rwa [decide_eq_false hb] at z))
  have X0 := Lib.hid (Box.new w (W : Nat) (H : Nat) (.slice A (W * H) c))
  have LB0 := Lib.hid (show Below w.heap.size w (w.alloc (.cells #[.int .i64 (W : Nat), .int .i64 (H : Nat), (.slice A (W * H) c)] 24)) from (Below.refl _ _).alloc (Nat.le_refl _) _)
  clear hg ha hb
  generalize W * H = M at *
  go_enter Try.func164, Try.ntmps164
  go_wp2_with fail
  generalize w.alloc (.cells #[.int .i64 (W : Nat), .int .i64 (H : Nat), .slice A M c] 24) = w0 at *
  obtain ⟨q0, q1, q2, q3, q4, q5, q6⟩ := X0.out.all
  go_wp2_with fail
  clear q0 q1 q2 q3 q4 q5 q6
  with_reducible refine Calls.mono (HK.out _) ?_
  rintro e w1 ⟨rfl, hb⟩
  have X1 := Lib.hid (X0.out.below hb X0.out.lt)
  have LB1 := Lib.hid (LB0.out.trans (hb.mono LB0.out.size))
  clear hb X0 LB0
  obtain ⟨q0, q1, q2, q3, q4, q5, q6⟩ := X1.out.all
  go_wp2_with fail
  clear q0 q1 q2 q3 q4 q5 q6
  with_reducible refine Calls.mono (HA1.out _) ?_
  rintro e w2 ⟨rfl, hb⟩
  have X2 := Lib.hid (X1.out.below hb X1.out.lt)
  have LB2 := Lib.hid (LB1.out.trans (hb.mono LB1.out.size))
  clear hb X1 LB1
  obtain ⟨q0, q1, q2, q3, q4, q5, q6⟩ := X2.out.all
  go_wp2_with fail
  clear q0 q1 q2 q3 q4 q5 q6
  with_reducible refine Calls.mono (HA2.out _) ?_
  rintro e w3 ⟨rfl, hb⟩
  have X3 := Lib.hid (X2.out.below hb X2.out.lt)
  have LB3 := Lib.hid (LB2.out.trans (hb.mono LB2.out.size))
  clear hb X2 LB2
  obtain ⟨q0, q1, q2, q3, q4, q5, q6⟩ := X3.out.all
  go_wp2
  go_ret2
  exact ⟨rfl, LB3.out⟩
set_option maxHeartbeats 800000 in
theorem pover_t (W H : Nat) (A : Option Addr) (c : Nat) (g : Nat → Bool) (a b : Int) (w : World) (hg : Holds w w.heap.size A (W * H) g) (hW0 : 1 ≤ W) (hW : W ≤ 64) (hH0 : 1 ≤ H) (hH : H ≤ 64) (ha : 0 ≤ a ∧ a < ((W + H : Nat) : Int)) (hb : 0 ≤ b ∧ b < ((W + H : Nat) : Int)) : Calls Try.prog 164 #[.agg #[.int .i64 (W : Nat), .int .i64 (H : Nat), .slice A (W * H) c], .int .i64 a, .int .i64 b] w (BRet w (ov W g a.toNat b.toNat) 0) := by
  have HK := Lib.hid (fun u => chk_valid A c u hW0 hW hH0 hH)
  have HA1 := Lib.hid (fun u => (show Calls Try.prog 123 #[.agg #[.int .i64 (W : Nat), .int .i64 (H : Nat), .slice A (W * H) c], .int .i64 a] u fun e w' => e = .returned (.bool true) ∧ Below u.heap.size u w' from by have z := isthr_any W H A (W * H) c a u hW hH; rwa [decide_eq_true ha] at z))
  have HA2 := Lib.hid (fun u => (show Calls Try.prog 123 #[.agg #[.int .i64 (W : Nat), .int .i64 (H : Nat), .slice A (W * H) c], .int .i64 b] u fun e w' => e = .returned (.bool true) ∧ Below u.heap.size u w' from by have z := isthr_any W H A (W * H) c b u hW hH; rwa [decide_eq_true hb] at z))
  have HO := Lib.hid (fun u (h : Below w.heap.size w u) => (show Calls Try.prog 127 #[.agg #[.int .i64 (W : Nat), .int .i64 (H : Nat), .slice A (W * H) c], .int .i64 a, .int .i64 b] u fun e w' => e = .returned (.bool (ov W g a.toNat b.toNat)) ∧ Below u.heap.size u w' from by
    have z := isover_any W H A c g a.toNat b.toNat u ((hg.below h).more h.size) hW hH (by omega) (by omega)
    rwa [Int.toNat_of_nonneg ha.1, Int.toNat_of_nonneg hb.1] at z))
  have X0 := Lib.hid (Box.new w (W : Nat) (H : Nat) (.slice A (W * H) c))
  have LB0 := Lib.hid (show Below w.heap.size w (w.alloc (.cells #[.int .i64 (W : Nat), .int .i64 (H : Nat), (.slice A (W * H) c)] 24)) from (Below.refl _ _).alloc (Nat.le_refl _) _)
  clear hg ha hb
  generalize W * H = M at *
  go_enter Try.func164, Try.ntmps164
  go_wp2_with fail
  generalize w.alloc (.cells #[.int .i64 (W : Nat), .int .i64 (H : Nat), .slice A M c] 24) = w0 at *
  obtain ⟨q0, q1, q2, q3, q4, q5, q6⟩ := X0.out.all
  go_wp2_with fail
  clear q0 q1 q2 q3 q4 q5 q6
  with_reducible refine Calls.mono (HK.out _) ?_
  rintro e w1 ⟨rfl, hb⟩
  have X1 := Lib.hid (X0.out.below hb X0.out.lt)
  have LB1 := Lib.hid (LB0.out.trans (hb.mono LB0.out.size))
  clear hb X0 LB0
  obtain ⟨q0, q1, q2, q3, q4, q5, q6⟩ := X1.out.all
  go_wp2_with fail
  clear q0 q1 q2 q3 q4 q5 q6
  with_reducible refine Calls.mono (HA1.out _) ?_
  rintro e w2 ⟨rfl, hb⟩
  have X2 := Lib.hid (X1.out.below hb X1.out.lt)
  have LB2 := Lib.hid (LB1.out.trans (hb.mono LB1.out.size))
  clear hb X1 LB1
  obtain ⟨q0, q1, q2, q3, q4, q5, q6⟩ := X2.out.all
  go_wp2_with fail
  clear q0 q1 q2 q3 q4 q5 q6
  with_reducible refine Calls.mono (HA2.out _) ?_
  rintro e w3 ⟨rfl, hb⟩
  have X3 := Lib.hid (X2.out.below hb X2.out.lt)
  have LB3 := Lib.hid (LB2.out.trans (hb.mono LB2.out.size))
  clear hb X2 LB2
  obtain ⟨q0, q1, q2, q3, q4, q5, q6⟩ := X3.out.all
  go_wp2_with fail
  clear q0 q1 q2 q3 q4 q5 q6
  with_reducible refine Calls.mono (HO.out _ LB3.out) ?_
  rintro e w4 ⟨rfl, hb⟩
  have X4 := Lib.hid (X3.out.below hb X3.out.lt)
  have LB4 := Lib.hid (LB3.out.trans (hb.mono LB3.out.size))
  clear hb X3 LB3
  obtain ⟨q0, q1, q2, q3, q4, q5, q6⟩ := X4.out.all
  go_wp2
  go_ret2
  exact ⟨rfl, LB4.out⟩
theorem pover_err {W H : Int} {A : Option Addr} {N c : Nat} (a b : Int) (z : Int) (hN : N ≤ 4200) (hz : chk W H N = z) (hne : (z != 0) = true) (w : World) :
    Calls Try.prog 164 #[.agg #[.int .i64 W, .int .i64 H, .slice A N c], .int .i64 a, .int .i64 b] w (BRet w false z) := by
  have HK := Lib.hid (fun u => chk_err (A := A) (c := c) hN hz u)
  have LB0 := Lib.hid (show Below w.heap.size w (w.alloc (.cells #[.int .i64 W, .int .i64 H, (.slice A N c)] 24)) from (Below.refl _ _).alloc (Nat.le_refl _) _)
  clear hz
  go_enter Try.func164, Try.ntmps164
  go_wp2_with fail
  with_reducible refine Calls.mono (HK.out _) ?_
  rintro e w1 ⟨rfl, hb⟩
  have LB1 := Lib.hid (LB0.out.trans (hb.mono LB0.out.size))
  clear hb LB0
  go_wp2
  go_ret2
  exact ⟨rfl, LB1.out⟩
/-- A valid grid's sides as naturals. -/
theorem chk_nat {W H : Int} {N : Nat} (hz : chk W H N = 0) : ∃ x y : Nat, W = (x : Nat) ∧ H = (y : Nat) ∧ N = x * y ∧ 1 ≤ x ∧ x ≤ 64 ∧ 1 ≤ y ∧ y ≤ 64 := by
  obtain ⟨a1, a2, a3, a4, a5⟩ := chk_ok hz
  obtain ⟨x, rfl⟩ := Int.eq_ofNat_of_zero_le (show 0 ≤ W by omega)
  obtain ⟨y, rfl⟩ := Int.eq_ofNat_of_zero_le (show 0 ≤ H by omega)
  try simp only [Int.ofNat_eq_natCast] at *
  exact ⟨x, y, rfl, rfl, by rw [← Int.natCast_mul] at a5; omega, by omega, by omega, by omega, by omega⟩
/-- Is a grid greater than the statements consider? -/
def grt (W H : Int) (n : Nat) : Bool := decide (200 < n) || (decide (chk W H n = 0) && decide (24 < W + H))
theorem great_many (W H : Int) (A : Option Addr) (n c : Nat) (w : World) (h : 200 < n) :
    Calls Try.prog 81 #[.agg #[.int .i64 W, .int .i64 H, .slice A n c]] w fun e w' => e = .returned (.bool true) ∧ Below w.heap.size w w' := by
  have z : decide ((200 : Int) < (n : Int)) = true := by simp; omega
  have z' : decide (200 < n) = true := by simp; omega
  go_enter Try.func81, Try.ntmps81
  go_wp2
  go_ret
  exact ⟨rfl, (Below.refl _ _).alloc (Nat.le_refl _) _⟩
theorem great_err {W H : Int} {A : Option Addr} {n c : Nat} {z : Int} (h : n ≤ 200) (hz : chk W H n = z) (hne : (z != 0) = true) (w : World) :
    Calls Try.prog 81 #[.agg #[.int .i64 W, .int .i64 H, .slice A n c]] w fun e w' => e = .returned (.bool false) ∧ Below w.heap.size w w' := by
  have HK := Lib.hid (fun u => rchk_err (A := A) (c := c) (show n ≤ 4200 by omega) hz u)
  have LB0 := Lib.hid (show Below w.heap.size w (w.alloc (.cells #[.int .i64 W, .int .i64 H, (.slice A n c)] 24)) from (Below.refl _ _).alloc (Nat.le_refl _) _)
  have hne' : (z == 0) = false := by simpa using hne
  have z1 : ¬ (200 : Int) < (n : Int) := by omega
  clear hz
  go_enter Try.func81, Try.ntmps81
  go_wp2_with fail
  with_reducible refine Calls.mono (HK.out _) ?_
  rintro e w1 ⟨rfl, hb⟩
  have LB1 := Lib.hid (LB0.out.trans (hb.mono LB0.out.size))
  clear hb LB0
  go_wp2
  go_ret
  exact ⟨rfl, LB1.out⟩
theorem great_ok (W H : Nat) (A : Option Addr) (c : Nat) (w : World) (hW0 : 1 ≤ W) (hW : W ≤ 64) (hH0 : 1 ≤ H) (hH : H ≤ 64) (h : W * H ≤ 200) (t : Bool) (ht : decide (24 < W + H) = t) :
    Calls Try.prog 81 #[.agg #[.int .i64 (W : Nat), .int .i64 (H : Nat), .slice A (W * H) c]] w fun e w' => e = .returned (.bool t) ∧ Below w.heap.size w w' := by
  have HK := Lib.hid (fun u => rchk_valid A c u hW0 hW hH0 hH)
  have HT := Lib.hid (fun u => rthr_any W H A (W * H) c u hW hH)
  have X0 := Lib.hid (Box.new w (W : Nat) (H : Nat) (.slice A (W * H) c))
  have LB0 := Lib.hid (show Below w.heap.size w (w.alloc (.cells #[.int .i64 (W : Nat), .int .i64 (H : Nat), (.slice A (W * H) c)] 24)) from (Below.refl _ _).alloc (Nat.le_refl _) _)
  have z1 : ¬ (200 : Int) < ((W * H : Nat) : Int) := by omega
  generalize W * H = M at *
  generalize W + H = N at *
  by_cases hN : 24 < N
  · rw [decide_eq_true hN] at ht
    subst ht
    have z2 : (24 : Int) < (N : Int) := by omega
    go_enter Try.func81, Try.ntmps81
    go_wp2_with fail
    generalize w.alloc (.cells #[.int .i64 (W : Nat), .int .i64 (H : Nat), .slice A M c] 24) = w0 at *
    obtain ⟨q0, q1, q2, q3, q4, q5, q6⟩ := X0.out.all
    go_wp2_with fail
    clear q0 q1 q2 q3 q4 q5 q6
    with_reducible refine Calls.mono (HK.out _) ?_
    rintro e w1 ⟨rfl, hb⟩
    have X1 := Lib.hid (X0.out.below hb X0.out.lt)
    have LB1 := Lib.hid (LB0.out.trans (hb.mono LB0.out.size))
    clear hb X0 LB0
    obtain ⟨q0, q1, q2, q3, q4, q5, q6⟩ := X1.out.all
    go_wp2_with fail
    clear q0 q1 q2 q3 q4 q5 q6
    with_reducible refine Calls.mono (HT.out _) ?_
    rintro e w2 ⟨rfl, hb⟩
    have X2 := Lib.hid (X1.out.below hb X1.out.lt)
    have LB2 := Lib.hid (LB1.out.trans (hb.mono LB1.out.size))
    clear hb X1 LB1
    obtain ⟨q0, q1, q2, q3, q4, q5, q6⟩ := X2.out.all
    go_wp2
    go_ret
    exact ⟨rfl, LB2.out⟩
  · rw [decide_eq_false hN] at ht
    subst ht
    have z2 : ¬ (24 : Int) < (N : Int) := by omega
    go_enter Try.func81, Try.ntmps81
    go_wp2_with fail
    generalize w.alloc (.cells #[.int .i64 (W : Nat), .int .i64 (H : Nat), .slice A M c] 24) = w0 at *
    obtain ⟨q0, q1, q2, q3, q4, q5, q6⟩ := X0.out.all
    go_wp2_with fail
    clear q0 q1 q2 q3 q4 q5 q6
    with_reducible refine Calls.mono (HK.out _) ?_
    rintro e w1 ⟨rfl, hb⟩
    have X1 := Lib.hid (X0.out.below hb X0.out.lt)
    have LB1 := Lib.hid (LB0.out.trans (hb.mono LB0.out.size))
    clear hb X0 LB0
    obtain ⟨q0, q1, q2, q3, q4, q5, q6⟩ := X1.out.all
    go_wp2_with fail
    clear q0 q1 q2 q3 q4 q5 q6
    with_reducible refine Calls.mono (HT.out _) ?_
    rintro e w2 ⟨rfl, hb⟩
    have X2 := Lib.hid (X1.out.below hb X1.out.lt)
    have LB2 := Lib.hid (LB1.out.trans (hb.mono LB1.out.size))
    clear hb X1 LB1
    obtain ⟨q0, q1, q2, q3, q4, q5, q6⟩ := X2.out.all
    go_wp2
    go_ret
    exact ⟨ret_bool (by simp; omega), LB2.out⟩
theorem great_any (W H : Int) (A : Option Addr) (n c : Nat) (w : World) : Calls Try.prog 81 #[.agg #[.int .i64 W, .int .i64 H, .slice A n c]] w fun e w' => e = .returned (.bool (grt W H n)) ∧ Below w.heap.size w w' := by
  unfold grt
  by_cases h : 200 < n
  · rw [decide_eq_true h, Bool.true_or]; exact great_many W H A n c w h
  · rw [decide_eq_false h, Bool.false_or]
    by_cases hz : chk W H n = 0
    · obtain ⟨x, y, rfl, rfl, rfl, h1, h2, h3, h4⟩ := chk_nat hz
      rw [decide_eq_true hz, Bool.true_and]
      refine great_ok x y A c w h1 h2 h3 h4 (by omega) _ ?_
      rw [Bool.eq_iff_iff, decide_eq_true_iff, decide_eq_true_iff]
      omega
    · rw [decide_eq_false hz, Bool.false_and]
      exact great_err (by omega) rfl (by simpa using hz) w
end Go.Proofs.Ytgmcbdnfgdmmaaa
