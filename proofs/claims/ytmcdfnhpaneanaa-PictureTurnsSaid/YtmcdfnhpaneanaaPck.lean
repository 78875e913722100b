/- check, checkWith of the program. -/
import Derived.Test.YtmcdfnhpaneanaaCck
import Derived.Test.YtmcdfnhpaneanaaCeq
import Derived.Test.YtmcdfnhpaneanaaGd
namespace Go.Proofs.Ytmcdfnhpaneanaa
open Go.RowKit
set_option maxRecDepth 100000
set_option linter.unusedVariables false
set_option linter.unusedSimpArgs false

/-- What is wrong with an image and thread colours. -/
def pcE (W H : Int) (n m k : Nat) (f a b : Nat → Int) : Int :=
  if ick W H n f ≠ 0 then 8 else if ¬ ((m : Int) = W ∧ (k : Int) = H) then 26 else if fine m a = true ∧ fine k b = true then 0 else 8
theorem pcE_bad {W H : Int} {n m k : Nat} {f a b : Nat → Int} (h : ick W H n f = 8) : pcE W H n m k f a b = 8 := by unfold pcE; rw [h, if_pos (by decide)]
theorem pcE_cnt {W H : Int} {n m k : Nat} {f a b : Nat → Int} (h : ick W H n f = 0) (h2 : ¬ ((m : Int) = W ∧ (k : Int) = H)) : pcE W H n m k f a b = 26 := by unfold pcE; rw [h, if_neg (by simp), if_pos h2]
theorem pcE_fin {W H : Int} {n m k : Nat} {f a b : Nat → Int} (h : ick W H n f = 0) (h2 : (m : Int) = W ∧ (k : Int) = H) : pcE W H n m k f a b = if fine m a = true ∧ fine k b = true then 0 else 8 := by unfold pcE; rw [h, if_neg (by simp), if_neg (by simp [h2])]
theorem pcE_zero {W H : Int} {n m k : Nat} {f a b : Nat → Int} (h : pcE W H n m k f a b = 0) : ∃ P Q : Nat, W = P ∧ H = Q ∧ n = P * Q ∧ m = P ∧ k = Q ∧ 1 ≤ P ∧ P ≤ 64 ∧ 1 ≤ Q ∧ Q ≤ 64 ∧ fine n f = true ∧ fine m a = true ∧ fine k b = true := by
  rcases ick_or W H n f with h1 | h1
  · by_cases h2 : (m : Int) = W ∧ (k : Int) = H
    · rw [pcE_fin h1 h2] at h
      split at h
      · rename_i h3
        obtain ⟨P, Q, rfl, rfl, a3, a4, a5, a6, a7, a8⟩ := ick_nat h1
        exact ⟨P, Q, rfl, rfl, a3, by omega, by omega, a4, a5, a6, a7, a8, h3.1, h3.2⟩
      · cases h
    · rw [pcE_cnt h1 h2] at h; cases h
  · rw [pcE_bad h1] at h; cases h
theorem pcE_ok {W H m k : Nat} {f a b : Nat → Int} (W0 : 1 ≤ W) (W1 : W ≤ 64) (H0 : 1 ≤ H) (H1 : H ≤ 64) (hf : fine (W * H) f = true) (ha : fine W a = true) (hb : fine H b = true) : pcE W H (W * H) W H f a b = 0 := by
  rw [pcE_fin (ick_zero W0 W1 H0 H1 hf) ⟨rfl, rfl⟩, if_pos ⟨ha, hb⟩]
/-- A grid came back, and an error, whatever grid. -/
theorem equal_one (B C : Option Addr) (W d H e : Nat) (a b : Nat → Int) (w : World) (hW0 : 1 ≤ W) (hW : W ≤ 64) (hH0 : 1 ≤ H) (hH : H ≤ 64) (ha : L2.Holds w w.heap.size B W a) (hb1 : L2.Holds w w.heap.size C H b) :
    Calls Try.prog 73 #[.slice B W d, .slice C H e] w fun e w' => ∃ X Y A N c, e = .returned (.tuple #[.agg #[.int .i64 X, .int .i64 Y, .slice A N c], .int .i64 (if fine W a = true ∧ fine H b = true then 0 else 8)]) ∧ Below w.heap.size w w' := by
  by_cases h : fine W a = true ∧ fine H b = true
  · rw [if_pos h]
    exact (equal_ok B C W d H e a b w hW0 hW hH0 hH ha hb1 h.1 h.2).mono fun e w' ⟨A, c, h1, _, h3⟩ => ⟨_, _, A, _, c, h1, h3⟩
  · rw [if_neg h]
    exact (equal_err B C W d H e a b w (fun _ => false) (by omega) (by omega) ha hb1 (by unfold eqE; rw [if_neg (by rw [side_nat hW0 hW, side_nat hH0 hH]; simp), if_neg h]) (by decide)).mono fun e w' ⟨A, c, h1, _, h3⟩ => ⟨_, _, A, _, c, h1, h3⟩
set_option maxHeartbeats 1600000 in
theorem check_any (W H : Int) (A B C : Option Addr) (n c m d k e : Nat) (f a b : Nat → Int) (w : World) (hf : L2.Holds w w.heap.size A n f) (ha : L2.Holds w w.heap.size B m a) (hb1 : L2.Holds w w.heap.size C k b) : Calls Try.prog 43 #[.agg #[.int .i64 W, .int .i64 H, .slice A n c], .slice B m d, .slice C k e] w fun e w' => e = .returned (.int .i64 (pcE W H n m k f a b)) ∧ Below w.heap.size w w' := by
  have HC := Lib.hid (fun u (hb : Below w.heap.size w u) => ick_any W H A n c f u ((hf.below hb).more hb.size))
  have z0 : ((0 : Int) != 0) = false := rfl
  have z8 : ((8 : Int) != 0) = true := rfl
  rcases ick_or W H n f with h1 | h1
  · rw [h1] at HC
    by_cases h2 : (m : Int) = W
    · have y1 : ((m : Int) != W) = false := by simp [h2]
      by_cases h3 : (k : Int) = H
      · have y2 : ((k : Int) != H) = false := by simp [h3]
        obtain ⟨P, Q, e1, e2, e3, W0, W1, H0, H1, e4⟩ := ick_nat h1
        obtain rfl : m = P := by omega
        obtain rfl : k = Q := by omega
        rw [pcE_fin h1 ⟨h2, h3⟩]
        have HE := Lib.hid (fun u (hb : Below w.heap.size w u) => equal_one B C m d k e a b u W0 W1 H0 H1 ((ha.below hb).more hb.size) ((hb1.below hb).more hb.size))
        obtain ⟨z, hz⟩ : ∃ z : Int, (if fine m a = true ∧ fine k b = true then 0 else 8) = z := ⟨_, rfl⟩
        rw [hz] at HE ⊢
        clear hf ha hb1 h1 h2 h3 e1 e2 e3 e4 hz
        have LB0 := Lib.hid (Below.refl w.heap.size w)
        have X1 := IBox.new w W H (.slice A n c)
        have X1 := Lib.hid X1
        have LB0 := Lib.hid (LB0.out.alloc LB0.out.size (.cells #[.int .i64 W, .int .i64 H, .slice A n c] 24))
        go_enter Try.func43, Try.ntmps43
        go_upto_region 1 with (fail)
        generalize w.alloc (.cells #[.int .i64 W, .int .i64 H, .slice A n c] 24) = w0 at *
        obtain ⟨q0, q1, q2, q3, q4, q5, q6⟩ := X1.out.all
        go_wp2_with fail
        clear q0 q1 q2 q3 q4 q5 q6
        with_reducible refine Calls.mono (HC.out _ LB0.out) ?_
        rintro e w1 ⟨rfl, hb⟩
        have LB1 := Lib.hid (LB0.out.trans (hb.mono LB0.out.size))
        have X1 := Lib.hid (X1.out.below hb X1.out.lt)
        clear hb LB0 
        obtain ⟨q0, q1, q2, q3, q4, q5, q6⟩ := X1.out.all
        go_wp2_with fail
        clear q0 q1 q2 q3 q4 q5 q6
        with_reducible refine Calls.mono (HE.out _ LB1.out) ?_
        rintro e w2 ⟨X5, Y5, A5, N5, c5, rfl, hb⟩
        have LB2 := Lib.hid (LB1.out.trans (hb.mono LB1.out.size))
        have X1 := Lib.hid (X1.out.below hb X1.out.lt)
        clear hb LB1 
        go_wp2
        go_ret
        exact ⟨rfl, LB2.out.alloc LB2.out.size _⟩
      · have y2 : ((k : Int) != H) = true := by simp [h3]
        rw [pcE_cnt h1 (fun h => h3 h.2)]
        clear hf ha hb1 h1 h2 h3
        have LB0 := Lib.hid (Below.refl w.heap.size w)
        have X1 := IBox.new w W H (.slice A n c)
        have X1 := Lib.hid X1
        have LB0 := Lib.hid (LB0.out.alloc LB0.out.size (.cells #[.int .i64 W, .int .i64 H, .slice A n c] 24))
        go_enter Try.func43, Try.ntmps43
        go_upto_region 1 with (fail)
        generalize w.alloc (.cells #[.int .i64 W, .int .i64 H, .slice A n c] 24) = w0 at *
        obtain ⟨q0, q1, q2, q3, q4, q5, q6⟩ := X1.out.all
        go_wp2_with fail
        clear q0 q1 q2 q3 q4 q5 q6
        with_reducible refine Calls.mono (HC.out _ LB0.out) ?_
        rintro e w1 ⟨rfl, hb⟩
        have LB1 := Lib.hid (LB0.out.trans (hb.mono LB0.out.size))
        have X1 := Lib.hid (X1.out.below hb X1.out.lt)
        clear hb LB0 
        obtain ⟨q0, q1, q2, q3, q4, q5, q6⟩ := X1.out.all
        go_wp2
        go_ret
        exact ⟨rfl, LB1.out⟩
    · have y1 : ((m : Int) != W) = true := by simp [h2]
      rw [pcE_cnt h1 (fun h => h2 h.1)]
      clear hf ha hb1 h1 h2
      have LB0 := Lib.hid (Below.refl w.heap.size w)
      have X1 := IBox.new w W H (.slice A n c)
      have X1 := Lib.hid X1
      have LB0 := Lib.hid (LB0.out.alloc LB0.out.size (.cells #[.int .i64 W, .int .i64 H, .slice A n c] 24))
      go_enter Try.func43, Try.ntmps43
      go_upto_region 1 with (fail)
      generalize w.alloc (.cells #[.int .i64 W, .int .i64 H, .slice A n c] 24) = w0 at *
      obtain ⟨q0, q1, q2, q3, q4, q5, q6⟩ := X1.out.all
      go_wp2_with fail
      clear q0 q1 q2 q3 q4 q5 q6
      with_reducible refine Calls.mono (HC.out _ LB0.out) ?_
      rintro e w1 ⟨rfl, hb⟩
      have LB1 := Lib.hid (LB0.out.trans (hb.mono LB0.out.size))
      have X1 := Lib.hid (X1.out.below hb X1.out.lt)
      clear hb LB0 
      obtain ⟨q0, q1, q2, q3, q4, q5, q6⟩ := X1.out.all
      go_wp2
      go_ret
      exact ⟨rfl, LB1.out⟩
  · rw [h1] at HC
    rw [pcE_bad h1]
    clear hf ha hb1 h1
    have LB0 := Lib.hid (Below.refl w.heap.size w)
    have X1 := IBox.new w W H (.slice A n c)
    have X1 := Lib.hid X1
    have LB0 := Lib.hid (LB0.out.alloc LB0.out.size (.cells #[.int .i64 W, .int .i64 H, .slice A n c] 24))
    go_enter Try.func43, Try.ntmps43
    go_upto_region 1 with (fail)
    generalize w.alloc (.cells #[.int .i64 W, .int .i64 H, .slice A n c] 24) = w0 at *
    obtain ⟨q0, q1, q2, q3, q4, q5, q6⟩ := X1.out.all
    go_wp2_with fail
    clear q0 q1 q2 q3 q4 q5 q6
    with_reducible refine Calls.mono (HC.out _ LB0.out) ?_
    rintro e w1 ⟨rfl, hb⟩
    have LB1 := Lib.hid (LB0.out.trans (hb.mono LB0.out.size))
    have X1 := Lib.hid (X1.out.below hb X1.out.lt)
    clear hb LB0 
    obtain ⟨q0, q1, q2, q3, q4, q5, q6⟩ := X1.out.all
    go_wp2
    go_ret
    exact ⟨rfl, LB1.out⟩
/-- What is wrong with a grid for an image and thread colours. -/
def pwE (X Y : Int) (N : Nat) (W H : Int) (z : Int) : Int := if z ≠ 0 then z else if chk X Y N ≠ 0 then chk X Y N else if ¬ (X = W ∧ Y = H) then 26 else 0
theorem pwE_chk {X Y W H z : Int} {N : Nat} (h : z ≠ 0) : pwE X Y N W H z = z := if_pos h
theorem pwE_grid {X Y W H : Int} {N : Nat} (h : chk X Y N ≠ 0) : pwE X Y N W H 0 = chk X Y N := by unfold pwE; rw [if_neg (by simp), if_pos h]
theorem pwE_cnt {X Y W H : Int} {N : Nat} (h : chk X Y N = 0) (h2 : ¬ (X = W ∧ Y = H)) : pwE X Y N W H 0 = 26 := by unfold pwE; rw [if_neg (by simp), if_neg (by simp [h]), if_pos h2]
theorem pwE_ok {X Y W H : Int} {N : Nat} (h : chk X Y N = 0) (h2 : X = W ∧ Y = H) : pwE X Y N W H 0 = 0 := by unfold pwE; rw [if_neg (by simp), if_neg (by simp [h]), if_neg (by simp [h2])]
theorem pwE_zero {X Y W H z : Int} {N : Nat} (h : pwE X Y N W H z = 0) : z = 0 ∧ chk X Y N = 0 ∧ X = W ∧ Y = H := by
  unfold pwE at h
  split at h
  · contradiction
  · rename_i h1
    split at h
    · contradiction
    · rename_i h2
      split at h
      · cases h
      · rename_i h3
        exact ⟨by omega, by omega, by omega, by omega⟩
set_option maxHeartbeats 1600000 in
theorem checkw_any (X Y : Int) (D : Option Addr) (N g : Nat) (W H : Int) (A B C : Option Addr) (n c m d k e : Nat) (f a b : Nat → Int) (w : World) (hf : L2.Holds w w.heap.size A n f) (ha : L2.Holds w w.heap.size B m a) (hb1 : L2.Holds w w.heap.size C k b) (hN : N ≤ 4200) : Calls Try.prog 47 #[.agg #[.int .i64 X, .int .i64 Y, .slice D N g], .agg #[.int .i64 W, .int .i64 H, .slice A n c], .slice B m d, .slice C k e] w fun e w' => e = .returned (.int .i64 (pwE X Y N W H (pcE W H n m k f a b))) ∧ Below w.heap.size w w' := by
  have HC := Lib.hid (fun u (hb : Below w.heap.size w u) => check_any W H A B C n c m d k e f a b u ((hf.below hb).more hb.size) ((ha.below hb).more hb.size) ((hb1.below hb).more hb.size))
  have HG := Lib.hid (fun u => chk_err (A := D) (c := g) hN (rfl : chk X Y N = _) u)
  obtain ⟨z, hz⟩ : ∃ z, pcE W H n m k f a b = z := ⟨_, rfl⟩
  rw [hz] at HC ⊢
  clear hf ha hb1 hz
  by_cases h1 : z = 0
  · subst h1
    have z0 : ((0 : Int) != 0) = false := rfl
    by_cases h2 : chk X Y N = 0
    · rw [h2] at HG
      by_cases h3 : X = W
      · by_cases h4 : Y = H
        · rw [pwE_ok h2 ⟨h3, h4⟩]
          have y1 : (X != W) = false := by simp [h3]
          have y2 : (Y != H) = false := by simp [h4]
          clear h2 h3 h4
          have LB0 := Lib.hid (Below.refl w.heap.size w)
          have X2 := Box.new w X Y (.slice D N g)
          have X2 := Lib.hid X2
          have LB0 := Lib.hid (LB0.out.alloc LB0.out.size (.cells #[.int .i64 X, .int .i64 Y, .slice D N g] 27))
          have X2 := Lib.hid (X2.out.alloc (.cells #[.int .i64 W, .int .i64 H, .slice A n c] 24))
          have X1 := IBox.new (w.alloc (.cells #[.int .i64 X, .int .i64 Y, .slice D N g] 27)) W H (.slice A n c)
          rw [show ((w.alloc (.cells #[.int .i64 X, .int .i64 Y, .slice D N g] 27))).heap.size = w.heap.size + 1 by simp] at X1
          have X1 := Lib.hid X1
          have LB0 := Lib.hid (LB0.out.alloc LB0.out.size (.cells #[.int .i64 W, .int .i64 H, .slice A n c] 24))
          go_enter Try.func47, Try.ntmps47
          go_upto_region 1 with (fail)
          generalize (w.alloc (.cells #[.int .i64 X, .int .i64 Y, .slice D N g] 27)).alloc (.cells #[.int .i64 W, .int .i64 H, .slice A n c] 24) = w0 at *
          obtain ⟨q0, q1, q2, q3, q4, q5, q6⟩ := X1.out.all
          go_wp2_with fail
          clear q0 q1 q2 q3 q4 q5 q6
          with_reducible refine Calls.mono (HC.out _ LB0.out) ?_
          rintro e w1 ⟨rfl, hb⟩
          have LB1 := Lib.hid (LB0.out.trans (hb.mono LB0.out.size))
          have X2 := Lib.hid (X2.out.below hb X2.out.lt)
          have X1 := Lib.hid (X1.out.below hb X1.out.lt)
          clear hb LB0 
          obtain ⟨q0, q1, q2, q3, q4, q5, q6⟩ := X2.out.all
          go_wp2_with fail
          clear q0 q1 q2 q3 q4 q5 q6
          with_reducible refine Calls.mono (HG.out _) ?_
          rintro e w2 ⟨rfl, hb⟩
          have LB2 := Lib.hid (LB1.out.trans (hb.mono LB1.out.size))
          have X2 := Lib.hid (X2.out.below hb X2.out.lt)
          have X1 := Lib.hid (X1.out.below hb X1.out.lt)
          clear hb LB1 
          obtain ⟨q0, q1, q2, q3, q4, q5, q6⟩ := X1.out.all
          obtain ⟨p0, p1, p2, p3, p4, p5, p6⟩ := X2.out.all
          go_wp2
          go_ret
          exact ⟨rfl, LB2.out⟩
        · rw [pwE_cnt h2 (fun h => h4 h.2)]
          have y1 : (X != W) = false := by simp [h3]
          have y2 : (Y != H) = true := by simp [h4]
          clear h2 h3 h4
          have LB0 := Lib.hid (Below.refl w.heap.size w)
          have X2 := Box.new w X Y (.slice D N g)
          have X2 := Lib.hid X2
          have LB0 := Lib.hid (LB0.out.alloc LB0.out.size (.cells #[.int .i64 X, .int .i64 Y, .slice D N g] 27))
          have X2 := Lib.hid (X2.out.alloc (.cells #[.int .i64 W, .int .i64 H, .slice A n c] 24))
          have X1 := IBox.new (w.alloc (.cells #[.int .i64 X, .int .i64 Y, .slice D N g] 27)) W H (.slice A n c)
          rw [show ((w.alloc (.cells #[.int .i64 X, .int .i64 Y, .slice D N g] 27))).heap.size = w.heap.size + 1 by simp] at X1
          have X1 := Lib.hid X1
          have LB0 := Lib.hid (LB0.out.alloc LB0.out.size (.cells #[.int .i64 W, .int .i64 H, .slice A n c] 24))
          go_enter Try.func47, Try.ntmps47
          go_upto_region 1 with (fail)
          generalize (w.alloc (.cells #[.int .i64 X, .int .i64 Y, .slice D N g] 27)).alloc (.cells #[.int .i64 W, .int .i64 H, .slice A n c] 24) = w0 at *
          obtain ⟨q0, q1, q2, q3, q4, q5, q6⟩ := X1.out.all
          go_wp2_with fail
          clear q0 q1 q2 q3 q4 q5 q6
          with_reducible refine Calls.mono (HC.out _ LB0.out) ?_
          rintro e w1 ⟨rfl, hb⟩
          have LB1 := Lib.hid (LB0.out.trans (hb.mono LB0.out.size))
          have X2 := Lib.hid (X2.out.below hb X2.out.lt)
          have X1 := Lib.hid (X1.out.below hb X1.out.lt)
          clear hb LB0 
          obtain ⟨q0, q1, q2, q3, q4, q5, q6⟩ := X2.out.all
          go_wp2_with fail
          clear q0 q1 q2 q3 q4 q5 q6
          with_reducible refine Calls.mono (HG.out _) ?_
          rintro e w2 ⟨rfl, hb⟩
          have LB2 := Lib.hid (LB1.out.trans (hb.mono LB1.out.size))
          have X2 := Lib.hid (X2.out.below hb X2.out.lt)
          have X1 := Lib.hid (X1.out.below hb X1.out.lt)
          clear hb LB1 
          obtain ⟨q0, q1, q2, q3, q4, q5, q6⟩ := X1.out.all
          obtain ⟨p0, p1, p2, p3, p4, p5, p6⟩ := X2.out.all
          go_wp2
          go_ret
          exact ⟨rfl, LB2.out⟩
      · rw [pwE_cnt h2 (fun h => h3 h.1)]
        have y1 : (X != W) = true := by simp [h3]
        clear h2 h3
        have LB0 := Lib.hid (Below.refl w.heap.size w)
        have X2 := Box.new w X Y (.slice D N g)
        have X2 := Lib.hid X2
        have LB0 := Lib.hid (LB0.out.alloc LB0.out.size (.cells #[.int .i64 X, .int .i64 Y, .slice D N g] 27))
        have X2 := Lib.hid (X2.out.alloc (.cells #[.int .i64 W, .int .i64 H, .slice A n c] 24))
        have X1 := IBox.new (w.alloc (.cells #[.int .i64 X, .int .i64 Y, .slice D N g] 27)) W H (.slice A n c)
        rw [show ((w.alloc (.cells #[.int .i64 X, .int .i64 Y, .slice D N g] 27))).heap.size = w.heap.size + 1 by simp] at X1
        have X1 := Lib.hid X1
        have LB0 := Lib.hid (LB0.out.alloc LB0.out.size (.cells #[.int .i64 W, .int .i64 H, .slice A n c] 24))
        go_enter Try.func47, Try.ntmps47
        go_upto_region 1 with (fail)
        generalize (w.alloc (.cells #[.int .i64 X, .int .i64 Y, .slice D N g] 27)).alloc (.cells #[.int .i64 W, .int .i64 H, .slice A n c] 24) = w0 at *
        obtain ⟨q0, q1, q2, q3, q4, q5, q6⟩ := X1.out.all
        go_wp2_with fail
        clear q0 q1 q2 q3 q4 q5 q6
        with_reducible refine Calls.mono (HC.out _ LB0.out) ?_
        rintro e w1 ⟨rfl, hb⟩
        have LB1 := Lib.hid (LB0.out.trans (hb.mono LB0.out.size))
        have X2 := Lib.hid (X2.out.below hb X2.out.lt)
        have X1 := Lib.hid (X1.out.below hb X1.out.lt)
        clear hb LB0 
        obtain ⟨q0, q1, q2, q3, q4, q5, q6⟩ := X2.out.all
        go_wp2_with fail
        clear q0 q1 q2 q3 q4 q5 q6
        with_reducible refine Calls.mono (HG.out _) ?_
        rintro e w2 ⟨rfl, hb⟩
        have LB2 := Lib.hid (LB1.out.trans (hb.mono LB1.out.size))
        have X2 := Lib.hid (X2.out.below hb X2.out.lt)
        have X1 := Lib.hid (X1.out.below hb X1.out.lt)
        clear hb LB1 
        obtain ⟨q0, q1, q2, q3, q4, q5, q6⟩ := X1.out.all
        obtain ⟨p0, p1, p2, p3, p4, p5, p6⟩ := X2.out.all
        go_wp2
        go_ret
        exact ⟨rfl, LB2.out⟩
    · rw [pwE_grid h2]
      have y1 : (chk X Y N != 0) = true := by simp [h2]
      obtain ⟨z, hz⟩ : ∃ z, chk X Y N = z := ⟨_, rfl⟩
      rw [hz] at HG y1 ⊢
      clear h2 hz
      have LB0 := Lib.hid (Below.refl w.heap.size w)
      have X2 := Box.new w X Y (.slice D N g)
      have X2 := Lib.hid X2
      have LB0 := Lib.hid (LB0.out.alloc LB0.out.size (.cells #[.int .i64 X, .int .i64 Y, .slice D N g] 27))
      have X2 := Lib.hid (X2.out.alloc (.cells #[.int .i64 W, .int .i64 H, .slice A n c] 24))
      have X1 := IBox.new (w.alloc (.cells #[.int .i64 X, .int .i64 Y, .slice D N g] 27)) W H (.slice A n c)
      rw [show ((w.alloc (.cells #[.int .i64 X, .int .i64 Y, .slice D N g] 27))).heap.size = w.heap.size + 1 by simp] at X1
      have X1 := Lib.hid X1
      have LB0 := Lib.hid (LB0.out.alloc LB0.out.size (.cells #[.int .i64 W, .int .i64 H, .slice A n c] 24))
      go_enter Try.func47, Try.ntmps47
      go_upto_region 1 with (fail)
      generalize (w.alloc (.cells #[.int .i64 X, .int .i64 Y, .slice D N g] 27)).alloc (.cells #[.int .i64 W, .int .i64 H, .slice A n c] 24) = w0 at *
      obtain ⟨q0, q1, q2, q3, q4, q5, q6⟩ := X1.out.all
      go_wp2_with fail
      clear q0 q1 q2 q3 q4 q5 q6
      with_reducible refine Calls.mono (HC.out _ LB0.out) ?_
      rintro e w1 ⟨rfl, hb⟩
      have LB1 := Lib.hid (LB0.out.trans (hb.mono LB0.out.size))
      have X2 := Lib.hid (X2.out.below hb X2.out.lt)
      have X1 := Lib.hid (X1.out.below hb X1.out.lt)
      clear hb LB0 
      obtain ⟨q0, q1, q2, q3, q4, q5, q6⟩ := X2.out.all
      go_wp2_with fail
      clear q0 q1 q2 q3 q4 q5 q6
      with_reducible refine Calls.mono (HG.out _) ?_
      rintro e w2 ⟨rfl, hb⟩
      have LB2 := Lib.hid (LB1.out.trans (hb.mono LB1.out.size))
      have X2 := Lib.hid (X2.out.below hb X2.out.lt)
      have X1 := Lib.hid (X1.out.below hb X1.out.lt)
      clear hb LB1 
      obtain ⟨q0, q1, q2, q3, q4, q5, q6⟩ := X1.out.all
      obtain ⟨p0, p1, p2, p3, p4, p5, p6⟩ := X2.out.all
      go_wp2
      go_ret
      exact ⟨rfl, LB2.out⟩
  · rw [pwE_chk h1]
    have y1 : (z != 0) = true := by simp [h1]
    clear h1
    have LB0 := Lib.hid (Below.refl w.heap.size w)
    have X2 := Box.new w X Y (.slice D N g)
    have X2 := Lib.hid X2
    have LB0 := Lib.hid (LB0.out.alloc LB0.out.size (.cells #[.int .i64 X, .int .i64 Y, .slice D N g] 27))
    have X2 := Lib.hid (X2.out.alloc (.cells #[.int .i64 W, .int .i64 H, .slice A n c] 24))
    have X1 := IBox.new (w.alloc (.cells #[.int .i64 X, .int .i64 Y, .slice D N g] 27)) W H (.slice A n c)
    rw [show ((w.alloc (.cells #[.int .i64 X, .int .i64 Y, .slice D N g] 27))).heap.size = w.heap.size + 1 by simp] at X1
    have X1 := Lib.hid X1
    have LB0 := Lib.hid (LB0.out.alloc LB0.out.size (.cells #[.int .i64 W, .int .i64 H, .slice A n c] 24))
    go_enter Try.func47, Try.ntmps47
    go_upto_region 1 with (fail)
    generalize (w.alloc (.cells #[.int .i64 X, .int .i64 Y, .slice D N g] 27)).alloc (.cells #[.int .i64 W, .int .i64 H, .slice A n c] 24) = w0 at *
    obtain ⟨q0, q1, q2, q3, q4, q5, q6⟩ := X1.out.all
    go_wp2_with fail
    clear q0 q1 q2 q3 q4 q5 q6
    with_reducible refine Calls.mono (HC.out _ LB0.out) ?_
    rintro e w1 ⟨rfl, hb⟩
    have LB1 := Lib.hid (LB0.out.trans (hb.mono LB0.out.size))
    have X2 := Lib.hid (X2.out.below hb X2.out.lt)
    have X1 := Lib.hid (X1.out.below hb X1.out.lt)
    clear hb LB0 
    obtain ⟨q0, q1, q2, q3, q4, q5, q6⟩ := X1.out.all
    obtain ⟨p0, p1, p2, p3, p4, p5, p6⟩ := X2.out.all
    go_wp2
    go_ret
    exact ⟨rfl, LB1.out⟩
end Go.Proofs.Ytmcdfnhpaneanaa
