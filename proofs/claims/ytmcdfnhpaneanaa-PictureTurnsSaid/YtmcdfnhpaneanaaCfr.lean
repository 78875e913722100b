/- Layer 14 of the program: Front, Back, Turn. -/
import Derived.Test.YtmcdfnhpaneanaaCcl
namespace Go.Proofs.Ytmcdfnhpaneanaa
open Go.RowKit
set_option maxRecDepth 100000
set_option linter.unusedVariables false
set_option linter.unusedSimpArgs false

/-- What is wrong with a grid and its threads' colours. -/
def thE (W H : Int) (n m k : Nat) (a b : Nat → Int) : Int :=
  if chk W H n ≠ 0 then chk W H n else if ¬ ((m : Int) = W ∧ (k : Int) = H) then 26 else if fine m a = true ∧ fine k b = true then 0 else 8
theorem thE_chk {W H : Int} {n m k : Nat} {a b : Nat → Int} {z : Int} (h : chk W H n = z) (hz : z ≠ 0) : thE W H n m k a b = z := by unfold thE; rw [h, if_pos hz]
theorem thE_cnt {W H : Int} {n m k : Nat} {a b : Nat → Int} (h : chk W H n = 0) (h2 : ¬ ((m : Int) = W ∧ (k : Int) = H)) : thE W H n m k a b = 26 := by unfold thE; rw [h, if_neg (by simp), if_pos h2]
theorem thE_bad {W H : Int} {n m k : Nat} {a b : Nat → Int} (h : chk W H n = 0) (h2 : (m : Int) = W ∧ (k : Int) = H) (h3 : ¬ (fine m a = true ∧ fine k b = true)) : thE W H n m k a b = 8 := by unfold thE; rw [h, if_neg (by simp), if_neg (by simp [h2]), if_neg h3]
theorem thE_ok {W H : Int} {n m k : Nat} {a b : Nat → Int} (h : chk W H n = 0) (h2 : (m : Int) = W ∧ (k : Int) = H) (h3 : fine m a = true ∧ fine k b = true) : thE W H n m k a b = 0 := by unfold thE; rw [h, if_neg (by simp), if_neg (by simp [h2]), if_pos h3]
theorem thE_zero {W H : Int} {n m k : Nat} {a b : Nat → Int} (h : thE W H n m k a b = 0) : ∃ P Q : Nat, W = P ∧ H = Q ∧ n = P * Q ∧ m = P ∧ k = Q ∧ 1 ≤ P ∧ P ≤ 64 ∧ 1 ≤ Q ∧ Q ≤ 64 ∧ fine m a = true ∧ fine k b = true := by
  by_cases h1 : chk W H n = 0
  · by_cases h2 : (m : Int) = W ∧ (k : Int) = H
    · by_cases h3 : fine m a = true ∧ fine k b = true
      · obtain ⟨a1, a2, a3, a4, a5⟩ := chk_ok h1
        obtain ⟨P, rfl⟩ := Int.eq_ofNat_of_zero_le (show 0 ≤ W by omega)
        obtain ⟨Q, rfl⟩ := Int.eq_ofNat_of_zero_le (show 0 ≤ H by omega)
        exact ⟨P, Q, rfl, rfl, by exact_mod_cast a5, by omega, by omega, by omega, by omega, by omega, by omega, h3.1, h3.2⟩
      · rw [thE_bad h1 h2 h3] at h; cases h
    · rw [thE_cnt h1 h2] at h; cases h
  · rw [thE_chk rfl h1] at h; exact absurd h h1
theorem bel_r3 {w w2 : World} {r : Nat} {a b d : Value} (hr : w.heap.size ≤ r) (hb : Below w.heap.size w w2) : Below w.heap.size w (((w2.setCell ⟨r, 0, none⟩ a).setCell ⟨r, 1, none⟩ b).setCell ⟨r, 2, none⟩ d) :=
  ((hb.setCell (p := ⟨r, 0, none⟩) hr _).setCell (p := ⟨r, 1, none⟩) hr _).setCell (p := ⟨r, 2, none⟩) hr _
theorem fin_ie {w w2 : World} {err : Int} {r : Nat} {a b d : Value} (F : Nat → Int) (hr : w.heap.size ≤ r) (hb : Below w.heap.size w w2) :
    RI w 0 0 0 F err (.returned (.tuple #[.agg #[.int .i64 0, .int .i64 0, .slice none 0 0], .int .i64 err])) (((w2.setCell ⟨r, 0, none⟩ a).setCell ⟨r, 1, none⟩ b).setCell ⟨r, 2, none⟩ d) :=
  ⟨none, 0, rfl, L2.Holds.none_, bel_r3 hr hb⟩
theorem fin_im {w w2 : World} {X Y z : Int} {N r k c : Nat} {a b d : Value} {F : Nat → Int} (hr : w.heap.size ≤ r) (hk : r < k) (hrow : L2.Row w2 k N F) (hb : Below w.heap.size w w2) :
    RI w X Y N F z (.returned (.tuple #[.agg #[.int .i64 X, .int .i64 Y, .slice (some ⟨k, 0, none⟩) N c], .int .i64 z])) (((w2.setCell ⟨r, 0, none⟩ a).setCell ⟨r, 1, none⟩ b).setCell ⟨r, 2, none⟩ d) := by
  have h := ((hrow.far (p := ⟨r, 0, none⟩) (show k ≠ r by omega) a).far (p := ⟨r, 1, none⟩) (show k ≠ r by omega) b).far (p := ⟨r, 2, none⟩) (show k ≠ r by omega) d
  exact ⟨_, _, rfl, h.holds h.lt, bel_r3 hr hb⟩
/-- What Front shows. -/
def shF (W : Nat) (f : Nat → Bool) (a b : Nat → Int) : Nat → Int := fun i => if f i then a (i % W) else b (i / W)
/-- What Back shows. -/
def bkF (W : Nat) (f : Nat → Bool) (a b : Nat → Int) : Nat → Int := fun i => shF W (fun j => !f j) a b (i / W * W + (W - 1 - i % W))
set_option maxHeartbeats 800000 in
theorem front_chk (W H : Int) (A B C : Option Addr) (n c m d k e : Nat) (a b : Nat → Int) (w : World) (F : Nat → Int) {z : Int} (hn : n ≤ 4200) (hz : chk W H n = z) (hne : z ≠ 0) : Calls Try.prog 37 #[.agg #[.int .i64 W, .int .i64 H, .slice A n c], .slice B m d, .slice C k e] w (RI w 0 0 0 F z) := by
  have HK := Lib.hid (fun u => chk_err (A := A) (c := c) hn hz u)
  have y1 : (z != 0) = true := by rw [bne_iff_ne]; exact hne
  clear hz hne
  have LB0 := Lib.hid (Below.refl w.heap.size w)
  have X1 := Box.new w W H (.slice A n c)
  have X1 := Lib.hid X1
  have LB0 := Lib.hid (LB0.out.alloc LB0.out.size (.cells #[.int .i64 W, .int .i64 H, .slice A n c] 27))
  have X1 := Lib.hid (X1.out.alloc (.cells #[.slice B m d] 22))
  have X2 := SBox.new (w.alloc (.cells #[.int .i64 W, .int .i64 H, .slice A n c] 27)) (.slice B m d)
  rw [show ((w.alloc (.cells #[.int .i64 W, .int .i64 H, .slice A n c] 27))).heap.size = w.heap.size + 1 by simp] at X2
  have X2 := Lib.hid X2
  have LB0 := Lib.hid (LB0.out.alloc LB0.out.size (.cells #[.slice B m d] 22))
  have X1 := Lib.hid (X1.out.alloc (.cells #[.slice C k e] 22))
  have X2 := Lib.hid (X2.out.alloc (.cells #[.slice C k e] 22))
  have X3 := SBox.new ((w.alloc (.cells #[.int .i64 W, .int .i64 H, .slice A n c] 27)).alloc (.cells #[.slice B m d] 22)) (.slice C k e)
  rw [show (((w.alloc (.cells #[.int .i64 W, .int .i64 H, .slice A n c] 27)).alloc (.cells #[.slice B m d] 22))).heap.size = w.heap.size + 2 by simp] at X3
  have X3 := Lib.hid X3
  have LB0 := Lib.hid (LB0.out.alloc LB0.out.size (.cells #[.slice C k e] 22))
  have X1 := Lib.hid (X1.out.alloc (.cells #[.int .i64 0, .int .i64 0, .slice none 0 0] 24))
  have X2 := Lib.hid (X2.out.alloc (.cells #[.int .i64 0, .int .i64 0, .slice none 0 0] 24))
  have X3 := Lib.hid (X3.out.alloc (.cells #[.int .i64 0, .int .i64 0, .slice none 0 0] 24))
  have R0 := IBox.new (((w.alloc (.cells #[.int .i64 W, .int .i64 H, .slice A n c] 27)).alloc (.cells #[.slice B m d] 22)).alloc (.cells #[.slice C k e] 22)) 0 0 (.slice none 0 0)
  rw [show ((((w.alloc (.cells #[.int .i64 W, .int .i64 H, .slice A n c] 27)).alloc (.cells #[.slice B m d] 22)).alloc (.cells #[.slice C k e] 22))).heap.size = w.heap.size + 3 by simp] at R0
  have R0 := Lib.hid R0
  have LB0 := Lib.hid (LB0.out.alloc LB0.out.size (.cells #[.int .i64 0, .int .i64 0, .slice none 0 0] 24))
  go_enter Try.func37, Try.ntmps37
  go_upto_region 1 with (fail)
  generalize (((w.alloc (.cells #[.int .i64 W, .int .i64 H, .slice A n c] 27)).alloc (.cells #[.slice B m d] 22)).alloc (.cells #[.slice C k e] 22)).alloc (.cells #[.int .i64 0, .int .i64 0, .slice none 0 0] 24) = w0 at *
  obtain ⟨q0, q1, q2, q3, q4, q5, q6⟩ := X1.out.all
  obtain ⟨q7, q8, q9⟩ := X2.out.all
  obtain ⟨q10, q11, q12⟩ := X3.out.all
  go_wp2_with fail
  clear q0 q1 q2 q3 q4 q5 q6 q7 q8 q9 q10 q11 q12
  with_reducible refine Calls.mono (HK.out _) ?_
  rintro e w1 ⟨rfl, hb⟩
  have LB1 := Lib.hid (LB0.out.trans (hb.mono LB0.out.size))
  have X1 := Lib.hid (X1.out.below hb X1.out.lt)
  have X2 := Lib.hid (X2.out.below hb X2.out.lt)
  have X3 := Lib.hid (X3.out.below hb X3.out.lt)
  have R0 := Lib.hid (R0.out.below hb R0.out.lt)
  clear hb LB0 
  obtain ⟨rb, hrb⟩ : ∃ z, w.heap.size + 3 = z := ⟨_, rfl⟩
  have hrw : w.heap.size ≤ rb := by omega
  rw [hrb] at R0 ⊢
  clear hrb
  obtain ⟨q0, q1, q2, q3, q4, q5, q6⟩ := X1.out.all
  obtain ⟨q7, q8, q9⟩ := X2.out.all
  obtain ⟨q10, q11, q12⟩ := X3.out.all
  obtain ⟨s0, s1, s2, s3, s4, s5, s6⟩ := R0.out.all
  go_wp2
  refine bodyPost_ret (v := .tuple #[.agg #[.int .i64 0, .int .i64 0, .slice none 0 0], .int .i64 z]) (by simp [results, Try.results37, go_sem, s0, s1, s2, s3, s4, s5]) rfl ?_
  exact fin_ie _ hrw LB1.out
set_option maxHeartbeats 800000 in
theorem front_cnt1 (W H : Int) (A B C : Option Addr) (n c m d k e : Nat) (a b : Nat → Int) (w : World) (F : Nat → Int) (hn : n ≤ 4200) (hz : chk W H n = 0) (hm : ¬ (m : Int) = W) : Calls Try.prog 37 #[.agg #[.int .i64 W, .int .i64 H, .slice A n c], .slice B m d, .slice C k e] w (RI w 0 0 0 F 26) := by
  have HK := Lib.hid (fun u => chk_err (A := A) (c := c) hn hz u)
  have y1 : ((0 : Int) != 0) = false := rfl
  clear hz
  have y2 : ((m : Int) != W) = true := by rw [bne_iff_ne]; exact hm
  clear hm
  have LB0 := Lib.hid (Below.refl w.heap.size w)
  have X1 := Box.new w W H (.slice A n c)
  have X1 := Lib.hid X1
  have LB0 := Lib.hid (LB0.out.alloc LB0.out.size (.cells #[.int .i64 W, .int .i64 H, .slice A n c] 27))
  have X1 := Lib.hid (X1.out.alloc (.cells #[.slice B m d] 22))
  have X2 := SBox.new (w.alloc (.cells #[.int .i64 W, .int .i64 H, .slice A n c] 27)) (.slice B m d)
  rw [show ((w.alloc (.cells #[.int .i64 W, .int .i64 H, .slice A n c] 27))).heap.size = w.heap.size + 1 by simp] at X2
  have X2 := Lib.hid X2
  have LB0 := Lib.hid (LB0.out.alloc LB0.out.size (.cells #[.slice B m d] 22))
  have X1 := Lib.hid (X1.out.alloc (.cells #[.slice C k e] 22))
  have X2 := Lib.hid (X2.out.alloc (.cells #[.slice C k e] 22))
  have X3 := SBox.new ((w.alloc (.cells #[.int .i64 W, .int .i64 H, .slice A n c] 27)).alloc (.cells #[.slice B m d] 22)) (.slice C k e)
  rw [show (((w.alloc (.cells #[.int .i64 W, .int .i64 H, .slice A n c] 27)).alloc (.cells #[.slice B m d] 22))).heap.size = w.heap.size + 2 by simp] at X3
  have X3 := Lib.hid X3
  have LB0 := Lib.hid (LB0.out.alloc LB0.out.size (.cells #[.slice C k e] 22))
  have X1 := Lib.hid (X1.out.alloc (.cells #[.int .i64 0, .int .i64 0, .slice none 0 0] 24))
  have X2 := Lib.hid (X2.out.alloc (.cells #[.int .i64 0, .int .i64 0, .slice none 0 0] 24))
  have X3 := Lib.hid (X3.out.alloc (.cells #[.int .i64 0, .int .i64 0, .slice none 0 0] 24))
  have R0 := IBox.new (((w.alloc (.cells #[.int .i64 W, .int .i64 H, .slice A n c] 27)).alloc (.cells #[.slice B m d] 22)).alloc (.cells #[.slice C k e] 22)) 0 0 (.slice none 0 0)
  rw [show ((((w.alloc (.cells #[.int .i64 W, .int .i64 H, .slice A n c] 27)).alloc (.cells #[.slice B m d] 22)).alloc (.cells #[.slice C k e] 22))).heap.size = w.heap.size + 3 by simp] at R0
  have R0 := Lib.hid R0
  have LB0 := Lib.hid (LB0.out.alloc LB0.out.size (.cells #[.int .i64 0, .int .i64 0, .slice none 0 0] 24))
  go_enter Try.func37, Try.ntmps37
  go_upto_region 1 with (fail)
  generalize (((w.alloc (.cells #[.int .i64 W, .int .i64 H, .slice A n c] 27)).alloc (.cells #[.slice B m d] 22)).alloc (.cells #[.slice C k e] 22)).alloc (.cells #[.int .i64 0, .int .i64 0, .slice none 0 0] 24) = w0 at *
  obtain ⟨q0, q1, q2, q3, q4, q5, q6⟩ := X1.out.all
  obtain ⟨q7, q8, q9⟩ := X2.out.all
  obtain ⟨q10, q11, q12⟩ := X3.out.all
  go_wp2_with fail
  clear q0 q1 q2 q3 q4 q5 q6 q7 q8 q9 q10 q11 q12
  with_reducible refine Calls.mono (HK.out _) ?_
  rintro e w1 ⟨rfl, hb⟩
  have LB1 := Lib.hid (LB0.out.trans (hb.mono LB0.out.size))
  have X1 := Lib.hid (X1.out.below hb X1.out.lt)
  have X2 := Lib.hid (X2.out.below hb X2.out.lt)
  have X3 := Lib.hid (X3.out.below hb X3.out.lt)
  have R0 := Lib.hid (R0.out.below hb R0.out.lt)
  clear hb LB0 
  obtain ⟨rb, hrb⟩ : ∃ z, w.heap.size + 3 = z := ⟨_, rfl⟩
  have hrw : w.heap.size ≤ rb := by omega
  rw [hrb] at R0 ⊢
  clear hrb
  obtain ⟨q0, q1, q2, q3, q4, q5, q6⟩ := X1.out.all
  obtain ⟨q7, q8, q9⟩ := X2.out.all
  obtain ⟨q10, q11, q12⟩ := X3.out.all
  obtain ⟨s0, s1, s2, s3, s4, s5, s6⟩ := R0.out.all
  go_wp2
  refine bodyPost_ret (v := .tuple #[.agg #[.int .i64 0, .int .i64 0, .slice none 0 0], .int .i64 26]) (by simp [results, Try.results37, go_sem, s0, s1, s2, s3, s4, s5]) rfl ?_
  exact fin_ie _ hrw LB1.out
set_option maxHeartbeats 800000 in
theorem front_cnt2 (W H : Int) (A B C : Option Addr) (n c m d k e : Nat) (a b : Nat → Int) (w : World) (F : Nat → Int) (hn : n ≤ 4200) (hz : chk W H n = 0) (hm : (m : Int) = W) (hk : ¬ (k : Int) = H) : Calls Try.prog 37 #[.agg #[.int .i64 W, .int .i64 H, .slice A n c], .slice B m d, .slice C k e] w (RI w 0 0 0 F 26) := by
  have HK := Lib.hid (fun u => chk_err (A := A) (c := c) hn hz u)
  have y1 : ((0 : Int) != 0) = false := rfl
  clear hz
  have y2 : ((m : Int) != W) = false := by simp [hm]
  have y3 : ((k : Int) != H) = true := by rw [bne_iff_ne]; exact hk
  clear hm hk
  have LB0 := Lib.hid (Below.refl w.heap.size w)
  have X1 := Box.new w W H (.slice A n c)
  have X1 := Lib.hid X1
  have LB0 := Lib.hid (LB0.out.alloc LB0.out.size (.cells #[.int .i64 W, .int .i64 H, .slice A n c] 27))
  have X1 := Lib.hid (X1.out.alloc (.cells #[.slice B m d] 22))
  have X2 := SBox.new (w.alloc (.cells #[.int .i64 W, .int .i64 H, .slice A n c] 27)) (.slice B m d)
  rw [show ((w.alloc (.cells #[.int .i64 W, .int .i64 H, .slice A n c] 27))).heap.size = w.heap.size + 1 by simp] at X2
  have X2 := Lib.hid X2
  have LB0 := Lib.hid (LB0.out.alloc LB0.out.size (.cells #[.slice B m d] 22))
  have X1 := Lib.hid (X1.out.alloc (.cells #[.slice C k e] 22))
  have X2 := Lib.hid (X2.out.alloc (.cells #[.slice C k e] 22))
  have X3 := SBox.new ((w.alloc (.cells #[.int .i64 W, .int .i64 H, .slice A n c] 27)).alloc (.cells #[.slice B m d] 22)) (.slice C k e)
  rw [show (((w.alloc (.cells #[.int .i64 W, .int .i64 H, .slice A n c] 27)).alloc (.cells #[.slice B m d] 22))).heap.size = w.heap.size + 2 by simp] at X3
  have X3 := Lib.hid X3
  have LB0 := Lib.hid (LB0.out.alloc LB0.out.size (.cells #[.slice C k e] 22))
  have X1 := Lib.hid (X1.out.alloc (.cells #[.int .i64 0, .int .i64 0, .slice none 0 0] 24))
  have X2 := Lib.hid (X2.out.alloc (.cells #[.int .i64 0, .int .i64 0, .slice none 0 0] 24))
  have X3 := Lib.hid (X3.out.alloc (.cells #[.int .i64 0, .int .i64 0, .slice none 0 0] 24))
  have R0 := IBox.new (((w.alloc (.cells #[.int .i64 W, .int .i64 H, .slice A n c] 27)).alloc (.cells #[.slice B m d] 22)).alloc (.cells #[.slice C k e] 22)) 0 0 (.slice none 0 0)
  rw [show ((((w.alloc (.cells #[.int .i64 W, .int .i64 H, .slice A n c] 27)).alloc (.cells #[.slice B m d] 22)).alloc (.cells #[.slice C k e] 22))).heap.size = w.heap.size + 3 by simp] at R0
  have R0 := Lib.hid R0
  have LB0 := Lib.hid (LB0.out.alloc LB0.out.size (.cells #[.int .i64 0, .int .i64 0, .slice none 0 0] 24))
  go_enter Try.func37, Try.ntmps37
  go_upto_region 1 with (fail)
  generalize (((w.alloc (.cells #[.int .i64 W, .int .i64 H, .slice A n c] 27)).alloc (.cells #[.slice B m d] 22)).alloc (.cells #[.slice C k e] 22)).alloc (.cells #[.int .i64 0, .int .i64 0, .slice none 0 0] 24) = w0 at *
  obtain ⟨q0, q1, q2, q3, q4, q5, q6⟩ := X1.out.all
  obtain ⟨q7, q8, q9⟩ := X2.out.all
  obtain ⟨q10, q11, q12⟩ := X3.out.all
  go_wp2_with fail
  clear q0 q1 q2 q3 q4 q5 q6 q7 q8 q9 q10 q11 q12
  with_reducible refine Calls.mono (HK.out _) ?_
  rintro e w1 ⟨rfl, hb⟩
  have LB1 := Lib.hid (LB0.out.trans (hb.mono LB0.out.size))
  have X1 := Lib.hid (X1.out.below hb X1.out.lt)
  have X2 := Lib.hid (X2.out.below hb X2.out.lt)
  have X3 := Lib.hid (X3.out.below hb X3.out.lt)
  have R0 := Lib.hid (R0.out.below hb R0.out.lt)
  clear hb LB0 
  obtain ⟨rb, hrb⟩ : ∃ z, w.heap.size + 3 = z := ⟨_, rfl⟩
  have hrw : w.heap.size ≤ rb := by omega
  rw [hrb] at R0 ⊢
  clear hrb
  obtain ⟨q0, q1, q2, q3, q4, q5, q6⟩ := X1.out.all
  obtain ⟨q7, q8, q9⟩ := X2.out.all
  obtain ⟨q10, q11, q12⟩ := X3.out.all
  obtain ⟨s0, s1, s2, s3, s4, s5, s6⟩ := R0.out.all
  go_wp2
  refine bodyPost_ret (v := .tuple #[.agg #[.int .i64 0, .int .i64 0, .slice none 0 0], .int .i64 26]) (by simp [results, Try.results37, go_sem, s0, s1, s2, s3, s4, s5]) rfl ?_
  exact fin_ie _ hrw LB1.out
set_option maxHeartbeats 800000 in
theorem front_bad1 (W H : Int) (A B C : Option Addr) (n c m d k e : Nat) (a b : Nat → Int) (w : World) (F : Nat → Int) (hn : n ≤ 4200) (hz : chk W H n = 0) (hm : (m : Int) = W) (hk : (k : Int) = H) (hm1 : m ≤ 5000) (hk1 : k ≤ 5000) (ha : L2.Holds w w.heap.size B m a) (hb1 : L2.Holds w w.heap.size C k b) (hx : fine m a = false) : Calls Try.prog 37 #[.agg #[.int .i64 W, .int .i64 H, .slice A n c], .slice B m d, .slice C k e] w (RI w 0 0 0 F 8) := by
  have HK := Lib.hid (fun u => chk_err (A := A) (c := c) hn hz u)
  have y1 : ((0 : Int) != 0) = false := rfl
  clear hz
  have y2 : ((m : Int) != W) = false := by simp [hm]
  have y3 : ((k : Int) != H) = false := by simp [hk]
  clear hm hk
  have HA := Lib.hid (fun u (hb : Below w.heap.size w u) => are_any B m d a u (by omega) ((ha.below hb).more hb.size))
  have HB := Lib.hid (fun u (hb : Below w.heap.size w u) => are_any C k e b u (by omega) ((hb1.below hb).more hb.size))
  rw [hx] at HA
  clear hx ha hb1
  have LB0 := Lib.hid (Below.refl w.heap.size w)
  have X1 := Box.new w W H (.slice A n c)
  have X1 := Lib.hid X1
  have LB0 := Lib.hid (LB0.out.alloc LB0.out.size (.cells #[.int .i64 W, .int .i64 H, .slice A n c] 27))
  have X1 := Lib.hid (X1.out.alloc (.cells #[.slice B m d] 22))
  have X2 := SBox.new (w.alloc (.cells #[.int .i64 W, .int .i64 H, .slice A n c] 27)) (.slice B m d)
  rw [show ((w.alloc (.cells #[.int .i64 W, .int .i64 H, .slice A n c] 27))).heap.size = w.heap.size + 1 by simp] at X2
  have X2 := Lib.hid X2
  have LB0 := Lib.hid (LB0.out.alloc LB0.out.size (.cells #[.slice B m d] 22))
  have X1 := Lib.hid (X1.out.alloc (.cells #[.slice C k e] 22))
  have X2 := Lib.hid (X2.out.alloc (.cells #[.slice C k e] 22))
  have X3 := SBox.new ((w.alloc (.cells #[.int .i64 W, .int .i64 H, .slice A n c] 27)).alloc (.cells #[.slice B m d] 22)) (.slice C k e)
  rw [show (((w.alloc (.cells #[.int .i64 W, .int .i64 H, .slice A n c] 27)).alloc (.cells #[.slice B m d] 22))).heap.size = w.heap.size + 2 by simp] at X3
  have X3 := Lib.hid X3
  have LB0 := Lib.hid (LB0.out.alloc LB0.out.size (.cells #[.slice C k e] 22))
  have X1 := Lib.hid (X1.out.alloc (.cells #[.int .i64 0, .int .i64 0, .slice none 0 0] 24))
  have X2 := Lib.hid (X2.out.alloc (.cells #[.int .i64 0, .int .i64 0, .slice none 0 0] 24))
  have X3 := Lib.hid (X3.out.alloc (.cells #[.int .i64 0, .int .i64 0, .slice none 0 0] 24))
  have R0 := IBox.new (((w.alloc (.cells #[.int .i64 W, .int .i64 H, .slice A n c] 27)).alloc (.cells #[.slice B m d] 22)).alloc (.cells #[.slice C k e] 22)) 0 0 (.slice none 0 0)
  rw [show ((((w.alloc (.cells #[.int .i64 W, .int .i64 H, .slice A n c] 27)).alloc (.cells #[.slice B m d] 22)).alloc (.cells #[.slice C k e] 22))).heap.size = w.heap.size + 3 by simp] at R0
  have R0 := Lib.hid R0
  have LB0 := Lib.hid (LB0.out.alloc LB0.out.size (.cells #[.int .i64 0, .int .i64 0, .slice none 0 0] 24))
  go_enter Try.func37, Try.ntmps37
  go_upto_region 1 with (fail)
  generalize (((w.alloc (.cells #[.int .i64 W, .int .i64 H, .slice A n c] 27)).alloc (.cells #[.slice B m d] 22)).alloc (.cells #[.slice C k e] 22)).alloc (.cells #[.int .i64 0, .int .i64 0, .slice none 0 0] 24) = w0 at *
  obtain ⟨q0, q1, q2, q3, q4, q5, q6⟩ := X1.out.all
  obtain ⟨q7, q8, q9⟩ := X2.out.all
  obtain ⟨q10, q11, q12⟩ := X3.out.all
  go_wp2_with fail
  clear q0 q1 q2 q3 q4 q5 q6 q7 q8 q9 q10 q11 q12
  with_reducible refine Calls.mono (HK.out _) ?_
  rintro e w1 ⟨rfl, hb⟩
  have LB1 := Lib.hid (LB0.out.trans (hb.mono LB0.out.size))
  have X1 := Lib.hid (X1.out.below hb X1.out.lt)
  have X2 := Lib.hid (X2.out.below hb X2.out.lt)
  have X3 := Lib.hid (X3.out.below hb X3.out.lt)
  have R0 := Lib.hid (R0.out.below hb R0.out.lt)
  clear hb LB0 
  obtain ⟨q0, q1, q2, q3, q4, q5, q6⟩ := X1.out.all
  obtain ⟨q7, q8, q9⟩ := X2.out.all
  obtain ⟨q10, q11, q12⟩ := X3.out.all
  go_wp2_with fail
  clear q0 q1 q2 q3 q4 q5 q6 q7 q8 q9 q10 q11 q12
  with_reducible refine Calls.mono (HA.out _ LB1.out) ?_
  rintro e w2 ⟨rfl, hb⟩
  have LB2 := Lib.hid (LB1.out.trans (hb.mono LB1.out.size))
  have X1 := Lib.hid (X1.out.below hb X1.out.lt)
  have X2 := Lib.hid (X2.out.below hb X2.out.lt)
  have X3 := Lib.hid (X3.out.below hb X3.out.lt)
  have R0 := Lib.hid (R0.out.below hb R0.out.lt)
  clear hb LB1 
  obtain ⟨rb, hrb⟩ : ∃ z, w.heap.size + 3 = z := ⟨_, rfl⟩
  have hrw : w.heap.size ≤ rb := by omega
  rw [hrb] at R0 ⊢
  clear hrb
  obtain ⟨q0, q1, q2, q3, q4, q5, q6⟩ := X1.out.all
  obtain ⟨q7, q8, q9⟩ := X2.out.all
  obtain ⟨q10, q11, q12⟩ := X3.out.all
  obtain ⟨s0, s1, s2, s3, s4, s5, s6⟩ := R0.out.all
  go_wp2
  refine bodyPost_ret (v := .tuple #[.agg #[.int .i64 0, .int .i64 0, .slice none 0 0], .int .i64 8]) (by simp [results, Try.results37, go_sem, s0, s1, s2, s3, s4, s5]) rfl ?_
  exact fin_ie _ hrw LB2.out
set_option maxHeartbeats 800000 in
theorem front_bad2 (W H : Int) (A B C : Option Addr) (n c m d k e : Nat) (a b : Nat → Int) (w : World) (F : Nat → Int) (hn : n ≤ 4200) (hz : chk W H n = 0) (hm : (m : Int) = W) (hk : (k : Int) = H) (hm1 : m ≤ 5000) (hk1 : k ≤ 5000) (ha : L2.Holds w w.heap.size B m a) (hb1 : L2.Holds w w.heap.size C k b) (hx : fine m a = true) (hy : fine k b = false) : Calls Try.prog 37 #[.agg #[.int .i64 W, .int .i64 H, .slice A n c], .slice B m d, .slice C k e] w (RI w 0 0 0 F 8) := by
  have HK := Lib.hid (fun u => chk_err (A := A) (c := c) hn hz u)
  have y1 : ((0 : Int) != 0) = false := rfl
  clear hz
  have y2 : ((m : Int) != W) = false := by simp [hm]
  have y3 : ((k : Int) != H) = false := by simp [hk]
  clear hm hk
  have HA := Lib.hid (fun u (hb : Below w.heap.size w u) => are_any B m d a u (by omega) ((ha.below hb).more hb.size))
  have HB := Lib.hid (fun u (hb : Below w.heap.size w u) => are_any C k e b u (by omega) ((hb1.below hb).more hb.size))
  rw [hx] at HA
  rw [hy] at HB
  clear hx hy ha hb1
  have LB0 := Lib.hid (Below.refl w.heap.size w)
  have X1 := Box.new w W H (.slice A n c)
  have X1 := Lib.hid X1
  have LB0 := Lib.hid (LB0.out.alloc LB0.out.size (.cells #[.int .i64 W, .int .i64 H, .slice A n c] 27))
  have X1 := Lib.hid (X1.out.alloc (.cells #[.slice B m d] 22))
  have X2 := SBox.new (w.alloc (.cells #[.int .i64 W, .int .i64 H, .slice A n c] 27)) (.slice B m d)
  rw [show ((w.alloc (.cells #[.int .i64 W, .int .i64 H, .slice A n c] 27))).heap.size = w.heap.size + 1 by simp] at X2
  have X2 := Lib.hid X2
  have LB0 := Lib.hid (LB0.out.alloc LB0.out.size (.cells #[.slice B m d] 22))
  have X1 := Lib.hid (X1.out.alloc (.cells #[.slice C k e] 22))
  have X2 := Lib.hid (X2.out.alloc (.cells #[.slice C k e] 22))
  have X3 := SBox.new ((w.alloc (.cells #[.int .i64 W, .int .i64 H, .slice A n c] 27)).alloc (.cells #[.slice B m d] 22)) (.slice C k e)
  rw [show (((w.alloc (.cells #[.int .i64 W, .int .i64 H, .slice A n c] 27)).alloc (.cells #[.slice B m d] 22))).heap.size = w.heap.size + 2 by simp] at X3
  have X3 := Lib.hid X3
  have LB0 := Lib.hid (LB0.out.alloc LB0.out.size (.cells #[.slice C k e] 22))
  have X1 := Lib.hid (X1.out.alloc (.cells #[.int .i64 0, .int .i64 0, .slice none 0 0] 24))
  have X2 := Lib.hid (X2.out.alloc (.cells #[.int .i64 0, .int .i64 0, .slice none 0 0] 24))
  have X3 := Lib.hid (X3.out.alloc (.cells #[.int .i64 0, .int .i64 0, .slice none 0 0] 24))
  have R0 := IBox.new (((w.alloc (.cells #[.int .i64 W, .int .i64 H, .slice A n c] 27)).alloc (.cells #[.slice B m d] 22)).alloc (.cells #[.slice C k e] 22)) 0 0 (.slice none 0 0)
  rw [show ((((w.alloc (.cells #[.int .i64 W, .int .i64 H, .slice A n c] 27)).alloc (.cells #[.slice B m d] 22)).alloc (.cells #[.slice C k e] 22))).heap.size = w.heap.size + 3 by simp] at R0
  have R0 := Lib.hid R0
  have LB0 := Lib.hid (LB0.out.alloc LB0.out.size (.cells #[.int .i64 0, .int .i64 0, .slice none 0 0] 24))
  go_enter Try.func37, Try.ntmps37
  go_upto_region 1 with (fail)
  generalize (((w.alloc (.cells #[.int .i64 W, .int .i64 H, .slice A n c] 27)).alloc (.cells #[.slice B m d] 22)).alloc (.cells #[.slice C k e] 22)).alloc (.cells #[.int .i64 0, .int .i64 0, .slice none 0 0] 24) = w0 at *
  obtain ⟨q0, q1, q2, q3, q4, q5, q6⟩ := X1.out.all
  obtain ⟨q7, q8, q9⟩ := X2.out.all
  obtain ⟨q10, q11, q12⟩ := X3.out.all
  go_wp2_with fail
  clear q0 q1 q2 q3 q4 q5 q6 q7 q8 q9 q10 q11 q12
  with_reducible refine Calls.mono (HK.out _) ?_
  rintro e w1 ⟨rfl, hb⟩
  have LB1 := Lib.hid (LB0.out.trans (hb.mono LB0.out.size))
  have X1 := Lib.hid (X1.out.below hb X1.out.lt)
  have X2 := Lib.hid (X2.out.below hb X2.out.lt)
  have X3 := Lib.hid (X3.out.below hb X3.out.lt)
  have R0 := Lib.hid (R0.out.below hb R0.out.lt)
  clear hb LB0 
  obtain ⟨q0, q1, q2, q3, q4, q5, q6⟩ := X1.out.all
  obtain ⟨q7, q8, q9⟩ := X2.out.all
  obtain ⟨q10, q11, q12⟩ := X3.out.all
  go_wp2_with fail
  clear q0 q1 q2 q3 q4 q5 q6 q7 q8 q9 q10 q11 q12
  with_reducible refine Calls.mono (HA.out _ LB1.out) ?_
  rintro e w2 ⟨rfl, hb⟩
  have LB2 := Lib.hid (LB1.out.trans (hb.mono LB1.out.size))
  have X1 := Lib.hid (X1.out.below hb X1.out.lt)
  have X2 := Lib.hid (X2.out.below hb X2.out.lt)
  have X3 := Lib.hid (X3.out.below hb X3.out.lt)
  have R0 := Lib.hid (R0.out.below hb R0.out.lt)
  clear hb LB1 
  obtain ⟨q0, q1, q2, q3, q4, q5, q6⟩ := X1.out.all
  obtain ⟨q7, q8, q9⟩ := X2.out.all
  obtain ⟨q10, q11, q12⟩ := X3.out.all
  go_wp2_with fail
  clear q0 q1 q2 q3 q4 q5 q6 q7 q8 q9 q10 q11 q12
  with_reducible refine Calls.mono (HB.out _ LB2.out) ?_
  rintro e w3 ⟨rfl, hb⟩
  have LB3 := Lib.hid (LB2.out.trans (hb.mono LB2.out.size))
  have X1 := Lib.hid (X1.out.below hb X1.out.lt)
  have X2 := Lib.hid (X2.out.below hb X2.out.lt)
  have X3 := Lib.hid (X3.out.below hb X3.out.lt)
  have R0 := Lib.hid (R0.out.below hb R0.out.lt)
  clear hb LB2 
  obtain ⟨rb, hrb⟩ : ∃ z, w.heap.size + 3 = z := ⟨_, rfl⟩
  have hrw : w.heap.size ≤ rb := by omega
  rw [hrb] at R0 ⊢
  clear hrb
  obtain ⟨q0, q1, q2, q3, q4, q5, q6⟩ := X1.out.all
  obtain ⟨q7, q8, q9⟩ := X2.out.all
  obtain ⟨q10, q11, q12⟩ := X3.out.all
  obtain ⟨s0, s1, s2, s3, s4, s5, s6⟩ := R0.out.all
  go_wp2
  refine bodyPost_ret (v := .tuple #[.agg #[.int .i64 0, .int .i64 0, .slice none 0 0], .int .i64 8]) (by simp [results, Try.results37, go_sem, s0, s1, s2, s3, s4, s5]) rfl ?_
  exact fin_ie _ hrw LB3.out
theorem front_err (W H : Int) (A B C : Option Addr) (n c m d k e : Nat) (a b : Nat → Int) (w : World) (F : Nat → Int) (hn : n ≤ 4200) (hm1 : m ≤ 5000) (hk1 : k ≤ 5000) (ha : L2.Holds w w.heap.size B m a) (hb1 : L2.Holds w w.heap.size C k b) {z : Int} (hz : thE W H n m k a b = z) (hne : z ≠ 0) :
    Calls Try.prog 37 #[.agg #[.int .i64 W, .int .i64 H, .slice A n c], .slice B m d, .slice C k e] w (RI w 0 0 0 F z) := by
  by_cases h1 : chk W H n = 0
  · by_cases h2 : (m : Int) = W
    · by_cases h3 : (k : Int) = H
      · cases h4 : fine m a
        · rw [thE_bad h1 ⟨h2, h3⟩ (by simp [h4])] at hz; subst hz
          exact front_bad1 W H A B C n c m d k e a b w F hn h1 h2 h3 hm1 hk1 ha hb1 h4
        · cases h5 : fine k b
          · rw [thE_bad h1 ⟨h2, h3⟩ (by simp [h5])] at hz; subst hz
            exact front_bad2 W H A B C n c m d k e a b w F hn h1 h2 h3 hm1 hk1 ha hb1 h4 h5
          · rw [thE_ok h1 ⟨h2, h3⟩ ⟨h4, h5⟩] at hz; exact absurd hz.symm hne
      · rw [thE_cnt h1 (fun q => h3 q.2)] at hz; subst hz
        exact front_cnt2 W H A B C n c m d k e a b w F hn h1 h2 h3
    · rw [thE_cnt h1 (fun q => h2 q.1)] at hz; subst hz
      exact front_cnt1 W H A B C n c m d k e a b w F hn h1 h2
  · rw [thE_chk rfl h1] at hz
    exact front_chk W H A B C n c m d k e a b w F hn hz hne
set_option maxHeartbeats 1600000 in
theorem front_ok (W H : Nat) (A B C : Option Addr) (c d e : Nat) (f : Nat → Bool) (a b : Nat → Int) (w : World) (hf : Holds w w.heap.size A (W * H) f) (ha : L2.Holds w w.heap.size B W a) (hb1 : L2.Holds w w.heap.size C H b) (W0 : 1 ≤ W) (W1 : W ≤ 64) (H0 : 1 ≤ H) (H1 : H ≤ 64) (hx : fine W a = true) (hy : fine H b = true) :
    Calls Try.prog 37 #[.agg #[.int .i64 (W : Nat), .int .i64 (H : Nat), .slice A (W * H) c], .slice B W d, .slice C H e] w (RI w (W : Nat) (H : Nat) (W * H) (shF W f a b) 0) := by
  have hmf := mk_fn
  have HK := Lib.hid (fun u => chk_valid A c u W0 W1 H0 H1)
  have HA := Lib.hid (fun u (hb : Below w.heap.size w u) => are_any B W d a u (by omega) ((ha.below hb).more hb.size))
  have HB := Lib.hid (fun u (hb : Below w.heap.size w u) => are_any C H e b u (by omega) ((hb1.below hb).more hb.size))
  rw [hx] at HA
  rw [hy] at HB
  have HT := Lib.hid (fun u g1 g2 g3 (hb : Below w.heap.size w u) (x1 : Box u g1 (W : Nat) (H : Nat) (.slice A (W * H) c)) (x2 : SBox u g2 (.slice B W d)) (x3 : SBox u g3 (.slice C H e)) =>
    vimg_any W H W0 W1 H0 H1 68 _ _ u (front_clo ⟨x1, x2, x3, (hf.below hb).more hb.size, (ha.below hb).more hb.size, (hb1.below hb).more hb.size⟩ W1 H1) (Go.Proofs.enters_of Try.func68 (by kernel_rfl) rfl))
  have y1 : ((0 : Int) != 0) = false := rfl
  have y2 : ((W : Int) != (W : Int)) = false := by simp
  have y3 : ((H : Int) != (H : Int)) = false := by simp
  have HC := Lib.hid (fun (i : Nat) (hi : i < W * H) => show (if f (i / W * W + i % W) = true then a (i % W) else b (i / W)) = shF W f a b i by unfold shF; rw [nat_div_mod])
  clear hf ha hb1 hx hy
  have LB0 := Lib.hid (Below.refl w.heap.size w)
  have X1 := Box.new w (W : Nat) (H : Nat) (.slice A (W * H) c)
  have X1 := Lib.hid X1
  have LB0 := Lib.hid (LB0.out.alloc LB0.out.size (.cells #[.int .i64 (W : Nat), .int .i64 (H : Nat), .slice A (W * H) c] 27))
  have X1 := Lib.hid (X1.out.alloc (.cells #[.slice B W d] 22))
  have X2 := SBox.new (w.alloc (.cells #[.int .i64 (W : Nat), .int .i64 (H : Nat), .slice A (W * H) c] 27)) (.slice B W d)
  rw [show ((w.alloc (.cells #[.int .i64 (W : Nat), .int .i64 (H : Nat), .slice A (W * H) c] 27))).heap.size = w.heap.size + 1 by simp] at X2
  have X2 := Lib.hid X2
  have LB0 := Lib.hid (LB0.out.alloc LB0.out.size (.cells #[.slice B W d] 22))
  have X1 := Lib.hid (X1.out.alloc (.cells #[.slice C H e] 22))
  have X2 := Lib.hid (X2.out.alloc (.cells #[.slice C H e] 22))
  have X3 := SBox.new ((w.alloc (.cells #[.int .i64 (W : Nat), .int .i64 (H : Nat), .slice A (W * H) c] 27)).alloc (.cells #[.slice B W d] 22)) (.slice C H e)
  rw [show (((w.alloc (.cells #[.int .i64 (W : Nat), .int .i64 (H : Nat), .slice A (W * H) c] 27)).alloc (.cells #[.slice B W d] 22))).heap.size = w.heap.size + 2 by simp] at X3
  have X3 := Lib.hid X3
  have LB0 := Lib.hid (LB0.out.alloc LB0.out.size (.cells #[.slice C H e] 22))
  have X1 := Lib.hid (X1.out.alloc (.cells #[.int .i64 0, .int .i64 0, .slice none 0 0] 24))
  have X2 := Lib.hid (X2.out.alloc (.cells #[.int .i64 0, .int .i64 0, .slice none 0 0] 24))
  have X3 := Lib.hid (X3.out.alloc (.cells #[.int .i64 0, .int .i64 0, .slice none 0 0] 24))
  have R0 := IBox.new (((w.alloc (.cells #[.int .i64 (W : Nat), .int .i64 (H : Nat), .slice A (W * H) c] 27)).alloc (.cells #[.slice B W d] 22)).alloc (.cells #[.slice C H e] 22)) 0 0 (.slice none 0 0)
  rw [show ((((w.alloc (.cells #[.int .i64 (W : Nat), .int .i64 (H : Nat), .slice A (W * H) c] 27)).alloc (.cells #[.slice B W d] 22)).alloc (.cells #[.slice C H e] 22))).heap.size = w.heap.size + 3 by simp] at R0
  have R0 := Lib.hid R0
  have LB0 := Lib.hid (LB0.out.alloc LB0.out.size (.cells #[.int .i64 0, .int .i64 0, .slice none 0 0] 24))
  go_enter Try.func37, Try.ntmps37
  go_upto_region 1 with (fail)
  generalize (((w.alloc (.cells #[.int .i64 (W : Nat), .int .i64 (H : Nat), .slice A (W * H) c] 27)).alloc (.cells #[.slice B W d] 22)).alloc (.cells #[.slice C H e] 22)).alloc (.cells #[.int .i64 0, .int .i64 0, .slice none 0 0] 24) = w0 at *
  obtain ⟨q0, q1, q2, q3, q4, q5, q6⟩ := X1.out.all
  obtain ⟨q7, q8, q9⟩ := X2.out.all
  obtain ⟨q10, q11, q12⟩ := X3.out.all
  go_wp2_with fail
  clear q0 q1 q2 q3 q4 q5 q6 q7 q8 q9 q10 q11 q12
  with_reducible refine Calls.mono (HK.out _) ?_
  rintro e w1 ⟨rfl, hb⟩
  have LB1 := Lib.hid (LB0.out.trans (hb.mono LB0.out.size))
  have X1 := Lib.hid (X1.out.below hb X1.out.lt)
  have X2 := Lib.hid (X2.out.below hb X2.out.lt)
  have X3 := Lib.hid (X3.out.below hb X3.out.lt)
  have R0 := Lib.hid (R0.out.below hb R0.out.lt)
  clear hb LB0 
  obtain ⟨q0, q1, q2, q3, q4, q5, q6⟩ := X1.out.all
  obtain ⟨q7, q8, q9⟩ := X2.out.all
  obtain ⟨q10, q11, q12⟩ := X3.out.all
  go_wp2_with fail
  clear q0 q1 q2 q3 q4 q5 q6 q7 q8 q9 q10 q11 q12
  with_reducible refine Calls.mono (HA.out _ LB1.out) ?_
  rintro e w2 ⟨rfl, hb⟩
  have LB2 := Lib.hid (LB1.out.trans (hb.mono LB1.out.size))
  have X1 := Lib.hid (X1.out.below hb X1.out.lt)
  have X2 := Lib.hid (X2.out.below hb X2.out.lt)
  have X3 := Lib.hid (X3.out.below hb X3.out.lt)
  have R0 := Lib.hid (R0.out.below hb R0.out.lt)
  clear hb LB1 
  obtain ⟨q0, q1, q2, q3, q4, q5, q6⟩ := X1.out.all
  obtain ⟨q7, q8, q9⟩ := X2.out.all
  obtain ⟨q10, q11, q12⟩ := X3.out.all
  go_wp2_with fail
  clear q0 q1 q2 q3 q4 q5 q6 q7 q8 q9 q10 q11 q12
  with_reducible refine Calls.mono (HB.out _ LB2.out) ?_
  rintro e w3 ⟨rfl, hb⟩
  have LB3 := Lib.hid (LB2.out.trans (hb.mono LB2.out.size))
  have X1 := Lib.hid (X1.out.below hb X1.out.lt)
  have X2 := Lib.hid (X2.out.below hb X2.out.lt)
  have X3 := Lib.hid (X3.out.below hb X3.out.lt)
  have R0 := Lib.hid (R0.out.below hb R0.out.lt)
  clear hb LB2 
  have HR := Lib.hid (HT.out _ _ _ _ LB3.out X1.out X2.out X3.out)
  obtain ⟨rb, hrb⟩ : ∃ z, w.heap.size + 3 = z := ⟨_, rfl⟩
  have hrw : w.heap.size ≤ rb := by omega
  rw [hrb] at R0 ⊢
  clear hrb
  have hrs := R0.out.lt
  obtain ⟨q0, q1, q2, q3, q4, q5, q6⟩ := X1.out.all
  obtain ⟨q7, q8, q9⟩ := X2.out.all
  obtain ⟨q10, q11, q12⟩ := X3.out.all
  go_wp2_with fail
  clear q0 q1 q2 q3 q4 q5 q6 q7 q8 q9 q10 q11 q12
  with_reducible refine Calls.mono HR.out ?_
  rintro e w4 ⟨k2, c2, rfl, hk, hrow, hb⟩
  have LB4 := Lib.hid (LB3.out.trans (hb.mono LB3.out.size))
  have X1 := Lib.hid (X1.out.below hb X1.out.lt)
  have X2 := Lib.hid (X2.out.below hb X2.out.lt)
  have X3 := Lib.hid (X3.out.below hb X3.out.lt)
  have R0 := Lib.hid (R0.out.below hb R0.out.lt)
  have HRW := Lib.hid (hrow.congr HC.out)
  have hk2 : rb < k2 := by omega
  clear hb hrow hk
  obtain ⟨q0, q1, q2, q3, q4, q5, q6⟩ := R0.out.all
  go_wp2
  refine bodyPost_ret (v := .tuple #[.agg #[.int .i64 (W : Nat), .int .i64 (H : Nat), .slice (some ⟨k2, 0, none⟩) (W * H) c2], .int .i64 0]) (by simp [results, Try.results37, go_sem, q0, q1, q2, q3, q4, q5]) rfl ?_
  exact fin_im hrw hk2 HRW.out LB4.out
set_option maxHeartbeats 800000 in
theorem iturn_err (W H : Int) (A : Option Addr) (n c : Nat) (f F : Nat → Int) (w : World) (hf : L2.Holds w w.heap.size A n f) (hz : ick W H n f ≠ 0) : Calls Try.prog 40 #[.agg #[.int .i64 W, .int .i64 H, .slice A n c]] w (RI w 0 0 0 F (ick W H n f)) := by
  have HK := Lib.hid (fun u (hb : Below w.heap.size w u) => ick_any W H A n c f u ((hf.below hb).more hb.size))
  have y1 : (ick W H n f != 0) = true := by rw [bne_iff_ne]; exact hz
  clear hf hz
  generalize ick W H n f = z at *
  have LB0 := Lib.hid (Below.refl w.heap.size w)
  have X1 := IBox.new w W H (.slice A n c)
  have X1 := Lib.hid X1
  have LB0 := Lib.hid (LB0.out.alloc LB0.out.size (.cells #[.int .i64 W, .int .i64 H, .slice A n c] 24))
  have X1 := Lib.hid (X1.out.alloc (.cells #[.int .i64 0, .int .i64 0, .slice none 0 0] 24))
  have R0 := IBox.new (w.alloc (.cells #[.int .i64 W, .int .i64 H, .slice A n c] 24)) 0 0 (.slice none 0 0)
  rw [show ((w.alloc (.cells #[.int .i64 W, .int .i64 H, .slice A n c] 24))).heap.size = w.heap.size + 1 by simp] at R0
  have R0 := Lib.hid R0
  have LB0 := Lib.hid (LB0.out.alloc LB0.out.size (.cells #[.int .i64 0, .int .i64 0, .slice none 0 0] 24))
  go_enter Try.func40, Try.ntmps40
  go_upto_region 1 with (fail)
  generalize (w.alloc (.cells #[.int .i64 W, .int .i64 H, .slice A n c] 24)).alloc (.cells #[.int .i64 0, .int .i64 0, .slice none 0 0] 24) = w0 at *
  obtain ⟨q0, q1, q2, q3, q4, q5, q6⟩ := X1.out.all
  go_wp2_with fail
  clear q0 q1 q2 q3 q4 q5 q6
  with_reducible refine Calls.mono (HK.out _ LB0.out) ?_
  rintro e w1 ⟨rfl, hb⟩
  have LB1 := Lib.hid (LB0.out.trans (hb.mono LB0.out.size))
  have X1 := Lib.hid (X1.out.below hb X1.out.lt)
  have R0 := Lib.hid (R0.out.below hb R0.out.lt)
  clear hb LB0 
  obtain ⟨rb, hrb⟩ : ∃ z, w.heap.size + 1 = z := ⟨_, rfl⟩
  have hrw : w.heap.size ≤ rb := by omega
  rw [hrb] at R0 ⊢
  clear hrb
  obtain ⟨q0, q1, q2, q3, q4, q5, q6⟩ := R0.out.all
  go_wp2
  refine bodyPost_ret (v := .tuple #[.agg #[.int .i64 0, .int .i64 0, .slice none 0 0], .int .i64 z]) (by simp [results, Try.results40, go_sem, q0, q1, q2, q3, q4, q5]) rfl ?_
  exact fin_ie _ hrw LB1.out
set_option maxHeartbeats 800000 in
theorem iturn_ok (W H : Nat) (A : Option Addr) (c : Nat) (f : Nat → Int) (w : World) (hf : L2.Holds w w.heap.size A (W * H) f) (W0 : 1 ≤ W) (W1 : W ≤ 64) (H0 : 1 ≤ H) (H1 : H ≤ 64) (hx : fine (W * H) f = true) :
    Calls Try.prog 40 #[.agg #[.int .i64 (W : Nat), .int .i64 (H : Nat), .slice A (W * H) c]] w (RI w (H : Nat) (W : Nat) (H * W) (fun i => f (i % H * W + i / H)) 0) := by
  have hmf := mk_fn
  have HK := Lib.hid (fun u (hb : Below w.heap.size w u) => ick_any (W : Nat) (H : Nat) A (W * H) c f u ((hf.below hb).more hb.size))
  rw [ick_zero W0 W1 H0 H1 hx] at HK
  have HT := Lib.hid (fun u g1 (hb : Below w.heap.size w u) (x1 : IBox u g1 (W : Nat) (H : Nat) (.slice A (W * H) c)) =>
    vimg_any H W H0 H1 W0 W1 70 _ _ u (iturn_clo ⟨x1, (hf.below hb).more hb.size⟩ W1 H1) (Go.Proofs.enters_of Try.func70 (by kernel_rfl) rfl))
  have y1 : ((0 : Int) != 0) = false := rfl
  clear hf hx
  have LB0 := Lib.hid (Below.refl w.heap.size w)
  have X1 := IBox.new w (W : Nat) (H : Nat) (.slice A (W * H) c)
  have X1 := Lib.hid X1
  have LB0 := Lib.hid (LB0.out.alloc LB0.out.size (.cells #[.int .i64 (W : Nat), .int .i64 (H : Nat), .slice A (W * H) c] 24))
  have X1 := Lib.hid (X1.out.alloc (.cells #[.int .i64 0, .int .i64 0, .slice none 0 0] 24))
  have R0 := IBox.new (w.alloc (.cells #[.int .i64 (W : Nat), .int .i64 (H : Nat), .slice A (W * H) c] 24)) 0 0 (.slice none 0 0)
  rw [show ((w.alloc (.cells #[.int .i64 (W : Nat), .int .i64 (H : Nat), .slice A (W * H) c] 24))).heap.size = w.heap.size + 1 by simp] at R0
  have R0 := Lib.hid R0
  have LB0 := Lib.hid (LB0.out.alloc LB0.out.size (.cells #[.int .i64 0, .int .i64 0, .slice none 0 0] 24))
  go_enter Try.func40, Try.ntmps40
  go_upto_region 1 with (fail)
  generalize (w.alloc (.cells #[.int .i64 (W : Nat), .int .i64 (H : Nat), .slice A (W * H) c] 24)).alloc (.cells #[.int .i64 0, .int .i64 0, .slice none 0 0] 24) = w0 at *
  obtain ⟨q0, q1, q2, q3, q4, q5, q6⟩ := X1.out.all
  go_wp2_with fail
  clear q0 q1 q2 q3 q4 q5 q6
  with_reducible refine Calls.mono (HK.out _ LB0.out) ?_
  rintro e w1 ⟨rfl, hb⟩
  have LB1 := Lib.hid (LB0.out.trans (hb.mono LB0.out.size))
  have X1 := Lib.hid (X1.out.below hb X1.out.lt)
  have R0 := Lib.hid (R0.out.below hb R0.out.lt)
  clear hb LB0 
  have HR := Lib.hid (HT.out _ _ LB1.out X1.out)
  obtain ⟨rb, hrb⟩ : ∃ z, w.heap.size + 1 = z := ⟨_, rfl⟩
  have hrw : w.heap.size ≤ rb := by omega
  rw [hrb] at R0 ⊢
  clear hrb
  have hrs := R0.out.lt
  obtain ⟨q0, q1, q2, q3, q4, q5, q6⟩ := X1.out.all
  go_wp2_with fail
  clear q0 q1 q2 q3 q4 q5 q6
  with_reducible refine Calls.mono HR.out ?_
  rintro e w2 ⟨k2, c2, rfl, hk, hrow, hb⟩
  have LB2 := Lib.hid (LB1.out.trans (hb.mono LB1.out.size))
  have X1 := Lib.hid (X1.out.below hb X1.out.lt)
  have R0 := Lib.hid (R0.out.below hb R0.out.lt)
  have HRW := Lib.hid hrow
  have hk2 : rb < k2 := by omega
  clear hb hrow hk
  obtain ⟨q0, q1, q2, q3, q4, q5, q6⟩ := R0.out.all
  go_wp2
  refine bodyPost_ret (v := .tuple #[.agg #[.int .i64 (H : Nat), .int .i64 (W : Nat), .slice (some ⟨k2, 0, none⟩) (H * W) c2], .int .i64 0]) (by simp [results, Try.results40, go_sem, q0, q1, q2, q3, q4, q5]) rfl ?_
  exact fin_im hrw hk2 HRW.out LB2.out
end Go.Proofs.Ytmcdfnhpaneanaa
