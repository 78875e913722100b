/- BlockTurns: the walk. -/
import Derived.Test.YtngjcekjboedjaaKam
import Derived.Test.YtngjcekjboedjaaKpf
namespace Go.Proofs.Ytngjcekjboedjaa
open Go.RowKit
set_option maxRecDepth 100000
set_option linter.unusedVariables false
set_option linter.unusedSimpArgs false

theorem mul_i64 {dx : Int} {u : Nat} (d0 : ¬ dx < -20) (d1 : ¬ 20 < dx) (u1 : u ≤ 64) : -9223372036854775808 ≤ dx * (u : Int) ∧ dx * (u : Int) ≤ 9223372036854775807 := by
  have a1 : dx * (u : Int) ≤ 20 * (u : Int) := Int.mul_le_mul_of_nonneg_right (by omega) (by omega)
  have a2 : (-20) * (u : Int) ≤ dx * (u : Int) := Int.mul_le_mul_of_nonneg_right (by omega) (by omega)
  omega
set_option maxHeartbeats 800000 in
theorem turns_nf0 (W H X Y U V : Int) (A B C : Option Addr) (n c m d k e : Nat) (dx dy : Int) (w : World) (h0 : fitB W H n = false) : Calls Try.prog 16 #[.agg #[.int .i64 W, .int .i64 H, .slice A n c], .agg #[.int .i64 X, .int .i64 Y, .slice B m d], .agg #[.int .i64 U, .int .i64 V, .slice C k e], .int .i64 dx, .int .i64 dy] w fun e w' => e = .returned (.bool true) ∧ Below w.heap.size w w' := by
  have HF0 := Lib.hid (fun u => fit_any W H A n c u)
  simp only [h0] at HF0
  clear h0
  have LB0 := Lib.hid (Below.refl w.heap.size w)
  have X1 := Lib.hid (Box.new w W H (.slice A n c))
  have LB0 := Lib.hid (LB0.out.alloc LB0.out.size (.cells #[.int .i64 W, .int .i64 H, .slice A n c] 24))
  have X1 := Lib.hid (X1.out.alloc (.cells #[.int .i64 X, .int .i64 Y, .slice B m d] 24))
  have X2 := Box.new (w.alloc (.cells #[.int .i64 W, .int .i64 H, .slice A n c] 24)) X Y (.slice B m d)
  rw [show ((w.alloc (.cells #[.int .i64 W, .int .i64 H, .slice A n c] 24))).heap.size = w.heap.size + 1 by simp] at X2
  have X2 := Lib.hid X2
  have LB0 := Lib.hid (LB0.out.alloc LB0.out.size (.cells #[.int .i64 X, .int .i64 Y, .slice B m d] 24))
  have X1 := Lib.hid (X1.out.alloc (.cells #[.int .i64 U, .int .i64 V, .slice C k e] 24))
  have X2 := Lib.hid (X2.out.alloc (.cells #[.int .i64 U, .int .i64 V, .slice C k e] 24))
  have X3 := Box.new ((w.alloc (.cells #[.int .i64 W, .int .i64 H, .slice A n c] 24)).alloc (.cells #[.int .i64 X, .int .i64 Y, .slice B m d] 24)) U V (.slice C k e)
  rw [show (((w.alloc (.cells #[.int .i64 W, .int .i64 H, .slice A n c] 24)).alloc (.cells #[.int .i64 X, .int .i64 Y, .slice B m d] 24))).heap.size = w.heap.size + 2 by simp] at X3
  have X3 := Lib.hid X3
  have LB0 := Lib.hid (LB0.out.alloc LB0.out.size (.cells #[.int .i64 U, .int .i64 V, .slice C k e] 24))
  go_enter Try.func16, Try.ntmps16
  go_upto_region 1 with (fail)
  generalize ((w.alloc (.cells #[.int .i64 W, .int .i64 H, .slice A n c] 24)).alloc (.cells #[.int .i64 X, .int .i64 Y, .slice B m d] 24)).alloc (.cells #[.int .i64 U, .int .i64 V, .slice C k e] 24) = w0 at *
  go_wp2_with fail
  with_reducible refine Calls.mono (alive13_any _) ?_
  rintro e w1 ⟨rfl, hb⟩
  have LB1 := Lib.hid (LB0.out.trans (hb.mono LB0.out.size))
  have X1 := Lib.hid (X1.out.below hb X1.out.lt)
  have X2 := Lib.hid (X2.out.below hb X2.out.lt)
  have X3 := Lib.hid (X3.out.below hb X3.out.lt)
  clear hb LB0 
  obtain ⟨q0, q1, q2, q3, q4, q5, q6⟩ := X1.out.all
  go_wp2_with fail
  clear q0 q1 q2 q3 q4 q5 q6
  with_reducible refine Calls.mono (HF0.out _) ?_
  rintro e w2 ⟨rfl, hb⟩
  have LB2 := Lib.hid (LB1.out.trans (hb.mono LB1.out.size))
  have X1 := Lib.hid (X1.out.below hb X1.out.lt)
  have X2 := Lib.hid (X2.out.below hb X2.out.lt)
  have X3 := Lib.hid (X3.out.below hb X3.out.lt)
  clear hb LB1 
  go_wp2
  go_ret
  exact ⟨rfl, LB2.out⟩
set_option maxHeartbeats 800000 in
theorem turns_nf1 (W H X Y U V : Int) (A B C : Option Addr) (n c m d k e : Nat) (dx dy : Int) (w : World) (h0 : fitB W H n = true) (h1 : fitB X Y m = false) : Calls Try.prog 16 #[.agg #[.int .i64 W, .int .i64 H, .slice A n c], .agg #[.int .i64 X, .int .i64 Y, .slice B m d], .agg #[.int .i64 U, .int .i64 V, .slice C k e], .int .i64 dx, .int .i64 dy] w fun e w' => e = .returned (.bool true) ∧ Below w.heap.size w w' := by
  have HF0 := Lib.hid (fun u => fit_any W H A n c u)
  simp only [h0] at HF0
  have HF1 := Lib.hid (fun u => fit_any X Y B m d u)
  simp only [h1] at HF1
  clear h0 h1
  have LB0 := Lib.hid (Below.refl w.heap.size w)
  have X1 := Lib.hid (Box.new w W H (.slice A n c))
  have LB0 := Lib.hid (LB0.out.alloc LB0.out.size (.cells #[.int .i64 W, .int .i64 H, .slice A n c] 24))
  have X1 := Lib.hid (X1.out.alloc (.cells #[.int .i64 X, .int .i64 Y, .slice B m d] 24))
  have X2 := Box.new (w.alloc (.cells #[.int .i64 W, .int .i64 H, .slice A n c] 24)) X Y (.slice B m d)
  rw [show ((w.alloc (.cells #[.int .i64 W, .int .i64 H, .slice A n c] 24))).heap.size = w.heap.size + 1 by simp] at X2
  have X2 := Lib.hid X2
  have LB0 := Lib.hid (LB0.out.alloc LB0.out.size (.cells #[.int .i64 X, .int .i64 Y, .slice B m d] 24))
  have X1 := Lib.hid (X1.out.alloc (.cells #[.int .i64 U, .int .i64 V, .slice C k e] 24))
  have X2 := Lib.hid (X2.out.alloc (.cells #[.int .i64 U, .int .i64 V, .slice C k e] 24))
  have X3 := Box.new ((w.alloc (.cells #[.int .i64 W, .int .i64 H, .slice A n c] 24)).alloc (.cells #[.int .i64 X, .int .i64 Y, .slice B m d] 24)) U V (.slice C k e)
  rw [show (((w.alloc (.cells #[.int .i64 W, .int .i64 H, .slice A n c] 24)).alloc (.cells #[.int .i64 X, .int .i64 Y, .slice B m d] 24))).heap.size = w.heap.size + 2 by simp] at X3
  have X3 := Lib.hid X3
  have LB0 := Lib.hid (LB0.out.alloc LB0.out.size (.cells #[.int .i64 U, .int .i64 V, .slice C k e] 24))
  go_enter Try.func16, Try.ntmps16
  go_upto_region 1 with (fail)
  generalize ((w.alloc (.cells #[.int .i64 W, .int .i64 H, .slice A n c] 24)).alloc (.cells #[.int .i64 X, .int .i64 Y, .slice B m d] 24)).alloc (.cells #[.int .i64 U, .int .i64 V, .slice C k e] 24) = w0 at *
  go_wp2_with fail
  with_reducible refine Calls.mono (alive13_any _) ?_
  rintro e w1 ⟨rfl, hb⟩
  have LB1 := Lib.hid (LB0.out.trans (hb.mono LB0.out.size))
  have X1 := Lib.hid (X1.out.below hb X1.out.lt)
  have X2 := Lib.hid (X2.out.below hb X2.out.lt)
  have X3 := Lib.hid (X3.out.below hb X3.out.lt)
  clear hb LB0 
  obtain ⟨q0, q1, q2, q3, q4, q5, q6⟩ := X1.out.all
  go_wp2_with fail
  clear q0 q1 q2 q3 q4 q5 q6
  with_reducible refine Calls.mono (HF0.out _) ?_
  rintro e w2 ⟨rfl, hb⟩
  have LB2 := Lib.hid (LB1.out.trans (hb.mono LB1.out.size))
  have X1 := Lib.hid (X1.out.below hb X1.out.lt)
  have X2 := Lib.hid (X2.out.below hb X2.out.lt)
  have X3 := Lib.hid (X3.out.below hb X3.out.lt)
  clear hb LB1 
  obtain ⟨q0, q1, q2, q3, q4, q5, q6⟩ := X2.out.all
  go_wp2_with fail
  clear q0 q1 q2 q3 q4 q5 q6
  with_reducible refine Calls.mono (HF1.out _) ?_
  rintro e w3 ⟨rfl, hb⟩
  have LB3 := Lib.hid (LB2.out.trans (hb.mono LB2.out.size))
  have X1 := Lib.hid (X1.out.below hb X1.out.lt)
  have X2 := Lib.hid (X2.out.below hb X2.out.lt)
  have X3 := Lib.hid (X3.out.below hb X3.out.lt)
  clear hb LB2 
  go_wp2
  go_ret
  exact ⟨rfl, LB3.out⟩
set_option maxHeartbeats 800000 in
theorem turns_nf2 (W H X Y U V : Int) (A B C : Option Addr) (n c m d k e : Nat) (dx dy : Int) (w : World) (h0 : fitB W H n = true) (h1 : fitB X Y m = true) (h2 : fitB U V k = false) : Calls Try.prog 16 #[.agg #[.int .i64 W, .int .i64 H, .slice A n c], .agg #[.int .i64 X, .int .i64 Y, .slice B m d], .agg #[.int .i64 U, .int .i64 V, .slice C k e], .int .i64 dx, .int .i64 dy] w fun e w' => e = .returned (.bool true) ∧ Below w.heap.size w w' := by
  have HF0 := Lib.hid (fun u => fit_any W H A n c u)
  simp only [h0] at HF0
  have HF1 := Lib.hid (fun u => fit_any X Y B m d u)
  simp only [h1] at HF1
  have HF2 := Lib.hid (fun u => fit_any U V C k e u)
  simp only [h2] at HF2
  clear h0 h1 h2
  have LB0 := Lib.hid (Below.refl w.heap.size w)
  have X1 := Lib.hid (Box.new w W H (.slice A n c))
  have LB0 := Lib.hid (LB0.out.alloc LB0.out.size (.cells #[.int .i64 W, .int .i64 H, .slice A n c] 24))
  have X1 := Lib.hid (X1.out.alloc (.cells #[.int .i64 X, .int .i64 Y, .slice B m d] 24))
  have X2 := Box.new (w.alloc (.cells #[.int .i64 W, .int .i64 H, .slice A n c] 24)) X Y (.slice B m d)
  rw [show ((w.alloc (.cells #[.int .i64 W, .int .i64 H, .slice A n c] 24))).heap.size = w.heap.size + 1 by simp] at X2
  have X2 := Lib.hid X2
  have LB0 := Lib.hid (LB0.out.alloc LB0.out.size (.cells #[.int .i64 X, .int .i64 Y, .slice B m d] 24))
  have X1 := Lib.hid (X1.out.alloc (.cells #[.int .i64 U, .int .i64 V, .slice C k e] 24))
  have X2 := Lib.hid (X2.out.alloc (.cells #[.int .i64 U, .int .i64 V, .slice C k e] 24))
  have X3 := Box.new ((w.alloc (.cells #[.int .i64 W, .int .i64 H, .slice A n c] 24)).alloc (.cells #[.int .i64 X, .int .i64 Y, .slice B m d] 24)) U V (.slice C k e)
  rw [show (((w.alloc (.cells #[.int .i64 W, .int .i64 H, .slice A n c] 24)).alloc (.cells #[.int .i64 X, .int .i64 Y, .slice B m d] 24))).heap.size = w.heap.size + 2 by simp] at X3
  have X3 := Lib.hid X3
  have LB0 := Lib.hid (LB0.out.alloc LB0.out.size (.cells #[.int .i64 U, .int .i64 V, .slice C k e] 24))
  go_enter Try.func16, Try.ntmps16
  go_upto_region 1 with (fail)
  generalize ((w.alloc (.cells #[.int .i64 W, .int .i64 H, .slice A n c] 24)).alloc (.cells #[.int .i64 X, .int .i64 Y, .slice B m d] 24)).alloc (.cells #[.int .i64 U, .int .i64 V, .slice C k e] 24) = w0 at *
  go_wp2_with fail
  with_reducible refine Calls.mono (alive13_any _) ?_
  rintro e w1 ⟨rfl, hb⟩
  have LB1 := Lib.hid (LB0.out.trans (hb.mono LB0.out.size))
  have X1 := Lib.hid (X1.out.below hb X1.out.lt)
  have X2 := Lib.hid (X2.out.below hb X2.out.lt)
  have X3 := Lib.hid (X3.out.below hb X3.out.lt)
  clear hb LB0 
  obtain ⟨q0, q1, q2, q3, q4, q5, q6⟩ := X1.out.all
  go_wp2_with fail
  clear q0 q1 q2 q3 q4 q5 q6
  with_reducible refine Calls.mono (HF0.out _) ?_
  rintro e w2 ⟨rfl, hb⟩
  have LB2 := Lib.hid (LB1.out.trans (hb.mono LB1.out.size))
  have X1 := Lib.hid (X1.out.below hb X1.out.lt)
  have X2 := Lib.hid (X2.out.below hb X2.out.lt)
  have X3 := Lib.hid (X3.out.below hb X3.out.lt)
  clear hb LB1 
  obtain ⟨q0, q1, q2, q3, q4, q5, q6⟩ := X2.out.all
  go_wp2_with fail
  clear q0 q1 q2 q3 q4 q5 q6
  with_reducible refine Calls.mono (HF1.out _) ?_
  rintro e w3 ⟨rfl, hb⟩
  have LB3 := Lib.hid (LB2.out.trans (hb.mono LB2.out.size))
  have X1 := Lib.hid (X1.out.below hb X1.out.lt)
  have X2 := Lib.hid (X2.out.below hb X2.out.lt)
  have X3 := Lib.hid (X3.out.below hb X3.out.lt)
  clear hb LB2 
  obtain ⟨q0, q1, q2, q3, q4, q5, q6⟩ := X3.out.all
  go_wp2_with fail
  clear q0 q1 q2 q3 q4 q5 q6
  with_reducible refine Calls.mono (HF2.out _) ?_
  rintro e w4 ⟨rfl, hb⟩
  have LB4 := Lib.hid (LB3.out.trans (hb.mono LB3.out.size))
  have X1 := Lib.hid (X1.out.below hb X1.out.lt)
  have X2 := Lib.hid (X2.out.below hb X2.out.lt)
  have X3 := Lib.hid (X3.out.below hb X3.out.lt)
  clear hb LB3 
  go_wp2
  go_ret
  exact ⟨rfl, LB4.out⟩
set_option maxHeartbeats 1600000 in
theorem turns_far0 (W H X Y U V : Int) (A B C : Option Addr) (n c m d k e : Nat) (dx dy : Int) (w : World) (h0 : fitB W H n = true) (h1 : fitB X Y m = true) (h2 : fitB U V k = true) (d0 : dx < -20) : Calls Try.prog 16 #[.agg #[.int .i64 W, .int .i64 H, .slice A n c], .agg #[.int .i64 X, .int .i64 Y, .slice B m d], .agg #[.int .i64 U, .int .i64 V, .slice C k e], .int .i64 dx, .int .i64 dy] w fun e w' => e = .returned (.bool true) ∧ Below w.heap.size w w' := by
  have HF0 := Lib.hid (fun u => fit_any W H A n c u)
  simp only [h0] at HF0
  have HF1 := Lib.hid (fun u => fit_any X Y B m d u)
  simp only [h1] at HF1
  have HF2 := Lib.hid (fun u => fit_any U V C k e u)
  simp only [h2] at HF2
  have e0 : decide (dx < -20) = true := decide_eq_true d0
  clear h0 h1 h2 d0
  have LB0 := Lib.hid (Below.refl w.heap.size w)
  have X1 := Lib.hid (Box.new w W H (.slice A n c))
  have LB0 := Lib.hid (LB0.out.alloc LB0.out.size (.cells #[.int .i64 W, .int .i64 H, .slice A n c] 24))
  have X1 := Lib.hid (X1.out.alloc (.cells #[.int .i64 X, .int .i64 Y, .slice B m d] 24))
  have X2 := Box.new (w.alloc (.cells #[.int .i64 W, .int .i64 H, .slice A n c] 24)) X Y (.slice B m d)
  rw [show ((w.alloc (.cells #[.int .i64 W, .int .i64 H, .slice A n c] 24))).heap.size = w.heap.size + 1 by simp] at X2
  have X2 := Lib.hid X2
  have LB0 := Lib.hid (LB0.out.alloc LB0.out.size (.cells #[.int .i64 X, .int .i64 Y, .slice B m d] 24))
  have X1 := Lib.hid (X1.out.alloc (.cells #[.int .i64 U, .int .i64 V, .slice C k e] 24))
  have X2 := Lib.hid (X2.out.alloc (.cells #[.int .i64 U, .int .i64 V, .slice C k e] 24))
  have X3 := Box.new ((w.alloc (.cells #[.int .i64 W, .int .i64 H, .slice A n c] 24)).alloc (.cells #[.int .i64 X, .int .i64 Y, .slice B m d] 24)) U V (.slice C k e)
  rw [show (((w.alloc (.cells #[.int .i64 W, .int .i64 H, .slice A n c] 24)).alloc (.cells #[.int .i64 X, .int .i64 Y, .slice B m d] 24))).heap.size = w.heap.size + 2 by simp] at X3
  have X3 := Lib.hid X3
  have LB0 := Lib.hid (LB0.out.alloc LB0.out.size (.cells #[.int .i64 U, .int .i64 V, .slice C k e] 24))
  go_enter Try.func16, Try.ntmps16
  go_upto_region 1 with (fail)
  generalize ((w.alloc (.cells #[.int .i64 W, .int .i64 H, .slice A n c] 24)).alloc (.cells #[.int .i64 X, .int .i64 Y, .slice B m d] 24)).alloc (.cells #[.int .i64 U, .int .i64 V, .slice C k e] 24) = w0 at *
  go_wp2_with fail
  with_reducible refine Calls.mono (alive13_any _) ?_
  rintro e w1 ⟨rfl, hb⟩
  have LB1 := Lib.hid (LB0.out.trans (hb.mono LB0.out.size))
  have X1 := Lib.hid (X1.out.below hb X1.out.lt)
  have X2 := Lib.hid (X2.out.below hb X2.out.lt)
  have X3 := Lib.hid (X3.out.below hb X3.out.lt)
  clear hb LB0 
  obtain ⟨q0, q1, q2, q3, q4, q5, q6⟩ := X1.out.all
  go_wp2_with fail
  clear q0 q1 q2 q3 q4 q5 q6
  with_reducible refine Calls.mono (HF0.out _) ?_
  rintro e w2 ⟨rfl, hb⟩
  have LB2 := Lib.hid (LB1.out.trans (hb.mono LB1.out.size))
  have X1 := Lib.hid (X1.out.below hb X1.out.lt)
  have X2 := Lib.hid (X2.out.below hb X2.out.lt)
  have X3 := Lib.hid (X3.out.below hb X3.out.lt)
  clear hb LB1 
  obtain ⟨q0, q1, q2, q3, q4, q5, q6⟩ := X2.out.all
  go_wp2_with fail
  clear q0 q1 q2 q3 q4 q5 q6
  with_reducible refine Calls.mono (HF1.out _) ?_
  rintro e w3 ⟨rfl, hb⟩
  have LB3 := Lib.hid (LB2.out.trans (hb.mono LB2.out.size))
  have X1 := Lib.hid (X1.out.below hb X1.out.lt)
  have X2 := Lib.hid (X2.out.below hb X2.out.lt)
  have X3 := Lib.hid (X3.out.below hb X3.out.lt)
  clear hb LB2 
  obtain ⟨q0, q1, q2, q3, q4, q5, q6⟩ := X3.out.all
  go_wp2_with fail
  clear q0 q1 q2 q3 q4 q5 q6
  with_reducible refine Calls.mono (HF2.out _) ?_
  rintro e w4 ⟨rfl, hb⟩
  have LB4 := Lib.hid (LB3.out.trans (hb.mono LB3.out.size))
  have X1 := Lib.hid (X1.out.below hb X1.out.lt)
  have X2 := Lib.hid (X2.out.below hb X2.out.lt)
  have X3 := Lib.hid (X3.out.below hb X3.out.lt)
  clear hb LB3 
  go_wp2
  go_ret
  exact ⟨rfl, LB4.out⟩
set_option maxHeartbeats 1600000 in
theorem turns_far1 (W H X Y U V : Int) (A B C : Option Addr) (n c m d k e : Nat) (dx dy : Int) (w : World) (h0 : fitB W H n = true) (h1 : fitB X Y m = true) (h2 : fitB U V k = true) (d0 : ¬ dx < -20) (d1 : 20 < dx) : Calls Try.prog 16 #[.agg #[.int .i64 W, .int .i64 H, .slice A n c], .agg #[.int .i64 X, .int .i64 Y, .slice B m d], .agg #[.int .i64 U, .int .i64 V, .slice C k e], .int .i64 dx, .int .i64 dy] w fun e w' => e = .returned (.bool true) ∧ Below w.heap.size w w' := by
  have HF0 := Lib.hid (fun u => fit_any W H A n c u)
  simp only [h0] at HF0
  have HF1 := Lib.hid (fun u => fit_any X Y B m d u)
  simp only [h1] at HF1
  have HF2 := Lib.hid (fun u => fit_any U V C k e u)
  simp only [h2] at HF2
  have e0 : decide (dx < -20) = false := decide_eq_false d0
  have e1 : decide (20 < dx) = true := decide_eq_true d1
  clear h0 h1 h2 d0 d1
  have LB0 := Lib.hid (Below.refl w.heap.size w)
  have X1 := Lib.hid (Box.new w W H (.slice A n c))
  have LB0 := Lib.hid (LB0.out.alloc LB0.out.size (.cells #[.int .i64 W, .int .i64 H, .slice A n c] 24))
  have X1 := Lib.hid (X1.out.alloc (.cells #[.int .i64 X, .int .i64 Y, .slice B m d] 24))
  have X2 := Box.new (w.alloc (.cells #[.int .i64 W, .int .i64 H, .slice A n c] 24)) X Y (.slice B m d)
  rw [show ((w.alloc (.cells #[.int .i64 W, .int .i64 H, .slice A n c] 24))).heap.size = w.heap.size + 1 by simp] at X2
  have X2 := Lib.hid X2
  have LB0 := Lib.hid (LB0.out.alloc LB0.out.size (.cells #[.int .i64 X, .int .i64 Y, .slice B m d] 24))
  have X1 := Lib.hid (X1.out.alloc (.cells #[.int .i64 U, .int .i64 V, .slice C k e] 24))
  have X2 := Lib.hid (X2.out.alloc (.cells #[.int .i64 U, .int .i64 V, .slice C k e] 24))
  have X3 := Box.new ((w.alloc (.cells #[.int .i64 W, .int .i64 H, .slice A n c] 24)).alloc (.cells #[.int .i64 X, .int .i64 Y, .slice B m d] 24)) U V (.slice C k e)
  rw [show (((w.alloc (.cells #[.int .i64 W, .int .i64 H, .slice A n c] 24)).alloc (.cells #[.int .i64 X, .int .i64 Y, .slice B m d] 24))).heap.size = w.heap.size + 2 by simp] at X3
  have X3 := Lib.hid X3
  have LB0 := Lib.hid (LB0.out.alloc LB0.out.size (.cells #[.int .i64 U, .int .i64 V, .slice C k e] 24))
  go_enter Try.func16, Try.ntmps16
  go_upto_region 1 with (fail)
  generalize ((w.alloc (.cells #[.int .i64 W, .int .i64 H, .slice A n c] 24)).alloc (.cells #[.int .i64 X, .int .i64 Y, .slice B m d] 24)).alloc (.cells #[.int .i64 U, .int .i64 V, .slice C k e] 24) = w0 at *
  go_wp2_with fail
  with_reducible refine Calls.mono (alive13_any _) ?_
  rintro e w1 ⟨rfl, hb⟩
  have LB1 := Lib.hid (LB0.out.trans (hb.mono LB0.out.size))
  have X1 := Lib.hid (X1.out.below hb X1.out.lt)
  have X2 := Lib.hid (X2.out.below hb X2.out.lt)
  have X3 := Lib.hid (X3.out.below hb X3.out.lt)
  clear hb LB0 
  obtain ⟨q0, q1, q2, q3, q4, q5, q6⟩ := X1.out.all
  go_wp2_with fail
  clear q0 q1 q2 q3 q4 q5 q6
  with_reducible refine Calls.mono (HF0.out _) ?_
  rintro e w2 ⟨rfl, hb⟩
  have LB2 := Lib.hid (LB1.out.trans (hb.mono LB1.out.size))
  have X1 := Lib.hid (X1.out.below hb X1.out.lt)
  have X2 := Lib.hid (X2.out.below hb X2.out.lt)
  have X3 := Lib.hid (X3.out.below hb X3.out.lt)
  clear hb LB1 
  obtain ⟨q0, q1, q2, q3, q4, q5, q6⟩ := X2.out.all
  go_wp2_with fail
  clear q0 q1 q2 q3 q4 q5 q6
  with_reducible refine Calls.mono (HF1.out _) ?_
  rintro e w3 ⟨rfl, hb⟩
  have LB3 := Lib.hid (LB2.out.trans (hb.mono LB2.out.size))
  have X1 := Lib.hid (X1.out.below hb X1.out.lt)
  have X2 := Lib.hid (X2.out.below hb X2.out.lt)
  have X3 := Lib.hid (X3.out.below hb X3.out.lt)
  clear hb LB2 
  obtain ⟨q0, q1, q2, q3, q4, q5, q6⟩ := X3.out.all
  go_wp2_with fail
  clear q0 q1 q2 q3 q4 q5 q6
  with_reducible refine Calls.mono (HF2.out _) ?_
  rintro e w4 ⟨rfl, hb⟩
  have LB4 := Lib.hid (LB3.out.trans (hb.mono LB3.out.size))
  have X1 := Lib.hid (X1.out.below hb X1.out.lt)
  have X2 := Lib.hid (X2.out.below hb X2.out.lt)
  have X3 := Lib.hid (X3.out.below hb X3.out.lt)
  clear hb LB3 
  go_wp2
  go_ret
  exact ⟨rfl, LB4.out⟩
set_option maxHeartbeats 1600000 in
theorem turns_far2 (W H X Y U V : Int) (A B C : Option Addr) (n c m d k e : Nat) (dx dy : Int) (w : World) (h0 : fitB W H n = true) (h1 : fitB X Y m = true) (h2 : fitB U V k = true) (d0 : ¬ dx < -20) (d1 : ¬ 20 < dx) (d2 : dy < -20) : Calls Try.prog 16 #[.agg #[.int .i64 W, .int .i64 H, .slice A n c], .agg #[.int .i64 X, .int .i64 Y, .slice B m d], .agg #[.int .i64 U, .int .i64 V, .slice C k e], .int .i64 dx, .int .i64 dy] w fun e w' => e = .returned (.bool true) ∧ Below w.heap.size w w' := by
  have HF0 := Lib.hid (fun u => fit_any W H A n c u)
  simp only [h0] at HF0
  have HF1 := Lib.hid (fun u => fit_any X Y B m d u)
  simp only [h1] at HF1
  have HF2 := Lib.hid (fun u => fit_any U V C k e u)
  simp only [h2] at HF2
  have e0 : decide (dx < -20) = false := decide_eq_false d0
  have e1 : decide (20 < dx) = false := decide_eq_false d1
  have e2 : decide (dy < -20) = true := decide_eq_true d2
  clear h0 h1 h2 d0 d1 d2
  have LB0 := Lib.hid (Below.refl w.heap.size w)
  have X1 := Lib.hid (Box.new w W H (.slice A n c))
  have LB0 := Lib.hid (LB0.out.alloc LB0.out.size (.cells #[.int .i64 W, .int .i64 H, .slice A n c] 24))
  have X1 := Lib.hid (X1.out.alloc (.cells #[.int .i64 X, .int .i64 Y, .slice B m d] 24))
  have X2 := Box.new (w.alloc (.cells #[.int .i64 W, .int .i64 H, .slice A n c] 24)) X Y (.slice B m d)
  rw [show ((w.alloc (.cells #[.int .i64 W, .int .i64 H, .slice A n c] 24))).heap.size = w.heap.size + 1 by simp] at X2
  have X2 := Lib.hid X2
  have LB0 := Lib.hid (LB0.out.alloc LB0.out.size (.cells #[.int .i64 X, .int .i64 Y, .slice B m d] 24))
  have X1 := Lib.hid (X1.out.alloc (.cells #[.int .i64 U, .int .i64 V, .slice C k e] 24))
  have X2 := Lib.hid (X2.out.alloc (.cells #[.int .i64 U, .int .i64 V, .slice C k e] 24))
  have X3 := Box.new ((w.alloc (.cells #[.int .i64 W, .int .i64 H, .slice A n c] 24)).alloc (.cells #[.int .i64 X, .int .i64 Y, .slice B m d] 24)) U V (.slice C k e)
  rw [show (((w.alloc (.cells #[.int .i64 W, .int .i64 H, .slice A n c] 24)).alloc (.cells #[.int .i64 X, .int .i64 Y, .slice B m d] 24))).heap.size = w.heap.size + 2 by simp] at X3
  have X3 := Lib.hid X3
  have LB0 := Lib.hid (LB0.out.alloc LB0.out.size (.cells #[.int .i64 U, .int .i64 V, .slice C k e] 24))
  go_enter Try.func16, Try.ntmps16
  go_upto_region 1 with (fail)
  generalize ((w.alloc (.cells #[.int .i64 W, .int .i64 H, .slice A n c] 24)).alloc (.cells #[.int .i64 X, .int .i64 Y, .slice B m d] 24)).alloc (.cells #[.int .i64 U, .int .i64 V, .slice C k e] 24) = w0 at *
  go_wp2_with fail
  with_reducible refine Calls.mono (alive13_any _) ?_
  rintro e w1 ⟨rfl, hb⟩
  have LB1 := Lib.hid (LB0.out.trans (hb.mono LB0.out.size))
  have X1 := Lib.hid (X1.out.below hb X1.out.lt)
  have X2 := Lib.hid (X2.out.below hb X2.out.lt)
  have X3 := Lib.hid (X3.out.below hb X3.out.lt)
  clear hb LB0 
  obtain ⟨q0, q1, q2, q3, q4, q5, q6⟩ := X1.out.all
  go_wp2_with fail
  clear q0 q1 q2 q3 q4 q5 q6
  with_reducible refine Calls.mono (HF0.out _) ?_
  rintro e w2 ⟨rfl, hb⟩
  have LB2 := Lib.hid (LB1.out.trans (hb.mono LB1.out.size))
  have X1 := Lib.hid (X1.out.below hb X1.out.lt)
  have X2 := Lib.hid (X2.out.below hb X2.out.lt)
  have X3 := Lib.hid (X3.out.below hb X3.out.lt)
  clear hb LB1 
  obtain ⟨q0, q1, q2, q3, q4, q5, q6⟩ := X2.out.all
  go_wp2_with fail
  clear q0 q1 q2 q3 q4 q5 q6
  with_reducible refine Calls.mono (HF1.out _) ?_
  rintro e w3 ⟨rfl, hb⟩
  have LB3 := Lib.hid (LB2.out.trans (hb.mono LB2.out.size))
  have X1 := Lib.hid (X1.out.below hb X1.out.lt)
  have X2 := Lib.hid (X2.out.below hb X2.out.lt)
  have X3 := Lib.hid (X3.out.below hb X3.out.lt)
  clear hb LB2 
  obtain ⟨q0, q1, q2, q3, q4, q5, q6⟩ := X3.out.all
  go_wp2_with fail
  clear q0 q1 q2 q3 q4 q5 q6
  with_reducible refine Calls.mono (HF2.out _) ?_
  rintro e w4 ⟨rfl, hb⟩
  have LB4 := Lib.hid (LB3.out.trans (hb.mono LB3.out.size))
  have X1 := Lib.hid (X1.out.below hb X1.out.lt)
  have X2 := Lib.hid (X2.out.below hb X2.out.lt)
  have X3 := Lib.hid (X3.out.below hb X3.out.lt)
  clear hb LB3 
  go_wp2
  go_ret
  exact ⟨rfl, LB4.out⟩
set_option maxHeartbeats 1600000 in
theorem turns_far3 (W H X Y U V : Int) (A B C : Option Addr) (n c m d k e : Nat) (dx dy : Int) (w : World) (h0 : fitB W H n = true) (h1 : fitB X Y m = true) (h2 : fitB U V k = true) (d0 : ¬ dx < -20) (d1 : ¬ 20 < dx) (d2 : ¬ dy < -20) (d3 : 20 < dy) : Calls Try.prog 16 #[.agg #[.int .i64 W, .int .i64 H, .slice A n c], .agg #[.int .i64 X, .int .i64 Y, .slice B m d], .agg #[.int .i64 U, .int .i64 V, .slice C k e], .int .i64 dx, .int .i64 dy] w fun e w' => e = .returned (.bool true) ∧ Below w.heap.size w w' := by
  have HF0 := Lib.hid (fun u => fit_any W H A n c u)
  simp only [h0] at HF0
  have HF1 := Lib.hid (fun u => fit_any X Y B m d u)
  simp only [h1] at HF1
  have HF2 := Lib.hid (fun u => fit_any U V C k e u)
  simp only [h2] at HF2
  have e0 : decide (dx < -20) = false := decide_eq_false d0
  have e1 : decide (20 < dx) = false := decide_eq_false d1
  have e2 : decide (dy < -20) = false := decide_eq_false d2
  have e3 : decide (20 < dy) = true := decide_eq_true d3
  clear h0 h1 h2 d0 d1 d2 d3
  have LB0 := Lib.hid (Below.refl w.heap.size w)
  have X1 := Lib.hid (Box.new w W H (.slice A n c))
  have LB0 := Lib.hid (LB0.out.alloc LB0.out.size (.cells #[.int .i64 W, .int .i64 H, .slice A n c] 24))
  have X1 := Lib.hid (X1.out.alloc (.cells #[.int .i64 X, .int .i64 Y, .slice B m d] 24))
  have X2 := Box.new (w.alloc (.cells #[.int .i64 W, .int .i64 H, .slice A n c] 24)) X Y (.slice B m d)
  rw [show ((w.alloc (.cells #[.int .i64 W, .int .i64 H, .slice A n c] 24))).heap.size = w.heap.size + 1 by simp] at X2
  have X2 := Lib.hid X2
  have LB0 := Lib.hid (LB0.out.alloc LB0.out.size (.cells #[.int .i64 X, .int .i64 Y, .slice B m d] 24))
  have X1 := Lib.hid (X1.out.alloc (.cells #[.int .i64 U, .int .i64 V, .slice C k e] 24))
  have X2 := Lib.hid (X2.out.alloc (.cells #[.int .i64 U, .int .i64 V, .slice C k e] 24))
  have X3 := Box.new ((w.alloc (.cells #[.int .i64 W, .int .i64 H, .slice A n c] 24)).alloc (.cells #[.int .i64 X, .int .i64 Y, .slice B m d] 24)) U V (.slice C k e)
  rw [show (((w.alloc (.cells #[.int .i64 W, .int .i64 H, .slice A n c] 24)).alloc (.cells #[.int .i64 X, .int .i64 Y, .slice B m d] 24))).heap.size = w.heap.size + 2 by simp] at X3
  have X3 := Lib.hid X3
  have LB0 := Lib.hid (LB0.out.alloc LB0.out.size (.cells #[.int .i64 U, .int .i64 V, .slice C k e] 24))
  go_enter Try.func16, Try.ntmps16
  go_upto_region 1 with (fail)
  generalize ((w.alloc (.cells #[.int .i64 W, .int .i64 H, .slice A n c] 24)).alloc (.cells #[.int .i64 X, .int .i64 Y, .slice B m d] 24)).alloc (.cells #[.int .i64 U, .int .i64 V, .slice C k e] 24) = w0 at *
  go_wp2_with fail
  with_reducible refine Calls.mono (alive13_any _) ?_
  rintro e w1 ⟨rfl, hb⟩
  have LB1 := Lib.hid (LB0.out.trans (hb.mono LB0.out.size))
  have X1 := Lib.hid (X1.out.below hb X1.out.lt)
  have X2 := Lib.hid (X2.out.below hb X2.out.lt)
  have X3 := Lib.hid (X3.out.below hb X3.out.lt)
  clear hb LB0 
  obtain ⟨q0, q1, q2, q3, q4, q5, q6⟩ := X1.out.all
  go_wp2_with fail
  clear q0 q1 q2 q3 q4 q5 q6
  with_reducible refine Calls.mono (HF0.out _) ?_
  rintro e w2 ⟨rfl, hb⟩
  have LB2 := Lib.hid (LB1.out.trans (hb.mono LB1.out.size))
  have X1 := Lib.hid (X1.out.below hb X1.out.lt)
  have X2 := Lib.hid (X2.out.below hb X2.out.lt)
  have X3 := Lib.hid (X3.out.below hb X3.out.lt)
  clear hb LB1 
  obtain ⟨q0, q1, q2, q3, q4, q5, q6⟩ := X2.out.all
  go_wp2_with fail
  clear q0 q1 q2 q3 q4 q5 q6
  with_reducible refine Calls.mono (HF1.out _) ?_
  rintro e w3 ⟨rfl, hb⟩
  have LB3 := Lib.hid (LB2.out.trans (hb.mono LB2.out.size))
  have X1 := Lib.hid (X1.out.below hb X1.out.lt)
  have X2 := Lib.hid (X2.out.below hb X2.out.lt)
  have X3 := Lib.hid (X3.out.below hb X3.out.lt)
  clear hb LB2 
  obtain ⟨q0, q1, q2, q3, q4, q5, q6⟩ := X3.out.all
  go_wp2_with fail
  clear q0 q1 q2 q3 q4 q5 q6
  with_reducible refine Calls.mono (HF2.out _) ?_
  rintro e w4 ⟨rfl, hb⟩
  have LB4 := Lib.hid (LB3.out.trans (hb.mono LB3.out.size))
  have X1 := Lib.hid (X1.out.below hb X1.out.lt)
  have X2 := Lib.hid (X2.out.below hb X2.out.lt)
  have X3 := Lib.hid (X3.out.below hb X3.out.lt)
  clear hb LB3 
  go_wp2
  go_ret
  exact ⟨rfl, LB4.out⟩
set_option maxHeartbeats 1600000 in
theorem turns_bad (W H X Y U V : Int) (A B C : Option Addr) (n c m d k e : Nat) (dx dy : Int) (w : World) (h0 : fitB W H n = true) (h1 : fitB X Y m = true) (h2 : fitB U V k = true) (d0 : ¬ dx < -20) (d1 : ¬ 20 < dx) (d2 : ¬ dy < -20) (d3 : ¬ 20 < dy) (z : Int) (hz : z ≠ 0)
    (hF : ∀ u, Below w.heap.size w u → Calls Try.prog 45 #[.agg #[.int .i64 W, .int .i64 H, .slice A n c], .agg #[.int .i64 X, .int .i64 Y, .slice B m d], .agg #[.int .i64 U, .int .i64 V, .slice C k e]] u (RG u 0 0 0 (fun _ => false) z)) : Calls Try.prog 16 #[.agg #[.int .i64 W, .int .i64 H, .slice A n c], .agg #[.int .i64 X, .int .i64 Y, .slice B m d], .agg #[.int .i64 U, .int .i64 V, .slice C k e], .int .i64 dx, .int .i64 dy] w fun e w' => e = .returned (.bool true) ∧ Below w.heap.size w w' := by
  have HF0 := Lib.hid (fun u => fit_any W H A n c u)
  simp only [h0] at HF0
  have HF1 := Lib.hid (fun u => fit_any X Y B m d u)
  simp only [h1] at HF1
  have HF2 := Lib.hid (fun u => fit_any U V C k e u)
  simp only [h2] at HF2
  have e0 : decide (dx < -20) = false := decide_eq_false d0
  have e1 : decide (20 < dx) = false := decide_eq_false d1
  have e2 : decide (dy < -20) = false := decide_eq_false d2
  have e3 : decide (20 < dy) = false := decide_eq_false d3
  have HFI := Lib.hid hF
  have y1 : (z != 0) = true := by rw [bne_iff_ne]; exact hz
  clear h0 h1 h2 hF d0 d1 d2 d3 hz
  have LB0 := Lib.hid (Below.refl w.heap.size w)
  have X1 := Lib.hid (Box.new w W H (.slice A n c))
  have LB0 := Lib.hid (LB0.out.alloc LB0.out.size (.cells #[.int .i64 W, .int .i64 H, .slice A n c] 24))
  have X1 := Lib.hid (X1.out.alloc (.cells #[.int .i64 X, .int .i64 Y, .slice B m d] 24))
  have X2 := Box.new (w.alloc (.cells #[.int .i64 W, .int .i64 H, .slice A n c] 24)) X Y (.slice B m d)
  rw [show ((w.alloc (.cells #[.int .i64 W, .int .i64 H, .slice A n c] 24))).heap.size = w.heap.size + 1 by simp] at X2
  have X2 := Lib.hid X2
  have LB0 := Lib.hid (LB0.out.alloc LB0.out.size (.cells #[.int .i64 X, .int .i64 Y, .slice B m d] 24))
  have X1 := Lib.hid (X1.out.alloc (.cells #[.int .i64 U, .int .i64 V, .slice C k e] 24))
  have X2 := Lib.hid (X2.out.alloc (.cells #[.int .i64 U, .int .i64 V, .slice C k e] 24))
  have X3 := Box.new ((w.alloc (.cells #[.int .i64 W, .int .i64 H, .slice A n c] 24)).alloc (.cells #[.int .i64 X, .int .i64 Y, .slice B m d] 24)) U V (.slice C k e)
  rw [show (((w.alloc (.cells #[.int .i64 W, .int .i64 H, .slice A n c] 24)).alloc (.cells #[.int .i64 X, .int .i64 Y, .slice B m d] 24))).heap.size = w.heap.size + 2 by simp] at X3
  have X3 := Lib.hid X3
  have LB0 := Lib.hid (LB0.out.alloc LB0.out.size (.cells #[.int .i64 U, .int .i64 V, .slice C k e] 24))
  go_enter Try.func16, Try.ntmps16
  go_upto_region 1 with (fail)
  generalize ((w.alloc (.cells #[.int .i64 W, .int .i64 H, .slice A n c] 24)).alloc (.cells #[.int .i64 X, .int .i64 Y, .slice B m d] 24)).alloc (.cells #[.int .i64 U, .int .i64 V, .slice C k e] 24) = w0 at *
  go_wp2_with fail
  with_reducible refine Calls.mono (alive13_any _) ?_
  rintro e w1 ⟨rfl, hb⟩
  have LB1 := Lib.hid (LB0.out.trans (hb.mono LB0.out.size))
  have X1 := Lib.hid (X1.out.below hb X1.out.lt)
  have X2 := Lib.hid (X2.out.below hb X2.out.lt)
  have X3 := Lib.hid (X3.out.below hb X3.out.lt)
  clear hb LB0 
  obtain ⟨q0, q1, q2, q3, q4, q5, q6⟩ := X1.out.all
  go_wp2_with fail
  clear q0 q1 q2 q3 q4 q5 q6
  with_reducible refine Calls.mono (HF0.out _) ?_
  rintro e w2 ⟨rfl, hb⟩
  have LB2 := Lib.hid (LB1.out.trans (hb.mono LB1.out.size))
  have X1 := Lib.hid (X1.out.below hb X1.out.lt)
  have X2 := Lib.hid (X2.out.below hb X2.out.lt)
  have X3 := Lib.hid (X3.out.below hb X3.out.lt)
  clear hb LB1 
  obtain ⟨q0, q1, q2, q3, q4, q5, q6⟩ := X2.out.all
  go_wp2_with fail
  clear q0 q1 q2 q3 q4 q5 q6
  with_reducible refine Calls.mono (HF1.out _) ?_
  rintro e w3 ⟨rfl, hb⟩
  have LB3 := Lib.hid (LB2.out.trans (hb.mono LB2.out.size))
  have X1 := Lib.hid (X1.out.below hb X1.out.lt)
  have X2 := Lib.hid (X2.out.below hb X2.out.lt)
  have X3 := Lib.hid (X3.out.below hb X3.out.lt)
  clear hb LB2 
  obtain ⟨q0, q1, q2, q3, q4, q5, q6⟩ := X3.out.all
  go_wp2_with fail
  clear q0 q1 q2 q3 q4 q5 q6
  with_reducible refine Calls.mono (HF2.out _) ?_
  rintro e w4 ⟨rfl, hb⟩
  have LB4 := Lib.hid (LB3.out.trans (hb.mono LB3.out.size))
  have X1 := Lib.hid (X1.out.below hb X1.out.lt)
  have X2 := Lib.hid (X2.out.below hb X2.out.lt)
  have X3 := Lib.hid (X3.out.below hb X3.out.lt)
  clear hb LB3 
  obtain ⟨q0, q1, q2, q3, q4, q5, q6⟩ := X1.out.all
  obtain ⟨q7, q8, q9, q10, q11, q12, q13⟩ := X2.out.all
  obtain ⟨q14, q15, q16, q17, q18, q19, q20⟩ := X3.out.all
  go_wp2_with fail
  clear q0 q1 q2 q3 q4 q5 q6 q7 q8 q9 q10 q11 q12 q13 q14 q15 q16 q17 q18 q19 q20
  with_reducible refine Calls.mono (HFI.out _ LB4.out) ?_
  rintro e w5 ⟨A1, c1, rfl, _, hb⟩
  have LB5 := Lib.hid (LB4.out.trans (hb.mono LB4.out.size))
  have X1 := Lib.hid (X1.out.below hb X1.out.lt)
  have X2 := Lib.hid (X2.out.below hb X2.out.lt)
  have X3 := Lib.hid (X3.out.below hb X3.out.lt)
  clear hb LB4 
  have hb := ((Below.refl w5.heap.size w5).alloc (by simp; try omega) (.cells #[.int .i64 0, .int .i64 0, .slice A1 0 c1] 24))
  have LB6 := Lib.hid (LB5.out.trans (hb.mono LB5.out.size))
  have X1 := Lib.hid (X1.out.below hb X1.out.lt)
  have X2 := Lib.hid (X2.out.below hb X2.out.lt)
  have X3 := Lib.hid (X3.out.below hb X3.out.lt)
  clear hb LB5
  go_upto_region 5 with (fail)
  generalize w5.alloc (.cells #[.int .i64 0, .int .i64 0, .slice A1 0 c1] 24) = w6 at *
  go_wp2
  go_ret
  exact ⟨rfl, LB6.out⟩
set_option maxHeartbeats 6400000 in
theorem turns_ok (W H u v : Nat) (A B C : Option Addr) (c d e : Nat) (f a b : Nat → Bool) (dx dy : Int) (w : World) (hf : Holds w w.heap.size A (W * H) f) (ha : Holds w w.heap.size B (u * v) a) (hb1 : Holds w w.heap.size C (u * v) b) (W0 : 1 ≤ W) (H0 : 1 ≤ H) (u0 : 1 ≤ u) (v0 : 1 ≤ v) (h6 : W * u ≤ 64) (h7 : H * v ≤ 64) (d0 : ¬ dx < -20) (d1 : ¬ 20 < dx) (d2 : ¬ dy < -20) (d3 : ¬ 20 < dy) : Calls Try.prog 16 #[.agg #[.int .i64 (W : Nat), .int .i64 (H : Nat), .slice A (W * H) c], .agg #[.int .i64 (u : Nat), .int .i64 (v : Nat), .slice B (u * v) d], .agg #[.int .i64 (u : Nat), .int .i64 (v : Nat), .slice C (u * v) e], .int .i64 dx, .int .i64 dy] w fun e w' => e = .returned (.bool true) ∧ Below w.heap.size w w' := by
  have hW : W ≤ 64 := Nat.le_trans (Nat.le_mul_of_pos_right _ u0) h6
  have hH : H ≤ 64 := Nat.le_trans (Nat.le_mul_of_pos_right _ v0) h7
  have u1 : u ≤ 64 := Nat.le_trans (Nat.le_mul_of_pos_left _ W0) h6
  have v1 : v ≤ 64 := Nat.le_trans (Nat.le_mul_of_pos_left _ H0) h7
  have P0 : 1 ≤ W * u := Nat.mul_le_mul W0 u0
  have Q0 : 1 ≤ H * v := Nat.mul_le_mul H0 v0
  have n1 : W * u * (H * v) ≤ 64 * 64 := Nat.mul_le_mul h6 h7
  have n4 : H * v * (W * u) ≤ 64 * 64 := Nat.mul_le_mul h7 h6
  have HFa := Lib.hid (fun z => fit_any (W : Nat) (H : Nat) A (W * H) c z)
  have HFb := Lib.hid (fun z => fit_any (u : Nat) (v : Nat) B (u * v) d z)
  have HFc := Lib.hid (fun z => fit_any (u : Nat) (v : Nat) C (u * v) e z)
  rw [fitB_yes W0 hW H0 hH] at HFa
  rw [fitB_yes u0 u1 v0 v1] at HFb HFc
  have x0 := mul_i64 (u := u) d0 d1 u1
  have y0 := mul_i64 (u := v) d2 d3 v1
  have HFI := Lib.hid (fun z (hb : Below w.heap.size w z) => fill_ok (w := z) (c := c) (d := d) (e := e) W0 H0 ((hf.below hb).more hb.size) u0 v0 ((ha.below hb).more hb.size) ((hb1.below hb).more hb.size) h6 h7)
  have HT1 := Lib.hid (fun z (hb : Below w.heap.size w z) => turn_ok W H A c f z ((hf.below hb).more hb.size) W0 hW H0 hH)
  have HT2 := Lib.hid (fun z (hb : Below w.heap.size w z) => turn_ok u v B d a z ((ha.below hb).more hb.size) u0 u1 v0 v1)
  have HT3 := Lib.hid (fun z (hb : Below w.heap.size w z) => turn_ok u v C e b z ((hb1.below hb).more hb.size) u0 u1 v0 v1)
  have HFT := Lib.hid (fun z k1 k2 k3 c1 c2 c3 (h1 : Row z k1 (H * W) (fTurn W H f)) (h2 : Row z k2 (v * u) (fTurn u v a)) (h3 : Row z k3 (v * u) (fTurn u v b)) => fill_ok (w := z) (c := c1) (d := c2) (e := c3) H0 W0 (h1.holds h1.lt) v0 u0 (h2.holds h2.lt) (h3.holds h3.lt) h7 h6)
  have HTG := Lib.hid (fun z A1 c1 (h : Holds z z.heap.size A1 (W * u * (H * v)) (fil W u v f a b)) => turn_ok (W * u) (H * v) A1 c1 _ z h P0 h6 Q0 h7)
  have HS1 := Lib.hid (fun z A1 A2 c1 c2 (h1 : Holds z z.heap.size A1 (H * v * (W * u)) (fil H v u (fTurn W H f) (fTurn u v a) (fTurn u v b))) (h2 : Holds z z.heap.size A2 (H * v * (W * u)) (fTurn (W * u) (H * v) (fil W u v f a b))) => rsame_t (W := ((H * v : Nat) : Int)) (H := ((W * u : Nat) : Int)) (c := c1) (d := c2) (show H * v * (W * u) ≤ 5000 by omega) fil_turn z h1 h2)
  have HH1 := Lib.hid (fun z (hb : Below w.heap.size w z) => shift_ok W H A c f dx dy z ((hf.below hb).more hb.size) W0 hW H0 hH (by omega) (by omega) (by omega) (by omega))
  have HH2 := Lib.hid (fun z A1 c1 (h : Holds z z.heap.size A1 (W * u * (H * v)) (fil W u v f a b)) => shift_ok (W * u) (H * v) A1 c1 _ (dx * (u : Int)) (dy * (v : Int)) z h P0 h6 Q0 h7 (by omega) (by omega) (by omega) (by omega))
  have HF2 := Lib.hid (fun z k c1 (hb : Below w.heap.size w z) (hr : Row z k (W * H) (fShift W H dx dy f)) => fill_ok (w := z) (c := c1) (d := d) (e := e) W0 H0 (hr.holds hr.lt) u0 v0 ((ha.below hb).more hb.size) ((hb1.below hb).more hb.size) h6 h7)
  have HS2 := Lib.hid (fun z A1 A2 c1 c2 (h1 : Holds z z.heap.size A1 (W * u * (H * v)) (fShift (W * u) (H * v) (dx * (u : Int)) (dy * (v : Int)) (fil W u v f a b))) (h2 : Holds z z.heap.size A2 (W * u * (H * v)) (fil W u v (fShift W H dx dy f) a b)) => rsame_t (W := ((W * u : Nat) : Int)) (H := ((H * v : Nat) : Int)) (c := c1) (d := c2) (show W * u * (H * v) ≤ 5000 by omega) (fun i hi => (fil_shift W0 H0 i hi).symm) z h1 h2)
  have e0 : decide (dx < -20) = false := decide_eq_false d0
  have e1 : decide (20 < dx) = false := decide_eq_false d1
  have e2 : decide (dy < -20) = false := decide_eq_false d2
  have e3 : decide (20 < dy) = false := decide_eq_false d3
  obtain ⟨F1, hF1⟩ : ∃ z, fil W u v f a b = z := ⟨_, rfl⟩
  obtain ⟨F2, hF2⟩ : ∃ z, fil H v u (fTurn W H f) (fTurn u v a) (fTurn u v b) = z := ⟨_, rfl⟩
  obtain ⟨F3, hF3⟩ : ∃ z, fil W u v (fShift W H dx dy f) a b = z := ⟨_, rfl⟩
  simp only [hF1] at HFI HTG HS1 HH2 HS2
  simp only [hF2] at HFT HS1
  simp only [hF3] at HF2 HS2
  obtain ⟨P, hP⟩ : ∃ z, W * u = z := ⟨_, rfl⟩
  obtain ⟨Qq, hQ⟩ : ∃ z, H * v = z := ⟨_, rfl⟩
  obtain ⟨sx, hsx⟩ : ∃ z, dx * (u : Int) = z := ⟨_, rfl⟩
  obtain ⟨sy, hsy⟩ : ∃ z, dy * (v : Int) = z := ⟨_, rfl⟩
  simp only [hP, hQ] at HFI HFT HTG HS1 HH2 HF2 HS2
  have f1 : IntKind.i64.wrap (dx * (u : Int)) = sx := by rw [IntWalk.i64_in _ (by omega)]; exact hsx
  have f2 : IntKind.i64.wrap (dy * (v : Int)) = sy := by rw [IntWalk.i64_in _ (by omega)]; exact hsy
  simp only [hsx, hsy] at HH2 HS2
  obtain ⟨N, hN⟩ : ∃ z, P * Qq = z := ⟨_, rfl⟩
  obtain ⟨N2, hN2⟩ : ∃ z, Qq * P = z := ⟨_, rfl⟩
  have HNE := Lib.hid hN
  have HN2E := Lib.hid hN2
  simp only [hN] at HFI HTG HH2 HF2 HS2
  simp only [hN2] at HFT HS1
  obtain ⟨M, hM⟩ : ∃ z, W * H = z := ⟨_, rfl⟩
  have HME := Lib.hid hM
  obtain ⟨M2, hM2⟩ : ∃ z, H * W = z := ⟨_, rfl⟩
  have HM2 := Lib.hid hM2
  obtain ⟨mm, hmm⟩ : ∃ z, u * v = z := ⟨_, rfl⟩
  have HMM := Lib.hid hmm
  obtain ⟨m2, hm2⟩ : ∃ z, v * u = z := ⟨_, rfl⟩
  have HMM2 := Lib.hid hm2
  simp only [hM] at HFI HT1 HFa HH1 HF2 ⊢
  simp only [hmm] at HFI HT2 HT3 HFb HFc HF2 ⊢
  simp only [hM2, hm2] at HFT
  have za : ((0 : Int) != 0) = false := rfl
  clear hf ha hb1 hF1 hF2 hF3 hP hQ hN hN2 hM hM2 hmm hm2 P0 Q0 n1 n4 h6 h7 hsx hsy x0 y0 d0 d1 d2 d3
  have LB0 := Lib.hid (Below.refl w.heap.size w)
  have X1 := Lib.hid (Box.new w (W : Nat) (H : Nat) (.slice A M c))
  have LB0 := Lib.hid (LB0.out.alloc LB0.out.size (.cells #[.int .i64 (W : Nat), .int .i64 (H : Nat), .slice A M c] 24))
  have X1 := Lib.hid (X1.out.alloc (.cells #[.int .i64 (u : Nat), .int .i64 (v : Nat), .slice B mm d] 24))
  have X2 := Box.new (w.alloc (.cells #[.int .i64 (W : Nat), .int .i64 (H : Nat), .slice A M c] 24)) (u : Nat) (v : Nat) (.slice B mm d)
  rw [show ((w.alloc (.cells #[.int .i64 (W : Nat), .int .i64 (H : Nat), .slice A M c] 24))).heap.size = w.heap.size + 1 by simp] at X2
  have X2 := Lib.hid X2
  have LB0 := Lib.hid (LB0.out.alloc LB0.out.size (.cells #[.int .i64 (u : Nat), .int .i64 (v : Nat), .slice B mm d] 24))
  have X1 := Lib.hid (X1.out.alloc (.cells #[.int .i64 (u : Nat), .int .i64 (v : Nat), .slice C mm e] 24))
  have X2 := Lib.hid (X2.out.alloc (.cells #[.int .i64 (u : Nat), .int .i64 (v : Nat), .slice C mm e] 24))
  have X3 := Box.new ((w.alloc (.cells #[.int .i64 (W : Nat), .int .i64 (H : Nat), .slice A M c] 24)).alloc (.cells #[.int .i64 (u : Nat), .int .i64 (v : Nat), .slice B mm d] 24)) (u : Nat) (v : Nat) (.slice C mm e)
  rw [show (((w.alloc (.cells #[.int .i64 (W : Nat), .int .i64 (H : Nat), .slice A M c] 24)).alloc (.cells #[.int .i64 (u : Nat), .int .i64 (v : Nat), .slice B mm d] 24))).heap.size = w.heap.size + 2 by simp] at X3
  have X3 := Lib.hid X3
  have LB0 := Lib.hid (LB0.out.alloc LB0.out.size (.cells #[.int .i64 (u : Nat), .int .i64 (v : Nat), .slice C mm e] 24))
  go_enter Try.func16, Try.ntmps16
  go_upto_region 1 with (fail)
  generalize ((w.alloc (.cells #[.int .i64 (W : Nat), .int .i64 (H : Nat), .slice A M c] 24)).alloc (.cells #[.int .i64 (u : Nat), .int .i64 (v : Nat), .slice B mm d] 24)).alloc (.cells #[.int .i64 (u : Nat), .int .i64 (v : Nat), .slice C mm e] 24) = w0 at *
  go_wp2_with fail
  with_reducible refine Calls.mono (alive13_any _) ?_
  rintro e w1 ⟨rfl, hb⟩
  have LB1 := Lib.hid (LB0.out.trans (hb.mono LB0.out.size))
  have X1 := Lib.hid (X1.out.below hb X1.out.lt)
  have X2 := Lib.hid (X2.out.below hb X2.out.lt)
  have X3 := Lib.hid (X3.out.below hb X3.out.lt)
  clear hb LB0 
  obtain ⟨q0, q1, q2, q3, q4, q5, q6⟩ := X1.out.all
  go_wp2_with fail
  clear q0 q1 q2 q3 q4 q5 q6
  with_reducible refine Calls.mono (HFa.out _) ?_
  rintro e w2 ⟨rfl, hb⟩
  have LB2 := Lib.hid (LB1.out.trans (hb.mono LB1.out.size))
  have X1 := Lib.hid (X1.out.below hb X1.out.lt)
  have X2 := Lib.hid (X2.out.below hb X2.out.lt)
  have X3 := Lib.hid (X3.out.below hb X3.out.lt)
  clear hb LB1 
  obtain ⟨q0, q1, q2, q3, q4, q5, q6⟩ := X2.out.all
  go_wp2_with fail
  clear q0 q1 q2 q3 q4 q5 q6
  with_reducible refine Calls.mono (HFb.out _) ?_
  rintro e w3 ⟨rfl, hb⟩
  have LB3 := Lib.hid (LB2.out.trans (hb.mono LB2.out.size))
  have X1 := Lib.hid (X1.out.below hb X1.out.lt)
  have X2 := Lib.hid (X2.out.below hb X2.out.lt)
  have X3 := Lib.hid (X3.out.below hb X3.out.lt)
  clear hb LB2 
  obtain ⟨q0, q1, q2, q3, q4, q5, q6⟩ := X3.out.all
  go_wp2_with fail
  clear q0 q1 q2 q3 q4 q5 q6
  with_reducible refine Calls.mono (HFc.out _) ?_
  rintro e w4 ⟨rfl, hb⟩
  have LB4 := Lib.hid (LB3.out.trans (hb.mono LB3.out.size))
  have X1 := Lib.hid (X1.out.below hb X1.out.lt)
  have X2 := Lib.hid (X2.out.below hb X2.out.lt)
  have X3 := Lib.hid (X3.out.below hb X3.out.lt)
  clear hb LB3 
  obtain ⟨q0, q1, q2, q3, q4, q5, q6⟩ := X1.out.all
  obtain ⟨q7, q8, q9, q10, q11, q12, q13⟩ := X2.out.all
  obtain ⟨q14, q15, q16, q17, q18, q19, q20⟩ := X3.out.all
  go_wp2_with fail
  clear q0 q1 q2 q3 q4 q5 q6 q7 q8 q9 q10 q11 q12 q13 q14 q15 q16 q17 q18 q19 q20
  with_reducible refine Calls.mono (HFI.out _ LB4.out) ?_
  rintro e w5 ⟨A1, c1, rfl, hh, hb⟩
  have LB5 := Lib.hid (LB4.out.trans (hb.mono LB4.out.size))
  have X1 := Lib.hid (X1.out.below hb X1.out.lt)
  have X2 := Lib.hid (X2.out.below hb X2.out.lt)
  have X3 := Lib.hid (X3.out.below hb X3.out.lt)
  have H1 := Lib.hid hh
  clear hb LB4 hh
  have hb := ((Below.refl w5.heap.size w5).alloc (by simp; try omega) (.cells #[.int .i64 (P : Nat), .int .i64 (Qq : Nat), .slice A1 N c1] 24))
  have LB6 := Lib.hid (LB5.out.trans (hb.mono LB5.out.size))
  have X1 := Lib.hid (X1.out.below hb X1.out.lt)
  have X2 := Lib.hid (X2.out.below hb X2.out.lt)
  have X3 := Lib.hid (X3.out.below hb X3.out.lt)
  have H1 := Lib.hid ((H1.out.below hb).more hb.size)
  have XG := Box.new w5 (P : Nat) (Qq : Nat) (.slice A1 N c1)
  have XG := Lib.hid XG
  clear hb LB5
  go_upto_region 5 with (fail)
  obtain ⟨gb, hgb⟩ : ∃ z, w5.heap.size = z := ⟨_, rfl⟩
  rw [hgb] at XG
  try rw [hgb]
  clear hgb
  generalize w5.alloc (.cells #[.int .i64 (P : Nat), .int .i64 (Qq : Nat), .slice A1 N c1] 24) = w6 at *
  obtain ⟨q0, q1, q2, q3, q4, q5, q6⟩ := X1.out.all
  go_wp2_with fail
  clear q0 q1 q2 q3 q4 q5 q6
  with_reducible refine Calls.mono (HT1.out _ LB6.out) ?_
  rintro e w7 ⟨k2, rfl, hk2, hrow, hb⟩
  rw [HM2.out] at hrow ⊢
  change Row _ _ _ (fTurn W H f) at hrow
  have LB7 := Lib.hid (LB6.out.trans (hb.mono LB6.out.size))
  have X1 := Lib.hid (X1.out.below hb X1.out.lt)
  have X2 := Lib.hid (X2.out.below hb X2.out.lt)
  have X3 := Lib.hid (X3.out.below hb X3.out.lt)
  have H1 := Lib.hid ((H1.out.below hb).more hb.size)
  have XG := Lib.hid (XG.out.below hb XG.out.lt)
  have R2 := Lib.hid hrow
  clear hb LB6 hrow
  have hb := ((Below.refl w7.heap.size w7).alloc (by simp; try omega) (.cells #[.int .i64 (H : Nat), .int .i64 (W : Nat), .slice (some ⟨k2, 0, none⟩) M2 M2] 24))
  have LB8 := Lib.hid (LB7.out.trans (hb.mono LB7.out.size))
  have X1 := Lib.hid (X1.out.below hb X1.out.lt)
  have X2 := Lib.hid (X2.out.below hb X2.out.lt)
  have X3 := Lib.hid (X3.out.below hb X3.out.lt)
  have H1 := Lib.hid ((H1.out.below hb).more hb.size)
  have XG := Lib.hid (XG.out.below hb XG.out.lt)
  have R2 := Lib.hid (R2.out.below hb R2.out.lt)
  have XT := Box.new w7 (H : Nat) (W : Nat) (.slice (some ⟨k2, 0, none⟩) M2 M2)
  have XT := Lib.hid XT
  clear hb LB7
  go_upto_region 8 with (fail)
  obtain ⟨tb, htb⟩ : ∃ z, w7.heap.size = z := ⟨_, rfl⟩
  rw [htb] at XT
  try rw [htb]
  clear htb
  generalize w7.alloc (.cells #[.int .i64 (H : Nat), .int .i64 (W : Nat), .slice (some ⟨k2, 0, none⟩) M2 M2] 24) = w8 at *
  obtain ⟨q0, q1, q2, q3, q4, q5, q6⟩ := X2.out.all
  go_wp2_with fail
  clear q0 q1 q2 q3 q4 q5 q6
  with_reducible refine Calls.mono (HT2.out _ LB8.out) ?_
  rintro e w9 ⟨k3, rfl, hk3, hrow, hb⟩
  rw [HMM2.out] at hrow ⊢
  change Row _ _ _ (fTurn u v a) at hrow
  have LB9 := Lib.hid (LB8.out.trans (hb.mono LB8.out.size))
  have X1 := Lib.hid (X1.out.below hb X1.out.lt)
  have X2 := Lib.hid (X2.out.below hb X2.out.lt)
  have X3 := Lib.hid (X3.out.below hb X3.out.lt)
  have H1 := Lib.hid ((H1.out.below hb).more hb.size)
  have XG := Lib.hid (XG.out.below hb XG.out.lt)
  have R2 := Lib.hid (R2.out.below hb R2.out.lt)
  have XT := Lib.hid (XT.out.below hb XT.out.lt)
  have R3 := Lib.hid hrow
  clear hb LB8 hrow
  have hb := ((Below.refl w9.heap.size w9).alloc (by simp; try omega) (.cells #[.int .i64 (v : Nat), .int .i64 (u : Nat), .slice (some ⟨k3, 0, none⟩) m2 m2] 24))
  have LB10 := Lib.hid (LB9.out.trans (hb.mono LB9.out.size))
  have X1 := Lib.hid (X1.out.below hb X1.out.lt)
  have X2 := Lib.hid (X2.out.below hb X2.out.lt)
  have X3 := Lib.hid (X3.out.below hb X3.out.lt)
  have H1 := Lib.hid ((H1.out.below hb).more hb.size)
  have XG := Lib.hid (XG.out.below hb XG.out.lt)
  have R2 := Lib.hid (R2.out.below hb R2.out.lt)
  have XT := Lib.hid (XT.out.below hb XT.out.lt)
  have R3 := Lib.hid (R3.out.below hb R3.out.lt)
  have XU := Box.new w9 (v : Nat) (u : Nat) (.slice (some ⟨k3, 0, none⟩) m2 m2)
  have XU := Lib.hid XU
  clear hb LB9
  go_upto_region 9 with (fail)
  obtain ⟨ub, hub⟩ : ∃ z, w9.heap.size = z := ⟨_, rfl⟩
  rw [hub] at XU
  try rw [hub]
  clear hub
  generalize w9.alloc (.cells #[.int .i64 (v : Nat), .int .i64 (u : Nat), .slice (some ⟨k3, 0, none⟩) m2 m2] 24) = w10 at *
  obtain ⟨q0, q1, q2, q3, q4, q5, q6⟩ := X3.out.all
  go_wp2_with fail
  clear q0 q1 q2 q3 q4 q5 q6
  with_reducible refine Calls.mono (HT3.out _ LB10.out) ?_
  rintro e w11 ⟨k4, rfl, hk4, hrow, hb⟩
  rw [HMM2.out] at hrow ⊢
  change Row _ _ _ (fTurn u v b) at hrow
  have LB11 := Lib.hid (LB10.out.trans (hb.mono LB10.out.size))
  have X1 := Lib.hid (X1.out.below hb X1.out.lt)
  have X2 := Lib.hid (X2.out.below hb X2.out.lt)
  have X3 := Lib.hid (X3.out.below hb X3.out.lt)
  have H1 := Lib.hid ((H1.out.below hb).more hb.size)
  have XG := Lib.hid (XG.out.below hb XG.out.lt)
  have R2 := Lib.hid (R2.out.below hb R2.out.lt)
  have XT := Lib.hid (XT.out.below hb XT.out.lt)
  have R3 := Lib.hid (R3.out.below hb R3.out.lt)
  have XU := Lib.hid (XU.out.below hb XU.out.lt)
  have R4 := Lib.hid hrow
  clear hb LB10 hrow
  have hb := ((Below.refl w11.heap.size w11).alloc (by simp; try omega) (.cells #[.int .i64 (v : Nat), .int .i64 (u : Nat), .slice (some ⟨k4, 0, none⟩) m2 m2] 24))
  have LB12 := Lib.hid (LB11.out.trans (hb.mono LB11.out.size))
  have X1 := Lib.hid (X1.out.below hb X1.out.lt)
  have X2 := Lib.hid (X2.out.below hb X2.out.lt)
  have X3 := Lib.hid (X3.out.below hb X3.out.lt)
  have H1 := Lib.hid ((H1.out.below hb).more hb.size)
  have XG := Lib.hid (XG.out.below hb XG.out.lt)
  have R2 := Lib.hid (R2.out.below hb R2.out.lt)
  have XT := Lib.hid (XT.out.below hb XT.out.lt)
  have R3 := Lib.hid (R3.out.below hb R3.out.lt)
  have XU := Lib.hid (XU.out.below hb XU.out.lt)
  have R4 := Lib.hid (R4.out.below hb R4.out.lt)
  have XV := Box.new w11 (v : Nat) (u : Nat) (.slice (some ⟨k4, 0, none⟩) m2 m2)
  have XV := Lib.hid XV
  clear hb LB11
  go_upto_region 10 with (fail)
  obtain ⟨vb, hvb⟩ : ∃ z, w11.heap.size = z := ⟨_, rfl⟩
  rw [hvb] at XV
  try rw [hvb]
  clear hvb
  generalize w11.alloc (.cells #[.int .i64 (v : Nat), .int .i64 (u : Nat), .slice (some ⟨k4, 0, none⟩) m2 m2] 24) = w12 at *
  obtain ⟨q0, q1, q2, q3, q4, q5, q6⟩ := XT.out.all
  obtain ⟨q7, q8, q9, q10, q11, q12, q13⟩ := XU.out.all
  obtain ⟨q14, q15, q16, q17, q18, q19, q20⟩ := XV.out.all
  go_wp2_with fail
  clear q0 q1 q2 q3 q4 q5 q6 q7 q8 q9 q10 q11 q12 q13 q14 q15 q16 q17 q18 q19 q20
  with_reducible refine Calls.mono (HFT.out _ _ _ _ _ _ _ R2.out R3.out R4.out) ?_
  rintro e w13 ⟨A5, c5, rfl, hh, hb⟩
  have LB13 := Lib.hid (LB12.out.trans (hb.mono LB12.out.size))
  have X1 := Lib.hid (X1.out.below hb X1.out.lt)
  have X2 := Lib.hid (X2.out.below hb X2.out.lt)
  have X3 := Lib.hid (X3.out.below hb X3.out.lt)
  have H1 := Lib.hid ((H1.out.below hb).more hb.size)
  have XG := Lib.hid (XG.out.below hb XG.out.lt)
  have R2 := Lib.hid (R2.out.below hb R2.out.lt)
  have XT := Lib.hid (XT.out.below hb XT.out.lt)
  have R3 := Lib.hid (R3.out.below hb R3.out.lt)
  have XU := Lib.hid (XU.out.below hb XU.out.lt)
  have R4 := Lib.hid (R4.out.below hb R4.out.lt)
  have XV := Lib.hid (XV.out.below hb XV.out.lt)
  have H5 := Lib.hid hh
  clear hb LB12 hh
  have hb := ((Below.refl w13.heap.size w13).alloc (by simp; try omega) (.cells #[.int .i64 (Qq : Nat), .int .i64 (P : Nat), .slice A5 N2 c5] 24))
  have LB14 := Lib.hid (LB13.out.trans (hb.mono LB13.out.size))
  have X1 := Lib.hid (X1.out.below hb X1.out.lt)
  have X2 := Lib.hid (X2.out.below hb X2.out.lt)
  have X3 := Lib.hid (X3.out.below hb X3.out.lt)
  have H1 := Lib.hid ((H1.out.below hb).more hb.size)
  have XG := Lib.hid (XG.out.below hb XG.out.lt)
  have R2 := Lib.hid (R2.out.below hb R2.out.lt)
  have XT := Lib.hid (XT.out.below hb XT.out.lt)
  have R3 := Lib.hid (R3.out.below hb R3.out.lt)
  have XU := Lib.hid (XU.out.below hb XU.out.lt)
  have R4 := Lib.hid (R4.out.below hb R4.out.lt)
  have XV := Lib.hid (XV.out.below hb XV.out.lt)
  have H5 := Lib.hid ((H5.out.below hb).more hb.size)
  have XF := Box.new w13 (Qq : Nat) (P : Nat) (.slice A5 N2 c5)
  have XF := Lib.hid XF
  clear hb LB13
  go_upto_region 11 with (fail)
  obtain ⟨fb, hfb⟩ : ∃ z, w13.heap.size = z := ⟨_, rfl⟩
  rw [hfb] at XF
  try rw [hfb]
  clear hfb
  generalize w13.alloc (.cells #[.int .i64 (Qq : Nat), .int .i64 (P : Nat), .slice A5 N2 c5] 24) = w14 at *
  clear R2
  clear XT
  clear R3
  clear XU
  clear R4
  clear XV
  obtain ⟨q0, q1, q2, q3, q4, q5, q6⟩ := XG.out.all
  go_wp2_with fail
  clear q0 q1 q2 q3 q4 q5 q6
  with_reducible refine Calls.mono (HTG.out _ _ _ H1.out) ?_
  rintro e w15 ⟨k6, rfl, hk6, hrow, hb⟩
  rw [HN2E.out] at hrow ⊢
  change Row _ _ _ (fTurn P Qq F1) at hrow
  have LB15 := Lib.hid (LB14.out.trans (hb.mono LB14.out.size))
  have X1 := Lib.hid (X1.out.below hb X1.out.lt)
  have X2 := Lib.hid (X2.out.below hb X2.out.lt)
  have X3 := Lib.hid (X3.out.below hb X3.out.lt)
  have H1 := Lib.hid ((H1.out.below hb).more hb.size)
  have XG := Lib.hid (XG.out.below hb XG.out.lt)
  have H5 := Lib.hid ((H5.out.below hb).more hb.size)
  have XF := Lib.hid (XF.out.below hb XF.out.lt)
  have R6 := Lib.hid hrow
  clear hb LB14 hrow
  have hb := ((Below.refl w15.heap.size w15).alloc (by simp; try omega) (.cells #[.int .i64 (Qq : Nat), .int .i64 (P : Nat), .slice (some ⟨k6, 0, none⟩) N2 N2] 24))
  have LB16 := Lib.hid (LB15.out.trans (hb.mono LB15.out.size))
  have X1 := Lib.hid (X1.out.below hb X1.out.lt)
  have X2 := Lib.hid (X2.out.below hb X2.out.lt)
  have X3 := Lib.hid (X3.out.below hb X3.out.lt)
  have H1 := Lib.hid ((H1.out.below hb).more hb.size)
  have XG := Lib.hid (XG.out.below hb XG.out.lt)
  have H5 := Lib.hid ((H5.out.below hb).more hb.size)
  have XF := Lib.hid (XF.out.below hb XF.out.lt)
  have R6 := Lib.hid (R6.out.below hb R6.out.lt)
  have XW := Box.new w15 (Qq : Nat) (P : Nat) (.slice (some ⟨k6, 0, none⟩) N2 N2)
  have XW := Lib.hid XW
  clear hb LB15
  go_upto_region 12 with (fail)
  obtain ⟨wb, hwb⟩ : ∃ z, w15.heap.size = z := ⟨_, rfl⟩
  rw [hwb] at XW
  try rw [hwb]
  clear hwb
  generalize w15.alloc (.cells #[.int .i64 (Qq : Nat), .int .i64 (P : Nat), .slice (some ⟨k6, 0, none⟩) N2 N2] 24) = w16 at *
  obtain ⟨q0, q1, q2, q3, q4, q5, q6⟩ := XF.out.all
  obtain ⟨q7, q8, q9, q10, q11, q12, q13⟩ := XW.out.all
  go_wp2_with fail
  clear q0 q1 q2 q3 q4 q5 q6 q7 q8 q9 q10 q11 q12 q13
  with_reducible refine Calls.mono (HS1.out _ _ _ _ _ H5.out (R6.out.holds R6.out.lt)) ?_
  rintro e w17 ⟨rfl, hb⟩
  have LB17 := Lib.hid (LB16.out.trans (hb.mono LB16.out.size))
  have X1 := Lib.hid (X1.out.below hb X1.out.lt)
  have X2 := Lib.hid (X2.out.below hb X2.out.lt)
  have X3 := Lib.hid (X3.out.below hb X3.out.lt)
  have H1 := Lib.hid ((H1.out.below hb).more hb.size)
  have XG := Lib.hid (XG.out.below hb XG.out.lt)
  have H5 := Lib.hid ((H5.out.below hb).more hb.size)
  have XF := Lib.hid (XF.out.below hb XF.out.lt)
  have R6 := Lib.hid (R6.out.below hb R6.out.lt)
  have XW := Lib.hid (XW.out.below hb XW.out.lt)
  clear hb LB16 
  clear R6
  clear XF
  clear H5
  clear XW
  obtain ⟨q0, q1, q2, q3, q4, q5, q6⟩ := X1.out.all
  go_wp2_with fail
  clear q0 q1 q2 q3 q4 q5 q6
  with_reducible refine Calls.mono (HH1.out _ LB17.out) ?_
  rintro e w18 ⟨k7, rfl, hk7, hrow, hb⟩
  rw [HME.out] at hrow ⊢
  change Row _ _ _ (fShift W H dx dy f) at hrow
  have LB18 := Lib.hid (LB17.out.trans (hb.mono LB17.out.size))
  have X1 := Lib.hid (X1.out.below hb X1.out.lt)
  have X2 := Lib.hid (X2.out.below hb X2.out.lt)
  have X3 := Lib.hid (X3.out.below hb X3.out.lt)
  have H1 := Lib.hid ((H1.out.below hb).more hb.size)
  have XG := Lib.hid (XG.out.below hb XG.out.lt)
  have R7 := Lib.hid hrow
  clear hb LB17 hrow
  have hb := ((Below.refl w18.heap.size w18).alloc (by simp; try omega) (.cells #[.int .i64 (W : Nat), .int .i64 (H : Nat), .slice (some ⟨k7, 0, none⟩) M M] 24))
  have LB19 := Lib.hid (LB18.out.trans (hb.mono LB18.out.size))
  have X1 := Lib.hid (X1.out.below hb X1.out.lt)
  have X2 := Lib.hid (X2.out.below hb X2.out.lt)
  have X3 := Lib.hid (X3.out.below hb X3.out.lt)
  have H1 := Lib.hid ((H1.out.below hb).more hb.size)
  have XG := Lib.hid (XG.out.below hb XG.out.lt)
  have R7 := Lib.hid (R7.out.below hb R7.out.lt)
  have XS := Box.new w18 (W : Nat) (H : Nat) (.slice (some ⟨k7, 0, none⟩) M M)
  have XS := Lib.hid XS
  clear hb LB18
  go_upto_region 15 with (fail)
  obtain ⟨sb, hsb⟩ : ∃ z, w18.heap.size = z := ⟨_, rfl⟩
  rw [hsb] at XS
  try rw [hsb]
  clear hsb
  generalize w18.alloc (.cells #[.int .i64 (W : Nat), .int .i64 (H : Nat), .slice (some ⟨k7, 0, none⟩) M M] 24) = w19 at *
  obtain ⟨q0, q1, q2, q3, q4, q5, q6⟩ := XG.out.all
  obtain ⟨q7, q8, q9, q10, q11, q12, q13⟩ := X2.out.all
  go_wp2_with fail
  clear q0 q1 q2 q3 q4 q5 q6 q7 q8 q9 q10 q11 q12 q13
  with_reducible refine Calls.mono (HH2.out _ _ _ H1.out) ?_
  rintro e w20 ⟨k8, rfl, hk8, hrow, hb⟩
  rw [HNE.out] at hrow ⊢
  change Row _ _ _ (fShift P Qq sx sy F1) at hrow
  have LB20 := Lib.hid (LB19.out.trans (hb.mono LB19.out.size))
  have X1 := Lib.hid (X1.out.below hb X1.out.lt)
  have X2 := Lib.hid (X2.out.below hb X2.out.lt)
  have X3 := Lib.hid (X3.out.below hb X3.out.lt)
  have H1 := Lib.hid ((H1.out.below hb).more hb.size)
  have XG := Lib.hid (XG.out.below hb XG.out.lt)
  have R7 := Lib.hid (R7.out.below hb R7.out.lt)
  have XS := Lib.hid (XS.out.below hb XS.out.lt)
  have R8 := Lib.hid hrow
  clear hb LB19 hrow
  have hb := ((Below.refl w20.heap.size w20).alloc (by simp; try omega) (.cells #[.int .i64 (P : Nat), .int .i64 (Qq : Nat), .slice (some ⟨k8, 0, none⟩) N N] 24))
  have LB21 := Lib.hid (LB20.out.trans (hb.mono LB20.out.size))
  have X1 := Lib.hid (X1.out.below hb X1.out.lt)
  have X2 := Lib.hid (X2.out.below hb X2.out.lt)
  have X3 := Lib.hid (X3.out.below hb X3.out.lt)
  have H1 := Lib.hid ((H1.out.below hb).more hb.size)
  have XG := Lib.hid (XG.out.below hb XG.out.lt)
  have R7 := Lib.hid (R7.out.below hb R7.out.lt)
  have XS := Lib.hid (XS.out.below hb XS.out.lt)
  have R8 := Lib.hid (R8.out.below hb R8.out.lt)
  have XY := Box.new w20 (P : Nat) (Qq : Nat) (.slice (some ⟨k8, 0, none⟩) N N)
  have XY := Lib.hid XY
  clear hb LB20
  go_upto_region 16 with (fail)
  obtain ⟨yb, hyb⟩ : ∃ z, w20.heap.size = z := ⟨_, rfl⟩
  rw [hyb] at XY
  try rw [hyb]
  clear hyb
  generalize w20.alloc (.cells #[.int .i64 (P : Nat), .int .i64 (Qq : Nat), .slice (some ⟨k8, 0, none⟩) N N] 24) = w21 at *
  obtain ⟨q0, q1, q2, q3, q4, q5, q6⟩ := XS.out.all
  obtain ⟨q7, q8, q9, q10, q11, q12, q13⟩ := X2.out.all
  obtain ⟨q14, q15, q16, q17, q18, q19, q20⟩ := X3.out.all
  go_wp2_with fail
  clear q0 q1 q2 q3 q4 q5 q6 q7 q8 q9 q10 q11 q12 q13 q14 q15 q16 q17 q18 q19 q20
  with_reducible refine Calls.mono (HF2.out _ _ _ LB21.out R7.out) ?_
  rintro e w22 ⟨A9, c9, rfl, hh, hb⟩
  have LB22 := Lib.hid (LB21.out.trans (hb.mono LB21.out.size))
  have X1 := Lib.hid (X1.out.below hb X1.out.lt)
  have X2 := Lib.hid (X2.out.below hb X2.out.lt)
  have X3 := Lib.hid (X3.out.below hb X3.out.lt)
  have H1 := Lib.hid ((H1.out.below hb).more hb.size)
  have XG := Lib.hid (XG.out.below hb XG.out.lt)
  have R7 := Lib.hid (R7.out.below hb R7.out.lt)
  have XS := Lib.hid (XS.out.below hb XS.out.lt)
  have R8 := Lib.hid (R8.out.below hb R8.out.lt)
  have XY := Lib.hid (XY.out.below hb XY.out.lt)
  have H9 := Lib.hid hh
  clear hb LB21 hh
  have hb := ((Below.refl w22.heap.size w22).alloc (by simp; try omega) (.cells #[.int .i64 (P : Nat), .int .i64 (Qq : Nat), .slice A9 N c9] 24))
  have LB23 := Lib.hid (LB22.out.trans (hb.mono LB22.out.size))
  have X1 := Lib.hid (X1.out.below hb X1.out.lt)
  have X2 := Lib.hid (X2.out.below hb X2.out.lt)
  have X3 := Lib.hid (X3.out.below hb X3.out.lt)
  have H1 := Lib.hid ((H1.out.below hb).more hb.size)
  have XG := Lib.hid (XG.out.below hb XG.out.lt)
  have R7 := Lib.hid (R7.out.below hb R7.out.lt)
  have XS := Lib.hid (XS.out.below hb XS.out.lt)
  have R8 := Lib.hid (R8.out.below hb R8.out.lt)
  have XY := Lib.hid (XY.out.below hb XY.out.lt)
  have H9 := Lib.hid ((H9.out.below hb).more hb.size)
  have XZ := Box.new w22 (P : Nat) (Qq : Nat) (.slice A9 N c9)
  have XZ := Lib.hid XZ
  clear hb LB22
  go_upto_region 19 with (fail)
  obtain ⟨zb, hzb⟩ : ∃ z, w22.heap.size = z := ⟨_, rfl⟩
  rw [hzb] at XZ
  try rw [hzb]
  clear hzb
  generalize w22.alloc (.cells #[.int .i64 (P : Nat), .int .i64 (Qq : Nat), .slice A9 N c9] 24) = w23 at *
  obtain ⟨q0, q1, q2, q3, q4, q5, q6⟩ := XY.out.all
  obtain ⟨q7, q8, q9, q10, q11, q12, q13⟩ := XZ.out.all
  go_wp2_with fail
  clear q0 q1 q2 q3 q4 q5 q6 q7 q8 q9 q10 q11 q12 q13
  with_reducible refine Calls.mono (HS2.out _ _ _ _ _ (R8.out.holds R8.out.lt) H9.out) ?_
  rintro e w24 ⟨rfl, hb⟩
  have LB24 := Lib.hid (LB23.out.trans (hb.mono LB23.out.size))
  have X1 := Lib.hid (X1.out.below hb X1.out.lt)
  have X2 := Lib.hid (X2.out.below hb X2.out.lt)
  have X3 := Lib.hid (X3.out.below hb X3.out.lt)
  have H1 := Lib.hid ((H1.out.below hb).more hb.size)
  have XG := Lib.hid (XG.out.below hb XG.out.lt)
  have R7 := Lib.hid (R7.out.below hb R7.out.lt)
  have XS := Lib.hid (XS.out.below hb XS.out.lt)
  have R8 := Lib.hid (R8.out.below hb R8.out.lt)
  have XY := Lib.hid (XY.out.below hb XY.out.lt)
  have H9 := Lib.hid ((H9.out.below hb).more hb.size)
  have XZ := Lib.hid (XZ.out.below hb XZ.out.lt)
  clear hb LB23 
  go_wp2
  go_ret
  exact ⟨rfl, LB24.out⟩
theorem turns13_any (W H X Y U V : Int) (A B C : Option Addr) (n c m d k e : Nat) (f a b : Nat → Bool) (dx dy : Int) (w : World) (hf : Holds w w.heap.size A n f) (ha : Holds w w.heap.size B m a) (hb : Holds w w.heap.size C k b) : Calls Try.prog 16 #[.agg #[.int .i64 W, .int .i64 H, .slice A n c], .agg #[.int .i64 X, .int .i64 Y, .slice B m d], .agg #[.int .i64 U, .int .i64 V, .slice C k e], .int .i64 dx, .int .i64 dy] w fun e w' => e = .returned (.bool true) ∧ Below w.heap.size w w' := by
  cases h0 : fitB W H n
  · exact turns_nf0 W H X Y U V A B C n c m d k e dx dy w h0
  cases h1 : fitB X Y m
  · exact turns_nf1 W H X Y U V A B C n c m d k e dx dy w h0 h1
  cases h2 : fitB U V k
  · exact turns_nf2 W H X Y U V A B C n c m d k e dx dy w h0 h1 h2
  by_cases d0 : dx < -20
  · exact turns_far0 W H X Y U V A B C n c m d k e dx dy w h0 h1 h2 d0
  by_cases d1 : 20 < dx
  · exact turns_far1 W H X Y U V A B C n c m d k e dx dy w h0 h1 h2 d0 d1
  by_cases d2 : dy < -20
  · exact turns_far2 W H X Y U V A B C n c m d k e dx dy w h0 h1 h2 d0 d1 d2
  by_cases d3 : 20 < dy
  · exact turns_far3 W H X Y U V A B C n c m d k e dx dy w h0 h1 h2 d0 d1 d2 d3
  obtain ⟨P, Q, rfl, rfl, rfl, p0, p1, q0, q1⟩ := fitB_nat h0
  obtain ⟨u, v, rfl, rfl, rfl, u0, u1, v0, v1⟩ := fitB_nat h1
  obtain ⟨u', v', rfl, rfl, rfl, x0, x1, z0, z1⟩ := fitB_nat h2
  by_cases hs : u' = u ∧ v' = v
  · obtain ⟨rfl, rfl⟩ := hs
    by_cases h6 : P * u' ≤ 64 ∧ Q * v' ≤ 64
    · exact turns_ok P Q u' v' A B C c d e f a b dx dy w hf ha hb p0 q0 u0 v0 h6.1 h6.2 d0 d1 d2 d3
    · exact turns_bad _ _ _ _ _ _ A B C _ c _ d _ e dx dy w h0 h1 h2 d0 d1 d2 d3 4 (by decide) fun z hz => fill_many p0 p1 q0 q1 ((hf.below hz).more hz.size) u0 u1 v0 v1 ((ha.below hz).more hz.size) ((hb.below hz).more hz.size) _ h6
  · exact turns_bad _ _ _ _ _ _ A B C _ c _ d _ e dx dy w h0 h1 h2 d0 d1 d2 d3 26 (by decide) fun z hz => fill_cnt p0 p1 q0 q1 ((hf.below hz).more hz.size) u0 u1 v0 v1 x0 x1 z0 z1 ((ha.below hz).more hz.size) ((hb.below hz).more hz.size) _ hs
end Go.Proofs.Ytngjcekjboedjaa
