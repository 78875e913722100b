/- BlockBack: the walk. -/
import Derived.Test.YtngjcekjboedjaaKam
import Derived.Test.YtngjcekjboedjaaKpf
namespace Go.Proofs.Ytngjcekjboedjaa
open Go.RowKit
set_option maxRecDepth 100000
set_option linter.unusedVariables false
set_option linter.unusedSimpArgs false

set_option maxHeartbeats 800000 in
theorem back_nf0 (W H X Y U V : Int) (A B C : Option Addr) (n c m d k e : Nat) (w : World) (h0 : fitB W H n = false) : Calls Try.prog 14 #[.agg #[.int .i64 W, .int .i64 H, .slice A n c], .agg #[.int .i64 X, .int .i64 Y, .slice B m d], .agg #[.int .i64 U, .int .i64 V, .slice C k e]] w fun e w' => e = .returned (.bool true) ∧ Below w.heap.size w w' := by
  have HF0 := Lib.hid (fun u => fit_any W H A n c u)
  simp only [h0] at HF0
  clear h0
  have LB0 := Lib.hid (Below.refl w.heap.size w)
  have X1 := Lib.hid (Box.new w W H (.slice A n c))
  have LB0 := Lib.hid (LB0.out.alloc LB0.out.size (.cells #[.int .i64 W, .int .i64 H, .slice A n c] 24))
  have X1 := Lib.hid (X1.out.alloc (.cells #[.int .i64 X, .int .i64 Y, .slice B m d] 24))
  have X2 := Box.new (w.alloc (.cells #[.int .i64 W, .int .i64 H, .slice A n c] 24)) X Y (.slice B m d)
  rw [show ((w.alloc (.cells #[.int .i64 W, .int .i64 H, .slice A n c] 24))).heap.size = w.heap.size + 1 by simp] at X2
  have X2 := Lib.hid X2
  have LB0 := Lib.hid (LB0.out.alloc LB0.out.size (.cells #[.int .i64 X, .int .i64 Y, .slice B m d] 24))
  have X1 := Lib.hid (X1.out.alloc (.cells #[.int .i64 U, .int .i64 V, .slice C k e] 24))
  have X2 := Lib.hid (X2.out.alloc (.cells #[.int .i64 U, .int .i64 V, .slice C k e] 24))
  have X3 := Box.new ((w.alloc (.cells #[.int .i64 W, .int .i64 H, .slice A n c] 24)).alloc (.cells #[.int .i64 X, .int .i64 Y, .slice B m d] 24)) U V (.slice C k e)
  rw [show (((w.alloc (.cells #[.int .i64 W, .int .i64 H, .slice A n c] 24)).alloc (.cells #[.int .i64 X, .int .i64 Y, .slice B m d] 24))).heap.size = w.heap.size + 2 by simp] at X3
  have X3 := Lib.hid X3
  have LB0 := Lib.hid (LB0.out.alloc LB0.out.size (.cells #[.int .i64 U, .int .i64 V, .slice C k e] 24))
  go_enter Try.func14, Try.ntmps14
  go_upto_region 1 with (fail)
  generalize ((w.alloc (.cells #[.int .i64 W, .int .i64 H, .slice A n c] 24)).alloc (.cells #[.int .i64 X, .int .i64 Y, .slice B m d] 24)).alloc (.cells #[.int .i64 U, .int .i64 V, .slice C k e] 24) = w0 at *
  go_wp2_with fail
  with_reducible refine Calls.mono (alive13_any _) ?_
  rintro e w1 ⟨rfl, hb⟩
  have LB1 := Lib.hid (LB0.out.trans (hb.mono LB0.out.size))
  have X1 := Lib.hid (X1.out.below hb X1.out.lt)
  have X2 := Lib.hid (X2.out.below hb X2.out.lt)
  have X3 := Lib.hid (X3.out.below hb X3.out.lt)
  clear hb LB0 
  obtain ⟨q0, q1, q2, q3, q4, q5, q6⟩ := X1.out.all
  go_wp2_with fail
  clear q0 q1 q2 q3 q4 q5 q6
  with_reducible refine Calls.mono (HF0.out _) ?_
  rintro e w2 ⟨rfl, hb⟩
  have LB2 := Lib.hid (LB1.out.trans (hb.mono LB1.out.size))
  have X1 := Lib.hid (X1.out.below hb X1.out.lt)
  have X2 := Lib.hid (X2.out.below hb X2.out.lt)
  have X3 := Lib.hid (X3.out.below hb X3.out.lt)
  clear hb LB1 
  go_wp2
  go_ret
  exact ⟨rfl, LB2.out⟩
set_option maxHeartbeats 800000 in
theorem back_nf1 (W H X Y U V : Int) (A B C : Option Addr) (n c m d k e : Nat) (w : World) (h0 : fitB W H n = true) (h1 : fitB X Y m = false) : Calls Try.prog 14 #[.agg #[.int .i64 W, .int .i64 H, .slice A n c], .agg #[.int .i64 X, .int .i64 Y, .slice B m d], .agg #[.int .i64 U, .int .i64 V, .slice C k e]] w fun e w' => e = .returned (.bool true) ∧ Below w.heap.size w w' := by
  have HF0 := Lib.hid (fun u => fit_any W H A n c u)
  simp only [h0] at HF0
  have HF1 := Lib.hid (fun u => fit_any X Y B m d u)
  simp only [h1] at HF1
  clear h0 h1
  have LB0 := Lib.hid (Below.refl w.heap.size w)
  have X1 := Lib.hid (Box.new w W H (.slice A n c))
  have LB0 := Lib.hid (LB0.out.alloc LB0.out.size (.cells #[.int .i64 W, .int .i64 H, .slice A n c] 24))
  have X1 := Lib.hid (X1.out.alloc (.cells #[.int .i64 X, .int .i64 Y, .slice B m d] 24))
  have X2 := Box.new (w.alloc (.cells #[.int .i64 W, .int .i64 H, .slice A n c] 24)) X Y (.slice B m d)
  rw [show ((w.alloc (.cells #[.int .i64 W, .int .i64 H, .slice A n c] 24))).heap.size = w.heap.size + 1 by simp] at X2
  have X2 := Lib.hid X2
  have LB0 := Lib.hid (LB0.out.alloc LB0.out.size (.cells #[.int .i64 X, .int .i64 Y, .slice B m d] 24))
  have X1 := Lib.hid (X1.out.alloc (.cells #[.int .i64 U, .int .i64 V, .slice C k e] 24))
  have X2 := Lib.hid (X2.out.alloc (.cells #[.int .i64 U, .int .i64 V, .slice C k e] 24))
  have X3 := Box.new ((w.alloc (.cells #[.int .i64 W, .int .i64 H, .slice A n c] 24)).alloc (.cells #[.int .i64 X, .int .i64 Y, .slice B m d] 24)) U V (.slice C k e)
  rw [show (((w.alloc (.cells #[.int .i64 W, .int .i64 H, .slice A n c] 24)).alloc (.cells #[.int .i64 X, .int .i64 Y, .slice B m d] 24))).heap.size = w.heap.size + 2 by simp] at X3
  have X3 := Lib.hid X3
  have LB0 := Lib.hid (LB0.out.alloc LB0.out.size (.cells #[.int .i64 U, .int .i64 V, .slice C k e] 24))
  go_enter Try.func14, Try.ntmps14
  go_upto_region 1 with (fail)
  generalize ((w.alloc (.cells #[.int .i64 W, .int .i64 H, .slice A n c] 24)).alloc (.cells #[.int .i64 X, .int .i64 Y, .slice B m d] 24)).alloc (.cells #[.int .i64 U, .int .i64 V, .slice C k e] 24) = w0 at *
  go_wp2_with fail
  with_reducible refine Calls.mono (alive13_any _) ?_
  rintro e w1 ⟨rfl, hb⟩
  have LB1 := Lib.hid (LB0.out.trans (hb.mono LB0.out.size))
  have X1 := Lib.hid (X1.out.below hb X1.out.lt)
  have X2 := Lib.hid (X2.out.below hb X2.out.lt)
  have X3 := Lib.hid (X3.out.below hb X3.out.lt)
  clear hb LB0 
  obtain ⟨q0, q1, q2, q3, q4, q5, q6⟩ := X1.out.all
  go_wp2_with fail
  clear q0 q1 q2 q3 q4 q5 q6
  with_reducible refine Calls.mono (HF0.out _) ?_
  rintro e w2 ⟨rfl, hb⟩
  have LB2 := Lib.hid (LB1.out.trans (hb.mono LB1.out.size))
  have X1 := Lib.hid (X1.out.below hb X1.out.lt)
  have X2 := Lib.hid (X2.out.below hb X2.out.lt)
  have X3 := Lib.hid (X3.out.below hb X3.out.lt)
  clear hb LB1 
  obtain ⟨q0, q1, q2, q3, q4, q5, q6⟩ := X2.out.all
  go_wp2_with fail
  clear q0 q1 q2 q3 q4 q5 q6
  with_reducible refine Calls.mono (HF1.out _) ?_
  rintro e w3 ⟨rfl, hb⟩
  have LB3 := Lib.hid (LB2.out.trans (hb.mono LB2.out.size))
  have X1 := Lib.hid (X1.out.below hb X1.out.lt)
  have X2 := Lib.hid (X2.out.below hb X2.out.lt)
  have X3 := Lib.hid (X3.out.below hb X3.out.lt)
  clear hb LB2 
  go_wp2
  go_ret
  exact ⟨rfl, LB3.out⟩
set_option maxHeartbeats 800000 in
theorem back_nf2 (W H X Y U V : Int) (A B C : Option Addr) (n c m d k e : Nat) (w : World) (h0 : fitB W H n = true) (h1 : fitB X Y m = true) (h2 : fitB U V k = false) : Calls Try.prog 14 #[.agg #[.int .i64 W, .int .i64 H, .slice A n c], .agg #[.int .i64 X, .int .i64 Y, .slice B m d], .agg #[.int .i64 U, .int .i64 V, .slice C k e]] w fun e w' => e = .returned (.bool true) ∧ Below w.heap.size w w' := by
  have HF0 := Lib.hid (fun u => fit_any W H A n c u)
  simp only [h0] at HF0
  have HF1 := Lib.hid (fun u => fit_any X Y B m d u)
  simp only [h1] at HF1
  have HF2 := Lib.hid (fun u => fit_any U V C k e u)
  simp only [h2] at HF2
  clear h0 h1 h2
  have LB0 := Lib.hid (Below.refl w.heap.size w)
  have X1 := Lib.hid (Box.new w W H (.slice A n c))
  have LB0 := Lib.hid (LB0.out.alloc LB0.out.size (.cells #[.int .i64 W, .int .i64 H, .slice A n c] 24))
  have X1 := Lib.hid (X1.out.alloc (.cells #[.int .i64 X, .int .i64 Y, .slice B m d] 24))
  have X2 := Box.new (w.alloc (.cells #[.int .i64 W, .int .i64 H, .slice A n c] 24)) X Y (.slice B m d)
  rw [show ((w.alloc (.cells #[.int .i64 W, .int .i64 H, .slice A n c] 24))).heap.size = w.heap.size + 1 by simp] at X2
  have X2 := Lib.hid X2
  have LB0 := Lib.hid (LB0.out.alloc LB0.out.size (.cells #[.int .i64 X, .int .i64 Y, .slice B m d] 24))
  have X1 := Lib.hid (X1.out.alloc (.cells #[.int .i64 U, .int .i64 V, .slice C k e] 24))
  have X2 := Lib.hid (X2.out.alloc (.cells #[.int .i64 U, .int .i64 V, .slice C k e] 24))
  have X3 := Box.new ((w.alloc (.cells #[.int .i64 W, .int .i64 H, .slice A n c] 24)).alloc (.cells #[.int .i64 X, .int .i64 Y, .slice B m d] 24)) U V (.slice C k e)
  rw [show (((w.alloc (.cells #[.int .i64 W, .int .i64 H, .slice A n c] 24)).alloc (.cells #[.int .i64 X, .int .i64 Y, .slice B m d] 24))).heap.size = w.heap.size + 2 by simp] at X3
  have X3 := Lib.hid X3
  have LB0 := Lib.hid (LB0.out.alloc LB0.out.size (.cells #[.int .i64 U, .int .i64 V, .slice C k e] 24))
  go_enter Try.func14, Try.ntmps14
  go_upto_region 1 with (fail)
  generalize ((w.alloc (.cells #[.int .i64 W, .int .i64 H, .slice A n c] 24)).alloc (.cells #[.int .i64 X, .int .i64 Y, .slice B m d] 24)).alloc (.cells #[.int .i64 U, .int .i64 V, .slice C k e] 24) = w0 at *
  go_wp2_with fail
  with_reducible refine Calls.mono (alive13_any _) ?_
  rintro e w1 ⟨rfl, hb⟩
  have LB1 := Lib.hid (LB0.out.trans (hb.mono LB0.out.size))
  have X1 := Lib.hid (X1.out.below hb X1.out.lt)
  have X2 := Lib.hid (X2.out.below hb X2.out.lt)
  have X3 := Lib.hid (X3.out.below hb X3.out.lt)
  clear hb LB0 
  obtain ⟨q0, q1, q2, q3, q4, q5, q6⟩ := X1.out.all
  go_wp2_with fail
  clear q0 q1 q2 q3 q4 q5 q6
  with_reducible refine Calls.mono (HF0.out _) ?_
  rintro e w2 ⟨rfl, hb⟩
  have LB2 := Lib.hid (LB1.out.trans (hb.mono LB1.out.size))
  have X1 := Lib.hid (X1.out.below hb X1.out.lt)
  have X2 := Lib.hid (X2.out.below hb X2.out.lt)
  have X3 := Lib.hid (X3.out.below hb X3.out.lt)
  clear hb LB1 
  obtain ⟨q0, q1, q2, q3, q4, q5, q6⟩ := X2.out.all
  go_wp2_with fail
  clear q0 q1 q2 q3 q4 q5 q6
  with_reducible refine Calls.mono (HF1.out _) ?_
  rintro e w3 ⟨rfl, hb⟩
  have LB3 := Lib.hid (LB2.out.trans (hb.mono LB2.out.size))
  have X1 := Lib.hid (X1.out.below hb X1.out.lt)
  have X2 := Lib.hid (X2.out.below hb X2.out.lt)
  have X3 := Lib.hid (X3.out.below hb X3.out.lt)
  clear hb LB2 
  obtain ⟨q0, q1, q2, q3, q4, q5, q6⟩ := X3.out.all
  go_wp2_with fail
  clear q0 q1 q2 q3 q4 q5 q6
  with_reducible refine Calls.mono (HF2.out _) ?_
  rintro e w4 ⟨rfl, hb⟩
  have LB4 := Lib.hid (LB3.out.trans (hb.mono LB3.out.size))
  have X1 := Lib.hid (X1.out.below hb X1.out.lt)
  have X2 := Lib.hid (X2.out.below hb X2.out.lt)
  have X3 := Lib.hid (X3.out.below hb X3.out.lt)
  clear hb LB3 
  go_wp2
  go_ret
  exact ⟨rfl, LB4.out⟩
set_option maxHeartbeats 1600000 in
theorem back_bad (W H X Y U V : Int) (A B C : Option Addr) (n c m d k e : Nat) (w : World) (h0 : fitB W H n = true) (h1 : fitB X Y m = true) (h2 : fitB U V k = true) (z : Int) (hz : z = 26 ∨ z = 4)
    (hF : ∀ u, Below w.heap.size w u → Calls Try.prog 45 #[.agg #[.int .i64 W, .int .i64 H, .slice A n c], .agg #[.int .i64 X, .int .i64 Y, .slice B m d], .agg #[.int .i64 U, .int .i64 V, .slice C k e]] u (RG u 0 0 0 (fun _ => false) z)) : Calls Try.prog 14 #[.agg #[.int .i64 W, .int .i64 H, .slice A n c], .agg #[.int .i64 X, .int .i64 Y, .slice B m d], .agg #[.int .i64 U, .int .i64 V, .slice C k e]] w fun e w' => e = .returned (.bool true) ∧ Below w.heap.size w w' := by
  have HF0 := Lib.hid (fun u => fit_any W H A n c u)
  simp only [h0] at HF0
  have HF1 := Lib.hid (fun u => fit_any X Y B m d u)
  simp only [h1] at HF1
  have HF2 := Lib.hid (fun u => fit_any U V C k e u)
  simp only [h2] at HF2
  have HFI := Lib.hid hF
  have y1 : (z != 0) = true := by rcases hz with rfl | rfl <;> rfl
  clear h0 h1 h2 hF
  have LB0 := Lib.hid (Below.refl w.heap.size w)
  have X1 := Lib.hid (Box.new w W H (.slice A n c))
  have LB0 := Lib.hid (LB0.out.alloc LB0.out.size (.cells #[.int .i64 W, .int .i64 H, .slice A n c] 24))
  have X1 := Lib.hid (X1.out.alloc (.cells #[.int .i64 X, .int .i64 Y, .slice B m d] 24))
  have X2 := Box.new (w.alloc (.cells #[.int .i64 W, .int .i64 H, .slice A n c] 24)) X Y (.slice B m d)
  rw [show ((w.alloc (.cells #[.int .i64 W, .int .i64 H, .slice A n c] 24))).heap.size = w.heap.size + 1 by simp] at X2
  have X2 := Lib.hid X2
  have LB0 := Lib.hid (LB0.out.alloc LB0.out.size (.cells #[.int .i64 X, .int .i64 Y, .slice B m d] 24))
  have X1 := Lib.hid (X1.out.alloc (.cells #[.int .i64 U, .int .i64 V, .slice C k e] 24))
  have X2 := Lib.hid (X2.out.alloc (.cells #[.int .i64 U, .int .i64 V, .slice C k e] 24))
  have X3 := Box.new ((w.alloc (.cells #[.int .i64 W, .int .i64 H, .slice A n c] 24)).alloc (.cells #[.int .i64 X, .int .i64 Y, .slice B m d] 24)) U V (.slice C k e)
  rw [show (((w.alloc (.cells #[.int .i64 W, .int .i64 H, .slice A n c] 24)).alloc (.cells #[.int .i64 X, .int .i64 Y, .slice B m d] 24))).heap.size = w.heap.size + 2 by simp] at X3
  have X3 := Lib.hid X3
  have LB0 := Lib.hid (LB0.out.alloc LB0.out.size (.cells #[.int .i64 U, .int .i64 V, .slice C k e] 24))
  go_enter Try.func14, Try.ntmps14
  go_upto_region 1 with (fail)
  generalize ((w.alloc (.cells #[.int .i64 W, .int .i64 H, .slice A n c] 24)).alloc (.cells #[.int .i64 X, .int .i64 Y, .slice B m d] 24)).alloc (.cells #[.int .i64 U, .int .i64 V, .slice C k e] 24) = w0 at *
  go_wp2_with fail
  with_reducible refine Calls.mono (alive13_any _) ?_
  rintro e w1 ⟨rfl, hb⟩
  have LB1 := Lib.hid (LB0.out.trans (hb.mono LB0.out.size))
  have X1 := Lib.hid (X1.out.below hb X1.out.lt)
  have X2 := Lib.hid (X2.out.below hb X2.out.lt)
  have X3 := Lib.hid (X3.out.below hb X3.out.lt)
  clear hb LB0 
  obtain ⟨q0, q1, q2, q3, q4, q5, q6⟩ := X1.out.all
  go_wp2_with fail
  clear q0 q1 q2 q3 q4 q5 q6
  with_reducible refine Calls.mono (HF0.out _) ?_
  rintro e w2 ⟨rfl, hb⟩
  have LB2 := Lib.hid (LB1.out.trans (hb.mono LB1.out.size))
  have X1 := Lib.hid (X1.out.below hb X1.out.lt)
  have X2 := Lib.hid (X2.out.below hb X2.out.lt)
  have X3 := Lib.hid (X3.out.below hb X3.out.lt)
  clear hb LB1 
  obtain ⟨q0, q1, q2, q3, q4, q5, q6⟩ := X2.out.all
  go_wp2_with fail
  clear q0 q1 q2 q3 q4 q5 q6
  with_reducible refine Calls.mono (HF1.out _) ?_
  rintro e w3 ⟨rfl, hb⟩
  have LB3 := Lib.hid (LB2.out.trans (hb.mono LB2.out.size))
  have X1 := Lib.hid (X1.out.below hb X1.out.lt)
  have X2 := Lib.hid (X2.out.below hb X2.out.lt)
  have X3 := Lib.hid (X3.out.below hb X3.out.lt)
  clear hb LB2 
  obtain ⟨q0, q1, q2, q3, q4, q5, q6⟩ := X3.out.all
  go_wp2_with fail
  clear q0 q1 q2 q3 q4 q5 q6
  with_reducible refine Calls.mono (HF2.out _) ?_
  rintro e w4 ⟨rfl, hb⟩
  have LB4 := Lib.hid (LB3.out.trans (hb.mono LB3.out.size))
  have X1 := Lib.hid (X1.out.below hb X1.out.lt)
  have X2 := Lib.hid (X2.out.below hb X2.out.lt)
  have X3 := Lib.hid (X3.out.below hb X3.out.lt)
  clear hb LB3 
  obtain ⟨q0, q1, q2, q3, q4, q5, q6⟩ := X1.out.all
  obtain ⟨q7, q8, q9, q10, q11, q12, q13⟩ := X2.out.all
  obtain ⟨q14, q15, q16, q17, q18, q19, q20⟩ := X3.out.all
  go_wp2_with fail
  clear q0 q1 q2 q3 q4 q5 q6 q7 q8 q9 q10 q11 q12 q13 q14 q15 q16 q17 q18 q19 q20
  with_reducible refine Calls.mono (HFI.out _ LB4.out) ?_
  rintro e w5 ⟨A1, c1, rfl, _, hb⟩
  have LB5 := Lib.hid (LB4.out.trans (hb.mono LB4.out.size))
  have X1 := Lib.hid (X1.out.below hb X1.out.lt)
  have X2 := Lib.hid (X2.out.below hb X2.out.lt)
  have X3 := Lib.hid (X3.out.below hb X3.out.lt)
  clear hb LB4 
  have hb := ((Below.refl w5.heap.size w5).alloc (by simp; try omega) (.cells #[.int .i64 0, .int .i64 0, .slice A1 0 c1] 24))
  have LB6 := Lib.hid (LB5.out.trans (hb.mono LB5.out.size))
  have X1 := Lib.hid (X1.out.below hb X1.out.lt)
  have X2 := Lib.hid (X2.out.below hb X2.out.lt)
  have X3 := Lib.hid (X3.out.below hb X3.out.lt)
  clear hb LB5
  go_upto_region 5 with (fail)
  generalize w5.alloc (.cells #[.int .i64 0, .int .i64 0, .slice A1 0 c1] 24) = w6 at *
  rcases hz with rfl | rfl
  · go_wp2
    go_ret
    exact ⟨rfl, LB6.out⟩
  · go_wp2
    go_ret
    exact ⟨rfl, LB6.out⟩
set_option maxHeartbeats 3200000 in
theorem back_eq (W H u v : Nat) (A B C : Option Addr) (c d e : Nat) (f a b : Nat → Bool) (w : World) (hf : Holds w w.heap.size A (W * H) f) (ha : Holds w w.heap.size B (u * v) a) (hb1 : Holds w w.heap.size C (u * v) b) (W0 : 1 ≤ W) (H0 : 1 ≤ H) (u0 : 1 ≤ u) (v0 : 1 ≤ v) (h6 : W * u ≤ 64) (h7 : H * v ≤ 64) (hs : ∀ j, j < u * v → a j = b j) : Calls Try.prog 14 #[.agg #[.int .i64 (W : Nat), .int .i64 (H : Nat), .slice A (W * H) c], .agg #[.int .i64 (u : Nat), .int .i64 (v : Nat), .slice B (u * v) d], .agg #[.int .i64 (u : Nat), .int .i64 (v : Nat), .slice C (u * v) e]] w fun e w' => e = .returned (.bool true) ∧ Below w.heap.size w w' := by
  have hW : W ≤ 64 := Nat.le_trans (Nat.le_mul_of_pos_right _ u0) h6
  have hH : H ≤ 64 := Nat.le_trans (Nat.le_mul_of_pos_right _ v0) h7
  have u1 : u ≤ 64 := Nat.le_trans (Nat.le_mul_of_pos_left _ W0) h6
  have v1 : v ≤ 64 := Nat.le_trans (Nat.le_mul_of_pos_left _ H0) h7
  have P0 : 1 ≤ W * u := Nat.mul_le_mul W0 u0
  have Q0 : 1 ≤ H * v := Nat.mul_le_mul H0 v0
  have n1 : W * u * (H * v) ≤ 64 * 64 := Nat.mul_le_mul h6 h7
  have n2 : u * v ≤ 64 * 64 := Nat.mul_le_mul u1 v1
  have n3 : W * H ≤ 64 * 64 := Nat.mul_le_mul hW hH
  have HFa := Lib.hid (fun z => fit_any (W : Nat) (H : Nat) A (W * H) c z)
  have HFb := Lib.hid (fun z => fit_any (u : Nat) (v : Nat) B (u * v) d z)
  have HFc := Lib.hid (fun z => fit_any (u : Nat) (v : Nat) C (u * v) e z)
  have HFg := Lib.hid (fun z A1 c1 => fit_any ((W * u : Nat) : Int) ((H * v : Nat) : Int) A1 (W * u * (H * v)) c1 z)
  rw [fitB_yes W0 hW H0 hH] at HFa
  rw [fitB_yes u0 u1 v0 v1] at HFb HFc
  rw [fitB_yes P0 h6 Q0 h7] at HFg
  have HFI := Lib.hid (fun z (hb : Below w.heap.size w z) => fill_ok (w := z) (c := c) (d := d) (e := e) W0 H0 ((hf.below hb).more hb.size) u0 v0 ((ha.below hb).more hb.size) ((hb1.below hb).more hb.size) h6 h7)
  have HNT := Lib.hid (fun z (hb : Below w.heap.size w z) => not_ok W H A c f z ((hf.below hb).more hb.size) W0 hW H0 hH)
  have HF2 := Lib.hid (fun z k c1 (hb : Below w.heap.size w z) (hr : Row z k (W * H) (fun i => !f i)) => fill_ok (w := z) (c := c1) (d := e) (e := d) W0 H0 (hr.holds hr.lt) u0 v0 ((hb1.below hb).more hb.size) ((ha.below hb).more hb.size) h6 h7)
  have HS1 := Lib.hid (fun z A1 A2 c1 c2 (h1 : Holds z z.heap.size A1 (W * u * (H * v)) (fil W u v (fun i => !f i) b a)) (h2 : Holds z z.heap.size A2 (W * u * (H * v)) (fil W u v f a b)) => rsame_t (W := ((W * u : Nat) : Int)) (H := ((H * v : Nat) : Int)) (c := c1) (d := c2) (show W * u * (H * v) ≤ 5000 by omega) fil_not z h1 h2)
  have HPR := Lib.hid (fun z A1 c1 (hb : Below w.heap.size w z) (h : Holds z z.heap.size A1 (W * u * (H * v)) (fil W u v f a b)) => prof_same (c := c1) (d := d) (e := e) W0 H0 u0 v0 h6 h7 h ((ha.below hb).more hb.size) ((hb1.below hb).more hb.size) (fun _ => false) hs)
  have HSE := Lib.hid (fun z (hb : Below w.heap.size w z) => rsame_t (W := (u : Nat)) (H := (v : Nat)) (c := d) (d := e) (show u * v ≤ 5000 by omega) hs z ((ha.below hb).more hb.size) ((hb1.below hb).more hb.size))
  have f1 := wrap_mul (a := W) (b := u) (by omega)
  have f2 := wrap_mul (a := H) (b := v) (by omega)
  obtain ⟨F1, hF1⟩ : ∃ z, fil W u v f a b = z := ⟨_, rfl⟩
  obtain ⟨F2, hF2⟩ : ∃ z, fil W u v (fun i => !f i) b a = z := ⟨_, rfl⟩
  simp only [hF1] at HFI HS1 HPR
  simp only [hF2] at HF2 HS1
  obtain ⟨P, hP⟩ : ∃ z, W * u = z := ⟨_, rfl⟩
  obtain ⟨Qq, hQ⟩ : ∃ z, H * v = z := ⟨_, rfl⟩
  simp only [hP, hQ] at HFI HS1 HPR HF2 HFg f1 f2
  obtain ⟨N, hN⟩ : ∃ z, P * Qq = z := ⟨_, rfl⟩
  simp only [hN] at HFI HS1 HPR HF2 HFg
  obtain ⟨M, hM⟩ : ∃ z, W * H = z := ⟨_, rfl⟩
  have HME := Lib.hid hM
  obtain ⟨mm, hmm⟩ : ∃ z, u * v = z := ⟨_, rfl⟩
  simp only [hM] at HFI HNT HF2 HFa HPR ⊢
  simp only [hmm] at HFI HF2 HFb HFc HPR HSE ⊢
  have za : ((0 : Int) != 0) = false := rfl
  have zc : ((P : Int) != (P : Int)) = false := by simp
  have zd : ((Qq : Int) != (Qq : Int)) = false := by simp
  clear hf ha hb1 hs hF1 hF2 hP hQ hN hM hmm P0 Q0 n1 n2 n3 h6 h7
  have LB0 := Lib.hid (Below.refl w.heap.size w)
  have X1 := Lib.hid (Box.new w (W : Nat) (H : Nat) (.slice A M c))
  have LB0 := Lib.hid (LB0.out.alloc LB0.out.size (.cells #[.int .i64 (W : Nat), .int .i64 (H : Nat), .slice A M c] 24))
  have X1 := Lib.hid (X1.out.alloc (.cells #[.int .i64 (u : Nat), .int .i64 (v : Nat), .slice B mm d] 24))
  have X2 := Box.new (w.alloc (.cells #[.int .i64 (W : Nat), .int .i64 (H : Nat), .slice A M c] 24)) (u : Nat) (v : Nat) (.slice B mm d)
  rw [show ((w.alloc (.cells #[.int .i64 (W : Nat), .int .i64 (H : Nat), .slice A M c] 24))).heap.size = w.heap.size + 1 by simp] at X2
  have X2 := Lib.hid X2
  have LB0 := Lib.hid (LB0.out.alloc LB0.out.size (.cells #[.int .i64 (u : Nat), .int .i64 (v : Nat), .slice B mm d] 24))
  have X1 := Lib.hid (X1.out.alloc (.cells #[.int .i64 (u : Nat), .int .i64 (v : Nat), .slice C mm e] 24))
  have X2 := Lib.hid (X2.out.alloc (.cells #[.int .i64 (u : Nat), .int .i64 (v : Nat), .slice C mm e] 24))
  have X3 := Box.new ((w.alloc (.cells #[.int .i64 (W : Nat), .int .i64 (H : Nat), .slice A M c] 24)).alloc (.cells #[.int .i64 (u : Nat), .int .i64 (v : Nat), .slice B mm d] 24)) (u : Nat) (v : Nat) (.slice C mm e)
  rw [show (((w.alloc (.cells #[.int .i64 (W : Nat), .int .i64 (H : Nat), .slice A M c] 24)).alloc (.cells #[.int .i64 (u : Nat), .int .i64 (v : Nat), .slice B mm d] 24))).heap.size = w.heap.size + 2 by simp] at X3
  have X3 := Lib.hid X3
  have LB0 := Lib.hid (LB0.out.alloc LB0.out.size (.cells #[.int .i64 (u : Nat), .int .i64 (v : Nat), .slice C mm e] 24))
  go_enter Try.func14, Try.ntmps14
  go_upto_region 1 with (fail)
  generalize ((w.alloc (.cells #[.int .i64 (W : Nat), .int .i64 (H : Nat), .slice A M c] 24)).alloc (.cells #[.int .i64 (u : Nat), .int .i64 (v : Nat), .slice B mm d] 24)).alloc (.cells #[.int .i64 (u : Nat), .int .i64 (v : Nat), .slice C mm e] 24) = w0 at *
  go_wp2_with fail
  with_reducible refine Calls.mono (alive13_any _) ?_
  rintro e w1 ⟨rfl, hb⟩
  have LB1 := Lib.hid (LB0.out.trans (hb.mono LB0.out.size))
  have X1 := Lib.hid (X1.out.below hb X1.out.lt)
  have X2 := Lib.hid (X2.out.below hb X2.out.lt)
  have X3 := Lib.hid (X3.out.below hb X3.out.lt)
  clear hb LB0 
  obtain ⟨q0, q1, q2, q3, q4, q5, q6⟩ := X1.out.all
  go_wp2_with fail
  clear q0 q1 q2 q3 q4 q5 q6
  with_reducible refine Calls.mono (HFa.out _) ?_
  rintro e w2 ⟨rfl, hb⟩
  have LB2 := Lib.hid (LB1.out.trans (hb.mono LB1.out.size))
  have X1 := Lib.hid (X1.out.below hb X1.out.lt)
  have X2 := Lib.hid (X2.out.below hb X2.out.lt)
  have X3 := Lib.hid (X3.out.below hb X3.out.lt)
  clear hb LB1 
  obtain ⟨q0, q1, q2, q3, q4, q5, q6⟩ := X2.out.all
  go_wp2_with fail
  clear q0 q1 q2 q3 q4 q5 q6
  with_reducible refine Calls.mono (HFb.out _) ?_
  rintro e w3 ⟨rfl, hb⟩
  have LB3 := Lib.hid (LB2.out.trans (hb.mono LB2.out.size))
  have X1 := Lib.hid (X1.out.below hb X1.out.lt)
  have X2 := Lib.hid (X2.out.below hb X2.out.lt)
  have X3 := Lib.hid (X3.out.below hb X3.out.lt)
  clear hb LB2 
  obtain ⟨q0, q1, q2, q3, q4, q5, q6⟩ := X3.out.all
  go_wp2_with fail
  clear q0 q1 q2 q3 q4 q5 q6
  with_reducible refine Calls.mono (HFc.out _) ?_
  rintro e w4 ⟨rfl, hb⟩
  have LB4 := Lib.hid (LB3.out.trans (hb.mono LB3.out.size))
  have X1 := Lib.hid (X1.out.below hb X1.out.lt)
  have X2 := Lib.hid (X2.out.below hb X2.out.lt)
  have X3 := Lib.hid (X3.out.below hb X3.out.lt)
  clear hb LB3 
  obtain ⟨q0, q1, q2, q3, q4, q5, q6⟩ := X1.out.all
  obtain ⟨q7, q8, q9, q10, q11, q12, q13⟩ := X2.out.all
  obtain ⟨q14, q15, q16, q17, q18, q19, q20⟩ := X3.out.all
  go_wp2_with fail
  clear q0 q1 q2 q3 q4 q5 q6 q7 q8 q9 q10 q11 q12 q13 q14 q15 q16 q17 q18 q19 q20
  with_reducible refine Calls.mono (HFI.out _ LB4.out) ?_
  rintro e w5 ⟨A1, c1, rfl, hh, hb⟩
  have LB5 := Lib.hid (LB4.out.trans (hb.mono LB4.out.size))
  have X1 := Lib.hid (X1.out.below hb X1.out.lt)
  have X2 := Lib.hid (X2.out.below hb X2.out.lt)
  have X3 := Lib.hid (X3.out.below hb X3.out.lt)
  have H1 := Lib.hid hh
  clear hb LB4 hh
  have hb := ((Below.refl w5.heap.size w5).alloc (by simp; try omega) (.cells #[.int .i64 (P : Nat), .int .i64 (Qq : Nat), .slice A1 N c1] 24))
  have LB6 := Lib.hid (LB5.out.trans (hb.mono LB5.out.size))
  have X1 := Lib.hid (X1.out.below hb X1.out.lt)
  have X2 := Lib.hid (X2.out.below hb X2.out.lt)
  have X3 := Lib.hid (X3.out.below hb X3.out.lt)
  have H1 := Lib.hid ((H1.out.below hb).more hb.size)
  have XG := Box.new w5 (P : Nat) (Qq : Nat) (.slice A1 N c1)
  have XG := Lib.hid XG
  clear hb LB5
  go_upto_region 5 with (fail)
  obtain ⟨gb, hgb⟩ : ∃ z, w5.heap.size = z := ⟨_, rfl⟩
  rw [hgb] at XG
  try rw [hgb]
  clear hgb
  generalize w5.alloc (.cells #[.int .i64 (P : Nat), .int .i64 (Qq : Nat), .slice A1 N c1] 24) = w6 at *
  obtain ⟨q0, q1, q2, q3, q4, q5, q6⟩ := XG.out.all
  go_wp2_with fail
  clear q0 q1 q2 q3 q4 q5 q6
  with_reducible refine Calls.mono (HFg.out _ _ _) ?_
  rintro e w7 ⟨rfl, hb⟩
  have LB7 := Lib.hid (LB6.out.trans (hb.mono LB6.out.size))
  have X1 := Lib.hid (X1.out.below hb X1.out.lt)
  have X2 := Lib.hid (X2.out.below hb X2.out.lt)
  have X3 := Lib.hid (X3.out.below hb X3.out.lt)
  have H1 := Lib.hid ((H1.out.below hb).more hb.size)
  have XG := Lib.hid (XG.out.below hb XG.out.lt)
  clear hb LB6 
  obtain ⟨q0, q1, q2, q3, q4, q5, q6⟩ := XG.out.all
  obtain ⟨q7, q8, q9, q10, q11, q12, q13⟩ := X1.out.all
  obtain ⟨q14, q15, q16, q17, q18, q19, q20⟩ := X2.out.all
  go_upto_region 9 with (fail)
  clear q0 q1 q2 q3 q4 q5 q6 q7 q8 q9 q10 q11 q12 q13 q14 q15 q16 q17 q18 q19 q20
  obtain ⟨q0, q1, q2, q3, q4, q5, q6⟩ := X1.out.all
  go_wp2_with fail
  clear q0 q1 q2 q3 q4 q5 q6
  with_reducible refine Calls.mono (HNT.out _ LB7.out) ?_
  rintro e w8 ⟨k2, rfl, hk2, hrow, hb⟩
  rw [HME.out] at hrow ⊢
  have LB8 := Lib.hid (LB7.out.trans (hb.mono LB7.out.size))
  have X1 := Lib.hid (X1.out.below hb X1.out.lt)
  have X2 := Lib.hid (X2.out.below hb X2.out.lt)
  have X3 := Lib.hid (X3.out.below hb X3.out.lt)
  have H1 := Lib.hid ((H1.out.below hb).more hb.size)
  have XG := Lib.hid (XG.out.below hb XG.out.lt)
  have R2 := Lib.hid hrow
  clear hb LB7 hrow
  have hb := ((Below.refl w8.heap.size w8).alloc (by simp; try omega) (.cells #[.int .i64 (W : Nat), .int .i64 (H : Nat), .slice (some ⟨k2, 0, none⟩) M M] 24))
  have LB9 := Lib.hid (LB8.out.trans (hb.mono LB8.out.size))
  have X1 := Lib.hid (X1.out.below hb X1.out.lt)
  have X2 := Lib.hid (X2.out.below hb X2.out.lt)
  have X3 := Lib.hid (X3.out.below hb X3.out.lt)
  have H1 := Lib.hid ((H1.out.below hb).more hb.size)
  have XG := Lib.hid (XG.out.below hb XG.out.lt)
  have R2 := Lib.hid (R2.out.below hb R2.out.lt)
  have XN := Box.new w8 (W : Nat) (H : Nat) (.slice (some ⟨k2, 0, none⟩) M M)
  have XN := Lib.hid XN
  clear hb LB8
  go_upto_region 10 with (fail)
  obtain ⟨nb, hnb⟩ : ∃ z, w8.heap.size = z := ⟨_, rfl⟩
  rw [hnb] at XN
  try rw [hnb]
  clear hnb
  generalize w8.alloc (.cells #[.int .i64 (W : Nat), .int .i64 (H : Nat), .slice (some ⟨k2, 0, none⟩) M M] 24) = w9 at *
  obtain ⟨q0, q1, q2, q3, q4, q5, q6⟩ := XN.out.all
  obtain ⟨q7, q8, q9, q10, q11, q12, q13⟩ := X3.out.all
  obtain ⟨q14, q15, q16, q17, q18, q19, q20⟩ := X2.out.all
  go_wp2_with fail
  clear q0 q1 q2 q3 q4 q5 q6 q7 q8 q9 q10 q11 q12 q13 q14 q15 q16 q17 q18 q19 q20
  with_reducible refine Calls.mono (HF2.out _ _ _ LB9.out R2.out) ?_
  rintro e w10 ⟨A3, c3, rfl, hh, hb⟩
  have LB10 := Lib.hid (LB9.out.trans (hb.mono LB9.out.size))
  have X1 := Lib.hid (X1.out.below hb X1.out.lt)
  have X2 := Lib.hid (X2.out.below hb X2.out.lt)
  have X3 := Lib.hid (X3.out.below hb X3.out.lt)
  have H1 := Lib.hid ((H1.out.below hb).more hb.size)
  have XG := Lib.hid (XG.out.below hb XG.out.lt)
  have R2 := Lib.hid (R2.out.below hb R2.out.lt)
  have XN := Lib.hid (XN.out.below hb XN.out.lt)
  have H3 := Lib.hid hh
  clear hb LB9 hh
  have hb := ((Below.refl w10.heap.size w10).alloc (by simp; try omega) (.cells #[.int .i64 (P : Nat), .int .i64 (Qq : Nat), .slice A3 N c3] 24))
  have LB11 := Lib.hid (LB10.out.trans (hb.mono LB10.out.size))
  have X1 := Lib.hid (X1.out.below hb X1.out.lt)
  have X2 := Lib.hid (X2.out.below hb X2.out.lt)
  have X3 := Lib.hid (X3.out.below hb X3.out.lt)
  have H1 := Lib.hid ((H1.out.below hb).more hb.size)
  have XG := Lib.hid (XG.out.below hb XG.out.lt)
  have R2 := Lib.hid (R2.out.below hb R2.out.lt)
  have XN := Lib.hid (XN.out.below hb XN.out.lt)
  have H3 := Lib.hid ((H3.out.below hb).more hb.size)
  have XF := Box.new w10 (P : Nat) (Qq : Nat) (.slice A3 N c3)
  have XF := Lib.hid XF
  clear hb LB10
  go_upto_region 11 with (fail)
  obtain ⟨fb, hfb⟩ : ∃ z, w10.heap.size = z := ⟨_, rfl⟩
  rw [hfb] at XF
  try rw [hfb]
  clear hfb
  generalize w10.alloc (.cells #[.int .i64 (P : Nat), .int .i64 (Qq : Nat), .slice A3 N c3] 24) = w11 at *
  obtain ⟨q0, q1, q2, q3, q4, q5, q6⟩ := XF.out.all
  obtain ⟨q7, q8, q9, q10, q11, q12, q13⟩ := XG.out.all
  go_wp2_with fail
  clear q0 q1 q2 q3 q4 q5 q6 q7 q8 q9 q10 q11 q12 q13
  with_reducible refine Calls.mono (HS1.out _ _ _ _ _ H3.out H1.out) ?_
  rintro e w12 ⟨rfl, hb⟩
  have LB12 := Lib.hid (LB11.out.trans (hb.mono LB11.out.size))
  have X1 := Lib.hid (X1.out.below hb X1.out.lt)
  have X2 := Lib.hid (X2.out.below hb X2.out.lt)
  have X3 := Lib.hid (X3.out.below hb X3.out.lt)
  have H1 := Lib.hid ((H1.out.below hb).more hb.size)
  have XG := Lib.hid (XG.out.below hb XG.out.lt)
  have R2 := Lib.hid (R2.out.below hb R2.out.lt)
  have XN := Lib.hid (XN.out.below hb XN.out.lt)
  have H3 := Lib.hid ((H3.out.below hb).more hb.size)
  have XF := Lib.hid (XF.out.below hb XF.out.lt)
  clear hb LB11 
  clear R2 XN H3 XF
  obtain ⟨q0, q1, q2, q3, q4, q5, q6⟩ := XG.out.all
  obtain ⟨q7, q8, q9, q10, q11, q12, q13⟩ := X2.out.all
  obtain ⟨q14, q15, q16, q17, q18, q19, q20⟩ := X3.out.all
  go_wp2_with fail
  clear q0 q1 q2 q3 q4 q5 q6 q7 q8 q9 q10 q11 q12 q13 q14 q15 q16 q17 q18 q19 q20
  with_reducible refine Calls.mono (HPR.out _ _ _ LB12.out H1.out) ?_
  rintro e w13 ⟨A4, c4, rfl, _, hb⟩
  have LB13 := Lib.hid (LB12.out.trans (hb.mono LB12.out.size))
  have X1 := Lib.hid (X1.out.below hb X1.out.lt)
  have X2 := Lib.hid (X2.out.below hb X2.out.lt)
  have X3 := Lib.hid (X3.out.below hb X3.out.lt)
  have H1 := Lib.hid ((H1.out.below hb).more hb.size)
  have XG := Lib.hid (XG.out.below hb XG.out.lt)
  clear hb LB12 
  have hb := ((Below.refl w13.heap.size w13).alloc (by simp; try omega) (.cells #[.int .i64 0, .int .i64 0, .slice A4 0 c4] 24))
  have LB14 := Lib.hid (LB13.out.trans (hb.mono LB13.out.size))
  have X1 := Lib.hid (X1.out.below hb X1.out.lt)
  have X2 := Lib.hid (X2.out.below hb X2.out.lt)
  have X3 := Lib.hid (X3.out.below hb X3.out.lt)
  have H1 := Lib.hid ((H1.out.below hb).more hb.size)
  have XG := Lib.hid (XG.out.below hb XG.out.lt)
  clear hb LB13
  go_upto_region 14 with (fail)
  generalize w13.alloc (.cells #[.int .i64 0, .int .i64 0, .slice A4 0 c4] 24) = w14 at *
  obtain ⟨q0, q1, q2, q3, q4, q5, q6⟩ := X2.out.all
  obtain ⟨q7, q8, q9, q10, q11, q12, q13⟩ := X3.out.all
  go_wp2_with fail
  clear q0 q1 q2 q3 q4 q5 q6 q7 q8 q9 q10 q11 q12 q13
  with_reducible refine Calls.mono (HSE.out _ LB14.out) ?_
  rintro e w15 ⟨rfl, hb⟩
  have LB15 := Lib.hid (LB14.out.trans (hb.mono LB14.out.size))
  have X1 := Lib.hid (X1.out.below hb X1.out.lt)
  have X2 := Lib.hid (X2.out.below hb X2.out.lt)
  have X3 := Lib.hid (X3.out.below hb X3.out.lt)
  have H1 := Lib.hid ((H1.out.below hb).more hb.size)
  have XG := Lib.hid (XG.out.below hb XG.out.lt)
  clear hb LB14 
  go_wp2
  go_ret
  exact ⟨rfl, LB15.out⟩
set_option maxHeartbeats 3200000 in
theorem back_ne (W H u v : Nat) (A B C : Option Addr) (c d e : Nat) (f a b : Nat → Bool) (w : World) (hf : Holds w w.heap.size A (W * H) f) (ha : Holds w w.heap.size B (u * v) a) (hb1 : Holds w w.heap.size C (u * v) b) (W0 : 1 ≤ W) (H0 : 1 ≤ H) (u0 : 1 ≤ u) (v0 : 1 ≤ v) (h6 : W * u ≤ 64) (h7 : H * v ≤ 64) (hs : ¬ ∀ j, j < u * v → a j = b j) : Calls Try.prog 14 #[.agg #[.int .i64 (W : Nat), .int .i64 (H : Nat), .slice A (W * H) c], .agg #[.int .i64 (u : Nat), .int .i64 (v : Nat), .slice B (u * v) d], .agg #[.int .i64 (u : Nat), .int .i64 (v : Nat), .slice C (u * v) e]] w fun e w' => e = .returned (.bool true) ∧ Below w.heap.size w w' := by
  have hW : W ≤ 64 := Nat.le_trans (Nat.le_mul_of_pos_right _ u0) h6
  have hH : H ≤ 64 := Nat.le_trans (Nat.le_mul_of_pos_right _ v0) h7
  have u1 : u ≤ 64 := Nat.le_trans (Nat.le_mul_of_pos_left _ W0) h6
  have v1 : v ≤ 64 := Nat.le_trans (Nat.le_mul_of_pos_left _ H0) h7
  have P0 : 1 ≤ W * u := Nat.mul_le_mul W0 u0
  have Q0 : 1 ≤ H * v := Nat.mul_le_mul H0 v0
  have n1 : W * u * (H * v) ≤ 64 * 64 := Nat.mul_le_mul h6 h7
  have n2 : u * v ≤ 64 * 64 := Nat.mul_le_mul u1 v1
  have n3 : W * H ≤ 64 * 64 := Nat.mul_le_mul hW hH
  have HFa := Lib.hid (fun z => fit_any (W : Nat) (H : Nat) A (W * H) c z)
  have HFb := Lib.hid (fun z => fit_any (u : Nat) (v : Nat) B (u * v) d z)
  have HFc := Lib.hid (fun z => fit_any (u : Nat) (v : Nat) C (u * v) e z)
  have HFg := Lib.hid (fun z A1 c1 => fit_any ((W * u : Nat) : Int) ((H * v : Nat) : Int) A1 (W * u * (H * v)) c1 z)
  rw [fitB_yes W0 hW H0 hH] at HFa
  rw [fitB_yes u0 u1 v0 v1] at HFb HFc
  rw [fitB_yes P0 h6 Q0 h7] at HFg
  have HFI := Lib.hid (fun z (hb : Below w.heap.size w z) => fill_ok (w := z) (c := c) (d := d) (e := e) W0 H0 ((hf.below hb).more hb.size) u0 v0 ((ha.below hb).more hb.size) ((hb1.below hb).more hb.size) h6 h7)
  have HNT := Lib.hid (fun z (hb : Below w.heap.size w z) => not_ok W H A c f z ((hf.below hb).more hb.size) W0 hW H0 hH)
  have HF2 := Lib.hid (fun z k c1 (hb : Below w.heap.size w z) (hr : Row z k (W * H) (fun i => !f i)) => fill_ok (w := z) (c := c1) (d := e) (e := d) W0 H0 (hr.holds hr.lt) u0 v0 ((hb1.below hb).more hb.size) ((ha.below hb).more hb.size) h6 h7)
  have HS1 := Lib.hid (fun z A1 A2 c1 c2 (h1 : Holds z z.heap.size A1 (W * u * (H * v)) (fil W u v (fun i => !f i) b a)) (h2 : Holds z z.heap.size A2 (W * u * (H * v)) (fil W u v f a b)) => rsame_t (W := ((W * u : Nat) : Int)) (H := ((H * v : Nat) : Int)) (c := c1) (d := c2) (show W * u * (H * v) ≤ 5000 by omega) fil_not z h1 h2)
  have HPR := Lib.hid (fun z A1 c1 (hb : Below w.heap.size w z) (h : Holds z z.heap.size A1 (W * u * (H * v)) (fil W u v f a b)) => prof_fil (c := c1) (d := d) (e := e) W0 H0 u0 v0 h6 h7 h ((ha.below hb).more hb.size) ((hb1.below hb).more hb.size) hs)
  have HSE := Lib.hid (fun z (hb : Below w.heap.size w z) => rsame_loop (u : Nat) (v : Nat) (u : Nat) (v : Nat) B C (u * v) d e a b z (show u * v ≤ 5000 by omega) rfl rfl ((ha.below hb).more hb.size) ((hb1.below hb).more hb.size))
  rw [decide_eq_false hs] at HSE
  have HSP := Lib.hid (fun z A1 c1 (hb : Below w.heap.size w z) (h : Holds z z.heap.size A1 (W * H) f) => rsame_t (W := (W : Nat)) (H := (H : Nat)) (c := c1) (d := c) (show W * H ≤ 5000 by omega) (fun _ _ => rfl) z h ((hf.below hb).more hb.size))
  have f1 := wrap_mul (a := W) (b := u) (by omega)
  have f2 := wrap_mul (a := H) (b := v) (by omega)
  obtain ⟨F1, hF1⟩ : ∃ z, fil W u v f a b = z := ⟨_, rfl⟩
  obtain ⟨F2, hF2⟩ : ∃ z, fil W u v (fun i => !f i) b a = z := ⟨_, rfl⟩
  simp only [hF1] at HFI HS1 HPR
  simp only [hF2] at HF2 HS1
  obtain ⟨P, hP⟩ : ∃ z, W * u = z := ⟨_, rfl⟩
  obtain ⟨Qq, hQ⟩ : ∃ z, H * v = z := ⟨_, rfl⟩
  simp only [hP, hQ] at HFI HS1 HPR HF2 HFg f1 f2
  obtain ⟨N, hN⟩ : ∃ z, P * Qq = z := ⟨_, rfl⟩
  simp only [hN] at HFI HS1 HPR HF2 HFg
  obtain ⟨M, hM⟩ : ∃ z, W * H = z := ⟨_, rfl⟩
  have HME := Lib.hid hM
  obtain ⟨mm, hmm⟩ : ∃ z, u * v = z := ⟨_, rfl⟩
  simp only [hM] at HFI HNT HF2 HFa HPR HSP ⊢
  simp only [hmm] at HFI HF2 HFb HFc HPR HSE ⊢
  have za : ((0 : Int) != 0) = false := rfl
  have zc : ((P : Int) != (P : Int)) = false := by simp
  have zd : ((Qq : Int) != (Qq : Int)) = false := by simp
  clear hf ha hb1 hs hF1 hF2 hP hQ hN hM hmm P0 Q0 n1 n2 n3 h6 h7
  have LB0 := Lib.hid (Below.refl w.heap.size w)
  have X1 := Lib.hid (Box.new w (W : Nat) (H : Nat) (.slice A M c))
  have LB0 := Lib.hid (LB0.out.alloc LB0.out.size (.cells #[.int .i64 (W : Nat), .int .i64 (H : Nat), .slice A M c] 24))
  have X1 := Lib.hid (X1.out.alloc (.cells #[.int .i64 (u : Nat), .int .i64 (v : Nat), .slice B mm d] 24))
  have X2 := Box.new (w.alloc (.cells #[.int .i64 (W : Nat), .int .i64 (H : Nat), .slice A M c] 24)) (u : Nat) (v : Nat) (.slice B mm d)
  rw [show ((w.alloc (.cells #[.int .i64 (W : Nat), .int .i64 (H : Nat), .slice A M c] 24))).heap.size = w.heap.size + 1 by simp] at X2
  have X2 := Lib.hid X2
  have LB0 := Lib.hid (LB0.out.alloc LB0.out.size (.cells #[.int .i64 (u : Nat), .int .i64 (v : Nat), .slice B mm d] 24))
  have X1 := Lib.hid (X1.out.alloc (.cells #[.int .i64 (u : Nat), .int .i64 (v : Nat), .slice C mm e] 24))
  have X2 := Lib.hid (X2.out.alloc (.cells #[.int .i64 (u : Nat), .int .i64 (v : Nat), .slice C mm e] 24))
  have X3 := Box.new ((w.alloc (.cells #[.int .i64 (W : Nat), .int .i64 (H : Nat), .slice A M c] 24)).alloc (.cells #[.int .i64 (u : Nat), .int .i64 (v : Nat), .slice B mm d] 24)) (u : Nat) (v : Nat) (.slice C mm e)
  rw [show (((w.alloc (.cells #[.int .i64 (W : Nat), .int .i64 (H : Nat), .slice A M c] 24)).alloc (.cells #[.int .i64 (u : Nat), .int .i64 (v : Nat), .slice B mm d] 24))).heap.size = w.heap.size + 2 by simp] at X3
  have X3 := Lib.hid X3
  have LB0 := Lib.hid (LB0.out.alloc LB0.out.size (.cells #[.int .i64 (u : Nat), .int .i64 (v : Nat), .slice C mm e] 24))
  go_enter Try.func14, Try.ntmps14
  go_upto_region 1 with (fail)
  generalize ((w.alloc (.cells #[.int .i64 (W : Nat), .int .i64 (H : Nat), .slice A M c] 24)).alloc (.cells #[.int .i64 (u : Nat), .int .i64 (v : Nat), .slice B mm d] 24)).alloc (.cells #[.int .i64 (u : Nat), .int .i64 (v : Nat), .slice C mm e] 24) = w0 at *
  go_wp2_with fail
  with_reducible refine Calls.mono (alive13_any _) ?_
  rintro e w1 ⟨rfl, hb⟩
  have LB1 := Lib.hid (LB0.out.trans (hb.mono LB0.out.size))
  have X1 := Lib.hid (X1.out.below hb X1.out.lt)
  have X2 := Lib.hid (X2.out.below hb X2.out.lt)
  have X3 := Lib.hid (X3.out.below hb X3.out.lt)
  clear hb LB0 
  obtain ⟨q0, q1, q2, q3, q4, q5, q6⟩ := X1.out.all
  go_wp2_with fail
  clear q0 q1 q2 q3 q4 q5 q6
  with_reducible refine Calls.mono (HFa.out _) ?_
  rintro e w2 ⟨rfl, hb⟩
  have LB2 := Lib.hid (LB1.out.trans (hb.mono LB1.out.size))
  have X1 := Lib.hid (X1.out.below hb X1.out.lt)
  have X2 := Lib.hid (X2.out.below hb X2.out.lt)
  have X3 := Lib.hid (X3.out.below hb X3.out.lt)
  clear hb LB1 
  obtain ⟨q0, q1, q2, q3, q4, q5, q6⟩ := X2.out.all
  go_wp2_with fail
  clear q0 q1 q2 q3 q4 q5 q6
  with_reducible refine Calls.mono (HFb.out _) ?_
  rintro e w3 ⟨rfl, hb⟩
  have LB3 := Lib.hid (LB2.out.trans (hb.mono LB2.out.size))
  have X1 := Lib.hid (X1.out.below hb X1.out.lt)
  have X2 := Lib.hid (X2.out.below hb X2.out.lt)
  have X3 := Lib.hid (X3.out.below hb X3.out.lt)
  clear hb LB2 
  obtain ⟨q0, q1, q2, q3, q4, q5, q6⟩ := X3.out.all
  go_wp2_with fail
  clear q0 q1 q2 q3 q4 q5 q6
  with_reducible refine Calls.mono (HFc.out _) ?_
  rintro e w4 ⟨rfl, hb⟩
  have LB4 := Lib.hid (LB3.out.trans (hb.mono LB3.out.size))
  have X1 := Lib.hid (X1.out.below hb X1.out.lt)
  have X2 := Lib.hid (X2.out.below hb X2.out.lt)
  have X3 := Lib.hid (X3.out.below hb X3.out.lt)
  clear hb LB3 
  obtain ⟨q0, q1, q2, q3, q4, q5, q6⟩ := X1.out.all
  obtain ⟨q7, q8, q9, q10, q11, q12, q13⟩ := X2.out.all
  obtain ⟨q14, q15, q16, q17, q18, q19, q20⟩ := X3.out.all
  go_wp2_with fail
  clear q0 q1 q2 q3 q4 q5 q6 q7 q8 q9 q10 q11 q12 q13 q14 q15 q16 q17 q18 q19 q20
  with_reducible refine Calls.mono (HFI.out _ LB4.out) ?_
  rintro e w5 ⟨A1, c1, rfl, hh, hb⟩
  have LB5 := Lib.hid (LB4.out.trans (hb.mono LB4.out.size))
  have X1 := Lib.hid (X1.out.below hb X1.out.lt)
  have X2 := Lib.hid (X2.out.below hb X2.out.lt)
  have X3 := Lib.hid (X3.out.below hb X3.out.lt)
  have H1 := Lib.hid hh
  clear hb LB4 hh
  have hb := ((Below.refl w5.heap.size w5).alloc (by simp; try omega) (.cells #[.int .i64 (P : Nat), .int .i64 (Qq : Nat), .slice A1 N c1] 24))
  have LB6 := Lib.hid (LB5.out.trans (hb.mono LB5.out.size))
  have X1 := Lib.hid (X1.out.below hb X1.out.lt)
  have X2 := Lib.hid (X2.out.below hb X2.out.lt)
  have X3 := Lib.hid (X3.out.below hb X3.out.lt)
  have H1 := Lib.hid ((H1.out.below hb).more hb.size)
  have XG := Box.new w5 (P : Nat) (Qq : Nat) (.slice A1 N c1)
  have XG := Lib.hid XG
  clear hb LB5
  go_upto_region 5 with (fail)
  obtain ⟨gb, hgb⟩ : ∃ z, w5.heap.size = z := ⟨_, rfl⟩
  rw [hgb] at XG
  try rw [hgb]
  clear hgb
  generalize w5.alloc (.cells #[.int .i64 (P : Nat), .int .i64 (Qq : Nat), .slice A1 N c1] 24) = w6 at *
  obtain ⟨q0, q1, q2, q3, q4, q5, q6⟩ := XG.out.all
  go_wp2_with fail
  clear q0 q1 q2 q3 q4 q5 q6
  with_reducible refine Calls.mono (HFg.out _ _ _) ?_
  rintro e w7 ⟨rfl, hb⟩
  have LB7 := Lib.hid (LB6.out.trans (hb.mono LB6.out.size))
  have X1 := Lib.hid (X1.out.below hb X1.out.lt)
  have X2 := Lib.hid (X2.out.below hb X2.out.lt)
  have X3 := Lib.hid (X3.out.below hb X3.out.lt)
  have H1 := Lib.hid ((H1.out.below hb).more hb.size)
  have XG := Lib.hid (XG.out.below hb XG.out.lt)
  clear hb LB6 
  obtain ⟨q0, q1, q2, q3, q4, q5, q6⟩ := XG.out.all
  obtain ⟨q7, q8, q9, q10, q11, q12, q13⟩ := X1.out.all
  obtain ⟨q14, q15, q16, q17, q18, q19, q20⟩ := X2.out.all
  go_upto_region 9 with (fail)
  clear q0 q1 q2 q3 q4 q5 q6 q7 q8 q9 q10 q11 q12 q13 q14 q15 q16 q17 q18 q19 q20
  obtain ⟨q0, q1, q2, q3, q4, q5, q6⟩ := X1.out.all
  go_wp2_with fail
  clear q0 q1 q2 q3 q4 q5 q6
  with_reducible refine Calls.mono (HNT.out _ LB7.out) ?_
  rintro e w8 ⟨k2, rfl, hk2, hrow, hb⟩
  rw [HME.out] at hrow ⊢
  have LB8 := Lib.hid (LB7.out.trans (hb.mono LB7.out.size))
  have X1 := Lib.hid (X1.out.below hb X1.out.lt)
  have X2 := Lib.hid (X2.out.below hb X2.out.lt)
  have X3 := Lib.hid (X3.out.below hb X3.out.lt)
  have H1 := Lib.hid ((H1.out.below hb).more hb.size)
  have XG := Lib.hid (XG.out.below hb XG.out.lt)
  have R2 := Lib.hid hrow
  clear hb LB7 hrow
  have hb := ((Below.refl w8.heap.size w8).alloc (by simp; try omega) (.cells #[.int .i64 (W : Nat), .int .i64 (H : Nat), .slice (some ⟨k2, 0, none⟩) M M] 24))
  have LB9 := Lib.hid (LB8.out.trans (hb.mono LB8.out.size))
  have X1 := Lib.hid (X1.out.below hb X1.out.lt)
  have X2 := Lib.hid (X2.out.below hb X2.out.lt)
  have X3 := Lib.hid (X3.out.below hb X3.out.lt)
  have H1 := Lib.hid ((H1.out.below hb).more hb.size)
  have XG := Lib.hid (XG.out.below hb XG.out.lt)
  have R2 := Lib.hid (R2.out.below hb R2.out.lt)
  have XN := Box.new w8 (W : Nat) (H : Nat) (.slice (some ⟨k2, 0, none⟩) M M)
  have XN := Lib.hid XN
  clear hb LB8
  go_upto_region 10 with (fail)
  obtain ⟨nb, hnb⟩ : ∃ z, w8.heap.size = z := ⟨_, rfl⟩
  rw [hnb] at XN
  try rw [hnb]
  clear hnb
  generalize w8.alloc (.cells #[.int .i64 (W : Nat), .int .i64 (H : Nat), .slice (some ⟨k2, 0, none⟩) M M] 24) = w9 at *
  obtain ⟨q0, q1, q2, q3, q4, q5, q6⟩ := XN.out.all
  obtain ⟨q7, q8, q9, q10, q11, q12, q13⟩ := X3.out.all
  obtain ⟨q14, q15, q16, q17, q18, q19, q20⟩ := X2.out.all
  go_wp2_with fail
  clear q0 q1 q2 q3 q4 q5 q6 q7 q8 q9 q10 q11 q12 q13 q14 q15 q16 q17 q18 q19 q20
  with_reducible refine Calls.mono (HF2.out _ _ _ LB9.out R2.out) ?_
  rintro e w10 ⟨A3, c3, rfl, hh, hb⟩
  have LB10 := Lib.hid (LB9.out.trans (hb.mono LB9.out.size))
  have X1 := Lib.hid (X1.out.below hb X1.out.lt)
  have X2 := Lib.hid (X2.out.below hb X2.out.lt)
  have X3 := Lib.hid (X3.out.below hb X3.out.lt)
  have H1 := Lib.hid ((H1.out.below hb).more hb.size)
  have XG := Lib.hid (XG.out.below hb XG.out.lt)
  have R2 := Lib.hid (R2.out.below hb R2.out.lt)
  have XN := Lib.hid (XN.out.below hb XN.out.lt)
  have H3 := Lib.hid hh
  clear hb LB9 hh
  have hb := ((Below.refl w10.heap.size w10).alloc (by simp; try omega) (.cells #[.int .i64 (P : Nat), .int .i64 (Qq : Nat), .slice A3 N c3] 24))
  have LB11 := Lib.hid (LB10.out.trans (hb.mono LB10.out.size))
  have X1 := Lib.hid (X1.out.below hb X1.out.lt)
  have X2 := Lib.hid (X2.out.below hb X2.out.lt)
  have X3 := Lib.hid (X3.out.below hb X3.out.lt)
  have H1 := Lib.hid ((H1.out.below hb).more hb.size)
  have XG := Lib.hid (XG.out.below hb XG.out.lt)
  have R2 := Lib.hid (R2.out.below hb R2.out.lt)
  have XN := Lib.hid (XN.out.below hb XN.out.lt)
  have H3 := Lib.hid ((H3.out.below hb).more hb.size)
  have XF := Box.new w10 (P : Nat) (Qq : Nat) (.slice A3 N c3)
  have XF := Lib.hid XF
  clear hb LB10
  go_upto_region 11 with (fail)
  obtain ⟨fb, hfb⟩ : ∃ z, w10.heap.size = z := ⟨_, rfl⟩
  rw [hfb] at XF
  try rw [hfb]
  clear hfb
  generalize w10.alloc (.cells #[.int .i64 (P : Nat), .int .i64 (Qq : Nat), .slice A3 N c3] 24) = w11 at *
  obtain ⟨q0, q1, q2, q3, q4, q5, q6⟩ := XF.out.all
  obtain ⟨q7, q8, q9, q10, q11, q12, q13⟩ := XG.out.all
  go_wp2_with fail
  clear q0 q1 q2 q3 q4 q5 q6 q7 q8 q9 q10 q11 q12 q13
  with_reducible refine Calls.mono (HS1.out _ _ _ _ _ H3.out H1.out) ?_
  rintro e w12 ⟨rfl, hb⟩
  have LB12 := Lib.hid (LB11.out.trans (hb.mono LB11.out.size))
  have X1 := Lib.hid (X1.out.below hb X1.out.lt)
  have X2 := Lib.hid (X2.out.below hb X2.out.lt)
  have X3 := Lib.hid (X3.out.below hb X3.out.lt)
  have H1 := Lib.hid ((H1.out.below hb).more hb.size)
  have XG := Lib.hid (XG.out.below hb XG.out.lt)
  have R2 := Lib.hid (R2.out.below hb R2.out.lt)
  have XN := Lib.hid (XN.out.below hb XN.out.lt)
  have H3 := Lib.hid ((H3.out.below hb).more hb.size)
  have XF := Lib.hid (XF.out.below hb XF.out.lt)
  clear hb LB11 
  clear R2 XN H3 XF
  obtain ⟨q0, q1, q2, q3, q4, q5, q6⟩ := XG.out.all
  obtain ⟨q7, q8, q9, q10, q11, q12, q13⟩ := X2.out.all
  obtain ⟨q14, q15, q16, q17, q18, q19, q20⟩ := X3.out.all
  go_wp2_with fail
  clear q0 q1 q2 q3 q4 q5 q6 q7 q8 q9 q10 q11 q12 q13 q14 q15 q16 q17 q18 q19 q20
  with_reducible refine Calls.mono (HPR.out _ _ _ LB12.out H1.out) ?_
  rintro e w13 ⟨A4, c4, rfl, hh, hb⟩
  have LB13 := Lib.hid (LB12.out.trans (hb.mono LB12.out.size))
  have X1 := Lib.hid (X1.out.below hb X1.out.lt)
  have X2 := Lib.hid (X2.out.below hb X2.out.lt)
  have X3 := Lib.hid (X3.out.below hb X3.out.lt)
  have H1 := Lib.hid ((H1.out.below hb).more hb.size)
  have XG := Lib.hid (XG.out.below hb XG.out.lt)
  have H4 := Lib.hid hh
  clear hb LB12 hh
  have hb := ((Below.refl w13.heap.size w13).alloc (by simp; try omega) (.cells #[.int .i64 (W : Nat), .int .i64 (H : Nat), .slice A4 M c4] 24))
  have LB14 := Lib.hid (LB13.out.trans (hb.mono LB13.out.size))
  have X1 := Lib.hid (X1.out.below hb X1.out.lt)
  have X2 := Lib.hid (X2.out.below hb X2.out.lt)
  have X3 := Lib.hid (X3.out.below hb X3.out.lt)
  have H1 := Lib.hid ((H1.out.below hb).more hb.size)
  have XG := Lib.hid (XG.out.below hb XG.out.lt)
  have H4 := Lib.hid ((H4.out.below hb).more hb.size)
  have XQ := Box.new w13 (W : Nat) (H : Nat) (.slice A4 M c4)
  have XQ := Lib.hid XQ
  clear hb LB13
  go_upto_region 14 with (fail)
  obtain ⟨qb, hqb⟩ : ∃ z, w13.heap.size = z := ⟨_, rfl⟩
  rw [hqb] at XQ
  try rw [hqb]
  clear hqb
  generalize w13.alloc (.cells #[.int .i64 (W : Nat), .int .i64 (H : Nat), .slice A4 M c4] 24) = w14 at *
  obtain ⟨q0, q1, q2, q3, q4, q5, q6⟩ := X2.out.all
  obtain ⟨q7, q8, q9, q10, q11, q12, q13⟩ := X3.out.all
  go_wp2_with fail
  clear q0 q1 q2 q3 q4 q5 q6 q7 q8 q9 q10 q11 q12 q13
  with_reducible refine Calls.mono (HSE.out _ LB14.out) ?_
  rintro e w15 ⟨rfl, hb⟩
  have LB15 := Lib.hid (LB14.out.trans (hb.mono LB14.out.size))
  have X1 := Lib.hid (X1.out.below hb X1.out.lt)
  have X2 := Lib.hid (X2.out.below hb X2.out.lt)
  have X3 := Lib.hid (X3.out.below hb X3.out.lt)
  have H1 := Lib.hid ((H1.out.below hb).more hb.size)
  have XG := Lib.hid (XG.out.below hb XG.out.lt)
  have H4 := Lib.hid ((H4.out.below hb).more hb.size)
  have XQ := Lib.hid (XQ.out.below hb XQ.out.lt)
  clear hb LB14 
  obtain ⟨q0, q1, q2, q3, q4, q5, q6⟩ := XQ.out.all
  obtain ⟨q7, q8, q9, q10, q11, q12, q13⟩ := X1.out.all
  go_wp2_with fail
  clear q0 q1 q2 q3 q4 q5 q6 q7 q8 q9 q10 q11 q12 q13
  with_reducible refine Calls.mono (HSP.out _ _ _ LB15.out H4.out) ?_
  rintro e w16 ⟨rfl, hb⟩
  have LB16 := Lib.hid (LB15.out.trans (hb.mono LB15.out.size))
  have X1 := Lib.hid (X1.out.below hb X1.out.lt)
  have X2 := Lib.hid (X2.out.below hb X2.out.lt)
  have X3 := Lib.hid (X3.out.below hb X3.out.lt)
  have H1 := Lib.hid ((H1.out.below hb).more hb.size)
  have XG := Lib.hid (XG.out.below hb XG.out.lt)
  have H4 := Lib.hid ((H4.out.below hb).more hb.size)
  have XQ := Lib.hid (XQ.out.below hb XQ.out.lt)
  clear hb LB15 
  go_wp2
  go_ret
  exact ⟨rfl, LB16.out⟩
theorem back13_any (W H X Y U V : Int) (A B C : Option Addr) (n c m d k e : Nat) (f a b : Nat → Bool) (w : World) (hf : Holds w w.heap.size A n f) (ha : Holds w w.heap.size B m a) (hb : Holds w w.heap.size C k b) : Calls Try.prog 14 #[.agg #[.int .i64 W, .int .i64 H, .slice A n c], .agg #[.int .i64 X, .int .i64 Y, .slice B m d], .agg #[.int .i64 U, .int .i64 V, .slice C k e]] w fun e w' => e = .returned (.bool true) ∧ Below w.heap.size w w' := by
  cases h0 : fitB W H n
  · exact back_nf0 W H X Y U V A B C n c m d k e w h0
  cases h1 : fitB X Y m
  · exact back_nf1 W H X Y U V A B C n c m d k e w h0 h1
  cases h2 : fitB U V k
  · exact back_nf2 W H X Y U V A B C n c m d k e w h0 h1 h2
  obtain ⟨P, Q, rfl, rfl, rfl, p0, p1, q0, q1⟩ := fitB_nat h0
  obtain ⟨u, v, rfl, rfl, rfl, u0, u1, v0, v1⟩ := fitB_nat h1
  obtain ⟨u', v', rfl, rfl, rfl, x0, x1, z0, z1⟩ := fitB_nat h2
  by_cases hs : u' = u ∧ v' = v
  · obtain ⟨rfl, rfl⟩ := hs
    by_cases h6 : P * u' ≤ 64 ∧ Q * v' ≤ 64
    · by_cases he : ∀ j, j < u' * v' → a j = b j
      · exact back_eq P Q u' v' A B C c d e f a b w hf ha hb p0 q0 u0 v0 h6.1 h6.2 he
      · exact back_ne P Q u' v' A B C c d e f a b w hf ha hb p0 q0 u0 v0 h6.1 h6.2 he
    · exact back_bad _ _ _ _ _ _ A B C _ c _ d _ e w h0 h1 h2 4 (.inr rfl) fun z hz => fill_many p0 p1 q0 q1 ((hf.below hz).more hz.size) u0 u1 v0 v1 ((ha.below hz).more hz.size) ((hb.below hz).more hz.size) _ h6
  · exact back_bad _ _ _ _ _ _ A B C _ c _ d _ e w h0 h1 h2 26 (.inl rfl) fun z hz => fill_cnt p0 p1 q0 q1 ((hf.below hz).more hz.size) u0 u1 v0 v1 x0 x1 z0 z1 ((ha.below hz).more hz.size) ((hb.below hz).more hz.size) _ hs
end Go.Proofs.Ytngjcekjboedjaa
