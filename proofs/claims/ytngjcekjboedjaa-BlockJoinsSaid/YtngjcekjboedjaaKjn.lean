/- BlockJoins: the walk. -/
import Derived.Test.YtngjcekjboedjaaKja
import Derived.StillTailTactics
import Derived.Deep.RegionHeld3
import Derived.Deep.DeepCutAuto
import Derived.BigQuiet
namespace Go.Proofs.Ytngjcekjboedjaa
open Go.RowKit
set_option maxRecDepth 100000
set_option linter.unusedVariables false
set_option linter.unusedSimpArgs false

set_option maxHeartbeats 800000 in
theorem joins_nf0 (W H X Y U V : Int) (A B C : Option Addr) (n c m d k e : Nat) (x y : Int) (w : World) (h0 : fitB W H n = false) : Calls Try.prog 15 #[.agg #[.int .i64 W, .int .i64 H, .slice A n c], .int .i64 x, .int .i64 y, .agg #[.int .i64 X, .int .i64 Y, .slice B m d], .agg #[.int .i64 U, .int .i64 V, .slice C k e]] w fun e w' => e = .returned (.bool true) ∧ Below w.heap.size w w' := by
  have HF0 := Lib.hid (fun u => fit_any W H A n c u)
  simp only [h0] at HF0
  clear h0
  have LB0 := Lib.hid (Below.refl w.heap.size w)
  have X1 := Lib.hid (Box.new w W H (.slice A n c))
  have LB0 := Lib.hid (LB0.out.alloc LB0.out.size (.cells #[.int .i64 W, .int .i64 H, .slice A n c] 24))
  have X1 := Lib.hid (X1.out.alloc (.cells #[.int .i64 X, .int .i64 Y, .slice B m d] 24))
  have X2 := Box.new (w.alloc (.cells #[.int .i64 W, .int .i64 H, .slice A n c] 24)) X Y (.slice B m d)
  rw [show ((w.alloc (.cells #[.int .i64 W, .int .i64 H, .slice A n c] 24))).heap.size = w.heap.size + 1 by simp] at X2
  have X2 := Lib.hid X2
  have LB0 := Lib.hid (LB0.out.alloc LB0.out.size (.cells #[.int .i64 X, .int .i64 Y, .slice B m d] 24))
  have X1 := Lib.hid (X1.out.alloc (.cells #[.int .i64 U, .int .i64 V, .slice C k e] 24))
  have X2 := Lib.hid (X2.out.alloc (.cells #[.int .i64 U, .int .i64 V, .slice C k e] 24))
  have X3 := Box.new ((w.alloc (.cells #[.int .i64 W, .int .i64 H, .slice A n c] 24)).alloc (.cells #[.int .i64 X, .int .i64 Y, .slice B m d] 24)) U V (.slice C k e)
  rw [show (((w.alloc (.cells #[.int .i64 W, .int .i64 H, .slice A n c] 24)).alloc (.cells #[.int .i64 X, .int .i64 Y, .slice B m d] 24))).heap.size = w.heap.size + 2 by simp] at X3
  have X3 := Lib.hid X3
  have LB0 := Lib.hid (LB0.out.alloc LB0.out.size (.cells #[.int .i64 U, .int .i64 V, .slice C k e] 24))
  go_enter Try.func15, Try.ntmps15
  go_upto_region 1 with (fail)
  generalize ((w.alloc (.cells #[.int .i64 W, .int .i64 H, .slice A n c] 24)).alloc (.cells #[.int .i64 X, .int .i64 Y, .slice B m d] 24)).alloc (.cells #[.int .i64 U, .int .i64 V, .slice C k e] 24) = w0 at *
  go_wp2_with fail
  with_reducible refine Calls.mono (alive13_any _) ?_
  rintro e w1 ⟨rfl, hb⟩
  have LB1 := Lib.hid (LB0.out.trans (hb.mono LB0.out.size))
  have X1 := Lib.hid (X1.out.below hb X1.out.lt)
  have X2 := Lib.hid (X2.out.below hb X2.out.lt)
  have X3 := Lib.hid (X3.out.below hb X3.out.lt)
  clear hb LB0 
  obtain ⟨q0, q1, q2, q3, q4, q5, q6⟩ := X1.out.all
  go_wp2_with fail
  clear q0 q1 q2 q3 q4 q5 q6
  with_reducible refine Calls.mono (HF0.out _) ?_
  rintro e w2 ⟨rfl, hb⟩
  have LB2 := Lib.hid (LB1.out.trans (hb.mono LB1.out.size))
  have X1 := Lib.hid (X1.out.below hb X1.out.lt)
  have X2 := Lib.hid (X2.out.below hb X2.out.lt)
  have X3 := Lib.hid (X3.out.below hb X3.out.lt)
  clear hb LB1 
  go_wp2
  go_ret
  exact ⟨rfl, LB2.out⟩
set_option maxHeartbeats 800000 in
theorem joins_nf1 (W H X Y U V : Int) (A B C : Option Addr) (n c m d k e : Nat) (x y : Int) (w : World) (h0 : fitB W H n = true) (h1 : fitB X Y m = false) : Calls Try.prog 15 #[.agg #[.int .i64 W, .int .i64 H, .slice A n c], .int .i64 x, .int .i64 y, .agg #[.int .i64 X, .int .i64 Y, .slice B m d], .agg #[.int .i64 U, .int .i64 V, .slice C k e]] w fun e w' => e = .returned (.bool true) ∧ Below w.heap.size w w' := by
  have HF0 := Lib.hid (fun u => fit_any W H A n c u)
  simp only [h0] at HF0
  have HF1 := Lib.hid (fun u => fit_any X Y B m d u)
  simp only [h1] at HF1
  clear h0 h1
  have LB0 := Lib.hid (Below.refl w.heap.size w)
  have X1 := Lib.hid (Box.new w W H (.slice A n c))
  have LB0 := Lib.hid (LB0.out.alloc LB0.out.size (.cells #[.int .i64 W, .int .i64 H, .slice A n c] 24))
  have X1 := Lib.hid (X1.out.alloc (.cells #[.int .i64 X, .int .i64 Y, .slice B m d] 24))
  have X2 := Box.new (w.alloc (.cells #[.int .i64 W, .int .i64 H, .slice A n c] 24)) X Y (.slice B m d)
  rw [show ((w.alloc (.cells #[.int .i64 W, .int .i64 H, .slice A n c] 24))).heap.size = w.heap.size + 1 by simp] at X2
  have X2 := Lib.hid X2
  have LB0 := Lib.hid (LB0.out.alloc LB0.out.size (.cells #[.int .i64 X, .int .i64 Y, .slice B m d] 24))
  have X1 := Lib.hid (X1.out.alloc (.cells #[.int .i64 U, .int .i64 V, .slice C k e] 24))
  have X2 := Lib.hid (X2.out.alloc (.cells #[.int .i64 U, .int .i64 V, .slice C k e] 24))
  have X3 := Box.new ((w.alloc (.cells #[.int .i64 W, .int .i64 H, .slice A n c] 24)).alloc (.cells #[.int .i64 X, .int .i64 Y, .slice B m d] 24)) U V (.slice C k e)
  rw [show (((w.alloc (.cells #[.int .i64 W, .int .i64 H, .slice A n c] 24)).alloc (.cells #[.int .i64 X, .int .i64 Y, .slice B m d] 24))).heap.size = w.heap.size + 2 by simp] at X3
  have X3 := Lib.hid X3
  have LB0 := Lib.hid (LB0.out.alloc LB0.out.size (.cells #[.int .i64 U, .int .i64 V, .slice C k e] 24))
  go_enter Try.func15, Try.ntmps15
  go_upto_region 1 with (fail)
  generalize ((w.alloc (.cells #[.int .i64 W, .int .i64 H, .slice A n c] 24)).alloc (.cells #[.int .i64 X, .int .i64 Y, .slice B m d] 24)).alloc (.cells #[.int .i64 U, .int .i64 V, .slice C k e] 24) = w0 at *
  go_wp2_with fail
  with_reducible refine Calls.mono (alive13_any _) ?_
  rintro e w1 ⟨rfl, hb⟩
  have LB1 := Lib.hid (LB0.out.trans (hb.mono LB0.out.size))
  have X1 := Lib.hid (X1.out.below hb X1.out.lt)
  have X2 := Lib.hid (X2.out.below hb X2.out.lt)
  have X3 := Lib.hid (X3.out.below hb X3.out.lt)
  clear hb LB0 
  obtain ⟨q0, q1, q2, q3, q4, q5, q6⟩ := X1.out.all
  go_wp2_with fail
  clear q0 q1 q2 q3 q4 q5 q6
  with_reducible refine Calls.mono (HF0.out _) ?_
  rintro e w2 ⟨rfl, hb⟩
  have LB2 := Lib.hid (LB1.out.trans (hb.mono LB1.out.size))
  have X1 := Lib.hid (X1.out.below hb X1.out.lt)
  have X2 := Lib.hid (X2.out.below hb X2.out.lt)
  have X3 := Lib.hid (X3.out.below hb X3.out.lt)
  clear hb LB1 
  obtain ⟨q0, q1, q2, q3, q4, q5, q6⟩ := X2.out.all
  go_wp2_with fail
  clear q0 q1 q2 q3 q4 q5 q6
  with_reducible refine Calls.mono (HF1.out _) ?_
  rintro e w3 ⟨rfl, hb⟩
  have LB3 := Lib.hid (LB2.out.trans (hb.mono LB2.out.size))
  have X1 := Lib.hid (X1.out.below hb X1.out.lt)
  have X2 := Lib.hid (X2.out.below hb X2.out.lt)
  have X3 := Lib.hid (X3.out.below hb X3.out.lt)
  clear hb LB2 
  go_wp2
  go_ret
  exact ⟨rfl, LB3.out⟩
set_option maxHeartbeats 800000 in
theorem joins_nf2 (W H X Y U V : Int) (A B C : Option Addr) (n c m d k e : Nat) (x y : Int) (w : World) (h0 : fitB W H n = true) (h1 : fitB X Y m = true) (h2 : fitB U V k = false) : Calls Try.prog 15 #[.agg #[.int .i64 W, .int .i64 H, .slice A n c], .int .i64 x, .int .i64 y, .agg #[.int .i64 X, .int .i64 Y, .slice B m d], .agg #[.int .i64 U, .int .i64 V, .slice C k e]] w fun e w' => e = .returned (.bool true) ∧ Below w.heap.size w w' := by
  have HF0 := Lib.hid (fun u => fit_any W H A n c u)
  simp only [h0] at HF0
  have HF1 := Lib.hid (fun u => fit_any X Y B m d u)
  simp only [h1] at HF1
  have HF2 := Lib.hid (fun u => fit_any U V C k e u)
  simp only [h2] at HF2
  clear h0 h1 h2
  have LB0 := Lib.hid (Below.refl w.heap.size w)
  have X1 := Lib.hid (Box.new w W H (.slice A n c))
  have LB0 := Lib.hid (LB0.out.alloc LB0.out.size (.cells #[.int .i64 W, .int .i64 H, .slice A n c] 24))
  have X1 := Lib.hid (X1.out.alloc (.cells #[.int .i64 X, .int .i64 Y, .slice B m d] 24))
  have X2 := Box.new (w.alloc (.cells #[.int .i64 W, .int .i64 H, .slice A n c] 24)) X Y (.slice B m d)
  rw [show ((w.alloc (.cells #[.int .i64 W, .int .i64 H, .slice A n c] 24))).heap.size = w.heap.size + 1 by simp] at X2
  have X2 := Lib.hid X2
  have LB0 := Lib.hid (LB0.out.alloc LB0.out.size (.cells #[.int .i64 X, .int .i64 Y, .slice B m d] 24))
  have X1 := Lib.hid (X1.out.alloc (.cells #[.int .i64 U, .int .i64 V, .slice C k e] 24))
  have X2 := Lib.hid (X2.out.alloc (.cells #[.int .i64 U, .int .i64 V, .slice C k e] 24))
  have X3 := Box.new ((w.alloc (.cells #[.int .i64 W, .int .i64 H, .slice A n c] 24)).alloc (.cells #[.int .i64 X, .int .i64 Y, .slice B m d] 24)) U V (.slice C k e)
  rw [show (((w.alloc (.cells #[.int .i64 W, .int .i64 H, .slice A n c] 24)).alloc (.cells #[.int .i64 X, .int .i64 Y, .slice B m d] 24))).heap.size = w.heap.size + 2 by simp] at X3
  have X3 := Lib.hid X3
  have LB0 := Lib.hid (LB0.out.alloc LB0.out.size (.cells #[.int .i64 U, .int .i64 V, .slice C k e] 24))
  go_enter Try.func15, Try.ntmps15
  go_upto_region 1 with (fail)
  generalize ((w.alloc (.cells #[.int .i64 W, .int .i64 H, .slice A n c] 24)).alloc (.cells #[.int .i64 X, .int .i64 Y, .slice B m d] 24)).alloc (.cells #[.int .i64 U, .int .i64 V, .slice C k e] 24) = w0 at *
  go_wp2_with fail
  with_reducible refine Calls.mono (alive13_any _) ?_
  rintro e w1 ⟨rfl, hb⟩
  have LB1 := Lib.hid (LB0.out.trans (hb.mono LB0.out.size))
  have X1 := Lib.hid (X1.out.below hb X1.out.lt)
  have X2 := Lib.hid (X2.out.below hb X2.out.lt)
  have X3 := Lib.hid (X3.out.below hb X3.out.lt)
  clear hb LB0 
  obtain ⟨q0, q1, q2, q3, q4, q5, q6⟩ := X1.out.all
  go_wp2_with fail
  clear q0 q1 q2 q3 q4 q5 q6
  with_reducible refine Calls.mono (HF0.out _) ?_
  rintro e w2 ⟨rfl, hb⟩
  have LB2 := Lib.hid (LB1.out.trans (hb.mono LB1.out.size))
  have X1 := Lib.hid (X1.out.below hb X1.out.lt)
  have X2 := Lib.hid (X2.out.below hb X2.out.lt)
  have X3 := Lib.hid (X3.out.below hb X3.out.lt)
  clear hb LB1 
  obtain ⟨q0, q1, q2, q3, q4, q5, q6⟩ := X2.out.all
  go_wp2_with fail
  clear q0 q1 q2 q3 q4 q5 q6
  with_reducible refine Calls.mono (HF1.out _) ?_
  rintro e w3 ⟨rfl, hb⟩
  have LB3 := Lib.hid (LB2.out.trans (hb.mono LB2.out.size))
  have X1 := Lib.hid (X1.out.below hb X1.out.lt)
  have X2 := Lib.hid (X2.out.below hb X2.out.lt)
  have X3 := Lib.hid (X3.out.below hb X3.out.lt)
  clear hb LB2 
  obtain ⟨q0, q1, q2, q3, q4, q5, q6⟩ := X3.out.all
  go_wp2_with fail
  clear q0 q1 q2 q3 q4 q5 q6
  with_reducible refine Calls.mono (HF2.out _) ?_
  rintro e w4 ⟨rfl, hb⟩
  have LB4 := Lib.hid (LB3.out.trans (hb.mono LB3.out.size))
  have X1 := Lib.hid (X1.out.below hb X1.out.lt)
  have X2 := Lib.hid (X2.out.below hb X2.out.lt)
  have X3 := Lib.hid (X3.out.below hb X3.out.lt)
  clear hb LB3 
  go_wp2
  go_ret
  exact ⟨rfl, LB4.out⟩
set_option maxHeartbeats 6400000 in
theorem joins_e1 (W H X Y U V x y : Int) (A B C : Option Addr) (n c m d k e : Nat) (g : Nat → Bool) (w : World) (hg : Holds w w.heap.size A n g) (hn : n ≤ 5000) (h0 : fitB W H n = true) (h1 : fitB X Y m = true) (h2 : fitB U V k = true) (z : Int) (hz : z ≠ 0) (hP : ∀ u, Below w.heap.size w u → Calls Try.prog 47 #[.agg #[.int .i64 W, .int .i64 H, .slice A n c], .agg #[.int .i64 X, .int .i64 Y, .slice B m d], .agg #[.int .i64 U, .int .i64 V, .slice C k e]] u (RG u 0 0 0 (fun _ => false) z)) (hU : ∀ u, Below w.heap.size w u → Calls Try.prog 51 #[.agg #[.int .i64 W, .int .i64 H, .slice A n c], .int .i64 x, .int .i64 y] u (UR u 1 1 0 (fun _ _ => false) 0 0 (fun _ => 0) 26)) : Calls Try.prog 15 #[.agg #[.int .i64 W, .int .i64 H, .slice A n c], .int .i64 x, .int .i64 y, .agg #[.int .i64 X, .int .i64 Y, .slice B m d], .agg #[.int .i64 U, .int .i64 V, .slice C k e]] w fun e w' => e = .returned (.bool true) ∧ Below w.heap.size w w' := by
  have HF0 := Lib.hid (fun u => fit_any W H A n c u)
  simp only [h0] at HF0
  have HF1 := Lib.hid (fun u => fit_any X Y B m d u)
  simp only [h1] at HF1
  have HF2 := Lib.hid (fun u => fit_any U V C k e u)
  simp only [h2] at HF2
  have HPR := Lib.hid hP
  have HUN := Lib.hid hU
  have HSB := Lib.hid (fun z A1 c1 (hb : Below w.heap.size w z) (h : Holds z z.heap.size A1 n g) => rsame_t (W := W) (H := H) (c := c1) (d := c) hn (fun _ _ => rfl) z h ((hg.below hb).more hb.size))
  have y1 : (z == 0) = false := by rw [beq_eq_false_iff_ne]; exact hz
  clear h0 h1 h2 hP hU hg hz 
  have LB0 := Lib.hid (Below.refl w.heap.size w)
  have X1 := Lib.hid (Box.new w W H (.slice A n c))
  have LB0 := Lib.hid (LB0.out.alloc LB0.out.size (.cells #[.int .i64 W, .int .i64 H, .slice A n c] 24))
  have X1 := Lib.hid (X1.out.alloc (.cells #[.int .i64 X, .int .i64 Y, .slice B m d] 24))
  have X2 := Box.new (w.alloc (.cells #[.int .i64 W, .int .i64 H, .slice A n c] 24)) X Y (.slice B m d)
  rw [show ((w.alloc (.cells #[.int .i64 W, .int .i64 H, .slice A n c] 24))).heap.size = w.heap.size + 1 by simp] at X2
  have X2 := Lib.hid X2
  have LB0 := Lib.hid (LB0.out.alloc LB0.out.size (.cells #[.int .i64 X, .int .i64 Y, .slice B m d] 24))
  have X1 := Lib.hid (X1.out.alloc (.cells #[.int .i64 U, .int .i64 V, .slice C k e] 24))
  have X2 := Lib.hid (X2.out.alloc (.cells #[.int .i64 U, .int .i64 V, .slice C k e] 24))
  have X3 := Box.new ((w.alloc (.cells #[.int .i64 W, .int .i64 H, .slice A n c] 24)).alloc (.cells #[.int .i64 X, .int .i64 Y, .slice B m d] 24)) U V (.slice C k e)
  rw [show (((w.alloc (.cells #[.int .i64 W, .int .i64 H, .slice A n c] 24)).alloc (.cells #[.int .i64 X, .int .i64 Y, .slice B m d] 24))).heap.size = w.heap.size + 2 by simp] at X3
  have X3 := Lib.hid X3
  have LB0 := Lib.hid (LB0.out.alloc LB0.out.size (.cells #[.int .i64 U, .int .i64 V, .slice C k e] 24))
  go_enter Try.func15, Try.ntmps15
  go_upto_region 1 with (fail)
  generalize ((w.alloc (.cells #[.int .i64 W, .int .i64 H, .slice A n c] 24)).alloc (.cells #[.int .i64 X, .int .i64 Y, .slice B m d] 24)).alloc (.cells #[.int .i64 U, .int .i64 V, .slice C k e] 24) = w0 at *
  go_wp2_with fail
  with_reducible refine Calls.mono (alive13_any _) ?_
  rintro e w1 ⟨rfl, hb⟩
  have LB1 := Lib.hid (LB0.out.trans (hb.mono LB0.out.size))
  have X1 := Lib.hid (X1.out.below hb X1.out.lt)
  have X2 := Lib.hid (X2.out.below hb X2.out.lt)
  have X3 := Lib.hid (X3.out.below hb X3.out.lt)
  clear hb LB0 
  obtain ⟨q0, q1, q2, q3, q4, q5, q6⟩ := X1.out.all
  go_wp2_with fail
  clear q0 q1 q2 q3 q4 q5 q6
  with_reducible refine Calls.mono (HF0.out _) ?_
  rintro e w2 ⟨rfl, hb⟩
  have LB2 := Lib.hid (LB1.out.trans (hb.mono LB1.out.size))
  have X1 := Lib.hid (X1.out.below hb X1.out.lt)
  have X2 := Lib.hid (X2.out.below hb X2.out.lt)
  have X3 := Lib.hid (X3.out.below hb X3.out.lt)
  clear hb LB1 
  obtain ⟨q0, q1, q2, q3, q4, q5, q6⟩ := X2.out.all
  go_wp2_with fail
  clear q0 q1 q2 q3 q4 q5 q6
  with_reducible refine Calls.mono (HF1.out _) ?_
  rintro e w3 ⟨rfl, hb⟩
  have LB3 := Lib.hid (LB2.out.trans (hb.mono LB2.out.size))
  have X1 := Lib.hid (X1.out.below hb X1.out.lt)
  have X2 := Lib.hid (X2.out.below hb X2.out.lt)
  have X3 := Lib.hid (X3.out.below hb X3.out.lt)
  clear hb LB2 
  obtain ⟨q0, q1, q2, q3, q4, q5, q6⟩ := X3.out.all
  go_wp2_with fail
  clear q0 q1 q2 q3 q4 q5 q6
  with_reducible refine Calls.mono (HF2.out _) ?_
  rintro e w4 ⟨rfl, hb⟩
  have LB4 := Lib.hid (LB3.out.trans (hb.mono LB3.out.size))
  have X1 := Lib.hid (X1.out.below hb X1.out.lt)
  have X2 := Lib.hid (X2.out.below hb X2.out.lt)
  have X3 := Lib.hid (X3.out.below hb X3.out.lt)
  clear hb LB3 
  obtain ⟨q0, q1, q2, q3, q4, q5, q6⟩ := X1.out.all
  obtain ⟨q7, q8, q9, q10, q11, q12, q13⟩ := X2.out.all
  obtain ⟨q14, q15, q16, q17, q18, q19, q20⟩ := X3.out.all
  go_wp2_with fail
  clear q0 q1 q2 q3 q4 q5 q6 q7 q8 q9 q10 q11 q12 q13 q14 q15 q16 q17 q18 q19 q20
  with_reducible refine Calls.mono (HPR.out _ LB4.out) ?_
  rintro e w5 ⟨A1, c1, rfl, _, hb⟩
  have LB5 := Lib.hid (LB4.out.trans (hb.mono LB4.out.size))
  have X1 := Lib.hid (X1.out.below hb X1.out.lt)
  have X2 := Lib.hid (X2.out.below hb X2.out.lt)
  have X3 := Lib.hid (X3.out.below hb X3.out.lt)
  clear hb LB4 
  have hb := ((Below.refl w5.heap.size w5).alloc (by simp; try omega) (.cells #[.int .i64 0, .int .i64 0, .slice A1 0 c1] 24))
  have LB6 := Lib.hid (LB5.out.trans (hb.mono LB5.out.size))
  have X1 := Lib.hid (X1.out.below hb X1.out.lt)
  have X2 := Lib.hid (X2.out.below hb X2.out.lt)
  have X3 := Lib.hid (X3.out.below hb X3.out.lt)
  clear hb LB5
  go_upto_region 5 with (fail)
  generalize w5.alloc (.cells #[.int .i64 0, .int .i64 0, .slice A1 0 c1] 24) = w6 at *
  obtain ⟨q0, q1, q2, q3, q4, q5, q6⟩ := X1.out.all
  go_wp2_with fail
  clear q0 q1 q2 q3 q4 q5 q6
  with_reducible refine Calls.mono (HUN.out _ LB6.out) ?_
  rintro e w7 ⟨A2, c2, A6, c6, rfl, _, _, hb⟩
  have LB7 := Lib.hid (LB6.out.trans (hb.mono LB6.out.size))
  have X1 := Lib.hid (X1.out.below hb X1.out.lt)
  have X2 := Lib.hid (X2.out.below hb X2.out.lt)
  have X3 := Lib.hid (X3.out.below hb X3.out.lt)
  clear hb LB6 
  go_wp2
  go_ret
  exact ⟨rfl, LB7.out⟩
set_option maxHeartbeats 6400000 in
theorem joins_e2 (W H X Y U V y : Int) (A B C : Option Addr) (n c m d k e : Nat) (g : Nat → Bool) (w : World) (hg : Holds w w.heap.size A n g) (hn : n ≤ 5000) (h0 : fitB W H n = true) (h1 : fitB X Y m = true) (h2 : fitB U V k = true) (z : Int) (hz : z ≠ 0) (hP : ∀ u, Below w.heap.size w u → Calls Try.prog 47 #[.agg #[.int .i64 W, .int .i64 H, .slice A n c], .agg #[.int .i64 X, .int .i64 Y, .slice B m d], .agg #[.int .i64 U, .int .i64 V, .slice C k e]] u (RG u 0 0 0 (fun _ => false) z)) (wn hn' nx nn M K : Nat) (FF : Nat → Nat → Bool) (pp L : Nat → Nat) (w0 : 1 ≤ wn) (w1 : wn ≤ 64) (n1 : nx ≤ 64) (hq : W.tdiv (wn : Nat) = (nx : Nat)) (hnn : nn ≤ 5000) (hm : M ≤ 5000) (hK : K ≤ 5000)
    (hU : ∀ u, Below w.heap.size w u → Calls Try.prog 51 #[.agg #[.int .i64 W, .int .i64 H, .slice A n c], .int .i64 (wn : Nat), .int .i64 y] u (UR u (wn : Nat) (hn' : Nat) nn FF M K pp 0))
    (hJ : ∀ u A1 c1 A2 c2 G, GLs u A1 M G → (∀ i, i < M → (G i).W = (wn : Nat) ∧ (G i).H = (hn' : Nat) ∧ (G i).n = nn ∧ ∀ j, j < nn → (G i).f j = FF i j) → L2.Holds u u.heap.size A2 K (fun i => (pp i : Int)) →
      Calls Try.prog 53 #[.slice A1 M c1, .slice A2 K c2, .int .i64 (nx : Nat)] u (RG u W H n g 0))
    (hL0 : L 0 = 0) (hLK : L K = M) (hL : ∀ j, j < K → pp j ≤ L j ∧ pp j < M ∧ L j ≤ 5000 ∧ L (j + 1) = if pp j = L j then L j + 1 else L j) (hD : ∀ i j, i < j → j < M → ¬ ∀ q, q < nn → FF i q = FF j q) : Calls Try.prog 15 #[.agg #[.int .i64 W, .int .i64 H, .slice A n c], .int .i64 (wn : Nat), .int .i64 y, .agg #[.int .i64 X, .int .i64 Y, .slice B m d], .agg #[.int .i64 U, .int .i64 V, .slice C k e]] w fun e w' => e = .returned (.bool true) ∧ Below w.heap.size w w' := by
  have HF0 := Lib.hid (fun u => fit_any W H A n c u)
  simp only [h0] at HF0
  have HF1 := Lib.hid (fun u => fit_any X Y B m d u)
  simp only [h1] at HF1
  have HF2 := Lib.hid (fun u => fit_any U V C k e u)
  simp only [h2] at HF2
  have HPR := Lib.hid hP
  have HUN := Lib.hid hU
  have HSB := Lib.hid (fun z A1 c1 (hb : Below w.heap.size w z) (h : Holds z z.heap.size A1 n g) => rsame_t (W := W) (H := H) (c := c1) (d := c) hn (fun _ _ => rfl) z h ((hg.below hb).more hb.size))
  have y1 : (z == 0) = false := by rw [beq_eq_false_iff_ne]; exact hz
  have HJN := Lib.hid hJ
  have HL0 := Lib.hid hL0
  have HLK := Lib.hid hLK
  have HLL := Lib.hid hL
  have HDD := Lib.hid hD
  have ym : max (wn : Int) 1 = (wn : Int) := by omega
  have yz : ((wn : Int) == 0) = false := by rw [beq_eq_false_iff_ne]; omega
  have yw : ¬ (wn : Int) = 0 := by omega
  have f0 : IntKind.i64.wrap ((nx : Nat) : Int) = (nx : Nat) := by rw [IntWalk.i64_in _ (by omega)]
  clear h0 h1 h2 hP hU hg hz hJ hL0 hLK hL hD 
  have LB0 := Lib.hid (Below.refl w.heap.size w)
  have X1 := Lib.hid (Box.new w W H (.slice A n c))
  have LB0 := Lib.hid (LB0.out.alloc LB0.out.size (.cells #[.int .i64 W, .int .i64 H, .slice A n c] 24))
  have X1 := Lib.hid (X1.out.alloc (.cells #[.int .i64 X, .int .i64 Y, .slice B m d] 24))
  have X2 := Box.new (w.alloc (.cells #[.int .i64 W, .int .i64 H, .slice A n c] 24)) X Y (.slice B m d)
  rw [show ((w.alloc (.cells #[.int .i64 W, .int .i64 H, .slice A n c] 24))).heap.size = w.heap.size + 1 by simp] at X2
  have X2 := Lib.hid X2
  have LB0 := Lib.hid (LB0.out.alloc LB0.out.size (.cells #[.int .i64 X, .int .i64 Y, .slice B m d] 24))
  have X1 := Lib.hid (X1.out.alloc (.cells #[.int .i64 U, .int .i64 V, .slice C k e] 24))
  have X2 := Lib.hid (X2.out.alloc (.cells #[.int .i64 U, .int .i64 V, .slice C k e] 24))
  have X3 := Box.new ((w.alloc (.cells #[.int .i64 W, .int .i64 H, .slice A n c] 24)).alloc (.cells #[.int .i64 X, .int .i64 Y, .slice B m d] 24)) U V (.slice C k e)
  rw [show (((w.alloc (.cells #[.int .i64 W, .int .i64 H, .slice A n c] 24)).alloc (.cells #[.int .i64 X, .int .i64 Y, .slice B m d] 24))).heap.size = w.heap.size + 2 by simp] at X3
  have X3 := Lib.hid X3
  have LB0 := Lib.hid (LB0.out.alloc LB0.out.size (.cells #[.int .i64 U, .int .i64 V, .slice C k e] 24))
  go_enter Try.func15, Try.ntmps15
  go_upto_region 1 with (fail)
  generalize ((w.alloc (.cells #[.int .i64 W, .int .i64 H, .slice A n c] 24)).alloc (.cells #[.int .i64 X, .int .i64 Y, .slice B m d] 24)).alloc (.cells #[.int .i64 U, .int .i64 V, .slice C k e] 24) = w0 at *
  go_wp2_with fail
  with_reducible refine Calls.mono (alive13_any _) ?_
  rintro e w1 ⟨rfl, hb⟩
  have LB1 := Lib.hid (LB0.out.trans (hb.mono LB0.out.size))
  have X1 := Lib.hid (X1.out.below hb X1.out.lt)
  have X2 := Lib.hid (X2.out.below hb X2.out.lt)
  have X3 := Lib.hid (X3.out.below hb X3.out.lt)
  clear hb LB0 
  obtain ⟨q0, q1, q2, q3, q4, q5, q6⟩ := X1.out.all
  go_wp2_with fail
  clear q0 q1 q2 q3 q4 q5 q6
  with_reducible refine Calls.mono (HF0.out _) ?_
  rintro e w2 ⟨rfl, hb⟩
  have LB2 := Lib.hid (LB1.out.trans (hb.mono LB1.out.size))
  have X1 := Lib.hid (X1.out.below hb X1.out.lt)
  have X2 := Lib.hid (X2.out.below hb X2.out.lt)
  have X3 := Lib.hid (X3.out.below hb X3.out.lt)
  clear hb LB1 
  obtain ⟨q0, q1, q2, q3, q4, q5, q6⟩ := X2.out.all
  go_wp2_with fail
  clear q0 q1 q2 q3 q4 q5 q6
  with_reducible refine Calls.mono (HF1.out _) ?_
  rintro e w3 ⟨rfl, hb⟩
  have LB3 := Lib.hid (LB2.out.trans (hb.mono LB2.out.size))
  have X1 := Lib.hid (X1.out.below hb X1.out.lt)
  have X2 := Lib.hid (X2.out.below hb X2.out.lt)
  have X3 := Lib.hid (X3.out.below hb X3.out.lt)
  clear hb LB2 
  obtain ⟨q0, q1, q2, q3, q4, q5, q6⟩ := X3.out.all
  go_wp2_with fail
  clear q0 q1 q2 q3 q4 q5 q6
  with_reducible refine Calls.mono (HF2.out _) ?_
  rintro e w4 ⟨rfl, hb⟩
  have LB4 := Lib.hid (LB3.out.trans (hb.mono LB3.out.size))
  have X1 := Lib.hid (X1.out.below hb X1.out.lt)
  have X2 := Lib.hid (X2.out.below hb X2.out.lt)
  have X3 := Lib.hid (X3.out.below hb X3.out.lt)
  clear hb LB3 
  obtain ⟨q0, q1, q2, q3, q4, q5, q6⟩ := X1.out.all
  obtain ⟨q7, q8, q9, q10, q11, q12, q13⟩ := X2.out.all
  obtain ⟨q14, q15, q16, q17, q18, q19, q20⟩ := X3.out.all
  go_wp2_with fail
  clear q0 q1 q2 q3 q4 q5 q6 q7 q8 q9 q10 q11 q12 q13 q14 q15 q16 q17 q18 q19 q20
  with_reducible refine Calls.mono (HPR.out _ LB4.out) ?_
  rintro e w5 ⟨A1, c1, rfl, _, hb⟩
  have LB5 := Lib.hid (LB4.out.trans (hb.mono LB4.out.size))
  have X1 := Lib.hid (X1.out.below hb X1.out.lt)
  have X2 := Lib.hid (X2.out.below hb X2.out.lt)
  have X3 := Lib.hid (X3.out.below hb X3.out.lt)
  clear hb LB4 
  have hb := ((Below.refl w5.heap.size w5).alloc (by simp; try omega) (.cells #[.int .i64 0, .int .i64 0, .slice A1 0 c1] 24))
  have LB6 := Lib.hid (LB5.out.trans (hb.mono LB5.out.size))
  have X1 := Lib.hid (X1.out.below hb X1.out.lt)
  have X2 := Lib.hid (X2.out.below hb X2.out.lt)
  have X3 := Lib.hid (X3.out.below hb X3.out.lt)
  clear hb LB5
  go_upto_region 5 with (fail)
  generalize w5.alloc (.cells #[.int .i64 0, .int .i64 0, .slice A1 0 c1] 24) = w6 at *
  obtain ⟨q0, q1, q2, q3, q4, q5, q6⟩ := X1.out.all
  go_wp2_with fail
  clear q0 q1 q2 q3 q4 q5 q6
  with_reducible refine Calls.mono (HUN.out _ LB6.out) ?_
  rintro e w7 ⟨A2, c2, A6, c6, rfl, ⟨G, hG, hE⟩, hat, hb⟩
  have HE := Lib.hid hE
  clear hE
  have LB7 := Lib.hid (LB6.out.trans (hb.mono LB6.out.size))
  have X1 := Lib.hid (X1.out.below hb X1.out.lt)
  have X2 := Lib.hid (X2.out.below hb X2.out.lt)
  have X3 := Lib.hid (X3.out.below hb X3.out.lt)
  have HG := Lib.hid hG
  have HAT := Lib.hid hat
  clear hb LB6 hG hat
  obtain ⟨q0, q1, q2, q3, q4, q5, q6⟩ := X1.out.all
  go_wp2_with fail
  clear q0 q1 q2 q3 q4 q5 q6
  with_reducible refine Calls.mono (HJN.out _ _ _ _ _ _ HG.out HE.out HAT.out) ?_
  rintro e w8 ⟨A7, c7, rfl, hh, hb⟩
  have LB8 := Lib.hid (LB7.out.trans (hb.mono LB7.out.size))
  have X1 := Lib.hid (X1.out.below hb X1.out.lt)
  have X2 := Lib.hid (X2.out.below hb X2.out.lt)
  have X3 := Lib.hid (X3.out.below hb X3.out.lt)
  have HG := Lib.hid (HG.out.below hb)
  have HAT := Lib.hid ((HAT.out.below hb).more hb.size)
  have H7 := Lib.hid hh
  clear hb LB7 hh
  have hb := ((Below.refl w8.heap.size w8).alloc (by simp; try omega) (.cells #[.int .i64 W, .int .i64 H, .slice A7 n c7] 24))
  have LB9 := Lib.hid (LB8.out.trans (hb.mono LB8.out.size))
  have X1 := Lib.hid (X1.out.below hb X1.out.lt)
  have X2 := Lib.hid (X2.out.below hb X2.out.lt)
  have X3 := Lib.hid (X3.out.below hb X3.out.lt)
  have HG := Lib.hid (HG.out.below hb)
  have HAT := Lib.hid ((HAT.out.below hb).more hb.size)
  have H7 := Lib.hid ((H7.out.below hb).more hb.size)
  have XB := Box.new w8 W H (.slice A7 n c7)
  have XB := Lib.hid XB
  clear hb LB8
  go_upto_region 13 with (fail)
  obtain ⟨jb, hjb⟩ : ∃ z, w8.heap.size = z := ⟨_, rfl⟩
  rw [hjb] at XB
  try rw [hjb]
  clear hjb
  generalize w8.alloc (.cells #[.int .i64 W, .int .i64 H, .slice A7 n c7] 24) = w9 at *
  obtain ⟨q0, q1, q2, q3, q4, q5, q6⟩ := XB.out.all
  obtain ⟨q7, q8, q9, q10, q11, q12, q13⟩ := X1.out.all
  go_wp2_with fail
  clear q0 q1 q2 q3 q4 q5 q6 q7 q8 q9 q10 q11 q12 q13
  with_reducible refine Calls.mono (HSB.out _ _ _ LB9.out H7.out) ?_
  rintro e w10 ⟨rfl, hb⟩
  have LB10 := Lib.hid (LB9.out.trans (hb.mono LB9.out.size))
  have X1 := Lib.hid (X1.out.below hb X1.out.lt)
  have X2 := Lib.hid (X2.out.below hb X2.out.lt)
  have X3 := Lib.hid (X3.out.below hb X3.out.lt)
  have HG := Lib.hid (HG.out.below hb)
  have HAT := Lib.hid ((HAT.out.below hb).more hb.size)
  have H7 := Lib.hid ((H7.out.below hb).more hb.size)
  have XB := Lib.hid (XB.out.below hb XB.out.lt)
  clear hb LB9 
  clear H7 XB X1 X2 X3
  go_wp2
  go_loopw [21, 22] (fun a i wr => ∃ j : Nat, j ≤ K ∧ i = .int .i64 j ∧ a = .int .i64 (L j : Nat) ∧ w10 = wr) (fun _ i _ => K - (intOf i).toNat)
  case atStart => exact ⟨0, Nat.zero_le _, rfl, by rw [HL0.out]; rfl, rfl⟩
  case round =>
    obtain ⟨j, hj, rfl, rfl, rfl⟩ := hrel
    by_cases hlt : j < K
    · have z1 : (j : Int) < (K : Int) := by omega
      have z2 : (0 : Int) ≤ (j : Int) := by omega
      obtain ⟨b2, o2, e2, hl2, hc2⟩ := HAT.out (by omega)
      have a0 := hc2 j hlt
      rw [show ((fun i => ((pp i : Nat) : Int)) j) = ((pp j : Nat) : Int) from rfl] at a0
      obtain ⟨i1, i2, i3, i4⟩ := HLL.out j hlt
      subst e2
      clear hc2
      obtain ⟨q, hq⟩ : ∃ z, pp j = z := ⟨_, rfl⟩
      obtain ⟨l, hl⟩ : ∃ z, L j = z := ⟨_, rfl⟩
      rw [hq] at i1 i2 i4 a0
      rw [hl] at i1 i3 i4 ⊢
      clear hq hl
      have HLN := Lib.hid i4
      clear i4
      have y3 : decide ((q : Int) < 0) = false := decide_eq_false (by omega)
      have y4 : decide ((l : Int) < (q : Int)) = false := decide_eq_false (by omega)
      have y5 : decide ((M : Int) ≤ (q : Int)) = false := decide_eq_false (by omega)
      by_cases hql : q = l
      · have y6 : ((q : Int) == (l : Int)) = true := by rw [hql]; simp
        have HLM := Lib.hid (HLN.out.trans (if_pos hql))
        have f9 := wrap_one (a := l) (by omega)
        clear HLN hql
        go_wp2
        go_roundw
        case rel => exact ⟨j + 1, by omega, by go_num, by rw [HLM.out]; go_num, trivial⟩
        case measure => simp [intOf]; omega
      · have y6 : ((q : Int) == (l : Int)) = false := by rw [beq_eq_false_iff_ne]; omega
        have HLM := Lib.hid (HLN.out.trans (if_neg hql))
        clear HLN hql
        go_wp2
        go_roundw
        case rel => exact ⟨j + 1, by omega, by go_num, by rw [HLM.out], trivial⟩
        case measure => simp [intOf]; omega
    · have e' : j = K := by omega
      have z1 : ¬ (j : Int) < (K : Int) := by omega
      have HLj := Lib.hid (show L j = M by rw [e']; exact HLK.out)
      rw [HLj.out]
      clear e' HLj
      go_wp2
      go_loopw [23] (fun i wr => ∃ p : Nat, p ≤ M ∧ i = .int .i64 p ∧ Hid (Below w10.heap.size w10 wr)) (fun i _ => M - (intOf i).toNat)
      case atStart => exact ⟨0, Nat.zero_le _, rfl, Lib.hid (Below.refl _ _)⟩
      case round =>
        obtain ⟨p, hp, rfl, HB⟩ := hrel
        by_cases hpm : p < M
        · have z3 : (p : Int) < (M : Int) := by omega
          have z4 : (0 : Int) ≤ (p : Int) := by omega
          go_wp2
          go_loopw [24] (fun i wr => ∃ r : Nat, r ≤ p ∧ i = .int .i64 r ∧ Hid (Below w10.heap.size w10 wr)) (fun i _ => p - (intOf i).toNat)
          case atStart => exact ⟨0, Nat.zero_le _, rfl, HB⟩
          case round =>
            obtain ⟨r, hr, rfl, HB2⟩ := hrel
            clear HB
            by_cases hrp : r < p
            · have z5 : (r : Int) < (p : Int) := by omega
              have z6 : (0 : Int) ≤ (r : Int) := by omega
              have z7 : (r : Int) < (M : Int) := by omega
              have hrm : r < M := by omega
              obtain ⟨b3, o3, e3, hl3, hc3⟩ := HG.out (by omega)
              obtain ⟨g0, g1, g2, g3⟩ := hc3 p hpm
              obtain ⟨k0, k1, k2, k3⟩ := hc3 r hrm
              obtain ⟨s0, s1, s2, s3⟩ := HE.out p hpm
              obtain ⟨t0, t1, t2, t3⟩ := HE.out r hrm
              have g0 := (HB2.out.cell (p := ⟨b3, o3 + p * 3, none⟩) hl3).trans g0
              have g1 := (HB2.out.cell (p := ⟨b3, o3 + p * 3 + 1, none⟩) hl3).trans g1
              have g2 := (HB2.out.cell (p := ⟨b3, o3 + p * 3 + 2, none⟩) hl3).trans g2
              have k0 := (HB2.out.cell (p := ⟨b3, o3 + r * 3, none⟩) hl3).trans k0
              have k1 := (HB2.out.cell (p := ⟨b3, o3 + r * 3 + 1, none⟩) hl3).trans k1
              have k2 := (HB2.out.cell (p := ⟨b3, o3 + r * 3 + 2, none⟩) hl3).trans k2
              have g3 := ((g3.below HB2.out).more HB2.out.size).drw
              have k3 := ((k3.below HB2.out).more HB2.out.size).drw
              rw [s0] at g0
              rw [s1] at g1
              rw [s2] at g2 g3
              rw [t0] at k0
              rw [t1] at k1
              rw [t2] at k2 k3
              have hne : ¬ ∀ j, j < nn → (G p).f j = (G r).f j := fun h => HDD.out r p hrp hpm fun j hj => by rw [← t3 j hj, ← s3 j hj, h j hj]
              have HSM := Lib.hid (rsame_loop (wn : Nat) (hn' : Nat) (wn : Nat) (hn' : Nat) (G p).A (G r).A nn (G p).c (G r).c (G p).f (G r).f wr.drew hnn rfl rfl g3 k3)
              rw [decide_eq_false hne] at HSM
              subst e3
              clear hne g3 k3 s0 s1 s2 s3 t0 t1 t2 t3 hc3 hl3
              generalize (G p).A = ga at *
              generalize (G p).c = gc at *
              generalize (G r).A = ka at *
              generalize (G r).c = kc at *
              go_upto_region 29 with (fail)
              go_still_tail 8, (by kernel_rfl)
              change wpList _ _ _ _ _ wr.drew
              go_wp2_with (go_at_call 49; (with_reducible refine Calls.mono HSM.out ?_); rintro e wa ⟨rfl, hb⟩)
              have HB3 := Lib.hid (HB2.out.trans (((Below.refl wr.heap.size wr).drew.trans hb).mono HB2.out.size))
              go_roundw
              case rel => exact ⟨r + 1, by omega, by go_num, HB3⟩
              case measure => simp [intOf]; omega
            · have z5 : ¬ (r : Int) < (p : Int) := by omega
              go_wp2
              go_roundw
              case rel => exact ⟨p + 1, by omega, by go_num, HB2⟩
              case measure => simp [intOf]; omega
        · have e' : p = M := by omega
          have z3 : ¬ (p : Int) < (M : Int) := by omega
          have y9 : ((M : Int) == (M : Int)) = true := by simp
          have LBE := Lib.hid (LB10.out.trans (HB.out.mono LB10.out.size))
          clear e'
          go_wp2
          go_ret
          exact ⟨rfl, LBE.out⟩
set_option maxHeartbeats 6400000 in
theorem joins_k1 (W H X Y U V x y : Int) (A B C : Option Addr) (n c m d k e : Nat) (g : Nat → Bool) (w : World) (hg : Holds w w.heap.size A n g) (hn : n ≤ 5000) (h0 : fitB W H n = true) (h1 : fitB X Y m = true) (h2 : fitB U V k = true) (pw ph pn : Nat) (F : Nat → Bool) (hP : ∀ u, Below w.heap.size w u → Calls Try.prog 47 #[.agg #[.int .i64 W, .int .i64 H, .slice A n c], .agg #[.int .i64 X, .int .i64 Y, .slice B m d], .agg #[.int .i64 U, .int .i64 V, .slice C k e]] u (RG u (pw : Nat) (ph : Nat) pn F 0)) (hF : ∀ u A1 c1, Below w.heap.size w u → Holds u u.heap.size A1 pn F → Calls Try.prog 45 #[.agg #[.int .i64 (pw : Nat), .int .i64 (ph : Nat), .slice A1 pn c1], .agg #[.int .i64 X, .int .i64 Y, .slice B m d], .agg #[.int .i64 U, .int .i64 V, .slice C k e]] u (RG u W H n g 0)) (hU : ∀ u, Below w.heap.size w u → Calls Try.prog 51 #[.agg #[.int .i64 W, .int .i64 H, .slice A n c], .int .i64 x, .int .i64 y] u (UR u 1 1 0 (fun _ _ => false) 0 0 (fun _ => 0) 26)) : Calls Try.prog 15 #[.agg #[.int .i64 W, .int .i64 H, .slice A n c], .int .i64 x, .int .i64 y, .agg #[.int .i64 X, .int .i64 Y, .slice B m d], .agg #[.int .i64 U, .int .i64 V, .slice C k e]] w fun e w' => e = .returned (.bool true) ∧ Below w.heap.size w w' := by
  have HF0 := Lib.hid (fun u => fit_any W H A n c u)
  simp only [h0] at HF0
  have HF1 := Lib.hid (fun u => fit_any X Y B m d u)
  simp only [h1] at HF1
  have HF2 := Lib.hid (fun u => fit_any U V C k e u)
  simp only [h2] at HF2
  have HPR := Lib.hid hP
  have HUN := Lib.hid hU
  have HSB := Lib.hid (fun z A1 c1 (hb : Below w.heap.size w z) (h : Holds z z.heap.size A1 n g) => rsame_t (W := W) (H := H) (c := c1) (d := c) hn (fun _ _ => rfl) z h ((hg.below hb).more hb.size))
  have HFL := Lib.hid hF
  clear h0 h1 h2 hP hU hg hF 
  have LB0 := Lib.hid (Below.refl w.heap.size w)
  have X1 := Lib.hid (Box.new w W H (.slice A n c))
  have LB0 := Lib.hid (LB0.out.alloc LB0.out.size (.cells #[.int .i64 W, .int .i64 H, .slice A n c] 24))
  have X1 := Lib.hid (X1.out.alloc (.cells #[.int .i64 X, .int .i64 Y, .slice B m d] 24))
  have X2 := Box.new (w.alloc (.cells #[.int .i64 W, .int .i64 H, .slice A n c] 24)) X Y (.slice B m d)
  rw [show ((w.alloc (.cells #[.int .i64 W, .int .i64 H, .slice A n c] 24))).heap.size = w.heap.size + 1 by simp] at X2
  have X2 := Lib.hid X2
  have LB0 := Lib.hid (LB0.out.alloc LB0.out.size (.cells #[.int .i64 X, .int .i64 Y, .slice B m d] 24))
  have X1 := Lib.hid (X1.out.alloc (.cells #[.int .i64 U, .int .i64 V, .slice C k e] 24))
  have X2 := Lib.hid (X2.out.alloc (.cells #[.int .i64 U, .int .i64 V, .slice C k e] 24))
  have X3 := Box.new ((w.alloc (.cells #[.int .i64 W, .int .i64 H, .slice A n c] 24)).alloc (.cells #[.int .i64 X, .int .i64 Y, .slice B m d] 24)) U V (.slice C k e)
  rw [show (((w.alloc (.cells #[.int .i64 W, .int .i64 H, .slice A n c] 24)).alloc (.cells #[.int .i64 X, .int .i64 Y, .slice B m d] 24))).heap.size = w.heap.size + 2 by simp] at X3
  have X3 := Lib.hid X3
  have LB0 := Lib.hid (LB0.out.alloc LB0.out.size (.cells #[.int .i64 U, .int .i64 V, .slice C k e] 24))
  go_enter Try.func15, Try.ntmps15
  go_upto_region 1 with (fail)
  generalize ((w.alloc (.cells #[.int .i64 W, .int .i64 H, .slice A n c] 24)).alloc (.cells #[.int .i64 X, .int .i64 Y, .slice B m d] 24)).alloc (.cells #[.int .i64 U, .int .i64 V, .slice C k e] 24) = w0 at *
  go_wp2_with fail
  with_reducible refine Calls.mono (alive13_any _) ?_
  rintro e w1 ⟨rfl, hb⟩
  have LB1 := Lib.hid (LB0.out.trans (hb.mono LB0.out.size))
  have X1 := Lib.hid (X1.out.below hb X1.out.lt)
  have X2 := Lib.hid (X2.out.below hb X2.out.lt)
  have X3 := Lib.hid (X3.out.below hb X3.out.lt)
  clear hb LB0 
  obtain ⟨q0, q1, q2, q3, q4, q5, q6⟩ := X1.out.all
  go_wp2_with fail
  clear q0 q1 q2 q3 q4 q5 q6
  with_reducible refine Calls.mono (HF0.out _) ?_
  rintro e w2 ⟨rfl, hb⟩
  have LB2 := Lib.hid (LB1.out.trans (hb.mono LB1.out.size))
  have X1 := Lib.hid (X1.out.below hb X1.out.lt)
  have X2 := Lib.hid (X2.out.below hb X2.out.lt)
  have X3 := Lib.hid (X3.out.below hb X3.out.lt)
  clear hb LB1 
  obtain ⟨q0, q1, q2, q3, q4, q5, q6⟩ := X2.out.all
  go_wp2_with fail
  clear q0 q1 q2 q3 q4 q5 q6
  with_reducible refine Calls.mono (HF1.out _) ?_
  rintro e w3 ⟨rfl, hb⟩
  have LB3 := Lib.hid (LB2.out.trans (hb.mono LB2.out.size))
  have X1 := Lib.hid (X1.out.below hb X1.out.lt)
  have X2 := Lib.hid (X2.out.below hb X2.out.lt)
  have X3 := Lib.hid (X3.out.below hb X3.out.lt)
  clear hb LB2 
  obtain ⟨q0, q1, q2, q3, q4, q5, q6⟩ := X3.out.all
  go_wp2_with fail
  clear q0 q1 q2 q3 q4 q5 q6
  with_reducible refine Calls.mono (HF2.out _) ?_
  rintro e w4 ⟨rfl, hb⟩
  have LB4 := Lib.hid (LB3.out.trans (hb.mono LB3.out.size))
  have X1 := Lib.hid (X1.out.below hb X1.out.lt)
  have X2 := Lib.hid (X2.out.below hb X2.out.lt)
  have X3 := Lib.hid (X3.out.below hb X3.out.lt)
  clear hb LB3 
  obtain ⟨q0, q1, q2, q3, q4, q5, q6⟩ := X1.out.all
  obtain ⟨q7, q8, q9, q10, q11, q12, q13⟩ := X2.out.all
  obtain ⟨q14, q15, q16, q17, q18, q19, q20⟩ := X3.out.all
  go_wp2_with fail
  clear q0 q1 q2 q3 q4 q5 q6 q7 q8 q9 q10 q11 q12 q13 q14 q15 q16 q17 q18 q19 q20
  with_reducible refine Calls.mono (HPR.out _ LB4.out) ?_
  rintro e w5 ⟨A1, c1, rfl, hh, hb⟩
  have LB5 := Lib.hid (LB4.out.trans (hb.mono LB4.out.size))
  have X1 := Lib.hid (X1.out.below hb X1.out.lt)
  have X2 := Lib.hid (X2.out.below hb X2.out.lt)
  have X3 := Lib.hid (X3.out.below hb X3.out.lt)
  have H1 := Lib.hid hh
  clear hb LB4 hh
  have hb := ((Below.refl w5.heap.size w5).alloc (by simp; try omega) (.cells #[.int .i64 (pw : Nat), .int .i64 (ph : Nat), .slice A1 pn c1] 24))
  have LB6 := Lib.hid (LB5.out.trans (hb.mono LB5.out.size))
  have X1 := Lib.hid (X1.out.below hb X1.out.lt)
  have X2 := Lib.hid (X2.out.below hb X2.out.lt)
  have X3 := Lib.hid (X3.out.below hb X3.out.lt)
  have H1 := Lib.hid ((H1.out.below hb).more hb.size)
  have XP := Box.new w5 (pw : Nat) (ph : Nat) (.slice A1 pn c1)
  have XP := Lib.hid XP
  clear hb LB5
  go_upto_region 5 with (fail)
  obtain ⟨pb, hpb⟩ : ∃ z, w5.heap.size = z := ⟨_, rfl⟩
  rw [hpb] at XP
  try rw [hpb]
  clear hpb
  generalize w5.alloc (.cells #[.int .i64 (pw : Nat), .int .i64 (ph : Nat), .slice A1 pn c1] 24) = w6 at *
  obtain ⟨q0, q1, q2, q3, q4, q5, q6⟩ := XP.out.all
  obtain ⟨q7, q8, q9, q10, q11, q12, q13⟩ := X2.out.all
  obtain ⟨q14, q15, q16, q17, q18, q19, q20⟩ := X3.out.all
  go_wp2_with fail
  clear q0 q1 q2 q3 q4 q5 q6 q7 q8 q9 q10 q11 q12 q13 q14 q15 q16 q17 q18 q19 q20
  with_reducible refine Calls.mono (HFL.out _ _ _ LB6.out H1.out) ?_
  rintro e w7 ⟨A5, c5, rfl, hh, hb⟩
  have LB7 := Lib.hid (LB6.out.trans (hb.mono LB6.out.size))
  have X1 := Lib.hid (X1.out.below hb X1.out.lt)
  have X2 := Lib.hid (X2.out.below hb X2.out.lt)
  have X3 := Lib.hid (X3.out.below hb X3.out.lt)
  have H1 := Lib.hid ((H1.out.below hb).more hb.size)
  have XP := Lib.hid (XP.out.below hb XP.out.lt)
  have H5 := Lib.hid hh
  clear hb LB6 hh
  have hb := ((Below.refl w7.heap.size w7).alloc (by simp; try omega) (.cells #[.int .i64 W, .int .i64 H, .slice A5 n c5] 24))
  have LB8 := Lib.hid (LB7.out.trans (hb.mono LB7.out.size))
  have X1 := Lib.hid (X1.out.below hb X1.out.lt)
  have X2 := Lib.hid (X2.out.below hb X2.out.lt)
  have X3 := Lib.hid (X3.out.below hb X3.out.lt)
  have H1 := Lib.hid ((H1.out.below hb).more hb.size)
  have XP := Lib.hid (XP.out.below hb XP.out.lt)
  have H5 := Lib.hid ((H5.out.below hb).more hb.size)
  have XA := Box.new w7 W H (.slice A5 n c5)
  have XA := Lib.hid XA
  clear hb LB7
  go_upto_region 7 with (fail)
  obtain ⟨ab, hab⟩ : ∃ z, w7.heap.size = z := ⟨_, rfl⟩
  rw [hab] at XA
  try rw [hab]
  clear hab
  generalize w7.alloc (.cells #[.int .i64 W, .int .i64 H, .slice A5 n c5] 24) = w8 at *
  obtain ⟨q0, q1, q2, q3, q4, q5, q6⟩ := XA.out.all
  obtain ⟨q7, q8, q9, q10, q11, q12, q13⟩ := X1.out.all
  go_wp2_with fail
  clear q0 q1 q2 q3 q4 q5 q6 q7 q8 q9 q10 q11 q12 q13
  with_reducible refine Calls.mono (HSB.out _ _ _ LB8.out H5.out) ?_
  rintro e w9 ⟨rfl, hb⟩
  have LB9 := Lib.hid (LB8.out.trans (hb.mono LB8.out.size))
  have X1 := Lib.hid (X1.out.below hb X1.out.lt)
  have X2 := Lib.hid (X2.out.below hb X2.out.lt)
  have X3 := Lib.hid (X3.out.below hb X3.out.lt)
  have H1 := Lib.hid ((H1.out.below hb).more hb.size)
  have XP := Lib.hid (XP.out.below hb XP.out.lt)
  have H5 := Lib.hid ((H5.out.below hb).more hb.size)
  have XA := Lib.hid (XA.out.below hb XA.out.lt)
  clear hb LB8 
  clear H1 XP H5 XA
  obtain ⟨q0, q1, q2, q3, q4, q5, q6⟩ := X1.out.all
  go_wp2_with fail
  clear q0 q1 q2 q3 q4 q5 q6
  with_reducible refine Calls.mono (HUN.out _ LB9.out) ?_
  rintro e w10 ⟨A2, c2, A6, c6, rfl, _, _, hb⟩
  have LB10 := Lib.hid (LB9.out.trans (hb.mono LB9.out.size))
  have X1 := Lib.hid (X1.out.below hb X1.out.lt)
  have X2 := Lib.hid (X2.out.below hb X2.out.lt)
  have X3 := Lib.hid (X3.out.below hb X3.out.lt)
  clear hb LB9 
  go_wp2
  go_ret
  exact ⟨rfl, LB10.out⟩
set_option maxHeartbeats 6400000 in
theorem joins_k2 (W H X Y U V y : Int) (A B C : Option Addr) (n c m d k e : Nat) (g : Nat → Bool) (w : World) (hg : Holds w w.heap.size A n g) (hn : n ≤ 5000) (h0 : fitB W H n = true) (h1 : fitB X Y m = true) (h2 : fitB U V k = true) (pw ph pn : Nat) (F : Nat → Bool) (hP : ∀ u, Below w.heap.size w u → Calls Try.prog 47 #[.agg #[.int .i64 W, .int .i64 H, .slice A n c], .agg #[.int .i64 X, .int .i64 Y, .slice B m d], .agg #[.int .i64 U, .int .i64 V, .slice C k e]] u (RG u (pw : Nat) (ph : Nat) pn F 0)) (hF : ∀ u A1 c1, Below w.heap.size w u → Holds u u.heap.size A1 pn F → Calls Try.prog 45 #[.agg #[.int .i64 (pw : Nat), .int .i64 (ph : Nat), .slice A1 pn c1], .agg #[.int .i64 X, .int .i64 Y, .slice B m d], .agg #[.int .i64 U, .int .i64 V, .slice C k e]] u (RG u W H n g 0)) (wn hn' nx nn M K : Nat) (FF : Nat → Nat → Bool) (pp L : Nat → Nat) (w0 : 1 ≤ wn) (w1 : wn ≤ 64) (n1 : nx ≤ 64) (hq : W.tdiv (wn : Nat) = (nx : Nat)) (hnn : nn ≤ 5000) (hm : M ≤ 5000) (hK : K ≤ 5000)
    (hU : ∀ u, Below w.heap.size w u → Calls Try.prog 51 #[.agg #[.int .i64 W, .int .i64 H, .slice A n c], .int .i64 (wn : Nat), .int .i64 y] u (UR u (wn : Nat) (hn' : Nat) nn FF M K pp 0))
    (hJ : ∀ u A1 c1 A2 c2 G, GLs u A1 M G → (∀ i, i < M → (G i).W = (wn : Nat) ∧ (G i).H = (hn' : Nat) ∧ (G i).n = nn ∧ ∀ j, j < nn → (G i).f j = FF i j) → L2.Holds u u.heap.size A2 K (fun i => (pp i : Int)) →
      Calls Try.prog 53 #[.slice A1 M c1, .slice A2 K c2, .int .i64 (nx : Nat)] u (RG u W H n g 0))
    (hL0 : L 0 = 0) (hLK : L K = M) (hL : ∀ j, j < K → pp j ≤ L j ∧ pp j < M ∧ L j ≤ 5000 ∧ L (j + 1) = if pp j = L j then L j + 1 else L j) (hD : ∀ i j, i < j → j < M → ¬ ∀ q, q < nn → FF i q = FF j q) : Calls Try.prog 15 #[.agg #[.int .i64 W, .int .i64 H, .slice A n c], .int .i64 (wn : Nat), .int .i64 y, .agg #[.int .i64 X, .int .i64 Y, .slice B m d], .agg #[.int .i64 U, .int .i64 V, .slice C k e]] w fun e w' => e = .returned (.bool true) ∧ Below w.heap.size w w' := by
  have HF0 := Lib.hid (fun u => fit_any W H A n c u)
  simp only [h0] at HF0
  have HF1 := Lib.hid (fun u => fit_any X Y B m d u)
  simp only [h1] at HF1
  have HF2 := Lib.hid (fun u => fit_any U V C k e u)
  simp only [h2] at HF2
  have HPR := Lib.hid hP
  have HUN := Lib.hid hU
  have HSB := Lib.hid (fun z A1 c1 (hb : Below w.heap.size w z) (h : Holds z z.heap.size A1 n g) => rsame_t (W := W) (H := H) (c := c1) (d := c) hn (fun _ _ => rfl) z h ((hg.below hb).more hb.size))
  have HFL := Lib.hid hF
  have HJN := Lib.hid hJ
  have HL0 := Lib.hid hL0
  have HLK := Lib.hid hLK
  have HLL := Lib.hid hL
  have HDD := Lib.hid hD
  have ym : max (wn : Int) 1 = (wn : Int) := by omega
  have yz : ((wn : Int) == 0) = false := by rw [beq_eq_false_iff_ne]; omega
  have yw : ¬ (wn : Int) = 0 := by omega
  have f0 : IntKind.i64.wrap ((nx : Nat) : Int) = (nx : Nat) := by rw [IntWalk.i64_in _ (by omega)]
  clear h0 h1 h2 hP hU hg hF hJ hL0 hLK hL hD 
  have LB0 := Lib.hid (Below.refl w.heap.size w)
  have X1 := Lib.hid (Box.new w W H (.slice A n c))
  have LB0 := Lib.hid (LB0.out.alloc LB0.out.size (.cells #[.int .i64 W, .int .i64 H, .slice A n c] 24))
  have X1 := Lib.hid (X1.out.alloc (.cells #[.int .i64 X, .int .i64 Y, .slice B m d] 24))
  have X2 := Box.new (w.alloc (.cells #[.int .i64 W, .int .i64 H, .slice A n c] 24)) X Y (.slice B m d)
  rw [show ((w.alloc (.cells #[.int .i64 W, .int .i64 H, .slice A n c] 24))).heap.size = w.heap.size + 1 by simp] at X2
  have X2 := Lib.hid X2
  have LB0 := Lib.hid (LB0.out.alloc LB0.out.size (.cells #[.int .i64 X, .int .i64 Y, .slice B m d] 24))
  have X1 := Lib.hid (X1.out.alloc (.cells #[.int .i64 U, .int .i64 V, .slice C k e] 24))
  have X2 := Lib.hid (X2.out.alloc (.cells #[.int .i64 U, .int .i64 V, .slice C k e] 24))
  have X3 := Box.new ((w.alloc (.cells #[.int .i64 W, .int .i64 H, .slice A n c] 24)).alloc (.cells #[.int .i64 X, .int .i64 Y, .slice B m d] 24)) U V (.slice C k e)
  rw [show (((w.alloc (.cells #[.int .i64 W, .int .i64 H, .slice A n c] 24)).alloc (.cells #[.int .i64 X, .int .i64 Y, .slice B m d] 24))).heap.size = w.heap.size + 2 by simp] at X3
  have X3 := Lib.hid X3
  have LB0 := Lib.hid (LB0.out.alloc LB0.out.size (.cells #[.int .i64 U, .int .i64 V, .slice C k e] 24))
  go_enter Try.func15, Try.ntmps15
  go_upto_region 1 with (fail)
  generalize ((w.alloc (.cells #[.int .i64 W, .int .i64 H, .slice A n c] 24)).alloc (.cells #[.int .i64 X, .int .i64 Y, .slice B m d] 24)).alloc (.cells #[.int .i64 U, .int .i64 V, .slice C k e] 24) = w0 at *
  go_wp2_with fail
  with_reducible refine Calls.mono (alive13_any _) ?_
  rintro e w1 ⟨rfl, hb⟩
  have LB1 := Lib.hid (LB0.out.trans (hb.mono LB0.out.size))
  have X1 := Lib.hid (X1.out.below hb X1.out.lt)
  have X2 := Lib.hid (X2.out.below hb X2.out.lt)
  have X3 := Lib.hid (X3.out.below hb X3.out.lt)
  clear hb LB0 
  obtain ⟨q0, q1, q2, q3, q4, q5, q6⟩ := X1.out.all
  go_wp2_with fail
  clear q0 q1 q2 q3 q4 q5 q6
  with_reducible refine Calls.mono (HF0.out _) ?_
  rintro e w2 ⟨rfl, hb⟩
  have LB2 := Lib.hid (LB1.out.trans (hb.mono LB1.out.size))
  have X1 := Lib.hid (X1.out.below hb X1.out.lt)
  have X2 := Lib.hid (X2.out.below hb X2.out.lt)
  have X3 := Lib.hid (X3.out.below hb X3.out.lt)
  clear hb LB1 
  obtain ⟨q0, q1, q2, q3, q4, q5, q6⟩ := X2.out.all
  go_wp2_with fail
  clear q0 q1 q2 q3 q4 q5 q6
  with_reducible refine Calls.mono (HF1.out _) ?_
  rintro e w3 ⟨rfl, hb⟩
  have LB3 := Lib.hid (LB2.out.trans (hb.mono LB2.out.size))
  have X1 := Lib.hid (X1.out.below hb X1.out.lt)
  have X2 := Lib.hid (X2.out.below hb X2.out.lt)
  have X3 := Lib.hid (X3.out.below hb X3.out.lt)
  clear hb LB2 
  obtain ⟨q0, q1, q2, q3, q4, q5, q6⟩ := X3.out.all
  go_wp2_with fail
  clear q0 q1 q2 q3 q4 q5 q6
  with_reducible refine Calls.mono (HF2.out _) ?_
  rintro e w4 ⟨rfl, hb⟩
  have LB4 := Lib.hid (LB3.out.trans (hb.mono LB3.out.size))
  have X1 := Lib.hid (X1.out.below hb X1.out.lt)
  have X2 := Lib.hid (X2.out.below hb X2.out.lt)
  have X3 := Lib.hid (X3.out.below hb X3.out.lt)
  clear hb LB3 
  obtain ⟨q0, q1, q2, q3, q4, q5, q6⟩ := X1.out.all
  obtain ⟨q7, q8, q9, q10, q11, q12, q13⟩ := X2.out.all
  obtain ⟨q14, q15, q16, q17, q18, q19, q20⟩ := X3.out.all
  go_wp2_with fail
  clear q0 q1 q2 q3 q4 q5 q6 q7 q8 q9 q10 q11 q12 q13 q14 q15 q16 q17 q18 q19 q20
  with_reducible refine Calls.mono (HPR.out _ LB4.out) ?_
  rintro e w5 ⟨A1, c1, rfl, hh, hb⟩
  have LB5 := Lib.hid (LB4.out.trans (hb.mono LB4.out.size))
  have X1 := Lib.hid (X1.out.below hb X1.out.lt)
  have X2 := Lib.hid (X2.out.below hb X2.out.lt)
  have X3 := Lib.hid (X3.out.below hb X3.out.lt)
  have H1 := Lib.hid hh
  clear hb LB4 hh
  have hb := ((Below.refl w5.heap.size w5).alloc (by simp; try omega) (.cells #[.int .i64 (pw : Nat), .int .i64 (ph : Nat), .slice A1 pn c1] 24))
  have LB6 := Lib.hid (LB5.out.trans (hb.mono LB5.out.size))
  have X1 := Lib.hid (X1.out.below hb X1.out.lt)
  have X2 := Lib.hid (X2.out.below hb X2.out.lt)
  have X3 := Lib.hid (X3.out.below hb X3.out.lt)
  have H1 := Lib.hid ((H1.out.below hb).more hb.size)
  have XP := Box.new w5 (pw : Nat) (ph : Nat) (.slice A1 pn c1)
  have XP := Lib.hid XP
  clear hb LB5
  go_upto_region 5 with (fail)
  obtain ⟨pb, hpb⟩ : ∃ z, w5.heap.size = z := ⟨_, rfl⟩
  rw [hpb] at XP
  try rw [hpb]
  clear hpb
  generalize w5.alloc (.cells #[.int .i64 (pw : Nat), .int .i64 (ph : Nat), .slice A1 pn c1] 24) = w6 at *
  obtain ⟨q0, q1, q2, q3, q4, q5, q6⟩ := XP.out.all
  obtain ⟨q7, q8, q9, q10, q11, q12, q13⟩ := X2.out.all
  obtain ⟨q14, q15, q16, q17, q18, q19, q20⟩ := X3.out.all
  go_wp2_with fail
  clear q0 q1 q2 q3 q4 q5 q6 q7 q8 q9 q10 q11 q12 q13 q14 q15 q16 q17 q18 q19 q20
  with_reducible refine Calls.mono (HFL.out _ _ _ LB6.out H1.out) ?_
  rintro e w7 ⟨A5, c5, rfl, hh, hb⟩
  have LB7 := Lib.hid (LB6.out.trans (hb.mono LB6.out.size))
  have X1 := Lib.hid (X1.out.below hb X1.out.lt)
  have X2 := Lib.hid (X2.out.below hb X2.out.lt)
  have X3 := Lib.hid (X3.out.below hb X3.out.lt)
  have H1 := Lib.hid ((H1.out.below hb).more hb.size)
  have XP := Lib.hid (XP.out.below hb XP.out.lt)
  have H5 := Lib.hid hh
  clear hb LB6 hh
  have hb := ((Below.refl w7.heap.size w7).alloc (by simp; try omega) (.cells #[.int .i64 W, .int .i64 H, .slice A5 n c5] 24))
  have LB8 := Lib.hid (LB7.out.trans (hb.mono LB7.out.size))
  have X1 := Lib.hid (X1.out.below hb X1.out.lt)
  have X2 := Lib.hid (X2.out.below hb X2.out.lt)
  have X3 := Lib.hid (X3.out.below hb X3.out.lt)
  have H1 := Lib.hid ((H1.out.below hb).more hb.size)
  have XP := Lib.hid (XP.out.below hb XP.out.lt)
  have H5 := Lib.hid ((H5.out.below hb).more hb.size)
  have XA := Box.new w7 W H (.slice A5 n c5)
  have XA := Lib.hid XA
  clear hb LB7
  go_upto_region 7 with (fail)
  obtain ⟨ab, hab⟩ : ∃ z, w7.heap.size = z := ⟨_, rfl⟩
  rw [hab] at XA
  try rw [hab]
  clear hab
  generalize w7.alloc (.cells #[.int .i64 W, .int .i64 H, .slice A5 n c5] 24) = w8 at *
  obtain ⟨q0, q1, q2, q3, q4, q5, q6⟩ := XA.out.all
  obtain ⟨q7, q8, q9, q10, q11, q12, q13⟩ := X1.out.all
  go_wp2_with fail
  clear q0 q1 q2 q3 q4 q5 q6 q7 q8 q9 q10 q11 q12 q13
  with_reducible refine Calls.mono (HSB.out _ _ _ LB8.out H5.out) ?_
  rintro e w9 ⟨rfl, hb⟩
  have LB9 := Lib.hid (LB8.out.trans (hb.mono LB8.out.size))
  have X1 := Lib.hid (X1.out.below hb X1.out.lt)
  have X2 := Lib.hid (X2.out.below hb X2.out.lt)
  have X3 := Lib.hid (X3.out.below hb X3.out.lt)
  have H1 := Lib.hid ((H1.out.below hb).more hb.size)
  have XP := Lib.hid (XP.out.below hb XP.out.lt)
  have H5 := Lib.hid ((H5.out.below hb).more hb.size)
  have XA := Lib.hid (XA.out.below hb XA.out.lt)
  clear hb LB8 
  clear H1 XP H5 XA
  obtain ⟨q0, q1, q2, q3, q4, q5, q6⟩ := X1.out.all
  go_wp2_with fail
  clear q0 q1 q2 q3 q4 q5 q6
  with_reducible refine Calls.mono (HUN.out _ LB9.out) ?_
  rintro e w10 ⟨A2, c2, A6, c6, rfl, ⟨G, hG, hE⟩, hat, hb⟩
  have HE := Lib.hid hE
  clear hE
  have LB10 := Lib.hid (LB9.out.trans (hb.mono LB9.out.size))
  have X1 := Lib.hid (X1.out.below hb X1.out.lt)
  have X2 := Lib.hid (X2.out.below hb X2.out.lt)
  have X3 := Lib.hid (X3.out.below hb X3.out.lt)
  have HG := Lib.hid hG
  have HAT := Lib.hid hat
  clear hb LB9 hG hat
  obtain ⟨q0, q1, q2, q3, q4, q5, q6⟩ := X1.out.all
  go_wp2_with fail
  clear q0 q1 q2 q3 q4 q5 q6
  with_reducible refine Calls.mono (HJN.out _ _ _ _ _ _ HG.out HE.out HAT.out) ?_
  rintro e w11 ⟨A7, c7, rfl, hh, hb⟩
  have LB11 := Lib.hid (LB10.out.trans (hb.mono LB10.out.size))
  have X1 := Lib.hid (X1.out.below hb X1.out.lt)
  have X2 := Lib.hid (X2.out.below hb X2.out.lt)
  have X3 := Lib.hid (X3.out.below hb X3.out.lt)
  have HG := Lib.hid (HG.out.below hb)
  have HAT := Lib.hid ((HAT.out.below hb).more hb.size)
  have H7 := Lib.hid hh
  clear hb LB10 hh
  have hb := ((Below.refl w11.heap.size w11).alloc (by simp; try omega) (.cells #[.int .i64 W, .int .i64 H, .slice A7 n c7] 24))
  have LB12 := Lib.hid (LB11.out.trans (hb.mono LB11.out.size))
  have X1 := Lib.hid (X1.out.below hb X1.out.lt)
  have X2 := Lib.hid (X2.out.below hb X2.out.lt)
  have X3 := Lib.hid (X3.out.below hb X3.out.lt)
  have HG := Lib.hid (HG.out.below hb)
  have HAT := Lib.hid ((HAT.out.below hb).more hb.size)
  have H7 := Lib.hid ((H7.out.below hb).more hb.size)
  have XB := Box.new w11 W H (.slice A7 n c7)
  have XB := Lib.hid XB
  clear hb LB11
  go_upto_region 13 with (fail)
  obtain ⟨jb, hjb⟩ : ∃ z, w11.heap.size = z := ⟨_, rfl⟩
  rw [hjb] at XB
  try rw [hjb]
  clear hjb
  generalize w11.alloc (.cells #[.int .i64 W, .int .i64 H, .slice A7 n c7] 24) = w12 at *
  obtain ⟨q0, q1, q2, q3, q4, q5, q6⟩ := XB.out.all
  obtain ⟨q7, q8, q9, q10, q11, q12, q13⟩ := X1.out.all
  go_wp2_with fail
  clear q0 q1 q2 q3 q4 q5 q6 q7 q8 q9 q10 q11 q12 q13
  with_reducible refine Calls.mono (HSB.out _ _ _ LB12.out H7.out) ?_
  rintro e w13 ⟨rfl, hb⟩
  have LB13 := Lib.hid (LB12.out.trans (hb.mono LB12.out.size))
  have X1 := Lib.hid (X1.out.below hb X1.out.lt)
  have X2 := Lib.hid (X2.out.below hb X2.out.lt)
  have X3 := Lib.hid (X3.out.below hb X3.out.lt)
  have HG := Lib.hid (HG.out.below hb)
  have HAT := Lib.hid ((HAT.out.below hb).more hb.size)
  have H7 := Lib.hid ((H7.out.below hb).more hb.size)
  have XB := Lib.hid (XB.out.below hb XB.out.lt)
  clear hb LB12 
  clear H7 XB X1 X2 X3
  go_wp2
  go_loopw [21, 22] (fun a i wr => ∃ j : Nat, j ≤ K ∧ i = .int .i64 j ∧ a = .int .i64 (L j : Nat) ∧ w13 = wr) (fun _ i _ => K - (intOf i).toNat)
  case atStart => exact ⟨0, Nat.zero_le _, rfl, by rw [HL0.out]; rfl, rfl⟩
  case round =>
    obtain ⟨j, hj, rfl, rfl, rfl⟩ := hrel
    by_cases hlt : j < K
    · have z1 : (j : Int) < (K : Int) := by omega
      have z2 : (0 : Int) ≤ (j : Int) := by omega
      obtain ⟨b2, o2, e2, hl2, hc2⟩ := HAT.out (by omega)
      have a0 := hc2 j hlt
      rw [show ((fun i => ((pp i : Nat) : Int)) j) = ((pp j : Nat) : Int) from rfl] at a0
      obtain ⟨i1, i2, i3, i4⟩ := HLL.out j hlt
      subst e2
      clear hc2
      obtain ⟨q, hq⟩ : ∃ z, pp j = z := ⟨_, rfl⟩
      obtain ⟨l, hl⟩ : ∃ z, L j = z := ⟨_, rfl⟩
      rw [hq] at i1 i2 i4 a0
      rw [hl] at i1 i3 i4 ⊢
      clear hq hl
      have HLN := Lib.hid i4
      clear i4
      have y3 : decide ((q : Int) < 0) = false := decide_eq_false (by omega)
      have y4 : decide ((l : Int) < (q : Int)) = false := decide_eq_false (by omega)
      have y5 : decide ((M : Int) ≤ (q : Int)) = false := decide_eq_false (by omega)
      by_cases hql : q = l
      · have y6 : ((q : Int) == (l : Int)) = true := by rw [hql]; simp
        have HLM := Lib.hid (HLN.out.trans (if_pos hql))
        have f9 := wrap_one (a := l) (by omega)
        clear HLN hql
        go_wp2
        go_roundw
        case rel => exact ⟨j + 1, by omega, by go_num, by rw [HLM.out]; go_num, trivial⟩
        case measure => simp [intOf]; omega
      · have y6 : ((q : Int) == (l : Int)) = false := by rw [beq_eq_false_iff_ne]; omega
        have HLM := Lib.hid (HLN.out.trans (if_neg hql))
        clear HLN hql
        go_wp2
        go_roundw
        case rel => exact ⟨j + 1, by omega, by go_num, by rw [HLM.out], trivial⟩
        case measure => simp [intOf]; omega
    · have e' : j = K := by omega
      have z1 : ¬ (j : Int) < (K : Int) := by omega
      have HLj := Lib.hid (show L j = M by rw [e']; exact HLK.out)
      rw [HLj.out]
      clear e' HLj
      go_wp2
      go_loopw [23] (fun i wr => ∃ p : Nat, p ≤ M ∧ i = .int .i64 p ∧ Hid (Below w13.heap.size w13 wr)) (fun i _ => M - (intOf i).toNat)
      case atStart => exact ⟨0, Nat.zero_le _, rfl, Lib.hid (Below.refl _ _)⟩
      case round =>
        obtain ⟨p, hp, rfl, HB⟩ := hrel
        by_cases hpm : p < M
        · have z3 : (p : Int) < (M : Int) := by omega
          have z4 : (0 : Int) ≤ (p : Int) := by omega
          go_wp2
          go_loopw [24] (fun i wr => ∃ r : Nat, r ≤ p ∧ i = .int .i64 r ∧ Hid (Below w13.heap.size w13 wr)) (fun i _ => p - (intOf i).toNat)
          case atStart => exact ⟨0, Nat.zero_le _, rfl, HB⟩
          case round =>
            obtain ⟨r, hr, rfl, HB2⟩ := hrel
            clear HB
            by_cases hrp : r < p
            · have z5 : (r : Int) < (p : Int) := by omega
              have z6 : (0 : Int) ≤ (r : Int) := by omega
              have z7 : (r : Int) < (M : Int) := by omega
              have hrm : r < M := by omega
              obtain ⟨b3, o3, e3, hl3, hc3⟩ := HG.out (by omega)
              obtain ⟨g0, g1, g2, g3⟩ := hc3 p hpm
              obtain ⟨k0, k1, k2, k3⟩ := hc3 r hrm
              obtain ⟨s0, s1, s2, s3⟩ := HE.out p hpm
              obtain ⟨t0, t1, t2, t3⟩ := HE.out r hrm
              have g0 := (HB2.out.cell (p := ⟨b3, o3 + p * 3, none⟩) hl3).trans g0
              have g1 := (HB2.out.cell (p := ⟨b3, o3 + p * 3 + 1, none⟩) hl3).trans g1
              have g2 := (HB2.out.cell (p := ⟨b3, o3 + p * 3 + 2, none⟩) hl3).trans g2
              have k0 := (HB2.out.cell (p := ⟨b3, o3 + r * 3, none⟩) hl3).trans k0
              have k1 := (HB2.out.cell (p := ⟨b3, o3 + r * 3 + 1, none⟩) hl3).trans k1
              have k2 := (HB2.out.cell (p := ⟨b3, o3 + r * 3 + 2, none⟩) hl3).trans k2
              have g3 := ((g3.below HB2.out).more HB2.out.size).drw
              have k3 := ((k3.below HB2.out).more HB2.out.size).drw
              rw [s0] at g0
              rw [s1] at g1
              rw [s2] at g2 g3
              rw [t0] at k0
              rw [t1] at k1
              rw [t2] at k2 k3
              have hne : ¬ ∀ j, j < nn → (G p).f j = (G r).f j := fun h => HDD.out r p hrp hpm fun j hj => by rw [← t3 j hj, ← s3 j hj, h j hj]
              have HSM := Lib.hid (rsame_loop (wn : Nat) (hn' : Nat) (wn : Nat) (hn' : Nat) (G p).A (G r).A nn (G p).c (G r).c (G p).f (G r).f wr.drew hnn rfl rfl g3 k3)
              rw [decide_eq_false hne] at HSM
              subst e3
              clear hne g3 k3 s0 s1 s2 s3 t0 t1 t2 t3 hc3 hl3
              generalize (G p).A = ga at *
              generalize (G p).c = gc at *
              generalize (G r).A = ka at *
              generalize (G r).c = kc at *
              go_upto_region 29 with (fail)
              go_still_tail 8, (by kernel_rfl)
              change wpList _ _ _ _ _ wr.drew
              go_wp2_with (go_at_call 49; (with_reducible refine Calls.mono HSM.out ?_); rintro e wa ⟨rfl, hb⟩)
              have HB3 := Lib.hid (HB2.out.trans (((Below.refl wr.heap.size wr).drew.trans hb).mono HB2.out.size))
              go_roundw
              case rel => exact ⟨r + 1, by omega, by go_num, HB3⟩
              case measure => simp [intOf]; omega
            · have z5 : ¬ (r : Int) < (p : Int) := by omega
              go_wp2
              go_roundw
              case rel => exact ⟨p + 1, by omega, by go_num, HB2⟩
              case measure => simp [intOf]; omega
        · have e' : p = M := by omega
          have z3 : ¬ (p : Int) < (M : Int) := by omega
          have y9 : ((M : Int) == (M : Int)) = true := by simp
          have LBE := Lib.hid (LB13.out.trans (HB.out.mono LB13.out.size))
          clear e'
          go_wp2
          go_ret
          exact ⟨rfl, LBE.out⟩
theorem joins13_any (W H X Y U V : Int) (A B C : Option Addr) (n c m d k e : Nat) (g a b : Nat → Bool) (x y : Int) (w : World) (hg : Holds w w.heap.size A n g) (ha : Holds w w.heap.size B m a) (hb : Holds w w.heap.size C k b) : Calls Try.prog 15 #[.agg #[.int .i64 W, .int .i64 H, .slice A n c], .int .i64 x, .int .i64 y, .agg #[.int .i64 X, .int .i64 Y, .slice B m d], .agg #[.int .i64 U, .int .i64 V, .slice C k e]] w fun e w' => e = .returned (.bool true) ∧ Below w.heap.size w w' := by
  cases h0 : fitB W H n
  · exact joins_nf0 W H X Y U V A B C n c m d k e x y w h0
  cases h1 : fitB X Y m
  · exact joins_nf1 W H X Y U V A B C n c m d k e x y w h0 h1
  cases h2 : fitB U V k
  · exact joins_nf2 W H X Y U V A B C n c m d k e x y w h0 h1 h2
  obtain ⟨P, Q, rfl, rfl, rfl, p0, p1, q0, q1⟩ := fitB_nat h0
  obtain ⟨u, v, rfl, rfl, rfl, u0, u1, v0, v1⟩ := fitB_nat h1
  obtain ⟨u', v', rfl, rfl, rfl, x0, x1, z0, z1⟩ := fitB_nat h2
  have hN : P * Q ≤ 64 * 64 := Nat.mul_le_mul p1 q1
  rcases prC P Q u v u' v' A B C c d e g a b w hg ha hb p0 p1 q0 q1 u0 u1 v0 v1 x0 x1 z0 z1 with ⟨z, hz, hP⟩ | ⟨pw, ph, pn, F, hP, hF⟩
  · rcases unC P Q x y A c g w hg p0 p1 q0 q1 with hU | ⟨wn, hn', nx, nn, M, K, FF, pp, L, rfl, s1, s2, s3, s4, s5, s6, s7, hU, hJ, s8, s9, s10, s11⟩
    · exact joins_e1 _ _ _ _ _ _ x y A B C _ c _ d _ e g w hg (by omega) h0 h1 h2 z hz hP hU
    · exact joins_e2 _ _ _ _ _ _ y A B C _ c _ d _ e g w hg (by omega) h0 h1 h2 z hz hP wn hn' nx nn M K FF pp L s1 s2 s3 s4 s5 s6 s7 hU hJ s8 s9 s10 s11
  · rcases unC P Q x y A c g w hg p0 p1 q0 q1 with hU | ⟨wn, hn', nx, nn, M, K, FF, pp, L, rfl, s1, s2, s3, s4, s5, s6, s7, hU, hJ, s8, s9, s10, s11⟩
    · exact joins_k1 _ _ _ _ _ _ x y A B C _ c _ d _ e g w hg (by omega) h0 h1 h2 pw ph pn F hP hF hU
    · exact joins_k2 _ _ _ _ _ _ y A B C _ c _ d _ e g w hg (by omega) h0 h1 h2 pw ph pn F hP hF wn hn' nx nn M K FF pp L s1 s2 s3 s4 s5 s6 s7 hU hJ s8 s9 s10 s11
end Go.Proofs.Ytngjcekjboedjaa
