/- DoubleWeaves: the walk. -/
import Derived.Test.YtgmcbdnfgdmmaaaDfw
import Derived.Test.YtgmcbdnfgdmmaaaDra
import Derived.BigRegion
namespace Go.Proofs.Ytgmcbdnfgdmmaaa
open Go.RowKit
set_option maxRecDepth 100000
set_option linter.unusedVariables false
set_option linter.unusedSimpArgs false

set_option maxHeartbeats 1600000 in
theorem weaves_great0 (W H X Y U V : Int) (A B C : Option Addr) (n c m d k e : Nat) (W4 H4 : Int) (D : Option Addr) (n4 l : Nat) (h0 : 1100 < n) (w : World) : Calls Try.prog 11 #[.agg #[.int .i64 W, .int .i64 H, .slice A n c], .agg #[.int .i64 X, .int .i64 Y, .slice B m d], .agg #[.int .i64 U, .int .i64 V, .slice C k e], .agg #[.int .i64 W4, .int .i64 H4, .slice D n4 l]] w fun e w' => e = .returned (.bool true) ∧ Below w.heap.size w w' := by
  have HG0 := Lib.hid (fun u => great12_any W H A n c u)
  rw [decide_eq_true h0] at HG0
  have LB0 := Lib.hid (Below.refl w.heap.size w)
  have X1 := Lib.hid (Box.new w W H (.slice A n c))
  have LB0 := Lib.hid (LB0.out.alloc LB0.out.size (.cells #[.int .i64 W, .int .i64 H, .slice A n c] 24))
  have X1 := Lib.hid (X1.out.alloc (.cells #[.int .i64 X, .int .i64 Y, .slice B m d] 24))
  have X2 := Box.new (w.alloc (.cells #[.int .i64 W, .int .i64 H, .slice A n c] 24)) X Y (.slice B m d)
  rw [show ((w.alloc (.cells #[.int .i64 W, .int .i64 H, .slice A n c] 24))).heap.size = w.heap.size + 1 by simp] at X2
  have X2 := Lib.hid X2
  have LB0 := Lib.hid (LB0.out.alloc LB0.out.size (.cells #[.int .i64 X, .int .i64 Y, .slice B m d] 24))
  have X1 := Lib.hid (X1.out.alloc (.cells #[.int .i64 U, .int .i64 V, .slice C k e] 24))
  have X2 := Lib.hid (X2.out.alloc (.cells #[.int .i64 U, .int .i64 V, .slice C k e] 24))
  have X3 := Box.new ((w.alloc (.cells #[.int .i64 W, .int .i64 H, .slice A n c] 24)).alloc (.cells #[.int .i64 X, .int .i64 Y, .slice B m d] 24)) U V (.slice C k e)
  rw [show (((w.alloc (.cells #[.int .i64 W, .int .i64 H, .slice A n c] 24)).alloc (.cells #[.int .i64 X, .int .i64 Y, .slice B m d] 24))).heap.size = w.heap.size + 2 by simp] at X3
  have X3 := Lib.hid X3
  have LB0 := Lib.hid (LB0.out.alloc LB0.out.size (.cells #[.int .i64 U, .int .i64 V, .slice C k e] 24))
  have X1 := Lib.hid (X1.out.alloc (.cells #[.int .i64 W4, .int .i64 H4, .slice D n4 l] 24))
  have X2 := Lib.hid (X2.out.alloc (.cells #[.int .i64 W4, .int .i64 H4, .slice D n4 l] 24))
  have X3 := Lib.hid (X3.out.alloc (.cells #[.int .i64 W4, .int .i64 H4, .slice D n4 l] 24))
  have X4 := Box.new (((w.alloc (.cells #[.int .i64 W, .int .i64 H, .slice A n c] 24)).alloc (.cells #[.int .i64 X, .int .i64 Y, .slice B m d] 24)).alloc (.cells #[.int .i64 U, .int .i64 V, .slice C k e] 24)) W4 H4 (.slice D n4 l)
  rw [show ((((w.alloc (.cells #[.int .i64 W, .int .i64 H, .slice A n c] 24)).alloc (.cells #[.int .i64 X, .int .i64 Y, .slice B m d] 24)).alloc (.cells #[.int .i64 U, .int .i64 V, .slice C k e] 24))).heap.size = w.heap.size + 3 by simp] at X4
  have X4 := Lib.hid X4
  have LB0 := Lib.hid (LB0.out.alloc LB0.out.size (.cells #[.int .i64 W4, .int .i64 H4, .slice D n4 l] 24))
  go_enter Try.func11, Try.ntmps11
  go_upto_region 1 with (fail)
  generalize (((w.alloc (.cells #[.int .i64 W, .int .i64 H, .slice A n c] 24)).alloc (.cells #[.int .i64 X, .int .i64 Y, .slice B m d] 24)).alloc (.cells #[.int .i64 U, .int .i64 V, .slice C k e] 24)).alloc (.cells #[.int .i64 W4, .int .i64 H4, .slice D n4 l] 24) = w0 at *
  obtain ⟨q0, q1, q2, q3, q4, q5, q6⟩ := X1.out.all
  go_wp2_with fail
  clear q0 q1 q2 q3 q4 q5 q6
  with_reducible refine Calls.mono (HG0.out _) ?_
  rintro e w1 ⟨rfl, hb⟩
  have LB1 := Lib.hid (LB0.out.trans (hb.mono LB0.out.size))
  have X1 := Lib.hid (X1.out.below hb X1.out.lt)
  have X2 := Lib.hid (X2.out.below hb X2.out.lt)
  have X3 := Lib.hid (X3.out.below hb X3.out.lt)
  have X4 := Lib.hid (X4.out.below hb X4.out.lt)
  clear hb LB0 
  go_wp2
  go_ret
  exact ⟨rfl, LB1.out⟩
set_option maxHeartbeats 1600000 in
theorem weaves_great1 (W H X Y U V : Int) (A B C : Option Addr) (n c m d k e : Nat) (W4 H4 : Int) (D : Option Addr) (n4 l : Nat) (h0 : n ≤ 1100) (h1 : 1100 < m) (w : World) : Calls Try.prog 11 #[.agg #[.int .i64 W, .int .i64 H, .slice A n c], .agg #[.int .i64 X, .int .i64 Y, .slice B m d], .agg #[.int .i64 U, .int .i64 V, .slice C k e], .agg #[.int .i64 W4, .int .i64 H4, .slice D n4 l]] w fun e w' => e = .returned (.bool true) ∧ Below w.heap.size w w' := by
  have HG0 := Lib.hid (fun u => great12_any W H A n c u)
  rw [decide_eq_false (by omega)] at HG0
  have HG1 := Lib.hid (fun u => great12_any X Y B m d u)
  rw [decide_eq_true h1] at HG1
  have LB0 := Lib.hid (Below.refl w.heap.size w)
  have X1 := Lib.hid (Box.new w W H (.slice A n c))
  have LB0 := Lib.hid (LB0.out.alloc LB0.out.size (.cells #[.int .i64 W, .int .i64 H, .slice A n c] 24))
  have X1 := Lib.hid (X1.out.alloc (.cells #[.int .i64 X, .int .i64 Y, .slice B m d] 24))
  have X2 := Box.new (w.alloc (.cells #[.int .i64 W, .int .i64 H, .slice A n c] 24)) X Y (.slice B m d)
  rw [show ((w.alloc (.cells #[.int .i64 W, .int .i64 H, .slice A n c] 24))).heap.size = w.heap.size + 1 by simp] at X2
  have X2 := Lib.hid X2
  have LB0 := Lib.hid (LB0.out.alloc LB0.out.size (.cells #[.int .i64 X, .int .i64 Y, .slice B m d] 24))
  have X1 := Lib.hid (X1.out.alloc (.cells #[.int .i64 U, .int .i64 V, .slice C k e] 24))
  have X2 := Lib.hid (X2.out.alloc (.cells #[.int .i64 U, .int .i64 V, .slice C k e] 24))
  have X3 := Box.new ((w.alloc (.cells #[.int .i64 W, .int .i64 H, .slice A n c] 24)).alloc (.cells #[.int .i64 X, .int .i64 Y, .slice B m d] 24)) U V (.slice C k e)
  rw [show (((w.alloc (.cells #[.int .i64 W, .int .i64 H, .slice A n c] 24)).alloc (.cells #[.int .i64 X, .int .i64 Y, .slice B m d] 24))).heap.size = w.heap.size + 2 by simp] at X3
  have X3 := Lib.hid X3
  have LB0 := Lib.hid (LB0.out.alloc LB0.out.size (.cells #[.int .i64 U, .int .i64 V, .slice C k e] 24))
  have X1 := Lib.hid (X1.out.alloc (.cells #[.int .i64 W4, .int .i64 H4, .slice D n4 l] 24))
  have X2 := Lib.hid (X2.out.alloc (.cells #[.int .i64 W4, .int .i64 H4, .slice D n4 l] 24))
  have X3 := Lib.hid (X3.out.alloc (.cells #[.int .i64 W4, .int .i64 H4, .slice D n4 l] 24))
  have X4 := Box.new (((w.alloc (.cells #[.int .i64 W, .int .i64 H, .slice A n c] 24)).alloc (.cells #[.int .i64 X, .int .i64 Y, .slice B m d] 24)).alloc (.cells #[.int .i64 U, .int .i64 V, .slice C k e] 24)) W4 H4 (.slice D n4 l)
  rw [show ((((w.alloc (.cells #[.int .i64 W, .int .i64 H, .slice A n c] 24)).alloc (.cells #[.int .i64 X, .int .i64 Y, .slice B m d] 24)).alloc (.cells #[.int .i64 U, .int .i64 V, .slice C k e] 24))).heap.size = w.heap.size + 3 by simp] at X4
  have X4 := Lib.hid X4
  have LB0 := Lib.hid (LB0.out.alloc LB0.out.size (.cells #[.int .i64 W4, .int .i64 H4, .slice D n4 l] 24))
  go_enter Try.func11, Try.ntmps11
  go_upto_region 1 with (fail)
  generalize (((w.alloc (.cells #[.int .i64 W, .int .i64 H, .slice A n c] 24)).alloc (.cells #[.int .i64 X, .int .i64 Y, .slice B m d] 24)).alloc (.cells #[.int .i64 U, .int .i64 V, .slice C k e] 24)).alloc (.cells #[.int .i64 W4, .int .i64 H4, .slice D n4 l] 24) = w0 at *
  obtain ⟨q0, q1, q2, q3, q4, q5, q6⟩ := X1.out.all
  go_wp2_with fail
  clear q0 q1 q2 q3 q4 q5 q6
  with_reducible refine Calls.mono (HG0.out _) ?_
  rintro e w1 ⟨rfl, hb⟩
  have LB1 := Lib.hid (LB0.out.trans (hb.mono LB0.out.size))
  have X1 := Lib.hid (X1.out.below hb X1.out.lt)
  have X2 := Lib.hid (X2.out.below hb X2.out.lt)
  have X3 := Lib.hid (X3.out.below hb X3.out.lt)
  have X4 := Lib.hid (X4.out.below hb X4.out.lt)
  clear hb LB0 
  obtain ⟨q0, q1, q2, q3, q4, q5, q6⟩ := X2.out.all
  go_wp2_with fail
  clear q0 q1 q2 q3 q4 q5 q6
  with_reducible refine Calls.mono (HG1.out _) ?_
  rintro e w2 ⟨rfl, hb⟩
  have LB2 := Lib.hid (LB1.out.trans (hb.mono LB1.out.size))
  have X1 := Lib.hid (X1.out.below hb X1.out.lt)
  have X2 := Lib.hid (X2.out.below hb X2.out.lt)
  have X3 := Lib.hid (X3.out.below hb X3.out.lt)
  have X4 := Lib.hid (X4.out.below hb X4.out.lt)
  clear hb LB1 
  go_wp2
  go_ret
  exact ⟨rfl, LB2.out⟩
set_option maxHeartbeats 1600000 in
theorem weaves_great2 (W H X Y U V : Int) (A B C : Option Addr) (n c m d k e : Nat) (W4 H4 : Int) (D : Option Addr) (n4 l : Nat) (h0 : n ≤ 1100) (h1 : m ≤ 1100) (h2 : 1100 < k) (w : World) : Calls Try.prog 11 #[.agg #[.int .i64 W, .int .i64 H, .slice A n c], .agg #[.int .i64 X, .int .i64 Y, .slice B m d], .agg #[.int .i64 U, .int .i64 V, .slice C k e], .agg #[.int .i64 W4, .int .i64 H4, .slice D n4 l]] w fun e w' => e = .returned (.bool true) ∧ Below w.heap.size w w' := by
  have HG0 := Lib.hid (fun u => great12_any W H A n c u)
  rw [decide_eq_false (by omega)] at HG0
  have HG1 := Lib.hid (fun u => great12_any X Y B m d u)
  rw [decide_eq_false (by omega)] at HG1
  have HG2 := Lib.hid (fun u => great12_any U V C k e u)
  rw [decide_eq_true h2] at HG2
  have LB0 := Lib.hid (Below.refl w.heap.size w)
  have X1 := Lib.hid (Box.new w W H (.slice A n c))
  have LB0 := Lib.hid (LB0.out.alloc LB0.out.size (.cells #[.int .i64 W, .int .i64 H, .slice A n c] 24))
  have X1 := Lib.hid (X1.out.alloc (.cells #[.int .i64 X, .int .i64 Y, .slice B m d] 24))
  have X2 := Box.new (w.alloc (.cells #[.int .i64 W, .int .i64 H, .slice A n c] 24)) X Y (.slice B m d)
  rw [show ((w.alloc (.cells #[.int .i64 W, .int .i64 H, .slice A n c] 24))).heap.size = w.heap.size + 1 by simp] at X2
  have X2 := Lib.hid X2
  have LB0 := Lib.hid (LB0.out.alloc LB0.out.size (.cells #[.int .i64 X, .int .i64 Y, .slice B m d] 24))
  have X1 := Lib.hid (X1.out.alloc (.cells #[.int .i64 U, .int .i64 V, .slice C k e] 24))
  have X2 := Lib.hid (X2.out.alloc (.cells #[.int .i64 U, .int .i64 V, .slice C k e] 24))
  have X3 := Box.new ((w.alloc (.cells #[.int .i64 W, .int .i64 H, .slice A n c] 24)).alloc (.cells #[.int .i64 X, .int .i64 Y, .slice B m d] 24)) U V (.slice C k e)
  rw [show (((w.alloc (.cells #[.int .i64 W, .int .i64 H, .slice A n c] 24)).alloc (.cells #[.int .i64 X, .int .i64 Y, .slice B m d] 24))).heap.size = w.heap.size + 2 by simp] at X3
  have X3 := Lib.hid X3
  have LB0 := Lib.hid (LB0.out.alloc LB0.out.size (.cells #[.int .i64 U, .int .i64 V, .slice C k e] 24))
  have X1 := Lib.hid (X1.out.alloc (.cells #[.int .i64 W4, .int .i64 H4, .slice D n4 l] 24))
  have X2 := Lib.hid (X2.out.alloc (.cells #[.int .i64 W4, .int .i64 H4, .slice D n4 l] 24))
  have X3 := Lib.hid (X3.out.alloc (.cells #[.int .i64 W4, .int .i64 H4, .slice D n4 l] 24))
  have X4 := Box.new (((w.alloc (.cells #[.int .i64 W, .int .i64 H, .slice A n c] 24)).alloc (.cells #[.int .i64 X, .int .i64 Y, .slice B m d] 24)).alloc (.cells #[.int .i64 U, .int .i64 V, .slice C k e] 24)) W4 H4 (.slice D n4 l)
  rw [show ((((w.alloc (.cells #[.int .i64 W, .int .i64 H, .slice A n c] 24)).alloc (.cells #[.int .i64 X, .int .i64 Y, .slice B m d] 24)).alloc (.cells #[.int .i64 U, .int .i64 V, .slice C k e] 24))).heap.size = w.heap.size + 3 by simp] at X4
  have X4 := Lib.hid X4
  have LB0 := Lib.hid (LB0.out.alloc LB0.out.size (.cells #[.int .i64 W4, .int .i64 H4, .slice D n4 l] 24))
  go_enter Try.func11, Try.ntmps11
  go_upto_region 1 with (fail)
  generalize (((w.alloc (.cells #[.int .i64 W, .int .i64 H, .slice A n c] 24)).alloc (.cells #[.int .i64 X, .int .i64 Y, .slice B m d] 24)).alloc (.cells #[.int .i64 U, .int .i64 V, .slice C k e] 24)).alloc (.cells #[.int .i64 W4, .int .i64 H4, .slice D n4 l] 24) = w0 at *
  obtain ⟨q0, q1, q2, q3, q4, q5, q6⟩ := X1.out.all
  go_wp2_with fail
  clear q0 q1 q2 q3 q4 q5 q6
  with_reducible refine Calls.mono (HG0.out _) ?_
  rintro e w1 ⟨rfl, hb⟩
  have LB1 := Lib.hid (LB0.out.trans (hb.mono LB0.out.size))
  have X1 := Lib.hid (X1.out.below hb X1.out.lt)
  have X2 := Lib.hid (X2.out.below hb X2.out.lt)
  have X3 := Lib.hid (X3.out.below hb X3.out.lt)
  have X4 := Lib.hid (X4.out.below hb X4.out.lt)
  clear hb LB0 
  obtain ⟨q0, q1, q2, q3, q4, q5, q6⟩ := X2.out.all
  go_wp2_with fail
  clear q0 q1 q2 q3 q4 q5 q6
  with_reducible refine Calls.mono (HG1.out _) ?_
  rintro e w2 ⟨rfl, hb⟩
  have LB2 := Lib.hid (LB1.out.trans (hb.mono LB1.out.size))
  have X1 := Lib.hid (X1.out.below hb X1.out.lt)
  have X2 := Lib.hid (X2.out.below hb X2.out.lt)
  have X3 := Lib.hid (X3.out.below hb X3.out.lt)
  have X4 := Lib.hid (X4.out.below hb X4.out.lt)
  clear hb LB1 
  obtain ⟨q0, q1, q2, q3, q4, q5, q6⟩ := X3.out.all
  go_wp2_with fail
  clear q0 q1 q2 q3 q4 q5 q6
  with_reducible refine Calls.mono (HG2.out _) ?_
  rintro e w3 ⟨rfl, hb⟩
  have LB3 := Lib.hid (LB2.out.trans (hb.mono LB2.out.size))
  have X1 := Lib.hid (X1.out.below hb X1.out.lt)
  have X2 := Lib.hid (X2.out.below hb X2.out.lt)
  have X3 := Lib.hid (X3.out.below hb X3.out.lt)
  have X4 := Lib.hid (X4.out.below hb X4.out.lt)
  clear hb LB2 
  go_wp2
  go_ret
  exact ⟨rfl, LB3.out⟩
set_option maxHeartbeats 1600000 in
theorem weaves_great3 (W H X Y U V : Int) (A B C : Option Addr) (n c m d k e : Nat) (W4 H4 : Int) (D : Option Addr) (n4 l : Nat) (h0 : n ≤ 1100) (h1 : m ≤ 1100) (h2 : k ≤ 1100) (h3 : 1100 < n4) (w : World) : Calls Try.prog 11 #[.agg #[.int .i64 W, .int .i64 H, .slice A n c], .agg #[.int .i64 X, .int .i64 Y, .slice B m d], .agg #[.int .i64 U, .int .i64 V, .slice C k e], .agg #[.int .i64 W4, .int .i64 H4, .slice D n4 l]] w fun e w' => e = .returned (.bool true) ∧ Below w.heap.size w w' := by
  have HG0 := Lib.hid (fun u => great12_any W H A n c u)
  rw [decide_eq_false (by omega)] at HG0
  have HG1 := Lib.hid (fun u => great12_any X Y B m d u)
  rw [decide_eq_false (by omega)] at HG1
  have HG2 := Lib.hid (fun u => great12_any U V C k e u)
  rw [decide_eq_false (by omega)] at HG2
  have HG3 := Lib.hid (fun u => great12_any W4 H4 D n4 l u)
  rw [decide_eq_true h3] at HG3
  have LB0 := Lib.hid (Below.refl w.heap.size w)
  have X1 := Lib.hid (Box.new w W H (.slice A n c))
  have LB0 := Lib.hid (LB0.out.alloc LB0.out.size (.cells #[.int .i64 W, .int .i64 H, .slice A n c] 24))
  have X1 := Lib.hid (X1.out.alloc (.cells #[.int .i64 X, .int .i64 Y, .slice B m d] 24))
  have X2 := Box.new (w.alloc (.cells #[.int .i64 W, .int .i64 H, .slice A n c] 24)) X Y (.slice B m d)
  rw [show ((w.alloc (.cells #[.int .i64 W, .int .i64 H, .slice A n c] 24))).heap.size = w.heap.size + 1 by simp] at X2
  have X2 := Lib.hid X2
  have LB0 := Lib.hid (LB0.out.alloc LB0.out.size (.cells #[.int .i64 X, .int .i64 Y, .slice B m d] 24))
  have X1 := Lib.hid (X1.out.alloc (.cells #[.int .i64 U, .int .i64 V, .slice C k e] 24))
  have X2 := Lib.hid (X2.out.alloc (.cells #[.int .i64 U, .int .i64 V, .slice C k e] 24))
  have X3 := Box.new ((w.alloc (.cells #[.int .i64 W, .int .i64 H, .slice A n c] 24)).alloc (.cells #[.int .i64 X, .int .i64 Y, .slice B m d] 24)) U V (.slice C k e)
  rw [show (((w.alloc (.cells #[.int .i64 W, .int .i64 H, .slice A n c] 24)).alloc (.cells #[.int .i64 X, .int .i64 Y, .slice B m d] 24))).heap.size = w.heap.size + 2 by simp] at X3
  have X3 := Lib.hid X3
  have LB0 := Lib.hid (LB0.out.alloc LB0.out.size (.cells #[.int .i64 U, .int .i64 V, .slice C k e] 24))
  have X1 := Lib.hid (X1.out.alloc (.cells #[.int .i64 W4, .int .i64 H4, .slice D n4 l] 24))
  have X2 := Lib.hid (X2.out.alloc (.cells #[.int .i64 W4, .int .i64 H4, .slice D n4 l] 24))
  have X3 := Lib.hid (X3.out.alloc (.cells #[.int .i64 W4, .int .i64 H4, .slice D n4 l] 24))
  have X4 := Box.new (((w.alloc (.cells #[.int .i64 W, .int .i64 H, .slice A n c] 24)).alloc (.cells #[.int .i64 X, .int .i64 Y, .slice B m d] 24)).alloc (.cells #[.int .i64 U, .int .i64 V, .slice C k e] 24)) W4 H4 (.slice D n4 l)
  rw [show ((((w.alloc (.cells #[.int .i64 W, .int .i64 H, .slice A n c] 24)).alloc (.cells #[.int .i64 X, .int .i64 Y, .slice B m d] 24)).alloc (.cells #[.int .i64 U, .int .i64 V, .slice C k e] 24))).heap.size = w.heap.size + 3 by simp] at X4
  have X4 := Lib.hid X4
  have LB0 := Lib.hid (LB0.out.alloc LB0.out.size (.cells #[.int .i64 W4, .int .i64 H4, .slice D n4 l] 24))
  go_enter Try.func11, Try.ntmps11
  go_upto_region 1 with (fail)
  generalize (((w.alloc (.cells #[.int .i64 W, .int .i64 H, .slice A n c] 24)).alloc (.cells #[.int .i64 X, .int .i64 Y, .slice B m d] 24)).alloc (.cells #[.int .i64 U, .int .i64 V, .slice C k e] 24)).alloc (.cells #[.int .i64 W4, .int .i64 H4, .slice D n4 l] 24) = w0 at *
  obtain ⟨q0, q1, q2, q3, q4, q5, q6⟩ := X1.out.all
  go_wp2_with fail
  clear q0 q1 q2 q3 q4 q5 q6
  with_reducible refine Calls.mono (HG0.out _) ?_
  rintro e w1 ⟨rfl, hb⟩
  have LB1 := Lib.hid (LB0.out.trans (hb.mono LB0.out.size))
  have X1 := Lib.hid (X1.out.below hb X1.out.lt)
  have X2 := Lib.hid (X2.out.below hb X2.out.lt)
  have X3 := Lib.hid (X3.out.below hb X3.out.lt)
  have X4 := Lib.hid (X4.out.below hb X4.out.lt)
  clear hb LB0 
  obtain ⟨q0, q1, q2, q3, q4, q5, q6⟩ := X2.out.all
  go_wp2_with fail
  clear q0 q1 q2 q3 q4 q5 q6
  with_reducible refine Calls.mono (HG1.out _) ?_
  rintro e w2 ⟨rfl, hb⟩
  have LB2 := Lib.hid (LB1.out.trans (hb.mono LB1.out.size))
  have X1 := Lib.hid (X1.out.below hb X1.out.lt)
  have X2 := Lib.hid (X2.out.below hb X2.out.lt)
  have X3 := Lib.hid (X3.out.below hb X3.out.lt)
  have X4 := Lib.hid (X4.out.below hb X4.out.lt)
  clear hb LB1 
  obtain ⟨q0, q1, q2, q3, q4, q5, q6⟩ := X3.out.all
  go_wp2_with fail
  clear q0 q1 q2 q3 q4 q5 q6
  with_reducible refine Calls.mono (HG2.out _) ?_
  rintro e w3 ⟨rfl, hb⟩
  have LB3 := Lib.hid (LB2.out.trans (hb.mono LB2.out.size))
  have X1 := Lib.hid (X1.out.below hb X1.out.lt)
  have X2 := Lib.hid (X2.out.below hb X2.out.lt)
  have X3 := Lib.hid (X3.out.below hb X3.out.lt)
  have X4 := Lib.hid (X4.out.below hb X4.out.lt)
  clear hb LB2 
  obtain ⟨q0, q1, q2, q3, q4, q5, q6⟩ := X4.out.all
  go_wp2_with fail
  clear q0 q1 q2 q3 q4 q5 q6
  with_reducible refine Calls.mono (HG3.out _) ?_
  rintro e w4 ⟨rfl, hb⟩
  have LB4 := Lib.hid (LB3.out.trans (hb.mono LB3.out.size))
  have X1 := Lib.hid (X1.out.below hb X1.out.lt)
  have X2 := Lib.hid (X2.out.below hb X2.out.lt)
  have X3 := Lib.hid (X3.out.below hb X3.out.lt)
  have X4 := Lib.hid (X4.out.below hb X4.out.lt)
  clear hb LB3 
  go_wp2
  go_ret
  exact ⟨rfl, LB4.out⟩
theorem apart_pair (W H : Int) (A : Option Addr) (n c : Nat) (a : Nat → Bool) (w : World) (hn : n ≤ 4200) (ha : Holds w w.heap.size A n a) :
    ∃ X' Y' N F1 F2 F3 z, N ≤ 5000 ∧ (∀ u, Below w.heap.size w u → Calls Try.prog 42 #[.agg #[.int .i64 W, .int .i64 H, .slice A n c]] u (RE4 u X' Y' N F1 F2 F3 z)) ∧ (∀ u, Below w.heap.size w u → Calls Try.prog 53 #[.agg #[.int .i64 W, .int .i64 H, .slice A n c]] u (RE4 u X' Y' N F1 F2 F3 z)) := by
  by_cases hz : chk W H n = 0
  · obtain ⟨P, Q, rfl, rfl, rfl, p1, p2, p3, p4⟩ := nat_of hz
    by_cases he : P % 2 = 0 ∧ Q % 2 = 0
    · obtain ⟨P', rfl⟩ : ∃ z, P = 2 * z := ⟨P / 2, by omega⟩
      obtain ⟨Q', rfl⟩ : ∃ z, Q = 2 * z := ⟨Q / 2, by omega⟩
      have l1 : P' * Q' ≤ 32 * 32 := Nat.mul_le_mul (by omega) (by omega)
      cases hD : isD P' Q' a
      · exact ⟨_, _, _, (fun _ => false), (fun _ => false), (fun _ => false), _, Nat.zero_le _, fun u hu => ((apart_even P' Q' (by omega) (by omega) (by omega) (by omega) ((ha.below hu).more hu.size)).1 hD).mono fun _ _ h => RE4.none h, fun u hu => (rapart_no P' Q' (by omega) (by omega) (by omega) (by omega) u ((ha.below hu).more hu.size) hD).mono fun _ _ h => RE4.none h⟩
      · exact ⟨_, _, _, _, _, _, _, by omega, fun u hu => ((apart_even P' Q' (by omega) (by omega) (by omega) (by omega) ((ha.below hu).more hu.size)).2 hD).mono fun _ _ ⟨A1, c1, A2, c2, A3, c3, h1, h2, h3, h4, h5⟩ => ⟨A1, c1, A2, c2, A3, c3, h1, h2, h3, h4, h5⟩, fun u hu => rapart_yes P' Q' (by omega) (by omega) (by omega) (by omega) u ((ha.below hu).more hu.size) hD⟩
    · exact ⟨_, _, _, (fun _ => false), (fun _ => false), (fun _ => false), _, Nat.zero_le _, fun u hu => (apart_odd P Q p1 p2 p3 p4 (by omega) ((ha.below hu).more hu.size)).mono fun _ _ h => RE4.none h, fun u hu => (rapart_odd p1 p2 p3 p4 (by omega) u).mono fun _ _ h => RE4.none h⟩
  · exact ⟨_, _, _, (fun _ => false), (fun _ => false), (fun _ => false), _, Nat.zero_le _, fun u hu => (apart_err hn rfl (by rw [bne_iff_ne]; exact hz) u).mono fun _ _ h => RE4.none h, fun u hu => (rapart_err rfl (by rw [bne_iff_ne]; exact hz) u).mono fun _ _ h => RE4.none h⟩
/-- A copy came back. -/
def TWR (w : World) (W H : Int) (n : Nat) (a : Nat → Bool) (e : Ending) (w' : World) : Prop := ∃ A c, e = .returned (.agg #[.int .i64 W, .int .i64 H, .slice A n c]) ∧ Holds w' w'.heap.size A n a ∧ Below w.heap.size w w'
theorem twin_all {W H : Int} {A : Option Addr} {n c : Nat} {a : Nat → Bool} (w : World) (hn : n ≤ 4200) (ha : Holds w w.heap.size A n a) : Calls Try.prog 51 #[.agg #[.int .i64 W, .int .i64 H, .slice A n c]] w (TWR w W H n a) := by
  rcases Nat.eq_zero_or_pos n with rfl | h0
  · exact (twin_none W H A c w).mono fun e w' ⟨k, he, hb⟩ => ⟨_, _, he, Holds.none_, hb⟩
  · exact (twin_some W H A n c a w hn h0 ha).mono fun e w' ⟨k, d, he, hk, hr, hb⟩ => ⟨_, _, he, hr.holds hr.lt, hb⟩
set_option maxHeartbeats 6400000 in
theorem weaves_corez (W H X Y U V : Int) (A B C : Option Addr) (n c m d k e : Nat) (W4 H4 : Int) (D : Option Addr) (n4 l : Nat) (w : World) (a : Nat → Bool) (ha : Holds w w.heap.size A n a) (h1 : n ≤ 1100) (h2 : m ≤ 1100) (h3 : k ≤ 1100) (h4 : n4 ≤ 1100) (X1 Y1 X4 Y4 : Int) (N4 : Nat) (F1 F4 F5 F6 : Nat → Bool) (z1 z4 : Int) (hN4 : N4 ≤ 5000)
    (p1 : ∀ u, Below w.heap.size w u → Calls Try.prog 48 #[.agg #[.int .i64 W, .int .i64 H, .slice A n c], .agg #[.int .i64 X, .int .i64 Y, .slice B m d], .agg #[.int .i64 U, .int .i64 V, .slice C k e]] u (RES u X1 Y1 0 F1 z1)) (r1 : ∀ u, Below w.heap.size w u → Calls Try.prog 52 #[.agg #[.int .i64 W, .int .i64 H, .slice A n c], .agg #[.int .i64 X, .int .i64 Y, .slice B m d], .agg #[.int .i64 U, .int .i64 V, .slice C k e]] u (RES u X1 Y1 0 F1 z1))
    (p4 : ∀ u, Below w.heap.size w u → Calls Try.prog 42 #[.agg #[.int .i64 W4, .int .i64 H4, .slice D n4 l]] u (RE4 u X4 Y4 N4 F4 F5 F6 z4)) (r4 : ∀ u, Below w.heap.size w u → Calls Try.prog 53 #[.agg #[.int .i64 W4, .int .i64 H4, .slice D n4 l]] u (RE4 u X4 Y4 N4 F4 F5 F6 z4)) :
    Calls Try.prog 11 #[.agg #[.int .i64 W, .int .i64 H, .slice A n c], .agg #[.int .i64 X, .int .i64 Y, .slice B m d], .agg #[.int .i64 U, .int .i64 V, .slice C k e], .agg #[.int .i64 W4, .int .i64 H4, .slice D n4 l]] w fun e w' => e = .returned (.bool true) ∧ Below w.heap.size w w' := by
  have HG0 := Lib.hid (fun u => great12_any W H A n c u)
  rw [decide_eq_false (by omega)] at HG0
  have HG1 := Lib.hid (fun u => great12_any X Y B m d u)
  rw [decide_eq_false (by omega)] at HG1
  have HG2 := Lib.hid (fun u => great12_any U V C k e u)
  rw [decide_eq_false (by omega)] at HG2
  have HG3 := Lib.hid (fun u => great12_any W4 H4 D n4 l u)
  rw [decide_eq_false (by omega)] at HG3
  have HTW := Lib.hid (fun u (hb : Below w.heap.size w u) => twin_all (W := W) (H := H) (c := c) u (show n ≤ 4200 by omega) ((ha.below hb).more hb.size))
  have HSE := Lib.hid (fun u A' c' (h1 : Holds u u.heap.size A n a) (h2 : Holds u u.heap.size A' n a) => rsame_t (W := W) (H := H) (c := c) (d := c') (show n ≤ 5000 by omega) (fun _ _ => rfl) u h1 h2)
  have HA := Lib.hid ha
  have P1 := Lib.hid p1
  have R1 := Lib.hid r1
  have P4 := Lib.hid p4
  have R4 := Lib.hid r4
  have za : (z1 != z1) = false := by simp
  have zb : (z4 != z4) = false := by simp
  have zc : (z1 == z1) = true := by simp
  have zd : (z4 == z4) = true := by simp
  have HS1 := Lib.hid (fun u A1 c1 A2 c2 (h1 : Holds u u.heap.size A1 0 F1) (h2 : Holds u u.heap.size A2 0 F1) => rsame_t (W := X1) (H := Y1) (c := c1) (d := c2) (show 0 ≤ 5000 by omega) (fun _ _ => rfl) u h1 h2)
  have HS4 := Lib.hid (fun u A1 c1 A2 c2 (h1 : Holds u u.heap.size A1 N4 F4) (h2 : Holds u u.heap.size A2 N4 F4) => rsame_t (W := X4) (H := Y4) (c := c1) (d := c2) hN4 (fun _ _ => rfl) u h1 h2)
  have HS5 := Lib.hid (fun u A1 c1 A2 c2 (h1 : Holds u u.heap.size A1 N4 F5) (h2 : Holds u u.heap.size A2 N4 F5) => rsame_t (W := X4) (H := Y4) (c := c1) (d := c2) hN4 (fun _ _ => rfl) u h1 h2)
  have HS6 := Lib.hid (fun u A1 c1 A2 c2 (h1 : Holds u u.heap.size A1 N4 F6) (h2 : Holds u u.heap.size A2 N4 F6) => rsame_t (W := X4) (H := Y4) (c := c1) (d := c2) hN4 (fun _ _ => rfl) u h1 h2)
  clear p1 r1 p4 r4 h1 h2 h3 h4 ha
  have LB0 := Lib.hid (Below.refl w.heap.size w)
  have XX1 := Lib.hid (Box.new w W H (.slice A n c))
  have LB0 := Lib.hid (LB0.out.alloc LB0.out.size (.cells #[.int .i64 W, .int .i64 H, .slice A n c] 24))
  have XX1 := Lib.hid (XX1.out.alloc (.cells #[.int .i64 X, .int .i64 Y, .slice B m d] 24))
  have XX2 := Box.new (w.alloc (.cells #[.int .i64 W, .int .i64 H, .slice A n c] 24)) X Y (.slice B m d)
  rw [show ((w.alloc (.cells #[.int .i64 W, .int .i64 H, .slice A n c] 24))).heap.size = w.heap.size + 1 by simp] at XX2
  have XX2 := Lib.hid XX2
  have LB0 := Lib.hid (LB0.out.alloc LB0.out.size (.cells #[.int .i64 X, .int .i64 Y, .slice B m d] 24))
  have XX1 := Lib.hid (XX1.out.alloc (.cells #[.int .i64 U, .int .i64 V, .slice C k e] 24))
  have XX2 := Lib.hid (XX2.out.alloc (.cells #[.int .i64 U, .int .i64 V, .slice C k e] 24))
  have XX3 := Box.new ((w.alloc (.cells #[.int .i64 W, .int .i64 H, .slice A n c] 24)).alloc (.cells #[.int .i64 X, .int .i64 Y, .slice B m d] 24)) U V (.slice C k e)
  rw [show (((w.alloc (.cells #[.int .i64 W, .int .i64 H, .slice A n c] 24)).alloc (.cells #[.int .i64 X, .int .i64 Y, .slice B m d] 24))).heap.size = w.heap.size + 2 by simp] at XX3
  have XX3 := Lib.hid XX3
  have LB0 := Lib.hid (LB0.out.alloc LB0.out.size (.cells #[.int .i64 U, .int .i64 V, .slice C k e] 24))
  have XX1 := Lib.hid (XX1.out.alloc (.cells #[.int .i64 W4, .int .i64 H4, .slice D n4 l] 24))
  have XX2 := Lib.hid (XX2.out.alloc (.cells #[.int .i64 W4, .int .i64 H4, .slice D n4 l] 24))
  have XX3 := Lib.hid (XX3.out.alloc (.cells #[.int .i64 W4, .int .i64 H4, .slice D n4 l] 24))
  have XX4 := Box.new (((w.alloc (.cells #[.int .i64 W, .int .i64 H, .slice A n c] 24)).alloc (.cells #[.int .i64 X, .int .i64 Y, .slice B m d] 24)).alloc (.cells #[.int .i64 U, .int .i64 V, .slice C k e] 24)) W4 H4 (.slice D n4 l)
  rw [show ((((w.alloc (.cells #[.int .i64 W, .int .i64 H, .slice A n c] 24)).alloc (.cells #[.int .i64 X, .int .i64 Y, .slice B m d] 24)).alloc (.cells #[.int .i64 U, .int .i64 V, .slice C k e] 24))).heap.size = w.heap.size + 3 by simp] at XX4
  have XX4 := Lib.hid XX4
  have LB0 := Lib.hid (LB0.out.alloc LB0.out.size (.cells #[.int .i64 W4, .int .i64 H4, .slice D n4 l] 24))
  go_enter Try.func11, Try.ntmps11
  go_upto_region 1 with (fail)
  generalize (((w.alloc (.cells #[.int .i64 W, .int .i64 H, .slice A n c] 24)).alloc (.cells #[.int .i64 X, .int .i64 Y, .slice B m d] 24)).alloc (.cells #[.int .i64 U, .int .i64 V, .slice C k e] 24)).alloc (.cells #[.int .i64 W4, .int .i64 H4, .slice D n4 l] 24) = w0 at *
  obtain ⟨q0, q1, q2, q3, q4, q5, q6⟩ := XX1.out.all
  go_wp2_with fail
  clear q0 q1 q2 q3 q4 q5 q6
  with_reducible refine Calls.mono (HG0.out _) ?_
  rintro e w1 ⟨rfl, hb⟩
  have LB1 := Lib.hid (LB0.out.trans (hb.mono LB0.out.size))
  have XX1 := Lib.hid (XX1.out.below hb XX1.out.lt)
  have XX2 := Lib.hid (XX2.out.below hb XX2.out.lt)
  have XX3 := Lib.hid (XX3.out.below hb XX3.out.lt)
  have XX4 := Lib.hid (XX4.out.below hb XX4.out.lt)
  clear hb LB0 
  obtain ⟨q0, q1, q2, q3, q4, q5, q6⟩ := XX2.out.all
  go_wp2_with fail
  clear q0 q1 q2 q3 q4 q5 q6
  with_reducible refine Calls.mono (HG1.out _) ?_
  rintro e w2 ⟨rfl, hb⟩
  have LB2 := Lib.hid (LB1.out.trans (hb.mono LB1.out.size))
  have XX1 := Lib.hid (XX1.out.below hb XX1.out.lt)
  have XX2 := Lib.hid (XX2.out.below hb XX2.out.lt)
  have XX3 := Lib.hid (XX3.out.below hb XX3.out.lt)
  have XX4 := Lib.hid (XX4.out.below hb XX4.out.lt)
  clear hb LB1 
  obtain ⟨q0, q1, q2, q3, q4, q5, q6⟩ := XX3.out.all
  go_wp2_with fail
  clear q0 q1 q2 q3 q4 q5 q6
  with_reducible refine Calls.mono (HG2.out _) ?_
  rintro e w3 ⟨rfl, hb⟩
  have LB3 := Lib.hid (LB2.out.trans (hb.mono LB2.out.size))
  have XX1 := Lib.hid (XX1.out.below hb XX1.out.lt)
  have XX2 := Lib.hid (XX2.out.below hb XX2.out.lt)
  have XX3 := Lib.hid (XX3.out.below hb XX3.out.lt)
  have XX4 := Lib.hid (XX4.out.below hb XX4.out.lt)
  clear hb LB2 
  obtain ⟨q0, q1, q2, q3, q4, q5, q6⟩ := XX4.out.all
  go_wp2_with fail
  clear q0 q1 q2 q3 q4 q5 q6
  with_reducible refine Calls.mono (HG3.out _) ?_
  rintro e w4 ⟨rfl, hb⟩
  have LB4 := Lib.hid (LB3.out.trans (hb.mono LB3.out.size))
  have XX1 := Lib.hid (XX1.out.below hb XX1.out.lt)
  have XX2 := Lib.hid (XX2.out.below hb XX2.out.lt)
  have XX3 := Lib.hid (XX3.out.below hb XX3.out.lt)
  have XX4 := Lib.hid (XX4.out.below hb XX4.out.lt)
  clear hb LB3 
  obtain ⟨q0, q1, q2, q3, q4, q5, q6⟩ := XX1.out.all
  go_wp2_with fail
  clear q0 q1 q2 q3 q4 q5 q6
  with_reducible refine Calls.mono (HTW.out _ LB4.out) ?_
  rintro e w5 ⟨At, ct, rfl, hh, hb⟩
  have LB5 := Lib.hid (LB4.out.trans (hb.mono LB4.out.size))
  have XX1 := Lib.hid (XX1.out.below hb XX1.out.lt)
  have XX2 := Lib.hid (XX2.out.below hb XX2.out.lt)
  have XX3 := Lib.hid (XX3.out.below hb XX3.out.lt)
  have XX4 := Lib.hid (XX4.out.below hb XX4.out.lt)
  have HT := Lib.hid hh
  clear hb LB4 hh
  have hb := ((Below.refl w5.heap.size w5).alloc (by simp; try omega) (.cells #[.int .i64 W, .int .i64 H, .slice At n ct] 24))
  have LB6 := Lib.hid (LB5.out.trans (hb.mono LB5.out.size))
  have XX1 := Lib.hid (XX1.out.below hb XX1.out.lt)
  have XX2 := Lib.hid (XX2.out.below hb XX2.out.lt)
  have XX3 := Lib.hid (XX3.out.below hb XX3.out.lt)
  have XX4 := Lib.hid (XX4.out.below hb XX4.out.lt)
  have HT := Lib.hid ((HT.out.below hb).more hb.size)
  have XT := Box.new w5 W H (.slice At n ct)
  have XT := Lib.hid XT
  clear hb LB5
  go_upto_region 4 with (fail)
  obtain ⟨tb, htb⟩ : ∃ z, w5.heap.size = z := ⟨_, rfl⟩
  rw [htb] at XT
  try rw [htb]
  clear htb
  generalize w5.alloc (.cells #[.int .i64 W, .int .i64 H, .slice At n ct] 24) = w6 at *
  have HTP := HT
  have BP := Lib.hid (Below.refl w6.heap.size w6)
  obtain ⟨q0, q1, q2, q3, q4, q5, q6⟩ := XX1.out.all
  obtain ⟨q7, q8, q9, q10, q11, q12, q13⟩ := XX2.out.all
  obtain ⟨q14, q15, q16, q17, q18, q19, q20⟩ := XX3.out.all
  go_wp2_with fail
  clear q0 q1 q2 q3 q4 q5 q6 q7 q8 q9 q10 q11 q12 q13 q14 q15 q16 q17 q18 q19 q20
  with_reducible refine Calls.mono (P1.out _ LB6.out) ?_
  rintro e w7 ⟨A1, c1, rfl, hh, _, hb⟩
  have LB7 := Lib.hid (LB6.out.trans (hb.mono LB6.out.size))
  have XX1 := Lib.hid (XX1.out.below hb XX1.out.lt)
  have XX2 := Lib.hid (XX2.out.below hb XX2.out.lt)
  have XX3 := Lib.hid (XX3.out.below hb XX3.out.lt)
  have XX4 := Lib.hid (XX4.out.below hb XX4.out.lt)
  have HT := Lib.hid ((HT.out.below hb).more hb.size)
  have XT := Lib.hid (XT.out.below hb XT.out.lt)
  have BP := Lib.hid (BP.out.trans (hb.mono BP.out.size))
  have H1 := Lib.hid hh
  clear hb LB6 hh
  have hb := ((Below.refl w7.heap.size w7).alloc (by simp; try omega) (.cells #[.int .i64 X1, .int .i64 Y1, .slice A1 0 c1] 24))
  have LB8 := Lib.hid (LB7.out.trans (hb.mono LB7.out.size))
  have XX1 := Lib.hid (XX1.out.below hb XX1.out.lt)
  have XX2 := Lib.hid (XX2.out.below hb XX2.out.lt)
  have XX3 := Lib.hid (XX3.out.below hb XX3.out.lt)
  have XX4 := Lib.hid (XX4.out.below hb XX4.out.lt)
  have HT := Lib.hid ((HT.out.below hb).more hb.size)
  have XT := Lib.hid (XT.out.below hb XT.out.lt)
  have BP := Lib.hid (BP.out.trans (hb.mono BP.out.size))
  have H1 := Lib.hid ((H1.out.below hb).more hb.size)
  have B1 := Box.new w7 X1 Y1 (.slice A1 0 c1)
  have B1 := Lib.hid B1
  clear hb LB7
  go_upto_region 5 with (fail)
  obtain ⟨bb1, hbb1⟩ : ∃ z, w7.heap.size = z := ⟨_, rfl⟩
  rw [hbb1] at B1
  try rw [hbb1]
  clear hbb1
  generalize w7.alloc (.cells #[.int .i64 X1, .int .i64 Y1, .slice A1 0 c1] 24) = w8 at *
  obtain ⟨q0, q1, q2, q3, q4, q5, q6⟩ := XX1.out.all
  obtain ⟨q7, q8, q9, q10, q11, q12, q13⟩ := XX2.out.all
  obtain ⟨q14, q15, q16, q17, q18, q19, q20⟩ := XX3.out.all
  go_wp2_with fail
  clear q0 q1 q2 q3 q4 q5 q6 q7 q8 q9 q10 q11 q12 q13 q14 q15 q16 q17 q18 q19 q20
  with_reducible refine Calls.mono (R1.out _ LB8.out) ?_
  rintro e w9 ⟨A2, c2, rfl, hh, _, hb⟩
  have LB9 := Lib.hid (LB8.out.trans (hb.mono LB8.out.size))
  have XX1 := Lib.hid (XX1.out.below hb XX1.out.lt)
  have XX2 := Lib.hid (XX2.out.below hb XX2.out.lt)
  have XX3 := Lib.hid (XX3.out.below hb XX3.out.lt)
  have XX4 := Lib.hid (XX4.out.below hb XX4.out.lt)
  have HT := Lib.hid ((HT.out.below hb).more hb.size)
  have XT := Lib.hid (XT.out.below hb XT.out.lt)
  have BP := Lib.hid (BP.out.trans (hb.mono BP.out.size))
  have H1 := Lib.hid ((H1.out.below hb).more hb.size)
  have B1 := Lib.hid (B1.out.below hb B1.out.lt)
  have H2h := Lib.hid hh
  clear hb LB8 hh
  have hb := ((Below.refl w9.heap.size w9).alloc (by simp; try omega) (.cells #[.int .i64 X1, .int .i64 Y1, .slice A2 0 c2] 24))
  have LB10 := Lib.hid (LB9.out.trans (hb.mono LB9.out.size))
  have XX1 := Lib.hid (XX1.out.below hb XX1.out.lt)
  have XX2 := Lib.hid (XX2.out.below hb XX2.out.lt)
  have XX3 := Lib.hid (XX3.out.below hb XX3.out.lt)
  have XX4 := Lib.hid (XX4.out.below hb XX4.out.lt)
  have HT := Lib.hid ((HT.out.below hb).more hb.size)
  have XT := Lib.hid (XT.out.below hb XT.out.lt)
  have BP := Lib.hid (BP.out.trans (hb.mono BP.out.size))
  have H1 := Lib.hid ((H1.out.below hb).more hb.size)
  have B1 := Lib.hid (B1.out.below hb B1.out.lt)
  have H2h := Lib.hid ((H2h.out.below hb).more hb.size)
  have B2 := Box.new w9 X1 Y1 (.slice A2 0 c2)
  have B2 := Lib.hid B2
  clear hb LB9
  go_upto_region 6 with (fail)
  obtain ⟨bb2, hbb2⟩ : ∃ z, w9.heap.size = z := ⟨_, rfl⟩
  rw [hbb2] at B2
  try rw [hbb2]
  clear hbb2
  generalize w9.alloc (.cells #[.int .i64 X1, .int .i64 Y1, .slice A2 0 c2] 24) = w10 at *
  obtain ⟨q0, q1, q2, q3, q4, q5, q6⟩ := XX4.out.all
  go_wp2_with fail
  clear q0 q1 q2 q3 q4 q5 q6
  with_reducible refine Calls.mono (P4.out _ LB10.out) ?_
  rintro e w11 ⟨Ap4, cp4, Ap5, cp5, Ap6, cp6, rfl, hh4, hh5, hh6, hb⟩
  have LB11 := Lib.hid (LB10.out.trans (hb.mono LB10.out.size))
  have XX1 := Lib.hid (XX1.out.below hb XX1.out.lt)
  have XX2 := Lib.hid (XX2.out.below hb XX2.out.lt)
  have XX3 := Lib.hid (XX3.out.below hb XX3.out.lt)
  have XX4 := Lib.hid (XX4.out.below hb XX4.out.lt)
  have HT := Lib.hid ((HT.out.below hb).more hb.size)
  have XT := Lib.hid (XT.out.below hb XT.out.lt)
  have BP := Lib.hid (BP.out.trans (hb.mono BP.out.size))
  have H1 := Lib.hid ((H1.out.below hb).more hb.size)
  have B1 := Lib.hid (B1.out.below hb B1.out.lt)
  have H2h := Lib.hid ((H2h.out.below hb).more hb.size)
  have B2 := Lib.hid (B2.out.below hb B2.out.lt)
  have Hp4 := Lib.hid hh4
  have Hp5 := Lib.hid hh5
  have Hp6 := Lib.hid hh6
  clear hb LB10 hh4 hh5 hh6
  have hb := ((((Below.refl w11.heap.size w11).alloc (by simp; try omega) (.cells #[.int .i64 X4, .int .i64 Y4, .slice Ap4 N4 cp4] 24)).alloc (by simp; try omega) (.cells #[.int .i64 X4, .int .i64 Y4, .slice Ap5 N4 cp5] 24)).alloc (by simp; try omega) (.cells #[.int .i64 X4, .int .i64 Y4, .slice Ap6 N4 cp6] 24))
  have LB12 := Lib.hid (LB11.out.trans (hb.mono LB11.out.size))
  have XX1 := Lib.hid (XX1.out.below hb XX1.out.lt)
  have XX2 := Lib.hid (XX2.out.below hb XX2.out.lt)
  have XX3 := Lib.hid (XX3.out.below hb XX3.out.lt)
  have XX4 := Lib.hid (XX4.out.below hb XX4.out.lt)
  have HT := Lib.hid ((HT.out.below hb).more hb.size)
  have XT := Lib.hid (XT.out.below hb XT.out.lt)
  have BP := Lib.hid (BP.out.trans (hb.mono BP.out.size))
  have H1 := Lib.hid ((H1.out.below hb).more hb.size)
  have B1 := Lib.hid (B1.out.below hb B1.out.lt)
  have H2h := Lib.hid ((H2h.out.below hb).more hb.size)
  have B2 := Lib.hid (B2.out.below hb B2.out.lt)
  have Hp4 := Lib.hid ((Hp4.out.below hb).more hb.size)
  have Hp5 := Lib.hid ((Hp5.out.below hb).more hb.size)
  have Hp6 := Lib.hid ((Hp6.out.below hb).more hb.size)
  have Yp4 := Box.new w11 X4 Y4 (.slice Ap4 N4 cp4)
  have Yp4 := Lib.hid Yp4
  have Yp4 := Lib.hid (Yp4.out.alloc (.cells #[.int .i64 X4, .int .i64 Y4, .slice Ap5 N4 cp5] 24))
  have Yp4 := Lib.hid (Yp4.out.alloc (.cells #[.int .i64 X4, .int .i64 Y4, .slice Ap6 N4 cp6] 24))
  have Yp5 := Box.new (w11.alloc (.cells #[.int .i64 X4, .int .i64 Y4, .slice Ap4 N4 cp4] 24)) X4 Y4 (.slice Ap5 N4 cp5)
  rw [show (w11.alloc (.cells #[.int .i64 X4, .int .i64 Y4, .slice Ap4 N4 cp4] 24)).heap.size = w11.heap.size + 1 by simp] at Yp5
  have Yp5 := Lib.hid Yp5
  have Yp5 := Lib.hid (Yp5.out.alloc (.cells #[.int .i64 X4, .int .i64 Y4, .slice Ap6 N4 cp6] 24))
  have Yp6 := Box.new ((w11.alloc (.cells #[.int .i64 X4, .int .i64 Y4, .slice Ap4 N4 cp4] 24)).alloc (.cells #[.int .i64 X4, .int .i64 Y4, .slice Ap5 N4 cp5] 24)) X4 Y4 (.slice Ap6 N4 cp6)
  rw [show ((w11.alloc (.cells #[.int .i64 X4, .int .i64 Y4, .slice Ap4 N4 cp4] 24)).alloc (.cells #[.int .i64 X4, .int .i64 Y4, .slice Ap5 N4 cp5] 24)).heap.size = w11.heap.size + 1 + 1 by simp] at Yp6
  have Yp6 := Lib.hid Yp6
  clear hb LB11
  go_upto_region 7 with (fail)
  obtain ⟨yp6, hyp6⟩ : ∃ z, w11.heap.size + 1 + 1 = z := ⟨_, rfl⟩
  rw [hyp6] at Yp6
  try rw [hyp6]
  obtain ⟨yp5, hyp5⟩ : ∃ z, w11.heap.size + 1 = z := ⟨_, rfl⟩
  rw [hyp5] at Yp5
  try rw [hyp5]
  obtain ⟨yp4, hyp4⟩ : ∃ z, w11.heap.size = z := ⟨_, rfl⟩
  rw [hyp4] at Yp4
  try rw [hyp4]
  clear hyp4 hyp5 hyp6
  generalize ((w11.alloc (.cells #[.int .i64 X4, .int .i64 Y4, .slice Ap4 N4 cp4] 24)).alloc (.cells #[.int .i64 X4, .int .i64 Y4, .slice Ap5 N4 cp5] 24)).alloc (.cells #[.int .i64 X4, .int .i64 Y4, .slice Ap6 N4 cp6] 24) = w12 at *
  obtain ⟨q0, q1, q2, q3, q4, q5, q6⟩ := XX4.out.all
  go_wp2_with fail
  clear q0 q1 q2 q3 q4 q5 q6
  with_reducible refine Calls.mono (R4.out _ LB12.out) ?_
  rintro e w13 ⟨Ar4, cr4, Ar5, cr5, Ar6, cr6, rfl, hh4, hh5, hh6, hb⟩
  have LB13 := Lib.hid (LB12.out.trans (hb.mono LB12.out.size))
  have XX1 := Lib.hid (XX1.out.below hb XX1.out.lt)
  have XX2 := Lib.hid (XX2.out.below hb XX2.out.lt)
  have XX3 := Lib.hid (XX3.out.below hb XX3.out.lt)
  have XX4 := Lib.hid (XX4.out.below hb XX4.out.lt)
  have HT := Lib.hid ((HT.out.below hb).more hb.size)
  have XT := Lib.hid (XT.out.below hb XT.out.lt)
  have BP := Lib.hid (BP.out.trans (hb.mono BP.out.size))
  have H1 := Lib.hid ((H1.out.below hb).more hb.size)
  have B1 := Lib.hid (B1.out.below hb B1.out.lt)
  have H2h := Lib.hid ((H2h.out.below hb).more hb.size)
  have B2 := Lib.hid (B2.out.below hb B2.out.lt)
  have Hp4 := Lib.hid ((Hp4.out.below hb).more hb.size)
  have Hp5 := Lib.hid ((Hp5.out.below hb).more hb.size)
  have Hp6 := Lib.hid ((Hp6.out.below hb).more hb.size)
  have Yp4 := Lib.hid (Yp4.out.below hb Yp4.out.lt)
  have Yp5 := Lib.hid (Yp5.out.below hb Yp5.out.lt)
  have Yp6 := Lib.hid (Yp6.out.below hb Yp6.out.lt)
  have Hr4 := Lib.hid hh4
  have Hr5 := Lib.hid hh5
  have Hr6 := Lib.hid hh6
  clear hb LB12 hh4 hh5 hh6
  have hb := ((((Below.refl w13.heap.size w13).alloc (by simp; try omega) (.cells #[.int .i64 X4, .int .i64 Y4, .slice Ar4 N4 cr4] 24)).alloc (by simp; try omega) (.cells #[.int .i64 X4, .int .i64 Y4, .slice Ar5 N4 cr5] 24)).alloc (by simp; try omega) (.cells #[.int .i64 X4, .int .i64 Y4, .slice Ar6 N4 cr6] 24))
  have LB14 := Lib.hid (LB13.out.trans (hb.mono LB13.out.size))
  have XX1 := Lib.hid (XX1.out.below hb XX1.out.lt)
  have XX2 := Lib.hid (XX2.out.below hb XX2.out.lt)
  have XX3 := Lib.hid (XX3.out.below hb XX3.out.lt)
  have XX4 := Lib.hid (XX4.out.below hb XX4.out.lt)
  have HT := Lib.hid ((HT.out.below hb).more hb.size)
  have XT := Lib.hid (XT.out.below hb XT.out.lt)
  have BP := Lib.hid (BP.out.trans (hb.mono BP.out.size))
  have H1 := Lib.hid ((H1.out.below hb).more hb.size)
  have B1 := Lib.hid (B1.out.below hb B1.out.lt)
  have H2h := Lib.hid ((H2h.out.below hb).more hb.size)
  have B2 := Lib.hid (B2.out.below hb B2.out.lt)
  have Hp4 := Lib.hid ((Hp4.out.below hb).more hb.size)
  have Hp5 := Lib.hid ((Hp5.out.below hb).more hb.size)
  have Hp6 := Lib.hid ((Hp6.out.below hb).more hb.size)
  have Yp4 := Lib.hid (Yp4.out.below hb Yp4.out.lt)
  have Yp5 := Lib.hid (Yp5.out.below hb Yp5.out.lt)
  have Yp6 := Lib.hid (Yp6.out.below hb Yp6.out.lt)
  have Hr4 := Lib.hid ((Hr4.out.below hb).more hb.size)
  have Hr5 := Lib.hid ((Hr5.out.below hb).more hb.size)
  have Hr6 := Lib.hid ((Hr6.out.below hb).more hb.size)
  have Yr4 := Box.new w13 X4 Y4 (.slice Ar4 N4 cr4)
  have Yr4 := Lib.hid Yr4
  have Yr4 := Lib.hid (Yr4.out.alloc (.cells #[.int .i64 X4, .int .i64 Y4, .slice Ar5 N4 cr5] 24))
  have Yr4 := Lib.hid (Yr4.out.alloc (.cells #[.int .i64 X4, .int .i64 Y4, .slice Ar6 N4 cr6] 24))
  have Yr5 := Box.new (w13.alloc (.cells #[.int .i64 X4, .int .i64 Y4, .slice Ar4 N4 cr4] 24)) X4 Y4 (.slice Ar5 N4 cr5)
  rw [show (w13.alloc (.cells #[.int .i64 X4, .int .i64 Y4, .slice Ar4 N4 cr4] 24)).heap.size = w13.heap.size + 1 by simp] at Yr5
  have Yr5 := Lib.hid Yr5
  have Yr5 := Lib.hid (Yr5.out.alloc (.cells #[.int .i64 X4, .int .i64 Y4, .slice Ar6 N4 cr6] 24))
  have Yr6 := Box.new ((w13.alloc (.cells #[.int .i64 X4, .int .i64 Y4, .slice Ar4 N4 cr4] 24)).alloc (.cells #[.int .i64 X4, .int .i64 Y4, .slice Ar5 N4 cr5] 24)) X4 Y4 (.slice Ar6 N4 cr6)
  rw [show ((w13.alloc (.cells #[.int .i64 X4, .int .i64 Y4, .slice Ar4 N4 cr4] 24)).alloc (.cells #[.int .i64 X4, .int .i64 Y4, .slice Ar5 N4 cr5] 24)).heap.size = w13.heap.size + 1 + 1 by simp] at Yr6
  have Yr6 := Lib.hid Yr6
  clear hb LB13
  go_upto_region 8 with (fail)
  obtain ⟨yr6, hyr6⟩ : ∃ z, w13.heap.size + 1 + 1 = z := ⟨_, rfl⟩
  rw [hyr6] at Yr6
  try rw [hyr6]
  obtain ⟨yr5, hyr5⟩ : ∃ z, w13.heap.size + 1 = z := ⟨_, rfl⟩
  rw [hyr5] at Yr5
  try rw [hyr5]
  obtain ⟨yr4, hyr4⟩ : ∃ z, w13.heap.size = z := ⟨_, rfl⟩
  rw [hyr4] at Yr4
  try rw [hyr4]
  clear hyr4 hyr5 hyr6
  generalize ((w13.alloc (.cells #[.int .i64 X4, .int .i64 Y4, .slice Ar4 N4 cr4] 24)).alloc (.cells #[.int .i64 X4, .int .i64 Y4, .slice Ar5 N4 cr5] 24)).alloc (.cells #[.int .i64 X4, .int .i64 Y4, .slice Ar6 N4 cr6] 24) = w14 at *
  obtain ⟨q0, q1, q2, q3, q4, q5, q6⟩ := B1.out.all
  obtain ⟨q7, q8, q9, q10, q11, q12, q13⟩ := B2.out.all
  go_wp2_with fail
  clear q0 q1 q2 q3 q4 q5 q6 q7 q8 q9 q10 q11 q12 q13
  with_reducible refine Calls.mono (HS1.out _ _ _ _ _ H1.out H2h.out) ?_
  rintro e w15 ⟨rfl, hb⟩
  have LB15 := Lib.hid (LB14.out.trans (hb.mono LB14.out.size))
  have XX1 := Lib.hid (XX1.out.below hb XX1.out.lt)
  have XX2 := Lib.hid (XX2.out.below hb XX2.out.lt)
  have XX3 := Lib.hid (XX3.out.below hb XX3.out.lt)
  have XX4 := Lib.hid (XX4.out.below hb XX4.out.lt)
  have HT := Lib.hid ((HT.out.below hb).more hb.size)
  have XT := Lib.hid (XT.out.below hb XT.out.lt)
  have BP := Lib.hid (BP.out.trans (hb.mono BP.out.size))
  have H1 := Lib.hid ((H1.out.below hb).more hb.size)
  have B1 := Lib.hid (B1.out.below hb B1.out.lt)
  have H2h := Lib.hid ((H2h.out.below hb).more hb.size)
  have B2 := Lib.hid (B2.out.below hb B2.out.lt)
  have Hp4 := Lib.hid ((Hp4.out.below hb).more hb.size)
  have Hp5 := Lib.hid ((Hp5.out.below hb).more hb.size)
  have Hp6 := Lib.hid ((Hp6.out.below hb).more hb.size)
  have Yp4 := Lib.hid (Yp4.out.below hb Yp4.out.lt)
  have Yp5 := Lib.hid (Yp5.out.below hb Yp5.out.lt)
  have Yp6 := Lib.hid (Yp6.out.below hb Yp6.out.lt)
  have Hr4 := Lib.hid ((Hr4.out.below hb).more hb.size)
  have Hr5 := Lib.hid ((Hr5.out.below hb).more hb.size)
  have Hr6 := Lib.hid ((Hr6.out.below hb).more hb.size)
  have Yr4 := Lib.hid (Yr4.out.below hb Yr4.out.lt)
  have Yr5 := Lib.hid (Yr5.out.below hb Yr5.out.lt)
  have Yr6 := Lib.hid (Yr6.out.below hb Yr6.out.lt)
  clear hb LB14 
  obtain ⟨q0, q1, q2, q3, q4, q5, q6⟩ := Yp4.out.all
  obtain ⟨q7, q8, q9, q10, q11, q12, q13⟩ := Yr4.out.all
  go_wp2_with fail
  clear q0 q1 q2 q3 q4 q5 q6 q7 q8 q9 q10 q11 q12 q13
  with_reducible refine Calls.mono (HS4.out _ _ _ _ _ Hp4.out Hr4.out) ?_
  rintro e w16 ⟨rfl, hb⟩
  have LB16 := Lib.hid (LB15.out.trans (hb.mono LB15.out.size))
  have XX1 := Lib.hid (XX1.out.below hb XX1.out.lt)
  have XX2 := Lib.hid (XX2.out.below hb XX2.out.lt)
  have XX3 := Lib.hid (XX3.out.below hb XX3.out.lt)
  have XX4 := Lib.hid (XX4.out.below hb XX4.out.lt)
  have HT := Lib.hid ((HT.out.below hb).more hb.size)
  have XT := Lib.hid (XT.out.below hb XT.out.lt)
  have BP := Lib.hid (BP.out.trans (hb.mono BP.out.size))
  have H1 := Lib.hid ((H1.out.below hb).more hb.size)
  have B1 := Lib.hid (B1.out.below hb B1.out.lt)
  have H2h := Lib.hid ((H2h.out.below hb).more hb.size)
  have B2 := Lib.hid (B2.out.below hb B2.out.lt)
  have Hp4 := Lib.hid ((Hp4.out.below hb).more hb.size)
  have Hp5 := Lib.hid ((Hp5.out.below hb).more hb.size)
  have Hp6 := Lib.hid ((Hp6.out.below hb).more hb.size)
  have Yp4 := Lib.hid (Yp4.out.below hb Yp4.out.lt)
  have Yp5 := Lib.hid (Yp5.out.below hb Yp5.out.lt)
  have Yp6 := Lib.hid (Yp6.out.below hb Yp6.out.lt)
  have Hr4 := Lib.hid ((Hr4.out.below hb).more hb.size)
  have Hr5 := Lib.hid ((Hr5.out.below hb).more hb.size)
  have Hr6 := Lib.hid ((Hr6.out.below hb).more hb.size)
  have Yr4 := Lib.hid (Yr4.out.below hb Yr4.out.lt)
  have Yr5 := Lib.hid (Yr5.out.below hb Yr5.out.lt)
  have Yr6 := Lib.hid (Yr6.out.below hb Yr6.out.lt)
  clear hb LB15 
  obtain ⟨q0, q1, q2, q3, q4, q5, q6⟩ := Yp5.out.all
  obtain ⟨q7, q8, q9, q10, q11, q12, q13⟩ := Yr5.out.all
  go_wp2_with fail
  clear q0 q1 q2 q3 q4 q5 q6 q7 q8 q9 q10 q11 q12 q13
  with_reducible refine Calls.mono (HS5.out _ _ _ _ _ Hp5.out Hr5.out) ?_
  rintro e w17 ⟨rfl, hb⟩
  have LB17 := Lib.hid (LB16.out.trans (hb.mono LB16.out.size))
  have XX1 := Lib.hid (XX1.out.below hb XX1.out.lt)
  have XX2 := Lib.hid (XX2.out.below hb XX2.out.lt)
  have XX3 := Lib.hid (XX3.out.below hb XX3.out.lt)
  have XX4 := Lib.hid (XX4.out.below hb XX4.out.lt)
  have HT := Lib.hid ((HT.out.below hb).more hb.size)
  have XT := Lib.hid (XT.out.below hb XT.out.lt)
  have BP := Lib.hid (BP.out.trans (hb.mono BP.out.size))
  have H1 := Lib.hid ((H1.out.below hb).more hb.size)
  have B1 := Lib.hid (B1.out.below hb B1.out.lt)
  have H2h := Lib.hid ((H2h.out.below hb).more hb.size)
  have B2 := Lib.hid (B2.out.below hb B2.out.lt)
  have Hp4 := Lib.hid ((Hp4.out.below hb).more hb.size)
  have Hp5 := Lib.hid ((Hp5.out.below hb).more hb.size)
  have Hp6 := Lib.hid ((Hp6.out.below hb).more hb.size)
  have Yp4 := Lib.hid (Yp4.out.below hb Yp4.out.lt)
  have Yp5 := Lib.hid (Yp5.out.below hb Yp5.out.lt)
  have Yp6 := Lib.hid (Yp6.out.below hb Yp6.out.lt)
  have Hr4 := Lib.hid ((Hr4.out.below hb).more hb.size)
  have Hr5 := Lib.hid ((Hr5.out.below hb).more hb.size)
  have Hr6 := Lib.hid ((Hr6.out.below hb).more hb.size)
  have Yr4 := Lib.hid (Yr4.out.below hb Yr4.out.lt)
  have Yr5 := Lib.hid (Yr5.out.below hb Yr5.out.lt)
  have Yr6 := Lib.hid (Yr6.out.below hb Yr6.out.lt)
  clear hb LB16 
  obtain ⟨q0, q1, q2, q3, q4, q5, q6⟩ := Yp6.out.all
  obtain ⟨q7, q8, q9, q10, q11, q12, q13⟩ := Yr6.out.all
  go_wp2_with fail
  clear q0 q1 q2 q3 q4 q5 q6 q7 q8 q9 q10 q11 q12 q13
  with_reducible refine Calls.mono (HS6.out _ _ _ _ _ Hp6.out Hr6.out) ?_
  rintro e w18 ⟨rfl, hb⟩
  have LB18 := Lib.hid (LB17.out.trans (hb.mono LB17.out.size))
  have XX1 := Lib.hid (XX1.out.below hb XX1.out.lt)
  have XX2 := Lib.hid (XX2.out.below hb XX2.out.lt)
  have XX3 := Lib.hid (XX3.out.below hb XX3.out.lt)
  have XX4 := Lib.hid (XX4.out.below hb XX4.out.lt)
  have HT := Lib.hid ((HT.out.below hb).more hb.size)
  have XT := Lib.hid (XT.out.below hb XT.out.lt)
  have BP := Lib.hid (BP.out.trans (hb.mono BP.out.size))
  have H1 := Lib.hid ((H1.out.below hb).more hb.size)
  have B1 := Lib.hid (B1.out.below hb B1.out.lt)
  have H2h := Lib.hid ((H2h.out.below hb).more hb.size)
  have B2 := Lib.hid (B2.out.below hb B2.out.lt)
  have Hp4 := Lib.hid ((Hp4.out.below hb).more hb.size)
  have Hp5 := Lib.hid ((Hp5.out.below hb).more hb.size)
  have Hp6 := Lib.hid ((Hp6.out.below hb).more hb.size)
  have Yp4 := Lib.hid (Yp4.out.below hb Yp4.out.lt)
  have Yp5 := Lib.hid (Yp5.out.below hb Yp5.out.lt)
  have Yp6 := Lib.hid (Yp6.out.below hb Yp6.out.lt)
  have Hr4 := Lib.hid ((Hr4.out.below hb).more hb.size)
  have Hr5 := Lib.hid ((Hr5.out.below hb).more hb.size)
  have Hr6 := Lib.hid ((Hr6.out.below hb).more hb.size)
  have Yr4 := Lib.hid (Yr4.out.below hb Yr4.out.lt)
  have Yr5 := Lib.hid (Yr5.out.below hb Yr5.out.lt)
  have Yr6 := Lib.hid (Yr6.out.below hb Yr6.out.lt)
  clear hb LB17 
  clear H2h
  clear B2
  clear Hp4
  clear Hp5
  clear Hp6
  clear Hr4
  clear Hr5
  clear Hr6
  clear Yp4
  clear Yp5
  clear Yp6
  clear Yr4
  clear Yr5
  clear Yr6
  obtain ⟨q0, q1, q2, q3, q4, q5, q6⟩ := B1.out.all
  obtain ⟨q7, q8, q9, q10, q11, q12, q13⟩ := XX1.out.all
  obtain ⟨q14, q15, q16, q17, q18, q19, q20⟩ := XT.out.all
  go_wp2
  go_loopw [22] (fun i wr => i = .int .i64 0 ∧ wr = w18) (fun _ _ => 0)
  case atStart => exact ⟨rfl, rfl⟩
  case round =>
    obtain ⟨rfl, rfl⟩ := hrel
    go_wp2_with fail
    with_reducible refine Calls.mono (HSE.out _ _ _ ((HA.out.below LB18.out).more LB18.out.size) HT.out) ?_
    rintro e w99 ⟨rfl, hb⟩
    have LB9 := Lib.hid (LB18.out.trans (hb.mono LB18.out.size))
    go_wp2
    go_ret
    exact ⟨rfl, LB9.out⟩
set_option maxHeartbeats 6400000 in
theorem weaves_corep (W H X Y U V : Int) (A B C : Option Addr) (n c m d k e : Nat) (W4 H4 : Int) (D : Option Addr) (n4 l : Nat) (w : World) (a : Nat → Bool) (ha : Holds w w.heap.size A n a) (h1 : n ≤ 1100) (h2 : m ≤ 1100) (h3 : k ≤ 1100) (h4 : n4 ≤ 1100) (X1 Y1 X4 Y4 : Int) (N1 N4 : Nat) (F1 F4 F5 F6 : Nat → Bool) (z1 z4 : Int) (hN0 : 0 < N1) (hN1 : N1 ≤ 5000) (hN4 : N4 ≤ 5000)
    (p1 : ∀ u, Below w.heap.size w u → Calls Try.prog 48 #[.agg #[.int .i64 W, .int .i64 H, .slice A n c], .agg #[.int .i64 X, .int .i64 Y, .slice B m d], .agg #[.int .i64 U, .int .i64 V, .slice C k e]] u (RES u X1 Y1 N1 F1 z1)) (r1 : ∀ u, Below w.heap.size w u → Calls Try.prog 52 #[.agg #[.int .i64 W, .int .i64 H, .slice A n c], .agg #[.int .i64 X, .int .i64 Y, .slice B m d], .agg #[.int .i64 U, .int .i64 V, .slice C k e]] u (RES u X1 Y1 N1 F1 z1))
    (p4 : ∀ u, Below w.heap.size w u → Calls Try.prog 42 #[.agg #[.int .i64 W4, .int .i64 H4, .slice D n4 l]] u (RE4 u X4 Y4 N4 F4 F5 F6 z4)) (r4 : ∀ u, Below w.heap.size w u → Calls Try.prog 53 #[.agg #[.int .i64 W4, .int .i64 H4, .slice D n4 l]] u (RE4 u X4 Y4 N4 F4 F5 F6 z4)) :
    Calls Try.prog 11 #[.agg #[.int .i64 W, .int .i64 H, .slice A n c], .agg #[.int .i64 X, .int .i64 Y, .slice B m d], .agg #[.int .i64 U, .int .i64 V, .slice C k e], .agg #[.int .i64 W4, .int .i64 H4, .slice D n4 l]] w fun e w' => e = .returned (.bool true) ∧ Below w.heap.size w w' := by
  have HG0 := Lib.hid (fun u => great12_any W H A n c u)
  rw [decide_eq_false (by omega)] at HG0
  have HG1 := Lib.hid (fun u => great12_any X Y B m d u)
  rw [decide_eq_false (by omega)] at HG1
  have HG2 := Lib.hid (fun u => great12_any U V C k e u)
  rw [decide_eq_false (by omega)] at HG2
  have HG3 := Lib.hid (fun u => great12_any W4 H4 D n4 l u)
  rw [decide_eq_false (by omega)] at HG3
  have HTW := Lib.hid (fun u (hb : Below w.heap.size w u) => twin_all (W := W) (H := H) (c := c) u (show n ≤ 4200 by omega) ((ha.below hb).more hb.size))
  have HSE := Lib.hid (fun u A' c' (h1 : Holds u u.heap.size A n a) (h2 : Holds u u.heap.size A' n a) => rsame_t (W := W) (H := H) (c := c) (d := c') (show n ≤ 5000 by omega) (fun _ _ => rfl) u h1 h2)
  have HA := Lib.hid ha
  have P1 := Lib.hid p1
  have R1 := Lib.hid r1
  have P4 := Lib.hid p4
  have R4 := Lib.hid r4
  have za : (z1 != z1) = false := by simp
  have zb : (z4 != z4) = false := by simp
  have zc : (z1 == z1) = true := by simp
  have zd : (z4 == z4) = true := by simp
  have HS1 := Lib.hid (fun u A1 c1 A2 c2 (h1 : Holds u u.heap.size A1 N1 F1) (h2 : Holds u u.heap.size A2 N1 F1) => rsame_t (W := X1) (H := Y1) (c := c1) (d := c2) (show N1 ≤ 5000 by omega) (fun _ _ => rfl) u h1 h2)
  have HS4 := Lib.hid (fun u A1 c1 A2 c2 (h1 : Holds u u.heap.size A1 N4 F4) (h2 : Holds u u.heap.size A2 N4 F4) => rsame_t (W := X4) (H := Y4) (c := c1) (d := c2) hN4 (fun _ _ => rfl) u h1 h2)
  have HS5 := Lib.hid (fun u A1 c1 A2 c2 (h1 : Holds u u.heap.size A1 N4 F5) (h2 : Holds u u.heap.size A2 N4 F5) => rsame_t (W := X4) (H := Y4) (c := c1) (d := c2) hN4 (fun _ _ => rfl) u h1 h2)
  have HS6 := Lib.hid (fun u A1 c1 A2 c2 (h1 : Holds u u.heap.size A1 N4 F6) (h2 : Holds u u.heap.size A2 N4 F6) => rsame_t (W := X4) (H := Y4) (c := c1) (d := c2) hN4 (fun _ _ => rfl) u h1 h2)
  clear p1 r1 p4 r4 h1 h2 h3 h4 ha
  have LB0 := Lib.hid (Below.refl w.heap.size w)
  have XX1 := Lib.hid (Box.new w W H (.slice A n c))
  have LB0 := Lib.hid (LB0.out.alloc LB0.out.size (.cells #[.int .i64 W, .int .i64 H, .slice A n c] 24))
  have XX1 := Lib.hid (XX1.out.alloc (.cells #[.int .i64 X, .int .i64 Y, .slice B m d] 24))
  have XX2 := Box.new (w.alloc (.cells #[.int .i64 W, .int .i64 H, .slice A n c] 24)) X Y (.slice B m d)
  rw [show ((w.alloc (.cells #[.int .i64 W, .int .i64 H, .slice A n c] 24))).heap.size = w.heap.size + 1 by simp] at XX2
  have XX2 := Lib.hid XX2
  have LB0 := Lib.hid (LB0.out.alloc LB0.out.size (.cells #[.int .i64 X, .int .i64 Y, .slice B m d] 24))
  have XX1 := Lib.hid (XX1.out.alloc (.cells #[.int .i64 U, .int .i64 V, .slice C k e] 24))
  have XX2 := Lib.hid (XX2.out.alloc (.cells #[.int .i64 U, .int .i64 V, .slice C k e] 24))
  have XX3 := Box.new ((w.alloc (.cells #[.int .i64 W, .int .i64 H, .slice A n c] 24)).alloc (.cells #[.int .i64 X, .int .i64 Y, .slice B m d] 24)) U V (.slice C k e)
  rw [show (((w.alloc (.cells #[.int .i64 W, .int .i64 H, .slice A n c] 24)).alloc (.cells #[.int .i64 X, .int .i64 Y, .slice B m d] 24))).heap.size = w.heap.size + 2 by simp] at XX3
  have XX3 := Lib.hid XX3
  have LB0 := Lib.hid (LB0.out.alloc LB0.out.size (.cells #[.int .i64 U, .int .i64 V, .slice C k e] 24))
  have XX1 := Lib.hid (XX1.out.alloc (.cells #[.int .i64 W4, .int .i64 H4, .slice D n4 l] 24))
  have XX2 := Lib.hid (XX2.out.alloc (.cells #[.int .i64 W4, .int .i64 H4, .slice D n4 l] 24))
  have XX3 := Lib.hid (XX3.out.alloc (.cells #[.int .i64 W4, .int .i64 H4, .slice D n4 l] 24))
  have XX4 := Box.new (((w.alloc (.cells #[.int .i64 W, .int .i64 H, .slice A n c] 24)).alloc (.cells #[.int .i64 X, .int .i64 Y, .slice B m d] 24)).alloc (.cells #[.int .i64 U, .int .i64 V, .slice C k e] 24)) W4 H4 (.slice D n4 l)
  rw [show ((((w.alloc (.cells #[.int .i64 W, .int .i64 H, .slice A n c] 24)).alloc (.cells #[.int .i64 X, .int .i64 Y, .slice B m d] 24)).alloc (.cells #[.int .i64 U, .int .i64 V, .slice C k e] 24))).heap.size = w.heap.size + 3 by simp] at XX4
  have XX4 := Lib.hid XX4
  have LB0 := Lib.hid (LB0.out.alloc LB0.out.size (.cells #[.int .i64 W4, .int .i64 H4, .slice D n4 l] 24))
  go_enter Try.func11, Try.ntmps11
  go_upto_region 1 with (fail)
  generalize (((w.alloc (.cells #[.int .i64 W, .int .i64 H, .slice A n c] 24)).alloc (.cells #[.int .i64 X, .int .i64 Y, .slice B m d] 24)).alloc (.cells #[.int .i64 U, .int .i64 V, .slice C k e] 24)).alloc (.cells #[.int .i64 W4, .int .i64 H4, .slice D n4 l] 24) = w0 at *
  obtain ⟨q0, q1, q2, q3, q4, q5, q6⟩ := XX1.out.all
  go_wp2_with fail
  clear q0 q1 q2 q3 q4 q5 q6
  with_reducible refine Calls.mono (HG0.out _) ?_
  rintro e w1 ⟨rfl, hb⟩
  have LB1 := Lib.hid (LB0.out.trans (hb.mono LB0.out.size))
  have XX1 := Lib.hid (XX1.out.below hb XX1.out.lt)
  have XX2 := Lib.hid (XX2.out.below hb XX2.out.lt)
  have XX3 := Lib.hid (XX3.out.below hb XX3.out.lt)
  have XX4 := Lib.hid (XX4.out.below hb XX4.out.lt)
  clear hb LB0 
  obtain ⟨q0, q1, q2, q3, q4, q5, q6⟩ := XX2.out.all
  go_wp2_with fail
  clear q0 q1 q2 q3 q4 q5 q6
  with_reducible refine Calls.mono (HG1.out _) ?_
  rintro e w2 ⟨rfl, hb⟩
  have LB2 := Lib.hid (LB1.out.trans (hb.mono LB1.out.size))
  have XX1 := Lib.hid (XX1.out.below hb XX1.out.lt)
  have XX2 := Lib.hid (XX2.out.below hb XX2.out.lt)
  have XX3 := Lib.hid (XX3.out.below hb XX3.out.lt)
  have XX4 := Lib.hid (XX4.out.below hb XX4.out.lt)
  clear hb LB1 
  obtain ⟨q0, q1, q2, q3, q4, q5, q6⟩ := XX3.out.all
  go_wp2_with fail
  clear q0 q1 q2 q3 q4 q5 q6
  with_reducible refine Calls.mono (HG2.out _) ?_
  rintro e w3 ⟨rfl, hb⟩
  have LB3 := Lib.hid (LB2.out.trans (hb.mono LB2.out.size))
  have XX1 := Lib.hid (XX1.out.below hb XX1.out.lt)
  have XX2 := Lib.hid (XX2.out.below hb XX2.out.lt)
  have XX3 := Lib.hid (XX3.out.below hb XX3.out.lt)
  have XX4 := Lib.hid (XX4.out.below hb XX4.out.lt)
  clear hb LB2 
  obtain ⟨q0, q1, q2, q3, q4, q5, q6⟩ := XX4.out.all
  go_wp2_with fail
  clear q0 q1 q2 q3 q4 q5 q6
  with_reducible refine Calls.mono (HG3.out _) ?_
  rintro e w4 ⟨rfl, hb⟩
  have LB4 := Lib.hid (LB3.out.trans (hb.mono LB3.out.size))
  have XX1 := Lib.hid (XX1.out.below hb XX1.out.lt)
  have XX2 := Lib.hid (XX2.out.below hb XX2.out.lt)
  have XX3 := Lib.hid (XX3.out.below hb XX3.out.lt)
  have XX4 := Lib.hid (XX4.out.below hb XX4.out.lt)
  clear hb LB3 
  obtain ⟨q0, q1, q2, q3, q4, q5, q6⟩ := XX1.out.all
  go_wp2_with fail
  clear q0 q1 q2 q3 q4 q5 q6
  with_reducible refine Calls.mono (HTW.out _ LB4.out) ?_
  rintro e w5 ⟨At, ct, rfl, hh, hb⟩
  have LB5 := Lib.hid (LB4.out.trans (hb.mono LB4.out.size))
  have XX1 := Lib.hid (XX1.out.below hb XX1.out.lt)
  have XX2 := Lib.hid (XX2.out.below hb XX2.out.lt)
  have XX3 := Lib.hid (XX3.out.below hb XX3.out.lt)
  have XX4 := Lib.hid (XX4.out.below hb XX4.out.lt)
  have HT := Lib.hid hh
  clear hb LB4 hh
  have hb := ((Below.refl w5.heap.size w5).alloc (by simp; try omega) (.cells #[.int .i64 W, .int .i64 H, .slice At n ct] 24))
  have LB6 := Lib.hid (LB5.out.trans (hb.mono LB5.out.size))
  have XX1 := Lib.hid (XX1.out.below hb XX1.out.lt)
  have XX2 := Lib.hid (XX2.out.below hb XX2.out.lt)
  have XX3 := Lib.hid (XX3.out.below hb XX3.out.lt)
  have XX4 := Lib.hid (XX4.out.below hb XX4.out.lt)
  have HT := Lib.hid ((HT.out.below hb).more hb.size)
  have XT := Box.new w5 W H (.slice At n ct)
  have XT := Lib.hid XT
  clear hb LB5
  go_upto_region 4 with (fail)
  obtain ⟨tb, htb⟩ : ∃ z, w5.heap.size = z := ⟨_, rfl⟩
  rw [htb] at XT
  try rw [htb]
  clear htb
  generalize w5.alloc (.cells #[.int .i64 W, .int .i64 H, .slice At n ct] 24) = w6 at *
  have HTP := HT
  have LBPRE := Lib.hid LB6.out.size
  have BP := Lib.hid (Below.refl w6.heap.size w6)
  obtain ⟨q0, q1, q2, q3, q4, q5, q6⟩ := XX1.out.all
  obtain ⟨q7, q8, q9, q10, q11, q12, q13⟩ := XX2.out.all
  obtain ⟨q14, q15, q16, q17, q18, q19, q20⟩ := XX3.out.all
  go_wp2_with fail
  clear q0 q1 q2 q3 q4 q5 q6 q7 q8 q9 q10 q11 q12 q13 q14 q15 q16 q17 q18 q19 q20
  with_reducible refine Calls.mono (P1.out _ LB6.out) ?_
  rintro e w7 ⟨A1, c1, rfl, _, hro, hb⟩
  obtain ⟨kc, rfl, hkc, hrow⟩ := hro hN0
  clear hro
  have LB7 := Lib.hid (LB6.out.trans (hb.mono LB6.out.size))
  have XX1 := Lib.hid (XX1.out.below hb XX1.out.lt)
  have XX2 := Lib.hid (XX2.out.below hb XX2.out.lt)
  have XX3 := Lib.hid (XX3.out.below hb XX3.out.lt)
  have XX4 := Lib.hid (XX4.out.below hb XX4.out.lt)
  have HT := Lib.hid ((HT.out.below hb).more hb.size)
  have XT := Lib.hid (XT.out.below hb XT.out.lt)
  have BP := Lib.hid (BP.out.trans (hb.mono BP.out.size))
  have RC := Lib.hid hrow
  clear hb LB6 hrow
  have hb := ((Below.refl w7.heap.size w7).alloc (by simp; try omega) (.cells #[.int .i64 X1, .int .i64 Y1, .slice (some ⟨kc, 0, none⟩) N1 c1] 24))
  have LB8 := Lib.hid (LB7.out.trans (hb.mono LB7.out.size))
  have XX1 := Lib.hid (XX1.out.below hb XX1.out.lt)
  have XX2 := Lib.hid (XX2.out.below hb XX2.out.lt)
  have XX3 := Lib.hid (XX3.out.below hb XX3.out.lt)
  have XX4 := Lib.hid (XX4.out.below hb XX4.out.lt)
  have HT := Lib.hid ((HT.out.below hb).more hb.size)
  have XT := Lib.hid (XT.out.below hb XT.out.lt)
  have BP := Lib.hid (BP.out.trans (hb.mono BP.out.size))
  have RC := Lib.hid (RC.out.below hb RC.out.lt)
  have B1 := Box.new w7 X1 Y1 (.slice (some ⟨kc, 0, none⟩) N1 c1)
  have B1 := Lib.hid B1
  clear hb LB7
  go_upto_region 5 with (fail)
  obtain ⟨bb1, hbb1⟩ : ∃ z, w7.heap.size = z := ⟨_, rfl⟩
  rw [hbb1] at B1
  try rw [hbb1]
  clear hbb1
  generalize w7.alloc (.cells #[.int .i64 X1, .int .i64 Y1, .slice (some ⟨kc, 0, none⟩) N1 c1] 24) = w8 at *
  obtain ⟨q0, q1, q2, q3, q4, q5, q6⟩ := XX1.out.all
  obtain ⟨q7, q8, q9, q10, q11, q12, q13⟩ := XX2.out.all
  obtain ⟨q14, q15, q16, q17, q18, q19, q20⟩ := XX3.out.all
  go_wp2_with fail
  clear q0 q1 q2 q3 q4 q5 q6 q7 q8 q9 q10 q11 q12 q13 q14 q15 q16 q17 q18 q19 q20
  with_reducible refine Calls.mono (R1.out _ LB8.out) ?_
  rintro e w9 ⟨A2, c2, rfl, hh, _, hb⟩
  have LB9 := Lib.hid (LB8.out.trans (hb.mono LB8.out.size))
  have XX1 := Lib.hid (XX1.out.below hb XX1.out.lt)
  have XX2 := Lib.hid (XX2.out.below hb XX2.out.lt)
  have XX3 := Lib.hid (XX3.out.below hb XX3.out.lt)
  have XX4 := Lib.hid (XX4.out.below hb XX4.out.lt)
  have HT := Lib.hid ((HT.out.below hb).more hb.size)
  have XT := Lib.hid (XT.out.below hb XT.out.lt)
  have BP := Lib.hid (BP.out.trans (hb.mono BP.out.size))
  have RC := Lib.hid (RC.out.below hb RC.out.lt)
  have B1 := Lib.hid (B1.out.below hb B1.out.lt)
  have H2h := Lib.hid hh
  clear hb LB8 hh
  have hb := ((Below.refl w9.heap.size w9).alloc (by simp; try omega) (.cells #[.int .i64 X1, .int .i64 Y1, .slice A2 N1 c2] 24))
  have LB10 := Lib.hid (LB9.out.trans (hb.mono LB9.out.size))
  have XX1 := Lib.hid (XX1.out.below hb XX1.out.lt)
  have XX2 := Lib.hid (XX2.out.below hb XX2.out.lt)
  have XX3 := Lib.hid (XX3.out.below hb XX3.out.lt)
  have XX4 := Lib.hid (XX4.out.below hb XX4.out.lt)
  have HT := Lib.hid ((HT.out.below hb).more hb.size)
  have XT := Lib.hid (XT.out.below hb XT.out.lt)
  have BP := Lib.hid (BP.out.trans (hb.mono BP.out.size))
  have RC := Lib.hid (RC.out.below hb RC.out.lt)
  have B1 := Lib.hid (B1.out.below hb B1.out.lt)
  have H2h := Lib.hid ((H2h.out.below hb).more hb.size)
  have B2 := Box.new w9 X1 Y1 (.slice A2 N1 c2)
  have B2 := Lib.hid B2
  clear hb LB9
  go_upto_region 6 with (fail)
  obtain ⟨bb2, hbb2⟩ : ∃ z, w9.heap.size = z := ⟨_, rfl⟩
  rw [hbb2] at B2
  try rw [hbb2]
  clear hbb2
  generalize w9.alloc (.cells #[.int .i64 X1, .int .i64 Y1, .slice A2 N1 c2] 24) = w10 at *
  obtain ⟨q0, q1, q2, q3, q4, q5, q6⟩ := XX4.out.all
  go_wp2_with fail
  clear q0 q1 q2 q3 q4 q5 q6
  with_reducible refine Calls.mono (P4.out _ LB10.out) ?_
  rintro e w11 ⟨Ap4, cp4, Ap5, cp5, Ap6, cp6, rfl, hh4, hh5, hh6, hb⟩
  have LB11 := Lib.hid (LB10.out.trans (hb.mono LB10.out.size))
  have XX1 := Lib.hid (XX1.out.below hb XX1.out.lt)
  have XX2 := Lib.hid (XX2.out.below hb XX2.out.lt)
  have XX3 := Lib.hid (XX3.out.below hb XX3.out.lt)
  have XX4 := Lib.hid (XX4.out.below hb XX4.out.lt)
  have HT := Lib.hid ((HT.out.below hb).more hb.size)
  have XT := Lib.hid (XT.out.below hb XT.out.lt)
  have BP := Lib.hid (BP.out.trans (hb.mono BP.out.size))
  have RC := Lib.hid (RC.out.below hb RC.out.lt)
  have B1 := Lib.hid (B1.out.below hb B1.out.lt)
  have H2h := Lib.hid ((H2h.out.below hb).more hb.size)
  have B2 := Lib.hid (B2.out.below hb B2.out.lt)
  have Hp4 := Lib.hid hh4
  have Hp5 := Lib.hid hh5
  have Hp6 := Lib.hid hh6
  clear hb LB10 hh4 hh5 hh6
  have hb := ((((Below.refl w11.heap.size w11).alloc (by simp; try omega) (.cells #[.int .i64 X4, .int .i64 Y4, .slice Ap4 N4 cp4] 24)).alloc (by simp; try omega) (.cells #[.int .i64 X4, .int .i64 Y4, .slice Ap5 N4 cp5] 24)).alloc (by simp; try omega) (.cells #[.int .i64 X4, .int .i64 Y4, .slice Ap6 N4 cp6] 24))
  have LB12 := Lib.hid (LB11.out.trans (hb.mono LB11.out.size))
  have XX1 := Lib.hid (XX1.out.below hb XX1.out.lt)
  have XX2 := Lib.hid (XX2.out.below hb XX2.out.lt)
  have XX3 := Lib.hid (XX3.out.below hb XX3.out.lt)
  have XX4 := Lib.hid (XX4.out.below hb XX4.out.lt)
  have HT := Lib.hid ((HT.out.below hb).more hb.size)
  have XT := Lib.hid (XT.out.below hb XT.out.lt)
  have BP := Lib.hid (BP.out.trans (hb.mono BP.out.size))
  have RC := Lib.hid (RC.out.below hb RC.out.lt)
  have B1 := Lib.hid (B1.out.below hb B1.out.lt)
  have H2h := Lib.hid ((H2h.out.below hb).more hb.size)
  have B2 := Lib.hid (B2.out.below hb B2.out.lt)
  have Hp4 := Lib.hid ((Hp4.out.below hb).more hb.size)
  have Hp5 := Lib.hid ((Hp5.out.below hb).more hb.size)
  have Hp6 := Lib.hid ((Hp6.out.below hb).more hb.size)
  have Yp4 := Box.new w11 X4 Y4 (.slice Ap4 N4 cp4)
  have Yp4 := Lib.hid Yp4
  have Yp4 := Lib.hid (Yp4.out.alloc (.cells #[.int .i64 X4, .int .i64 Y4, .slice Ap5 N4 cp5] 24))
  have Yp4 := Lib.hid (Yp4.out.alloc (.cells #[.int .i64 X4, .int .i64 Y4, .slice Ap6 N4 cp6] 24))
  have Yp5 := Box.new (w11.alloc (.cells #[.int .i64 X4, .int .i64 Y4, .slice Ap4 N4 cp4] 24)) X4 Y4 (.slice Ap5 N4 cp5)
  rw [show (w11.alloc (.cells #[.int .i64 X4, .int .i64 Y4, .slice Ap4 N4 cp4] 24)).heap.size = w11.heap.size + 1 by simp] at Yp5
  have Yp5 := Lib.hid Yp5
  have Yp5 := Lib.hid (Yp5.out.alloc (.cells #[.int .i64 X4, .int .i64 Y4, .slice Ap6 N4 cp6] 24))
  have Yp6 := Box.new ((w11.alloc (.cells #[.int .i64 X4, .int .i64 Y4, .slice Ap4 N4 cp4] 24)).alloc (.cells #[.int .i64 X4, .int .i64 Y4, .slice Ap5 N4 cp5] 24)) X4 Y4 (.slice Ap6 N4 cp6)
  rw [show ((w11.alloc (.cells #[.int .i64 X4, .int .i64 Y4, .slice Ap4 N4 cp4] 24)).alloc (.cells #[.int .i64 X4, .int .i64 Y4, .slice Ap5 N4 cp5] 24)).heap.size = w11.heap.size + 1 + 1 by simp] at Yp6
  have Yp6 := Lib.hid Yp6
  clear hb LB11
  go_upto_region 7 with (fail)
  obtain ⟨yp6, hyp6⟩ : ∃ z, w11.heap.size + 1 + 1 = z := ⟨_, rfl⟩
  rw [hyp6] at Yp6
  try rw [hyp6]
  obtain ⟨yp5, hyp5⟩ : ∃ z, w11.heap.size + 1 = z := ⟨_, rfl⟩
  rw [hyp5] at Yp5
  try rw [hyp5]
  obtain ⟨yp4, hyp4⟩ : ∃ z, w11.heap.size = z := ⟨_, rfl⟩
  rw [hyp4] at Yp4
  try rw [hyp4]
  clear hyp4 hyp5 hyp6
  generalize ((w11.alloc (.cells #[.int .i64 X4, .int .i64 Y4, .slice Ap4 N4 cp4] 24)).alloc (.cells #[.int .i64 X4, .int .i64 Y4, .slice Ap5 N4 cp5] 24)).alloc (.cells #[.int .i64 X4, .int .i64 Y4, .slice Ap6 N4 cp6] 24) = w12 at *
  obtain ⟨q0, q1, q2, q3, q4, q5, q6⟩ := XX4.out.all
  go_wp2_with fail
  clear q0 q1 q2 q3 q4 q5 q6
  with_reducible refine Calls.mono (R4.out _ LB12.out) ?_
  rintro e w13 ⟨Ar4, cr4, Ar5, cr5, Ar6, cr6, rfl, hh4, hh5, hh6, hb⟩
  have LB13 := Lib.hid (LB12.out.trans (hb.mono LB12.out.size))
  have XX1 := Lib.hid (XX1.out.below hb XX1.out.lt)
  have XX2 := Lib.hid (XX2.out.below hb XX2.out.lt)
  have XX3 := Lib.hid (XX3.out.below hb XX3.out.lt)
  have XX4 := Lib.hid (XX4.out.below hb XX4.out.lt)
  have HT := Lib.hid ((HT.out.below hb).more hb.size)
  have XT := Lib.hid (XT.out.below hb XT.out.lt)
  have BP := Lib.hid (BP.out.trans (hb.mono BP.out.size))
  have RC := Lib.hid (RC.out.below hb RC.out.lt)
  have B1 := Lib.hid (B1.out.below hb B1.out.lt)
  have H2h := Lib.hid ((H2h.out.below hb).more hb.size)
  have B2 := Lib.hid (B2.out.below hb B2.out.lt)
  have Hp4 := Lib.hid ((Hp4.out.below hb).more hb.size)
  have Hp5 := Lib.hid ((Hp5.out.below hb).more hb.size)
  have Hp6 := Lib.hid ((Hp6.out.below hb).more hb.size)
  have Yp4 := Lib.hid (Yp4.out.below hb Yp4.out.lt)
  have Yp5 := Lib.hid (Yp5.out.below hb Yp5.out.lt)
  have Yp6 := Lib.hid (Yp6.out.below hb Yp6.out.lt)
  have Hr4 := Lib.hid hh4
  have Hr5 := Lib.hid hh5
  have Hr6 := Lib.hid hh6
  clear hb LB12 hh4 hh5 hh6
  have hb := ((((Below.refl w13.heap.size w13).alloc (by simp; try omega) (.cells #[.int .i64 X4, .int .i64 Y4, .slice Ar4 N4 cr4] 24)).alloc (by simp; try omega) (.cells #[.int .i64 X4, .int .i64 Y4, .slice Ar5 N4 cr5] 24)).alloc (by simp; try omega) (.cells #[.int .i64 X4, .int .i64 Y4, .slice Ar6 N4 cr6] 24))
  have LB14 := Lib.hid (LB13.out.trans (hb.mono LB13.out.size))
  have XX1 := Lib.hid (XX1.out.below hb XX1.out.lt)
  have XX2 := Lib.hid (XX2.out.below hb XX2.out.lt)
  have XX3 := Lib.hid (XX3.out.below hb XX3.out.lt)
  have XX4 := Lib.hid (XX4.out.below hb XX4.out.lt)
  have HT := Lib.hid ((HT.out.below hb).more hb.size)
  have XT := Lib.hid (XT.out.below hb XT.out.lt)
  have BP := Lib.hid (BP.out.trans (hb.mono BP.out.size))
  have RC := Lib.hid (RC.out.below hb RC.out.lt)
  have B1 := Lib.hid (B1.out.below hb B1.out.lt)
  have H2h := Lib.hid ((H2h.out.below hb).more hb.size)
  have B2 := Lib.hid (B2.out.below hb B2.out.lt)
  have Hp4 := Lib.hid ((Hp4.out.below hb).more hb.size)
  have Hp5 := Lib.hid ((Hp5.out.below hb).more hb.size)
  have Hp6 := Lib.hid ((Hp6.out.below hb).more hb.size)
  have Yp4 := Lib.hid (Yp4.out.below hb Yp4.out.lt)
  have Yp5 := Lib.hid (Yp5.out.below hb Yp5.out.lt)
  have Yp6 := Lib.hid (Yp6.out.below hb Yp6.out.lt)
  have Hr4 := Lib.hid ((Hr4.out.below hb).more hb.size)
  have Hr5 := Lib.hid ((Hr5.out.below hb).more hb.size)
  have Hr6 := Lib.hid ((Hr6.out.below hb).more hb.size)
  have Yr4 := Box.new w13 X4 Y4 (.slice Ar4 N4 cr4)
  have Yr4 := Lib.hid Yr4
  have Yr4 := Lib.hid (Yr4.out.alloc (.cells #[.int .i64 X4, .int .i64 Y4, .slice Ar5 N4 cr5] 24))
  have Yr4 := Lib.hid (Yr4.out.alloc (.cells #[.int .i64 X4, .int .i64 Y4, .slice Ar6 N4 cr6] 24))
  have Yr5 := Box.new (w13.alloc (.cells #[.int .i64 X4, .int .i64 Y4, .slice Ar4 N4 cr4] 24)) X4 Y4 (.slice Ar5 N4 cr5)
  rw [show (w13.alloc (.cells #[.int .i64 X4, .int .i64 Y4, .slice Ar4 N4 cr4] 24)).heap.size = w13.heap.size + 1 by simp] at Yr5
  have Yr5 := Lib.hid Yr5
  have Yr5 := Lib.hid (Yr5.out.alloc (.cells #[.int .i64 X4, .int .i64 Y4, .slice Ar6 N4 cr6] 24))
  have Yr6 := Box.new ((w13.alloc (.cells #[.int .i64 X4, .int .i64 Y4, .slice Ar4 N4 cr4] 24)).alloc (.cells #[.int .i64 X4, .int .i64 Y4, .slice Ar5 N4 cr5] 24)) X4 Y4 (.slice Ar6 N4 cr6)
  rw [show ((w13.alloc (.cells #[.int .i64 X4, .int .i64 Y4, .slice Ar4 N4 cr4] 24)).alloc (.cells #[.int .i64 X4, .int .i64 Y4, .slice Ar5 N4 cr5] 24)).heap.size = w13.heap.size + 1 + 1 by simp] at Yr6
  have Yr6 := Lib.hid Yr6
  clear hb LB13
  go_upto_region 8 with (fail)
  obtain ⟨yr6, hyr6⟩ : ∃ z, w13.heap.size + 1 + 1 = z := ⟨_, rfl⟩
  rw [hyr6] at Yr6
  try rw [hyr6]
  obtain ⟨yr5, hyr5⟩ : ∃ z, w13.heap.size + 1 = z := ⟨_, rfl⟩
  rw [hyr5] at Yr5
  try rw [hyr5]
  obtain ⟨yr4, hyr4⟩ : ∃ z, w13.heap.size = z := ⟨_, rfl⟩
  rw [hyr4] at Yr4
  try rw [hyr4]
  clear hyr4 hyr5 hyr6
  generalize ((w13.alloc (.cells #[.int .i64 X4, .int .i64 Y4, .slice Ar4 N4 cr4] 24)).alloc (.cells #[.int .i64 X4, .int .i64 Y4, .slice Ar5 N4 cr5] 24)).alloc (.cells #[.int .i64 X4, .int .i64 Y4, .slice Ar6 N4 cr6] 24) = w14 at *
  obtain ⟨q0, q1, q2, q3, q4, q5, q6⟩ := B1.out.all
  obtain ⟨q7, q8, q9, q10, q11, q12, q13⟩ := B2.out.all
  go_wp2_with fail
  clear q0 q1 q2 q3 q4 q5 q6 q7 q8 q9 q10 q11 q12 q13
  with_reducible refine Calls.mono (HS1.out _ _ _ _ _ (RC.out.holds RC.out.lt) H2h.out) ?_
  rintro e w15 ⟨rfl, hb⟩
  have LB15 := Lib.hid (LB14.out.trans (hb.mono LB14.out.size))
  have XX1 := Lib.hid (XX1.out.below hb XX1.out.lt)
  have XX2 := Lib.hid (XX2.out.below hb XX2.out.lt)
  have XX3 := Lib.hid (XX3.out.below hb XX3.out.lt)
  have XX4 := Lib.hid (XX4.out.below hb XX4.out.lt)
  have HT := Lib.hid ((HT.out.below hb).more hb.size)
  have XT := Lib.hid (XT.out.below hb XT.out.lt)
  have BP := Lib.hid (BP.out.trans (hb.mono BP.out.size))
  have RC := Lib.hid (RC.out.below hb RC.out.lt)
  have B1 := Lib.hid (B1.out.below hb B1.out.lt)
  have H2h := Lib.hid ((H2h.out.below hb).more hb.size)
  have B2 := Lib.hid (B2.out.below hb B2.out.lt)
  have Hp4 := Lib.hid ((Hp4.out.below hb).more hb.size)
  have Hp5 := Lib.hid ((Hp5.out.below hb).more hb.size)
  have Hp6 := Lib.hid ((Hp6.out.below hb).more hb.size)
  have Yp4 := Lib.hid (Yp4.out.below hb Yp4.out.lt)
  have Yp5 := Lib.hid (Yp5.out.below hb Yp5.out.lt)
  have Yp6 := Lib.hid (Yp6.out.below hb Yp6.out.lt)
  have Hr4 := Lib.hid ((Hr4.out.below hb).more hb.size)
  have Hr5 := Lib.hid ((Hr5.out.below hb).more hb.size)
  have Hr6 := Lib.hid ((Hr6.out.below hb).more hb.size)
  have Yr4 := Lib.hid (Yr4.out.below hb Yr4.out.lt)
  have Yr5 := Lib.hid (Yr5.out.below hb Yr5.out.lt)
  have Yr6 := Lib.hid (Yr6.out.below hb Yr6.out.lt)
  clear hb LB14 
  obtain ⟨q0, q1, q2, q3, q4, q5, q6⟩ := Yp4.out.all
  obtain ⟨q7, q8, q9, q10, q11, q12, q13⟩ := Yr4.out.all
  go_wp2_with fail
  clear q0 q1 q2 q3 q4 q5 q6 q7 q8 q9 q10 q11 q12 q13
  with_reducible refine Calls.mono (HS4.out _ _ _ _ _ Hp4.out Hr4.out) ?_
  rintro e w16 ⟨rfl, hb⟩
  have LB16 := Lib.hid (LB15.out.trans (hb.mono LB15.out.size))
  have XX1 := Lib.hid (XX1.out.below hb XX1.out.lt)
  have XX2 := Lib.hid (XX2.out.below hb XX2.out.lt)
  have XX3 := Lib.hid (XX3.out.below hb XX3.out.lt)
  have XX4 := Lib.hid (XX4.out.below hb XX4.out.lt)
  have HT := Lib.hid ((HT.out.below hb).more hb.size)
  have XT := Lib.hid (XT.out.below hb XT.out.lt)
  have BP := Lib.hid (BP.out.trans (hb.mono BP.out.size))
  have RC := Lib.hid (RC.out.below hb RC.out.lt)
  have B1 := Lib.hid (B1.out.below hb B1.out.lt)
  have H2h := Lib.hid ((H2h.out.below hb).more hb.size)
  have B2 := Lib.hid (B2.out.below hb B2.out.lt)
  have Hp4 := Lib.hid ((Hp4.out.below hb).more hb.size)
  have Hp5 := Lib.hid ((Hp5.out.below hb).more hb.size)
  have Hp6 := Lib.hid ((Hp6.out.below hb).more hb.size)
  have Yp4 := Lib.hid (Yp4.out.below hb Yp4.out.lt)
  have Yp5 := Lib.hid (Yp5.out.below hb Yp5.out.lt)
  have Yp6 := Lib.hid (Yp6.out.below hb Yp6.out.lt)
  have Hr4 := Lib.hid ((Hr4.out.below hb).more hb.size)
  have Hr5 := Lib.hid ((Hr5.out.below hb).more hb.size)
  have Hr6 := Lib.hid ((Hr6.out.below hb).more hb.size)
  have Yr4 := Lib.hid (Yr4.out.below hb Yr4.out.lt)
  have Yr5 := Lib.hid (Yr5.out.below hb Yr5.out.lt)
  have Yr6 := Lib.hid (Yr6.out.below hb Yr6.out.lt)
  clear hb LB15 
  obtain ⟨q0, q1, q2, q3, q4, q5, q6⟩ := Yp5.out.all
  obtain ⟨q7, q8, q9, q10, q11, q12, q13⟩ := Yr5.out.all
  go_wp2_with fail
  clear q0 q1 q2 q3 q4 q5 q6 q7 q8 q9 q10 q11 q12 q13
  with_reducible refine Calls.mono (HS5.out _ _ _ _ _ Hp5.out Hr5.out) ?_
  rintro e w17 ⟨rfl, hb⟩
  have LB17 := Lib.hid (LB16.out.trans (hb.mono LB16.out.size))
  have XX1 := Lib.hid (XX1.out.below hb XX1.out.lt)
  have XX2 := Lib.hid (XX2.out.below hb XX2.out.lt)
  have XX3 := Lib.hid (XX3.out.below hb XX3.out.lt)
  have XX4 := Lib.hid (XX4.out.below hb XX4.out.lt)
  have HT := Lib.hid ((HT.out.below hb).more hb.size)
  have XT := Lib.hid (XT.out.below hb XT.out.lt)
  have BP := Lib.hid (BP.out.trans (hb.mono BP.out.size))
  have RC := Lib.hid (RC.out.below hb RC.out.lt)
  have B1 := Lib.hid (B1.out.below hb B1.out.lt)
  have H2h := Lib.hid ((H2h.out.below hb).more hb.size)
  have B2 := Lib.hid (B2.out.below hb B2.out.lt)
  have Hp4 := Lib.hid ((Hp4.out.below hb).more hb.size)
  have Hp5 := Lib.hid ((Hp5.out.below hb).more hb.size)
  have Hp6 := Lib.hid ((Hp6.out.below hb).more hb.size)
  have Yp4 := Lib.hid (Yp4.out.below hb Yp4.out.lt)
  have Yp5 := Lib.hid (Yp5.out.below hb Yp5.out.lt)
  have Yp6 := Lib.hid (Yp6.out.below hb Yp6.out.lt)
  have Hr4 := Lib.hid ((Hr4.out.below hb).more hb.size)
  have Hr5 := Lib.hid ((Hr5.out.below hb).more hb.size)
  have Hr6 := Lib.hid ((Hr6.out.below hb).more hb.size)
  have Yr4 := Lib.hid (Yr4.out.below hb Yr4.out.lt)
  have Yr5 := Lib.hid (Yr5.out.below hb Yr5.out.lt)
  have Yr6 := Lib.hid (Yr6.out.below hb Yr6.out.lt)
  clear hb LB16 
  obtain ⟨q0, q1, q2, q3, q4, q5, q6⟩ := Yp6.out.all
  obtain ⟨q7, q8, q9, q10, q11, q12, q13⟩ := Yr6.out.all
  go_wp2_with fail
  clear q0 q1 q2 q3 q4 q5 q6 q7 q8 q9 q10 q11 q12 q13
  with_reducible refine Calls.mono (HS6.out _ _ _ _ _ Hp6.out Hr6.out) ?_
  rintro e w18 ⟨rfl, hb⟩
  have LB18 := Lib.hid (LB17.out.trans (hb.mono LB17.out.size))
  have XX1 := Lib.hid (XX1.out.below hb XX1.out.lt)
  have XX2 := Lib.hid (XX2.out.below hb XX2.out.lt)
  have XX3 := Lib.hid (XX3.out.below hb XX3.out.lt)
  have XX4 := Lib.hid (XX4.out.below hb XX4.out.lt)
  have HT := Lib.hid ((HT.out.below hb).more hb.size)
  have XT := Lib.hid (XT.out.below hb XT.out.lt)
  have BP := Lib.hid (BP.out.trans (hb.mono BP.out.size))
  have RC := Lib.hid (RC.out.below hb RC.out.lt)
  have B1 := Lib.hid (B1.out.below hb B1.out.lt)
  have H2h := Lib.hid ((H2h.out.below hb).more hb.size)
  have B2 := Lib.hid (B2.out.below hb B2.out.lt)
  have Hp4 := Lib.hid ((Hp4.out.below hb).more hb.size)
  have Hp5 := Lib.hid ((Hp5.out.below hb).more hb.size)
  have Hp6 := Lib.hid ((Hp6.out.below hb).more hb.size)
  have Yp4 := Lib.hid (Yp4.out.below hb Yp4.out.lt)
  have Yp5 := Lib.hid (Yp5.out.below hb Yp5.out.lt)
  have Yp6 := Lib.hid (Yp6.out.below hb Yp6.out.lt)
  have Hr4 := Lib.hid ((Hr4.out.below hb).more hb.size)
  have Hr5 := Lib.hid ((Hr5.out.below hb).more hb.size)
  have Hr6 := Lib.hid ((Hr6.out.below hb).more hb.size)
  have Yr4 := Lib.hid (Yr4.out.below hb Yr4.out.lt)
  have Yr5 := Lib.hid (Yr5.out.below hb Yr5.out.lt)
  have Yr6 := Lib.hid (Yr6.out.below hb Yr6.out.lt)
  clear hb LB17 
  clear H2h
  clear B2
  clear Hp4
  clear Hp5
  clear Hp6
  clear Hr4
  clear Hr5
  clear Hr6
  clear Yp4
  clear Yp5
  clear Yp6
  clear Yr4
  clear Yr5
  clear Yr6
  have hck : w.heap.size ≤ kc := Nat.le_trans LBPRE.out hkc
  have eb : bb1 ≠ kc := fun h => RC.out.ne_box B1.out h.symm
  have e1 : w.heap.size ≠ kc := fun h => RC.out.ne_box XX1.out h.symm
  have et : tb ≠ kc := fun h => RC.out.ne_box XT.out h.symm
  go_upto_region 11 with (fail)
  go_loopw [22] (fun i wr => ∃ (s : Nat) (F : Nat → Bool), s ≤ N1 ∧ i = .int .i64 s ∧ Hid (Row wr kc N1 F) ∧ Hid (But kc w18 wr)) (fun i _ => N1 - (intOf i).toNat)
  case atStart => exact ⟨0, _, Nat.zero_le _, rfl, RC, Lib.hid (But.of (Below.refl _ _))⟩
  case round =>
    obtain ⟨s, F, hs, rfl, HR, HU⟩ := hrel
    have Z1 := Lib.hid (HU.out.box B1.out eb)
    obtain ⟨q0, q1, q2, q3, q4, q5, q6⟩ := Z1.out.all
    by_cases hlt : s < N1
    · have y1 : (s : Int) < (N1 : Int) := by omega
      have y2 : (0 : Int) ≤ (s : Int) := by omega
      have a4 := HR.out.cell hlt
      have a5 := HR.out.free s
      obtain ⟨u, hu⟩ : ∃ z, F s = z := ⟨_, rfl⟩
      rw [hu] at a4
      have HR2 := Lib.hid (HR.out.set_ s (!u))
      have HU2 := Lib.hid (HU.out.set (i := s) (v := .bool (!u)))
      clear HR hu
      go_wp2
      go_region
      go_wp2
      go_roundw
      case rel => exact ⟨s + 1, _, by omega, by go_num, Lib.hid HR2.out.drew, Lib.hid HU2.out.drew⟩
      case measure => simp [intOf]; omega
    · have y1 : ¬ (s : Int) < (N1 : Int) := by omega
      have ZX := Lib.hid (HU.out.box XX1.out e1)
      have ZT := Lib.hid (HU.out.box XT.out et)
      have LBE := Lib.hid (HU.out.below LB18.out hck)
      have HAE := Lib.hid ((HA.out.below LBE.out).more LBE.out.size)
      have HTE := Lib.hid ((HU.out.holds (HTP.out.below BP.out) hkc BP.out.size).more (Nat.le_trans BP.out.size HU.out.size))
      clear HR HU
      obtain ⟨q7, q8, q9, q10, q11, q12, q13⟩ := ZX.out.all
      obtain ⟨q14, q15, q16, q17, q18, q19, q20⟩ := ZT.out.all
      go_wp2_with fail
      with_reducible refine Calls.mono (HSE.out _ _ _ HAE.out HTE.out) ?_
      rintro e w99 ⟨rfl, hb⟩
      have LB9 := Lib.hid (LBE.out.trans (hb.mono LBE.out.size))
      go_wp2
      go_ret
      exact ⟨rfl, LB9.out⟩
theorem weaves12_any (W H X Y U V W4 H4 : Int) (A B C D : Option Addr) (n c m d k e n4 l : Nat) (a b mo g : Nat → Bool) (w : World) (ha : Holds w w.heap.size A n a) (hb : Holds w w.heap.size B m b) (hm : Holds w w.heap.size C k mo) (hg : Holds w w.heap.size D n4 g) :
    Calls Try.prog 11 #[.agg #[.int .i64 W, .int .i64 H, .slice A n c], .agg #[.int .i64 X, .int .i64 Y, .slice B m d], .agg #[.int .i64 U, .int .i64 V, .slice C k e], .agg #[.int .i64 W4, .int .i64 H4, .slice D n4 l]] w fun e w' => e = .returned (.bool true) ∧ Below w.heap.size w w' := by
  by_cases g1 : 1100 < n
  · exact weaves_great0 W H X Y U V A B C n c m d k e W4 H4 D n4 l g1 w
  · by_cases g2 : 1100 < m
    · exact weaves_great1 W H X Y U V A B C n c m d k e W4 H4 D n4 l (by omega) g2 w
    · by_cases g3 : 1100 < k
      · exact weaves_great2 W H X Y U V A B C n c m d k e W4 H4 D n4 l (by omega) (by omega) g3 w
      · by_cases g4 : 1100 < n4
        · exact weaves_great3 W H X Y U V A B C n c m d k e W4 H4 D n4 l (by omega) (by omega) (by omega) g4 w
        · obtain ⟨X1, Y1, N1, F1, z1, n1, p1, r1⟩ := weave_pair W H X Y U V A B C n c m d k e a b mo w (by omega) (by omega) (by omega) ha hb hm
          obtain ⟨X4, Y4, N4, F4, F5, F6, z4, hn4, p4, r4⟩ := apart_pair W4 H4 D n4 l g w (by omega) hg
          rcases Nat.eq_zero_or_pos N1 with rfl | h0
          · exact weaves_corez W H X Y U V A B C n c m d k e W4 H4 D n4 l w a ha (by omega) (by omega) (by omega) (by omega) X1 Y1 X4 Y4 N4 F1 F4 F5 F6 z1 z4 hn4 p1 r1 p4 r4
          · exact weaves_corep W H X Y U V A B C n c m d k e W4 H4 D n4 l w a ha (by omega) (by omega) (by omega) (by omega) X1 Y1 X4 Y4 N1 N4 F1 F4 F5 F6 z1 z4 h0 n1 hn4 p1 r1 p4 r4
end Go.Proofs.Ytgmcbdnfgdmmaaa
