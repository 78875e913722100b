/- BlockFills: the walk. -/
import Derived.Test.YtngjcekjboedjaaKiw
namespace Go.Proofs.Ytngjcekjboedjaa
open Go.RowKit
set_option maxRecDepth 100000
set_option linter.unusedVariables false
set_option linter.unusedSimpArgs false

set_option maxHeartbeats 1600000 in
theorem fills_great0 (W H X Y U V : Int) (A B C : Option Addr) (n c m d k e : Nat) (h0 : 4200 < n) (w : World) : Calls Try.prog 10 #[.agg #[.int .i64 W, .int .i64 H, .slice A n c], .agg #[.int .i64 X, .int .i64 Y, .slice B m d], .agg #[.int .i64 U, .int .i64 V, .slice C k e]] w fun e w' => e = .returned (.bool true) ∧ Below w.heap.size w w' := by
  have HG0 := Lib.hid (fun u => rgreat_any W H A n c u)
  rw [decide_eq_true h0] at HG0
  have LB0 := Lib.hid (Below.refl w.heap.size w)
  have X1 := Lib.hid (Box.new w W H (.slice A n c))
  have LB0 := Lib.hid (LB0.out.alloc LB0.out.size (.cells #[.int .i64 W, .int .i64 H, .slice A n c] 24))
  have X1 := Lib.hid (X1.out.alloc (.cells #[.int .i64 X, .int .i64 Y, .slice B m d] 24))
  have X2 := Box.new (w.alloc (.cells #[.int .i64 W, .int .i64 H, .slice A n c] 24)) X Y (.slice B m d)
  rw [show ((w.alloc (.cells #[.int .i64 W, .int .i64 H, .slice A n c] 24))).heap.size = w.heap.size + 1 by simp] at X2
  have X2 := Lib.hid X2
  have LB0 := Lib.hid (LB0.out.alloc LB0.out.size (.cells #[.int .i64 X, .int .i64 Y, .slice B m d] 24))
  have X1 := Lib.hid (X1.out.alloc (.cells #[.int .i64 U, .int .i64 V, .slice C k e] 24))
  have X2 := Lib.hid (X2.out.alloc (.cells #[.int .i64 U, .int .i64 V, .slice C k e] 24))
  have X3 := Box.new ((w.alloc (.cells #[.int .i64 W, .int .i64 H, .slice A n c] 24)).alloc (.cells #[.int .i64 X, .int .i64 Y, .slice B m d] 24)) U V (.slice C k e)
  rw [show (((w.alloc (.cells #[.int .i64 W, .int .i64 H, .slice A n c] 24)).alloc (.cells #[.int .i64 X, .int .i64 Y, .slice B m d] 24))).heap.size = w.heap.size + 2 by simp] at X3
  have X3 := Lib.hid X3
  have LB0 := Lib.hid (LB0.out.alloc LB0.out.size (.cells #[.int .i64 U, .int .i64 V, .slice C k e] 24))
  go_enter Try.func10, Try.ntmps10
  go_upto_region 1 with (fail)
  generalize ((w.alloc (.cells #[.int .i64 W, .int .i64 H, .slice A n c] 24)).alloc (.cells #[.int .i64 X, .int .i64 Y, .slice B m d] 24)).alloc (.cells #[.int .i64 U, .int .i64 V, .slice C k e] 24) = w0 at *
  obtain ⟨q0, q1, q2, q3, q4, q5, q6⟩ := X1.out.all
  go_wp2_with fail
  clear q0 q1 q2 q3 q4 q5 q6
  with_reducible refine Calls.mono (HG0.out _) ?_
  rintro e w1 ⟨rfl, hb⟩
  have LB1 := Lib.hid (LB0.out.trans (hb.mono LB0.out.size))
  have X1 := Lib.hid (X1.out.below hb X1.out.lt)
  have X2 := Lib.hid (X2.out.below hb X2.out.lt)
  have X3 := Lib.hid (X3.out.below hb X3.out.lt)
  clear hb LB0 
  go_wp2
  go_ret
  exact ⟨rfl, LB1.out⟩
set_option maxHeartbeats 1600000 in
theorem fills_great1 (W H X Y U V : Int) (A B C : Option Addr) (n c m d k e : Nat) (h0 : n ≤ 4200) (h1 : 4200 < m) (w : World) : Calls Try.prog 10 #[.agg #[.int .i64 W, .int .i64 H, .slice A n c], .agg #[.int .i64 X, .int .i64 Y, .slice B m d], .agg #[.int .i64 U, .int .i64 V, .slice C k e]] w fun e w' => e = .returned (.bool true) ∧ Below w.heap.size w w' := by
  have HG0 := Lib.hid (fun u => rgreat_any W H A n c u)
  rw [decide_eq_false (by omega)] at HG0
  have HG1 := Lib.hid (fun u => rgreat_any X Y B m d u)
  rw [decide_eq_true h1] at HG1
  have LB0 := Lib.hid (Below.refl w.heap.size w)
  have X1 := Lib.hid (Box.new w W H (.slice A n c))
  have LB0 := Lib.hid (LB0.out.alloc LB0.out.size (.cells #[.int .i64 W, .int .i64 H, .slice A n c] 24))
  have X1 := Lib.hid (X1.out.alloc (.cells #[.int .i64 X, .int .i64 Y, .slice B m d] 24))
  have X2 := Box.new (w.alloc (.cells #[.int .i64 W, .int .i64 H, .slice A n c] 24)) X Y (.slice B m d)
  rw [show ((w.alloc (.cells #[.int .i64 W, .int .i64 H, .slice A n c] 24))).heap.size = w.heap.size + 1 by simp] at X2
  have X2 := Lib.hid X2
  have LB0 := Lib.hid (LB0.out.alloc LB0.out.size (.cells #[.int .i64 X, .int .i64 Y, .slice B m d] 24))
  have X1 := Lib.hid (X1.out.alloc (.cells #[.int .i64 U, .int .i64 V, .slice C k e] 24))
  have X2 := Lib.hid (X2.out.alloc (.cells #[.int .i64 U, .int .i64 V, .slice C k e] 24))
  have X3 := Box.new ((w.alloc (.cells #[.int .i64 W, .int .i64 H, .slice A n c] 24)).alloc (.cells #[.int .i64 X, .int .i64 Y, .slice B m d] 24)) U V (.slice C k e)
  rw [show (((w.alloc (.cells #[.int .i64 W, .int .i64 H, .slice A n c] 24)).alloc (.cells #[.int .i64 X, .int .i64 Y, .slice B m d] 24))).heap.size = w.heap.size + 2 by simp] at X3
  have X3 := Lib.hid X3
  have LB0 := Lib.hid (LB0.out.alloc LB0.out.size (.cells #[.int .i64 U, .int .i64 V, .slice C k e] 24))
  go_enter Try.func10, Try.ntmps10
  go_upto_region 1 with (fail)
  generalize ((w.alloc (.cells #[.int .i64 W, .int .i64 H, .slice A n c] 24)).alloc (.cells #[.int .i64 X, .int .i64 Y, .slice B m d] 24)).alloc (.cells #[.int .i64 U, .int .i64 V, .slice C k e] 24) = w0 at *
  obtain ⟨q0, q1, q2, q3, q4, q5, q6⟩ := X1.out.all
  go_wp2_with fail
  clear q0 q1 q2 q3 q4 q5 q6
  with_reducible refine Calls.mono (HG0.out _) ?_
  rintro e w1 ⟨rfl, hb⟩
  have LB1 := Lib.hid (LB0.out.trans (hb.mono LB0.out.size))
  have X1 := Lib.hid (X1.out.below hb X1.out.lt)
  have X2 := Lib.hid (X2.out.below hb X2.out.lt)
  have X3 := Lib.hid (X3.out.below hb X3.out.lt)
  clear hb LB0 
  obtain ⟨q0, q1, q2, q3, q4, q5, q6⟩ := X2.out.all
  go_wp2_with fail
  clear q0 q1 q2 q3 q4 q5 q6
  with_reducible refine Calls.mono (HG1.out _) ?_
  rintro e w2 ⟨rfl, hb⟩
  have LB2 := Lib.hid (LB1.out.trans (hb.mono LB1.out.size))
  have X1 := Lib.hid (X1.out.below hb X1.out.lt)
  have X2 := Lib.hid (X2.out.below hb X2.out.lt)
  have X3 := Lib.hid (X3.out.below hb X3.out.lt)
  clear hb LB1 
  go_wp2
  go_ret
  exact ⟨rfl, LB2.out⟩
set_option maxHeartbeats 1600000 in
theorem fills_great2 (W H X Y U V : Int) (A B C : Option Addr) (n c m d k e : Nat) (h0 : n ≤ 4200) (h1 : m ≤ 4200) (h2 : 4200 < k) (w : World) : Calls Try.prog 10 #[.agg #[.int .i64 W, .int .i64 H, .slice A n c], .agg #[.int .i64 X, .int .i64 Y, .slice B m d], .agg #[.int .i64 U, .int .i64 V, .slice C k e]] w fun e w' => e = .returned (.bool true) ∧ Below w.heap.size w w' := by
  have HG0 := Lib.hid (fun u => rgreat_any W H A n c u)
  rw [decide_eq_false (by omega)] at HG0
  have HG1 := Lib.hid (fun u => rgreat_any X Y B m d u)
  rw [decide_eq_false (by omega)] at HG1
  have HG2 := Lib.hid (fun u => rgreat_any U V C k e u)
  rw [decide_eq_true h2] at HG2
  have LB0 := Lib.hid (Below.refl w.heap.size w)
  have X1 := Lib.hid (Box.new w W H (.slice A n c))
  have LB0 := Lib.hid (LB0.out.alloc LB0.out.size (.cells #[.int .i64 W, .int .i64 H, .slice A n c] 24))
  have X1 := Lib.hid (X1.out.alloc (.cells #[.int .i64 X, .int .i64 Y, .slice B m d] 24))
  have X2 := Box.new (w.alloc (.cells #[.int .i64 W, .int .i64 H, .slice A n c] 24)) X Y (.slice B m d)
  rw [show ((w.alloc (.cells #[.int .i64 W, .int .i64 H, .slice A n c] 24))).heap.size = w.heap.size + 1 by simp] at X2
  have X2 := Lib.hid X2
  have LB0 := Lib.hid (LB0.out.alloc LB0.out.size (.cells #[.int .i64 X, .int .i64 Y, .slice B m d] 24))
  have X1 := Lib.hid (X1.out.alloc (.cells #[.int .i64 U, .int .i64 V, .slice C k e] 24))
  have X2 := Lib.hid (X2.out.alloc (.cells #[.int .i64 U, .int .i64 V, .slice C k e] 24))
  have X3 := Box.new ((w.alloc (.cells #[.int .i64 W, .int .i64 H, .slice A n c] 24)).alloc (.cells #[.int .i64 X, .int .i64 Y, .slice B m d] 24)) U V (.slice C k e)
  rw [show (((w.alloc (.cells #[.int .i64 W, .int .i64 H, .slice A n c] 24)).alloc (.cells #[.int .i64 X, .int .i64 Y, .slice B m d] 24))).heap.size = w.heap.size + 2 by simp] at X3
  have X3 := Lib.hid X3
  have LB0 := Lib.hid (LB0.out.alloc LB0.out.size (.cells #[.int .i64 U, .int .i64 V, .slice C k e] 24))
  go_enter Try.func10, Try.ntmps10
  go_upto_region 1 with (fail)
  generalize ((w.alloc (.cells #[.int .i64 W, .int .i64 H, .slice A n c] 24)).alloc (.cells #[.int .i64 X, .int .i64 Y, .slice B m d] 24)).alloc (.cells #[.int .i64 U, .int .i64 V, .slice C k e] 24) = w0 at *
  obtain ⟨q0, q1, q2, q3, q4, q5, q6⟩ := X1.out.all
  go_wp2_with fail
  clear q0 q1 q2 q3 q4 q5 q6
  with_reducible refine Calls.mono (HG0.out _) ?_
  rintro e w1 ⟨rfl, hb⟩
  have LB1 := Lib.hid (LB0.out.trans (hb.mono LB0.out.size))
  have X1 := Lib.hid (X1.out.below hb X1.out.lt)
  have X2 := Lib.hid (X2.out.below hb X2.out.lt)
  have X3 := Lib.hid (X3.out.below hb X3.out.lt)
  clear hb LB0 
  obtain ⟨q0, q1, q2, q3, q4, q5, q6⟩ := X2.out.all
  go_wp2_with fail
  clear q0 q1 q2 q3 q4 q5 q6
  with_reducible refine Calls.mono (HG1.out _) ?_
  rintro e w2 ⟨rfl, hb⟩
  have LB2 := Lib.hid (LB1.out.trans (hb.mono LB1.out.size))
  have X1 := Lib.hid (X1.out.below hb X1.out.lt)
  have X2 := Lib.hid (X2.out.below hb X2.out.lt)
  have X3 := Lib.hid (X3.out.below hb X3.out.lt)
  clear hb LB1 
  obtain ⟨q0, q1, q2, q3, q4, q5, q6⟩ := X3.out.all
  go_wp2_with fail
  clear q0 q1 q2 q3 q4 q5 q6
  with_reducible refine Calls.mono (HG2.out _) ?_
  rintro e w3 ⟨rfl, hb⟩
  have LB3 := Lib.hid (LB2.out.trans (hb.mono LB2.out.size))
  have X1 := Lib.hid (X1.out.below hb X1.out.lt)
  have X2 := Lib.hid (X2.out.below hb X2.out.lt)
  have X3 := Lib.hid (X3.out.below hb X3.out.lt)
  clear hb LB2 
  go_wp2
  go_ret
  exact ⟨rfl, LB3.out⟩
set_option maxHeartbeats 6400000 in
theorem fills_core (W H X Y U V : Int) (A B C : Option Addr) (n c m d k e : Nat) (f a b : Nat → Bool) (w : World) (hf : Holds w w.heap.size A n f) (ha : Holds w w.heap.size B m a) (hb1 : Holds w w.heap.size C k b) (hn : n ≤ 4200) (hm : m ≤ 4200) (hk : k ≤ 4200)
    (P1 Q1 : Int) (N1 : Nat) (F1 : Nat → Bool) (r1 : Int) (P2 Q2 : Int) (N2 : Nat) (F2 : Nat → Bool) (r2 : Int) (hN1 : N1 ≤ 5000) (hN2 : N2 ≤ 5000)
    (p1 : ∀ u A1 c1 A2 c2 A3 c3, Below w.heap.size w u → Holds u u.heap.size A1 n f → Holds u u.heap.size A2 m a → Holds u u.heap.size A3 k b → Calls Try.prog 45 #[.agg #[.int .i64 W, .int .i64 H, .slice A1 n c1], .agg #[.int .i64 X, .int .i64 Y, .slice A2 m c2], .agg #[.int .i64 U, .int .i64 V, .slice A3 k c3]] u (RG u P1 Q1 N1 F1 r1))
    (p2 : ∀ u, Below w.heap.size w u → Calls Try.prog 46 #[.agg #[.int .i64 W, .int .i64 H, .slice A n c], .agg #[.int .i64 X, .int .i64 Y, .slice B m d], .agg #[.int .i64 U, .int .i64 V, .slice C k e]] u (RG u P1 Q1 N1 F1 r1))
    (p3 : ∀ u A1 c1 A2 c2 A3 c3, Below w.heap.size w u → Holds u u.heap.size A1 n f → Holds u u.heap.size A2 m a → Holds u u.heap.size A3 k b → Calls Try.prog 47 #[.agg #[.int .i64 W, .int .i64 H, .slice A1 n c1], .agg #[.int .i64 X, .int .i64 Y, .slice A2 m c2], .agg #[.int .i64 U, .int .i64 V, .slice A3 k c3]] u (RG u P2 Q2 N2 F2 r2))
    (p4 : ∀ u, Below w.heap.size w u → Calls Try.prog 48 #[.agg #[.int .i64 W, .int .i64 H, .slice A n c], .agg #[.int .i64 X, .int .i64 Y, .slice B m d], .agg #[.int .i64 U, .int .i64 V, .slice C k e]] u (RG u P2 Q2 N2 F2 r2)) : Calls Try.prog 10 #[.agg #[.int .i64 W, .int .i64 H, .slice A n c], .agg #[.int .i64 X, .int .i64 Y, .slice B m d], .agg #[.int .i64 U, .int .i64 V, .slice C k e]] w fun e w' => e = .returned (.bool true) ∧ Below w.heap.size w w' := by
  have HG0 := Lib.hid (fun u => rgreat_any W H A n c u)
  rw [decide_eq_false (by omega)] at HG0
  have HT0 := Lib.hid (fun u (hb : Below w.heap.size w u) => twin_all (W := W) (H := H) (c := c) u (show n ≤ 4200 by omega) ((hf.below hb).more hb.size))
  have HS0 := Lib.hid (fun u A' c' (hb : Below w.heap.size w u) (h2 : Holds u u.heap.size A' n f) => rsame_t (W := W) (H := H) (c := c') (d := c) (show n ≤ 5000 by omega) (fun _ _ => rfl) u h2 ((hf.below hb).more hb.size))
  have HG1 := Lib.hid (fun u => rgreat_any X Y B m d u)
  rw [decide_eq_false (by omega)] at HG1
  have HT1 := Lib.hid (fun u (hb : Below w.heap.size w u) => twin_all (W := X) (H := Y) (c := d) u (show m ≤ 4200 by omega) ((ha.below hb).more hb.size))
  have HS1 := Lib.hid (fun u A' c' (hb : Below w.heap.size w u) (h2 : Holds u u.heap.size A' m a) => rsame_t (W := X) (H := Y) (c := c') (d := d) (show m ≤ 5000 by omega) (fun _ _ => rfl) u h2 ((ha.below hb).more hb.size))
  have HG2 := Lib.hid (fun u => rgreat_any U V C k e u)
  rw [decide_eq_false (by omega)] at HG2
  have HT2 := Lib.hid (fun u (hb : Below w.heap.size w u) => twin_all (W := U) (H := V) (c := e) u (show k ≤ 4200 by omega) ((hb1.below hb).more hb.size))
  have HS2 := Lib.hid (fun u A' c' (hb : Below w.heap.size w u) (h2 : Holds u u.heap.size A' k b) => rsame_t (W := U) (H := V) (c := c') (d := e) (show k ≤ 5000 by omega) (fun _ _ => rfl) u h2 ((hb1.below hb).more hb.size))
  have HE1 := Lib.hid (fun u A1 A2 c1 c2 (h1 : Holds u u.heap.size A1 N1 F1) (h2 : Holds u u.heap.size A2 N1 F1) => rsame_t (W := P1) (H := Q1) (c := c1) (d := c2) hN1 (fun _ _ => rfl) u h1 h2)
  have HE2 := Lib.hid (fun u A1 A2 c1 c2 (h1 : Holds u u.heap.size A1 N2 F2) (h2 : Holds u u.heap.size A2 N2 F2) => rsame_t (W := P2) (H := Q2) (c := c1) (d := c2) hN2 (fun _ _ => rfl) u h1 h2)
  have HP1 := Lib.hid p1
  have HP2 := Lib.hid p2
  have HP3 := Lib.hid p3
  have HP4 := Lib.hid p4
  have y1 : (r1 == r1) = true := by simp
  have y2 : (r2 == r2) = true := by simp
  clear hf ha hb1 p1 p2 p3 p4
  have LB0 := Lib.hid (Below.refl w.heap.size w)
  have X1 := Lib.hid (Box.new w W H (.slice A n c))
  have LB0 := Lib.hid (LB0.out.alloc LB0.out.size (.cells #[.int .i64 W, .int .i64 H, .slice A n c] 24))
  have X1 := Lib.hid (X1.out.alloc (.cells #[.int .i64 X, .int .i64 Y, .slice B m d] 24))
  have X2 := Box.new (w.alloc (.cells #[.int .i64 W, .int .i64 H, .slice A n c] 24)) X Y (.slice B m d)
  rw [show ((w.alloc (.cells #[.int .i64 W, .int .i64 H, .slice A n c] 24))).heap.size = w.heap.size + 1 by simp] at X2
  have X2 := Lib.hid X2
  have LB0 := Lib.hid (LB0.out.alloc LB0.out.size (.cells #[.int .i64 X, .int .i64 Y, .slice B m d] 24))
  have X1 := Lib.hid (X1.out.alloc (.cells #[.int .i64 U, .int .i64 V, .slice C k e] 24))
  have X2 := Lib.hid (X2.out.alloc (.cells #[.int .i64 U, .int .i64 V, .slice C k e] 24))
  have X3 := Box.new ((w.alloc (.cells #[.int .i64 W, .int .i64 H, .slice A n c] 24)).alloc (.cells #[.int .i64 X, .int .i64 Y, .slice B m d] 24)) U V (.slice C k e)
  rw [show (((w.alloc (.cells #[.int .i64 W, .int .i64 H, .slice A n c] 24)).alloc (.cells #[.int .i64 X, .int .i64 Y, .slice B m d] 24))).heap.size = w.heap.size + 2 by simp] at X3
  have X3 := Lib.hid X3
  have LB0 := Lib.hid (LB0.out.alloc LB0.out.size (.cells #[.int .i64 U, .int .i64 V, .slice C k e] 24))
  go_enter Try.func10, Try.ntmps10
  go_upto_region 1 with (fail)
  generalize ((w.alloc (.cells #[.int .i64 W, .int .i64 H, .slice A n c] 24)).alloc (.cells #[.int .i64 X, .int .i64 Y, .slice B m d] 24)).alloc (.cells #[.int .i64 U, .int .i64 V, .slice C k e] 24) = w0 at *
  obtain ⟨q0, q1, q2, q3, q4, q5, q6⟩ := X1.out.all
  go_wp2_with fail
  clear q0 q1 q2 q3 q4 q5 q6
  with_reducible refine Calls.mono (HG0.out _) ?_
  rintro e w1 ⟨rfl, hb⟩
  have LB1 := Lib.hid (LB0.out.trans (hb.mono LB0.out.size))
  have X1 := Lib.hid (X1.out.below hb X1.out.lt)
  have X2 := Lib.hid (X2.out.below hb X2.out.lt)
  have X3 := Lib.hid (X3.out.below hb X3.out.lt)
  clear hb LB0 
  obtain ⟨q0, q1, q2, q3, q4, q5, q6⟩ := X2.out.all
  go_wp2_with fail
  clear q0 q1 q2 q3 q4 q5 q6
  with_reducible refine Calls.mono (HG1.out _) ?_
  rintro e w2 ⟨rfl, hb⟩
  have LB2 := Lib.hid (LB1.out.trans (hb.mono LB1.out.size))
  have X1 := Lib.hid (X1.out.below hb X1.out.lt)
  have X2 := Lib.hid (X2.out.below hb X2.out.lt)
  have X3 := Lib.hid (X3.out.below hb X3.out.lt)
  clear hb LB1 
  obtain ⟨q0, q1, q2, q3, q4, q5, q6⟩ := X3.out.all
  go_wp2_with fail
  clear q0 q1 q2 q3 q4 q5 q6
  with_reducible refine Calls.mono (HG2.out _) ?_
  rintro e w3 ⟨rfl, hb⟩
  have LB3 := Lib.hid (LB2.out.trans (hb.mono LB2.out.size))
  have X1 := Lib.hid (X1.out.below hb X1.out.lt)
  have X2 := Lib.hid (X2.out.below hb X2.out.lt)
  have X3 := Lib.hid (X3.out.below hb X3.out.lt)
  clear hb LB2 
  go_upto_region 3 with (fail)
  refine tw3_region _ _ W H X Y U V A B C n c m d k e f a b (by exact ⟨_, rfl, rfl, rfl, rfl, by kernel_rfl⟩) (by exact ⟨_, rfl, rfl, rfl, rfl, by kernel_rfl⟩) (by exact ⟨_, rfl, rfl, rfl, rfl, by kernel_rfl⟩) (by exact ⟨_, rfl, rfl, rfl, rfl, by kernel_rfl⟩) (by exact ⟨_, rfl, rfl, rfl, rfl, by kernel_rfl⟩) (by exact ⟨_, rfl, rfl, rfl, rfl, by kernel_rfl⟩) (by exact ⟨_, rfl, rfl, rfl, rfl, by kernel_rfl⟩) (by exact ⟨_, rfl, rfl, rfl, rfl, by kernel_rfl⟩) (by exact ⟨_, rfl, rfl, rfl, rfl, by kernel_rfl⟩) (by exact ⟨_, rfl, rfl, rfl, rfl, by kernel_rfl⟩) (by exact ⟨_, rfl, rfl, rfl, rfl, by kernel_rfl⟩) (by exact ⟨_, rfl, rfl, rfl, rfl, by kernel_rfl⟩) rfl (by kernel_rfl) (by kernel_rfl) rfl X1.out (fun u hu => HT0.out u (LB3.out.trans (hu.mono LB3.out.size))) rfl X2.out (fun u hu => HT1.out u (LB3.out.trans (hu.mono LB3.out.size))) rfl X3.out (fun u hu => HT2.out u (LB3.out.trans (hu.mono LB3.out.size))) (Nat.le_of_ble_eq_true rfl) ?_
  intro t1 t2 t3 A1 c1 A2 c2 A3 c3 w4 hb hg1 hg2 hg3 hx1 hx2 hx3 hh1 hh2 hh3
  clear hg1 hg2 hg3
  have LB4 := Lib.hid (LB3.out.trans (hb.mono LB3.out.size))
  have X1 := Lib.hid (X1.out.below hb X1.out.lt)
  have X2 := Lib.hid (X2.out.below hb X2.out.lt)
  have X3 := Lib.hid (X3.out.below hb X3.out.lt)
  have XT1 := Lib.hid hx1
  have XT2 := Lib.hid hx2
  have XT3 := Lib.hid hx3
  have HH1 := Lib.hid hh1
  have HH2 := Lib.hid hh2
  have HH3 := Lib.hid hh3
  clear hb LB3 hx1 hx2 hx3 hh1 hh2 hh3
  obtain ⟨q0, q1, q2, q3, q4, q5, q6⟩ := XT1.out.all
  obtain ⟨q7, q8, q9, q10, q11, q12, q13⟩ := XT2.out.all
  obtain ⟨q14, q15, q16, q17, q18, q19, q20⟩ := XT3.out.all
  go_wp2_with fail
  clear q0 q1 q2 q3 q4 q5 q6 q7 q8 q9 q10 q11 q12 q13 q14 q15 q16 q17 q18 q19 q20
  with_reducible refine Calls.mono (HP1.out _ _ _ _ _ _ _ LB4.out HH1.out HH2.out HH3.out) ?_
  rintro e w5 ⟨A4, c4, rfl, hh, hb⟩
  have LB5 := Lib.hid (LB4.out.trans (hb.mono LB4.out.size))
  have X1 := Lib.hid (X1.out.below hb X1.out.lt)
  have X2 := Lib.hid (X2.out.below hb X2.out.lt)
  have X3 := Lib.hid (X3.out.below hb X3.out.lt)
  have XT1 := Lib.hid (XT1.out.below hb XT1.out.lt)
  have XT2 := Lib.hid (XT2.out.below hb XT2.out.lt)
  have XT3 := Lib.hid (XT3.out.below hb XT3.out.lt)
  have HH1 := Lib.hid ((HH1.out.below hb).more hb.size)
  have HH2 := Lib.hid ((HH2.out.below hb).more hb.size)
  have HH3 := Lib.hid ((HH3.out.below hb).more hb.size)
  have H4 := Lib.hid hh
  clear hb LB4 hh
  have hb := ((Below.refl w5.heap.size w5).alloc (by simp; try omega) (.cells #[.int .i64 P1, .int .i64 Q1, .slice A4 N1 c4] 24))
  have LB6 := Lib.hid (LB5.out.trans (hb.mono LB5.out.size))
  have X1 := Lib.hid (X1.out.below hb X1.out.lt)
  have X2 := Lib.hid (X2.out.below hb X2.out.lt)
  have X3 := Lib.hid (X3.out.below hb X3.out.lt)
  have XT1 := Lib.hid (XT1.out.below hb XT1.out.lt)
  have XT2 := Lib.hid (XT2.out.below hb XT2.out.lt)
  have XT3 := Lib.hid (XT3.out.below hb XT3.out.lt)
  have HH1 := Lib.hid ((HH1.out.below hb).more hb.size)
  have HH2 := Lib.hid ((HH2.out.below hb).more hb.size)
  have HH3 := Lib.hid ((HH3.out.below hb).more hb.size)
  have H4 := Lib.hid ((H4.out.below hb).more hb.size)
  have B4 := Box.new w5 P1 Q1 (.slice A4 N1 c4)
  have B4 := Lib.hid B4
  clear hb LB5
  go_upto_region 5 with (fail)
  obtain ⟨b4, hb4⟩ : ∃ z, w5.heap.size = z := ⟨_, rfl⟩
  rw [hb4] at B4
  try rw [hb4]
  clear hb4
  generalize w5.alloc (.cells #[.int .i64 P1, .int .i64 Q1, .slice A4 N1 c4] 24) = w6 at *
  obtain ⟨q0, q1, q2, q3, q4, q5, q6⟩ := X1.out.all
  obtain ⟨q7, q8, q9, q10, q11, q12, q13⟩ := X2.out.all
  obtain ⟨q14, q15, q16, q17, q18, q19, q20⟩ := X3.out.all
  go_wp2_with fail
  clear q0 q1 q2 q3 q4 q5 q6 q7 q8 q9 q10 q11 q12 q13 q14 q15 q16 q17 q18 q19 q20
  with_reducible refine Calls.mono (HP2.out _ LB6.out) ?_
  rintro e w7 ⟨A5, c5, rfl, hh, hb⟩
  have LB7 := Lib.hid (LB6.out.trans (hb.mono LB6.out.size))
  have X1 := Lib.hid (X1.out.below hb X1.out.lt)
  have X2 := Lib.hid (X2.out.below hb X2.out.lt)
  have X3 := Lib.hid (X3.out.below hb X3.out.lt)
  have XT1 := Lib.hid (XT1.out.below hb XT1.out.lt)
  have XT2 := Lib.hid (XT2.out.below hb XT2.out.lt)
  have XT3 := Lib.hid (XT3.out.below hb XT3.out.lt)
  have HH1 := Lib.hid ((HH1.out.below hb).more hb.size)
  have HH2 := Lib.hid ((HH2.out.below hb).more hb.size)
  have HH3 := Lib.hid ((HH3.out.below hb).more hb.size)
  have H4 := Lib.hid ((H4.out.below hb).more hb.size)
  have B4 := Lib.hid (B4.out.below hb B4.out.lt)
  have H5 := Lib.hid hh
  clear hb LB6 hh
  have hb := ((Below.refl w7.heap.size w7).alloc (by simp; try omega) (.cells #[.int .i64 P1, .int .i64 Q1, .slice A5 N1 c5] 24))
  have LB8 := Lib.hid (LB7.out.trans (hb.mono LB7.out.size))
  have X1 := Lib.hid (X1.out.below hb X1.out.lt)
  have X2 := Lib.hid (X2.out.below hb X2.out.lt)
  have X3 := Lib.hid (X3.out.below hb X3.out.lt)
  have XT1 := Lib.hid (XT1.out.below hb XT1.out.lt)
  have XT2 := Lib.hid (XT2.out.below hb XT2.out.lt)
  have XT3 := Lib.hid (XT3.out.below hb XT3.out.lt)
  have HH1 := Lib.hid ((HH1.out.below hb).more hb.size)
  have HH2 := Lib.hid ((HH2.out.below hb).more hb.size)
  have HH3 := Lib.hid ((HH3.out.below hb).more hb.size)
  have H4 := Lib.hid ((H4.out.below hb).more hb.size)
  have B4 := Lib.hid (B4.out.below hb B4.out.lt)
  have H5 := Lib.hid ((H5.out.below hb).more hb.size)
  have B5 := Box.new w7 P1 Q1 (.slice A5 N1 c5)
  have B5 := Lib.hid B5
  clear hb LB7
  go_upto_region 6 with (fail)
  obtain ⟨b5, hb5⟩ : ∃ z, w7.heap.size = z := ⟨_, rfl⟩
  rw [hb5] at B5
  try rw [hb5]
  clear hb5
  generalize w7.alloc (.cells #[.int .i64 P1, .int .i64 Q1, .slice A5 N1 c5] 24) = w8 at *
  obtain ⟨q0, q1, q2, q3, q4, q5, q6⟩ := XT1.out.all
  obtain ⟨q7, q8, q9, q10, q11, q12, q13⟩ := XT2.out.all
  obtain ⟨q14, q15, q16, q17, q18, q19, q20⟩ := XT3.out.all
  go_wp2_with fail
  clear q0 q1 q2 q3 q4 q5 q6 q7 q8 q9 q10 q11 q12 q13 q14 q15 q16 q17 q18 q19 q20
  with_reducible refine Calls.mono (HP3.out _ _ _ _ _ _ _ LB8.out HH1.out HH2.out HH3.out) ?_
  rintro e w9 ⟨A6, c6, rfl, hh, hb⟩
  have LB9 := Lib.hid (LB8.out.trans (hb.mono LB8.out.size))
  have X1 := Lib.hid (X1.out.below hb X1.out.lt)
  have X2 := Lib.hid (X2.out.below hb X2.out.lt)
  have X3 := Lib.hid (X3.out.below hb X3.out.lt)
  have XT1 := Lib.hid (XT1.out.below hb XT1.out.lt)
  have XT2 := Lib.hid (XT2.out.below hb XT2.out.lt)
  have XT3 := Lib.hid (XT3.out.below hb XT3.out.lt)
  have HH1 := Lib.hid ((HH1.out.below hb).more hb.size)
  have HH2 := Lib.hid ((HH2.out.below hb).more hb.size)
  have HH3 := Lib.hid ((HH3.out.below hb).more hb.size)
  have H4 := Lib.hid ((H4.out.below hb).more hb.size)
  have B4 := Lib.hid (B4.out.below hb B4.out.lt)
  have H5 := Lib.hid ((H5.out.below hb).more hb.size)
  have B5 := Lib.hid (B5.out.below hb B5.out.lt)
  have H6 := Lib.hid hh
  clear hb LB8 hh
  have hb := ((Below.refl w9.heap.size w9).alloc (by simp; try omega) (.cells #[.int .i64 P2, .int .i64 Q2, .slice A6 N2 c6] 24))
  have LB10 := Lib.hid (LB9.out.trans (hb.mono LB9.out.size))
  have X1 := Lib.hid (X1.out.below hb X1.out.lt)
  have X2 := Lib.hid (X2.out.below hb X2.out.lt)
  have X3 := Lib.hid (X3.out.below hb X3.out.lt)
  have XT1 := Lib.hid (XT1.out.below hb XT1.out.lt)
  have XT2 := Lib.hid (XT2.out.below hb XT2.out.lt)
  have XT3 := Lib.hid (XT3.out.below hb XT3.out.lt)
  have HH1 := Lib.hid ((HH1.out.below hb).more hb.size)
  have HH2 := Lib.hid ((HH2.out.below hb).more hb.size)
  have HH3 := Lib.hid ((HH3.out.below hb).more hb.size)
  have H4 := Lib.hid ((H4.out.below hb).more hb.size)
  have B4 := Lib.hid (B4.out.below hb B4.out.lt)
  have H5 := Lib.hid ((H5.out.below hb).more hb.size)
  have B5 := Lib.hid (B5.out.below hb B5.out.lt)
  have H6 := Lib.hid ((H6.out.below hb).more hb.size)
  have B6 := Box.new w9 P2 Q2 (.slice A6 N2 c6)
  have B6 := Lib.hid B6
  clear hb LB9
  go_upto_region 7 with (fail)
  obtain ⟨b6, hb6⟩ : ∃ z, w9.heap.size = z := ⟨_, rfl⟩
  rw [hb6] at B6
  try rw [hb6]
  clear hb6
  generalize w9.alloc (.cells #[.int .i64 P2, .int .i64 Q2, .slice A6 N2 c6] 24) = w10 at *
  obtain ⟨q0, q1, q2, q3, q4, q5, q6⟩ := X1.out.all
  obtain ⟨q7, q8, q9, q10, q11, q12, q13⟩ := X2.out.all
  obtain ⟨q14, q15, q16, q17, q18, q19, q20⟩ := X3.out.all
  go_wp2_with fail
  clear q0 q1 q2 q3 q4 q5 q6 q7 q8 q9 q10 q11 q12 q13 q14 q15 q16 q17 q18 q19 q20
  with_reducible refine Calls.mono (HP4.out _ LB10.out) ?_
  rintro e w11 ⟨A7, c7, rfl, hh, hb⟩
  have LB11 := Lib.hid (LB10.out.trans (hb.mono LB10.out.size))
  have X1 := Lib.hid (X1.out.below hb X1.out.lt)
  have X2 := Lib.hid (X2.out.below hb X2.out.lt)
  have X3 := Lib.hid (X3.out.below hb X3.out.lt)
  have XT1 := Lib.hid (XT1.out.below hb XT1.out.lt)
  have XT2 := Lib.hid (XT2.out.below hb XT2.out.lt)
  have XT3 := Lib.hid (XT3.out.below hb XT3.out.lt)
  have HH1 := Lib.hid ((HH1.out.below hb).more hb.size)
  have HH2 := Lib.hid ((HH2.out.below hb).more hb.size)
  have HH3 := Lib.hid ((HH3.out.below hb).more hb.size)
  have H4 := Lib.hid ((H4.out.below hb).more hb.size)
  have B4 := Lib.hid (B4.out.below hb B4.out.lt)
  have H5 := Lib.hid ((H5.out.below hb).more hb.size)
  have B5 := Lib.hid (B5.out.below hb B5.out.lt)
  have H6 := Lib.hid ((H6.out.below hb).more hb.size)
  have B6 := Lib.hid (B6.out.below hb B6.out.lt)
  have H7 := Lib.hid hh
  clear hb LB10 hh
  have hb := ((Below.refl w11.heap.size w11).alloc (by simp; try omega) (.cells #[.int .i64 P2, .int .i64 Q2, .slice A7 N2 c7] 24))
  have LB12 := Lib.hid (LB11.out.trans (hb.mono LB11.out.size))
  have X1 := Lib.hid (X1.out.below hb X1.out.lt)
  have X2 := Lib.hid (X2.out.below hb X2.out.lt)
  have X3 := Lib.hid (X3.out.below hb X3.out.lt)
  have XT1 := Lib.hid (XT1.out.below hb XT1.out.lt)
  have XT2 := Lib.hid (XT2.out.below hb XT2.out.lt)
  have XT3 := Lib.hid (XT3.out.below hb XT3.out.lt)
  have HH1 := Lib.hid ((HH1.out.below hb).more hb.size)
  have HH2 := Lib.hid ((HH2.out.below hb).more hb.size)
  have HH3 := Lib.hid ((HH3.out.below hb).more hb.size)
  have H4 := Lib.hid ((H4.out.below hb).more hb.size)
  have B4 := Lib.hid (B4.out.below hb B4.out.lt)
  have H5 := Lib.hid ((H5.out.below hb).more hb.size)
  have B5 := Lib.hid (B5.out.below hb B5.out.lt)
  have H6 := Lib.hid ((H6.out.below hb).more hb.size)
  have B6 := Lib.hid (B6.out.below hb B6.out.lt)
  have H7 := Lib.hid ((H7.out.below hb).more hb.size)
  have B7 := Box.new w11 P2 Q2 (.slice A7 N2 c7)
  have B7 := Lib.hid B7
  clear hb LB11
  go_upto_region 8 with (fail)
  obtain ⟨b7, hb7⟩ : ∃ z, w11.heap.size = z := ⟨_, rfl⟩
  rw [hb7] at B7
  try rw [hb7]
  clear hb7
  generalize w11.alloc (.cells #[.int .i64 P2, .int .i64 Q2, .slice A7 N2 c7] 24) = w12 at *
  obtain ⟨q0, q1, q2, q3, q4, q5, q6⟩ := B4.out.all
  obtain ⟨q7, q8, q9, q10, q11, q12, q13⟩ := B5.out.all
  go_wp2_with fail
  clear q0 q1 q2 q3 q4 q5 q6 q7 q8 q9 q10 q11 q12 q13
  with_reducible refine Calls.mono (HE1.out _ _ _ _ _ H4.out H5.out) ?_
  rintro e w13 ⟨rfl, hb⟩
  have LB13 := Lib.hid (LB12.out.trans (hb.mono LB12.out.size))
  have X1 := Lib.hid (X1.out.below hb X1.out.lt)
  have X2 := Lib.hid (X2.out.below hb X2.out.lt)
  have X3 := Lib.hid (X3.out.below hb X3.out.lt)
  have XT1 := Lib.hid (XT1.out.below hb XT1.out.lt)
  have XT2 := Lib.hid (XT2.out.below hb XT2.out.lt)
  have XT3 := Lib.hid (XT3.out.below hb XT3.out.lt)
  have HH1 := Lib.hid ((HH1.out.below hb).more hb.size)
  have HH2 := Lib.hid ((HH2.out.below hb).more hb.size)
  have HH3 := Lib.hid ((HH3.out.below hb).more hb.size)
  have H4 := Lib.hid ((H4.out.below hb).more hb.size)
  have B4 := Lib.hid (B4.out.below hb B4.out.lt)
  have H5 := Lib.hid ((H5.out.below hb).more hb.size)
  have B5 := Lib.hid (B5.out.below hb B5.out.lt)
  have H6 := Lib.hid ((H6.out.below hb).more hb.size)
  have B6 := Lib.hid (B6.out.below hb B6.out.lt)
  have H7 := Lib.hid ((H7.out.below hb).more hb.size)
  have B7 := Lib.hid (B7.out.below hb B7.out.lt)
  clear hb LB12 
  clear H4 H5 B4 B5
  obtain ⟨q0, q1, q2, q3, q4, q5, q6⟩ := B6.out.all
  obtain ⟨q7, q8, q9, q10, q11, q12, q13⟩ := B7.out.all
  go_wp2_with fail
  clear q0 q1 q2 q3 q4 q5 q6 q7 q8 q9 q10 q11 q12 q13
  with_reducible refine Calls.mono (HE2.out _ _ _ _ _ H6.out H7.out) ?_
  rintro e w14 ⟨rfl, hb⟩
  have LB14 := Lib.hid (LB13.out.trans (hb.mono LB13.out.size))
  have X1 := Lib.hid (X1.out.below hb X1.out.lt)
  have X2 := Lib.hid (X2.out.below hb X2.out.lt)
  have X3 := Lib.hid (X3.out.below hb X3.out.lt)
  have XT1 := Lib.hid (XT1.out.below hb XT1.out.lt)
  have XT2 := Lib.hid (XT2.out.below hb XT2.out.lt)
  have XT3 := Lib.hid (XT3.out.below hb XT3.out.lt)
  have HH1 := Lib.hid ((HH1.out.below hb).more hb.size)
  have HH2 := Lib.hid ((HH2.out.below hb).more hb.size)
  have HH3 := Lib.hid ((HH3.out.below hb).more hb.size)
  have H6 := Lib.hid ((H6.out.below hb).more hb.size)
  have B6 := Lib.hid (B6.out.below hb B6.out.lt)
  have H7 := Lib.hid ((H7.out.below hb).more hb.size)
  have B7 := Lib.hid (B7.out.below hb B7.out.lt)
  clear hb LB13 
  clear H6 H7 B6 B7
  obtain ⟨q0, q1, q2, q3, q4, q5, q6⟩ := XT1.out.all
  obtain ⟨q7, q8, q9, q10, q11, q12, q13⟩ := X1.out.all
  go_wp2_with fail
  clear q0 q1 q2 q3 q4 q5 q6 q7 q8 q9 q10 q11 q12 q13
  with_reducible refine Calls.mono (HS0.out _ _ _ LB14.out HH1.out) ?_
  rintro e w15 ⟨rfl, hb⟩
  have LB15 := Lib.hid (LB14.out.trans (hb.mono LB14.out.size))
  have X1 := Lib.hid (X1.out.below hb X1.out.lt)
  have X2 := Lib.hid (X2.out.below hb X2.out.lt)
  have X3 := Lib.hid (X3.out.below hb X3.out.lt)
  have XT1 := Lib.hid (XT1.out.below hb XT1.out.lt)
  have XT2 := Lib.hid (XT2.out.below hb XT2.out.lt)
  have XT3 := Lib.hid (XT3.out.below hb XT3.out.lt)
  have HH1 := Lib.hid ((HH1.out.below hb).more hb.size)
  have HH2 := Lib.hid ((HH2.out.below hb).more hb.size)
  have HH3 := Lib.hid ((HH3.out.below hb).more hb.size)
  clear hb LB14 
  obtain ⟨q0, q1, q2, q3, q4, q5, q6⟩ := XT2.out.all
  obtain ⟨q7, q8, q9, q10, q11, q12, q13⟩ := X2.out.all
  go_wp2_with fail
  clear q0 q1 q2 q3 q4 q5 q6 q7 q8 q9 q10 q11 q12 q13
  with_reducible refine Calls.mono (HS1.out _ _ _ LB15.out HH2.out) ?_
  rintro e w16 ⟨rfl, hb⟩
  have LB16 := Lib.hid (LB15.out.trans (hb.mono LB15.out.size))
  have X1 := Lib.hid (X1.out.below hb X1.out.lt)
  have X2 := Lib.hid (X2.out.below hb X2.out.lt)
  have X3 := Lib.hid (X3.out.below hb X3.out.lt)
  have XT1 := Lib.hid (XT1.out.below hb XT1.out.lt)
  have XT2 := Lib.hid (XT2.out.below hb XT2.out.lt)
  have XT3 := Lib.hid (XT3.out.below hb XT3.out.lt)
  have HH1 := Lib.hid ((HH1.out.below hb).more hb.size)
  have HH2 := Lib.hid ((HH2.out.below hb).more hb.size)
  have HH3 := Lib.hid ((HH3.out.below hb).more hb.size)
  clear hb LB15 
  obtain ⟨q0, q1, q2, q3, q4, q5, q6⟩ := XT3.out.all
  obtain ⟨q7, q8, q9, q10, q11, q12, q13⟩ := X3.out.all
  go_wp2_with fail
  clear q0 q1 q2 q3 q4 q5 q6 q7 q8 q9 q10 q11 q12 q13
  with_reducible refine Calls.mono (HS2.out _ _ _ LB16.out HH3.out) ?_
  rintro e w17 ⟨rfl, hb⟩
  have LB17 := Lib.hid (LB16.out.trans (hb.mono LB16.out.size))
  have X1 := Lib.hid (X1.out.below hb X1.out.lt)
  have X2 := Lib.hid (X2.out.below hb X2.out.lt)
  have X3 := Lib.hid (X3.out.below hb X3.out.lt)
  have XT1 := Lib.hid (XT1.out.below hb XT1.out.lt)
  have XT2 := Lib.hid (XT2.out.below hb XT2.out.lt)
  have XT3 := Lib.hid (XT3.out.below hb XT3.out.lt)
  have HH1 := Lib.hid ((HH1.out.below hb).more hb.size)
  have HH2 := Lib.hid ((HH2.out.below hb).more hb.size)
  have HH3 := Lib.hid ((HH3.out.below hb).more hb.size)
  clear hb LB16 
  go_wp2
  go_ret
  exact ⟨rfl, LB17.out⟩
theorem fills13_any (W H X Y U V : Int) (A B C : Option Addr) (n c m d k e : Nat) (f a b : Nat → Bool) (w : World) (hf : Holds w w.heap.size A n f) (ha : Holds w w.heap.size B m a) (hb : Holds w w.heap.size C k b) : Calls Try.prog 10 #[.agg #[.int .i64 W, .int .i64 H, .slice A n c], .agg #[.int .i64 X, .int .i64 Y, .slice B m d], .agg #[.int .i64 U, .int .i64 V, .slice C k e]] w fun e w' => e = .returned (.bool true) ∧ Below w.heap.size w w' := by
  by_cases h0 : 4200 < n
  · exact fills_great0 W H X Y U V A B C n c m d k e h0 w
  by_cases h1 : 4200 < m
  · exact fills_great1 W H X Y U V A B C n c m d k e (by omega) h1 w
  by_cases h2 : 4200 < k
  · exact fills_great2 W H X Y U V A B C n c m d k e (by omega) (by omega) h2 w
  obtain ⟨P1, Q1, N1, F1, r1, l1, p1, p2⟩ := fill_pair (W := W) (H := H) (X := X) (Y := Y) (U := U) (V := V) (c := c) (d := d) (e := e) (show n ≤ 4200 by omega) (show m ≤ 4200 by omega) (show k ≤ 4200 by omega) hf ha hb
  obtain ⟨P2, Q2, N2, F2, r2, l2, p3, p4⟩ := prof_pair (W := W) (H := H) (X := X) (Y := Y) (U := U) (V := V) (c := c) (d := d) (e := e) (show n ≤ 4200 by omega) (show m ≤ 4200 by omega) (show k ≤ 4200 by omega) hf ha hb
  exact fills_core W H X Y U V A B C n c m d k e f a b w hf ha hb (by omega) (by omega) (by omega) P1 Q1 N1 F1 r1 P2 Q2 N2 F2 r2 l1 l2 p1 p2 p3 p4
end Go.Proofs.Ytngjcekjboedjaa
