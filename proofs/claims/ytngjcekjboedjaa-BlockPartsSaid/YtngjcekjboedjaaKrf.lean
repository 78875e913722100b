/- Layer 13 of the reference: three, Fill. -/
import Derived.Test.YtngjcekjboedjaaKfw
import Derived.StillTailTactics
import Derived.Deep.RegionHeld3
import Derived.Deep.DeepCutAuto
import Derived.BigQuiet
namespace Go.Proofs.Ytngjcekjboedjaa
open Go.RowKit
set_option maxRecDepth 100000
set_option linter.unusedVariables false
set_option linter.unusedSimpArgs false

/-- The first error of three. -/
def th3 (z1 z2 z3 : Int) : Int := if z1 ≠ 0 then z1 else if z2 ≠ 0 then z2 else z3
theorem rthree_any (W H X Y U V : Int) (A B C : Option Addr) (n c m d k e : Nat) (w : World) (hn : n ≤ 4200) (hm : m ≤ 4200) (hk : k ≤ 4200) :
    Calls Try.prog 94 #[.agg #[.int .i64 W, .int .i64 H, .slice A n c], .agg #[.int .i64 X, .int .i64 Y, .slice B m d], .agg #[.int .i64 U, .int .i64 V, .slice C k e]] w fun e w' => e = .returned (.int .i64 (th3 (chk W H n) (chk X Y m) (chk U V k))) ∧ Below w.heap.size w w' := by
  have HC := Lib.hid (fun z => rchk_any W H A n c z hn)
  have HB := Lib.hid (fun z => both_any X Y U V B C m d k e z hm hk)
  obtain ⟨z1, h1⟩ : ∃ z, chk W H n = z := ⟨_, rfl⟩
  obtain ⟨z2, h2⟩ : ∃ z, (if chk X Y m = 0 then chk U V k else chk X Y m) = z := ⟨_, rfl⟩
  have HE := Lib.hid (show th3 (chk W H n) (chk X Y m) (chk U V k) = if z1 ≠ 0 then z1 else z2 by
    unfold th3; rw [h1, ← h2]
    by_cases a : z1 = 0 <;> by_cases b : chk X Y m = 0 <;> simp [a, b])
  rw [h1] at HC
  rw [h2] at HB
  clear h1 h2
  by_cases hz : z1 = 0
  · have y1 : (z1 != 0) = false := by rw [hz]; rfl
    have HE2 := Lib.hid (HE.out.trans (if_neg (by simpa using hz)))
    clear hz
    have LB0 := Lib.hid (Below.refl w.heap.size w)
    have X1 := Lib.hid (Box.new w W H (.slice A n c))
    have LB0 := Lib.hid (LB0.out.alloc LB0.out.size (.cells #[.int .i64 W, .int .i64 H, .slice A n c] 24))
    have X1 := Lib.hid (X1.out.alloc (.cells #[.int .i64 X, .int .i64 Y, .slice B m d] 24))
    have X2 := Box.new (w.alloc (.cells #[.int .i64 W, .int .i64 H, .slice A n c] 24)) X Y (.slice B m d)
    rw [show ((w.alloc (.cells #[.int .i64 W, .int .i64 H, .slice A n c] 24))).heap.size = w.heap.size + 1 by simp] at X2
    have X2 := Lib.hid X2
    have LB0 := Lib.hid (LB0.out.alloc LB0.out.size (.cells #[.int .i64 X, .int .i64 Y, .slice B m d] 24))
    have X1 := Lib.hid (X1.out.alloc (.cells #[.int .i64 U, .int .i64 V, .slice C k e] 24))
    have X2 := Lib.hid (X2.out.alloc (.cells #[.int .i64 U, .int .i64 V, .slice C k e] 24))
    have X3 := Box.new ((w.alloc (.cells #[.int .i64 W, .int .i64 H, .slice A n c] 24)).alloc (.cells #[.int .i64 X, .int .i64 Y, .slice B m d] 24)) U V (.slice C k e)
    rw [show (((w.alloc (.cells #[.int .i64 W, .int .i64 H, .slice A n c] 24)).alloc (.cells #[.int .i64 X, .int .i64 Y, .slice B m d] 24))).heap.size = w.heap.size + 2 by simp] at X3
    have X3 := Lib.hid X3
    have LB0 := Lib.hid (LB0.out.alloc LB0.out.size (.cells #[.int .i64 U, .int .i64 V, .slice C k e] 24))
    go_enter Try.func94, Try.ntmps94
    go_upto_region 1 with (fail)
    generalize ((w.alloc (.cells #[.int .i64 W, .int .i64 H, .slice A n c] 24)).alloc (.cells #[.int .i64 X, .int .i64 Y, .slice B m d] 24)).alloc (.cells #[.int .i64 U, .int .i64 V, .slice C k e] 24) = w0 at *
    obtain ⟨q0, q1, q2, q3, q4, q5, q6⟩ := X1.out.all
    go_wp2_with fail
    clear q0 q1 q2 q3 q4 q5 q6
    with_reducible refine Calls.mono (HC.out _) ?_
    rintro e w1 ⟨rfl, hb⟩
    have LB1 := Lib.hid (LB0.out.trans (hb.mono LB0.out.size))
    have X1 := Lib.hid (X1.out.below hb X1.out.lt)
    have X2 := Lib.hid (X2.out.below hb X2.out.lt)
    have X3 := Lib.hid (X3.out.below hb X3.out.lt)
    clear hb LB0 
    obtain ⟨q0, q1, q2, q3, q4, q5, q6⟩ := X2.out.all
    obtain ⟨q7, q8, q9, q10, q11, q12, q13⟩ := X3.out.all
    go_wp2_with fail
    clear q0 q1 q2 q3 q4 q5 q6 q7 q8 q9 q10 q11 q12 q13
    with_reducible refine Calls.mono (HB.out _) ?_
    rintro e w2 ⟨rfl, hb⟩
    have LB2 := Lib.hid (LB1.out.trans (hb.mono LB1.out.size))
    have X1 := Lib.hid (X1.out.below hb X1.out.lt)
    have X2 := Lib.hid (X2.out.below hb X2.out.lt)
    have X3 := Lib.hid (X3.out.below hb X3.out.lt)
    clear hb LB1 
    go_wp2
    go_ret
    exact ⟨by rw [HE2.out]; rfl, LB2.out⟩
  · have y1 : (z1 != 0) = true := by rw [bne_iff_ne]; exact hz
    have HE2 := Lib.hid (HE.out.trans (if_pos hz))
    clear hz
    have LB0 := Lib.hid (Below.refl w.heap.size w)
    have X1 := Lib.hid (Box.new w W H (.slice A n c))
    have LB0 := Lib.hid (LB0.out.alloc LB0.out.size (.cells #[.int .i64 W, .int .i64 H, .slice A n c] 24))
    have X1 := Lib.hid (X1.out.alloc (.cells #[.int .i64 X, .int .i64 Y, .slice B m d] 24))
    have X2 := Box.new (w.alloc (.cells #[.int .i64 W, .int .i64 H, .slice A n c] 24)) X Y (.slice B m d)
    rw [show ((w.alloc (.cells #[.int .i64 W, .int .i64 H, .slice A n c] 24))).heap.size = w.heap.size + 1 by simp] at X2
    have X2 := Lib.hid X2
    have LB0 := Lib.hid (LB0.out.alloc LB0.out.size (.cells #[.int .i64 X, .int .i64 Y, .slice B m d] 24))
    have X1 := Lib.hid (X1.out.alloc (.cells #[.int .i64 U, .int .i64 V, .slice C k e] 24))
    have X2 := Lib.hid (X2.out.alloc (.cells #[.int .i64 U, .int .i64 V, .slice C k e] 24))
    have X3 := Box.new ((w.alloc (.cells #[.int .i64 W, .int .i64 H, .slice A n c] 24)).alloc (.cells #[.int .i64 X, .int .i64 Y, .slice B m d] 24)) U V (.slice C k e)
    rw [show (((w.alloc (.cells #[.int .i64 W, .int .i64 H, .slice A n c] 24)).alloc (.cells #[.int .i64 X, .int .i64 Y, .slice B m d] 24))).heap.size = w.heap.size + 2 by simp] at X3
    have X3 := Lib.hid X3
    have LB0 := Lib.hid (LB0.out.alloc LB0.out.size (.cells #[.int .i64 U, .int .i64 V, .slice C k e] 24))
    go_enter Try.func94, Try.ntmps94
    go_upto_region 1 with (fail)
    generalize ((w.alloc (.cells #[.int .i64 W, .int .i64 H, .slice A n c] 24)).alloc (.cells #[.int .i64 X, .int .i64 Y, .slice B m d] 24)).alloc (.cells #[.int .i64 U, .int .i64 V, .slice C k e] 24) = w0 at *
    obtain ⟨q0, q1, q2, q3, q4, q5, q6⟩ := X1.out.all
    go_wp2_with fail
    clear q0 q1 q2 q3 q4 q5 q6
    with_reducible refine Calls.mono (HC.out _) ?_
    rintro e w1 ⟨rfl, hb⟩
    have LB1 := Lib.hid (LB0.out.trans (hb.mono LB0.out.size))
    have X1 := Lib.hid (X1.out.below hb X1.out.lt)
    have X2 := Lib.hid (X2.out.below hb X2.out.lt)
    have X3 := Lib.hid (X3.out.below hb X3.out.lt)
    clear hb LB0 
    obtain ⟨q0, q1, q2, q3, q4, q5, q6⟩ := X1.out.all
    go_wp2_with fail
    clear q0 q1 q2 q3 q4 q5 q6
    with_reducible refine Calls.mono (HC.out _) ?_
    rintro e w2 ⟨rfl, hb⟩
    have LB2 := Lib.hid (LB1.out.trans (hb.mono LB1.out.size))
    have X1 := Lib.hid (X1.out.below hb X1.out.lt)
    have X2 := Lib.hid (X2.out.below hb X2.out.lt)
    have X3 := Lib.hid (X3.out.below hb X3.out.lt)
    clear hb LB1 
    go_wp2
    go_ret
    exact ⟨by rw [HE2.out]; rfl, LB2.out⟩
set_option maxHeartbeats 1600000 in
theorem rfill_err (W H X Y U V : Int) (A B C : Option Addr) (n c m d k e : Nat) (w : World) (hn : n ≤ 4200) (hm : m ≤ 4200) (hk : k ≤ 4200) (F : Nat → Bool) (z : Int) (hz : th3 (chk W H n) (chk X Y m) (chk U V k) = z) (hne : z ≠ 0) : Calls Try.prog 46 #[.agg #[.int .i64 W, .int .i64 H, .slice A n c], .agg #[.int .i64 X, .int .i64 Y, .slice B m d], .agg #[.int .i64 U, .int .i64 V, .slice C k e]] w (RG w 0 0 0 F z) := by
  have HT := Lib.hid (fun u => rthree_any W H X Y U V A B C n c m d k e u hn hm hk)
  rw [hz] at HT
  have y1 : (z != 0) = true := by rw [bne_iff_ne]; exact hne
  clear hz hne
  have LB0 := Lib.hid (Below.refl w.heap.size w)
  have X1 := Lib.hid (Box.new w W H (.slice A n c))
  have LB0 := Lib.hid (LB0.out.alloc LB0.out.size (.cells #[.int .i64 W, .int .i64 H, .slice A n c] 24))
  have X1 := Lib.hid (X1.out.alloc (.cells #[.int .i64 X, .int .i64 Y, .slice B m d] 24))
  have X2 := Box.new (w.alloc (.cells #[.int .i64 W, .int .i64 H, .slice A n c] 24)) X Y (.slice B m d)
  rw [show ((w.alloc (.cells #[.int .i64 W, .int .i64 H, .slice A n c] 24))).heap.size = w.heap.size + 1 by simp] at X2
  have X2 := Lib.hid X2
  have LB0 := Lib.hid (LB0.out.alloc LB0.out.size (.cells #[.int .i64 X, .int .i64 Y, .slice B m d] 24))
  have X1 := Lib.hid (X1.out.alloc (.cells #[.int .i64 U, .int .i64 V, .slice C k e] 24))
  have X2 := Lib.hid (X2.out.alloc (.cells #[.int .i64 U, .int .i64 V, .slice C k e] 24))
  have X3 := Box.new ((w.alloc (.cells #[.int .i64 W, .int .i64 H, .slice A n c] 24)).alloc (.cells #[.int .i64 X, .int .i64 Y, .slice B m d] 24)) U V (.slice C k e)
  rw [show (((w.alloc (.cells #[.int .i64 W, .int .i64 H, .slice A n c] 24)).alloc (.cells #[.int .i64 X, .int .i64 Y, .slice B m d] 24))).heap.size = w.heap.size + 2 by simp] at X3
  have X3 := Lib.hid X3
  have LB0 := Lib.hid (LB0.out.alloc LB0.out.size (.cells #[.int .i64 U, .int .i64 V, .slice C k e] 24))
  have X1 := Lib.hid (X1.out.alloc (.cells #[.int .i64 0, .int .i64 0, .slice none 0 0] 24))
  have X2 := Lib.hid (X2.out.alloc (.cells #[.int .i64 0, .int .i64 0, .slice none 0 0] 24))
  have X3 := Lib.hid (X3.out.alloc (.cells #[.int .i64 0, .int .i64 0, .slice none 0 0] 24))
  have R0 := Box.new (((w.alloc (.cells #[.int .i64 W, .int .i64 H, .slice A n c] 24)).alloc (.cells #[.int .i64 X, .int .i64 Y, .slice B m d] 24)).alloc (.cells #[.int .i64 U, .int .i64 V, .slice C k e] 24)) 0 0 (.slice none 0 0)
  rw [show ((((w.alloc (.cells #[.int .i64 W, .int .i64 H, .slice A n c] 24)).alloc (.cells #[.int .i64 X, .int .i64 Y, .slice B m d] 24)).alloc (.cells #[.int .i64 U, .int .i64 V, .slice C k e] 24))).heap.size = w.heap.size + 3 by simp] at R0
  have R0 := Lib.hid R0
  have LB0 := Lib.hid (LB0.out.alloc LB0.out.size (.cells #[.int .i64 0, .int .i64 0, .slice none 0 0] 24))
  go_enter Try.func46, Try.ntmps46
  go_upto_region 1 with (fail)
  generalize (((w.alloc (.cells #[.int .i64 W, .int .i64 H, .slice A n c] 24)).alloc (.cells #[.int .i64 X, .int .i64 Y, .slice B m d] 24)).alloc (.cells #[.int .i64 U, .int .i64 V, .slice C k e] 24)).alloc (.cells #[.int .i64 0, .int .i64 0, .slice none 0 0] 24) = w0 at *
  obtain ⟨q0, q1, q2, q3, q4, q5, q6⟩ := X1.out.all
  obtain ⟨q7, q8, q9, q10, q11, q12, q13⟩ := X2.out.all
  obtain ⟨q14, q15, q16, q17, q18, q19, q20⟩ := X3.out.all
  go_wp2_with fail
  clear q0 q1 q2 q3 q4 q5 q6 q7 q8 q9 q10 q11 q12 q13 q14 q15 q16 q17 q18 q19 q20
  with_reducible refine Calls.mono (HT.out _) ?_
  rintro e w1 ⟨rfl, hb⟩
  have LB1 := Lib.hid (LB0.out.trans (hb.mono LB0.out.size))
  have X1 := Lib.hid (X1.out.below hb X1.out.lt)
  have X2 := Lib.hid (X2.out.below hb X2.out.lt)
  have X3 := Lib.hid (X3.out.below hb X3.out.lt)
  have R0 := Lib.hid (R0.out.below hb R0.out.lt)
  clear hb LB0 
  obtain ⟨q0, q1, q2, q3, q4, q5, q6⟩ := X1.out.all
  obtain ⟨q7, q8, q9, q10, q11, q12, q13⟩ := X2.out.all
  obtain ⟨q14, q15, q16, q17, q18, q19, q20⟩ := X3.out.all
  go_wp2_with fail
  clear q0 q1 q2 q3 q4 q5 q6 q7 q8 q9 q10 q11 q12 q13 q14 q15 q16 q17 q18 q19 q20
  with_reducible refine Calls.mono (HT.out _) ?_
  rintro e w2 ⟨rfl, hb⟩
  have LB2 := Lib.hid (LB1.out.trans (hb.mono LB1.out.size))
  have X1 := Lib.hid (X1.out.below hb X1.out.lt)
  have X2 := Lib.hid (X2.out.below hb X2.out.lt)
  have X3 := Lib.hid (X3.out.below hb X3.out.lt)
  have R0 := Lib.hid (R0.out.below hb R0.out.lt)
  clear hb LB1 
  obtain ⟨rb, hrb⟩ : ∃ z, w.heap.size + 3 = z := ⟨_, rfl⟩
  have hrw : w.heap.size ≤ rb := by omega
  rw [hrb] at R0 ⊢
  clear hrb
  obtain ⟨q0, q1, q2, q3, q4, q5, q6⟩ := R0.out.all
  go_wp2
  refine bodyPost_ret (v := .tuple #[.agg #[.int .i64 0, .int .i64 0, .slice none 0 0], .int .i64 z]) (by simp [results, Try.results46, go_sem, q0, q1, q2, q3, q4, q5]) rfl ?_
  exact RG.err (fin_err hrw LB2.out)
set_option maxHeartbeats 1600000 in
theorem rprof_err (W H X Y U V : Int) (A B C : Option Addr) (n c m d k e : Nat) (w : World) (hn : n ≤ 4200) (hm : m ≤ 4200) (hk : k ≤ 4200) (F : Nat → Bool) (z : Int) (hz : th3 (chk W H n) (chk X Y m) (chk U V k) = z) (hne : z ≠ 0) : Calls Try.prog 48 #[.agg #[.int .i64 W, .int .i64 H, .slice A n c], .agg #[.int .i64 X, .int .i64 Y, .slice B m d], .agg #[.int .i64 U, .int .i64 V, .slice C k e]] w (RG w 0 0 0 F z) := by
  have HT := Lib.hid (fun u => rthree_any W H X Y U V A B C n c m d k e u hn hm hk)
  rw [hz] at HT
  have y1 : (z != 0) = true := by rw [bne_iff_ne]; exact hne
  clear hz hne
  have LB0 := Lib.hid (Below.refl w.heap.size w)
  have X1 := Lib.hid (Box.new w W H (.slice A n c))
  have LB0 := Lib.hid (LB0.out.alloc LB0.out.size (.cells #[.int .i64 W, .int .i64 H, .slice A n c] 24))
  have X1 := Lib.hid (X1.out.alloc (.cells #[.int .i64 X, .int .i64 Y, .slice B m d] 24))
  have X2 := Box.new (w.alloc (.cells #[.int .i64 W, .int .i64 H, .slice A n c] 24)) X Y (.slice B m d)
  rw [show ((w.alloc (.cells #[.int .i64 W, .int .i64 H, .slice A n c] 24))).heap.size = w.heap.size + 1 by simp] at X2
  have X2 := Lib.hid X2
  have LB0 := Lib.hid (LB0.out.alloc LB0.out.size (.cells #[.int .i64 X, .int .i64 Y, .slice B m d] 24))
  have X1 := Lib.hid (X1.out.alloc (.cells #[.int .i64 U, .int .i64 V, .slice C k e] 24))
  have X2 := Lib.hid (X2.out.alloc (.cells #[.int .i64 U, .int .i64 V, .slice C k e] 24))
  have X3 := Box.new ((w.alloc (.cells #[.int .i64 W, .int .i64 H, .slice A n c] 24)).alloc (.cells #[.int .i64 X, .int .i64 Y, .slice B m d] 24)) U V (.slice C k e)
  rw [show (((w.alloc (.cells #[.int .i64 W, .int .i64 H, .slice A n c] 24)).alloc (.cells #[.int .i64 X, .int .i64 Y, .slice B m d] 24))).heap.size = w.heap.size + 2 by simp] at X3
  have X3 := Lib.hid X3
  have LB0 := Lib.hid (LB0.out.alloc LB0.out.size (.cells #[.int .i64 U, .int .i64 V, .slice C k e] 24))
  have X1 := Lib.hid (X1.out.alloc (.cells #[.int .i64 0, .int .i64 0, .slice none 0 0] 24))
  have X2 := Lib.hid (X2.out.alloc (.cells #[.int .i64 0, .int .i64 0, .slice none 0 0] 24))
  have X3 := Lib.hid (X3.out.alloc (.cells #[.int .i64 0, .int .i64 0, .slice none 0 0] 24))
  have R0 := Box.new (((w.alloc (.cells #[.int .i64 W, .int .i64 H, .slice A n c] 24)).alloc (.cells #[.int .i64 X, .int .i64 Y, .slice B m d] 24)).alloc (.cells #[.int .i64 U, .int .i64 V, .slice C k e] 24)) 0 0 (.slice none 0 0)
  rw [show ((((w.alloc (.cells #[.int .i64 W, .int .i64 H, .slice A n c] 24)).alloc (.cells #[.int .i64 X, .int .i64 Y, .slice B m d] 24)).alloc (.cells #[.int .i64 U, .int .i64 V, .slice C k e] 24))).heap.size = w.heap.size + 3 by simp] at R0
  have R0 := Lib.hid R0
  have LB0 := Lib.hid (LB0.out.alloc LB0.out.size (.cells #[.int .i64 0, .int .i64 0, .slice none 0 0] 24))
  go_enter Try.func48, Try.ntmps48
  go_upto_region 1 with (fail)
  generalize (((w.alloc (.cells #[.int .i64 W, .int .i64 H, .slice A n c] 24)).alloc (.cells #[.int .i64 X, .int .i64 Y, .slice B m d] 24)).alloc (.cells #[.int .i64 U, .int .i64 V, .slice C k e] 24)).alloc (.cells #[.int .i64 0, .int .i64 0, .slice none 0 0] 24) = w0 at *
  obtain ⟨q0, q1, q2, q3, q4, q5, q6⟩ := X1.out.all
  obtain ⟨q7, q8, q9, q10, q11, q12, q13⟩ := X2.out.all
  obtain ⟨q14, q15, q16, q17, q18, q19, q20⟩ := X3.out.all
  go_wp2_with fail
  clear q0 q1 q2 q3 q4 q5 q6 q7 q8 q9 q10 q11 q12 q13 q14 q15 q16 q17 q18 q19 q20
  with_reducible refine Calls.mono (HT.out _) ?_
  rintro e w1 ⟨rfl, hb⟩
  have LB1 := Lib.hid (LB0.out.trans (hb.mono LB0.out.size))
  have X1 := Lib.hid (X1.out.below hb X1.out.lt)
  have X2 := Lib.hid (X2.out.below hb X2.out.lt)
  have X3 := Lib.hid (X3.out.below hb X3.out.lt)
  have R0 := Lib.hid (R0.out.below hb R0.out.lt)
  clear hb LB0 
  obtain ⟨q0, q1, q2, q3, q4, q5, q6⟩ := X1.out.all
  obtain ⟨q7, q8, q9, q10, q11, q12, q13⟩ := X2.out.all
  obtain ⟨q14, q15, q16, q17, q18, q19, q20⟩ := X3.out.all
  go_wp2_with fail
  clear q0 q1 q2 q3 q4 q5 q6 q7 q8 q9 q10 q11 q12 q13 q14 q15 q16 q17 q18 q19 q20
  with_reducible refine Calls.mono (HT.out _) ?_
  rintro e w2 ⟨rfl, hb⟩
  have LB2 := Lib.hid (LB1.out.trans (hb.mono LB1.out.size))
  have X1 := Lib.hid (X1.out.below hb X1.out.lt)
  have X2 := Lib.hid (X2.out.below hb X2.out.lt)
  have X3 := Lib.hid (X3.out.below hb X3.out.lt)
  have R0 := Lib.hid (R0.out.below hb R0.out.lt)
  clear hb LB1 
  obtain ⟨rb, hrb⟩ : ∃ z, w.heap.size + 3 = z := ⟨_, rfl⟩
  have hrw : w.heap.size ≤ rb := by omega
  rw [hrb] at R0 ⊢
  clear hrb
  obtain ⟨q0, q1, q2, q3, q4, q5, q6⟩ := R0.out.all
  go_wp2
  refine bodyPost_ret (v := .tuple #[.agg #[.int .i64 0, .int .i64 0, .slice none 0 0], .int .i64 z]) (by simp [results, Try.results48, go_sem, q0, q1, q2, q3, q4, q5]) rfl ?_
  exact RG.err (fin_err hrw LB2.out)
set_option maxHeartbeats 1600000 in
theorem rfill_cnt (W H X Y U V : Int) (A B C : Option Addr) (n c m d k e : Nat) (w : World) (hn : n ≤ 4200) (hm : m ≤ 4200) (hk : k ≤ 4200) (F : Nat → Bool) (hz : th3 (chk W H n) (chk X Y m) (chk U V k) = 0) (hne : ¬ (U = X ∧ V = Y)) : Calls Try.prog 46 #[.agg #[.int .i64 W, .int .i64 H, .slice A n c], .agg #[.int .i64 X, .int .i64 Y, .slice B m d], .agg #[.int .i64 U, .int .i64 V, .slice C k e]] w (RG w 0 0 0 F 26) := by
  have HT := Lib.hid (fun u => rthree_any W H X Y U V A B C n c m d k e u hn hm hk)
  rw [hz] at HT
  have y1 : ((0 : Int) != 0) = false := rfl
  clear hz
  by_cases hx : X = U
  · have y2 : (X != U) = false := by rw [hx]; simp
    have y3 : (Y != V) = true := by rw [bne_iff_ne]; exact fun h => hne ⟨hx.symm, h.symm⟩
    clear hx hne
    have LB0 := Lib.hid (Below.refl w.heap.size w)
    have X1 := Lib.hid (Box.new w W H (.slice A n c))
    have LB0 := Lib.hid (LB0.out.alloc LB0.out.size (.cells #[.int .i64 W, .int .i64 H, .slice A n c] 24))
    have X1 := Lib.hid (X1.out.alloc (.cells #[.int .i64 X, .int .i64 Y, .slice B m d] 24))
    have X2 := Box.new (w.alloc (.cells #[.int .i64 W, .int .i64 H, .slice A n c] 24)) X Y (.slice B m d)
    rw [show ((w.alloc (.cells #[.int .i64 W, .int .i64 H, .slice A n c] 24))).heap.size = w.heap.size + 1 by simp] at X2
    have X2 := Lib.hid X2
    have LB0 := Lib.hid (LB0.out.alloc LB0.out.size (.cells #[.int .i64 X, .int .i64 Y, .slice B m d] 24))
    have X1 := Lib.hid (X1.out.alloc (.cells #[.int .i64 U, .int .i64 V, .slice C k e] 24))
    have X2 := Lib.hid (X2.out.alloc (.cells #[.int .i64 U, .int .i64 V, .slice C k e] 24))
    have X3 := Box.new ((w.alloc (.cells #[.int .i64 W, .int .i64 H, .slice A n c] 24)).alloc (.cells #[.int .i64 X, .int .i64 Y, .slice B m d] 24)) U V (.slice C k e)
    rw [show (((w.alloc (.cells #[.int .i64 W, .int .i64 H, .slice A n c] 24)).alloc (.cells #[.int .i64 X, .int .i64 Y, .slice B m d] 24))).heap.size = w.heap.size + 2 by simp] at X3
    have X3 := Lib.hid X3
    have LB0 := Lib.hid (LB0.out.alloc LB0.out.size (.cells #[.int .i64 U, .int .i64 V, .slice C k e] 24))
    have X1 := Lib.hid (X1.out.alloc (.cells #[.int .i64 0, .int .i64 0, .slice none 0 0] 24))
    have X2 := Lib.hid (X2.out.alloc (.cells #[.int .i64 0, .int .i64 0, .slice none 0 0] 24))
    have X3 := Lib.hid (X3.out.alloc (.cells #[.int .i64 0, .int .i64 0, .slice none 0 0] 24))
    have R0 := Box.new (((w.alloc (.cells #[.int .i64 W, .int .i64 H, .slice A n c] 24)).alloc (.cells #[.int .i64 X, .int .i64 Y, .slice B m d] 24)).alloc (.cells #[.int .i64 U, .int .i64 V, .slice C k e] 24)) 0 0 (.slice none 0 0)
    rw [show ((((w.alloc (.cells #[.int .i64 W, .int .i64 H, .slice A n c] 24)).alloc (.cells #[.int .i64 X, .int .i64 Y, .slice B m d] 24)).alloc (.cells #[.int .i64 U, .int .i64 V, .slice C k e] 24))).heap.size = w.heap.size + 3 by simp] at R0
    have R0 := Lib.hid R0
    have LB0 := Lib.hid (LB0.out.alloc LB0.out.size (.cells #[.int .i64 0, .int .i64 0, .slice none 0 0] 24))
    go_enter Try.func46, Try.ntmps46
    go_upto_region 1 with (fail)
    generalize (((w.alloc (.cells #[.int .i64 W, .int .i64 H, .slice A n c] 24)).alloc (.cells #[.int .i64 X, .int .i64 Y, .slice B m d] 24)).alloc (.cells #[.int .i64 U, .int .i64 V, .slice C k e] 24)).alloc (.cells #[.int .i64 0, .int .i64 0, .slice none 0 0] 24) = w0 at *
    obtain ⟨q0, q1, q2, q3, q4, q5, q6⟩ := X1.out.all
    obtain ⟨q7, q8, q9, q10, q11, q12, q13⟩ := X2.out.all
    obtain ⟨q14, q15, q16, q17, q18, q19, q20⟩ := X3.out.all
    go_wp2_with fail
    clear q0 q1 q2 q3 q4 q5 q6 q7 q8 q9 q10 q11 q12 q13 q14 q15 q16 q17 q18 q19 q20
    with_reducible refine Calls.mono (HT.out _) ?_
    rintro e w1 ⟨rfl, hb⟩
    have LB1 := Lib.hid (LB0.out.trans (hb.mono LB0.out.size))
    have X1 := Lib.hid (X1.out.below hb X1.out.lt)
    have X2 := Lib.hid (X2.out.below hb X2.out.lt)
    have X3 := Lib.hid (X3.out.below hb X3.out.lt)
    have R0 := Lib.hid (R0.out.below hb R0.out.lt)
    clear hb LB0 
    obtain ⟨q0, q1, q2, q3, q4, q5, q6⟩ := X2.out.all
    obtain ⟨q7, q8, q9, q10, q11, q12, q13⟩ := X3.out.all
    go_upto_region 3 with (fail)
    go_quiet (fail)
    have LB2 := Lib.hid (bel_dn LB1.out nq)
    have R0 := Lib.hid (show Box (w1.drewN nq) (w.heap.size + 3) 0 0 (.slice none 0 0) from R0.out)
    have X3 := Lib.hid (show Box (w1.drewN nq) (w.heap.size + 2) U V (.slice C k e) from X3.out)
    generalize w1.drewN nq = w2 at *
    clear q0 q1 q2 q3 q4 q5 q6 q7 q8 q9 q10 q11 q12 q13
    obtain ⟨q0, q1, q2, q3, q4, q5, q6⟩ := X3.out.all
    go_upto_region 5 with (fail)
    clear q0 q1 q2 q3 q4 q5 q6
    obtain ⟨rb, hrb⟩ : ∃ z, w.heap.size + 3 = z := ⟨_, rfl⟩
    have hrw : w.heap.size ≤ rb := by omega
    rw [hrb] at R0 ⊢
    clear hrb
    obtain ⟨q0, q1, q2, q3, q4, q5, q6⟩ := R0.out.all
    go_wp2
    refine bodyPost_ret (v := .tuple #[.agg #[.int .i64 0, .int .i64 0, .slice none 0 0], .int .i64 26]) (by simp [results, Try.results46, go_sem, q0, q1, q2, q3, q4, q5]) rfl ?_
    exact RG.err (fin_err hrw LB2.out)
  · have y2 : (X != U) = true := by rw [bne_iff_ne]; exact hx
    clear hx hne
    have LB0 := Lib.hid (Below.refl w.heap.size w)
    have X1 := Lib.hid (Box.new w W H (.slice A n c))
    have LB0 := Lib.hid (LB0.out.alloc LB0.out.size (.cells #[.int .i64 W, .int .i64 H, .slice A n c] 24))
    have X1 := Lib.hid (X1.out.alloc (.cells #[.int .i64 X, .int .i64 Y, .slice B m d] 24))
    have X2 := Box.new (w.alloc (.cells #[.int .i64 W, .int .i64 H, .slice A n c] 24)) X Y (.slice B m d)
    rw [show ((w.alloc (.cells #[.int .i64 W, .int .i64 H, .slice A n c] 24))).heap.size = w.heap.size + 1 by simp] at X2
    have X2 := Lib.hid X2
    have LB0 := Lib.hid (LB0.out.alloc LB0.out.size (.cells #[.int .i64 X, .int .i64 Y, .slice B m d] 24))
    have X1 := Lib.hid (X1.out.alloc (.cells #[.int .i64 U, .int .i64 V, .slice C k e] 24))
    have X2 := Lib.hid (X2.out.alloc (.cells #[.int .i64 U, .int .i64 V, .slice C k e] 24))
    have X3 := Box.new ((w.alloc (.cells #[.int .i64 W, .int .i64 H, .slice A n c] 24)).alloc (.cells #[.int .i64 X, .int .i64 Y, .slice B m d] 24)) U V (.slice C k e)
    rw [show (((w.alloc (.cells #[.int .i64 W, .int .i64 H, .slice A n c] 24)).alloc (.cells #[.int .i64 X, .int .i64 Y, .slice B m d] 24))).heap.size = w.heap.size + 2 by simp] at X3
    have X3 := Lib.hid X3
    have LB0 := Lib.hid (LB0.out.alloc LB0.out.size (.cells #[.int .i64 U, .int .i64 V, .slice C k e] 24))
    have X1 := Lib.hid (X1.out.alloc (.cells #[.int .i64 0, .int .i64 0, .slice none 0 0] 24))
    have X2 := Lib.hid (X2.out.alloc (.cells #[.int .i64 0, .int .i64 0, .slice none 0 0] 24))
    have X3 := Lib.hid (X3.out.alloc (.cells #[.int .i64 0, .int .i64 0, .slice none 0 0] 24))
    have R0 := Box.new (((w.alloc (.cells #[.int .i64 W, .int .i64 H, .slice A n c] 24)).alloc (.cells #[.int .i64 X, .int .i64 Y, .slice B m d] 24)).alloc (.cells #[.int .i64 U, .int .i64 V, .slice C k e] 24)) 0 0 (.slice none 0 0)
    rw [show ((((w.alloc (.cells #[.int .i64 W, .int .i64 H, .slice A n c] 24)).alloc (.cells #[.int .i64 X, .int .i64 Y, .slice B m d] 24)).alloc (.cells #[.int .i64 U, .int .i64 V, .slice C k e] 24))).heap.size = w.heap.size + 3 by simp] at R0
    have R0 := Lib.hid R0
    have LB0 := Lib.hid (LB0.out.alloc LB0.out.size (.cells #[.int .i64 0, .int .i64 0, .slice none 0 0] 24))
    go_enter Try.func46, Try.ntmps46
    go_upto_region 1 with (fail)
    generalize (((w.alloc (.cells #[.int .i64 W, .int .i64 H, .slice A n c] 24)).alloc (.cells #[.int .i64 X, .int .i64 Y, .slice B m d] 24)).alloc (.cells #[.int .i64 U, .int .i64 V, .slice C k e] 24)).alloc (.cells #[.int .i64 0, .int .i64 0, .slice none 0 0] 24) = w0 at *
    obtain ⟨q0, q1, q2, q3, q4, q5, q6⟩ := X1.out.all
    obtain ⟨q7, q8, q9, q10, q11, q12, q13⟩ := X2.out.all
    obtain ⟨q14, q15, q16, q17, q18, q19, q20⟩ := X3.out.all
    go_wp2_with fail
    clear q0 q1 q2 q3 q4 q5 q6 q7 q8 q9 q10 q11 q12 q13 q14 q15 q16 q17 q18 q19 q20
    with_reducible refine Calls.mono (HT.out _) ?_
    rintro e w1 ⟨rfl, hb⟩
    have LB1 := Lib.hid (LB0.out.trans (hb.mono LB0.out.size))
    have X1 := Lib.hid (X1.out.below hb X1.out.lt)
    have X2 := Lib.hid (X2.out.below hb X2.out.lt)
    have X3 := Lib.hid (X3.out.below hb X3.out.lt)
    have R0 := Lib.hid (R0.out.below hb R0.out.lt)
    clear hb LB0 
    obtain ⟨q0, q1, q2, q3, q4, q5, q6⟩ := X2.out.all
    obtain ⟨q7, q8, q9, q10, q11, q12, q13⟩ := X3.out.all
    go_upto_region 3 with (fail)
    go_quiet (fail)
    have LB2 := Lib.hid (bel_dn LB1.out nq)
    have R0 := Lib.hid (show Box (w1.drewN nq) (w.heap.size + 3) 0 0 (.slice none 0 0) from R0.out)
    have X3 := Lib.hid (show Box (w1.drewN nq) (w.heap.size + 2) U V (.slice C k e) from X3.out)
    generalize w1.drewN nq = w2 at *
    clear q0 q1 q2 q3 q4 q5 q6 q7 q8 q9 q10 q11 q12 q13
    obtain ⟨q0, q1, q2, q3, q4, q5, q6⟩ := X3.out.all
    go_upto_region 5 with (fail)
    clear q0 q1 q2 q3 q4 q5 q6
    obtain ⟨rb, hrb⟩ : ∃ z, w.heap.size + 3 = z := ⟨_, rfl⟩
    have hrw : w.heap.size ≤ rb := by omega
    rw [hrb] at R0 ⊢
    clear hrb
    obtain ⟨q0, q1, q2, q3, q4, q5, q6⟩ := R0.out.all
    go_wp2
    refine bodyPost_ret (v := .tuple #[.agg #[.int .i64 0, .int .i64 0, .slice none 0 0], .int .i64 26]) (by simp [results, Try.results46, go_sem, q0, q1, q2, q3, q4, q5]) rfl ?_
    exact RG.err (fin_err hrw LB2.out)
end Go.Proofs.Ytngjcekjboedjaa
