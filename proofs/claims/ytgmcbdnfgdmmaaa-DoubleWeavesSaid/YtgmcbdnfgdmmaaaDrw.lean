/- The reference: Weave, Face, back, Back, Tube. -/
import Derived.Test.YtgmcbdnfgdmmaaaDwo
import Derived.Deep.RegionHeld3
import Derived.BigRegion
namespace Go.Proofs.Ytgmcbdnfgdmmaaa
open Go.RowKit
set_option maxRecDepth 100000
set_option linter.unusedVariables false
set_option linter.unusedSimpArgs false

/-- A grid and an error came back. -/
def RES (w : World) (X Y : Int) (N : Nat) (F : Nat → Bool) (z : Int) (e : Ending) (w' : World) : Prop :=
  ∃ A c, e = .returned (.tuple #[.agg #[.int .i64 X, .int .i64 Y, .slice A N c], .int .i64 z]) ∧ Holds w' w'.heap.size A N F ∧ (0 < N → ∃ k, A = some ⟨k, 0, none⟩ ∧ w.heap.size ≤ k ∧ Row w' k N F) ∧ Below w.heap.size w w'
theorem RES.err {w : World} {z : Int} {F : Nat → Bool} {e : Ending} {w' : World} (h : ErrGrid w z e w') : RES w 0 0 0 F z e w' := ⟨none, 0, h.1, Holds.none_, fun h => absurd h (Nat.lt_irrefl 0), h.2⟩
theorem RES.ref {w : World} {W H : Nat} {F : Nat → Bool} {e : Ending} {w' : World} (h : OkRef w W H F e w') : RES w W H (W * H) F 0 e w' := by
  obtain ⟨k, d, he, hk, hr, hb⟩ := h
  exact ⟨_, d, he, hr.holds hr.lt, fun _ => ⟨k, rfl, hk, hr⟩, hb⟩
theorem RES.grid {w : World} {W H : Nat} {F : Nat → Bool} {e : Ending} {w' : World} (h : OkGrid w W H F e w') : RES w W H (W * H) F 0 e w' := by
  obtain ⟨k, he, hk, hr, hb⟩ := h
  exact ⟨_, _, he, hr.holds hr.lt, fun _ => ⟨k, rfl, hk, hr⟩, hb⟩
set_option maxHeartbeats 1600000 in
theorem rweave_err {W H X Y U V : Int} {A B C : Option Addr} {n c m d k e : Nat} {z : Int} (hz : (fitZ (chk W H n) (chk X Y m) (chk U V k) W H X Y U V) = z) (hne : (z != 0) = true) (w : World) :
    Calls Try.prog 52 #[.agg #[.int .i64 W, .int .i64 H, .slice A n c], .agg #[.int .i64 X, .int .i64 Y, .slice B m d], .agg #[.int .i64 U, .int .i64 V, .slice C k e]] w (ErrGrid w z) := by
  have HK := Lib.hid (fun u => three_any W H X Y U V A B C n c m d k e u)
  rw [hz] at HK
  have hne2 : (z == 0) = false := by rw [bne] at hne; simpa using hne
  clear hz
  have LB0 := Lib.hid (Below.refl w.heap.size w)
  have X1 := Lib.hid (Box.new w W H (.slice A n c))
  have LB0 := Lib.hid (LB0.out.alloc LB0.out.size (.cells #[.int .i64 W, .int .i64 H, .slice A n c] 24))
  have X1 := Lib.hid (X1.out.alloc (.cells #[.int .i64 X, .int .i64 Y, .slice B m d] 24))
  have X2 := Box.new (w.alloc (.cells #[.int .i64 W, .int .i64 H, .slice A n c] 24)) X Y (.slice B m d)
  rw [show ((w.alloc (.cells #[.int .i64 W, .int .i64 H, .slice A n c] 24))).heap.size = w.heap.size + 1 by simp] at X2
  have X2 := Lib.hid X2
  have LB0 := Lib.hid (LB0.out.alloc LB0.out.size (.cells #[.int .i64 X, .int .i64 Y, .slice B m d] 24))
  have X1 := Lib.hid (X1.out.alloc (.cells #[.int .i64 U, .int .i64 V, .slice C k e] 24))
  have X2 := Lib.hid (X2.out.alloc (.cells #[.int .i64 U, .int .i64 V, .slice C k e] 24))
  have X3 := Box.new ((w.alloc (.cells #[.int .i64 W, .int .i64 H, .slice A n c] 24)).alloc (.cells #[.int .i64 X, .int .i64 Y, .slice B m d] 24)) U V (.slice C k e)
  rw [show (((w.alloc (.cells #[.int .i64 W, .int .i64 H, .slice A n c] 24)).alloc (.cells #[.int .i64 X, .int .i64 Y, .slice B m d] 24))).heap.size = w.heap.size + 2 by simp] at X3
  have X3 := Lib.hid X3
  have LB0 := Lib.hid (LB0.out.alloc LB0.out.size (.cells #[.int .i64 U, .int .i64 V, .slice C k e] 24))
  have X1 := Lib.hid (X1.out.alloc (.cells #[.int .i64 0, .int .i64 0, .slice none 0 0] 24))
  have X2 := Lib.hid (X2.out.alloc (.cells #[.int .i64 0, .int .i64 0, .slice none 0 0] 24))
  have X3 := Lib.hid (X3.out.alloc (.cells #[.int .i64 0, .int .i64 0, .slice none 0 0] 24))
  have XR := Box.new (((w.alloc (.cells #[.int .i64 W, .int .i64 H, .slice A n c] 24)).alloc (.cells #[.int .i64 X, .int .i64 Y, .slice B m d] 24)).alloc (.cells #[.int .i64 U, .int .i64 V, .slice C k e] 24)) 0 0 (.slice none 0 0)
  rw [show ((((w.alloc (.cells #[.int .i64 W, .int .i64 H, .slice A n c] 24)).alloc (.cells #[.int .i64 X, .int .i64 Y, .slice B m d] 24)).alloc (.cells #[.int .i64 U, .int .i64 V, .slice C k e] 24))).heap.size = w.heap.size + 3 by simp] at XR
  have XR := Lib.hid XR
  have LB0 := Lib.hid (LB0.out.alloc LB0.out.size (.cells #[.int .i64 0, .int .i64 0, .slice none 0 0] 24))
  go_enter Try.func52, Try.ntmps52
  go_upto_region 1 with (fail)
  generalize (((w.alloc (.cells #[.int .i64 W, .int .i64 H, .slice A n c] 24)).alloc (.cells #[.int .i64 X, .int .i64 Y, .slice B m d] 24)).alloc (.cells #[.int .i64 U, .int .i64 V, .slice C k e] 24)).alloc (.cells #[.int .i64 0, .int .i64 0, .slice none 0 0] 24) = w0 at *
  obtain ⟨rb, hrb⟩ : ∃ rb, w.heap.size + 3 = rb := ⟨_, rfl⟩
  have hrw : w.heap.size ≤ rb := by omega
  have hrwl : w.heap.size < rb := by omega
  rw [hrb] at XR ⊢
  clear hrb
  obtain ⟨q0, q1, q2, q3, q4, q5, q6⟩ := X1.out.all
  obtain ⟨q7, q8, q9, q10, q11, q12, q13⟩ := X2.out.all
  obtain ⟨q14, q15, q16, q17, q18, q19, q20⟩ := X3.out.all
  go_wp2_with fail
  clear q0 q1 q2 q3 q4 q5 q6 q7 q8 q9 q10 q11 q12 q13 q14 q15 q16 q17 q18 q19 q20
  with_reducible refine Calls.mono (HK.out _) ?_
  rintro e w1 ⟨rfl, hb⟩
  have LB1 := Lib.hid (LB0.out.trans (hb.mono LB0.out.size))
  have X1 := Lib.hid (X1.out.below hb X1.out.lt)
  have X2 := Lib.hid (X2.out.below hb X2.out.lt)
  have X3 := Lib.hid (X3.out.below hb X3.out.lt)
  have XR := Lib.hid (XR.out.below hb XR.out.lt)
  clear hb LB0 
  obtain ⟨q0, q1, q2, q3, q4, q5, q6⟩ := X1.out.all
  obtain ⟨q7, q8, q9, q10, q11, q12, q13⟩ := X2.out.all
  obtain ⟨q14, q15, q16, q17, q18, q19, q20⟩ := X3.out.all
  go_wp2_with fail
  clear q0 q1 q2 q3 q4 q5 q6 q7 q8 q9 q10 q11 q12 q13 q14 q15 q16 q17 q18 q19 q20
  with_reducible refine Calls.mono (HK.out _) ?_
  rintro e w2 ⟨rfl, hb⟩
  have LB2 := Lib.hid (LB1.out.trans (hb.mono LB1.out.size))
  have X1 := Lib.hid (X1.out.below hb X1.out.lt)
  have X2 := Lib.hid (X2.out.below hb X2.out.lt)
  have X3 := Lib.hid (X3.out.below hb X3.out.lt)
  have XR := Lib.hid (XR.out.below hb XR.out.lt)
  clear hb LB1 
  obtain ⟨q0, q1, q2, q3, q4, q5, q6⟩ := XR.out.all
  go_wp2
  refine bodyPost_ret (v := .tuple #[.agg #[.int .i64 0, .int .i64 0, .slice none 0 0], .int .i64 z]) (by simp [results, Try.results52, go_sem, q0, q1, q2, q3, q4, q5]) rfl ?_
  exact ⟨rfl, bel_st3 LB2.out hrw _ _ _⟩
set_option maxHeartbeats 1600000 in
theorem rface_err {W H X Y U V : Int} {A B C : Option Addr} {n c m d k e : Nat} {z : Int} (hz : (fitZ (chk W H n) (chk X Y m) (chk U V k) W H X Y U V) = z) (hne : (z != 0) = true) (w : World) :
    Calls Try.prog 55 #[.agg #[.int .i64 W, .int .i64 H, .slice A n c], .agg #[.int .i64 X, .int .i64 Y, .slice B m d], .agg #[.int .i64 U, .int .i64 V, .slice C k e]] w (ErrGrid w z) := by
  have HK := Lib.hid (fun u => three_any W H X Y U V A B C n c m d k e u)
  rw [hz] at HK
  have hne2 : (z == 0) = false := by rw [bne] at hne; simpa using hne
  clear hz
  have LB0 := Lib.hid (Below.refl w.heap.size w)
  have X1 := Lib.hid (Box.new w W H (.slice A n c))
  have LB0 := Lib.hid (LB0.out.alloc LB0.out.size (.cells #[.int .i64 W, .int .i64 H, .slice A n c] 24))
  have X1 := Lib.hid (X1.out.alloc (.cells #[.int .i64 X, .int .i64 Y, .slice B m d] 24))
  have X2 := Box.new (w.alloc (.cells #[.int .i64 W, .int .i64 H, .slice A n c] 24)) X Y (.slice B m d)
  rw [show ((w.alloc (.cells #[.int .i64 W, .int .i64 H, .slice A n c] 24))).heap.size = w.heap.size + 1 by simp] at X2
  have X2 := Lib.hid X2
  have LB0 := Lib.hid (LB0.out.alloc LB0.out.size (.cells #[.int .i64 X, .int .i64 Y, .slice B m d] 24))
  have X1 := Lib.hid (X1.out.alloc (.cells #[.int .i64 U, .int .i64 V, .slice C k e] 24))
  have X2 := Lib.hid (X2.out.alloc (.cells #[.int .i64 U, .int .i64 V, .slice C k e] 24))
  have X3 := Box.new ((w.alloc (.cells #[.int .i64 W, .int .i64 H, .slice A n c] 24)).alloc (.cells #[.int .i64 X, .int .i64 Y, .slice B m d] 24)) U V (.slice C k e)
  rw [show (((w.alloc (.cells #[.int .i64 W, .int .i64 H, .slice A n c] 24)).alloc (.cells #[.int .i64 X, .int .i64 Y, .slice B m d] 24))).heap.size = w.heap.size + 2 by simp] at X3
  have X3 := Lib.hid X3
  have LB0 := Lib.hid (LB0.out.alloc LB0.out.size (.cells #[.int .i64 U, .int .i64 V, .slice C k e] 24))
  have X1 := Lib.hid (X1.out.alloc (.cells #[.int .i64 0, .int .i64 0, .slice none 0 0] 24))
  have X2 := Lib.hid (X2.out.alloc (.cells #[.int .i64 0, .int .i64 0, .slice none 0 0] 24))
  have X3 := Lib.hid (X3.out.alloc (.cells #[.int .i64 0, .int .i64 0, .slice none 0 0] 24))
  have XR := Box.new (((w.alloc (.cells #[.int .i64 W, .int .i64 H, .slice A n c] 24)).alloc (.cells #[.int .i64 X, .int .i64 Y, .slice B m d] 24)).alloc (.cells #[.int .i64 U, .int .i64 V, .slice C k e] 24)) 0 0 (.slice none 0 0)
  rw [show ((((w.alloc (.cells #[.int .i64 W, .int .i64 H, .slice A n c] 24)).alloc (.cells #[.int .i64 X, .int .i64 Y, .slice B m d] 24)).alloc (.cells #[.int .i64 U, .int .i64 V, .slice C k e] 24))).heap.size = w.heap.size + 3 by simp] at XR
  have XR := Lib.hid XR
  have LB0 := Lib.hid (LB0.out.alloc LB0.out.size (.cells #[.int .i64 0, .int .i64 0, .slice none 0 0] 24))
  go_enter Try.func55, Try.ntmps55
  go_upto_region 1 with (fail)
  generalize (((w.alloc (.cells #[.int .i64 W, .int .i64 H, .slice A n c] 24)).alloc (.cells #[.int .i64 X, .int .i64 Y, .slice B m d] 24)).alloc (.cells #[.int .i64 U, .int .i64 V, .slice C k e] 24)).alloc (.cells #[.int .i64 0, .int .i64 0, .slice none 0 0] 24) = w0 at *
  obtain ⟨rb, hrb⟩ : ∃ rb, w.heap.size + 3 = rb := ⟨_, rfl⟩
  have hrw : w.heap.size ≤ rb := by omega
  have hrwl : w.heap.size < rb := by omega
  rw [hrb] at XR ⊢
  clear hrb
  obtain ⟨q0, q1, q2, q3, q4, q5, q6⟩ := X1.out.all
  obtain ⟨q7, q8, q9, q10, q11, q12, q13⟩ := X2.out.all
  obtain ⟨q14, q15, q16, q17, q18, q19, q20⟩ := X3.out.all
  go_wp2_with fail
  clear q0 q1 q2 q3 q4 q5 q6 q7 q8 q9 q10 q11 q12 q13 q14 q15 q16 q17 q18 q19 q20
  with_reducible refine Calls.mono (HK.out _) ?_
  rintro e w1 ⟨rfl, hb⟩
  have LB1 := Lib.hid (LB0.out.trans (hb.mono LB0.out.size))
  have X1 := Lib.hid (X1.out.below hb X1.out.lt)
  have X2 := Lib.hid (X2.out.below hb X2.out.lt)
  have X3 := Lib.hid (X3.out.below hb X3.out.lt)
  have XR := Lib.hid (XR.out.below hb XR.out.lt)
  clear hb LB0 
  obtain ⟨q0, q1, q2, q3, q4, q5, q6⟩ := X1.out.all
  obtain ⟨q7, q8, q9, q10, q11, q12, q13⟩ := X2.out.all
  obtain ⟨q14, q15, q16, q17, q18, q19, q20⟩ := X3.out.all
  go_wp2_with fail
  clear q0 q1 q2 q3 q4 q5 q6 q7 q8 q9 q10 q11 q12 q13 q14 q15 q16 q17 q18 q19 q20
  with_reducible refine Calls.mono (HK.out _) ?_
  rintro e w2 ⟨rfl, hb⟩
  have LB2 := Lib.hid (LB1.out.trans (hb.mono LB1.out.size))
  have X1 := Lib.hid (X1.out.below hb X1.out.lt)
  have X2 := Lib.hid (X2.out.below hb X2.out.lt)
  have X3 := Lib.hid (X3.out.below hb X3.out.lt)
  have XR := Lib.hid (XR.out.below hb XR.out.lt)
  clear hb LB1 
  obtain ⟨q0, q1, q2, q3, q4, q5, q6⟩ := XR.out.all
  go_wp2
  refine bodyPost_ret (v := .tuple #[.agg #[.int .i64 0, .int .i64 0, .slice none 0 0], .int .i64 z]) (by simp [results, Try.results55, go_sem, q0, q1, q2, q3, q4, q5]) rfl ?_
  exact ⟨rfl, bel_st3 LB2.out hrw _ _ _⟩
set_option maxHeartbeats 1600000 in
theorem rweave_many {W H : Nat} {A B C : Option Addr} {c d e : Nat} (hW0 : 1 ≤ W) (hW : W ≤ 64) (hH0 : 1 ≤ H) (hH : H ≤ 64) (hbig : 32 < W ∨ 32 < H) (w : World) :
    Calls Try.prog 52 #[.agg #[.int .i64 (W : Nat), .int .i64 (H : Nat), .slice A (W * H) c], .agg #[.int .i64 (W : Nat), .int .i64 (H : Nat), .slice B (W * H) d], .agg #[.int .i64 (W : Nat), .int .i64 (H : Nat), .slice C (W * H) e]] w (ErrGrid w 4) := by
  have HK := Lib.hid (fun u => three_any (W : Nat) (H : Nat) (W : Nat) (H : Nat) (W : Nat) (H : Nat) A B C (W * H) c (W * H) d (W * H) e u)
  rw [fitZ_valid hW0 (by omega) hH0 (by omega)] at HK
  generalize W * H = M at *
  have LB0 := Lib.hid (Below.refl w.heap.size w)
  have X1 := Lib.hid (Box.new w (W : Nat) (H : Nat) (.slice A M c))
  have LB0 := Lib.hid (LB0.out.alloc LB0.out.size (.cells #[.int .i64 (W : Nat), .int .i64 (H : Nat), .slice A M c] 24))
  have X1 := Lib.hid (X1.out.alloc (.cells #[.int .i64 (W : Nat), .int .i64 (H : Nat), .slice B M d] 24))
  have X2 := Box.new (w.alloc (.cells #[.int .i64 (W : Nat), .int .i64 (H : Nat), .slice A M c] 24)) (W : Nat) (H : Nat) (.slice B M d)
  rw [show ((w.alloc (.cells #[.int .i64 (W : Nat), .int .i64 (H : Nat), .slice A M c] 24))).heap.size = w.heap.size + 1 by simp] at X2
  have X2 := Lib.hid X2
  have LB0 := Lib.hid (LB0.out.alloc LB0.out.size (.cells #[.int .i64 (W : Nat), .int .i64 (H : Nat), .slice B M d] 24))
  have X1 := Lib.hid (X1.out.alloc (.cells #[.int .i64 (W : Nat), .int .i64 (H : Nat), .slice C M e] 24))
  have X2 := Lib.hid (X2.out.alloc (.cells #[.int .i64 (W : Nat), .int .i64 (H : Nat), .slice C M e] 24))
  have X3 := Box.new ((w.alloc (.cells #[.int .i64 (W : Nat), .int .i64 (H : Nat), .slice A M c] 24)).alloc (.cells #[.int .i64 (W : Nat), .int .i64 (H : Nat), .slice B M d] 24)) (W : Nat) (H : Nat) (.slice C M e)
  rw [show (((w.alloc (.cells #[.int .i64 (W : Nat), .int .i64 (H : Nat), .slice A M c] 24)).alloc (.cells #[.int .i64 (W : Nat), .int .i64 (H : Nat), .slice B M d] 24))).heap.size = w.heap.size + 2 by simp] at X3
  have X3 := Lib.hid X3
  have LB0 := Lib.hid (LB0.out.alloc LB0.out.size (.cells #[.int .i64 (W : Nat), .int .i64 (H : Nat), .slice C M e] 24))
  have X1 := Lib.hid (X1.out.alloc (.cells #[.int .i64 0, .int .i64 0, .slice none 0 0] 24))
  have X2 := Lib.hid (X2.out.alloc (.cells #[.int .i64 0, .int .i64 0, .slice none 0 0] 24))
  have X3 := Lib.hid (X3.out.alloc (.cells #[.int .i64 0, .int .i64 0, .slice none 0 0] 24))
  have XR := Box.new (((w.alloc (.cells #[.int .i64 (W : Nat), .int .i64 (H : Nat), .slice A M c] 24)).alloc (.cells #[.int .i64 (W : Nat), .int .i64 (H : Nat), .slice B M d] 24)).alloc (.cells #[.int .i64 (W : Nat), .int .i64 (H : Nat), .slice C M e] 24)) 0 0 (.slice none 0 0)
  rw [show ((((w.alloc (.cells #[.int .i64 (W : Nat), .int .i64 (H : Nat), .slice A M c] 24)).alloc (.cells #[.int .i64 (W : Nat), .int .i64 (H : Nat), .slice B M d] 24)).alloc (.cells #[.int .i64 (W : Nat), .int .i64 (H : Nat), .slice C M e] 24))).heap.size = w.heap.size + 3 by simp] at XR
  have XR := Lib.hid XR
  have LB0 := Lib.hid (LB0.out.alloc LB0.out.size (.cells #[.int .i64 0, .int .i64 0, .slice none 0 0] 24))
  go_enter Try.func52, Try.ntmps52
  go_upto_region 1 with (fail)
  generalize (((w.alloc (.cells #[.int .i64 (W : Nat), .int .i64 (H : Nat), .slice A M c] 24)).alloc (.cells #[.int .i64 (W : Nat), .int .i64 (H : Nat), .slice B M d] 24)).alloc (.cells #[.int .i64 (W : Nat), .int .i64 (H : Nat), .slice C M e] 24)).alloc (.cells #[.int .i64 0, .int .i64 0, .slice none 0 0] 24) = w0 at *
  obtain ⟨rb, hrb⟩ : ∃ rb, w.heap.size + 3 = rb := ⟨_, rfl⟩
  have hrw : w.heap.size ≤ rb := by omega
  have hrwl : w.heap.size < rb := by omega
  rw [hrb] at XR ⊢
  clear hrb
  obtain ⟨q0, q1, q2, q3, q4, q5, q6⟩ := X1.out.all
  obtain ⟨q7, q8, q9, q10, q11, q12, q13⟩ := X2.out.all
  obtain ⟨q14, q15, q16, q17, q18, q19, q20⟩ := X3.out.all
  go_wp2_with fail
  clear q0 q1 q2 q3 q4 q5 q6 q7 q8 q9 q10 q11 q12 q13 q14 q15 q16 q17 q18 q19 q20
  with_reducible refine Calls.mono (HK.out _) ?_
  rintro e w1 ⟨rfl, hb⟩
  have LB1 := Lib.hid (LB0.out.trans (hb.mono LB0.out.size))
  have X1 := Lib.hid (X1.out.below hb X1.out.lt)
  have X2 := Lib.hid (X2.out.below hb X2.out.lt)
  have X3 := Lib.hid (X3.out.below hb X3.out.lt)
  have XR := Lib.hid (XR.out.below hb XR.out.lt)
  clear hb LB0 
  obtain ⟨r0, r1, r2, r3, r4, r5, r6⟩ := XR.out.all
  obtain ⟨q0, q1, q2, q3, q4, q5, q6⟩ := X1.out.all
  by_cases hw : 32 < W
  · have y1 : (32 : Int) < (W : Int) := by omega
    have y2 : decide ((W : Int) > 32) = true := by simp; omega
    go_wp2
    refine bodyPost_ret (v := .tuple #[.agg #[.int .i64 0, .int .i64 0, .slice none 0 0], .int .i64 4]) (by simp [results, Try.results52, go_sem, r0, r1, r2, r3, r4, r5]) rfl ?_
    exact ⟨rfl, bel_st3 LB1.out hrw _ _ _⟩
  · have y1 : ¬ (32 : Int) < (W : Int) := by omega
    have y2 : decide ((W : Int) > 32) = false := by simp; omega
    have y3 : (32 : Int) < (H : Int) := by omega
    have y4 : decide ((H : Int) > 32) = true := by simp; omega
    go_wp2
    refine bodyPost_ret (v := .tuple #[.agg #[.int .i64 0, .int .i64 0, .slice none 0 0], .int .i64 4]) (by simp [results, Try.results52, go_sem, r0, r1, r2, r3, r4, r5]) rfl ?_
    exact ⟨rfl, bel_st3 LB1.out hrw _ _ _⟩
set_option maxHeartbeats 1600000 in
theorem rweave_ok {W H : Nat} {A B C : Option Addr} {c d e : Nat} {a b m : Nat → Bool} (hW0 : 1 ≤ W) (hW : W ≤ 32) (hH0 : 1 ≤ H) (hH : H ≤ 32) (w : World) (ha : Holds w w.heap.size A (W * H) a) (hb1 : Holds w w.heap.size B (W * H) b) (hm : Holds w w.heap.size C (W * H) m) :
    Calls Try.prog 52 #[.agg #[.int .i64 (W : Nat), .int .i64 (H : Nat), .slice A (W * H) c], .agg #[.int .i64 (W : Nat), .int .i64 (H : Nat), .slice B (W * H) d], .agg #[.int .i64 (W : Nat), .int .i64 (H : Nat), .slice C (W * H) e]] w (OkRef w (2 * W) (2 * H) (dbl W a b m)) := by
  have HK := Lib.hid (fun u => three_any (W : Nat) (H : Nat) (W : Nat) (H : Nat) (W : Nat) (H : Nat) A B C (W * H) c (W * H) d (W * H) e u)
  rw [fitZ_valid hW0 (by omega) hH0 (by omega)] at HK
  have HV := Lib.hid (fun u (hb : Below w.heap.size w u) => woven_n W H A B C c d e a b m hW0 hW hH0 hH u ((ha.below hb).more hb.size) ((hb1.below hb).more hb.size) ((hm.below hb).more hb.size))
  have y1 : ¬ (32 : Int) < (W : Int) := by omega
  have y2 : decide ((W : Int) > 32) = false := by simp; omega
  have y3 : ¬ (32 : Int) < (H : Int) := by omega
  have y4 : decide ((H : Int) > 32) = false := by simp; omega
  obtain ⟨F, hF⟩ : ∃ F, dbl W a b m = F := ⟨_, rfl⟩
  obtain ⟨W2, hW2⟩ : ∃ z, 2 * W = z := ⟨_, rfl⟩
  obtain ⟨H2, hH2⟩ : ∃ z, 2 * H = z := ⟨_, rfl⟩
  simp only [hF, hW2, hH2] at HV ⊢
  obtain ⟨N2, hN2⟩ : ∃ z, W2 * H2 = z := ⟨_, rfl⟩
  have HN2 := Lib.hid hN2
  simp only [hN2] at HV
  obtain ⟨M, hMe⟩ : ∃ z, W * H = z := ⟨_, rfl⟩
  simp only [hMe] at HK HV ⊢
  clear ha hb1 hm hF hW2 hH2 hN2 hMe
  have LB0 := Lib.hid (Below.refl w.heap.size w)
  have X1 := Lib.hid (Box.new w (W : Nat) (H : Nat) (.slice A M c))
  have LB0 := Lib.hid (LB0.out.alloc LB0.out.size (.cells #[.int .i64 (W : Nat), .int .i64 (H : Nat), .slice A M c] 24))
  have X1 := Lib.hid (X1.out.alloc (.cells #[.int .i64 (W : Nat), .int .i64 (H : Nat), .slice B M d] 24))
  have X2 := Box.new (w.alloc (.cells #[.int .i64 (W : Nat), .int .i64 (H : Nat), .slice A M c] 24)) (W : Nat) (H : Nat) (.slice B M d)
  rw [show ((w.alloc (.cells #[.int .i64 (W : Nat), .int .i64 (H : Nat), .slice A M c] 24))).heap.size = w.heap.size + 1 by simp] at X2
  have X2 := Lib.hid X2
  have LB0 := Lib.hid (LB0.out.alloc LB0.out.size (.cells #[.int .i64 (W : Nat), .int .i64 (H : Nat), .slice B M d] 24))
  have X1 := Lib.hid (X1.out.alloc (.cells #[.int .i64 (W : Nat), .int .i64 (H : Nat), .slice C M e] 24))
  have X2 := Lib.hid (X2.out.alloc (.cells #[.int .i64 (W : Nat), .int .i64 (H : Nat), .slice C M e] 24))
  have X3 := Box.new ((w.alloc (.cells #[.int .i64 (W : Nat), .int .i64 (H : Nat), .slice A M c] 24)).alloc (.cells #[.int .i64 (W : Nat), .int .i64 (H : Nat), .slice B M d] 24)) (W : Nat) (H : Nat) (.slice C M e)
  rw [show (((w.alloc (.cells #[.int .i64 (W : Nat), .int .i64 (H : Nat), .slice A M c] 24)).alloc (.cells #[.int .i64 (W : Nat), .int .i64 (H : Nat), .slice B M d] 24))).heap.size = w.heap.size + 2 by simp] at X3
  have X3 := Lib.hid X3
  have LB0 := Lib.hid (LB0.out.alloc LB0.out.size (.cells #[.int .i64 (W : Nat), .int .i64 (H : Nat), .slice C M e] 24))
  have X1 := Lib.hid (X1.out.alloc (.cells #[.int .i64 0, .int .i64 0, .slice none 0 0] 24))
  have X2 := Lib.hid (X2.out.alloc (.cells #[.int .i64 0, .int .i64 0, .slice none 0 0] 24))
  have X3 := Lib.hid (X3.out.alloc (.cells #[.int .i64 0, .int .i64 0, .slice none 0 0] 24))
  have XR := Box.new (((w.alloc (.cells #[.int .i64 (W : Nat), .int .i64 (H : Nat), .slice A M c] 24)).alloc (.cells #[.int .i64 (W : Nat), .int .i64 (H : Nat), .slice B M d] 24)).alloc (.cells #[.int .i64 (W : Nat), .int .i64 (H : Nat), .slice C M e] 24)) 0 0 (.slice none 0 0)
  rw [show ((((w.alloc (.cells #[.int .i64 (W : Nat), .int .i64 (H : Nat), .slice A M c] 24)).alloc (.cells #[.int .i64 (W : Nat), .int .i64 (H : Nat), .slice B M d] 24)).alloc (.cells #[.int .i64 (W : Nat), .int .i64 (H : Nat), .slice C M e] 24))).heap.size = w.heap.size + 3 by simp] at XR
  have XR := Lib.hid XR
  have LB0 := Lib.hid (LB0.out.alloc LB0.out.size (.cells #[.int .i64 0, .int .i64 0, .slice none 0 0] 24))
  go_enter Try.func52, Try.ntmps52
  go_upto_region 1 with (fail)
  generalize (((w.alloc (.cells #[.int .i64 (W : Nat), .int .i64 (H : Nat), .slice A M c] 24)).alloc (.cells #[.int .i64 (W : Nat), .int .i64 (H : Nat), .slice B M d] 24)).alloc (.cells #[.int .i64 (W : Nat), .int .i64 (H : Nat), .slice C M e] 24)).alloc (.cells #[.int .i64 0, .int .i64 0, .slice none 0 0] 24) = w0 at *
  obtain ⟨rb, hrb⟩ : ∃ rb, w.heap.size + 3 = rb := ⟨_, rfl⟩
  have hrw : w.heap.size ≤ rb := by omega
  have hrwl : w.heap.size < rb := by omega
  rw [hrb] at XR ⊢
  clear hrb
  obtain ⟨q0, q1, q2, q3, q4, q5, q6⟩ := X1.out.all
  obtain ⟨q7, q8, q9, q10, q11, q12, q13⟩ := X2.out.all
  obtain ⟨q14, q15, q16, q17, q18, q19, q20⟩ := X3.out.all
  go_wp2_with fail
  clear q0 q1 q2 q3 q4 q5 q6 q7 q8 q9 q10 q11 q12 q13 q14 q15 q16 q17 q18 q19 q20
  with_reducible refine Calls.mono (HK.out _) ?_
  rintro e w1 ⟨rfl, hb⟩
  have LB1 := Lib.hid (LB0.out.trans (hb.mono LB0.out.size))
  have X1 := Lib.hid (X1.out.below hb X1.out.lt)
  have X2 := Lib.hid (X2.out.below hb X2.out.lt)
  have X3 := Lib.hid (X3.out.below hb X3.out.lt)
  have XR := Lib.hid (XR.out.below hb XR.out.lt)
  clear hb LB0 
  have hrl := XR.out.lt
  obtain ⟨q0, q1, q2, q3, q4, q5, q6⟩ := X1.out.all
  obtain ⟨q7, q8, q9, q10, q11, q12, q13⟩ := X2.out.all
  obtain ⟨q14, q15, q16, q17, q18, q19, q20⟩ := X3.out.all
  go_wp2_with fail
  clear q0 q1 q2 q3 q4 q5 q6 q7 q8 q9 q10 q11 q12 q13 q14 q15 q16 q17 q18 q19 q20
  with_reducible refine Calls.mono (HV.out _ LB1.out) ?_
  rintro e w2 ⟨k, rfl, hk, hrow, hb⟩
  have LB2 := Lib.hid (LB1.out.trans (hb.mono LB1.out.size))
  have X1 := Lib.hid (X1.out.below hb X1.out.lt)
  have X2 := Lib.hid (X2.out.below hb X2.out.lt)
  have X3 := Lib.hid (X3.out.below hb X3.out.lt)
  have XR := Lib.hid (XR.out.below hb XR.out.lt)
  have RK := Lib.hid hrow
  clear hb LB1 hrow
  obtain ⟨q0, q1, q2, q3, q4, q5, q6⟩ := XR.out.all
  go_wp2
  refine bodyPost_ret (v := .tuple #[.agg #[.int .i64 (W2 : Nat), .int .i64 (H2 : Nat), .slice (some ⟨k, 0, none⟩) N2 N2], .int .i64 0]) (by simp [results, Try.results52, go_sem, q0, q1, q2, q3, q4, q5]) rfl ?_
  rw [← HN2.out] at RK ⊢
  exact fin_ref hrw (by omega) RK.out LB2.out
/-- The face, of which the first i cells have been taken. -/
def fcp (a b m : Nat → Bool) (i j : Nat) : Bool := if j < i then (if m j then a j else b j) else b j
theorem fcp_zero (a b m : Nat → Bool) : fcp a b m 0 = b := by funext j; unfold fcp; rw [if_neg (Nat.not_lt_zero _)]
theorem fcp_t {a b m : Nat → Bool} {i j : Nat} (h : m i = true) : (if j = i then a i else fcp a b m i j) = fcp a b m (i + 1) j := by
  unfold fcp
  by_cases e : j = i
  · subst e; rw [if_pos rfl, if_pos (by omega), if_pos h]
  · rw [if_neg e]
    by_cases e2 : j < i
    · rw [if_pos e2, if_pos (show j < i + 1 by omega)]
    · rw [if_neg e2, if_neg (show ¬ j < i + 1 by omega)]
theorem fcp_f {a b m : Nat → Bool} {i j : Nat} (h : m i = false) : fcp a b m i j = fcp a b m (i + 1) j := by
  unfold fcp
  by_cases e : j = i
  · subst e; rw [if_neg (Nat.lt_irrefl _), if_pos (by omega), if_neg (by rw [h]; decide)]
  · by_cases e2 : j < i
    · rw [if_pos e2, if_pos (show j < i + 1 by omega)]
    · rw [if_neg e2, if_neg (show ¬ j < i + 1 by omega)]
theorem But.cell {k : Nat} {w w' : World} {b o : Nat} (hb : But k w w') (h1 : b < w.heap.size) (h2 : b ≠ k) : w'.cell? ⟨b, o, none⟩ = w.cell? ⟨b, o, none⟩ := World.cell?_of_block (w := w) (hb.block b h1 h2)
theorem But.row {w w' : World} {k g n : Nat} {f : Nat → Bool} (hb : But k w w') (h : Row w g n f) (hg : g ≠ k) : Row w' g n f := by
  obtain ⟨cs, h1, h2⟩ := h
  exact ⟨cs, (hb.block g (Array.getElem?_eq_some_iff.1 h1).1 hg).trans h1, h2⟩
theorem But.set {w w' : World} {k i : Nat} {v : Value} (hb : But k w w') : But k w (w'.setCell ⟨k, i, none⟩ v) :=
  ⟨hb.os, hb.tape, hb.output, by rw [show (w'.setCell ⟨k, i, none⟩ v).heap.size = w'.heap.size by simp]; exact hb.size, fun b h1 h2 => (Below.heap_setCell w' ⟨k, i, none⟩ v b h2).trans (hb.block b h1 h2)⟩
theorem But.drew {w w' : World} {k : Nat} (hb : But k w w') : But k w w'.drew := ⟨hb.os, hb.tape, hb.output, hb.size, hb.block⟩
set_option maxHeartbeats 3200000 in
theorem rface_ok {W H : Nat} {A B C : Option Addr} {c d e : Nat} {a b m : Nat → Bool} (hW0 : 1 ≤ W) (hW : W ≤ 64) (hH0 : 1 ≤ H) (hH : H ≤ 64) (w : World) (ha : Holds w w.heap.size A (W * H) a) (hb1 : Holds w w.heap.size B (W * H) b) (hm : Holds w w.heap.size C (W * H) m) :
    Calls Try.prog 55 #[.agg #[.int .i64 (W : Nat), .int .i64 (H : Nat), .slice A (W * H) c], .agg #[.int .i64 (W : Nat), .int .i64 (H : Nat), .slice B (W * H) d], .agg #[.int .i64 (W : Nat), .int .i64 (H : Nat), .slice C (W * H) e]] w (OkRef w W H (fun i => if m i then a i else b i)) := by
  have HK := Lib.hid (fun u => three_any (W : Nat) (H : Nat) (W : Nat) (H : Nat) (W : Nat) (H : Nat) A B C (W * H) c (W * H) d (W * H) e u)
  rw [fitZ_valid hW0 (by omega) hH0 (by omega)] at HK
  have hM : W * H ≤ 4096 := Nat.mul_le_mul hW hH
  have hpos : 0 < W * H := Nat.mul_pos hW0 hH0
  have HTW := Lib.hid (fun u (hb : Below w.heap.size w u) => twin_some (W : Nat) (H : Nat) B (W * H) d b u (by omega) hpos ((hb1.below hb).more hb.size))
  obtain ⟨ba, oa, rfl, hla, hca⟩ := ha hpos
  obtain ⟨bm, om, rfl, hlm, hcm⟩ := hm hpos
  have CA := Lib.hid hca
  have CM := Lib.hid hcm
  obtain ⟨M, hMe⟩ : ∃ z, W * H = z := ⟨_, rfl⟩
  have HME := Lib.hid hMe
  simp only [hMe] at HK HTW CA CM hM hpos ⊢
  clear ha hb1 hm hMe hca hcm
  have LB0 := Lib.hid (Below.refl w.heap.size w)
  have X1 := Lib.hid (Box.new w (W : Nat) (H : Nat) (.slice (some ⟨ba, oa, none⟩) M c))
  have LB0 := Lib.hid (LB0.out.alloc LB0.out.size (.cells #[.int .i64 (W : Nat), .int .i64 (H : Nat), .slice (some ⟨ba, oa, none⟩) M c] 24))
  have X1 := Lib.hid (X1.out.alloc (.cells #[.int .i64 (W : Nat), .int .i64 (H : Nat), .slice B M d] 24))
  have X2 := Box.new (w.alloc (.cells #[.int .i64 (W : Nat), .int .i64 (H : Nat), .slice (some ⟨ba, oa, none⟩) M c] 24)) (W : Nat) (H : Nat) (.slice B M d)
  rw [show ((w.alloc (.cells #[.int .i64 (W : Nat), .int .i64 (H : Nat), .slice (some ⟨ba, oa, none⟩) M c] 24))).heap.size = w.heap.size + 1 by simp] at X2
  have X2 := Lib.hid X2
  have LB0 := Lib.hid (LB0.out.alloc LB0.out.size (.cells #[.int .i64 (W : Nat), .int .i64 (H : Nat), .slice B M d] 24))
  have X1 := Lib.hid (X1.out.alloc (.cells #[.int .i64 (W : Nat), .int .i64 (H : Nat), .slice (some ⟨bm, om, none⟩) M e] 24))
  have X2 := Lib.hid (X2.out.alloc (.cells #[.int .i64 (W : Nat), .int .i64 (H : Nat), .slice (some ⟨bm, om, none⟩) M e] 24))
  have X3 := Box.new ((w.alloc (.cells #[.int .i64 (W : Nat), .int .i64 (H : Nat), .slice (some ⟨ba, oa, none⟩) M c] 24)).alloc (.cells #[.int .i64 (W : Nat), .int .i64 (H : Nat), .slice B M d] 24)) (W : Nat) (H : Nat) (.slice (some ⟨bm, om, none⟩) M e)
  rw [show (((w.alloc (.cells #[.int .i64 (W : Nat), .int .i64 (H : Nat), .slice (some ⟨ba, oa, none⟩) M c] 24)).alloc (.cells #[.int .i64 (W : Nat), .int .i64 (H : Nat), .slice B M d] 24))).heap.size = w.heap.size + 2 by simp] at X3
  have X3 := Lib.hid X3
  have LB0 := Lib.hid (LB0.out.alloc LB0.out.size (.cells #[.int .i64 (W : Nat), .int .i64 (H : Nat), .slice (some ⟨bm, om, none⟩) M e] 24))
  have X1 := Lib.hid (X1.out.alloc (.cells #[.int .i64 0, .int .i64 0, .slice none 0 0] 24))
  have X2 := Lib.hid (X2.out.alloc (.cells #[.int .i64 0, .int .i64 0, .slice none 0 0] 24))
  have X3 := Lib.hid (X3.out.alloc (.cells #[.int .i64 0, .int .i64 0, .slice none 0 0] 24))
  have XR := Box.new (((w.alloc (.cells #[.int .i64 (W : Nat), .int .i64 (H : Nat), .slice (some ⟨ba, oa, none⟩) M c] 24)).alloc (.cells #[.int .i64 (W : Nat), .int .i64 (H : Nat), .slice B M d] 24)).alloc (.cells #[.int .i64 (W : Nat), .int .i64 (H : Nat), .slice (some ⟨bm, om, none⟩) M e] 24)) 0 0 (.slice none 0 0)
  rw [show ((((w.alloc (.cells #[.int .i64 (W : Nat), .int .i64 (H : Nat), .slice (some ⟨ba, oa, none⟩) M c] 24)).alloc (.cells #[.int .i64 (W : Nat), .int .i64 (H : Nat), .slice B M d] 24)).alloc (.cells #[.int .i64 (W : Nat), .int .i64 (H : Nat), .slice (some ⟨bm, om, none⟩) M e] 24))).heap.size = w.heap.size + 3 by simp] at XR
  have XR := Lib.hid XR
  have LB0 := Lib.hid (LB0.out.alloc LB0.out.size (.cells #[.int .i64 0, .int .i64 0, .slice none 0 0] 24))
  go_enter Try.func55, Try.ntmps55
  go_upto_region 1 with (fail)
  generalize (((w.alloc (.cells #[.int .i64 (W : Nat), .int .i64 (H : Nat), .slice (some ⟨ba, oa, none⟩) M c] 24)).alloc (.cells #[.int .i64 (W : Nat), .int .i64 (H : Nat), .slice B M d] 24)).alloc (.cells #[.int .i64 (W : Nat), .int .i64 (H : Nat), .slice (some ⟨bm, om, none⟩) M e] 24)).alloc (.cells #[.int .i64 0, .int .i64 0, .slice none 0 0] 24) = w0 at *
  obtain ⟨rb, hrb⟩ : ∃ rb, w.heap.size + 3 = rb := ⟨_, rfl⟩
  have hrw : w.heap.size ≤ rb := by omega
  have hrwl : w.heap.size < rb := by omega
  rw [hrb] at XR ⊢
  clear hrb
  obtain ⟨q0, q1, q2, q3, q4, q5, q6⟩ := X1.out.all
  obtain ⟨q7, q8, q9, q10, q11, q12, q13⟩ := X2.out.all
  obtain ⟨q14, q15, q16, q17, q18, q19, q20⟩ := X3.out.all
  go_wp2_with fail
  clear q0 q1 q2 q3 q4 q5 q6 q7 q8 q9 q10 q11 q12 q13 q14 q15 q16 q17 q18 q19 q20
  with_reducible refine Calls.mono (HK.out _) ?_
  rintro e w1 ⟨rfl, hb⟩
  have LB1 := Lib.hid (LB0.out.trans (hb.mono LB0.out.size))
  have X1 := Lib.hid (X1.out.below hb X1.out.lt)
  have X2 := Lib.hid (X2.out.below hb X2.out.lt)
  have X3 := Lib.hid (X3.out.below hb X3.out.lt)
  have XR := Lib.hid (XR.out.below hb XR.out.lt)
  clear hb LB0 
  have hrl := XR.out.lt
  obtain ⟨q0, q1, q2, q3, q4, q5, q6⟩ := X2.out.all
  go_wp2_with fail
  clear q0 q1 q2 q3 q4 q5 q6
  with_reducible refine Calls.mono (HTW.out _ LB1.out) ?_
  rintro e w2 ⟨k, d2, rfl, hk, hrow, hb⟩
  have LB2 := Lib.hid (LB1.out.trans (hb.mono LB1.out.size))
  have X1 := Lib.hid (X1.out.below hb X1.out.lt)
  have X2 := Lib.hid (X2.out.below hb X2.out.lt)
  have X3 := Lib.hid (X3.out.below hb X3.out.lt)
  have XR := Lib.hid (XR.out.below hb XR.out.lt)
  have RK := Lib.hid hrow
  clear hb LB1 hrow
  have hb := ((Below.refl w2.heap.size w2).alloc (by simp; try omega) (.cells #[.int .i64 (W : Nat), .int .i64 (H : Nat), .slice (some ⟨k, 0, none⟩) M d2] 24))
  have LB3 := Lib.hid (LB2.out.trans (hb.mono LB2.out.size))
  have X1 := Lib.hid (X1.out.below hb X1.out.lt)
  have X2 := Lib.hid (X2.out.below hb X2.out.lt)
  have X3 := Lib.hid (X3.out.below hb X3.out.lt)
  have XR := Lib.hid (XR.out.below hb XR.out.lt)
  have RK := Lib.hid (RK.out.below hb RK.out.lt)
  have XG := Box.new w2 (W : Nat) (H : Nat) (.slice (some ⟨k, 0, none⟩) M d2)
  have XG := Lib.hid XG
  clear hb LB2
  go_upto_region 4 with (fail)
  obtain ⟨gb, hgb⟩ : ∃ z, w2.heap.size = z := ⟨_, rfl⟩
  rw [hgb] at XG
  try rw [hgb]
  clear hgb
  generalize w2.alloc (.cells #[.int .i64 (W : Nat), .int .i64 (H : Nat), .slice (some ⟨k, 0, none⟩) M d2] 24) = w3 at *
  have hgk : gb ≠ k := fun h => RK.out.ne_box XG.out h.symm
  have hxk1 : w.heap.size ≠ k := fun h => RK.out.ne_box X1.out h.symm
  have hxk3 : w.heap.size + 2 ≠ k := fun h => RK.out.ne_box X3.out h.symm
  have hrk : rb ≠ k := fun h => RK.out.ne_box XR.out h.symm
  have hbak : ba ≠ k := by have := LB3.out.size; omega
  have hbmk : bm ≠ k := by omega
  have hbk : w.heap.size ≤ k := by omega
  rw [← fcp_zero a b m] at RK
  go_wp2
  go_loopw [9] (fun i wr => ∃ s : Nat, s ≤ M ∧ i = .int .i64 s ∧ Hid (Row wr k M (fcp a b m s)) ∧ Hid (But k w3 wr)) (fun i _ => M - (intOf i).toNat)
  case atStart => exact ⟨0, Nat.zero_le _, rfl, RK, Lib.hid (But.of (Below.refl _ _))⟩
  case round =>
    obtain ⟨s, hs, rfl, HR, HU⟩ := hrel
    have ZG := Lib.hid (HU.out.box XG.out hgk)
    have Z1 := Lib.hid (HU.out.box X1.out hxk1)
    have Z3 := Lib.hid (HU.out.box X3.out hxk3)
    obtain ⟨q0, q1, q2, q3, q4, q5, q6⟩ := ZG.out.all
    by_cases hlt : s < M
    · have y1 : (s : Int) < (M : Int) := by omega
      have y2 : (0 : Int) ≤ (s : Int) := by omega
      have a1 := (HU.out.cell (b := ba) (o := oa + s) (Nat.lt_of_lt_of_le hla LB3.out.size) hbak).trans ((LB3.out.cell (p := ⟨ba, oa + s, none⟩) hla).trans (CA.out s hlt))
      have a3 := (HU.out.cell (b := bm) (o := om + s) (Nat.lt_of_lt_of_le hlm LB3.out.size) hbmk).trans ((LB3.out.cell (p := ⟨bm, om + s, none⟩) hlm).trans (CM.out s hlt))
      have a4 := HR.out.cell hlt
      have a5 := HR.out.free s
      obtain ⟨ua, hua⟩ : ∃ z, a s = z := ⟨_, rfl⟩
      obtain ⟨um, hum⟩ : ∃ z, m s = z := ⟨_, rfl⟩
      have HUA := Lib.hid hua
      have HUM := Lib.hid hum
      rw [hua] at a1
      rw [hum] at a3
      clear hua hum
      obtain ⟨q7, q8, q9, q10, q11, q12, q13⟩ := Z1.out.all
      obtain ⟨q14, q15, q16, q17, q18, q19, q20⟩ := Z3.out.all
      cases um
      · go_wp2
        go_roundw
        case rel => exact ⟨s + 1, by omega, by go_num, Lib.hid (HR.out.congr fun j hj => fcp_f HUM.out), HU⟩
        case measure => simp [intOf]; omega
      · have HR2 := Lib.hid ((HR.out.set_ s ua).congr (f' := fcp a b m (s + 1)) fun j hj => by rw [← HUA.out]; exact fcp_t HUM.out)
        have HU2 := Lib.hid (HU.out.set (i := s) (v := .bool ua))
        clear HR
        go_wp2
        go_region
        go_wp2
        go_roundw
        case rel => exact ⟨s + 1, by omega, by go_num, Lib.hid HR2.out.drew, Lib.hid HU2.out.drew⟩
        case measure => simp [intOf]; omega
    · have y1 : ¬ (s : Int) < (M : Int) := by omega
      have e1 : s = M := by omega
      have HR2 := Lib.hid (HR.out.congr (f' := fun i => if m i then a i else b i) fun j hj => by rw [e1]; unfold fcp; rw [if_pos hj])
      have ZR := Lib.hid (HU.out.box XR.out hrk)
      have LBE := Lib.hid (HU.out.below LB3.out hbk)
      obtain ⟨q14, q15, q16, q17, q18, q19, q20⟩ := ZR.out.all
      clear e1 HR
      go_wp2
      refine bodyPost_ret (v := .tuple #[.agg #[.int .i64 (W : Nat), .int .i64 (H : Nat), .slice (some ⟨k, 0, none⟩) M d2], .int .i64 0]) (by simp [results, Try.results55, go_sem, q14, q15, q16, q17, q18, q19]) rfl ?_
      rw [← HME.out] at HR2 ⊢
      exact ⟨k, d2, rfl, hbk, HR2.out.st3 (by omega) _ _ _, bel_st3 LBE.out hrw _ _ _⟩
/-- A grid came back in a row of its own, with room. -/
def GrC (w : World) (W H N : Nat) (F : Nat → Bool) (e : Ending) (w' : World) : Prop :=
  ∃ k d, e = .returned (.agg #[.int .i64 (W : Nat), .int .i64 (H : Nat), .slice (some ⟨k, 0, none⟩) N d]) ∧ w.heap.size ≤ k ∧ Row w' k N F ∧ Below w.heap.size w w'
set_option maxHeartbeats 1600000 in
theorem rback_n {W H : Nat} {A : Option Addr} {c : Nat} {f : Nat → Bool} (hW0 : 1 ≤ W) (hW : W ≤ 64) (hH0 : 1 ≤ H) (hH : H ≤ 64) (w : World) (hf : Holds w w.heap.size A (W * H) f) :
    Calls Try.prog 101 #[.agg #[.int .i64 (W : Nat), .int .i64 (H : Nat), .slice A (W * H) c]] w (GrC w W H (W * H) (bkf W f)) := by
  have HK := Lib.hid (fun (u : World) (LB : Below w.heap.size w u) => rmirror_ok0 W H A c f u ((hf.below LB).more LB.size) hW0 hW hH0 hH)
  obtain ⟨f1, hf1⟩ : ∃ g, (fun i => (fun x y => f (y * W + (W - 1 - x))) (i % W) (i / W)) = g := ⟨_, rfl⟩
  have HBF := Lib.hid (show (fun i => !f1 i) = bkf W f by rw [← hf1]; rfl)
  have HN := Lib.hid (fun (u : World) (k d : Nat) (h : Row u k (W * H) f1) => rnot_ok W H (some ⟨k, 0, none⟩) d f1 u (h.holds h.lt) hW0 hW hH0 hH)
  rw [HBF.out] at HN
  rw [hf1] at HK
  clear hf HBF hf1
  obtain ⟨M, hMe⟩ : ∃ M, W * H = M := ⟨_, rfl⟩
  have HME := Lib.hid hMe
  simp only [hMe] at HK HN ⊢
  clear hMe
  have LB0 := Lib.hid (Below.refl w.heap.size w)
  have X1 := Lib.hid (Box.new w (W : Nat) (H : Nat) (.slice A M c))
  have LB0 := Lib.hid (LB0.out.alloc LB0.out.size (.cells #[.int .i64 (W : Nat), .int .i64 (H : Nat), .slice A M c] 24))
  have X1 := Lib.hid (X1.out.alloc (.cells #[.int .i64 0, .int .i64 0, .slice none 0 0] 24))
  have XR := Box.new (w.alloc (.cells #[.int .i64 (W : Nat), .int .i64 (H : Nat), .slice A M c] 24)) 0 0 (.slice none 0 0)
  rw [show ((w.alloc (.cells #[.int .i64 (W : Nat), .int .i64 (H : Nat), .slice A M c] 24))).heap.size = w.heap.size + 1 by simp] at XR
  have XR := Lib.hid XR
  have LB0 := Lib.hid (LB0.out.alloc LB0.out.size (.cells #[.int .i64 0, .int .i64 0, .slice none 0 0] 24))
  go_enter Try.func101, Try.ntmps101
  go_upto_region 1 with (fail)
  generalize (w.alloc (.cells #[.int .i64 (W : Nat), .int .i64 (H : Nat), .slice A M c] 24)).alloc (.cells #[.int .i64 0, .int .i64 0, .slice none 0 0] 24) = w0 at *
  obtain ⟨rb, hrb⟩ : ∃ rb, w.heap.size + 1 = rb := ⟨_, rfl⟩
  have hrw : w.heap.size ≤ rb := by omega
  have hrwl : w.heap.size < rb := by omega
  rw [hrb] at XR ⊢
  clear hrb
  obtain ⟨q0, q1, q2, q3, q4, q5, q6⟩ := X1.out.all
  go_wp2_with fail
  clear q0 q1 q2 q3 q4 q5 q6
  with_reducible refine Calls.mono (HK.out _ LB0.out) ?_
  rintro e w1 ⟨k, rfl, hk, hrow, hb⟩
  have LB1 := Lib.hid (LB0.out.trans (hb.mono LB0.out.size))
  have X1 := Lib.hid (X1.out.below hb X1.out.lt)
  have XR := Lib.hid (XR.out.below hb XR.out.lt)
  have HR := Lib.hid hrow
  clear hb LB0 hrow
  simp only [HME.out] at HR ⊢
  have hb := ((Below.refl w1.heap.size w1).alloc (by simp; try omega) (.cells #[.int .i64 (W : Nat), .int .i64 (H : Nat), .slice (some ⟨k, 0, none⟩) M M] 24))
  have LB2 := Lib.hid (LB1.out.trans (hb.mono LB1.out.size))
  have X1 := Lib.hid (X1.out.below hb X1.out.lt)
  have XR := Lib.hid (XR.out.below hb XR.out.lt)
  have HR := Lib.hid (HR.out.below hb HR.out.lt)
  have XM := Box.new w1 (W : Nat) (H : Nat) (.slice (some ⟨k, 0, none⟩) M M)
  have XM := Lib.hid XM
  clear hb LB1
  go_upto_region 2 with (fail)
  obtain ⟨mb, hmb⟩ : ∃ z, w1.heap.size = z := ⟨_, rfl⟩
  rw [hmb] at XM
  try rw [hmb]
  clear hmb
  generalize w1.alloc (.cells #[.int .i64 (W : Nat), .int .i64 (H : Nat), .slice (some ⟨k, 0, none⟩) M M] 24) = w2 at *
  have hrl := XR.out.lt
  obtain ⟨q0, q1, q2, q3, q4, q5, q6⟩ := XM.out.all
  go_wp2_with fail
  clear q0 q1 q2 q3 q4 q5 q6
  with_reducible refine Calls.mono (HN.out _ _ _ HR.out) ?_
  rintro e w3 ⟨k2, d2, rfl, hk2, hrow, hb⟩
  have LB3 := Lib.hid (LB2.out.trans (hb.mono LB2.out.size))
  have X1 := Lib.hid (X1.out.below hb X1.out.lt)
  have XR := Lib.hid (XR.out.below hb XR.out.lt)
  have HR := Lib.hid (HR.out.below hb HR.out.lt)
  have XM := Lib.hid (XM.out.below hb XM.out.lt)
  have HR2 := Lib.hid hrow
  clear hb LB2 hrow
  simp only [HME.out] at HR2 ⊢
  have hb := ((Below.refl w3.heap.size w3).alloc (by simp; try omega) (.cells #[.int .i64 (W : Nat), .int .i64 (H : Nat), .slice (some ⟨k2, 0, none⟩) M d2] 24))
  have LB4 := Lib.hid (LB3.out.trans (hb.mono LB3.out.size))
  have X1 := Lib.hid (X1.out.below hb X1.out.lt)
  have XR := Lib.hid (XR.out.below hb XR.out.lt)
  have HR := Lib.hid (HR.out.below hb HR.out.lt)
  have XM := Lib.hid (XM.out.below hb XM.out.lt)
  have HR2 := Lib.hid (HR2.out.below hb HR2.out.lt)
  have XN := Box.new w3 (W : Nat) (H : Nat) (.slice (some ⟨k2, 0, none⟩) M d2)
  have XN := Lib.hid XN
  clear hb LB3
  go_upto_region 3 with (fail)
  obtain ⟨nb, hnb⟩ : ∃ z, w3.heap.size = z := ⟨_, rfl⟩
  rw [hnb] at XN
  try rw [hnb]
  clear hnb
  generalize w3.alloc (.cells #[.int .i64 (W : Nat), .int .i64 (H : Nat), .slice (some ⟨k2, 0, none⟩) M d2] 24) = w4 at *
  have hkr : k2 ≠ rb := by omega
  obtain ⟨q0, q1, q2, q3, q4, q5, q6⟩ := XR.out.all
  obtain ⟨r0, r1, r2, r3, r4, r5, r6⟩ := XN.out.all
  go_wp2
  refine bodyPost_ret (v := .agg #[.int .i64 (W : Nat), .int .i64 (H : Nat), .slice (some ⟨k2, 0, none⟩) M d2]) (by simp [results, Try.results101, go_sem, q0, q1, q2, q3, q4, q5]) rfl ?_
  exact ⟨k2, d2, rfl, by omega, HR2.out.st3 hkr _ _ _, bel_st3 LB4.out hrw _ _ _⟩
set_option maxHeartbeats 1600000 in
theorem rbackw_err {W H : Int} {A : Option Addr} {n c : Nat} {z : Int} (hz : chk W H n = z) (hne : (z != 0) = true) (w : World) : Calls Try.prog 56 #[.agg #[.int .i64 W, .int .i64 H, .slice A n c]] w (ErrGrid w z) := by
  have HK := Lib.hid (fun u => rchk_all W H A n c u)
  rw [hz] at HK
  have hne2 : (z == 0) = false := by rw [bne] at hne; simpa using hne
  clear hz
  have LB0 := Lib.hid (Below.refl w.heap.size w)
  have X1 := Lib.hid (Box.new w W H (.slice A n c))
  have LB0 := Lib.hid (LB0.out.alloc LB0.out.size (.cells #[.int .i64 W, .int .i64 H, .slice A n c] 24))
  have X1 := Lib.hid (X1.out.alloc (.cells #[.int .i64 0, .int .i64 0, .slice none 0 0] 24))
  have XR := Box.new (w.alloc (.cells #[.int .i64 W, .int .i64 H, .slice A n c] 24)) 0 0 (.slice none 0 0)
  rw [show ((w.alloc (.cells #[.int .i64 W, .int .i64 H, .slice A n c] 24))).heap.size = w.heap.size + 1 by simp] at XR
  have XR := Lib.hid XR
  have LB0 := Lib.hid (LB0.out.alloc LB0.out.size (.cells #[.int .i64 0, .int .i64 0, .slice none 0 0] 24))
  go_enter Try.func56, Try.ntmps56
  go_upto_region 1 with (fail)
  generalize (w.alloc (.cells #[.int .i64 W, .int .i64 H, .slice A n c] 24)).alloc (.cells #[.int .i64 0, .int .i64 0, .slice none 0 0] 24) = w0 at *
  obtain ⟨rb, hrb⟩ : ∃ rb, w.heap.size + 1 = rb := ⟨_, rfl⟩
  have hrw : w.heap.size ≤ rb := by omega
  have hrwl : w.heap.size < rb := by omega
  rw [hrb] at XR ⊢
  clear hrb
  obtain ⟨q0, q1, q2, q3, q4, q5, q6⟩ := X1.out.all
  go_wp2_with fail
  clear q0 q1 q2 q3 q4 q5 q6
  with_reducible refine Calls.mono (HK.out _) ?_
  rintro e w1 ⟨rfl, hb⟩
  have LB1 := Lib.hid (LB0.out.trans (hb.mono LB0.out.size))
  have X1 := Lib.hid (X1.out.below hb X1.out.lt)
  have XR := Lib.hid (XR.out.below hb XR.out.lt)
  clear hb LB0 
  obtain ⟨q0, q1, q2, q3, q4, q5, q6⟩ := X1.out.all
  go_wp2_with fail
  clear q0 q1 q2 q3 q4 q5 q6
  with_reducible refine Calls.mono (HK.out _) ?_
  rintro e w2 ⟨rfl, hb⟩
  have LB2 := Lib.hid (LB1.out.trans (hb.mono LB1.out.size))
  have X1 := Lib.hid (X1.out.below hb X1.out.lt)
  have XR := Lib.hid (XR.out.below hb XR.out.lt)
  clear hb LB1 
  obtain ⟨q0, q1, q2, q3, q4, q5, q6⟩ := XR.out.all
  go_wp2
  refine bodyPost_ret (v := .tuple #[.agg #[.int .i64 0, .int .i64 0, .slice none 0 0], .int .i64 z]) (by simp [results, Try.results56, go_sem, q0, q1, q2, q3, q4, q5]) rfl ?_
  exact ⟨rfl, bel_st3 LB2.out hrw _ _ _⟩
set_option maxHeartbeats 1600000 in
theorem rtube_err {W H : Int} {A : Option Addr} {n c : Nat} {z : Int} (hz : chk W H n = z) (hne : (z != 0) = true) (w : World) : Calls Try.prog 57 #[.agg #[.int .i64 W, .int .i64 H, .slice A n c]] w (ErrGrid w z) := by
  have HK := Lib.hid (fun u => rchk_all W H A n c u)
  rw [hz] at HK
  have hne2 : (z == 0) = false := by rw [bne] at hne; simpa using hne
  clear hz
  have LB0 := Lib.hid (Below.refl w.heap.size w)
  have X1 := Lib.hid (Box.new w W H (.slice A n c))
  have LB0 := Lib.hid (LB0.out.alloc LB0.out.size (.cells #[.int .i64 W, .int .i64 H, .slice A n c] 24))
  have X1 := Lib.hid (X1.out.alloc (.cells #[.int .i64 0, .int .i64 0, .slice none 0 0] 24))
  have XR := Box.new (w.alloc (.cells #[.int .i64 W, .int .i64 H, .slice A n c] 24)) 0 0 (.slice none 0 0)
  rw [show ((w.alloc (.cells #[.int .i64 W, .int .i64 H, .slice A n c] 24))).heap.size = w.heap.size + 1 by simp] at XR
  have XR := Lib.hid XR
  have LB0 := Lib.hid (LB0.out.alloc LB0.out.size (.cells #[.int .i64 0, .int .i64 0, .slice none 0 0] 24))
  go_enter Try.func57, Try.ntmps57
  go_upto_region 1 with (fail)
  generalize (w.alloc (.cells #[.int .i64 W, .int .i64 H, .slice A n c] 24)).alloc (.cells #[.int .i64 0, .int .i64 0, .slice none 0 0] 24) = w0 at *
  obtain ⟨rb, hrb⟩ : ∃ rb, w.heap.size + 1 = rb := ⟨_, rfl⟩
  have hrw : w.heap.size ≤ rb := by omega
  have hrwl : w.heap.size < rb := by omega
  rw [hrb] at XR ⊢
  clear hrb
  obtain ⟨q0, q1, q2, q3, q4, q5, q6⟩ := X1.out.all
  go_wp2_with fail
  clear q0 q1 q2 q3 q4 q5 q6
  with_reducible refine Calls.mono (HK.out _) ?_
  rintro e w1 ⟨rfl, hb⟩
  have LB1 := Lib.hid (LB0.out.trans (hb.mono LB0.out.size))
  have X1 := Lib.hid (X1.out.below hb X1.out.lt)
  have XR := Lib.hid (XR.out.below hb XR.out.lt)
  clear hb LB0 
  obtain ⟨q0, q1, q2, q3, q4, q5, q6⟩ := X1.out.all
  go_wp2_with fail
  clear q0 q1 q2 q3 q4 q5 q6
  with_reducible refine Calls.mono (HK.out _) ?_
  rintro e w2 ⟨rfl, hb⟩
  have LB2 := Lib.hid (LB1.out.trans (hb.mono LB1.out.size))
  have X1 := Lib.hid (X1.out.below hb X1.out.lt)
  have XR := Lib.hid (XR.out.below hb XR.out.lt)
  clear hb LB1 
  obtain ⟨q0, q1, q2, q3, q4, q5, q6⟩ := XR.out.all
  go_wp2
  refine bodyPost_ret (v := .tuple #[.agg #[.int .i64 0, .int .i64 0, .slice none 0 0], .int .i64 z]) (by simp [results, Try.results57, go_sem, q0, q1, q2, q3, q4, q5]) rfl ?_
  exact ⟨rfl, bel_st3 LB2.out hrw _ _ _⟩
set_option maxHeartbeats 1600000 in
theorem rbackw_ok {W H : Nat} {A : Option Addr} {c : Nat} {f : Nat → Bool} (hW0 : 1 ≤ W) (hW : W ≤ 64) (hH0 : 1 ≤ H) (hH : H ≤ 64) (w : World) (hf : Holds w w.heap.size A (W * H) f) :
    Calls Try.prog 56 #[.agg #[.int .i64 (W : Nat), .int .i64 (H : Nat), .slice A (W * H) c]] w (OkRef w W H (bkf W f)) := by
  have HK := Lib.hid (fun u => rchk_all (W : Nat) (H : Nat) A (W * H) c u)
  rw [chk_zero hW0 (by omega) hH0 (by omega)] at HK
  have HB := Lib.hid (fun (u : World) (LB : Below w.heap.size w u) => rback_n (c := c) hW0 hW hH0 hH u ((hf.below LB).more LB.size))
  obtain ⟨M, hMe⟩ : ∃ M, W * H = M := ⟨_, rfl⟩
  have HME := Lib.hid hMe
  simp only [hMe] at HK HB ⊢
  clear hMe hf
  have LB0 := Lib.hid (Below.refl w.heap.size w)
  have X1 := Lib.hid (Box.new w (W : Nat) (H : Nat) (.slice A M c))
  have LB0 := Lib.hid (LB0.out.alloc LB0.out.size (.cells #[.int .i64 (W : Nat), .int .i64 (H : Nat), .slice A M c] 24))
  have X1 := Lib.hid (X1.out.alloc (.cells #[.int .i64 0, .int .i64 0, .slice none 0 0] 24))
  have XR := Box.new (w.alloc (.cells #[.int .i64 (W : Nat), .int .i64 (H : Nat), .slice A M c] 24)) 0 0 (.slice none 0 0)
  rw [show ((w.alloc (.cells #[.int .i64 (W : Nat), .int .i64 (H : Nat), .slice A M c] 24))).heap.size = w.heap.size + 1 by simp] at XR
  have XR := Lib.hid XR
  have LB0 := Lib.hid (LB0.out.alloc LB0.out.size (.cells #[.int .i64 0, .int .i64 0, .slice none 0 0] 24))
  go_enter Try.func56, Try.ntmps56
  go_upto_region 1 with (fail)
  generalize (w.alloc (.cells #[.int .i64 (W : Nat), .int .i64 (H : Nat), .slice A M c] 24)).alloc (.cells #[.int .i64 0, .int .i64 0, .slice none 0 0] 24) = w0 at *
  obtain ⟨rb, hrb⟩ : ∃ rb, w.heap.size + 1 = rb := ⟨_, rfl⟩
  have hrw : w.heap.size ≤ rb := by omega
  have hrwl : w.heap.size < rb := by omega
  rw [hrb] at XR ⊢
  clear hrb
  obtain ⟨q0, q1, q2, q3, q4, q5, q6⟩ := X1.out.all
  go_wp2_with fail
  clear q0 q1 q2 q3 q4 q5 q6
  with_reducible refine Calls.mono (HK.out _) ?_
  rintro e w1 ⟨rfl, hb⟩
  have LB1 := Lib.hid (LB0.out.trans (hb.mono LB0.out.size))
  have X1 := Lib.hid (X1.out.below hb X1.out.lt)
  have XR := Lib.hid (XR.out.below hb XR.out.lt)
  clear hb LB0 
  have hrl := XR.out.lt
  obtain ⟨q0, q1, q2, q3, q4, q5, q6⟩ := X1.out.all
  go_wp2_with fail
  clear q0 q1 q2 q3 q4 q5 q6
  with_reducible refine Calls.mono (HB.out _ LB1.out) ?_
  rintro e w2 ⟨k, d2, rfl, hk, hrow, hb⟩
  have LB2 := Lib.hid (LB1.out.trans (hb.mono LB1.out.size))
  have X1 := Lib.hid (X1.out.below hb X1.out.lt)
  have XR := Lib.hid (XR.out.below hb XR.out.lt)
  have RK := Lib.hid hrow
  clear hb LB1 hrow
  obtain ⟨q0, q1, q2, q3, q4, q5, q6⟩ := XR.out.all
  go_wp2
  refine bodyPost_ret (v := .tuple #[.agg #[.int .i64 (W : Nat), .int .i64 (H : Nat), .slice (some ⟨k, 0, none⟩) M d2], .int .i64 0]) (by simp [results, Try.results56, go_sem, q0, q1, q2, q3, q4, q5]) rfl ?_
  rw [← HME.out] at RK ⊢
  exact fin_ref hrw (by omega) RK.out LB2.out
set_option maxHeartbeats 1600000 in
theorem rtube_many {W H : Nat} {A : Option Addr} {c : Nat} (hW0 : 1 ≤ W) (hW : W ≤ 64) (hH0 : 1 ≤ H) (hH : H ≤ 64) (hbig : 32 < W ∨ 32 < H) (w : World) :
    Calls Try.prog 57 #[.agg #[.int .i64 (W : Nat), .int .i64 (H : Nat), .slice A (W * H) c]] w (ErrGrid w 4) := by
  have HK := Lib.hid (fun u => rchk_all (W : Nat) (H : Nat) A (W * H) c u)
  rw [chk_zero hW0 (by omega) hH0 (by omega)] at HK
  generalize W * H = M at *
  have LB0 := Lib.hid (Below.refl w.heap.size w)
  have X1 := Lib.hid (Box.new w (W : Nat) (H : Nat) (.slice A M c))
  have LB0 := Lib.hid (LB0.out.alloc LB0.out.size (.cells #[.int .i64 (W : Nat), .int .i64 (H : Nat), .slice A M c] 24))
  have X1 := Lib.hid (X1.out.alloc (.cells #[.int .i64 0, .int .i64 0, .slice none 0 0] 24))
  have XR := Box.new (w.alloc (.cells #[.int .i64 (W : Nat), .int .i64 (H : Nat), .slice A M c] 24)) 0 0 (.slice none 0 0)
  rw [show ((w.alloc (.cells #[.int .i64 (W : Nat), .int .i64 (H : Nat), .slice A M c] 24))).heap.size = w.heap.size + 1 by simp] at XR
  have XR := Lib.hid XR
  have LB0 := Lib.hid (LB0.out.alloc LB0.out.size (.cells #[.int .i64 0, .int .i64 0, .slice none 0 0] 24))
  go_enter Try.func57, Try.ntmps57
  go_upto_region 1 with (fail)
  generalize (w.alloc (.cells #[.int .i64 (W : Nat), .int .i64 (H : Nat), .slice A M c] 24)).alloc (.cells #[.int .i64 0, .int .i64 0, .slice none 0 0] 24) = w0 at *
  obtain ⟨rb, hrb⟩ : ∃ rb, w.heap.size + 1 = rb := ⟨_, rfl⟩
  have hrw : w.heap.size ≤ rb := by omega
  have hrwl : w.heap.size < rb := by omega
  rw [hrb] at XR ⊢
  clear hrb
  obtain ⟨q0, q1, q2, q3, q4, q5, q6⟩ := X1.out.all
  go_wp2_with fail
  clear q0 q1 q2 q3 q4 q5 q6
  with_reducible refine Calls.mono (HK.out _) ?_
  rintro e w1 ⟨rfl, hb⟩
  have LB1 := Lib.hid (LB0.out.trans (hb.mono LB0.out.size))
  have X1 := Lib.hid (X1.out.below hb X1.out.lt)
  have XR := Lib.hid (XR.out.below hb XR.out.lt)
  clear hb LB0 
  obtain ⟨r0, r1, r2, r3, r4, r5, r6⟩ := XR.out.all
  obtain ⟨q0, q1, q2, q3, q4, q5, q6⟩ := X1.out.all
  by_cases hw : 32 < W
  · have y1 : (32 : Int) < (W : Int) := by omega
    have y2 : decide ((W : Int) > 32) = true := by simp; omega
    go_wp2
    refine bodyPost_ret (v := .tuple #[.agg #[.int .i64 0, .int .i64 0, .slice none 0 0], .int .i64 4]) (by simp [results, Try.results57, go_sem, r0, r1, r2, r3, r4, r5]) rfl ?_
    exact ⟨rfl, bel_st3 LB1.out hrw _ _ _⟩
  · have y1 : ¬ (32 : Int) < (W : Int) := by omega
    have y2 : decide ((W : Int) > 32) = false := by simp; omega
    have y3 : (32 : Int) < (H : Int) := by omega
    have y4 : decide ((H : Int) > 32) = true := by simp; omega
    go_wp2
    refine bodyPost_ret (v := .tuple #[.agg #[.int .i64 0, .int .i64 0, .slice none 0 0], .int .i64 4]) (by simp [results, Try.results57, go_sem, r0, r1, r2, r3, r4, r5]) rfl ?_
    exact ⟨rfl, bel_st3 LB1.out hrw _ _ _⟩
set_option maxHeartbeats 3200000 in
theorem rtube_ok {W H : Nat} {A : Option Addr} {c : Nat} {f : Nat → Bool} (hW0 : 1 ≤ W) (hW : W ≤ 32) (hH0 : 1 ≤ H) (hH : H ≤ 32) (w : World) (hf : Holds w w.heap.size A (W * H) f) :
    Calls Try.prog 57 #[.agg #[.int .i64 (W : Nat), .int .i64 (H : Nat), .slice A (W * H) c]] w (OkRef w (2 * W) (2 * H) (dbl W f (bkf W f) (fun _ => true))) := by
  have HK := Lib.hid (fun u => rchk_all (W : Nat) (H : Nat) A (W * H) c u)
  rw [chk_zero hW0 (by omega) hH0 (by omega)] at HK
  have HB := Lib.hid (fun (u : World) (LB : Below w.heap.size w u) => rback_n (c := c) hW0 (by omega) hH0 (by omega) u ((hf.below LB).more LB.size))
  have HZ := Lib.hid (fun u => zero_int (W : Int) (H : Int) W H rfl rfl (by omega) (by omega) u)
  have HN := Lib.hid (fun (u : World) (k d : Nat) (h : Row u k (W * H) (fun _ => false)) => rnot_ok W H (some ⟨k, 0, none⟩) d _ u (h.holds h.lt) hW0 (by omega) hH0 (by omega))
  have HBF := Lib.hid (show (fun i : Nat => !(fun _ => false) i) = (fun _ => true) from rfl)
  simp only [HBF.out] at HN
  have HV := Lib.hid (fun u (hb : Below w.heap.size w u) k1 c1 k2 c2 (h1 : Row u k1 (W * H) (bkf W f)) (h2 : Row u k2 (W * H) (fun _ => true)) => woven_n W H A (some ⟨k1, 0, none⟩) (some ⟨k2, 0, none⟩) c c1 c2 f (bkf W f) (fun _ => true) hW0 hW hH0 hH u ((hf.below hb).more hb.size) (h1.holds h1.lt) (h2.holds h2.lt))
  have y1 : ¬ (32 : Int) < (W : Int) := by omega
  have y2 : decide ((W : Int) > 32) = false := by simp; omega
  have y3 : ¬ (32 : Int) < (H : Int) := by omega
  have y4 : decide ((H : Int) > 32) = false := by simp; omega
  obtain ⟨F, hF⟩ : ∃ F, dbl W f (bkf W f) (fun _ => true) = F := ⟨_, rfl⟩
  obtain ⟨W2, hW2⟩ : ∃ z, 2 * W = z := ⟨_, rfl⟩
  obtain ⟨H2, hH2⟩ : ∃ z, 2 * H = z := ⟨_, rfl⟩
  simp only [hF, hW2, hH2] at HV ⊢
  obtain ⟨N2, hN2⟩ : ∃ z, W2 * H2 = z := ⟨_, rfl⟩
  have HN2 := Lib.hid hN2
  simp only [hN2] at HV
  obtain ⟨fb, hfb⟩ : ∃ g, bkf W f = g := ⟨_, rfl⟩
  simp only [hfb] at HB HV
  obtain ⟨M, hMe⟩ : ∃ z, W * H = z := ⟨_, rfl⟩
  have HME := Lib.hid hMe
  simp only [hMe] at HK HB HZ HN HV ⊢
  clear hf hF hW2 hH2 hN2 hMe hfb HBF
  have LB0 := Lib.hid (Below.refl w.heap.size w)
  have X1 := Lib.hid (Box.new w (W : Nat) (H : Nat) (.slice A M c))
  have LB0 := Lib.hid (LB0.out.alloc LB0.out.size (.cells #[.int .i64 (W : Nat), .int .i64 (H : Nat), .slice A M c] 24))
  have X1 := Lib.hid (X1.out.alloc (.cells #[.int .i64 0, .int .i64 0, .slice none 0 0] 24))
  have XR := Box.new (w.alloc (.cells #[.int .i64 (W : Nat), .int .i64 (H : Nat), .slice A M c] 24)) 0 0 (.slice none 0 0)
  rw [show ((w.alloc (.cells #[.int .i64 (W : Nat), .int .i64 (H : Nat), .slice A M c] 24))).heap.size = w.heap.size + 1 by simp] at XR
  have XR := Lib.hid XR
  have LB0 := Lib.hid (LB0.out.alloc LB0.out.size (.cells #[.int .i64 0, .int .i64 0, .slice none 0 0] 24))
  go_enter Try.func57, Try.ntmps57
  go_upto_region 1 with (fail)
  generalize (w.alloc (.cells #[.int .i64 (W : Nat), .int .i64 (H : Nat), .slice A M c] 24)).alloc (.cells #[.int .i64 0, .int .i64 0, .slice none 0 0] 24) = w0 at *
  obtain ⟨rb, hrb⟩ : ∃ rb, w.heap.size + 1 = rb := ⟨_, rfl⟩
  have hrw : w.heap.size ≤ rb := by omega
  have hrwl : w.heap.size < rb := by omega
  rw [hrb] at XR ⊢
  clear hrb
  obtain ⟨q0, q1, q2, q3, q4, q5, q6⟩ := X1.out.all
  go_wp2_with fail
  clear q0 q1 q2 q3 q4 q5 q6
  with_reducible refine Calls.mono (HK.out _) ?_
  rintro e w1 ⟨rfl, hb⟩
  have LB1 := Lib.hid (LB0.out.trans (hb.mono LB0.out.size))
  have X1 := Lib.hid (X1.out.below hb X1.out.lt)
  have XR := Lib.hid (XR.out.below hb XR.out.lt)
  clear hb LB0 
  obtain ⟨q0, q1, q2, q3, q4, q5, q6⟩ := X1.out.all
  go_wp2_with fail
  clear q0 q1 q2 q3 q4 q5 q6
  with_reducible refine Calls.mono (HZ.out _) ?_
  rintro e w2 ⟨k, rfl, hk, hrow, hb⟩
  have LB2 := Lib.hid (LB1.out.trans (hb.mono LB1.out.size))
  have X1 := Lib.hid (X1.out.below hb X1.out.lt)
  have XR := Lib.hid (XR.out.below hb XR.out.lt)
  have RZ := Lib.hid hrow
  clear hb LB1 hrow
  go_wp2_with fail
  with_reducible refine Calls.mono (HN.out _ _ _ RZ.out) ?_
  rintro e w3 ⟨ku, du, rfl, hku, hrow, hb⟩
  have LB3 := Lib.hid (LB2.out.trans (hb.mono LB2.out.size))
  have X1 := Lib.hid (X1.out.below hb X1.out.lt)
  have XR := Lib.hid (XR.out.below hb XR.out.lt)
  have RZ := Lib.hid (RZ.out.below hb RZ.out.lt)
  have RU := Lib.hid hrow
  clear hb LB2 hrow
  simp only [HME.out] at RU ⊢
  have hb := ((Below.refl w3.heap.size w3).alloc (by simp; try omega) (.cells #[.int .i64 (W : Nat), .int .i64 (H : Nat), .slice (some ⟨ku, 0, none⟩) M du] 24))
  have LB4 := Lib.hid (LB3.out.trans (hb.mono LB3.out.size))
  have X1 := Lib.hid (X1.out.below hb X1.out.lt)
  have XR := Lib.hid (XR.out.below hb XR.out.lt)
  have RZ := Lib.hid (RZ.out.below hb RZ.out.lt)
  have RU := Lib.hid (RU.out.below hb RU.out.lt)
  have XU := Box.new w3 (W : Nat) (H : Nat) (.slice (some ⟨ku, 0, none⟩) M du)
  have XU := Lib.hid XU
  clear hb LB3
  go_upto_region 6 with (fail)
  obtain ⟨ub, hub⟩ : ∃ z, w3.heap.size = z := ⟨_, rfl⟩
  rw [hub] at XU
  try rw [hub]
  clear hub
  generalize w3.alloc (.cells #[.int .i64 (W : Nat), .int .i64 (H : Nat), .slice (some ⟨ku, 0, none⟩) M du] 24) = w4 at *
  have hrl := XR.out.lt
  have hub : ub ≠ rb := by intro h; have e1 := XU.out; have e2 := XR.out; rw [h] at e1; unfold Box at e1 e2; rw [e1] at e2; cases e2
  have hab : w.heap.size ≠ rb := Nat.ne_of_lt hrwl
  have HK2 := Lib.hid (fun (u : World) (h1 : Box u w.heap.size (W : Nat) (H : Nat) (.slice A M c)) (h2 : Box u ub (W : Nat) (H : Nat) (.slice (some ⟨ku, 0, none⟩) M du)) => (show u.cell? ⟨w.heap.size, 0, none⟩ = some (.int .i64 (W : Nat)) ∧ u.cell? ⟨w.heap.size, 1, none⟩ = some (.int .i64 (H : Nat)) ∧ u.cell? ⟨w.heap.size, 2, none⟩ = some (.slice A M c) ∧ u.cell? ⟨ub, 0, none⟩ = some (.int .i64 (W : Nat)) ∧ u.cell? ⟨ub, 1, none⟩ = some (.int .i64 (H : Nat)) ∧ u.cell? ⟨ub, 2, none⟩ = some (.slice (some ⟨ku, 0, none⟩) M du) from ⟨h1.c0, h1.c1, h1.c2, h2.c0, h2.c1, h2.c2⟩))
  have D1 := Lib.hid X1.out.drew
  have DU := Lib.hid XU.out.drew
  have B0 := Lib.hid (Below.refl w4.heap.size w4).drew
  obtain ⟨p0, p1, p2, p3, p4, p5⟩ := HK2.out _ X1.out XU.out
  go_region_held3 (fun u => u.cell? ⟨w.heap.size, 0, none⟩ = some (.int .i64 (W : Nat)) ∧ u.cell? ⟨w.heap.size, 1, none⟩ = some (.int .i64 (H : Nat)) ∧ u.cell? ⟨w.heap.size, 2, none⟩ = some (.slice A M c) ∧ u.cell? ⟨ub, 0, none⟩ = some (.int .i64 (W : Nat)) ∧ u.cell? ⟨ub, 1, none⟩ = some (.int .i64 (H : Nat)) ∧ u.cell? ⟨ub, 2, none⟩ = some (.slice (some ⟨ku, 0, none⟩) M du))
    (first
      | with_reducible exact HK2.out _ D1.out DU.out
      | with_reducible exact HK2.out _ F1.out FU.out
      | with_reducible exact HK2.out _ G1.out GU.out
      | with_reducible exact HK2.out _ (G1.out.st3f hab _ _ _) (GU.out.st3f hub _ _ _))
    (first
      | (go_at_call 101
         with_reducible refine Calls.mono (HB.out _ (LB4.out.trans (B0.out.mono LB4.out.size))) ?_
         rintro e v1 ⟨kb, db, rfl, hkb, hrow, hb⟩
         have B1 := Lib.hid (B0.out.trans (hb.mono B0.out.size))
         have F1 := Lib.hid (X1.out.below B1.out X1.out.lt)
         have FU := Lib.hid (XU.out.below B1.out XU.out.lt)
         have RB := Lib.hid hrow
         clear hb hrow)
      | (go_at_call 98
         with_reducible refine Calls.mono (HV.out _ (LB4.out.trans (B1.out.mono LB4.out.size)) _ _ _ _ RB.out (RU.out.below B1.out RU.out.lt)) ?_
         rintro e v2 ⟨kv, rfl, hkv, hrow, hb⟩
         have B2 := Lib.hid (B1.out.trans (hb.mono B1.out.size))
         have G1 := Lib.hid (X1.out.below B2.out X1.out.lt)
         have GU := Lib.hid (XU.out.below B2.out XU.out.lt)
         have RV := Lib.hid hrow
         have YR := Lib.hid (XR.out.below B2.out XR.out.lt)
         obtain ⟨r0, r1, r2, r3, r4, r5, r6⟩ := YR.out.all
         have hkv2 := Nat.le_trans B1.out.size hkv
         clear hb hrow))
  go_wp2
  refine bodyPost_ret (v := .tuple #[.agg #[.int .i64 (W2 : Nat), .int .i64 (H2 : Nat), .slice (some ⟨kv, 0, none⟩) N2 N2], .int .i64 0]) (by simp [results, Try.results57, go_sem, r0, r1, r2, r3, r4, r5]) rfl ?_
  rw [← HN2.out] at RV ⊢
  exact fin_ref hrw (by omega) RV.out (LB4.out.trans (B2.out.mono LB4.out.size))
end Go.Proofs.Ytgmcbdnfgdmmaaa
