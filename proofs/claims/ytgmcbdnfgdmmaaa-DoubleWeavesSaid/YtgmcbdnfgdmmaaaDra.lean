/- The reference: Apart. -/
import Derived.Test.YtgmcbdnfgdmmaaaDrw
import Derived.Deep.RegionHeld3
import Derived.BigRegion
namespace Go.Proofs.Ytgmcbdnfgdmmaaa
open Go.RowKit
set_option maxRecDepth 100000
set_option linter.unusedVariables false
set_option linter.unusedSimpArgs false

/-- Three grids and an error came back. -/
def RE4 (w : World) (X Y : Int) (N : Nat) (F1 F2 F3 : Nat → Bool) (z : Int) (e : Ending) (w' : World) : Prop :=
  ∃ A1 c1 A2 c2 A3 c3, e = .returned (.tuple #[.agg #[.int .i64 X, .int .i64 Y, .slice A1 N c1], .agg #[.int .i64 X, .int .i64 Y, .slice A2 N c2], .agg #[.int .i64 X, .int .i64 Y, .slice A3 N c3], .int .i64 z]) ∧
    Holds w' w'.heap.size A1 N F1 ∧ Holds w' w'.heap.size A2 N F2 ∧ Holds w' w'.heap.size A3 N F3 ∧ Below w.heap.size w w'
theorem RE4.none {w : World} {z : Int} {F1 F2 F3 : Nat → Bool} {e : Ending} {w' : World} (h : ApN w z e w') : RE4 w 0 0 0 F1 F2 F3 z e w' :=
  ⟨Option.none, 0, Option.none, 0, Option.none, 0, h.1, Holds.none_, Holds.none_, Holds.none_, h.2⟩
/-- Of what was there, the blocks k1, k2, k3 alone may have turned. -/
structure B3 (k1 k2 k3 : Nat) (w w' : World) : Prop where
  os : w'.os = w.os
  tape : w'.tape = w.tape
  output : w'.output = w.output
  size : w.heap.size ≤ w'.heap.size
  block : ∀ b, b < w.heap.size → b ≠ k1 → b ≠ k2 → b ≠ k3 → w'.heap[b]? = w.heap[b]?
section
variable {k1 k2 k3 : Nat} {w w' w'' : World}
theorem B3.of (hb : Below w.heap.size w w') : B3 k1 k2 k3 w w' := ⟨hb.os, hb.tape, hb.output, hb.size, fun b h _ _ _ => hb.block b h⟩
theorem B3.trans (h1 : B3 k1 k2 k3 w w') (h2 : B3 k1 k2 k3 w' w'') : B3 k1 k2 k3 w w'' :=
  ⟨h2.os.trans h1.os, h2.tape.trans h1.tape, h2.output.trans h1.output, Nat.le_trans h1.size h2.size, fun b hb a1 a2 a3 => (h2.block b (Nat.lt_of_lt_of_le hb h1.size) a1 a2 a3).trans (h1.block b hb a1 a2 a3)⟩
theorem B3.b1 (h : But k1 w w') : B3 k1 k2 k3 w w' := ⟨h.os, h.tape, h.output, h.size, fun b hb a1 _ _ => h.block b hb a1⟩
theorem B3.b2 (h : But k2 w w') : B3 k1 k2 k3 w w' := ⟨h.os, h.tape, h.output, h.size, fun b hb _ a2 _ => h.block b hb a2⟩
theorem B3.b3 (h : But k3 w w') : B3 k1 k2 k3 w w' := ⟨h.os, h.tape, h.output, h.size, fun b hb _ _ a3 => h.block b hb a3⟩
theorem B3.box {g : Nat} {X Y : Int} {v : Value} (h : B3 k1 k2 k3 w w') (hx : Box w g X Y v) (a1 : g ≠ k1) (a2 : g ≠ k2) (a3 : g ≠ k3) : Box w' g X Y v := by
  unfold Box at hx ⊢
  rw [h.block g (Array.getElem?_eq_some_iff.1 hx).1 a1 a2 a3]; exact hx
theorem B3.holds {B n : Nat} {A : Option Addr} {f : Nat → Bool} (h : B3 k1 k2 k3 w w') (hx : Holds w B A n f) (a1 : B ≤ k1) (a2 : B ≤ k2) (a3 : B ≤ k3) (hw : B ≤ w.heap.size) : Holds w' B A n f := fun h0 => by
  obtain ⟨b, o, e, hlt, hc⟩ := hx h0
  exact ⟨b, o, e, hlt, fun i hi => (World.cell?_of_block (w := w) (h.block b (by omega) (by omega) (by omega) (by omega))).trans (hc i hi)⟩
theorem B3.below {w0 : World} (h : B3 k1 k2 k3 w w') (hb : Below w0.heap.size w0 w) (a1 : w0.heap.size ≤ k1) (a2 : w0.heap.size ≤ k2) (a3 : w0.heap.size ≤ k3) : Below w0.heap.size w0 w' :=
  ⟨h.os.trans hb.os, h.tape.trans hb.tape, h.output.trans hb.output, Nat.le_trans hb.size h.size, fun b hlt => (h.block b (Nat.lt_of_lt_of_le hlt hb.size) (by omega) (by omega) (by omega)).trans (hb.block b hlt)⟩
end
set_option maxHeartbeats 1600000 in
theorem rapart_err {W H : Int} {A : Option Addr} {n c : Nat} {z : Int} (hz : chk W H n = z) (hne : (z != 0) = true) (w : World) : Calls Try.prog 53 #[.agg #[.int .i64 W, .int .i64 H, .slice A n c]] w (ApN w z) := by
  have HK := Lib.hid (fun u => rchk_all W H A n c u)
  rw [hz] at HK
  have hne2 : (z == 0) = false := by rw [bne] at hne; simpa using hne
  clear hz
  have LB0 := Lib.hid (Below.refl w.heap.size w)
  have XA := Lib.hid (Box.new w W H (.slice A n c))
  have LB0 := Lib.hid (LB0.out.alloc LB0.out.size (.cells #[.int .i64 W, .int .i64 H, .slice A n c] 24))
  have XA := Lib.hid (XA.out.alloc (.cells #[.int .i64 0, .int .i64 0, .slice none 0 0] 24))
  have X1 := Box.new (w.alloc (.cells #[.int .i64 W, .int .i64 H, .slice A n c] 24)) 0 0 (.slice none 0 0)
  rw [show ((w.alloc (.cells #[.int .i64 W, .int .i64 H, .slice A n c] 24))).heap.size = w.heap.size + 1 by simp] at X1
  have X1 := Lib.hid X1
  have LB0 := Lib.hid (LB0.out.alloc LB0.out.size (.cells #[.int .i64 0, .int .i64 0, .slice none 0 0] 24))
  have XA := Lib.hid (XA.out.alloc (.cells #[.int .i64 0, .int .i64 0, .slice none 0 0] 24))
  have X1 := Lib.hid (X1.out.alloc (.cells #[.int .i64 0, .int .i64 0, .slice none 0 0] 24))
  have X2 := Box.new ((w.alloc (.cells #[.int .i64 W, .int .i64 H, .slice A n c] 24)).alloc (.cells #[.int .i64 0, .int .i64 0, .slice none 0 0] 24)) 0 0 (.slice none 0 0)
  rw [show (((w.alloc (.cells #[.int .i64 W, .int .i64 H, .slice A n c] 24)).alloc (.cells #[.int .i64 0, .int .i64 0, .slice none 0 0] 24))).heap.size = w.heap.size + 2 by simp] at X2
  have X2 := Lib.hid X2
  have LB0 := Lib.hid (LB0.out.alloc LB0.out.size (.cells #[.int .i64 0, .int .i64 0, .slice none 0 0] 24))
  have XA := Lib.hid (XA.out.alloc (.cells #[.int .i64 0, .int .i64 0, .slice none 0 0] 24))
  have X1 := Lib.hid (X1.out.alloc (.cells #[.int .i64 0, .int .i64 0, .slice none 0 0] 24))
  have X2 := Lib.hid (X2.out.alloc (.cells #[.int .i64 0, .int .i64 0, .slice none 0 0] 24))
  have X3 := Box.new (((w.alloc (.cells #[.int .i64 W, .int .i64 H, .slice A n c] 24)).alloc (.cells #[.int .i64 0, .int .i64 0, .slice none 0 0] 24)).alloc (.cells #[.int .i64 0, .int .i64 0, .slice none 0 0] 24)) 0 0 (.slice none 0 0)
  rw [show ((((w.alloc (.cells #[.int .i64 W, .int .i64 H, .slice A n c] 24)).alloc (.cells #[.int .i64 0, .int .i64 0, .slice none 0 0] 24)).alloc (.cells #[.int .i64 0, .int .i64 0, .slice none 0 0] 24))).heap.size = w.heap.size + 3 by simp] at X3
  have X3 := Lib.hid X3
  have LB0 := Lib.hid (LB0.out.alloc LB0.out.size (.cells #[.int .i64 0, .int .i64 0, .slice none 0 0] 24))
  go_enter Try.func53, Try.ntmps53
  go_upto_region 1 with (fail)
  generalize (((w.alloc (.cells #[.int .i64 W, .int .i64 H, .slice A n c] 24)).alloc (.cells #[.int .i64 0, .int .i64 0, .slice none 0 0] 24)).alloc (.cells #[.int .i64 0, .int .i64 0, .slice none 0 0] 24)).alloc (.cells #[.int .i64 0, .int .i64 0, .slice none 0 0] 24) = w0 at *
  obtain ⟨b1, hb1⟩ : ∃ z, w.heap.size + 1 = z := ⟨_, rfl⟩
  obtain ⟨b2, hb2⟩ : ∃ z, w.heap.size + 2 = z := ⟨_, rfl⟩
  obtain ⟨b3, hb3⟩ : ∃ z, w.heap.size + 3 = z := ⟨_, rfl⟩
  have hbb : w.heap.size < b1 ∧ b1 < b2 ∧ b2 < b3 := by omega
  rw [hb1] at X1
  rw [hb2] at X2
  rw [hb3] at X3
  rw [hb3, hb2, hb1]
  clear hb1 hb2 hb3
  obtain ⟨q0, q1, q2, q3, q4, q5, q6⟩ := XA.out.all
  go_wp2_with fail
  clear q0 q1 q2 q3 q4 q5 q6
  with_reducible refine Calls.mono (HK.out _) ?_
  rintro e w1 ⟨rfl, hb⟩
  have LB1 := Lib.hid (LB0.out.trans (hb.mono LB0.out.size))
  have XA := Lib.hid (XA.out.below hb XA.out.lt)
  have X1 := Lib.hid (X1.out.below hb X1.out.lt)
  have X2 := Lib.hid (X2.out.below hb X2.out.lt)
  have X3 := Lib.hid (X3.out.below hb X3.out.lt)
  clear hb LB0 
  obtain ⟨q0, q1, q2, q3, q4, q5, q6⟩ := XA.out.all
  go_wp2_with fail
  clear q0 q1 q2 q3 q4 q5 q6
  with_reducible refine Calls.mono (HK.out _) ?_
  rintro e w2 ⟨rfl, hb⟩
  have LB2 := Lib.hid (LB1.out.trans (hb.mono LB1.out.size))
  have XA := Lib.hid (XA.out.below hb XA.out.lt)
  have X1 := Lib.hid (X1.out.below hb X1.out.lt)
  have X2 := Lib.hid (X2.out.below hb X2.out.lt)
  have X3 := Lib.hid (X3.out.below hb X3.out.lt)
  clear hb LB1 
  obtain ⟨q0, q1, q2, q3, q4, q5, q6⟩ := X1.out.all
  obtain ⟨q7, q8, q9, q10, q11, q12, q13⟩ := X2.out.all
  obtain ⟨q14, q15, q16, q17, q18, q19, q20⟩ := X3.out.all
  go_wp2
  refine bodyPost_ret (v := .tuple #[.agg #[.int .i64 0, .int .i64 0, .slice none 0 0], .agg #[.int .i64 0, .int .i64 0, .slice none 0 0], .agg #[.int .i64 0, .int .i64 0, .slice none 0 0], .int .i64 z]) (by simp [results, Try.results53, go_sem, q0, q1, q2, q3, q4, q5, q6, q7, q8, q9, q10, q11, q12, q13, q14, q15, q16, q17, q18, q19, q20]) rfl ?_
  refine ⟨rfl, ?_⟩
  exact (bel_st3 (bel_st3 (bel_st3 LB2.out (g := b1) (by omega) _ _ _) (g := b2) (by omega) _ _ _) (g := b3) (by omega) _ _ _)
set_option maxHeartbeats 1600000 in
theorem rapart_odd {W H : Nat} {A : Option Addr} {c : Nat} (hW0 : 1 ≤ W) (hW : W ≤ 64) (hH0 : 1 ≤ H) (hH : H ≤ 64) (ho : W % 2 ≠ 0 ∨ H % 2 ≠ 0) (w : World) : Calls Try.prog 53 #[.agg #[.int .i64 (W : Nat), .int .i64 (H : Nat), .slice A (W * H) c]] w (ApN w 6) := by
  have HK := Lib.hid (fun u => rchk_all (W : Nat) (H : Nat) A (W * H) c u)
  rw [chk_zero hW0 hW hH0 hH] at HK
  have d1 := tmod2 W
  have d2 := tmod2 H
  obtain ⟨wm, hwm⟩ : ∃ z, W % 2 = z := ⟨_, rfl⟩
  obtain ⟨hm, hhm⟩ : ∃ z, H % 2 = z := ⟨_, rfl⟩
  rw [hwm] at d1 ho
  rw [hhm] at d2 ho
  clear hwm hhm
  generalize W * H = M at *
  have LB0 := Lib.hid (Below.refl w.heap.size w)
  have XA := Lib.hid (Box.new w (W : Nat) (H : Nat) (.slice A M c))
  have LB0 := Lib.hid (LB0.out.alloc LB0.out.size (.cells #[.int .i64 (W : Nat), .int .i64 (H : Nat), .slice A M c] 24))
  have XA := Lib.hid (XA.out.alloc (.cells #[.int .i64 0, .int .i64 0, .slice none 0 0] 24))
  have X1 := Box.new (w.alloc (.cells #[.int .i64 (W : Nat), .int .i64 (H : Nat), .slice A M c] 24)) 0 0 (.slice none 0 0)
  rw [show ((w.alloc (.cells #[.int .i64 (W : Nat), .int .i64 (H : Nat), .slice A M c] 24))).heap.size = w.heap.size + 1 by simp] at X1
  have X1 := Lib.hid X1
  have LB0 := Lib.hid (LB0.out.alloc LB0.out.size (.cells #[.int .i64 0, .int .i64 0, .slice none 0 0] 24))
  have XA := Lib.hid (XA.out.alloc (.cells #[.int .i64 0, .int .i64 0, .slice none 0 0] 24))
  have X1 := Lib.hid (X1.out.alloc (.cells #[.int .i64 0, .int .i64 0, .slice none 0 0] 24))
  have X2 := Box.new ((w.alloc (.cells #[.int .i64 (W : Nat), .int .i64 (H : Nat), .slice A M c] 24)).alloc (.cells #[.int .i64 0, .int .i64 0, .slice none 0 0] 24)) 0 0 (.slice none 0 0)
  rw [show (((w.alloc (.cells #[.int .i64 (W : Nat), .int .i64 (H : Nat), .slice A M c] 24)).alloc (.cells #[.int .i64 0, .int .i64 0, .slice none 0 0] 24))).heap.size = w.heap.size + 2 by simp] at X2
  have X2 := Lib.hid X2
  have LB0 := Lib.hid (LB0.out.alloc LB0.out.size (.cells #[.int .i64 0, .int .i64 0, .slice none 0 0] 24))
  have XA := Lib.hid (XA.out.alloc (.cells #[.int .i64 0, .int .i64 0, .slice none 0 0] 24))
  have X1 := Lib.hid (X1.out.alloc (.cells #[.int .i64 0, .int .i64 0, .slice none 0 0] 24))
  have X2 := Lib.hid (X2.out.alloc (.cells #[.int .i64 0, .int .i64 0, .slice none 0 0] 24))
  have X3 := Box.new (((w.alloc (.cells #[.int .i64 (W : Nat), .int .i64 (H : Nat), .slice A M c] 24)).alloc (.cells #[.int .i64 0, .int .i64 0, .slice none 0 0] 24)).alloc (.cells #[.int .i64 0, .int .i64 0, .slice none 0 0] 24)) 0 0 (.slice none 0 0)
  rw [show ((((w.alloc (.cells #[.int .i64 (W : Nat), .int .i64 (H : Nat), .slice A M c] 24)).alloc (.cells #[.int .i64 0, .int .i64 0, .slice none 0 0] 24)).alloc (.cells #[.int .i64 0, .int .i64 0, .slice none 0 0] 24))).heap.size = w.heap.size + 3 by simp] at X3
  have X3 := Lib.hid X3
  have LB0 := Lib.hid (LB0.out.alloc LB0.out.size (.cells #[.int .i64 0, .int .i64 0, .slice none 0 0] 24))
  go_enter Try.func53, Try.ntmps53
  go_upto_region 1 with (fail)
  generalize (((w.alloc (.cells #[.int .i64 (W : Nat), .int .i64 (H : Nat), .slice A M c] 24)).alloc (.cells #[.int .i64 0, .int .i64 0, .slice none 0 0] 24)).alloc (.cells #[.int .i64 0, .int .i64 0, .slice none 0 0] 24)).alloc (.cells #[.int .i64 0, .int .i64 0, .slice none 0 0] 24) = w0 at *
  obtain ⟨b1, hb1⟩ : ∃ z, w.heap.size + 1 = z := ⟨_, rfl⟩
  obtain ⟨b2, hb2⟩ : ∃ z, w.heap.size + 2 = z := ⟨_, rfl⟩
  obtain ⟨b3, hb3⟩ : ∃ z, w.heap.size + 3 = z := ⟨_, rfl⟩
  have hbb : w.heap.size < b1 ∧ b1 < b2 ∧ b2 < b3 := by omega
  rw [hb1] at X1
  rw [hb2] at X2
  rw [hb3] at X3
  rw [hb3, hb2, hb1]
  clear hb1 hb2 hb3
  obtain ⟨q0, q1, q2, q3, q4, q5, q6⟩ := XA.out.all
  go_wp2_with fail
  clear q0 q1 q2 q3 q4 q5 q6
  with_reducible refine Calls.mono (HK.out _) ?_
  rintro e w1 ⟨rfl, hb⟩
  have LB1 := Lib.hid (LB0.out.trans (hb.mono LB0.out.size))
  have XA := Lib.hid (XA.out.below hb XA.out.lt)
  have X1 := Lib.hid (X1.out.below hb X1.out.lt)
  have X2 := Lib.hid (X2.out.below hb X2.out.lt)
  have X3 := Lib.hid (X3.out.below hb X3.out.lt)
  clear hb LB0 
  obtain ⟨r0, r1, r2, r3, r4, r5, r6⟩ := XA.out.all
  by_cases hw : wm = 0
  · have e1 : ((wm : Int) != 0) = false := by rw [hw]; rfl
    have e2 : ((hm : Int) != 0) = true := by rw [bne_iff_ne]; omega
    have e3 : ((wm : Int) == 0) = true := by rw [hw]; rfl
    have e4 : ((hm : Int) == 0) = false := by rw [beq_eq_false_iff_ne]; omega
    have hh0 : ¬ hm = 0 := by omega
    clear ho
    obtain ⟨q0, q1, q2, q3, q4, q5, q6⟩ := X1.out.all
    obtain ⟨q7, q8, q9, q10, q11, q12, q13⟩ := X2.out.all
    obtain ⟨q14, q15, q16, q17, q18, q19, q20⟩ := X3.out.all
    go_wp2
    refine bodyPost_ret (v := .tuple #[.agg #[.int .i64 0, .int .i64 0, .slice none 0 0], .agg #[.int .i64 0, .int .i64 0, .slice none 0 0], .agg #[.int .i64 0, .int .i64 0, .slice none 0 0], .int .i64 6]) (by simp [results, Try.results53, go_sem, q0, q1, q2, q3, q4, q5, q6, q7, q8, q9, q10, q11, q12, q13, q14, q15, q16, q17, q18, q19, q20]) rfl ?_
    refine ⟨rfl, ?_⟩
    exact (bel_st3 (bel_st3 (bel_st3 LB1.out (g := b1) (by omega) _ _ _) (g := b2) (by omega) _ _ _) (g := b3) (by omega) _ _ _)
  · have e1 : ((wm : Int) != 0) = true := by rw [bne_iff_ne]; omega
    have e3 : ((wm : Int) == 0) = false := by rw [beq_eq_false_iff_ne]; omega
    clear ho
    obtain ⟨q0, q1, q2, q3, q4, q5, q6⟩ := X1.out.all
    obtain ⟨q7, q8, q9, q10, q11, q12, q13⟩ := X2.out.all
    obtain ⟨q14, q15, q16, q17, q18, q19, q20⟩ := X3.out.all
    go_wp2
    refine bodyPost_ret (v := .tuple #[.agg #[.int .i64 0, .int .i64 0, .slice none 0 0], .agg #[.int .i64 0, .int .i64 0, .slice none 0 0], .agg #[.int .i64 0, .int .i64 0, .slice none 0 0], .int .i64 6]) (by simp [results, Try.results53, go_sem, q0, q1, q2, q3, q4, q5, q6, q7, q8, q9, q10, q11, q12, q13, q14, q15, q16, q17, q18, q19, q20]) rfl ?_
    refine ⟨rfl, ?_⟩
    exact (bel_st3 (bel_st3 (bel_st3 LB1.out (g := b1) (by omega) _ _ _) (g := b2) (by omega) _ _ _) (g := b3) (by omega) _ _ _)
set_option maxHeartbeats 12800000 in
theorem rapart_no (P Q : Nat) {A : Option Addr} {c : Nat} {g : Nat → Bool} (hP0 : 1 ≤ P) (hP : P ≤ 32) (hQ0 : 1 ≤ Q) (hQ : Q ≤ 32) (w : World) (hg : Holds w w.heap.size A (2 * P * (2 * Q)) g) (hD : isD P Q g = false) :
    Calls Try.prog 53 #[.agg #[.int .i64 ((2 * P : Nat) : Int), .int .i64 ((2 * Q : Nat) : Int), .slice A (2 * P * (2 * Q)) c]] w (ApN w 6) := by
  have hN : 2 * P * (2 * Q) ≤ 4096 := Nat.mul_le_mul (show 2 * P ≤ 64 by omega) (show 2 * Q ≤ 64 by omega)
  have HK := Lib.hid (fun u => rchk_all ((2 * P : Nat) : Int) ((2 * Q : Nat) : Int) A (2 * P * (2 * Q)) c u)
  rw [chk_zero (W := 2 * P) (H := 2 * Q) (by omega) (by omega) (by omega) (by omega)] at HK
  have d1 : ((2 * P : Nat) : Int).tmod 2 = 0 := by rw [tmod2]; omega
  have d2 : ((2 * Q : Nat) : Int).tmod 2 = 0 := by rw [tmod2]; omega
  have d3 : ((2 * P : Nat) : Int).tdiv 2 = (P : Int) := by rw [tdiv2]; omega
  have d4 : ((2 * Q : Nat) : Int).tdiv 2 = (Q : Int) := by rw [tdiv2]; omega
  have HZ := Lib.hid (fun u => zero_int (P : Int) (Q : Int) P Q rfl rfl (by omega) (by omega) u)
  have HA := Lib.hid (fun (u : World) (x y : Nat) (h : Holds u w.heap.size A (2 * P * (2 * Q)) g) (hs : w.heap.size ≤ u.heap.size) (hx : x < 2 * P) (hy : y < 2 * Q) => at_nat (2 * P) (2 * Q) A c (x : Int) (y : Int) g u w.heap.size h hs (by omega) (by omega) x y rfl rfl hx hy)
  have HSX := Lib.hid (fun k (u : World) (i j : Nat) (q : Bool) (R : Nat → Bool) (hr : Row u k (P * Q) R) (hi : i < P) (hj : j < Q) => set_nat P Q k (P * Q) (i : Int) (j : Int) q R u hr (by omega) (by omega) i j rfl rfl hi hj)
  have HV := Lib.hid (fun u k1 k2 k3 (h1 : Row u k1 (P * Q) (e2f P g 0 0)) (h2 : Row u k2 (P * Q) (e2f P g 1 1)) (h3 : Row u k3 (P * Q) (e2f P g 0 1)) => woven_n P Q (some ⟨k1, 0, none⟩) (some ⟨k2, 0, none⟩) (some ⟨k3, 0, none⟩) (P * Q) (P * Q) (P * Q) _ _ _ hP0 hP hQ0 hQ u (h1.holds h1.lt) (h2.holds h2.lt) (h3.holds h3.lt))
  have HSM := Lib.hid (fun u k d (hs : Holds u u.heap.size A (2 * P * (2 * Q)) g) (h : Row u k (2 * P * (2 * Q)) (dbl P (e2f P g 0 0) (e2f P g 1 1) (e2f P g 0 1))) => (rsame_loop ((2 * P : Nat) : Int) ((2 * Q : Nat) : Int) ((2 * P : Nat) : Int) ((2 * Q : Nat) : Int) (some ⟨k, 0, none⟩) A (2 * P * (2 * Q)) d c _ g u (by omega) rfl rfl (h.holds h.lt) hs).mono fun e w' h => (⟨by rw [h.1]; congr 2, h.2⟩ : e = .returned (.bool (isD P Q g)) ∧ Below u.heap.size u w'))
  rw [hD] at HSM
  have HPL := Lib.hid (fun x y j (hx : x < P) (hj : j < P * Q) => plain_at (W := P) (H := Q) (x := x) (y := y) hx hj)
  have HDV := Lib.hid (fun j (hj : j < P * Q) => div_bd (W := P) (H := Q) hj)
  have HMD := Lib.hid (fun j => show j % P < P from Nat.mod_lt _ (by omega))
  obtain ⟨G1, hG1⟩ : ∃ f : Nat → Nat → Bool, f = fun x y => g (2 * y * (2 * P) + 2 * x) := ⟨_, rfl⟩
  obtain ⟨G2, hG2⟩ : ∃ f : Nat → Nat → Bool, f = fun x y => g ((2 * y + 1) * (2 * P) + (2 * x + 1)) := ⟨_, rfl⟩
  obtain ⟨G3, hG3⟩ : ∃ f : Nat → Nat → Bool, f = fun x y => g ((2 * y + 1) * (2 * P) + 2 * x) := ⟨_, rfl⟩
  have V1 := Lib.hid (fun x y => show g (2 * y * (2 * P) + 2 * x) = G1 x y by rw [hG1])
  have V2 := Lib.hid (fun x y => show g ((2 * y + 1) * (2 * P) + (2 * x + 1)) = G2 x y by rw [hG2])
  have V3 := Lib.hid (fun x y => show g ((2 * y + 1) * (2 * P) + 2 * x) = G3 x y by rw [hG3])
  have U1 := Lib.hid (fun j => show G1 (j % P) (j / P) = e2f P g 0 0 j by rw [hG1]; rfl)
  have U2 := Lib.hid (fun j => show G2 (j % P) (j / P) = e2f P g 1 1 j by rw [hG2]; rfl)
  have U3 := Lib.hid (fun j => show G3 (j % P) (j / P) = e2f P g 0 1 j by rw [hG3]; rfl)
  obtain ⟨F1, hF1⟩ : ∃ f, e2f P g 0 0 = f := ⟨_, rfl⟩
  obtain ⟨F2, hF2⟩ : ∃ f, e2f P g 1 1 = f := ⟨_, rfl⟩
  obtain ⟨F3, hF3⟩ : ∃ f, e2f P g 0 1 = f := ⟨_, rfl⟩
  simp only [hF1, hF2, hF3] at HV HSM U1 U2 U3
  obtain ⟨FD, hFD⟩ : ∃ f, dbl P F1 F2 F3 = f := ⟨_, rfl⟩
  simp only [hFD] at HV HSM
  obtain ⟨W2, hW2⟩ : ∃ z, 2 * P = z := ⟨_, rfl⟩
  obtain ⟨H2, hH2⟩ : ∃ z, 2 * Q = z := ⟨_, rfl⟩
  have hPW := hW2
  have hQH := hH2
  have HG := Lib.hid hg
  simp only [hW2, hH2] at HK d1 d2 d3 d4 HA HV HSM V1 V2 V3 hN HG ⊢
  obtain ⟨N2, hN2⟩ : ∃ z, W2 * H2 = z := ⟨_, rfl⟩
  simp only [hN2] at HK HA HV HSM hN HG ⊢
  obtain ⟨M, hMe⟩ : ∃ z, P * Q = z := ⟨_, rfl⟩
  have HME := Lib.hid hMe
  simp only [hMe] at HZ HSX HV HPL HDV
  clear hg hG1 hG2 hG3 hF1 hF2 hF3 hFD hW2 hH2 hN2 hMe hD
  have LB0 := Lib.hid (Below.refl w.heap.size w)
  have XA := Lib.hid (Box.new w (W2 : Nat) (H2 : Nat) (.slice A N2 c))
  have LB0 := Lib.hid (LB0.out.alloc LB0.out.size (.cells #[.int .i64 (W2 : Nat), .int .i64 (H2 : Nat), .slice A N2 c] 24))
  have XA := Lib.hid (XA.out.alloc (.cells #[.int .i64 0, .int .i64 0, .slice none 0 0] 24))
  have X1 := Box.new (w.alloc (.cells #[.int .i64 (W2 : Nat), .int .i64 (H2 : Nat), .slice A N2 c] 24)) 0 0 (.slice none 0 0)
  rw [show ((w.alloc (.cells #[.int .i64 (W2 : Nat), .int .i64 (H2 : Nat), .slice A N2 c] 24))).heap.size = w.heap.size + 1 by simp] at X1
  have X1 := Lib.hid X1
  have LB0 := Lib.hid (LB0.out.alloc LB0.out.size (.cells #[.int .i64 0, .int .i64 0, .slice none 0 0] 24))
  have XA := Lib.hid (XA.out.alloc (.cells #[.int .i64 0, .int .i64 0, .slice none 0 0] 24))
  have X1 := Lib.hid (X1.out.alloc (.cells #[.int .i64 0, .int .i64 0, .slice none 0 0] 24))
  have X2 := Box.new ((w.alloc (.cells #[.int .i64 (W2 : Nat), .int .i64 (H2 : Nat), .slice A N2 c] 24)).alloc (.cells #[.int .i64 0, .int .i64 0, .slice none 0 0] 24)) 0 0 (.slice none 0 0)
  rw [show (((w.alloc (.cells #[.int .i64 (W2 : Nat), .int .i64 (H2 : Nat), .slice A N2 c] 24)).alloc (.cells #[.int .i64 0, .int .i64 0, .slice none 0 0] 24))).heap.size = w.heap.size + 2 by simp] at X2
  have X2 := Lib.hid X2
  have LB0 := Lib.hid (LB0.out.alloc LB0.out.size (.cells #[.int .i64 0, .int .i64 0, .slice none 0 0] 24))
  have XA := Lib.hid (XA.out.alloc (.cells #[.int .i64 0, .int .i64 0, .slice none 0 0] 24))
  have X1 := Lib.hid (X1.out.alloc (.cells #[.int .i64 0, .int .i64 0, .slice none 0 0] 24))
  have X2 := Lib.hid (X2.out.alloc (.cells #[.int .i64 0, .int .i64 0, .slice none 0 0] 24))
  have X3 := Box.new (((w.alloc (.cells #[.int .i64 (W2 : Nat), .int .i64 (H2 : Nat), .slice A N2 c] 24)).alloc (.cells #[.int .i64 0, .int .i64 0, .slice none 0 0] 24)).alloc (.cells #[.int .i64 0, .int .i64 0, .slice none 0 0] 24)) 0 0 (.slice none 0 0)
  rw [show ((((w.alloc (.cells #[.int .i64 (W2 : Nat), .int .i64 (H2 : Nat), .slice A N2 c] 24)).alloc (.cells #[.int .i64 0, .int .i64 0, .slice none 0 0] 24)).alloc (.cells #[.int .i64 0, .int .i64 0, .slice none 0 0] 24))).heap.size = w.heap.size + 3 by simp] at X3
  have X3 := Lib.hid X3
  have LB0 := Lib.hid (LB0.out.alloc LB0.out.size (.cells #[.int .i64 0, .int .i64 0, .slice none 0 0] 24))
  go_enter Try.func53, Try.ntmps53
  go_upto_region 1 with (fail)
  generalize (((w.alloc (.cells #[.int .i64 (W2 : Nat), .int .i64 (H2 : Nat), .slice A N2 c] 24)).alloc (.cells #[.int .i64 0, .int .i64 0, .slice none 0 0] 24)).alloc (.cells #[.int .i64 0, .int .i64 0, .slice none 0 0] 24)).alloc (.cells #[.int .i64 0, .int .i64 0, .slice none 0 0] 24) = w0 at *
  obtain ⟨b1, hb1⟩ : ∃ z, w.heap.size + 1 = z := ⟨_, rfl⟩
  obtain ⟨b2, hb2⟩ : ∃ z, w.heap.size + 2 = z := ⟨_, rfl⟩
  obtain ⟨b3, hb3⟩ : ∃ z, w.heap.size + 3 = z := ⟨_, rfl⟩
  have hbb : w.heap.size < b1 ∧ b1 < b2 ∧ b2 < b3 := by omega
  rw [hb1] at X1
  rw [hb2] at X2
  rw [hb3] at X3
  rw [hb3, hb2, hb1]
  clear hb1 hb2 hb3
  obtain ⟨q0, q1, q2, q3, q4, q5, q6⟩ := XA.out.all
  go_wp2_with fail
  clear q0 q1 q2 q3 q4 q5 q6
  with_reducible refine Calls.mono (HK.out _) ?_
  rintro e w1 ⟨rfl, hb⟩
  have LB1 := Lib.hid (LB0.out.trans (hb.mono LB0.out.size))
  have XA := Lib.hid (XA.out.below hb XA.out.lt)
  have X1 := Lib.hid (X1.out.below hb X1.out.lt)
  have X2 := Lib.hid (X2.out.below hb X2.out.lt)
  have X3 := Lib.hid (X3.out.below hb X3.out.lt)
  clear hb LB0 
  obtain ⟨q0, q1, q2, q3, q4, q5, q6⟩ := XA.out.all
  go_upto_region 5 with (fail)
  go_region
  go_wp2_with fail
  clear q0 q1 q2 q3 q4 q5 q6
  have hb := (Below.refl w1.heap.size w1).drew
  have LB2 := Lib.hid (LB1.out.trans (hb.mono LB1.out.size))
  have XA := Lib.hid (XA.out.below hb XA.out.lt)
  have X1 := Lib.hid (X1.out.below hb X1.out.lt)
  have X2 := Lib.hid (X2.out.below hb X2.out.lt)
  have X3 := Lib.hid (X3.out.below hb X3.out.lt)
  clear hb LB1
  generalize w1.drew = w2 at *
  have hws := LB2.out.size
  with_reducible refine Calls.mono (HZ.out _) ?_
  rintro e w3 ⟨k1, rfl, hk1, hrow, hb⟩
  have LB3 := Lib.hid (LB2.out.trans (hb.mono LB2.out.size))
  have XA := Lib.hid (XA.out.below hb XA.out.lt)
  have X1 := Lib.hid (X1.out.below hb X1.out.lt)
  have X2 := Lib.hid (X2.out.below hb X2.out.lt)
  have X3 := Lib.hid (X3.out.below hb X3.out.lt)
  have R1 := Lib.hid hrow
  clear hb LB2 hrow
  simp only [HME.out] at R1 ⊢
  have s1 := R1.out.lt
  go_wp2_with fail
  with_reducible refine Calls.mono (HZ.out _) ?_
  rintro e w4 ⟨k2, rfl, hk2, hrow, hb⟩
  have LB4 := Lib.hid (LB3.out.trans (hb.mono LB3.out.size))
  have XA := Lib.hid (XA.out.below hb XA.out.lt)
  have X1 := Lib.hid (X1.out.below hb X1.out.lt)
  have X2 := Lib.hid (X2.out.below hb X2.out.lt)
  have X3 := Lib.hid (X3.out.below hb X3.out.lt)
  have R1 := Lib.hid (R1.out.below hb R1.out.lt)
  have R2 := Lib.hid hrow
  clear hb LB3 hrow
  simp only [HME.out] at R2 ⊢
  have s2 := R2.out.lt
  go_wp2_with fail
  with_reducible refine Calls.mono (HZ.out _) ?_
  rintro e w5 ⟨k3, rfl, hk3, hrow, hb⟩
  have LB5 := Lib.hid (LB4.out.trans (hb.mono LB4.out.size))
  have XA := Lib.hid (XA.out.below hb XA.out.lt)
  have X1 := Lib.hid (X1.out.below hb X1.out.lt)
  have X2 := Lib.hid (X2.out.below hb X2.out.lt)
  have X3 := Lib.hid (X3.out.below hb X3.out.lt)
  have R1 := Lib.hid (R1.out.below hb R1.out.lt)
  have R2 := Lib.hid (R2.out.below hb R2.out.lt)
  have R3 := Lib.hid hrow
  clear hb LB4 hrow
  simp only [HME.out] at R3 ⊢
  have hb := ((((Below.refl w5.heap.size w5).alloc (by simp; try omega) (.cells #[.int .i64 (P : Nat), .int .i64 (Q : Nat), .slice (some ⟨k1, 0, none⟩) M M] 24)).alloc (by simp; try omega) (.cells #[.int .i64 (P : Nat), .int .i64 (Q : Nat), .slice (some ⟨k2, 0, none⟩) M M] 24)).alloc (by simp; try omega) (.cells #[.int .i64 (P : Nat), .int .i64 (Q : Nat), .slice (some ⟨k3, 0, none⟩) M M] 24))
  have LB6 := Lib.hid (LB5.out.trans (hb.mono LB5.out.size))
  have XA := Lib.hid (XA.out.below hb XA.out.lt)
  have X1 := Lib.hid (X1.out.below hb X1.out.lt)
  have X2 := Lib.hid (X2.out.below hb X2.out.lt)
  have X3 := Lib.hid (X3.out.below hb X3.out.lt)
  have R1 := Lib.hid (R1.out.below hb R1.out.lt)
  have R2 := Lib.hid (R2.out.below hb R2.out.lt)
  have R3 := Lib.hid (R3.out.below hb R3.out.lt)
  have Y1 := Box.new w5 (P : Nat) (Q : Nat) (.slice (some ⟨k1, 0, none⟩) M M)
  have Y1 := Lib.hid Y1
  have Y1 := Lib.hid (Y1.out.alloc (.cells #[.int .i64 (P : Nat), .int .i64 (Q : Nat), .slice (some ⟨k2, 0, none⟩) M M] 24))
  have Y1 := Lib.hid (Y1.out.alloc (.cells #[.int .i64 (P : Nat), .int .i64 (Q : Nat), .slice (some ⟨k3, 0, none⟩) M M] 24))
  have Y2 := Box.new (w5.alloc (.cells #[.int .i64 (P : Nat), .int .i64 (Q : Nat), .slice (some ⟨k1, 0, none⟩) M M] 24)) (P : Nat) (Q : Nat) (.slice (some ⟨k2, 0, none⟩) M M)
  rw [show (w5.alloc (.cells #[.int .i64 (P : Nat), .int .i64 (Q : Nat), .slice (some ⟨k1, 0, none⟩) M M] 24)).heap.size = w5.heap.size + 1 by simp] at Y2
  have Y2 := Lib.hid Y2
  have Y2 := Lib.hid (Y2.out.alloc (.cells #[.int .i64 (P : Nat), .int .i64 (Q : Nat), .slice (some ⟨k3, 0, none⟩) M M] 24))
  have Y3 := Box.new ((w5.alloc (.cells #[.int .i64 (P : Nat), .int .i64 (Q : Nat), .slice (some ⟨k1, 0, none⟩) M M] 24)).alloc (.cells #[.int .i64 (P : Nat), .int .i64 (Q : Nat), .slice (some ⟨k2, 0, none⟩) M M] 24)) (P : Nat) (Q : Nat) (.slice (some ⟨k3, 0, none⟩) M M)
  rw [show ((w5.alloc (.cells #[.int .i64 (P : Nat), .int .i64 (Q : Nat), .slice (some ⟨k1, 0, none⟩) M M] 24)).alloc (.cells #[.int .i64 (P : Nat), .int .i64 (Q : Nat), .slice (some ⟨k2, 0, none⟩) M M] 24)).heap.size = w5.heap.size + 1 + 1 by simp] at Y3
  have Y3 := Lib.hid Y3
  clear hb LB5
  go_upto_region 7 with (fail)
  obtain ⟨o3, ho3⟩ : ∃ z, w5.heap.size + 1 + 1 = z := ⟨_, rfl⟩
  rw [ho3] at Y3
  try rw [ho3]
  obtain ⟨o2, ho2⟩ : ∃ z, w5.heap.size + 1 = z := ⟨_, rfl⟩
  rw [ho2] at Y2
  try rw [ho2]
  obtain ⟨o1, ho1⟩ : ∃ z, w5.heap.size = z := ⟨_, rfl⟩
  rw [ho1] at Y1
  try rw [ho1]
  clear ho1 ho2 ho3
  generalize ((w5.alloc (.cells #[.int .i64 (P : Nat), .int .i64 (Q : Nat), .slice (some ⟨k1, 0, none⟩) M M] 24)).alloc (.cells #[.int .i64 (P : Nat), .int .i64 (Q : Nat), .slice (some ⟨k2, 0, none⟩) M M] 24)).alloc (.cells #[.int .i64 (P : Nat), .int .i64 (Q : Nat), .slice (some ⟨k3, 0, none⟩) M M] 24) = w6 at *
  have eY11 : o1 ≠ k1 := fun h => R1.out.ne_box Y1.out h.symm
  have eY12 : o1 ≠ k2 := fun h => R2.out.ne_box Y1.out h.symm
  have eY13 : o1 ≠ k3 := fun h => R3.out.ne_box Y1.out h.symm
  have eY21 : o2 ≠ k1 := fun h => R1.out.ne_box Y2.out h.symm
  have eY22 : o2 ≠ k2 := fun h => R2.out.ne_box Y2.out h.symm
  have eY23 : o2 ≠ k3 := fun h => R3.out.ne_box Y2.out h.symm
  have eY31 : o3 ≠ k1 := fun h => R1.out.ne_box Y3.out h.symm
  have eY32 : o3 ≠ k2 := fun h => R2.out.ne_box Y3.out h.symm
  have eY33 : o3 ≠ k3 := fun h => R3.out.ne_box Y3.out h.symm
  have eXA1 : w.heap.size ≠ k1 := fun h => R1.out.ne_box XA.out h.symm
  have eXA2 : w.heap.size ≠ k2 := fun h => R2.out.ne_box XA.out h.symm
  have eXA3 : w.heap.size ≠ k3 := fun h => R3.out.ne_box XA.out h.symm
  have eX11 : b1 ≠ k1 := fun h => R1.out.ne_box X1.out h.symm
  have eX12 : b1 ≠ k2 := fun h => R2.out.ne_box X1.out h.symm
  have eX13 : b1 ≠ k3 := fun h => R3.out.ne_box X1.out h.symm
  have eX21 : b2 ≠ k1 := fun h => R1.out.ne_box X2.out h.symm
  have eX22 : b2 ≠ k2 := fun h => R2.out.ne_box X2.out h.symm
  have eX23 : b2 ≠ k3 := fun h => R3.out.ne_box X2.out h.symm
  have eX31 : b3 ≠ k1 := fun h => R1.out.ne_box X3.out h.symm
  have eX32 : b3 ≠ k2 := fun h => R2.out.ne_box X3.out h.symm
  have eX33 : b3 ≠ k3 := fun h => R3.out.ne_box X3.out h.symm
  have ob11 : o1 ≠ b1 := by intro h; have e1 := Y1.out; have e2 := X1.out; rw [h] at e1; unfold Box at e1 e2; rw [e1] at e2; cases e2
  have bo11 : b1 ≠ o1 := fun h => ob11 h.symm
  have ob12 : o1 ≠ b2 := by intro h; have e1 := Y1.out; have e2 := X2.out; rw [h] at e1; unfold Box at e1 e2; rw [e1] at e2; cases e2
  have bo21 : b2 ≠ o1 := fun h => ob12 h.symm
  have ob13 : o1 ≠ b3 := by intro h; have e1 := Y1.out; have e2 := X3.out; rw [h] at e1; unfold Box at e1 e2; rw [e1] at e2; cases e2
  have bo31 : b3 ≠ o1 := fun h => ob13 h.symm
  have ob21 : o2 ≠ b1 := by intro h; have e1 := Y2.out; have e2 := X1.out; rw [h] at e1; unfold Box at e1 e2; rw [e1] at e2; cases e2
  have bo12 : b1 ≠ o2 := fun h => ob21 h.symm
  have ob22 : o2 ≠ b2 := by intro h; have e1 := Y2.out; have e2 := X2.out; rw [h] at e1; unfold Box at e1 e2; rw [e1] at e2; cases e2
  have bo22 : b2 ≠ o2 := fun h => ob22 h.symm
  have ob23 : o2 ≠ b3 := by intro h; have e1 := Y2.out; have e2 := X3.out; rw [h] at e1; unfold Box at e1 e2; rw [e1] at e2; cases e2
  have bo32 : b3 ≠ o2 := fun h => ob23 h.symm
  have ob31 : o3 ≠ b1 := by intro h; have e1 := Y3.out; have e2 := X1.out; rw [h] at e1; unfold Box at e1 e2; rw [e1] at e2; cases e2
  have bo13 : b1 ≠ o3 := fun h => ob31 h.symm
  have ob32 : o3 ≠ b2 := by intro h; have e1 := Y3.out; have e2 := X2.out; rw [h] at e1; unfold Box at e1 e2; rw [e1] at e2; cases e2
  have bo23 : b2 ≠ o3 := fun h => ob32 h.symm
  have ob33 : o3 ≠ b3 := by intro h; have e1 := Y3.out; have e2 := X3.out; rw [h] at e1; unfold Box at e1 e2; rw [e1] at e2; cases e2
  have bo33 : b3 ≠ o3 := fun h => ob33 h.symm
  have k12 : k1 ≠ k2 := by omega
  have k13 : k1 ≠ k3 := by omega
  have k23 : k2 ≠ k3 := by omega
  rw [← cp_zero (· % P) (· / P) G1] at R1
  have lk1 : w.heap.size ≤ k1 := by omega
  rw [← cp_zero (· % P) (· / P) G2] at R2
  have lk2 : w.heap.size ≤ k2 := by omega
  rw [← cp_zero (· % P) (· / P) G3] at R3
  have lk3 : w.heap.size ≤ k3 := by omega
  go_wp2
  go_loopw [11] (fun i wr => ∃ x : Nat, x ≤ P ∧ i = .int .i64 x ∧ Hid (Row wr k1 M (cp (· % P) (· / P) G1 x 0)) ∧ Hid (Row wr k2 M (cp (· % P) (· / P) G2 x 0)) ∧ Hid (Row wr k3 M (cp (· % P) (· / P) G3 x 0)) ∧ Hid (B3 k1 k2 k3 w6 wr)) (fun i _ => P - (intOf i).toNat)
  case atStart => exact ⟨0, Nat.zero_le _, rfl, R1, R2, R3, Lib.hid (B3.of (Below.refl _ _))⟩
  case round =>
    obtain ⟨x, hx, rfl, T1, T2, T3, HU⟩ := hrel
    obtain ⟨wa, rfl⟩ : ∃ wa : World, wa = wr := ⟨_, rfl⟩
    clear R1 R2 R3
    by_cases hlt : x < P
    · have y1 : (x : Int) < (P : Int) := by omega
      go_wp2
      go_loopw [12] (fun i wr => ∃ y : Nat, y ≤ Q ∧ i = .int .i64 y ∧ Hid (Row wr k1 M (cp (· % P) (· / P) G1 x y)) ∧ Hid (Row wr k2 M (cp (· % P) (· / P) G2 x y)) ∧ Hid (Row wr k3 M (cp (· % P) (· / P) G3 x y)) ∧ Hid (B3 k1 k2 k3 w6 wr)) (fun i _ => Q - (intOf i).toNat)
      case atStart => exact ⟨0, Nat.zero_le _, rfl, T1, T2, T3, HU⟩
      case round =>
        obtain ⟨y, hy, rfl, T1, T2, T3, HU1⟩ := hrel
        obtain ⟨u0, rfl⟩ : ∃ u0 : World, u0 = wr := ⟨_, rfl⟩
        clear HU
        by_cases hly : y < Q
        · have y2 : (y : Int) < (Q : Int) := by omega
          have y3 : (0 : Int) ≤ (x : Int) := by omega
          have y4 : (0 : Int) ≤ (y : Int) := by omega
          have v1e : IntKind.i64.wrap (2 * (x : Int)) = ((2 * x : Nat) : Int) := by rw [IntWalk.i64_in _ (by omega)]; omega
          have v2e : IntKind.i64.wrap (2 * (y : Int)) = ((2 * y : Nat) : Int) := by rw [IntWalk.i64_in _ (by omega)]; omega
          have v3e : IntKind.i64.wrap (((2 * x : Nat) : Int) + 1) = ((2 * x + 1 : Nat) : Int) := by rw [IntWalk.i64_in _ (by omega)]; omega
          have v4e : IntKind.i64.wrap (((2 * y : Nat) : Int) + 1) = ((2 * y + 1 : Nat) : Int) := by rw [IntWalk.i64_in _ (by omega)]; omega
          have hi1 : 2 * x < W2 := by omega
          have hi2 : 2 * x + 1 < W2 := by omega
          have hj1 : 2 * y < H2 := by omega
          have hj2 : 2 * y + 1 < H2 := by omega
          have W1 := Lib.hid (V1.out x y)
          have W2' := Lib.hid (V2.out x y)
          have W3 := Lib.hid (V3.out x y)
          have hPLx := Lib.hid (fun j (hj : j < M) => HPL.out x y j hlt hj)
          obtain ⟨x2, hx2⟩ : ∃ z, 2 * x = z := ⟨_, rfl⟩
          obtain ⟨y2', hy2⟩ : ∃ z, 2 * y = z := ⟨_, rfl⟩
          simp only [hx2, hy2] at v1e v2e v3e v4e hi1 hi2 hj1 hj2 W1 W2' W3
          obtain ⟨x3, hx3⟩ : ∃ z, x2 + 1 = z := ⟨_, rfl⟩
          obtain ⟨y3', hy3⟩ : ∃ z, y2' + 1 = z := ⟨_, rfl⟩
          simp only [hx3, hy3] at v3e v4e hi2 hj2 W2' W3
          clear hx2 hy2 hx3 hy3
          have HK1 := Lib.hid (fun (u : World) (h : B3 k1 k2 k3 w6 u) => (show u.cell? ⟨w.heap.size, 0, none⟩ = some (.int .i64 (W2 : Nat)) ∧ u.cell? ⟨w.heap.size, 1, none⟩ = some (.int .i64 (H2 : Nat)) ∧ u.cell? ⟨w.heap.size, 2, none⟩ = some (.slice A N2 c) ∧ u.cell? ⟨o1, 0, none⟩ = some (.int .i64 (P : Nat)) ∧ u.cell? ⟨o1, 1, none⟩ = some (.int .i64 (Q : Nat)) ∧ u.cell? ⟨o1, 2, none⟩ = some (.slice (some ⟨k1, 0, none⟩) M M) from ⟨(h.box XA.out eXA1 eXA2 eXA3).c0, (h.box XA.out eXA1 eXA2 eXA3).c1, (h.box XA.out eXA1 eXA2 eXA3).c2, (h.box Y1.out eY11 eY12 eY13).c0, (h.box Y1.out eY11 eY12 eY13).c1, (h.box Y1.out eY11 eY12 eY13).c2⟩))
          have HH1 := Lib.hid (fun (u : World) (h : B3 k1 k2 k3 w6 u) => h.holds (HG.out.below LB6.out) lk1 lk2 lk3 LB6.out.size)
          have D1 := Lib.hid (HU1.out.trans (B3.of (Below.refl u0.heap.size u0).drew))
          obtain ⟨p0, p1, p2, p3, p4, p5⟩ := HK1.out _ HU1.out
          go_wp2
          go_region_held3 (fun u => u.cell? ⟨w.heap.size, 0, none⟩ = some (.int .i64 (W2 : Nat)) ∧ u.cell? ⟨w.heap.size, 1, none⟩ = some (.int .i64 (H2 : Nat)) ∧ u.cell? ⟨w.heap.size, 2, none⟩ = some (.slice A N2 c) ∧ u.cell? ⟨o1, 0, none⟩ = some (.int .i64 (P : Nat)) ∧ u.cell? ⟨o1, 1, none⟩ = some (.int .i64 (Q : Nat)) ∧ u.cell? ⟨o1, 2, none⟩ = some (.slice (some ⟨k1, 0, none⟩) M M))
            (first
              | with_reducible exact HK1.out _ D1.out
              | with_reducible exact HK1.out _ E1.out
              | with_reducible exact HK1.out _ HU2.out)
            (first
              | (go_at_call 73
                 with_reducible refine Calls.mono (HA.out _ x2 y2' (HH1.out _ D1.out) (Nat.le_trans LB6.out.size D1.out.size) hi1 hj1) ?_
                 rintro e v1 ⟨rfl, hb⟩
                 have E1 := Lib.hid (D1.out.trans (B3.of hb))
                 have T1 := Lib.hid ((T1.out.drew).below hb (T1.out.drew).lt)
                 have T2 := Lib.hid ((T2.out.drew).below hb (T2.out.drew).lt)
                 have T3 := Lib.hid ((T3.out.drew).below hb (T3.out.drew).lt)
                 clear hb)
              | (go_at_call 100
                 with_reducible refine Calls.mono (HSX.out _ _ x y _ _ T1.out hlt hly) ?_
                 rintro e u1 ⟨rfl, hr3, hb3⟩
                 have T1 := Lib.hid hr3
                 have T2 := Lib.hid (hb3.row T2.out k12.symm)
                 have T3 := Lib.hid (hb3.row T3.out k13.symm)
                 have HU2 := Lib.hid (E1.out.trans (B3.b1 hb3))
                 clear hr3 hb3))
          rw [W1.out] at T1
          have T1 := Lib.hid (T1.out.congr (f' := cp (· % P) (· / P) G1 x (y + 1)) fun j hj => cp_succ (G := G1) (hPLx.out j hj))
          clear HK1 HH1 D1 E1 HU1 p0 p1 p2 p3 p4 p5
          have HK2 := Lib.hid (fun (u : World) (h : B3 k1 k2 k3 w6 u) => (show u.cell? ⟨w.heap.size, 0, none⟩ = some (.int .i64 (W2 : Nat)) ∧ u.cell? ⟨w.heap.size, 1, none⟩ = some (.int .i64 (H2 : Nat)) ∧ u.cell? ⟨w.heap.size, 2, none⟩ = some (.slice A N2 c) ∧ u.cell? ⟨o2, 0, none⟩ = some (.int .i64 (P : Nat)) ∧ u.cell? ⟨o2, 1, none⟩ = some (.int .i64 (Q : Nat)) ∧ u.cell? ⟨o2, 2, none⟩ = some (.slice (some ⟨k2, 0, none⟩) M M) from ⟨(h.box XA.out eXA1 eXA2 eXA3).c0, (h.box XA.out eXA1 eXA2 eXA3).c1, (h.box XA.out eXA1 eXA2 eXA3).c2, (h.box Y2.out eY21 eY22 eY23).c0, (h.box Y2.out eY21 eY22 eY23).c1, (h.box Y2.out eY21 eY22 eY23).c2⟩))
          have HH2 := Lib.hid (fun (u : World) (h : B3 k1 k2 k3 w6 u) => h.holds (HG.out.below LB6.out) lk1 lk2 lk3 LB6.out.size)
          have D2 := Lib.hid (HU2.out.trans (B3.of (Below.refl u1.heap.size u1).drew))
          obtain ⟨p0, p1, p2, p3, p4, p5⟩ := HK2.out _ HU2.out
          go_wp2
          go_region_held3 (fun u => u.cell? ⟨w.heap.size, 0, none⟩ = some (.int .i64 (W2 : Nat)) ∧ u.cell? ⟨w.heap.size, 1, none⟩ = some (.int .i64 (H2 : Nat)) ∧ u.cell? ⟨w.heap.size, 2, none⟩ = some (.slice A N2 c) ∧ u.cell? ⟨o2, 0, none⟩ = some (.int .i64 (P : Nat)) ∧ u.cell? ⟨o2, 1, none⟩ = some (.int .i64 (Q : Nat)) ∧ u.cell? ⟨o2, 2, none⟩ = some (.slice (some ⟨k2, 0, none⟩) M M))
            (first
              | with_reducible exact HK2.out _ D2.out
              | with_reducible exact HK2.out _ E2.out
              | with_reducible exact HK2.out _ HU3.out)
            (first
              | (go_at_call 73
                 with_reducible refine Calls.mono (HA.out _ x3 y3' (HH2.out _ D2.out) (Nat.le_trans LB6.out.size D2.out.size) hi2 hj2) ?_
                 rintro e v2 ⟨rfl, hb⟩
                 have E2 := Lib.hid (D2.out.trans (B3.of hb))
                 have T1 := Lib.hid ((T1.out.drew).below hb (T1.out.drew).lt)
                 have T2 := Lib.hid ((T2.out.drew).below hb (T2.out.drew).lt)
                 have T3 := Lib.hid ((T3.out.drew).below hb (T3.out.drew).lt)
                 clear hb)
              | (go_at_call 100
                 with_reducible refine Calls.mono (HSX.out _ _ x y _ _ T2.out hlt hly) ?_
                 rintro e u2 ⟨rfl, hr3, hb3⟩
                 have T2 := Lib.hid hr3
                 have T1 := Lib.hid (hb3.row T1.out k12)
                 have T3 := Lib.hid (hb3.row T3.out k23.symm)
                 have HU3 := Lib.hid (E2.out.trans (B3.b2 hb3))
                 clear hr3 hb3))
          rw [W2'.out] at T2
          have T2 := Lib.hid (T2.out.congr (f' := cp (· % P) (· / P) G2 x (y + 1)) fun j hj => cp_succ (G := G2) (hPLx.out j hj))
          clear HK2 HH2 D2 E2 HU2 p0 p1 p2 p3 p4 p5
          have HK3 := Lib.hid (fun (u : World) (h : B3 k1 k2 k3 w6 u) => (show u.cell? ⟨w.heap.size, 0, none⟩ = some (.int .i64 (W2 : Nat)) ∧ u.cell? ⟨w.heap.size, 1, none⟩ = some (.int .i64 (H2 : Nat)) ∧ u.cell? ⟨w.heap.size, 2, none⟩ = some (.slice A N2 c) ∧ u.cell? ⟨o3, 0, none⟩ = some (.int .i64 (P : Nat)) ∧ u.cell? ⟨o3, 1, none⟩ = some (.int .i64 (Q : Nat)) ∧ u.cell? ⟨o3, 2, none⟩ = some (.slice (some ⟨k3, 0, none⟩) M M) from ⟨(h.box XA.out eXA1 eXA2 eXA3).c0, (h.box XA.out eXA1 eXA2 eXA3).c1, (h.box XA.out eXA1 eXA2 eXA3).c2, (h.box Y3.out eY31 eY32 eY33).c0, (h.box Y3.out eY31 eY32 eY33).c1, (h.box Y3.out eY31 eY32 eY33).c2⟩))
          have HH3 := Lib.hid (fun (u : World) (h : B3 k1 k2 k3 w6 u) => h.holds (HG.out.below LB6.out) lk1 lk2 lk3 LB6.out.size)
          have D3 := Lib.hid (HU3.out.trans (B3.of (Below.refl u2.heap.size u2).drew))
          obtain ⟨p0, p1, p2, p3, p4, p5⟩ := HK3.out _ HU3.out
          go_wp2
          go_region_held3 (fun u => u.cell? ⟨w.heap.size, 0, none⟩ = some (.int .i64 (W2 : Nat)) ∧ u.cell? ⟨w.heap.size, 1, none⟩ = some (.int .i64 (H2 : Nat)) ∧ u.cell? ⟨w.heap.size, 2, none⟩ = some (.slice A N2 c) ∧ u.cell? ⟨o3, 0, none⟩ = some (.int .i64 (P : Nat)) ∧ u.cell? ⟨o3, 1, none⟩ = some (.int .i64 (Q : Nat)) ∧ u.cell? ⟨o3, 2, none⟩ = some (.slice (some ⟨k3, 0, none⟩) M M))
            (first
              | with_reducible exact HK3.out _ D3.out
              | with_reducible exact HK3.out _ E3.out
              | with_reducible exact HK3.out _ HU4.out)
            (first
              | (go_at_call 73
                 with_reducible refine Calls.mono (HA.out _ x2 y3' (HH3.out _ D3.out) (Nat.le_trans LB6.out.size D3.out.size) hi1 hj2) ?_
                 rintro e v3 ⟨rfl, hb⟩
                 have E3 := Lib.hid (D3.out.trans (B3.of hb))
                 have T1 := Lib.hid ((T1.out.drew).below hb (T1.out.drew).lt)
                 have T2 := Lib.hid ((T2.out.drew).below hb (T2.out.drew).lt)
                 have T3 := Lib.hid ((T3.out.drew).below hb (T3.out.drew).lt)
                 clear hb)
              | (go_at_call 100
                 with_reducible refine Calls.mono (HSX.out _ _ x y _ _ T3.out hlt hly) ?_
                 rintro e u3 ⟨rfl, hr3, hb3⟩
                 have T3 := Lib.hid hr3
                 have T1 := Lib.hid (hb3.row T1.out k13)
                 have T2 := Lib.hid (hb3.row T2.out k23)
                 have HU4 := Lib.hid (E3.out.trans (B3.b3 hb3))
                 clear hr3 hb3))
          rw [W3.out] at T3
          have T3 := Lib.hid (T3.out.congr (f' := cp (· % P) (· / P) G3 x (y + 1)) fun j hj => cp_succ (G := G3) (hPLx.out j hj))
          clear HK3 HH3 D3 E3 HU3 p0 p1 p2 p3 p4 p5
          go_wp2
          go_roundw
          case rel => exact ⟨y + 1, by omega, by go_num, T1, T2, T3, HU4⟩
          case measure => simp [intOf]; omega
        · have e : y = Q := by omega
          have y2 : ¬ (y : Int) < (Q : Int) := by omega
          have T1 := Lib.hid (T1.out.congr (f' := cp (· % P) (· / P) G1 (x + 1) 0) fun j hj => by rw [e]; exact cp_next (HDV.out j hj))
          have T2 := Lib.hid (T2.out.congr (f' := cp (· % P) (· / P) G2 (x + 1) 0) fun j hj => by rw [e]; exact cp_next (HDV.out j hj))
          have T3 := Lib.hid (T3.out.congr (f' := cp (· % P) (· / P) G3 (x + 1) 0) fun j hj => by rw [e]; exact cp_next (HDV.out j hj))
          clear e
          go_wp2
          go_roundw
          case rel => exact ⟨x + 1, by omega, by go_num, T1, T2, T3, HU1⟩
          case measure => simp [intOf]; omega
    · have e : x = P := by omega
      have y1 : ¬ (x : Int) < (P : Int) := by omega
      have T1 := Lib.hid (T1.out.congr (f' := F1) fun j hj => by rw [e]; exact (cp_all (HMD.out j)).trans (U1.out j))
      have T2 := Lib.hid (T2.out.congr (f' := F2) fun j hj => by rw [e]; exact (cp_all (HMD.out j)).trans (U2.out j))
      have T3 := Lib.hid (T3.out.congr (f' := F3) fun j hj => by rw [e]; exact (cp_all (HMD.out j)).trans (U3.out j))
      have LBE := Lib.hid (HU.out.below LB6.out lk1 lk2 lk3)
      have ZA := Lib.hid (HU.out.box XA.out eXA1 eXA2 eXA3)
      have Z1 := Lib.hid (HU.out.box X1.out eX11 eX12 eX13)
      have Z2 := Lib.hid (HU.out.box X2.out eX21 eX22 eX23)
      have Z3 := Lib.hid (HU.out.box X3.out eX31 eX32 eX33)
      have ZO1 := Lib.hid (HU.out.box Y1.out eY11 eY12 eY13)
      have ZO2 := Lib.hid (HU.out.box Y2.out eY21 eY22 eY23)
      have ZO3 := Lib.hid (HU.out.box Y3.out eY31 eY32 eY33)
      clear e HU
      go_upto_region 16 with (fail)
      have HK := Lib.hid (fun (u : World) (h : Below wa.heap.size wa u) => (show u.cell? ⟨w.heap.size, 0, none⟩ = some (.int .i64 (W2 : Nat)) ∧ u.cell? ⟨w.heap.size, 1, none⟩ = some (.int .i64 (H2 : Nat)) ∧ u.cell? ⟨w.heap.size, 2, none⟩ = some (.slice A N2 c) ∧ u.cell? ⟨o1, 0, none⟩ = some (.int .i64 (P : Nat)) ∧ u.cell? ⟨o1, 1, none⟩ = some (.int .i64 (Q : Nat)) ∧ u.cell? ⟨o1, 2, none⟩ = some (.slice (some ⟨k1, 0, none⟩) M M) ∧ u.cell? ⟨o2, 0, none⟩ = some (.int .i64 (P : Nat)) ∧ u.cell? ⟨o2, 1, none⟩ = some (.int .i64 (Q : Nat)) ∧ u.cell? ⟨o2, 2, none⟩ = some (.slice (some ⟨k2, 0, none⟩) M M) ∧ u.cell? ⟨o3, 0, none⟩ = some (.int .i64 (P : Nat)) ∧ u.cell? ⟨o3, 1, none⟩ = some (.int .i64 (Q : Nat)) ∧ u.cell? ⟨o3, 2, none⟩ = some (.slice (some ⟨k3, 0, none⟩) M M) from
        ⟨(ZA.out.below h ZA.out.lt).c0, (ZA.out.below h ZA.out.lt).c1, (ZA.out.below h ZA.out.lt).c2, (ZO1.out.below h ZO1.out.lt).c0, (ZO1.out.below h ZO1.out.lt).c1, (ZO1.out.below h ZO1.out.lt).c2, (ZO2.out.below h ZO2.out.lt).c0, (ZO2.out.below h ZO2.out.lt).c1, (ZO2.out.below h ZO2.out.lt).c2, (ZO3.out.below h ZO3.out.lt).c0, (ZO3.out.below h ZO3.out.lt).c1, (ZO3.out.below h ZO3.out.lt).c2⟩))
      have B0 := Lib.hid (Below.refl wa.heap.size wa).drew
      obtain ⟨p0, p1, p2, p3, p4, p5, p6, p7, p8, p9, p10, p11⟩ := HK.out _ (Below.refl _ _)
      go_region_held3 (fun u => u.cell? ⟨w.heap.size, 0, none⟩ = some (.int .i64 (W2 : Nat)) ∧ u.cell? ⟨w.heap.size, 1, none⟩ = some (.int .i64 (H2 : Nat)) ∧ u.cell? ⟨w.heap.size, 2, none⟩ = some (.slice A N2 c) ∧ u.cell? ⟨o1, 0, none⟩ = some (.int .i64 (P : Nat)) ∧ u.cell? ⟨o1, 1, none⟩ = some (.int .i64 (Q : Nat)) ∧ u.cell? ⟨o1, 2, none⟩ = some (.slice (some ⟨k1, 0, none⟩) M M) ∧ u.cell? ⟨o2, 0, none⟩ = some (.int .i64 (P : Nat)) ∧ u.cell? ⟨o2, 1, none⟩ = some (.int .i64 (Q : Nat)) ∧ u.cell? ⟨o2, 2, none⟩ = some (.slice (some ⟨k2, 0, none⟩) M M) ∧ u.cell? ⟨o3, 0, none⟩ = some (.int .i64 (P : Nat)) ∧ u.cell? ⟨o3, 1, none⟩ = some (.int .i64 (Q : Nat)) ∧ u.cell? ⟨o3, 2, none⟩ = some (.slice (some ⟨k3, 0, none⟩) M M))
        (first
          | with_reducible exact HK.out _ B0.out
          | with_reducible exact HK.out _ B1.out
          | with_reducible exact HK.out _ B2.out)
        (first
          | (go_at_call 98
             with_reducible refine Calls.mono (HV.out _ _ _ _ T1.out.drew T2.out.drew T3.out.drew) ?_
             rintro e v1 ⟨kw, rfl, hkw, hrow, hb⟩
             have B1 := Lib.hid (B0.out.trans (hb.mono B0.out.size))
             have RW := Lib.hid hrow
             clear hb hrow)
          | (go_at_call 54
             with_reducible refine Calls.mono (HSM.out _ _ _ ((HG.out.below (LBE.out.trans (B1.out.mono LBE.out.size))).more (Nat.le_trans LBE.out.size B1.out.size)) RW.out) ?_
             rintro e v2 ⟨rfl, hb⟩
             have B2 := Lib.hid (B1.out.trans (hb.mono B1.out.size))
             clear hb))
      clear p0 p1 p2 p3 p4 p5 p6 p7 p8 p9 p10 p11 HK
      have hb := B2.out
      have LB8 := Lib.hid (LBE.out.trans (hb.mono LBE.out.size))
      have Z1 := Lib.hid (Z1.out.below hb Z1.out.lt)
      have Z2 := Lib.hid (Z2.out.below hb Z2.out.lt)
      have Z3 := Lib.hid (Z3.out.below hb Z3.out.lt)
      have ZO1 := Lib.hid (ZO1.out.below hb ZO1.out.lt)
      have ZO2 := Lib.hid (ZO2.out.below hb ZO2.out.lt)
      have ZO3 := Lib.hid (ZO3.out.below hb ZO3.out.lt)
      have T1 := Lib.hid (T1.out.below hb T1.out.lt)
      have T2 := Lib.hid (T2.out.below hb T2.out.lt)
      have T3 := Lib.hid (T3.out.below hb T3.out.lt)
      clear hb B0 B1 B2 LBE
      obtain ⟨q0, q1, q2, q3, q4, q5, q6⟩ := Z1.out.all
      obtain ⟨q7, q8, q9, q10, q11, q12, q13⟩ := Z2.out.all
      obtain ⟨q14, q15, q16, q17, q18, q19, q20⟩ := Z3.out.all
      go_wp2
      refine bodyPost_ret (v := .tuple #[.agg #[.int .i64 0, .int .i64 0, .slice none 0 0], .agg #[.int .i64 0, .int .i64 0, .slice none 0 0], .agg #[.int .i64 0, .int .i64 0, .slice none 0 0], .int .i64 6]) (by simp [results, Try.results53, go_sem, q0, q1, q2, q3, q4, q5, q6, q7, q8, q9, q10, q11, q12, q13, q14, q15, q16, q17, q18, q19, q20]) rfl ?_
      refine ⟨rfl, ?_⟩
      exact (bel_st3 (bel_st3 (bel_st3 LB8.out (g := b1) (by omega) _ _ _) (g := b2) (by omega) _ _ _) (g := b3) (by omega) _ _ _)
set_option maxHeartbeats 12800000 in
theorem rapart_yes (P Q : Nat) {A : Option Addr} {c : Nat} {g : Nat → Bool} (hP0 : 1 ≤ P) (hP : P ≤ 32) (hQ0 : 1 ≤ Q) (hQ : Q ≤ 32) (w : World) (hg : Holds w w.heap.size A (2 * P * (2 * Q)) g) (hD : isD P Q g = true) :
    Calls Try.prog 53 #[.agg #[.int .i64 ((2 * P : Nat) : Int), .int .i64 ((2 * Q : Nat) : Int), .slice A (2 * P * (2 * Q)) c]] w (RE4 w P Q (P * Q) (e2f P g 0 0) (e2f P g 1 1) (e2f P g 0 1) 0) := by
  have hN : 2 * P * (2 * Q) ≤ 4096 := Nat.mul_le_mul (show 2 * P ≤ 64 by omega) (show 2 * Q ≤ 64 by omega)
  have HK := Lib.hid (fun u => rchk_all ((2 * P : Nat) : Int) ((2 * Q : Nat) : Int) A (2 * P * (2 * Q)) c u)
  rw [chk_zero (W := 2 * P) (H := 2 * Q) (by omega) (by omega) (by omega) (by omega)] at HK
  have d1 : ((2 * P : Nat) : Int).tmod 2 = 0 := by rw [tmod2]; omega
  have d2 : ((2 * Q : Nat) : Int).tmod 2 = 0 := by rw [tmod2]; omega
  have d3 : ((2 * P : Nat) : Int).tdiv 2 = (P : Int) := by rw [tdiv2]; omega
  have d4 : ((2 * Q : Nat) : Int).tdiv 2 = (Q : Int) := by rw [tdiv2]; omega
  have HZ := Lib.hid (fun u => zero_int (P : Int) (Q : Int) P Q rfl rfl (by omega) (by omega) u)
  have HA := Lib.hid (fun (u : World) (x y : Nat) (h : Holds u w.heap.size A (2 * P * (2 * Q)) g) (hs : w.heap.size ≤ u.heap.size) (hx : x < 2 * P) (hy : y < 2 * Q) => at_nat (2 * P) (2 * Q) A c (x : Int) (y : Int) g u w.heap.size h hs (by omega) (by omega) x y rfl rfl hx hy)
  have HSX := Lib.hid (fun k (u : World) (i j : Nat) (q : Bool) (R : Nat → Bool) (hr : Row u k (P * Q) R) (hi : i < P) (hj : j < Q) => set_nat P Q k (P * Q) (i : Int) (j : Int) q R u hr (by omega) (by omega) i j rfl rfl hi hj)
  have HV := Lib.hid (fun u k1 k2 k3 (h1 : Row u k1 (P * Q) (e2f P g 0 0)) (h2 : Row u k2 (P * Q) (e2f P g 1 1)) (h3 : Row u k3 (P * Q) (e2f P g 0 1)) => woven_n P Q (some ⟨k1, 0, none⟩) (some ⟨k2, 0, none⟩) (some ⟨k3, 0, none⟩) (P * Q) (P * Q) (P * Q) _ _ _ hP0 hP hQ0 hQ u (h1.holds h1.lt) (h2.holds h2.lt) (h3.holds h3.lt))
  have HSM := Lib.hid (fun u k d (hs : Holds u u.heap.size A (2 * P * (2 * Q)) g) (h : Row u k (2 * P * (2 * Q)) (dbl P (e2f P g 0 0) (e2f P g 1 1) (e2f P g 0 1))) => (rsame_loop ((2 * P : Nat) : Int) ((2 * Q : Nat) : Int) ((2 * P : Nat) : Int) ((2 * Q : Nat) : Int) (some ⟨k, 0, none⟩) A (2 * P * (2 * Q)) d c _ g u (by omega) rfl rfl (h.holds h.lt) hs).mono fun e w' h => (⟨by rw [h.1]; congr 2, h.2⟩ : e = .returned (.bool (isD P Q g)) ∧ Below u.heap.size u w'))
  rw [hD] at HSM
  have HPL := Lib.hid (fun x y j (hx : x < P) (hj : j < P * Q) => plain_at (W := P) (H := Q) (x := x) (y := y) hx hj)
  have HDV := Lib.hid (fun j (hj : j < P * Q) => div_bd (W := P) (H := Q) hj)
  have HMD := Lib.hid (fun j => show j % P < P from Nat.mod_lt _ (by omega))
  obtain ⟨G1, hG1⟩ : ∃ f : Nat → Nat → Bool, f = fun x y => g (2 * y * (2 * P) + 2 * x) := ⟨_, rfl⟩
  obtain ⟨G2, hG2⟩ : ∃ f : Nat → Nat → Bool, f = fun x y => g ((2 * y + 1) * (2 * P) + (2 * x + 1)) := ⟨_, rfl⟩
  obtain ⟨G3, hG3⟩ : ∃ f : Nat → Nat → Bool, f = fun x y => g ((2 * y + 1) * (2 * P) + 2 * x) := ⟨_, rfl⟩
  have V1 := Lib.hid (fun x y => show g (2 * y * (2 * P) + 2 * x) = G1 x y by rw [hG1])
  have V2 := Lib.hid (fun x y => show g ((2 * y + 1) * (2 * P) + (2 * x + 1)) = G2 x y by rw [hG2])
  have V3 := Lib.hid (fun x y => show g ((2 * y + 1) * (2 * P) + 2 * x) = G3 x y by rw [hG3])
  have U1 := Lib.hid (fun j => show G1 (j % P) (j / P) = e2f P g 0 0 j by rw [hG1]; rfl)
  have U2 := Lib.hid (fun j => show G2 (j % P) (j / P) = e2f P g 1 1 j by rw [hG2]; rfl)
  have U3 := Lib.hid (fun j => show G3 (j % P) (j / P) = e2f P g 0 1 j by rw [hG3]; rfl)
  obtain ⟨F1, hF1⟩ : ∃ f, e2f P g 0 0 = f := ⟨_, rfl⟩
  obtain ⟨F2, hF2⟩ : ∃ f, e2f P g 1 1 = f := ⟨_, rfl⟩
  obtain ⟨F3, hF3⟩ : ∃ f, e2f P g 0 1 = f := ⟨_, rfl⟩
  simp only [hF1, hF2, hF3] at HV HSM U1 U2 U3 ⊢
  obtain ⟨FD, hFD⟩ : ∃ f, dbl P F1 F2 F3 = f := ⟨_, rfl⟩
  simp only [hFD] at HV HSM
  obtain ⟨W2, hW2⟩ : ∃ z, 2 * P = z := ⟨_, rfl⟩
  obtain ⟨H2, hH2⟩ : ∃ z, 2 * Q = z := ⟨_, rfl⟩
  have hPW := hW2
  have hQH := hH2
  have HG := Lib.hid hg
  simp only [hW2, hH2] at HK d1 d2 d3 d4 HA HV HSM V1 V2 V3 hN HG ⊢
  obtain ⟨N2, hN2⟩ : ∃ z, W2 * H2 = z := ⟨_, rfl⟩
  simp only [hN2] at HK HA HV HSM hN HG ⊢
  obtain ⟨M, hMe⟩ : ∃ z, P * Q = z := ⟨_, rfl⟩
  have HME := Lib.hid hMe
  simp only [hMe] at HZ HSX HV HPL HDV ⊢
  clear hg hG1 hG2 hG3 hF1 hF2 hF3 hFD hW2 hH2 hN2 hMe hD
  have LB0 := Lib.hid (Below.refl w.heap.size w)
  have XA := Lib.hid (Box.new w (W2 : Nat) (H2 : Nat) (.slice A N2 c))
  have LB0 := Lib.hid (LB0.out.alloc LB0.out.size (.cells #[.int .i64 (W2 : Nat), .int .i64 (H2 : Nat), .slice A N2 c] 24))
  have XA := Lib.hid (XA.out.alloc (.cells #[.int .i64 0, .int .i64 0, .slice none 0 0] 24))
  have X1 := Box.new (w.alloc (.cells #[.int .i64 (W2 : Nat), .int .i64 (H2 : Nat), .slice A N2 c] 24)) 0 0 (.slice none 0 0)
  rw [show ((w.alloc (.cells #[.int .i64 (W2 : Nat), .int .i64 (H2 : Nat), .slice A N2 c] 24))).heap.size = w.heap.size + 1 by simp] at X1
  have X1 := Lib.hid X1
  have LB0 := Lib.hid (LB0.out.alloc LB0.out.size (.cells #[.int .i64 0, .int .i64 0, .slice none 0 0] 24))
  have XA := Lib.hid (XA.out.alloc (.cells #[.int .i64 0, .int .i64 0, .slice none 0 0] 24))
  have X1 := Lib.hid (X1.out.alloc (.cells #[.int .i64 0, .int .i64 0, .slice none 0 0] 24))
  have X2 := Box.new ((w.alloc (.cells #[.int .i64 (W2 : Nat), .int .i64 (H2 : Nat), .slice A N2 c] 24)).alloc (.cells #[.int .i64 0, .int .i64 0, .slice none 0 0] 24)) 0 0 (.slice none 0 0)
  rw [show (((w.alloc (.cells #[.int .i64 (W2 : Nat), .int .i64 (H2 : Nat), .slice A N2 c] 24)).alloc (.cells #[.int .i64 0, .int .i64 0, .slice none 0 0] 24))).heap.size = w.heap.size + 2 by simp] at X2
  have X2 := Lib.hid X2
  have LB0 := Lib.hid (LB0.out.alloc LB0.out.size (.cells #[.int .i64 0, .int .i64 0, .slice none 0 0] 24))
  have XA := Lib.hid (XA.out.alloc (.cells #[.int .i64 0, .int .i64 0, .slice none 0 0] 24))
  have X1 := Lib.hid (X1.out.alloc (.cells #[.int .i64 0, .int .i64 0, .slice none 0 0] 24))
  have X2 := Lib.hid (X2.out.alloc (.cells #[.int .i64 0, .int .i64 0, .slice none 0 0] 24))
  have X3 := Box.new (((w.alloc (.cells #[.int .i64 (W2 : Nat), .int .i64 (H2 : Nat), .slice A N2 c] 24)).alloc (.cells #[.int .i64 0, .int .i64 0, .slice none 0 0] 24)).alloc (.cells #[.int .i64 0, .int .i64 0, .slice none 0 0] 24)) 0 0 (.slice none 0 0)
  rw [show ((((w.alloc (.cells #[.int .i64 (W2 : Nat), .int .i64 (H2 : Nat), .slice A N2 c] 24)).alloc (.cells #[.int .i64 0, .int .i64 0, .slice none 0 0] 24)).alloc (.cells #[.int .i64 0, .int .i64 0, .slice none 0 0] 24))).heap.size = w.heap.size + 3 by simp] at X3
  have X3 := Lib.hid X3
  have LB0 := Lib.hid (LB0.out.alloc LB0.out.size (.cells #[.int .i64 0, .int .i64 0, .slice none 0 0] 24))
  go_enter Try.func53, Try.ntmps53
  go_upto_region 1 with (fail)
  generalize (((w.alloc (.cells #[.int .i64 (W2 : Nat), .int .i64 (H2 : Nat), .slice A N2 c] 24)).alloc (.cells #[.int .i64 0, .int .i64 0, .slice none 0 0] 24)).alloc (.cells #[.int .i64 0, .int .i64 0, .slice none 0 0] 24)).alloc (.cells #[.int .i64 0, .int .i64 0, .slice none 0 0] 24) = w0 at *
  obtain ⟨b1, hb1⟩ : ∃ z, w.heap.size + 1 = z := ⟨_, rfl⟩
  obtain ⟨b2, hb2⟩ : ∃ z, w.heap.size + 2 = z := ⟨_, rfl⟩
  obtain ⟨b3, hb3⟩ : ∃ z, w.heap.size + 3 = z := ⟨_, rfl⟩
  have hbb : w.heap.size < b1 ∧ b1 < b2 ∧ b2 < b3 := by omega
  rw [hb1] at X1
  rw [hb2] at X2
  rw [hb3] at X3
  rw [hb3, hb2, hb1]
  clear hb1 hb2 hb3
  obtain ⟨q0, q1, q2, q3, q4, q5, q6⟩ := XA.out.all
  go_wp2_with fail
  clear q0 q1 q2 q3 q4 q5 q6
  with_reducible refine Calls.mono (HK.out _) ?_
  rintro e w1 ⟨rfl, hb⟩
  have LB1 := Lib.hid (LB0.out.trans (hb.mono LB0.out.size))
  have XA := Lib.hid (XA.out.below hb XA.out.lt)
  have X1 := Lib.hid (X1.out.below hb X1.out.lt)
  have X2 := Lib.hid (X2.out.below hb X2.out.lt)
  have X3 := Lib.hid (X3.out.below hb X3.out.lt)
  clear hb LB0 
  obtain ⟨q0, q1, q2, q3, q4, q5, q6⟩ := XA.out.all
  go_upto_region 5 with (fail)
  go_region
  go_wp2_with fail
  clear q0 q1 q2 q3 q4 q5 q6
  have hb := (Below.refl w1.heap.size w1).drew
  have LB2 := Lib.hid (LB1.out.trans (hb.mono LB1.out.size))
  have XA := Lib.hid (XA.out.below hb XA.out.lt)
  have X1 := Lib.hid (X1.out.below hb X1.out.lt)
  have X2 := Lib.hid (X2.out.below hb X2.out.lt)
  have X3 := Lib.hid (X3.out.below hb X3.out.lt)
  clear hb LB1
  generalize w1.drew = w2 at *
  have hws := LB2.out.size
  with_reducible refine Calls.mono (HZ.out _) ?_
  rintro e w3 ⟨k1, rfl, hk1, hrow, hb⟩
  have LB3 := Lib.hid (LB2.out.trans (hb.mono LB2.out.size))
  have XA := Lib.hid (XA.out.below hb XA.out.lt)
  have X1 := Lib.hid (X1.out.below hb X1.out.lt)
  have X2 := Lib.hid (X2.out.below hb X2.out.lt)
  have X3 := Lib.hid (X3.out.below hb X3.out.lt)
  have R1 := Lib.hid hrow
  clear hb LB2 hrow
  simp only [HME.out] at R1 ⊢
  have s1 := R1.out.lt
  go_wp2_with fail
  with_reducible refine Calls.mono (HZ.out _) ?_
  rintro e w4 ⟨k2, rfl, hk2, hrow, hb⟩
  have LB4 := Lib.hid (LB3.out.trans (hb.mono LB3.out.size))
  have XA := Lib.hid (XA.out.below hb XA.out.lt)
  have X1 := Lib.hid (X1.out.below hb X1.out.lt)
  have X2 := Lib.hid (X2.out.below hb X2.out.lt)
  have X3 := Lib.hid (X3.out.below hb X3.out.lt)
  have R1 := Lib.hid (R1.out.below hb R1.out.lt)
  have R2 := Lib.hid hrow
  clear hb LB3 hrow
  simp only [HME.out] at R2 ⊢
  have s2 := R2.out.lt
  go_wp2_with fail
  with_reducible refine Calls.mono (HZ.out _) ?_
  rintro e w5 ⟨k3, rfl, hk3, hrow, hb⟩
  have LB5 := Lib.hid (LB4.out.trans (hb.mono LB4.out.size))
  have XA := Lib.hid (XA.out.below hb XA.out.lt)
  have X1 := Lib.hid (X1.out.below hb X1.out.lt)
  have X2 := Lib.hid (X2.out.below hb X2.out.lt)
  have X3 := Lib.hid (X3.out.below hb X3.out.lt)
  have R1 := Lib.hid (R1.out.below hb R1.out.lt)
  have R2 := Lib.hid (R2.out.below hb R2.out.lt)
  have R3 := Lib.hid hrow
  clear hb LB4 hrow
  simp only [HME.out] at R3 ⊢
  have hb := ((((Below.refl w5.heap.size w5).alloc (by simp; try omega) (.cells #[.int .i64 (P : Nat), .int .i64 (Q : Nat), .slice (some ⟨k1, 0, none⟩) M M] 24)).alloc (by simp; try omega) (.cells #[.int .i64 (P : Nat), .int .i64 (Q : Nat), .slice (some ⟨k2, 0, none⟩) M M] 24)).alloc (by simp; try omega) (.cells #[.int .i64 (P : Nat), .int .i64 (Q : Nat), .slice (some ⟨k3, 0, none⟩) M M] 24))
  have LB6 := Lib.hid (LB5.out.trans (hb.mono LB5.out.size))
  have XA := Lib.hid (XA.out.below hb XA.out.lt)
  have X1 := Lib.hid (X1.out.below hb X1.out.lt)
  have X2 := Lib.hid (X2.out.below hb X2.out.lt)
  have X3 := Lib.hid (X3.out.below hb X3.out.lt)
  have R1 := Lib.hid (R1.out.below hb R1.out.lt)
  have R2 := Lib.hid (R2.out.below hb R2.out.lt)
  have R3 := Lib.hid (R3.out.below hb R3.out.lt)
  have Y1 := Box.new w5 (P : Nat) (Q : Nat) (.slice (some ⟨k1, 0, none⟩) M M)
  have Y1 := Lib.hid Y1
  have Y1 := Lib.hid (Y1.out.alloc (.cells #[.int .i64 (P : Nat), .int .i64 (Q : Nat), .slice (some ⟨k2, 0, none⟩) M M] 24))
  have Y1 := Lib.hid (Y1.out.alloc (.cells #[.int .i64 (P : Nat), .int .i64 (Q : Nat), .slice (some ⟨k3, 0, none⟩) M M] 24))
  have Y2 := Box.new (w5.alloc (.cells #[.int .i64 (P : Nat), .int .i64 (Q : Nat), .slice (some ⟨k1, 0, none⟩) M M] 24)) (P : Nat) (Q : Nat) (.slice (some ⟨k2, 0, none⟩) M M)
  rw [show (w5.alloc (.cells #[.int .i64 (P : Nat), .int .i64 (Q : Nat), .slice (some ⟨k1, 0, none⟩) M M] 24)).heap.size = w5.heap.size + 1 by simp] at Y2
  have Y2 := Lib.hid Y2
  have Y2 := Lib.hid (Y2.out.alloc (.cells #[.int .i64 (P : Nat), .int .i64 (Q : Nat), .slice (some ⟨k3, 0, none⟩) M M] 24))
  have Y3 := Box.new ((w5.alloc (.cells #[.int .i64 (P : Nat), .int .i64 (Q : Nat), .slice (some ⟨k1, 0, none⟩) M M] 24)).alloc (.cells #[.int .i64 (P : Nat), .int .i64 (Q : Nat), .slice (some ⟨k2, 0, none⟩) M M] 24)) (P : Nat) (Q : Nat) (.slice (some ⟨k3, 0, none⟩) M M)
  rw [show ((w5.alloc (.cells #[.int .i64 (P : Nat), .int .i64 (Q : Nat), .slice (some ⟨k1, 0, none⟩) M M] 24)).alloc (.cells #[.int .i64 (P : Nat), .int .i64 (Q : Nat), .slice (some ⟨k2, 0, none⟩) M M] 24)).heap.size = w5.heap.size + 1 + 1 by simp] at Y3
  have Y3 := Lib.hid Y3
  clear hb LB5
  go_upto_region 7 with (fail)
  obtain ⟨o3, ho3⟩ : ∃ z, w5.heap.size + 1 + 1 = z := ⟨_, rfl⟩
  rw [ho3] at Y3
  try rw [ho3]
  obtain ⟨o2, ho2⟩ : ∃ z, w5.heap.size + 1 = z := ⟨_, rfl⟩
  rw [ho2] at Y2
  try rw [ho2]
  obtain ⟨o1, ho1⟩ : ∃ z, w5.heap.size = z := ⟨_, rfl⟩
  rw [ho1] at Y1
  try rw [ho1]
  clear ho1 ho2 ho3
  generalize ((w5.alloc (.cells #[.int .i64 (P : Nat), .int .i64 (Q : Nat), .slice (some ⟨k1, 0, none⟩) M M] 24)).alloc (.cells #[.int .i64 (P : Nat), .int .i64 (Q : Nat), .slice (some ⟨k2, 0, none⟩) M M] 24)).alloc (.cells #[.int .i64 (P : Nat), .int .i64 (Q : Nat), .slice (some ⟨k3, 0, none⟩) M M] 24) = w6 at *
  have eY11 : o1 ≠ k1 := fun h => R1.out.ne_box Y1.out h.symm
  have eY12 : o1 ≠ k2 := fun h => R2.out.ne_box Y1.out h.symm
  have eY13 : o1 ≠ k3 := fun h => R3.out.ne_box Y1.out h.symm
  have eY21 : o2 ≠ k1 := fun h => R1.out.ne_box Y2.out h.symm
  have eY22 : o2 ≠ k2 := fun h => R2.out.ne_box Y2.out h.symm
  have eY23 : o2 ≠ k3 := fun h => R3.out.ne_box Y2.out h.symm
  have eY31 : o3 ≠ k1 := fun h => R1.out.ne_box Y3.out h.symm
  have eY32 : o3 ≠ k2 := fun h => R2.out.ne_box Y3.out h.symm
  have eY33 : o3 ≠ k3 := fun h => R3.out.ne_box Y3.out h.symm
  have eXA1 : w.heap.size ≠ k1 := fun h => R1.out.ne_box XA.out h.symm
  have eXA2 : w.heap.size ≠ k2 := fun h => R2.out.ne_box XA.out h.symm
  have eXA3 : w.heap.size ≠ k3 := fun h => R3.out.ne_box XA.out h.symm
  have eX11 : b1 ≠ k1 := fun h => R1.out.ne_box X1.out h.symm
  have eX12 : b1 ≠ k2 := fun h => R2.out.ne_box X1.out h.symm
  have eX13 : b1 ≠ k3 := fun h => R3.out.ne_box X1.out h.symm
  have eX21 : b2 ≠ k1 := fun h => R1.out.ne_box X2.out h.symm
  have eX22 : b2 ≠ k2 := fun h => R2.out.ne_box X2.out h.symm
  have eX23 : b2 ≠ k3 := fun h => R3.out.ne_box X2.out h.symm
  have eX31 : b3 ≠ k1 := fun h => R1.out.ne_box X3.out h.symm
  have eX32 : b3 ≠ k2 := fun h => R2.out.ne_box X3.out h.symm
  have eX33 : b3 ≠ k3 := fun h => R3.out.ne_box X3.out h.symm
  have ob11 : o1 ≠ b1 := by intro h; have e1 := Y1.out; have e2 := X1.out; rw [h] at e1; unfold Box at e1 e2; rw [e1] at e2; cases e2
  have bo11 : b1 ≠ o1 := fun h => ob11 h.symm
  have ob12 : o1 ≠ b2 := by intro h; have e1 := Y1.out; have e2 := X2.out; rw [h] at e1; unfold Box at e1 e2; rw [e1] at e2; cases e2
  have bo21 : b2 ≠ o1 := fun h => ob12 h.symm
  have ob13 : o1 ≠ b3 := by intro h; have e1 := Y1.out; have e2 := X3.out; rw [h] at e1; unfold Box at e1 e2; rw [e1] at e2; cases e2
  have bo31 : b3 ≠ o1 := fun h => ob13 h.symm
  have ob21 : o2 ≠ b1 := by intro h; have e1 := Y2.out; have e2 := X1.out; rw [h] at e1; unfold Box at e1 e2; rw [e1] at e2; cases e2
  have bo12 : b1 ≠ o2 := fun h => ob21 h.symm
  have ob22 : o2 ≠ b2 := by intro h; have e1 := Y2.out; have e2 := X2.out; rw [h] at e1; unfold Box at e1 e2; rw [e1] at e2; cases e2
  have bo22 : b2 ≠ o2 := fun h => ob22 h.symm
  have ob23 : o2 ≠ b3 := by intro h; have e1 := Y2.out; have e2 := X3.out; rw [h] at e1; unfold Box at e1 e2; rw [e1] at e2; cases e2
  have bo32 : b3 ≠ o2 := fun h => ob23 h.symm
  have ob31 : o3 ≠ b1 := by intro h; have e1 := Y3.out; have e2 := X1.out; rw [h] at e1; unfold Box at e1 e2; rw [e1] at e2; cases e2
  have bo13 : b1 ≠ o3 := fun h => ob31 h.symm
  have ob32 : o3 ≠ b2 := by intro h; have e1 := Y3.out; have e2 := X2.out; rw [h] at e1; unfold Box at e1 e2; rw [e1] at e2; cases e2
  have bo23 : b2 ≠ o3 := fun h => ob32 h.symm
  have ob33 : o3 ≠ b3 := by intro h; have e1 := Y3.out; have e2 := X3.out; rw [h] at e1; unfold Box at e1 e2; rw [e1] at e2; cases e2
  have bo33 : b3 ≠ o3 := fun h => ob33 h.symm
  have k12 : k1 ≠ k2 := by omega
  have k13 : k1 ≠ k3 := by omega
  have k23 : k2 ≠ k3 := by omega
  rw [← cp_zero (· % P) (· / P) G1] at R1
  have lk1 : w.heap.size ≤ k1 := by omega
  rw [← cp_zero (· % P) (· / P) G2] at R2
  have lk2 : w.heap.size ≤ k2 := by omega
  rw [← cp_zero (· % P) (· / P) G3] at R3
  have lk3 : w.heap.size ≤ k3 := by omega
  go_wp2
  go_loopw [11] (fun i wr => ∃ x : Nat, x ≤ P ∧ i = .int .i64 x ∧ Hid (Row wr k1 M (cp (· % P) (· / P) G1 x 0)) ∧ Hid (Row wr k2 M (cp (· % P) (· / P) G2 x 0)) ∧ Hid (Row wr k3 M (cp (· % P) (· / P) G3 x 0)) ∧ Hid (B3 k1 k2 k3 w6 wr)) (fun i _ => P - (intOf i).toNat)
  case atStart => exact ⟨0, Nat.zero_le _, rfl, R1, R2, R3, Lib.hid (B3.of (Below.refl _ _))⟩
  case round =>
    obtain ⟨x, hx, rfl, T1, T2, T3, HU⟩ := hrel
    obtain ⟨wa, rfl⟩ : ∃ wa : World, wa = wr := ⟨_, rfl⟩
    clear R1 R2 R3
    by_cases hlt : x < P
    · have y1 : (x : Int) < (P : Int) := by omega
      go_wp2
      go_loopw [12] (fun i wr => ∃ y : Nat, y ≤ Q ∧ i = .int .i64 y ∧ Hid (Row wr k1 M (cp (· % P) (· / P) G1 x y)) ∧ Hid (Row wr k2 M (cp (· % P) (· / P) G2 x y)) ∧ Hid (Row wr k3 M (cp (· % P) (· / P) G3 x y)) ∧ Hid (B3 k1 k2 k3 w6 wr)) (fun i _ => Q - (intOf i).toNat)
      case atStart => exact ⟨0, Nat.zero_le _, rfl, T1, T2, T3, HU⟩
      case round =>
        obtain ⟨y, hy, rfl, T1, T2, T3, HU1⟩ := hrel
        obtain ⟨u0, rfl⟩ : ∃ u0 : World, u0 = wr := ⟨_, rfl⟩
        clear HU
        by_cases hly : y < Q
        · have y2 : (y : Int) < (Q : Int) := by omega
          have y3 : (0 : Int) ≤ (x : Int) := by omega
          have y4 : (0 : Int) ≤ (y : Int) := by omega
          have v1e : IntKind.i64.wrap (2 * (x : Int)) = ((2 * x : Nat) : Int) := by rw [IntWalk.i64_in _ (by omega)]; omega
          have v2e : IntKind.i64.wrap (2 * (y : Int)) = ((2 * y : Nat) : Int) := by rw [IntWalk.i64_in _ (by omega)]; omega
          have v3e : IntKind.i64.wrap (((2 * x : Nat) : Int) + 1) = ((2 * x + 1 : Nat) : Int) := by rw [IntWalk.i64_in _ (by omega)]; omega
          have v4e : IntKind.i64.wrap (((2 * y : Nat) : Int) + 1) = ((2 * y + 1 : Nat) : Int) := by rw [IntWalk.i64_in _ (by omega)]; omega
          have hi1 : 2 * x < W2 := by omega
          have hi2 : 2 * x + 1 < W2 := by omega
          have hj1 : 2 * y < H2 := by omega
          have hj2 : 2 * y + 1 < H2 := by omega
          have W1 := Lib.hid (V1.out x y)
          have W2' := Lib.hid (V2.out x y)
          have W3 := Lib.hid (V3.out x y)
          have hPLx := Lib.hid (fun j (hj : j < M) => HPL.out x y j hlt hj)
          obtain ⟨x2, hx2⟩ : ∃ z, 2 * x = z := ⟨_, rfl⟩
          obtain ⟨y2', hy2⟩ : ∃ z, 2 * y = z := ⟨_, rfl⟩
          simp only [hx2, hy2] at v1e v2e v3e v4e hi1 hi2 hj1 hj2 W1 W2' W3
          obtain ⟨x3, hx3⟩ : ∃ z, x2 + 1 = z := ⟨_, rfl⟩
          obtain ⟨y3', hy3⟩ : ∃ z, y2' + 1 = z := ⟨_, rfl⟩
          simp only [hx3, hy3] at v3e v4e hi2 hj2 W2' W3
          clear hx2 hy2 hx3 hy3
          have HK1 := Lib.hid (fun (u : World) (h : B3 k1 k2 k3 w6 u) => (show u.cell? ⟨w.heap.size, 0, none⟩ = some (.int .i64 (W2 : Nat)) ∧ u.cell? ⟨w.heap.size, 1, none⟩ = some (.int .i64 (H2 : Nat)) ∧ u.cell? ⟨w.heap.size, 2, none⟩ = some (.slice A N2 c) ∧ u.cell? ⟨o1, 0, none⟩ = some (.int .i64 (P : Nat)) ∧ u.cell? ⟨o1, 1, none⟩ = some (.int .i64 (Q : Nat)) ∧ u.cell? ⟨o1, 2, none⟩ = some (.slice (some ⟨k1, 0, none⟩) M M) from ⟨(h.box XA.out eXA1 eXA2 eXA3).c0, (h.box XA.out eXA1 eXA2 eXA3).c1, (h.box XA.out eXA1 eXA2 eXA3).c2, (h.box Y1.out eY11 eY12 eY13).c0, (h.box Y1.out eY11 eY12 eY13).c1, (h.box Y1.out eY11 eY12 eY13).c2⟩))
          have HH1 := Lib.hid (fun (u : World) (h : B3 k1 k2 k3 w6 u) => h.holds (HG.out.below LB6.out) lk1 lk2 lk3 LB6.out.size)
          have D1 := Lib.hid (HU1.out.trans (B3.of (Below.refl u0.heap.size u0).drew))
          obtain ⟨p0, p1, p2, p3, p4, p5⟩ := HK1.out _ HU1.out
          go_wp2
          go_region_held3 (fun u => u.cell? ⟨w.heap.size, 0, none⟩ = some (.int .i64 (W2 : Nat)) ∧ u.cell? ⟨w.heap.size, 1, none⟩ = some (.int .i64 (H2 : Nat)) ∧ u.cell? ⟨w.heap.size, 2, none⟩ = some (.slice A N2 c) ∧ u.cell? ⟨o1, 0, none⟩ = some (.int .i64 (P : Nat)) ∧ u.cell? ⟨o1, 1, none⟩ = some (.int .i64 (Q : Nat)) ∧ u.cell? ⟨o1, 2, none⟩ = some (.slice (some ⟨k1, 0, none⟩) M M))
            (first
              | with_reducible exact HK1.out _ D1.out
              | with_reducible exact HK1.out _ E1.out
              | with_reducible exact HK1.out _ HU2.out)
            (first
              | (go_at_call 73
                 with_reducible refine Calls.mono (HA.out _ x2 y2' (HH1.out _ D1.out) (Nat.le_trans LB6.out.size D1.out.size) hi1 hj1) ?_
                 rintro e v1 ⟨rfl, hb⟩
                 have E1 := Lib.hid (D1.out.trans (B3.of hb))
                 have T1 := Lib.hid ((T1.out.drew).below hb (T1.out.drew).lt)
                 have T2 := Lib.hid ((T2.out.drew).below hb (T2.out.drew).lt)
                 have T3 := Lib.hid ((T3.out.drew).below hb (T3.out.drew).lt)
                 clear hb)
              | (go_at_call 100
                 with_reducible refine Calls.mono (HSX.out _ _ x y _ _ T1.out hlt hly) ?_
                 rintro e u1 ⟨rfl, hr3, hb3⟩
                 have T1 := Lib.hid hr3
                 have T2 := Lib.hid (hb3.row T2.out k12.symm)
                 have T3 := Lib.hid (hb3.row T3.out k13.symm)
                 have HU2 := Lib.hid (E1.out.trans (B3.b1 hb3))
                 clear hr3 hb3))
          rw [W1.out] at T1
          have T1 := Lib.hid (T1.out.congr (f' := cp (· % P) (· / P) G1 x (y + 1)) fun j hj => cp_succ (G := G1) (hPLx.out j hj))
          clear HK1 HH1 D1 E1 HU1 p0 p1 p2 p3 p4 p5
          have HK2 := Lib.hid (fun (u : World) (h : B3 k1 k2 k3 w6 u) => (show u.cell? ⟨w.heap.size, 0, none⟩ = some (.int .i64 (W2 : Nat)) ∧ u.cell? ⟨w.heap.size, 1, none⟩ = some (.int .i64 (H2 : Nat)) ∧ u.cell? ⟨w.heap.size, 2, none⟩ = some (.slice A N2 c) ∧ u.cell? ⟨o2, 0, none⟩ = some (.int .i64 (P : Nat)) ∧ u.cell? ⟨o2, 1, none⟩ = some (.int .i64 (Q : Nat)) ∧ u.cell? ⟨o2, 2, none⟩ = some (.slice (some ⟨k2, 0, none⟩) M M) from ⟨(h.box XA.out eXA1 eXA2 eXA3).c0, (h.box XA.out eXA1 eXA2 eXA3).c1, (h.box XA.out eXA1 eXA2 eXA3).c2, (h.box Y2.out eY21 eY22 eY23).c0, (h.box Y2.out eY21 eY22 eY23).c1, (h.box Y2.out eY21 eY22 eY23).c2⟩))
          have HH2 := Lib.hid (fun (u : World) (h : B3 k1 k2 k3 w6 u) => h.holds (HG.out.below LB6.out) lk1 lk2 lk3 LB6.out.size)
          have D2 := Lib.hid (HU2.out.trans (B3.of (Below.refl u1.heap.size u1).drew))
          obtain ⟨p0, p1, p2, p3, p4, p5⟩ := HK2.out _ HU2.out
          go_wp2
          go_region_held3 (fun u => u.cell? ⟨w.heap.size, 0, none⟩ = some (.int .i64 (W2 : Nat)) ∧ u.cell? ⟨w.heap.size, 1, none⟩ = some (.int .i64 (H2 : Nat)) ∧ u.cell? ⟨w.heap.size, 2, none⟩ = some (.slice A N2 c) ∧ u.cell? ⟨o2, 0, none⟩ = some (.int .i64 (P : Nat)) ∧ u.cell? ⟨o2, 1, none⟩ = some (.int .i64 (Q : Nat)) ∧ u.cell? ⟨o2, 2, none⟩ = some (.slice (some ⟨k2, 0, none⟩) M M))
            (first
              | with_reducible exact HK2.out _ D2.out
              | with_reducible exact HK2.out _ E2.out
              | with_reducible exact HK2.out _ HU3.out)
            (first
              | (go_at_call 73
                 with_reducible refine Calls.mono (HA.out _ x3 y3' (HH2.out _ D2.out) (Nat.le_trans LB6.out.size D2.out.size) hi2 hj2) ?_
                 rintro e v2 ⟨rfl, hb⟩
                 have E2 := Lib.hid (D2.out.trans (B3.of hb))
                 have T1 := Lib.hid ((T1.out.drew).below hb (T1.out.drew).lt)
                 have T2 := Lib.hid ((T2.out.drew).below hb (T2.out.drew).lt)
                 have T3 := Lib.hid ((T3.out.drew).below hb (T3.out.drew).lt)
                 clear hb)
              | (go_at_call 100
                 with_reducible refine Calls.mono (HSX.out _ _ x y _ _ T2.out hlt hly) ?_
                 rintro e u2 ⟨rfl, hr3, hb3⟩
                 have T2 := Lib.hid hr3
                 have T1 := Lib.hid (hb3.row T1.out k12)
                 have T3 := Lib.hid (hb3.row T3.out k23.symm)
                 have HU3 := Lib.hid (E2.out.trans (B3.b2 hb3))
                 clear hr3 hb3))
          rw [W2'.out] at T2
          have T2 := Lib.hid (T2.out.congr (f' := cp (· % P) (· / P) G2 x (y + 1)) fun j hj => cp_succ (G := G2) (hPLx.out j hj))
          clear HK2 HH2 D2 E2 HU2 p0 p1 p2 p3 p4 p5
          have HK3 := Lib.hid (fun (u : World) (h : B3 k1 k2 k3 w6 u) => (show u.cell? ⟨w.heap.size, 0, none⟩ = some (.int .i64 (W2 : Nat)) ∧ u.cell? ⟨w.heap.size, 1, none⟩ = some (.int .i64 (H2 : Nat)) ∧ u.cell? ⟨w.heap.size, 2, none⟩ = some (.slice A N2 c) ∧ u.cell? ⟨o3, 0, none⟩ = some (.int .i64 (P : Nat)) ∧ u.cell? ⟨o3, 1, none⟩ = some (.int .i64 (Q : Nat)) ∧ u.cell? ⟨o3, 2, none⟩ = some (.slice (some ⟨k3, 0, none⟩) M M) from ⟨(h.box XA.out eXA1 eXA2 eXA3).c0, (h.box XA.out eXA1 eXA2 eXA3).c1, (h.box XA.out eXA1 eXA2 eXA3).c2, (h.box Y3.out eY31 eY32 eY33).c0, (h.box Y3.out eY31 eY32 eY33).c1, (h.box Y3.out eY31 eY32 eY33).c2⟩))
          have HH3 := Lib.hid (fun (u : World) (h : B3 k1 k2 k3 w6 u) => h.holds (HG.out.below LB6.out) lk1 lk2 lk3 LB6.out.size)
          have D3 := Lib.hid (HU3.out.trans (B3.of (Below.refl u2.heap.size u2).drew))
          obtain ⟨p0, p1, p2, p3, p4, p5⟩ := HK3.out _ HU3.out
          go_wp2
          go_region_held3 (fun u => u.cell? ⟨w.heap.size, 0, none⟩ = some (.int .i64 (W2 : Nat)) ∧ u.cell? ⟨w.heap.size, 1, none⟩ = some (.int .i64 (H2 : Nat)) ∧ u.cell? ⟨w.heap.size, 2, none⟩ = some (.slice A N2 c) ∧ u.cell? ⟨o3, 0, none⟩ = some (.int .i64 (P : Nat)) ∧ u.cell? ⟨o3, 1, none⟩ = some (.int .i64 (Q : Nat)) ∧ u.cell? ⟨o3, 2, none⟩ = some (.slice (some ⟨k3, 0, none⟩) M M))
            (first
              | with_reducible exact HK3.out _ D3.out
              | with_reducible exact HK3.out _ E3.out
              | with_reducible exact HK3.out _ HU4.out)
            (first
              | (go_at_call 73
                 with_reducible refine Calls.mono (HA.out _ x2 y3' (HH3.out _ D3.out) (Nat.le_trans LB6.out.size D3.out.size) hi1 hj2) ?_
                 rintro e v3 ⟨rfl, hb⟩
                 have E3 := Lib.hid (D3.out.trans (B3.of hb))
                 have T1 := Lib.hid ((T1.out.drew).below hb (T1.out.drew).lt)
                 have T2 := Lib.hid ((T2.out.drew).below hb (T2.out.drew).lt)
                 have T3 := Lib.hid ((T3.out.drew).below hb (T3.out.drew).lt)
                 clear hb)
              | (go_at_call 100
                 with_reducible refine Calls.mono (HSX.out _ _ x y _ _ T3.out hlt hly) ?_
                 rintro e u3 ⟨rfl, hr3, hb3⟩
                 have T3 := Lib.hid hr3
                 have T1 := Lib.hid (hb3.row T1.out k13)
                 have T2 := Lib.hid (hb3.row T2.out k23)
                 have HU4 := Lib.hid (E3.out.trans (B3.b3 hb3))
                 clear hr3 hb3))
          rw [W3.out] at T3
          have T3 := Lib.hid (T3.out.congr (f' := cp (· % P) (· / P) G3 x (y + 1)) fun j hj => cp_succ (G := G3) (hPLx.out j hj))
          clear HK3 HH3 D3 E3 HU3 p0 p1 p2 p3 p4 p5
          go_wp2
          go_roundw
          case rel => exact ⟨y + 1, by omega, by go_num, T1, T2, T3, HU4⟩
          case measure => simp [intOf]; omega
        · have e : y = Q := by omega
          have y2 : ¬ (y : Int) < (Q : Int) := by omega
          have T1 := Lib.hid (T1.out.congr (f' := cp (· % P) (· / P) G1 (x + 1) 0) fun j hj => by rw [e]; exact cp_next (HDV.out j hj))
          have T2 := Lib.hid (T2.out.congr (f' := cp (· % P) (· / P) G2 (x + 1) 0) fun j hj => by rw [e]; exact cp_next (HDV.out j hj))
          have T3 := Lib.hid (T3.out.congr (f' := cp (· % P) (· / P) G3 (x + 1) 0) fun j hj => by rw [e]; exact cp_next (HDV.out j hj))
          clear e
          go_wp2
          go_roundw
          case rel => exact ⟨x + 1, by omega, by go_num, T1, T2, T3, HU1⟩
          case measure => simp [intOf]; omega
    · have e : x = P := by omega
      have y1 : ¬ (x : Int) < (P : Int) := by omega
      have T1 := Lib.hid (T1.out.congr (f' := F1) fun j hj => by rw [e]; exact (cp_all (HMD.out j)).trans (U1.out j))
      have T2 := Lib.hid (T2.out.congr (f' := F2) fun j hj => by rw [e]; exact (cp_all (HMD.out j)).trans (U2.out j))
      have T3 := Lib.hid (T3.out.congr (f' := F3) fun j hj => by rw [e]; exact (cp_all (HMD.out j)).trans (U3.out j))
      have LBE := Lib.hid (HU.out.below LB6.out lk1 lk2 lk3)
      have ZA := Lib.hid (HU.out.box XA.out eXA1 eXA2 eXA3)
      have Z1 := Lib.hid (HU.out.box X1.out eX11 eX12 eX13)
      have Z2 := Lib.hid (HU.out.box X2.out eX21 eX22 eX23)
      have Z3 := Lib.hid (HU.out.box X3.out eX31 eX32 eX33)
      have ZO1 := Lib.hid (HU.out.box Y1.out eY11 eY12 eY13)
      have ZO2 := Lib.hid (HU.out.box Y2.out eY21 eY22 eY23)
      have ZO3 := Lib.hid (HU.out.box Y3.out eY31 eY32 eY33)
      clear e HU
      go_upto_region 16 with (fail)
      have HK := Lib.hid (fun (u : World) (h : Below wa.heap.size wa u) => (show u.cell? ⟨w.heap.size, 0, none⟩ = some (.int .i64 (W2 : Nat)) ∧ u.cell? ⟨w.heap.size, 1, none⟩ = some (.int .i64 (H2 : Nat)) ∧ u.cell? ⟨w.heap.size, 2, none⟩ = some (.slice A N2 c) ∧ u.cell? ⟨o1, 0, none⟩ = some (.int .i64 (P : Nat)) ∧ u.cell? ⟨o1, 1, none⟩ = some (.int .i64 (Q : Nat)) ∧ u.cell? ⟨o1, 2, none⟩ = some (.slice (some ⟨k1, 0, none⟩) M M) ∧ u.cell? ⟨o2, 0, none⟩ = some (.int .i64 (P : Nat)) ∧ u.cell? ⟨o2, 1, none⟩ = some (.int .i64 (Q : Nat)) ∧ u.cell? ⟨o2, 2, none⟩ = some (.slice (some ⟨k2, 0, none⟩) M M) ∧ u.cell? ⟨o3, 0, none⟩ = some (.int .i64 (P : Nat)) ∧ u.cell? ⟨o3, 1, none⟩ = some (.int .i64 (Q : Nat)) ∧ u.cell? ⟨o3, 2, none⟩ = some (.slice (some ⟨k3, 0, none⟩) M M) from
        ⟨(ZA.out.below h ZA.out.lt).c0, (ZA.out.below h ZA.out.lt).c1, (ZA.out.below h ZA.out.lt).c2, (ZO1.out.below h ZO1.out.lt).c0, (ZO1.out.below h ZO1.out.lt).c1, (ZO1.out.below h ZO1.out.lt).c2, (ZO2.out.below h ZO2.out.lt).c0, (ZO2.out.below h ZO2.out.lt).c1, (ZO2.out.below h ZO2.out.lt).c2, (ZO3.out.below h ZO3.out.lt).c0, (ZO3.out.below h ZO3.out.lt).c1, (ZO3.out.below h ZO3.out.lt).c2⟩))
      have B0 := Lib.hid (Below.refl wa.heap.size wa).drew
      obtain ⟨p0, p1, p2, p3, p4, p5, p6, p7, p8, p9, p10, p11⟩ := HK.out _ (Below.refl _ _)
      go_region_held3 (fun u => u.cell? ⟨w.heap.size, 0, none⟩ = some (.int .i64 (W2 : Nat)) ∧ u.cell? ⟨w.heap.size, 1, none⟩ = some (.int .i64 (H2 : Nat)) ∧ u.cell? ⟨w.heap.size, 2, none⟩ = some (.slice A N2 c) ∧ u.cell? ⟨o1, 0, none⟩ = some (.int .i64 (P : Nat)) ∧ u.cell? ⟨o1, 1, none⟩ = some (.int .i64 (Q : Nat)) ∧ u.cell? ⟨o1, 2, none⟩ = some (.slice (some ⟨k1, 0, none⟩) M M) ∧ u.cell? ⟨o2, 0, none⟩ = some (.int .i64 (P : Nat)) ∧ u.cell? ⟨o2, 1, none⟩ = some (.int .i64 (Q : Nat)) ∧ u.cell? ⟨o2, 2, none⟩ = some (.slice (some ⟨k2, 0, none⟩) M M) ∧ u.cell? ⟨o3, 0, none⟩ = some (.int .i64 (P : Nat)) ∧ u.cell? ⟨o3, 1, none⟩ = some (.int .i64 (Q : Nat)) ∧ u.cell? ⟨o3, 2, none⟩ = some (.slice (some ⟨k3, 0, none⟩) M M))
        (first
          | with_reducible exact HK.out _ B0.out
          | with_reducible exact HK.out _ B1.out
          | with_reducible exact HK.out _ B2.out)
        (first
          | (go_at_call 98
             with_reducible refine Calls.mono (HV.out _ _ _ _ T1.out.drew T2.out.drew T3.out.drew) ?_
             rintro e v1 ⟨kw, rfl, hkw, hrow, hb⟩
             have B1 := Lib.hid (B0.out.trans (hb.mono B0.out.size))
             have RW := Lib.hid hrow
             clear hb hrow)
          | (go_at_call 54
             with_reducible refine Calls.mono (HSM.out _ _ _ ((HG.out.below (LBE.out.trans (B1.out.mono LBE.out.size))).more (Nat.le_trans LBE.out.size B1.out.size)) RW.out) ?_
             rintro e v2 ⟨rfl, hb⟩
             have B2 := Lib.hid (B1.out.trans (hb.mono B1.out.size))
             clear hb))
      clear p0 p1 p2 p3 p4 p5 p6 p7 p8 p9 p10 p11 HK
      have hb := B2.out
      have LB8 := Lib.hid (LBE.out.trans (hb.mono LBE.out.size))
      have Z1 := Lib.hid (Z1.out.below hb Z1.out.lt)
      have Z2 := Lib.hid (Z2.out.below hb Z2.out.lt)
      have Z3 := Lib.hid (Z3.out.below hb Z3.out.lt)
      have ZO1 := Lib.hid (ZO1.out.below hb ZO1.out.lt)
      have ZO2 := Lib.hid (ZO2.out.below hb ZO2.out.lt)
      have ZO3 := Lib.hid (ZO3.out.below hb ZO3.out.lt)
      have T1 := Lib.hid (T1.out.below hb T1.out.lt)
      have T2 := Lib.hid (T2.out.below hb T2.out.lt)
      have T3 := Lib.hid (T3.out.below hb T3.out.lt)
      clear hb B0 B1 B2 LBE
      obtain ⟨q0, q1, q2, q3, q4, q5, q6⟩ := Z1.out.all
      obtain ⟨q7, q8, q9, q10, q11, q12, q13⟩ := Z2.out.all
      obtain ⟨q14, q15, q16, q17, q18, q19, q20⟩ := Z3.out.all
      obtain ⟨q21, q22, q23, q24, q25, q26, q27⟩ := ZO1.out.all
      obtain ⟨q28, q29, q30, q31, q32, q33, q34⟩ := ZO2.out.all
      obtain ⟨q35, q36, q37, q38, q39, q40, q41⟩ := ZO3.out.all
      have n12 : b1 ≠ b2 := by omega
      have n13 : b1 ≠ b3 := by omega
      have n23 : b2 ≠ b3 := by omega
      have n21 : b2 ≠ b1 := by omega
      have n31 : b3 ≠ b1 := by omega
      have n32 : b3 ≠ b2 := by omega
      go_upto_region 18 with (fail)
      go_region
      clear q0 q1 q2 q3 q4 q5 q6 q7 q8 q9 q10 q11 q12 q13 q14 q15 q16 q17 q18 q19 q20 q21 q22 q23 q24 q25 q26 q27 q28 q29 q30 q31 q32 q33 q34 q35 q36 q37 q38 q39 q40 q41
      have S1 := Lib.hid (((((((T1.out).st3 (fun h => eX11 h.symm) (.int .i64 (P : Nat)) (.int .i64 (Q : Nat)) (.slice (some ⟨k1, 0, none⟩) M M))).st3 (fun h => eX21 h.symm) (.int .i64 (P : Nat)) (.int .i64 (Q : Nat)) (.slice (some ⟨k2, 0, none⟩) M M))).st3 (fun h => eX31 h.symm) (.int .i64 (P : Nat)) (.int .i64 (Q : Nat)) (.slice (some ⟨k3, 0, none⟩) M M))).drew
      have S2 := Lib.hid (((((((T2.out).st3 (fun h => eX12 h.symm) (.int .i64 (P : Nat)) (.int .i64 (Q : Nat)) (.slice (some ⟨k1, 0, none⟩) M M))).st3 (fun h => eX22 h.symm) (.int .i64 (P : Nat)) (.int .i64 (Q : Nat)) (.slice (some ⟨k2, 0, none⟩) M M))).st3 (fun h => eX32 h.symm) (.int .i64 (P : Nat)) (.int .i64 (Q : Nat)) (.slice (some ⟨k3, 0, none⟩) M M))).drew
      have S3 := Lib.hid (((((((T3.out).st3 (fun h => eX13 h.symm) (.int .i64 (P : Nat)) (.int .i64 (Q : Nat)) (.slice (some ⟨k1, 0, none⟩) M M))).st3 (fun h => eX23 h.symm) (.int .i64 (P : Nat)) (.int .i64 (Q : Nat)) (.slice (some ⟨k2, 0, none⟩) M M))).st3 (fun h => eX33 h.symm) (.int .i64 (P : Nat)) (.int .i64 (Q : Nat)) (.slice (some ⟨k3, 0, none⟩) M M))).drew
      have C1 := Lib.hid (((((((Z1.out).st3 (P : Nat) (Q : Nat) (.slice (some ⟨k1, 0, none⟩) M M))).st3f n12 (.int .i64 (P : Nat)) (.int .i64 (Q : Nat)) (.slice (some ⟨k2, 0, none⟩) M M))).st3f n13 (.int .i64 (P : Nat)) (.int .i64 (Q : Nat)) (.slice (some ⟨k3, 0, none⟩) M M))).drew
      have C2 := Lib.hid (((((((Z2.out).st3f n21 (.int .i64 (P : Nat)) (.int .i64 (Q : Nat)) (.slice (some ⟨k1, 0, none⟩) M M))).st3 (P : Nat) (Q : Nat) (.slice (some ⟨k2, 0, none⟩) M M))).st3f n23 (.int .i64 (P : Nat)) (.int .i64 (Q : Nat)) (.slice (some ⟨k3, 0, none⟩) M M))).drew
      have C3 := Lib.hid (((((((Z3.out).st3f n31 (.int .i64 (P : Nat)) (.int .i64 (Q : Nat)) (.slice (some ⟨k1, 0, none⟩) M M))).st3f n32 (.int .i64 (P : Nat)) (.int .i64 (Q : Nat)) (.slice (some ⟨k2, 0, none⟩) M M))).st3 (P : Nat) (Q : Nat) (.slice (some ⟨k3, 0, none⟩) M M))).drew
      have LB9 := Lib.hid ((bel_st3 (bel_st3 (bel_st3 LB8.out (g := b1) (by omega) (.int .i64 (P : Nat)) (.int .i64 (Q : Nat)) (.slice (some ⟨k1, 0, none⟩) M M)) (g := b2) (by omega) (.int .i64 (P : Nat)) (.int .i64 (Q : Nat)) (.slice (some ⟨k2, 0, none⟩) M M)) (g := b3) (by omega) (.int .i64 (P : Nat)) (.int .i64 (Q : Nat)) (.slice (some ⟨k3, 0, none⟩) M M))).drew
      clear Z1 Z2 Z3 ZO1 ZO2 ZO3 T1 T2 T3 LB8
      generalize ((((((((((v2).setCell ⟨b1, 0, none⟩ (.int .i64 (P : Nat))).setCell ⟨b1, 1, none⟩ (.int .i64 (Q : Nat))).setCell ⟨b1, 2, none⟩ (.slice (some ⟨k1, 0, none⟩) M M)).setCell ⟨b2, 0, none⟩ (.int .i64 (P : Nat))).setCell ⟨b2, 1, none⟩ (.int .i64 (Q : Nat))).setCell ⟨b2, 2, none⟩ (.slice (some ⟨k2, 0, none⟩) M M)).setCell ⟨b3, 0, none⟩ (.int .i64 (P : Nat))).setCell ⟨b3, 1, none⟩ (.int .i64 (Q : Nat))).setCell ⟨b3, 2, none⟩ (.slice (some ⟨k3, 0, none⟩) M M)).drew = w9 at *
      obtain ⟨q0, q1, q2, q3, q4, q5, q6⟩ := C1.out.all
      obtain ⟨q7, q8, q9, q10, q11, q12, q13⟩ := C2.out.all
      obtain ⟨q14, q15, q16, q17, q18, q19, q20⟩ := C3.out.all
      go_wp2
      refine bodyPost_ret (v := .tuple #[.agg #[.int .i64 (P : Nat), .int .i64 (Q : Nat), .slice (some ⟨k1, 0, none⟩) M M], .agg #[.int .i64 (P : Nat), .int .i64 (Q : Nat), .slice (some ⟨k2, 0, none⟩) M M], .agg #[.int .i64 (P : Nat), .int .i64 (Q : Nat), .slice (some ⟨k3, 0, none⟩) M M], .int .i64 0]) (by simp [results, Try.results53, go_sem, q0, q1, q2, q3, q4, q5, q6, q7, q8, q9, q10, q11, q12, q13, q14, q15, q16, q17, q18, q19, q20]) rfl ?_
      exact ⟨_, _, _, _, _, _, rfl, S1.out.holds S1.out.lt, S2.out.holds S2.out.lt, S3.out.holds S3.out.lt, LB9.out⟩
end Go.Proofs.Ytgmcbdnfgdmmaaa
