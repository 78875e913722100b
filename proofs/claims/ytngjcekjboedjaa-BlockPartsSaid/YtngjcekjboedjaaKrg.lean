/- Layer 13 of the reference: Fill, where sizes agree. -/
import Derived.Test.YtngjcekjboedjaaKrf
import Derived.Test.YtngjcekjboedjaaKpk
namespace Go.Proofs.Ytngjcekjboedjaa
open Go.RowKit
set_option maxRecDepth 100000
set_option linter.unusedVariables false
set_option linter.unusedSimpArgs false

set_option maxHeartbeats 1600000 in
theorem rfill_many1 (W H u v : Nat) (A B C : Option Addr) (c d e : Nat) (w : World) (W0 : 1 ≤ W) (hW : W ≤ 64) (H0 : 1 ≤ H) (hH : H ≤ 64) (u0 : 1 ≤ u) (u1 : u ≤ 64) (v0 : 1 ≤ v) (v1 : v ≤ 64) (F : Nat → Bool) (h6 : 64 < W * u) : Calls Try.prog 46 #[.agg #[.int .i64 (W : Nat), .int .i64 (H : Nat), .slice A (W * H) c], .agg #[.int .i64 (u : Nat), .int .i64 (v : Nat), .slice B (u * v) d], .agg #[.int .i64 (u : Nat), .int .i64 (v : Nat), .slice C (u * v) e]] w (RG w 0 0 0 F 4) := by
  have hM : W * H ≤ 64 * 64 := Nat.mul_le_mul hW hH
  have hmm : u * v ≤ 64 * 64 := Nat.mul_le_mul u1 v1
  have HT := Lib.hid (fun z => rthree_any (W : Nat) (H : Nat) (u : Nat) (v : Nat) (u : Nat) (v : Nat) A B C (W * H) c (u * v) d (u * v) e z (by omega) (by omega) (by omega))
  rw [show th3 (chk (W : Nat) (H : Nat) (W * H)) (chk (u : Nat) (v : Nat) (u * v)) (chk (u : Nat) (v : Nat) (u * v)) = 0 by rw [chk_zero W0 hW H0 hH, chk_zero u0 u1 v0 v1]; rfl] at HT
  have y1 : ((0 : Int) != 0) = false := rfl
  have y2 : ((u : Int) != (u : Int)) = false := by simp
  have y3 : ((v : Int) != (v : Int)) = false := by simp
  have f1 := wrap_mul (a := W) (b := u) (Nat.le_trans (Nat.mul_le_mul hW u1) (by omega))
  have f2 := wrap_mul (a := H) (b := v) (Nat.le_trans (Nat.mul_le_mul hH v1) (by omega))
  obtain ⟨P, hP⟩ : ∃ z, W * u = z := ⟨_, rfl⟩
  obtain ⟨Qq, hQ⟩ : ∃ z, H * v = z := ⟨_, rfl⟩
  have HPE := Lib.hid hP
  have HQE := Lib.hid hQ
  simp only [hP] at f1 h6
  simp only [hQ] at f2
  obtain ⟨M, hMe⟩ : ∃ z, W * H = z := ⟨_, rfl⟩
  have HME := Lib.hid hMe
  obtain ⟨mm, hme⟩ : ∃ z, u * v = z := ⟨_, rfl⟩
  have HMM := Lib.hid hme
  simp only [hMe, hme] at HT ⊢
  clear hP hQ hMe hme hM hmm
  have y4 : decide ((64 : Int) < (P : Int)) = true := decide_eq_true (by omega)
  have LB0 := Lib.hid (Below.refl w.heap.size w)
  have X1 := Lib.hid (Box.new w (W : Nat) (H : Nat) (.slice A M c))
  have LB0 := Lib.hid (LB0.out.alloc LB0.out.size (.cells #[.int .i64 (W : Nat), .int .i64 (H : Nat), .slice A M c] 24))
  have X1 := Lib.hid (X1.out.alloc (.cells #[.int .i64 (u : Nat), .int .i64 (v : Nat), .slice B mm d] 24))
  have X2 := Box.new (w.alloc (.cells #[.int .i64 (W : Nat), .int .i64 (H : Nat), .slice A M c] 24)) (u : Nat) (v : Nat) (.slice B mm d)
  rw [show ((w.alloc (.cells #[.int .i64 (W : Nat), .int .i64 (H : Nat), .slice A M c] 24))).heap.size = w.heap.size + 1 by simp] at X2
  have X2 := Lib.hid X2
  have LB0 := Lib.hid (LB0.out.alloc LB0.out.size (.cells #[.int .i64 (u : Nat), .int .i64 (v : Nat), .slice B mm d] 24))
  have X1 := Lib.hid (X1.out.alloc (.cells #[.int .i64 (u : Nat), .int .i64 (v : Nat), .slice C mm e] 24))
  have X2 := Lib.hid (X2.out.alloc (.cells #[.int .i64 (u : Nat), .int .i64 (v : Nat), .slice C mm e] 24))
  have X3 := Box.new ((w.alloc (.cells #[.int .i64 (W : Nat), .int .i64 (H : Nat), .slice A M c] 24)).alloc (.cells #[.int .i64 (u : Nat), .int .i64 (v : Nat), .slice B mm d] 24)) (u : Nat) (v : Nat) (.slice C mm e)
  rw [show (((w.alloc (.cells #[.int .i64 (W : Nat), .int .i64 (H : Nat), .slice A M c] 24)).alloc (.cells #[.int .i64 (u : Nat), .int .i64 (v : Nat), .slice B mm d] 24))).heap.size = w.heap.size + 2 by simp] at X3
  have X3 := Lib.hid X3
  have LB0 := Lib.hid (LB0.out.alloc LB0.out.size (.cells #[.int .i64 (u : Nat), .int .i64 (v : Nat), .slice C mm e] 24))
  have X1 := Lib.hid (X1.out.alloc (.cells #[.int .i64 0, .int .i64 0, .slice none 0 0] 24))
  have X2 := Lib.hid (X2.out.alloc (.cells #[.int .i64 0, .int .i64 0, .slice none 0 0] 24))
  have X3 := Lib.hid (X3.out.alloc (.cells #[.int .i64 0, .int .i64 0, .slice none 0 0] 24))
  have R0 := Box.new (((w.alloc (.cells #[.int .i64 (W : Nat), .int .i64 (H : Nat), .slice A M c] 24)).alloc (.cells #[.int .i64 (u : Nat), .int .i64 (v : Nat), .slice B mm d] 24)).alloc (.cells #[.int .i64 (u : Nat), .int .i64 (v : Nat), .slice C mm e] 24)) 0 0 (.slice none 0 0)
  rw [show ((((w.alloc (.cells #[.int .i64 (W : Nat), .int .i64 (H : Nat), .slice A M c] 24)).alloc (.cells #[.int .i64 (u : Nat), .int .i64 (v : Nat), .slice B mm d] 24)).alloc (.cells #[.int .i64 (u : Nat), .int .i64 (v : Nat), .slice C mm e] 24))).heap.size = w.heap.size + 3 by simp] at R0
  have R0 := Lib.hid R0
  have LB0 := Lib.hid (LB0.out.alloc LB0.out.size (.cells #[.int .i64 0, .int .i64 0, .slice none 0 0] 24))
  go_enter Try.func46, Try.ntmps46
  go_upto_region 1 with (fail)
  generalize (((w.alloc (.cells #[.int .i64 (W : Nat), .int .i64 (H : Nat), .slice A M c] 24)).alloc (.cells #[.int .i64 (u : Nat), .int .i64 (v : Nat), .slice B mm d] 24)).alloc (.cells #[.int .i64 (u : Nat), .int .i64 (v : Nat), .slice C mm e] 24)).alloc (.cells #[.int .i64 0, .int .i64 0, .slice none 0 0] 24) = w0 at *
  obtain ⟨q0, q1, q2, q3, q4, q5, q6⟩ := X1.out.all
  obtain ⟨q7, q8, q9, q10, q11, q12, q13⟩ := X2.out.all
  obtain ⟨q14, q15, q16, q17, q18, q19, q20⟩ := X3.out.all
  go_wp2_with fail
  clear q0 q1 q2 q3 q4 q5 q6 q7 q8 q9 q10 q11 q12 q13 q14 q15 q16 q17 q18 q19 q20
  with_reducible refine Calls.mono (HT.out _) ?_
  rintro e w1 ⟨rfl, hb⟩
  have LB1 := Lib.hid (LB0.out.trans (hb.mono LB0.out.size))
  have X1 := Lib.hid (X1.out.below hb X1.out.lt)
  have X2 := Lib.hid (X2.out.below hb X2.out.lt)
  have X3 := Lib.hid (X3.out.below hb X3.out.lt)
  have R0 := Lib.hid (R0.out.below hb R0.out.lt)
  clear hb LB0 
  obtain ⟨q0, q1, q2, q3, q4, q5, q6⟩ := X1.out.all
  obtain ⟨q7, q8, q9, q10, q11, q12, q13⟩ := X2.out.all
  obtain ⟨q14, q15, q16, q17, q18, q19, q20⟩ := X3.out.all
  go_upto_region 3 with (fail)
  go_quiet (fail)
  have LB2 := Lib.hid (bel_dn LB1.out nq)
  have R0 := Lib.hid (show Box (w1.drewN nq) (w.heap.size + 3) 0 0 (.slice none 0 0) from R0.out)
  have X1 := Lib.hid (show Box (w1.drewN nq) w.heap.size (W : Nat) (H : Nat) (.slice A M c) from X1.out)
  have X2 := Lib.hid (show Box (w1.drewN nq) (w.heap.size + 1) (u : Nat) (v : Nat) (.slice B mm d) from X2.out)
  have X3 := Lib.hid (show Box (w1.drewN nq) (w.heap.size + 2) (u : Nat) (v : Nat) (.slice C mm e) from X3.out)
  generalize w1.drewN nq = w2 at *
  clear q0 q1 q2 q3 q4 q5 q6 q7 q8 q9 q10 q11 q12 q13 q14 q15 q16 q17 q18 q19 q20
  obtain ⟨q0, q1, q2, q3, q4, q5, q6⟩ := X1.out.all
  obtain ⟨q7, q8, q9, q10, q11, q12, q13⟩ := X2.out.all
  obtain ⟨q14, q15, q16, q17, q18, q19, q20⟩ := X3.out.all
  go_upto_region 7 with (fail)
  clear q0 q1 q2 q3 q4 q5 q6 q7 q8 q9 q10 q11 q12 q13 q14 q15 q16 q17 q18 q19 q20
  obtain ⟨rb, hrb⟩ : ∃ z, w.heap.size + 3 = z := ⟨_, rfl⟩
  have hrw : w.heap.size ≤ rb := by omega
  rw [hrb] at R0 ⊢
  clear hrb
  obtain ⟨q0, q1, q2, q3, q4, q5, q6⟩ := R0.out.all
  go_wp2
  refine bodyPost_ret (v := .tuple #[.agg #[.int .i64 0, .int .i64 0, .slice none 0 0], .int .i64 4]) (by simp [results, Try.results46, go_sem, q0, q1, q2, q3, q4, q5]) rfl ?_
  exact RG.err (fin_err hrw LB2.out)
set_option maxHeartbeats 1600000 in
theorem rfill_many2 (W H u v : Nat) (A B C : Option Addr) (c d e : Nat) (w : World) (W0 : 1 ≤ W) (hW : W ≤ 64) (H0 : 1 ≤ H) (hH : H ≤ 64) (u0 : 1 ≤ u) (u1 : u ≤ 64) (v0 : 1 ≤ v) (v1 : v ≤ 64) (F : Nat → Bool) (h6 : W * u ≤ 64) (h7 : 64 < H * v) : Calls Try.prog 46 #[.agg #[.int .i64 (W : Nat), .int .i64 (H : Nat), .slice A (W * H) c], .agg #[.int .i64 (u : Nat), .int .i64 (v : Nat), .slice B (u * v) d], .agg #[.int .i64 (u : Nat), .int .i64 (v : Nat), .slice C (u * v) e]] w (RG w 0 0 0 F 4) := by
  have hM : W * H ≤ 64 * 64 := Nat.mul_le_mul hW hH
  have hmm : u * v ≤ 64 * 64 := Nat.mul_le_mul u1 v1
  have HT := Lib.hid (fun z => rthree_any (W : Nat) (H : Nat) (u : Nat) (v : Nat) (u : Nat) (v : Nat) A B C (W * H) c (u * v) d (u * v) e z (by omega) (by omega) (by omega))
  rw [show th3 (chk (W : Nat) (H : Nat) (W * H)) (chk (u : Nat) (v : Nat) (u * v)) (chk (u : Nat) (v : Nat) (u * v)) = 0 by rw [chk_zero W0 hW H0 hH, chk_zero u0 u1 v0 v1]; rfl] at HT
  have y1 : ((0 : Int) != 0) = false := rfl
  have y2 : ((u : Int) != (u : Int)) = false := by simp
  have y3 : ((v : Int) != (v : Int)) = false := by simp
  have f1 := wrap_mul (a := W) (b := u) (Nat.le_trans (Nat.mul_le_mul hW u1) (by omega))
  have f2 := wrap_mul (a := H) (b := v) (Nat.le_trans (Nat.mul_le_mul hH v1) (by omega))
  obtain ⟨P, hP⟩ : ∃ z, W * u = z := ⟨_, rfl⟩
  obtain ⟨Qq, hQ⟩ : ∃ z, H * v = z := ⟨_, rfl⟩
  have HPE := Lib.hid hP
  have HQE := Lib.hid hQ
  simp only [hP] at f1 h6
  simp only [hQ] at f2 h7
  obtain ⟨M, hMe⟩ : ∃ z, W * H = z := ⟨_, rfl⟩
  have HME := Lib.hid hMe
  obtain ⟨mm, hme⟩ : ∃ z, u * v = z := ⟨_, rfl⟩
  have HMM := Lib.hid hme
  simp only [hMe, hme] at HT ⊢
  clear hP hQ hMe hme hM hmm
  have y4 : decide ((64 : Int) < (P : Int)) = false := decide_eq_false (by omega)
  have y5 : (64 : Int) < (Qq : Int) := by omega
  have LB0 := Lib.hid (Below.refl w.heap.size w)
  have X1 := Lib.hid (Box.new w (W : Nat) (H : Nat) (.slice A M c))
  have LB0 := Lib.hid (LB0.out.alloc LB0.out.size (.cells #[.int .i64 (W : Nat), .int .i64 (H : Nat), .slice A M c] 24))
  have X1 := Lib.hid (X1.out.alloc (.cells #[.int .i64 (u : Nat), .int .i64 (v : Nat), .slice B mm d] 24))
  have X2 := Box.new (w.alloc (.cells #[.int .i64 (W : Nat), .int .i64 (H : Nat), .slice A M c] 24)) (u : Nat) (v : Nat) (.slice B mm d)
  rw [show ((w.alloc (.cells #[.int .i64 (W : Nat), .int .i64 (H : Nat), .slice A M c] 24))).heap.size = w.heap.size + 1 by simp] at X2
  have X2 := Lib.hid X2
  have LB0 := Lib.hid (LB0.out.alloc LB0.out.size (.cells #[.int .i64 (u : Nat), .int .i64 (v : Nat), .slice B mm d] 24))
  have X1 := Lib.hid (X1.out.alloc (.cells #[.int .i64 (u : Nat), .int .i64 (v : Nat), .slice C mm e] 24))
  have X2 := Lib.hid (X2.out.alloc (.cells #[.int .i64 (u : Nat), .int .i64 (v : Nat), .slice C mm e] 24))
  have X3 := Box.new ((w.alloc (.cells #[.int .i64 (W : Nat), .int .i64 (H : Nat), .slice A M c] 24)).alloc (.cells #[.int .i64 (u : Nat), .int .i64 (v : Nat), .slice B mm d] 24)) (u : Nat) (v : Nat) (.slice C mm e)
  rw [show (((w.alloc (.cells #[.int .i64 (W : Nat), .int .i64 (H : Nat), .slice A M c] 24)).alloc (.cells #[.int .i64 (u : Nat), .int .i64 (v : Nat), .slice B mm d] 24))).heap.size = w.heap.size + 2 by simp] at X3
  have X3 := Lib.hid X3
  have LB0 := Lib.hid (LB0.out.alloc LB0.out.size (.cells #[.int .i64 (u : Nat), .int .i64 (v : Nat), .slice C mm e] 24))
  have X1 := Lib.hid (X1.out.alloc (.cells #[.int .i64 0, .int .i64 0, .slice none 0 0] 24))
  have X2 := Lib.hid (X2.out.alloc (.cells #[.int .i64 0, .int .i64 0, .slice none 0 0] 24))
  have X3 := Lib.hid (X3.out.alloc (.cells #[.int .i64 0, .int .i64 0, .slice none 0 0] 24))
  have R0 := Box.new (((w.alloc (.cells #[.int .i64 (W : Nat), .int .i64 (H : Nat), .slice A M c] 24)).alloc (.cells #[.int .i64 (u : Nat), .int .i64 (v : Nat), .slice B mm d] 24)).alloc (.cells #[.int .i64 (u : Nat), .int .i64 (v : Nat), .slice C mm e] 24)) 0 0 (.slice none 0 0)
  rw [show ((((w.alloc (.cells #[.int .i64 (W : Nat), .int .i64 (H : Nat), .slice A M c] 24)).alloc (.cells #[.int .i64 (u : Nat), .int .i64 (v : Nat), .slice B mm d] 24)).alloc (.cells #[.int .i64 (u : Nat), .int .i64 (v : Nat), .slice C mm e] 24))).heap.size = w.heap.size + 3 by simp] at R0
  have R0 := Lib.hid R0
  have LB0 := Lib.hid (LB0.out.alloc LB0.out.size (.cells #[.int .i64 0, .int .i64 0, .slice none 0 0] 24))
  go_enter Try.func46, Try.ntmps46
  go_upto_region 1 with (fail)
  generalize (((w.alloc (.cells #[.int .i64 (W : Nat), .int .i64 (H : Nat), .slice A M c] 24)).alloc (.cells #[.int .i64 (u : Nat), .int .i64 (v : Nat), .slice B mm d] 24)).alloc (.cells #[.int .i64 (u : Nat), .int .i64 (v : Nat), .slice C mm e] 24)).alloc (.cells #[.int .i64 0, .int .i64 0, .slice none 0 0] 24) = w0 at *
  obtain ⟨q0, q1, q2, q3, q4, q5, q6⟩ := X1.out.all
  obtain ⟨q7, q8, q9, q10, q11, q12, q13⟩ := X2.out.all
  obtain ⟨q14, q15, q16, q17, q18, q19, q20⟩ := X3.out.all
  go_wp2_with fail
  clear q0 q1 q2 q3 q4 q5 q6 q7 q8 q9 q10 q11 q12 q13 q14 q15 q16 q17 q18 q19 q20
  with_reducible refine Calls.mono (HT.out _) ?_
  rintro e w1 ⟨rfl, hb⟩
  have LB1 := Lib.hid (LB0.out.trans (hb.mono LB0.out.size))
  have X1 := Lib.hid (X1.out.below hb X1.out.lt)
  have X2 := Lib.hid (X2.out.below hb X2.out.lt)
  have X3 := Lib.hid (X3.out.below hb X3.out.lt)
  have R0 := Lib.hid (R0.out.below hb R0.out.lt)
  clear hb LB0 
  obtain ⟨q0, q1, q2, q3, q4, q5, q6⟩ := X1.out.all
  obtain ⟨q7, q8, q9, q10, q11, q12, q13⟩ := X2.out.all
  obtain ⟨q14, q15, q16, q17, q18, q19, q20⟩ := X3.out.all
  go_upto_region 3 with (fail)
  go_quiet (fail)
  have LB2 := Lib.hid (bel_dn LB1.out nq)
  have R0 := Lib.hid (show Box (w1.drewN nq) (w.heap.size + 3) 0 0 (.slice none 0 0) from R0.out)
  have X1 := Lib.hid (show Box (w1.drewN nq) w.heap.size (W : Nat) (H : Nat) (.slice A M c) from X1.out)
  have X2 := Lib.hid (show Box (w1.drewN nq) (w.heap.size + 1) (u : Nat) (v : Nat) (.slice B mm d) from X2.out)
  have X3 := Lib.hid (show Box (w1.drewN nq) (w.heap.size + 2) (u : Nat) (v : Nat) (.slice C mm e) from X3.out)
  generalize w1.drewN nq = w2 at *
  clear q0 q1 q2 q3 q4 q5 q6 q7 q8 q9 q10 q11 q12 q13 q14 q15 q16 q17 q18 q19 q20
  obtain ⟨q0, q1, q2, q3, q4, q5, q6⟩ := X1.out.all
  obtain ⟨q7, q8, q9, q10, q11, q12, q13⟩ := X2.out.all
  obtain ⟨q14, q15, q16, q17, q18, q19, q20⟩ := X3.out.all
  go_upto_region 7 with (fail)
  clear q0 q1 q2 q3 q4 q5 q6 q7 q8 q9 q10 q11 q12 q13 q14 q15 q16 q17 q18 q19 q20
  obtain ⟨rb, hrb⟩ : ∃ z, w.heap.size + 3 = z := ⟨_, rfl⟩
  have hrw : w.heap.size ≤ rb := by omega
  rw [hrb] at R0 ⊢
  clear hrb
  obtain ⟨q0, q1, q2, q3, q4, q5, q6⟩ := R0.out.all
  go_wp2
  refine bodyPost_ret (v := .tuple #[.agg #[.int .i64 0, .int .i64 0, .slice none 0 0], .int .i64 4]) (by simp [results, Try.results46, go_sem, q0, q1, q2, q3, q4, q5]) rfl ?_
  exact RG.err (fin_err hrw LB2.out)
theorem But.of {k : Nat} {w w' : World} (hb : Below w.heap.size w w') : But k w w' := ⟨hb.os, hb.tape, hb.output, hb.size, fun b h _ => hb.block b h⟩
theorem But.trans {k : Nat} {w w' w'' : World} (h1 : But k w w') (h2 : But k w' w'') : But k w w'' :=
  ⟨h2.os.trans h1.os, h2.tape.trans h1.tape, h2.output.trans h1.output, Nat.le_trans h1.size h2.size, fun b hb hne => (h2.block b (Nat.lt_of_lt_of_le hb h1.size) hne).trans (h1.block b hb hne)⟩
set_option maxHeartbeats 6400000 in
theorem rfill_ok (W H u v : Nat) (A B C : Option Addr) (c d e : Nat) (w : World) (W0 : 1 ≤ W) (hW : W ≤ 64) (H0 : 1 ≤ H) (hH : H ≤ 64) (u0 : 1 ≤ u) (u1 : u ≤ 64) (v0 : 1 ≤ v) (v1 : v ≤ 64) (f a b : Nat → Bool) (hf : Holds w w.heap.size A (W * H) f) (ha : Holds w w.heap.size B (u * v) a) (hb1 : Holds w w.heap.size C (u * v) b) (h6 : W * u ≤ 64) (h7 : H * v ≤ 64) : Calls Try.prog 46 #[.agg #[.int .i64 (W : Nat), .int .i64 (H : Nat), .slice A (W * H) c], .agg #[.int .i64 (u : Nat), .int .i64 (v : Nat), .slice B (u * v) d], .agg #[.int .i64 (u : Nat), .int .i64 (v : Nat), .slice C (u * v) e]] w (RG w ((W * u : Nat) : Int) ((H * v : Nat) : Int) (W * u * (H * v)) (fil W u v f a b) 0) := by
  have hM : W * H ≤ 64 * 64 := Nat.mul_le_mul hW hH
  have hmm : u * v ≤ 64 * 64 := Nat.mul_le_mul u1 v1
  have HT := Lib.hid (fun z => rthree_any (W : Nat) (H : Nat) (u : Nat) (v : Nat) (u : Nat) (v : Nat) A B C (W * H) c (u * v) d (u * v) e z (by omega) (by omega) (by omega))
  rw [show th3 (chk (W : Nat) (H : Nat) (W * H)) (chk (u : Nat) (v : Nat) (u * v)) (chk (u : Nat) (v : Nat) (u * v)) = 0 by rw [chk_zero W0 hW H0 hH, chk_zero u0 u1 v0 v1]; rfl] at HT
  have y1 : ((0 : Int) != 0) = false := rfl
  have y2 : ((u : Int) != (u : Int)) = false := by simp
  have y3 : ((v : Int) != (v : Int)) = false := by simp
  have f1 := wrap_mul (a := W) (b := u) (Nat.le_trans (Nat.mul_le_mul hW u1) (by omega))
  have f2 := wrap_mul (a := H) (b := v) (Nat.le_trans (Nat.mul_le_mul hH v1) (by omega))
  obtain ⟨P, hP⟩ : ∃ z, W * u = z := ⟨_, rfl⟩
  obtain ⟨Qq, hQ⟩ : ∃ z, H * v = z := ⟨_, rfl⟩
  have HPE := Lib.hid hP
  have HQE := Lib.hid hQ
  simp only [hP] at f1 h6
  simp only [hQ] at f2 h7
  obtain ⟨M, hMe⟩ : ∃ z, W * H = z := ⟨_, rfl⟩
  have HME := Lib.hid hMe
  obtain ⟨mm, hme⟩ : ∃ z, u * v = z := ⟨_, rfl⟩
  have HMM := Lib.hid hme
  have HA := Lib.hid hf
  have HB := Lib.hid ha
  have HC := Lib.hid hb1
  have y4 : decide ((64 : Int) < (P : Int)) = false := decide_eq_false (by omega)
  have y5 : ¬ (64 : Int) < (Qq : Int) := by omega
  have y11 : ((u : Int) == 0) = false := by rw [beq_eq_false_iff_ne]; omega
  have y12 : ((v : Int) == 0) = false := by rw [beq_eq_false_iff_ne]; omega
  have y13 : ¬ u = 0 := by omega
  have y14 : ¬ v = 0 := by omega
  have HZ := Lib.hid (fun z => zero_int (P : Nat) (Qq : Nat) P Qq rfl rfl h6 h7 z)
  have hPe : 1 ≤ P := by rw [← hP]; exact Nat.mul_le_mul W0 u0
  obtain ⟨N, hN⟩ : ∃ z, P * Qq = z := ⟨_, rfl⟩
  have HNE := Lib.hid hN
  simp only [hN] at HZ
  simp only [hP, hQ, hN]
  simp only [hMe, hme] at HT HA HB HC ⊢
  have HAT1 := Lib.hid (fun z x y (hx : x < W) (hy : y < H) (hr : Holds z z.heap.size A M f) => at_nat W H A c (x : Nat) (y : Nat) f z z.heap.size (by rw [hMe]; exact hr) (Nat.le_refl _) hW hH x y rfl rfl hx hy)
  have HAT2 := Lib.hid (fun z x y (hx : x < u) (hy : y < v) (hr : Holds z z.heap.size B mm a) => at_nat u v B d (x : Nat) (y : Nat) a z z.heap.size (by rw [hme]; exact hr) (Nat.le_refl _) u1 v1 x y rfl rfl hx hy)
  have HAT3 := Lib.hid (fun z x y (hx : x < u) (hy : y < v) (hr : Holds z z.heap.size C mm b) => at_nat u v C e (x : Nat) (y : Nat) b z z.heap.size (by rw [hme]; exact hr) (Nat.le_refl _) u1 v1 x y rfl rfl hx hy)
  have HST := Lib.hid (fun z k c1 x y q (F : Nat → Bool) (hx : x < P) (hy : y < Qq) (hr : Row z k N F) => set_nat P Qq k c1 (x : Nat) (y : Nat) q F z (by rw [hN]; exact hr) h6 h7 x y rfl rfl hx hy)
  simp only [hMe] at HAT1
  simp only [hme] at HAT2 HAT3
  simp only [hN] at HST
  clear hP hQ hMe hme hM hmm hf ha hb1 hN
  have LB0 := Lib.hid (Below.refl w.heap.size w)
  have X1 := Lib.hid (Box.new w (W : Nat) (H : Nat) (.slice A M c))
  have LB0 := Lib.hid (LB0.out.alloc LB0.out.size (.cells #[.int .i64 (W : Nat), .int .i64 (H : Nat), .slice A M c] 24))
  have X1 := Lib.hid (X1.out.alloc (.cells #[.int .i64 (u : Nat), .int .i64 (v : Nat), .slice B mm d] 24))
  have X2 := Box.new (w.alloc (.cells #[.int .i64 (W : Nat), .int .i64 (H : Nat), .slice A M c] 24)) (u : Nat) (v : Nat) (.slice B mm d)
  rw [show ((w.alloc (.cells #[.int .i64 (W : Nat), .int .i64 (H : Nat), .slice A M c] 24))).heap.size = w.heap.size + 1 by simp] at X2
  have X2 := Lib.hid X2
  have LB0 := Lib.hid (LB0.out.alloc LB0.out.size (.cells #[.int .i64 (u : Nat), .int .i64 (v : Nat), .slice B mm d] 24))
  have X1 := Lib.hid (X1.out.alloc (.cells #[.int .i64 (u : Nat), .int .i64 (v : Nat), .slice C mm e] 24))
  have X2 := Lib.hid (X2.out.alloc (.cells #[.int .i64 (u : Nat), .int .i64 (v : Nat), .slice C mm e] 24))
  have X3 := Box.new ((w.alloc (.cells #[.int .i64 (W : Nat), .int .i64 (H : Nat), .slice A M c] 24)).alloc (.cells #[.int .i64 (u : Nat), .int .i64 (v : Nat), .slice B mm d] 24)) (u : Nat) (v : Nat) (.slice C mm e)
  rw [show (((w.alloc (.cells #[.int .i64 (W : Nat), .int .i64 (H : Nat), .slice A M c] 24)).alloc (.cells #[.int .i64 (u : Nat), .int .i64 (v : Nat), .slice B mm d] 24))).heap.size = w.heap.size + 2 by simp] at X3
  have X3 := Lib.hid X3
  have LB0 := Lib.hid (LB0.out.alloc LB0.out.size (.cells #[.int .i64 (u : Nat), .int .i64 (v : Nat), .slice C mm e] 24))
  have X1 := Lib.hid (X1.out.alloc (.cells #[.int .i64 0, .int .i64 0, .slice none 0 0] 24))
  have X2 := Lib.hid (X2.out.alloc (.cells #[.int .i64 0, .int .i64 0, .slice none 0 0] 24))
  have X3 := Lib.hid (X3.out.alloc (.cells #[.int .i64 0, .int .i64 0, .slice none 0 0] 24))
  have R0 := Box.new (((w.alloc (.cells #[.int .i64 (W : Nat), .int .i64 (H : Nat), .slice A M c] 24)).alloc (.cells #[.int .i64 (u : Nat), .int .i64 (v : Nat), .slice B mm d] 24)).alloc (.cells #[.int .i64 (u : Nat), .int .i64 (v : Nat), .slice C mm e] 24)) 0 0 (.slice none 0 0)
  rw [show ((((w.alloc (.cells #[.int .i64 (W : Nat), .int .i64 (H : Nat), .slice A M c] 24)).alloc (.cells #[.int .i64 (u : Nat), .int .i64 (v : Nat), .slice B mm d] 24)).alloc (.cells #[.int .i64 (u : Nat), .int .i64 (v : Nat), .slice C mm e] 24))).heap.size = w.heap.size + 3 by simp] at R0
  have R0 := Lib.hid R0
  have LB0 := Lib.hid (LB0.out.alloc LB0.out.size (.cells #[.int .i64 0, .int .i64 0, .slice none 0 0] 24))
  go_enter Try.func46, Try.ntmps46
  go_upto_region 1 with (fail)
  generalize (((w.alloc (.cells #[.int .i64 (W : Nat), .int .i64 (H : Nat), .slice A M c] 24)).alloc (.cells #[.int .i64 (u : Nat), .int .i64 (v : Nat), .slice B mm d] 24)).alloc (.cells #[.int .i64 (u : Nat), .int .i64 (v : Nat), .slice C mm e] 24)).alloc (.cells #[.int .i64 0, .int .i64 0, .slice none 0 0] 24) = w0 at *
  obtain ⟨q0, q1, q2, q3, q4, q5, q6⟩ := X1.out.all
  obtain ⟨q7, q8, q9, q10, q11, q12, q13⟩ := X2.out.all
  obtain ⟨q14, q15, q16, q17, q18, q19, q20⟩ := X3.out.all
  go_wp2_with fail
  clear q0 q1 q2 q3 q4 q5 q6 q7 q8 q9 q10 q11 q12 q13 q14 q15 q16 q17 q18 q19 q20
  with_reducible refine Calls.mono (HT.out _) ?_
  rintro e w1 ⟨rfl, hb⟩
  have LB1 := Lib.hid (LB0.out.trans (hb.mono LB0.out.size))
  have X1 := Lib.hid (X1.out.below hb X1.out.lt)
  have X2 := Lib.hid (X2.out.below hb X2.out.lt)
  have X3 := Lib.hid (X3.out.below hb X3.out.lt)
  have R0 := Lib.hid (R0.out.below hb R0.out.lt)
  clear hb LB0 
  obtain ⟨q0, q1, q2, q3, q4, q5, q6⟩ := X1.out.all
  obtain ⟨q7, q8, q9, q10, q11, q12, q13⟩ := X2.out.all
  obtain ⟨q14, q15, q16, q17, q18, q19, q20⟩ := X3.out.all
  go_upto_region 3 with (fail)
  go_quiet (fail)
  have LB2 := Lib.hid (bel_dn LB1.out nq)
  have R0 := Lib.hid (show Box (w1.drewN nq) (w.heap.size + 3) 0 0 (.slice none 0 0) from R0.out)
  have X1 := Lib.hid (show Box (w1.drewN nq) w.heap.size (W : Nat) (H : Nat) (.slice A M c) from X1.out)
  have X2 := Lib.hid (show Box (w1.drewN nq) (w.heap.size + 1) (u : Nat) (v : Nat) (.slice B mm d) from X2.out)
  have X3 := Lib.hid (show Box (w1.drewN nq) (w.heap.size + 2) (u : Nat) (v : Nat) (.slice C mm e) from X3.out)
  generalize w1.drewN nq = w2 at *
  clear q0 q1 q2 q3 q4 q5 q6 q7 q8 q9 q10 q11 q12 q13 q14 q15 q16 q17 q18 q19 q20
  obtain ⟨q0, q1, q2, q3, q4, q5, q6⟩ := X1.out.all
  obtain ⟨q7, q8, q9, q10, q11, q12, q13⟩ := X2.out.all
  obtain ⟨q14, q15, q16, q17, q18, q19, q20⟩ := X3.out.all
  go_upto_region 8 with (fail)
  go_wp2_with fail
  clear q0 q1 q2 q3 q4 q5 q6 q7 q8 q9 q10 q11 q12 q13 q14 q15 q16 q17 q18 q19 q20
  with_reducible refine Calls.mono (HZ.out _) ?_
  rintro e w3 ⟨k, rfl, hk, hrow, hb⟩
  have LB3 := Lib.hid (LB2.out.trans (hb.mono LB2.out.size))
  have X1 := Lib.hid (X1.out.below hb X1.out.lt)
  have X2 := Lib.hid (X2.out.below hb X2.out.lt)
  have X3 := Lib.hid (X3.out.below hb X3.out.lt)
  have R0 := Lib.hid (R0.out.below hb R0.out.lt)
  have RK := Lib.hid hrow
  have hkw : w.heap.size ≤ k := Nat.le_trans LB2.out.size hk
  clear hb LB2 hrow hk
  have hb := ((Below.refl w3.heap.size w3).alloc (by simp; try omega) (.cells #[.int .i64 (P : Nat), .int .i64 (Qq : Nat), .slice (some ⟨k, 0, none⟩) N N] 24))
  have LB4 := Lib.hid (LB3.out.trans (hb.mono LB3.out.size))
  have X1 := Lib.hid (X1.out.below hb X1.out.lt)
  have X2 := Lib.hid (X2.out.below hb X2.out.lt)
  have X3 := Lib.hid (X3.out.below hb X3.out.lt)
  have R0 := Lib.hid (R0.out.below hb R0.out.lt)
  have RK := Lib.hid (RK.out.below hb RK.out.lt)
  have XO := Box.new w3 (P : Nat) (Qq : Nat) (.slice (some ⟨k, 0, none⟩) N N)
  have XO := Lib.hid XO
  clear hb LB3
  go_upto_region 9 with (fail)
  obtain ⟨ob, hob⟩ : ∃ z, w3.heap.size = z := ⟨_, rfl⟩
  rw [hob] at XO
  try rw [hob]
  clear hob
  generalize w3.alloc (.cells #[.int .i64 (P : Nat), .int .i64 (Qq : Nat), .slice (some ⟨k, 0, none⟩) N N] 24) = w4 at *
  have HA := Lib.hid (HA.out.below LB4.out)
  have HB := Lib.hid (HB.out.below LB4.out)
  have HC := Lib.hid (HC.out.below LB4.out)
  have n1 : w.heap.size ≠ k := fun h => RK.out.ne_box X1.out h.symm
  have n2 : w.heap.size + 1 ≠ k := fun h => RK.out.ne_box X2.out h.symm
  have n3 : w.heap.size + 2 ≠ k := fun h => RK.out.ne_box X3.out h.symm
  have n4 : ob ≠ k := fun h => RK.out.ne_box XO.out h.symm
  have n5 : w.heap.size + 3 ≠ k := fun h => RK.out.ne_box R0.out h.symm
  have hw4 := LB4.out.size
  go_wp2
  go_loopw [11] (fun i wr => ∃ y : Nat, y ≤ Qq ∧ i = .int .i64 y ∧ Hid (Row wr k N (part P (fun x y => fil W u v f a b (y * P + x)) (y * P))) ∧ Hid (But k w4 wr)) (fun i _ => Qq - (intOf i).toNat)
  case atStart => exact ⟨0, Nat.zero_le _, rfl, Lib.hid (RK.out.congr fun i _ => by rw [Nat.zero_mul, part_zero]), Lib.hid (But.of (Below.refl _ _))⟩
  case round =>
    obtain ⟨y, hy, rfl, HR, HU⟩ := hrel
    have XOr := Lib.hid (HU.out.box XO.out n4)
    obtain ⟨q0, q1, q2, q3, q4, q5, q6⟩ := XOr.out.all
    by_cases hlt : y < Qq
    · have z1 : (y : Int) < (Qq : Int) := by omega
      have z2 : (0 : Int) ≤ (y : Int) := by omega
      go_wp2
      clear q0 q1 q2 q3 q4 q5 q6 XOr
      go_loopw [12] (fun i wr => ∃ x : Nat, x ≤ P ∧ i = .int .i64 x ∧ Hid (Row wr k N (part P (fun x y => fil W u v f a b (y * P + x)) (y * P + x))) ∧ Hid (But k w4 wr)) (fun i _ => P - (intOf i).toNat)
      case atStart => exact ⟨0, Nat.zero_le _, rfl, HR, HU⟩
      case round =>
        obtain ⟨x, hx, rfl, HR2, HU2⟩ := hrel
        clear HR HU
        have XOr := Lib.hid (HU2.out.box XO.out n4)
        have X1r := Lib.hid (HU2.out.box X1.out n1)
        have X2r := Lib.hid (HU2.out.box X2.out n2)
        have X3r := Lib.hid (HU2.out.box X3.out n3)
        have LBr := Lib.hid (HU2.out.below LB4.out hkw)
        have HAr := Lib.hid ((HU2.out.holds HA.out hkw hw4).more LBr.out.size)
        have HBr := Lib.hid ((HU2.out.holds HB.out hkw hw4).more LBr.out.size)
        have HCr := Lib.hid ((HU2.out.holds HC.out hkw hw4).more LBr.out.size)
        by_cases hlx : x < P
        · have z3 : (x : Int) < (P : Int) := by omega
          have z4 : (0 : Int) ≤ (x : Int) := by omega
          have hx2 : x < W * u := by rw [HPE.out]; exact hlx
          have hy2 : y < H * v := by rw [HQE.out]; exact hlt
          have hFP := fil_at (v := v) (y := y) (f := f) (a := a) (b := b) hx2
          rw [HPE.out] at hFP
          have p1 : x / u < W := quo_lt hx2
          have p2 : y / v < H := quo_lt hy2
          have p3 : x % u < u := rem_lt hx2
          have p4 : y % v < v := rem_lt hy2
          have d5 := tdiv_nat y v
          have d6 := tdiv_nat x u
          have d7 := tmod_nat y v
          have d8 := tmod_nat x u
          have f5 := wrap_one (a := y / v) (Nat.le_trans (Nat.div_le_self _ _) (by omega))
          have f6 := wrap_one (a := x / u) (Nat.le_trans (Nat.div_le_self _ _) (by omega))
          have f7 := wrap_one (a := y % v) (Nat.le_trans (Nat.mod_le _ _) (by omega))
          have f8 := wrap_one (a := x % u) (Nat.le_trans (Nat.mod_le _ _) (by omega))
          obtain ⟨jv, hjv⟩ : ∃ z, y / v = z := ⟨_, rfl⟩
          obtain ⟨iu, hiu⟩ : ∃ z, x / u = z := ⟨_, rfl⟩
          obtain ⟨jr, hjr⟩ : ∃ z, y % v = z := ⟨_, rfl⟩
          obtain ⟨ir, hir⟩ : ∃ z, x % u = z := ⟨_, rfl⟩
          simp only [hjv, hiu, hjr, hir] at *
          have HPS := Lib.hid (part_succ (W := P) (fun x y => fil W u v f a b (y * P + x)) x y hlx)
          obtain ⟨q0, q1, q2, q3, q4, q5, q6⟩ := X1r.out.all
          obtain ⟨o0, o1, o2, o3, o4, o5, o6⟩ := XOr.out.all
          have HAQ := Lib.hid (HAT1.out _ iu jv p1 p2 (HAr.out.drw : Holds wr.drew wr.drew.heap.size A M f))
          obtain ⟨bf, hbf⟩ : ∃ z, f (jv * W + iu) = z := ⟨_, rfl⟩
          rw [hbf] at HAQ hFP
          clear hjv hiu hjr hir hbf hx2 hy2
          go_upto_region 15 with (fail)
          go_still_tail 7, (by kernel_rfl)
          change wpList _ _ _ _ _ wr.drew
          go_wp2_with (go_at_call 79; (with_reducible refine Calls.mono HAQ.out ?_); rintro e wa ⟨rfl, hb⟩)
          · rename_i hbf
            subst hbf
            have hba := (Below.refl wr.heap.size wr).drew.trans hb
            have RKa := Lib.hid (HR2.out.below hba HR2.out.lt)
            have XOa := Lib.hid (XOr.out.below hba XOr.out.lt)
            have HUa := Lib.hid (HU2.out.trans (But.of hba))
            clear hb hba q0 q1 q2 q3 q4 q5 q6 o0 o1 o2 o3 o4 o5 o6
            go_upto_region 16 with (fail)
            have HK := Lib.hid (fun (z : World) (h : But k w4 z) => (show z.cell? ⟨ob, 0, none⟩ = some (.int .i64 (P : Nat)) ∧ z.cell? ⟨ob, 1, none⟩ = some (.int .i64 (Qq : Nat)) ∧ z.cell? ⟨ob, 2, none⟩ = some (.slice (some ⟨k, 0, none⟩) N N) ∧ z.cell? ⟨w.heap.size + 1, 0, none⟩ = some (.int .i64 (u : Nat)) ∧ z.cell? ⟨w.heap.size + 1, 1, none⟩ = some (.int .i64 (v : Nat)) ∧ z.cell? ⟨w.heap.size + 1, 2, none⟩ = some (.slice B mm d) from ⟨(h.box XO.out n4).c0, (h.box XO.out n4).c1, (h.box XO.out n4).c2, (h.box X2.out n2).c0, (h.box X2.out n2).c1, (h.box X2.out n2).c2⟩))
            have HHq := Lib.hid (fun (z : World) (h : But k w4 z) => ((h.holds HB.out hkw hw4).more (Nat.le_trans hw4 h.size) : Holds z z.heap.size B mm a))
            have D := Lib.hid (HUa.out.trans (But.of (Below.refl wa.heap.size wa).drew))
            have HFQ := Lib.hid hFP
            obtain ⟨s0, s1, s2, s3, s4, s5⟩ := HK.out _ HUa.out
            go_region_held3 (fun z => z.cell? ⟨ob, 0, none⟩ = some (.int .i64 (P : Nat)) ∧ z.cell? ⟨ob, 1, none⟩ = some (.int .i64 (Qq : Nat)) ∧ z.cell? ⟨ob, 2, none⟩ = some (.slice (some ⟨k, 0, none⟩) N N) ∧ z.cell? ⟨w.heap.size + 1, 0, none⟩ = some (.int .i64 (u : Nat)) ∧ z.cell? ⟨w.heap.size + 1, 1, none⟩ = some (.int .i64 (v : Nat)) ∧ z.cell? ⟨w.heap.size + 1, 2, none⟩ = some (.slice B mm d))
              (first
                | with_reducible exact HK.out _ D.out
                | with_reducible exact HK.out _ E.out
                | with_reducible exact HK.out _ HUa.out
                | with_reducible exact HK.out _ HUc.out)
              (first
                | (go_at_call 79
                   with_reducible refine Calls.mono (HAT2.out _ ir jr p3 p4 (HHq.out _ D.out)) ?_
                   rintro e wb ⟨rfl, hb⟩
                   have E := Lib.hid (D.out.trans (But.of hb))
                   have RKb := Lib.hid ((RKa.out.drew).below hb (RKa.out.drew).lt)
                   clear hb)
                | (go_at_call 95
                   with_reducible refine Calls.mono (HST.out _ k N x y _ _ hlx hlt RKb.out) ?_
                   rintro e wc ⟨rfl, hrc, hbc⟩
                   have RKc := Lib.hid hrc
                   have HUc := Lib.hid (E.out.trans hbc)
                   clear hrc hbc))
            go_wp2
            go_roundw
            case rel => exact ⟨x + 1, by omega, by go_num, Lib.hid (by rw [← Nat.add_assoc, ← HPS.out]; refine RKc.out.congr fun i _ => ?_; rw [HFQ.out]; rfl), HUc⟩
            case measure => simp [intOf]; omega
          · rename_i hbf
            subst hbf
            have hba := (Below.refl wr.heap.size wr).drew.trans hb
            have RKa := Lib.hid (HR2.out.below hba HR2.out.lt)
            have XOa := Lib.hid (XOr.out.below hba XOr.out.lt)
            have HUa := Lib.hid (HU2.out.trans (But.of hba))
            clear hb hba q0 q1 q2 q3 q4 q5 q6 o0 o1 o2 o3 o4 o5 o6
            go_upto_region 17 with (fail)
            have HK := Lib.hid (fun (z : World) (h : But k w4 z) => (show z.cell? ⟨ob, 0, none⟩ = some (.int .i64 (P : Nat)) ∧ z.cell? ⟨ob, 1, none⟩ = some (.int .i64 (Qq : Nat)) ∧ z.cell? ⟨ob, 2, none⟩ = some (.slice (some ⟨k, 0, none⟩) N N) ∧ z.cell? ⟨w.heap.size + 2, 0, none⟩ = some (.int .i64 (u : Nat)) ∧ z.cell? ⟨w.heap.size + 2, 1, none⟩ = some (.int .i64 (v : Nat)) ∧ z.cell? ⟨w.heap.size + 2, 2, none⟩ = some (.slice C mm e) from ⟨(h.box XO.out n4).c0, (h.box XO.out n4).c1, (h.box XO.out n4).c2, (h.box X3.out n3).c0, (h.box X3.out n3).c1, (h.box X3.out n3).c2⟩))
            have HHq := Lib.hid (fun (z : World) (h : But k w4 z) => ((h.holds HC.out hkw hw4).more (Nat.le_trans hw4 h.size) : Holds z z.heap.size C mm b))
            have D := Lib.hid (HUa.out.trans (But.of (Below.refl wa.heap.size wa).drew))
            have HFQ := Lib.hid hFP
            obtain ⟨s0, s1, s2, s3, s4, s5⟩ := HK.out _ HUa.out
            go_region_held3 (fun z => z.cell? ⟨ob, 0, none⟩ = some (.int .i64 (P : Nat)) ∧ z.cell? ⟨ob, 1, none⟩ = some (.int .i64 (Qq : Nat)) ∧ z.cell? ⟨ob, 2, none⟩ = some (.slice (some ⟨k, 0, none⟩) N N) ∧ z.cell? ⟨w.heap.size + 2, 0, none⟩ = some (.int .i64 (u : Nat)) ∧ z.cell? ⟨w.heap.size + 2, 1, none⟩ = some (.int .i64 (v : Nat)) ∧ z.cell? ⟨w.heap.size + 2, 2, none⟩ = some (.slice C mm e))
              (first
                | with_reducible exact HK.out _ D.out
                | with_reducible exact HK.out _ E.out
                | with_reducible exact HK.out _ HUa.out
                | with_reducible exact HK.out _ HUc.out)
              (first
                | (go_at_call 79
                   with_reducible refine Calls.mono (HAT3.out _ ir jr p3 p4 (HHq.out _ D.out)) ?_
                   rintro e wb ⟨rfl, hb⟩
                   have E := Lib.hid (D.out.trans (But.of hb))
                   have RKb := Lib.hid ((RKa.out.drew).below hb (RKa.out.drew).lt)
                   clear hb)
                | (go_at_call 95
                   with_reducible refine Calls.mono (HST.out _ k N x y _ _ hlx hlt RKb.out) ?_
                   rintro e wc ⟨rfl, hrc, hbc⟩
                   have RKc := Lib.hid hrc
                   have HUc := Lib.hid (E.out.trans hbc)
                   clear hrc hbc))
            go_wp2
            go_roundw
            case rel => exact ⟨x + 1, by omega, by go_num, Lib.hid (by rw [← Nat.add_assoc, ← HPS.out]; refine RKc.out.congr fun i _ => ?_; rw [HFQ.out]; rfl), HUc⟩
            case measure => simp [intOf]; omega
        · have e : x = P := by omega
          have z3 : ¬ (x : Int) < (P : Int) := by omega
          have HR3 := Lib.hid (show Row wr k N (part P (fun x y => fil W u v f a b (y * P + x)) ((y + 1) * P)) by rw [Nat.add_mul, Nat.one_mul]; have h := HR2.out; rwa [e] at h)
          obtain ⟨q0, q1, q2, q3, q4, q5, q6⟩ := XOr.out.all
          clear e
          go_wp2
          go_roundw
          case rel => exact ⟨y + 1, by omega, by go_num, HR3, HU2⟩
          case measure => simp [intOf]; omega
    · have e : y = Qq := by omega
      have z1 : ¬ (y : Int) < (Qq : Int) := by omega
      have R0r := Lib.hid (HU.out.box R0.out n5)
      have LBr := Lib.hid (HU.out.below LB4.out hkw)
      have HE := Lib.hid (show Row wr k N (fil W u v f a b) from HR.out.congr fun i hi => by
        unfold part
        rw [if_pos (by rw [e, Nat.mul_comm, HNE.out]; exact hi)]
        show fil W u v f a b (i / P * P + i % P) = fil W u v f a b i
        rw [nat_div_mod])
      obtain ⟨rb, hrb⟩ : ∃ z, w.heap.size + 3 = z := ⟨_, rfl⟩
      have hrw : w.heap.size ≤ rb := by omega
      rw [hrb] at R0r n5 ⊢
      clear hrb e HR
      obtain ⟨r0, r1, r2, r3, r4, r5, r6⟩ := R0r.out.all
      have HF := Lib.hid (HE.out.st3 (fun h => n5 h.symm) (.int .i64 (P : Nat)) (.int .i64 (Qq : Nat)) (.slice (some ⟨k, 0, none⟩) N N))
      go_wp2
      refine bodyPost_ret (v := .tuple #[.agg #[.int .i64 (P : Nat), .int .i64 (Qq : Nat), .slice (some ⟨k, 0, none⟩) N N], .int .i64 0]) (by simp [results, Try.results46, go_sem, r0, r1, r2, r3, r4, r5]) rfl ?_
      exact ⟨_, _, rfl, HF.out.holds HF.out.lt, bel_st3 LBr.out hrw _ _ _⟩
end Go.Proofs.Ytngjcekjboedjaa
