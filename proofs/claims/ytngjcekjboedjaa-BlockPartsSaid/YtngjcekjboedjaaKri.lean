/- Layer 13 of the reference: Profile. -/
import Derived.Test.YtngjcekjboedjaaKrp
import Derived.Test.YtngjcekjboedjaaKpf
import Derived.Test.YtngjcekjboedjaaKam
namespace Go.Proofs.Ytngjcekjboedjaa
open Go.RowKit
set_option maxRecDepth 100000
set_option linter.unusedVariables false
set_option linter.unusedSimpArgs false

set_option maxHeartbeats 1600000 in
theorem rprof_cnt1 (P Qq u v u' v' : Nat) (A B C : Option Addr) (c d e : Nat) (w : World) (P0 : 1 ≤ P) (P1 : P ≤ 64) (Q0 : 1 ≤ Qq) (Q1 : Qq ≤ 64) (u0 : 1 ≤ u) (u1 : u ≤ 64) (v0 : 1 ≤ v) (v1 : v ≤ 64) (x0 : 1 ≤ u') (x1 : u' ≤ 64) (z0 : 1 ≤ v') (z1 : v' ≤ 64) (F : Nat → Bool) (h1 : u ≠ u') : Calls Try.prog 48 #[.agg #[.int .i64 (P : Nat), .int .i64 (Qq : Nat), .slice A (P * Qq) c], .agg #[.int .i64 (u : Nat), .int .i64 (v : Nat), .slice B (u * v) d], .agg #[.int .i64 (u' : Nat), .int .i64 (v' : Nat), .slice C (u' * v') e]] w (RG w 0 0 0 F 26) := by
  have hM : P * Qq ≤ 64 * 64 := Nat.mul_le_mul P1 Q1
  have hmm : u * v ≤ 64 * 64 := Nat.mul_le_mul u1 v1
  have hm3 : u' * v' ≤ 64 * 64 := Nat.mul_le_mul x1 z1
  have HT := Lib.hid (fun z => rthree_any (P : Nat) (Qq : Nat) (u : Nat) (v : Nat) (u' : Nat) (v' : Nat) A B C (P * Qq) c (u * v) d (u' * v') e z (by omega) (by omega) (by omega))
  rw [show th3 (chk (P : Nat) (Qq : Nat) (P * Qq)) (chk (u : Nat) (v : Nat) (u * v)) (chk (u' : Nat) (v' : Nat) (u' * v')) = 0 by rw [chk_zero P0 P1 Q0 Q1, chk_zero u0 u1 v0 v1, chk_zero x0 x1 z0 z1]; rfl] at HT
  have y1 : ((0 : Int) != 0) = false := rfl
  obtain ⟨M, hMe⟩ : ∃ z, P * Qq = z := ⟨_, rfl⟩
  obtain ⟨mm, hme⟩ : ∃ z, u * v = z := ⟨_, rfl⟩
  obtain ⟨m3, hm3e⟩ : ∃ z, u' * v' = z := ⟨_, rfl⟩
  simp only [hMe, hme, hm3e] at HT ⊢
  clear hMe hme hm3e hM hmm hm3
  have y2 : ((u : Int) != (u' : Int)) = true := by rw [bne_iff_ne]; omega
  clear h1
  have LB0 := Lib.hid (Below.refl w.heap.size w)
  have X1 := Lib.hid (Box.new w (P : Nat) (Qq : Nat) (.slice A M c))
  have LB0 := Lib.hid (LB0.out.alloc LB0.out.size (.cells #[.int .i64 (P : Nat), .int .i64 (Qq : Nat), .slice A M c] 24))
  have X1 := Lib.hid (X1.out.alloc (.cells #[.int .i64 (u : Nat), .int .i64 (v : Nat), .slice B mm d] 24))
  have X2 := Box.new (w.alloc (.cells #[.int .i64 (P : Nat), .int .i64 (Qq : Nat), .slice A M c] 24)) (u : Nat) (v : Nat) (.slice B mm d)
  rw [show ((w.alloc (.cells #[.int .i64 (P : Nat), .int .i64 (Qq : Nat), .slice A M c] 24))).heap.size = w.heap.size + 1 by simp] at X2
  have X2 := Lib.hid X2
  have LB0 := Lib.hid (LB0.out.alloc LB0.out.size (.cells #[.int .i64 (u : Nat), .int .i64 (v : Nat), .slice B mm d] 24))
  have X1 := Lib.hid (X1.out.alloc (.cells #[.int .i64 (u' : Nat), .int .i64 (v' : Nat), .slice C m3 e] 24))
  have X2 := Lib.hid (X2.out.alloc (.cells #[.int .i64 (u' : Nat), .int .i64 (v' : Nat), .slice C m3 e] 24))
  have X3 := Box.new ((w.alloc (.cells #[.int .i64 (P : Nat), .int .i64 (Qq : Nat), .slice A M c] 24)).alloc (.cells #[.int .i64 (u : Nat), .int .i64 (v : Nat), .slice B mm d] 24)) (u' : Nat) (v' : Nat) (.slice C m3 e)
  rw [show (((w.alloc (.cells #[.int .i64 (P : Nat), .int .i64 (Qq : Nat), .slice A M c] 24)).alloc (.cells #[.int .i64 (u : Nat), .int .i64 (v : Nat), .slice B mm d] 24))).heap.size = w.heap.size + 2 by simp] at X3
  have X3 := Lib.hid X3
  have LB0 := Lib.hid (LB0.out.alloc LB0.out.size (.cells #[.int .i64 (u' : Nat), .int .i64 (v' : Nat), .slice C m3 e] 24))
  have X1 := Lib.hid (X1.out.alloc (.cells #[.int .i64 0, .int .i64 0, .slice none 0 0] 24))
  have X2 := Lib.hid (X2.out.alloc (.cells #[.int .i64 0, .int .i64 0, .slice none 0 0] 24))
  have X3 := Lib.hid (X3.out.alloc (.cells #[.int .i64 0, .int .i64 0, .slice none 0 0] 24))
  have R0 := Box.new (((w.alloc (.cells #[.int .i64 (P : Nat), .int .i64 (Qq : Nat), .slice A M c] 24)).alloc (.cells #[.int .i64 (u : Nat), .int .i64 (v : Nat), .slice B mm d] 24)).alloc (.cells #[.int .i64 (u' : Nat), .int .i64 (v' : Nat), .slice C m3 e] 24)) 0 0 (.slice none 0 0)
  rw [show ((((w.alloc (.cells #[.int .i64 (P : Nat), .int .i64 (Qq : Nat), .slice A M c] 24)).alloc (.cells #[.int .i64 (u : Nat), .int .i64 (v : Nat), .slice B mm d] 24)).alloc (.cells #[.int .i64 (u' : Nat), .int .i64 (v' : Nat), .slice C m3 e] 24))).heap.size = w.heap.size + 3 by simp] at R0
  have R0 := Lib.hid R0
  have LB0 := Lib.hid (LB0.out.alloc LB0.out.size (.cells #[.int .i64 0, .int .i64 0, .slice none 0 0] 24))
  go_enter Try.func48, Try.ntmps48
  go_upto_region 1 with (fail)
  generalize (((w.alloc (.cells #[.int .i64 (P : Nat), .int .i64 (Qq : Nat), .slice A M c] 24)).alloc (.cells #[.int .i64 (u : Nat), .int .i64 (v : Nat), .slice B mm d] 24)).alloc (.cells #[.int .i64 (u' : Nat), .int .i64 (v' : Nat), .slice C m3 e] 24)).alloc (.cells #[.int .i64 0, .int .i64 0, .slice none 0 0] 24) = w0 at *
  obtain ⟨q0, q1, q2, q3, q4, q5, q6⟩ := X1.out.all
  obtain ⟨q7, q8, q9, q10, q11, q12, q13⟩ := X2.out.all
  obtain ⟨q14, q15, q16, q17, q18, q19, q20⟩ := X3.out.all
  go_wp2_with fail
  clear q0 q1 q2 q3 q4 q5 q6 q7 q8 q9 q10 q11 q12 q13 q14 q15 q16 q17 q18 q19 q20
  with_reducible refine Calls.mono (HT.out _) ?_
  rintro e w1 ⟨rfl, hb⟩
  have LB1 := Lib.hid (LB0.out.trans (hb.mono LB0.out.size))
  have X1 := Lib.hid (X1.out.below hb X1.out.lt)
  have X2 := Lib.hid (X2.out.below hb X2.out.lt)
  have X3 := Lib.hid (X3.out.below hb X3.out.lt)
  have R0 := Lib.hid (R0.out.below hb R0.out.lt)
  clear hb LB0 
  obtain ⟨q0, q1, q2, q3, q4, q5, q6⟩ := X1.out.all
  obtain ⟨q7, q8, q9, q10, q11, q12, q13⟩ := X2.out.all
  obtain ⟨q14, q15, q16, q17, q18, q19, q20⟩ := X3.out.all
  go_upto_region 3 with (fail)
  go_quiet (fail)
  have LB2 := Lib.hid (bel_dn LB1.out nq)
  have R0 := Lib.hid (show Box (w1.drewN nq) (w.heap.size + 3) 0 0 (.slice none 0 0) from R0.out)
  have X1 := Lib.hid (show Box (w1.drewN nq) w.heap.size (P : Nat) (Qq : Nat) (.slice A M c) from X1.out)
  have X2 := Lib.hid (show Box (w1.drewN nq) (w.heap.size + 1) (u : Nat) (v : Nat) (.slice B mm d) from X2.out)
  have X3 := Lib.hid (show Box (w1.drewN nq) (w.heap.size + 2) (u' : Nat) (v' : Nat) (.slice C m3 e) from X3.out)
  generalize w1.drewN nq = w2 at *
  clear q0 q1 q2 q3 q4 q5 q6 q7 q8 q9 q10 q11 q12 q13 q14 q15 q16 q17 q18 q19 q20
  obtain ⟨q0, q1, q2, q3, q4, q5, q6⟩ := X1.out.all
  obtain ⟨q7, q8, q9, q10, q11, q12, q13⟩ := X2.out.all
  obtain ⟨q14, q15, q16, q17, q18, q19, q20⟩ := X3.out.all
  go_upto_region 5 with (fail)
  clear q0 q1 q2 q3 q4 q5 q6 q7 q8 q9 q10 q11 q12 q13 q14 q15 q16 q17 q18 q19 q20
  obtain ⟨rb, hrb⟩ : ∃ z, w.heap.size + 3 = z := ⟨_, rfl⟩
  have hrw : w.heap.size ≤ rb := by omega
  rw [hrb] at R0 ⊢
  clear hrb
  obtain ⟨q0, q1, q2, q3, q4, q5, q6⟩ := R0.out.all
  go_wp2
  refine bodyPost_ret (v := .tuple #[.agg #[.int .i64 0, .int .i64 0, .slice none 0 0], .int .i64 26]) (by simp [results, Try.results48, go_sem, q0, q1, q2, q3, q4, q5]) rfl ?_
  exact RG.err (fin_err hrw LB2.out)
set_option maxHeartbeats 1600000 in
theorem rprof_cnt2 (P Qq u v u' v' : Nat) (A B C : Option Addr) (c d e : Nat) (w : World) (P0 : 1 ≤ P) (P1 : P ≤ 64) (Q0 : 1 ≤ Qq) (Q1 : Qq ≤ 64) (u0 : 1 ≤ u) (u1 : u ≤ 64) (v0 : 1 ≤ v) (v1 : v ≤ 64) (x0 : 1 ≤ u') (x1 : u' ≤ 64) (z0 : 1 ≤ v') (z1 : v' ≤ 64) (F : Nat → Bool) (h1 : u = u') (h2 : v ≠ v') : Calls Try.prog 48 #[.agg #[.int .i64 (P : Nat), .int .i64 (Qq : Nat), .slice A (P * Qq) c], .agg #[.int .i64 (u : Nat), .int .i64 (v : Nat), .slice B (u * v) d], .agg #[.int .i64 (u' : Nat), .int .i64 (v' : Nat), .slice C (u' * v') e]] w (RG w 0 0 0 F 26) := by
  have hM : P * Qq ≤ 64 * 64 := Nat.mul_le_mul P1 Q1
  have hmm : u * v ≤ 64 * 64 := Nat.mul_le_mul u1 v1
  have hm3 : u' * v' ≤ 64 * 64 := Nat.mul_le_mul x1 z1
  have HT := Lib.hid (fun z => rthree_any (P : Nat) (Qq : Nat) (u : Nat) (v : Nat) (u' : Nat) (v' : Nat) A B C (P * Qq) c (u * v) d (u' * v') e z (by omega) (by omega) (by omega))
  rw [show th3 (chk (P : Nat) (Qq : Nat) (P * Qq)) (chk (u : Nat) (v : Nat) (u * v)) (chk (u' : Nat) (v' : Nat) (u' * v')) = 0 by rw [chk_zero P0 P1 Q0 Q1, chk_zero u0 u1 v0 v1, chk_zero x0 x1 z0 z1]; rfl] at HT
  have y1 : ((0 : Int) != 0) = false := rfl
  obtain ⟨M, hMe⟩ : ∃ z, P * Qq = z := ⟨_, rfl⟩
  obtain ⟨mm, hme⟩ : ∃ z, u * v = z := ⟨_, rfl⟩
  obtain ⟨m3, hm3e⟩ : ∃ z, u' * v' = z := ⟨_, rfl⟩
  simp only [hMe, hme, hm3e] at HT ⊢
  clear hMe hme hm3e hM hmm hm3
  have y2 : ((u : Int) != (u' : Int)) = false := by rw [h1]; simp
  have y3 : ((v : Int) != (v' : Int)) = true := by rw [bne_iff_ne]; omega
  clear h1 h2
  have LB0 := Lib.hid (Below.refl w.heap.size w)
  have X1 := Lib.hid (Box.new w (P : Nat) (Qq : Nat) (.slice A M c))
  have LB0 := Lib.hid (LB0.out.alloc LB0.out.size (.cells #[.int .i64 (P : Nat), .int .i64 (Qq : Nat), .slice A M c] 24))
  have X1 := Lib.hid (X1.out.alloc (.cells #[.int .i64 (u : Nat), .int .i64 (v : Nat), .slice B mm d] 24))
  have X2 := Box.new (w.alloc (.cells #[.int .i64 (P : Nat), .int .i64 (Qq : Nat), .slice A M c] 24)) (u : Nat) (v : Nat) (.slice B mm d)
  rw [show ((w.alloc (.cells #[.int .i64 (P : Nat), .int .i64 (Qq : Nat), .slice A M c] 24))).heap.size = w.heap.size + 1 by simp] at X2
  have X2 := Lib.hid X2
  have LB0 := Lib.hid (LB0.out.alloc LB0.out.size (.cells #[.int .i64 (u : Nat), .int .i64 (v : Nat), .slice B mm d] 24))
  have X1 := Lib.hid (X1.out.alloc (.cells #[.int .i64 (u' : Nat), .int .i64 (v' : Nat), .slice C m3 e] 24))
  have X2 := Lib.hid (X2.out.alloc (.cells #[.int .i64 (u' : Nat), .int .i64 (v' : Nat), .slice C m3 e] 24))
  have X3 := Box.new ((w.alloc (.cells #[.int .i64 (P : Nat), .int .i64 (Qq : Nat), .slice A M c] 24)).alloc (.cells #[.int .i64 (u : Nat), .int .i64 (v : Nat), .slice B mm d] 24)) (u' : Nat) (v' : Nat) (.slice C m3 e)
  rw [show (((w.alloc (.cells #[.int .i64 (P : Nat), .int .i64 (Qq : Nat), .slice A M c] 24)).alloc (.cells #[.int .i64 (u : Nat), .int .i64 (v : Nat), .slice B mm d] 24))).heap.size = w.heap.size + 2 by simp] at X3
  have X3 := Lib.hid X3
  have LB0 := Lib.hid (LB0.out.alloc LB0.out.size (.cells #[.int .i64 (u' : Nat), .int .i64 (v' : Nat), .slice C m3 e] 24))
  have X1 := Lib.hid (X1.out.alloc (.cells #[.int .i64 0, .int .i64 0, .slice none 0 0] 24))
  have X2 := Lib.hid (X2.out.alloc (.cells #[.int .i64 0, .int .i64 0, .slice none 0 0] 24))
  have X3 := Lib.hid (X3.out.alloc (.cells #[.int .i64 0, .int .i64 0, .slice none 0 0] 24))
  have R0 := Box.new (((w.alloc (.cells #[.int .i64 (P : Nat), .int .i64 (Qq : Nat), .slice A M c] 24)).alloc (.cells #[.int .i64 (u : Nat), .int .i64 (v : Nat), .slice B mm d] 24)).alloc (.cells #[.int .i64 (u' : Nat), .int .i64 (v' : Nat), .slice C m3 e] 24)) 0 0 (.slice none 0 0)
  rw [show ((((w.alloc (.cells #[.int .i64 (P : Nat), .int .i64 (Qq : Nat), .slice A M c] 24)).alloc (.cells #[.int .i64 (u : Nat), .int .i64 (v : Nat), .slice B mm d] 24)).alloc (.cells #[.int .i64 (u' : Nat), .int .i64 (v' : Nat), .slice C m3 e] 24))).heap.size = w.heap.size + 3 by simp] at R0
  have R0 := Lib.hid R0
  have LB0 := Lib.hid (LB0.out.alloc LB0.out.size (.cells #[.int .i64 0, .int .i64 0, .slice none 0 0] 24))
  go_enter Try.func48, Try.ntmps48
  go_upto_region 1 with (fail)
  generalize (((w.alloc (.cells #[.int .i64 (P : Nat), .int .i64 (Qq : Nat), .slice A M c] 24)).alloc (.cells #[.int .i64 (u : Nat), .int .i64 (v : Nat), .slice B mm d] 24)).alloc (.cells #[.int .i64 (u' : Nat), .int .i64 (v' : Nat), .slice C m3 e] 24)).alloc (.cells #[.int .i64 0, .int .i64 0, .slice none 0 0] 24) = w0 at *
  obtain ⟨q0, q1, q2, q3, q4, q5, q6⟩ := X1.out.all
  obtain ⟨q7, q8, q9, q10, q11, q12, q13⟩ := X2.out.all
  obtain ⟨q14, q15, q16, q17, q18, q19, q20⟩ := X3.out.all
  go_wp2_with fail
  clear q0 q1 q2 q3 q4 q5 q6 q7 q8 q9 q10 q11 q12 q13 q14 q15 q16 q17 q18 q19 q20
  with_reducible refine Calls.mono (HT.out _) ?_
  rintro e w1 ⟨rfl, hb⟩
  have LB1 := Lib.hid (LB0.out.trans (hb.mono LB0.out.size))
  have X1 := Lib.hid (X1.out.below hb X1.out.lt)
  have X2 := Lib.hid (X2.out.below hb X2.out.lt)
  have X3 := Lib.hid (X3.out.below hb X3.out.lt)
  have R0 := Lib.hid (R0.out.below hb R0.out.lt)
  clear hb LB0 
  obtain ⟨q0, q1, q2, q3, q4, q5, q6⟩ := X1.out.all
  obtain ⟨q7, q8, q9, q10, q11, q12, q13⟩ := X2.out.all
  obtain ⟨q14, q15, q16, q17, q18, q19, q20⟩ := X3.out.all
  go_upto_region 3 with (fail)
  go_quiet (fail)
  have LB2 := Lib.hid (bel_dn LB1.out nq)
  have R0 := Lib.hid (show Box (w1.drewN nq) (w.heap.size + 3) 0 0 (.slice none 0 0) from R0.out)
  have X1 := Lib.hid (show Box (w1.drewN nq) w.heap.size (P : Nat) (Qq : Nat) (.slice A M c) from X1.out)
  have X2 := Lib.hid (show Box (w1.drewN nq) (w.heap.size + 1) (u : Nat) (v : Nat) (.slice B mm d) from X2.out)
  have X3 := Lib.hid (show Box (w1.drewN nq) (w.heap.size + 2) (u' : Nat) (v' : Nat) (.slice C m3 e) from X3.out)
  generalize w1.drewN nq = w2 at *
  clear q0 q1 q2 q3 q4 q5 q6 q7 q8 q9 q10 q11 q12 q13 q14 q15 q16 q17 q18 q19 q20
  obtain ⟨q0, q1, q2, q3, q4, q5, q6⟩ := X1.out.all
  obtain ⟨q7, q8, q9, q10, q11, q12, q13⟩ := X2.out.all
  obtain ⟨q14, q15, q16, q17, q18, q19, q20⟩ := X3.out.all
  go_upto_region 5 with (fail)
  clear q0 q1 q2 q3 q4 q5 q6 q7 q8 q9 q10 q11 q12 q13 q14 q15 q16 q17 q18 q19 q20
  obtain ⟨rb, hrb⟩ : ∃ z, w.heap.size + 3 = z := ⟨_, rfl⟩
  have hrw : w.heap.size ≤ rb := by omega
  rw [hrb] at R0 ⊢
  clear hrb
  obtain ⟨q0, q1, q2, q3, q4, q5, q6⟩ := R0.out.all
  go_wp2
  refine bodyPost_ret (v := .tuple #[.agg #[.int .i64 0, .int .i64 0, .slice none 0 0], .int .i64 26]) (by simp [results, Try.results48, go_sem, q0, q1, q2, q3, q4, q5]) rfl ?_
  exact RG.err (fin_err hrw LB2.out)
set_option maxHeartbeats 1600000 in
theorem rprof_cnt3 (P Qq u v : Nat) (A B C : Option Addr) (c d e : Nat) (w : World) (P0 : 1 ≤ P) (P1 : P ≤ 64) (Q0 : 1 ≤ Qq) (Q1 : Qq ≤ 64) (u0 : 1 ≤ u) (u1 : u ≤ 64) (v0 : 1 ≤ v) (v1 : v ≤ 64) (F : Nat → Bool) (h1 : P % u ≠ 0) : Calls Try.prog 48 #[.agg #[.int .i64 (P : Nat), .int .i64 (Qq : Nat), .slice A (P * Qq) c], .agg #[.int .i64 (u : Nat), .int .i64 (v : Nat), .slice B (u * v) d], .agg #[.int .i64 (u : Nat), .int .i64 (v : Nat), .slice C (u * v) e]] w (RG w 0 0 0 F 26) := by
  have hM : P * Qq ≤ 64 * 64 := Nat.mul_le_mul P1 Q1
  have hmm : u * v ≤ 64 * 64 := Nat.mul_le_mul u1 v1
  have HT := Lib.hid (fun z => rthree_any (P : Nat) (Qq : Nat) (u : Nat) (v : Nat) (u : Nat) (v : Nat) A B C (P * Qq) c (u * v) d (u * v) e z (by omega) (by omega) (by omega))
  rw [show th3 (chk (P : Nat) (Qq : Nat) (P * Qq)) (chk (u : Nat) (v : Nat) (u * v)) (chk (u : Nat) (v : Nat) (u * v)) = 0 by rw [chk_zero P0 P1 Q0 Q1, chk_zero u0 u1 v0 v1]; rfl] at HT
  have y1 : ((0 : Int) != 0) = false := rfl
  obtain ⟨M, hMe⟩ : ∃ z, P * Qq = z := ⟨_, rfl⟩
  obtain ⟨mm, hme⟩ : ∃ z, u * v = z := ⟨_, rfl⟩
  simp only [hMe, hme] at HT ⊢
  clear hMe hme hM hmm
  have y2 : ((u : Int) != (u : Int)) = false := by simp
  have y3 : ((v : Int) != (v : Int)) = false := by simp
  have y11 : ((u : Int) == 0) = false := by rw [beq_eq_false_iff_ne]; omega
  have y13 : ¬ u = 0 := by omega
  have d7 := tmod_nat P u
  have y5 : decide ((0 : Int) < ((P % u : Nat) : Int)) = true := decide_eq_true (by omega)
  have y7 : (0 : Int) < ((P % u : Nat) : Int) := by omega
  have y8 : 0 < P % u := by omega
  obtain ⟨r1, hr1⟩ : ∃ z, P % u = z := ⟨_, rfl⟩
  rw [hr1] at d7 y5 y7 y8
  clear hr1 h1
  have LB0 := Lib.hid (Below.refl w.heap.size w)
  have X1 := Lib.hid (Box.new w (P : Nat) (Qq : Nat) (.slice A M c))
  have LB0 := Lib.hid (LB0.out.alloc LB0.out.size (.cells #[.int .i64 (P : Nat), .int .i64 (Qq : Nat), .slice A M c] 24))
  have X1 := Lib.hid (X1.out.alloc (.cells #[.int .i64 (u : Nat), .int .i64 (v : Nat), .slice B mm d] 24))
  have X2 := Box.new (w.alloc (.cells #[.int .i64 (P : Nat), .int .i64 (Qq : Nat), .slice A M c] 24)) (u : Nat) (v : Nat) (.slice B mm d)
  rw [show ((w.alloc (.cells #[.int .i64 (P : Nat), .int .i64 (Qq : Nat), .slice A M c] 24))).heap.size = w.heap.size + 1 by simp] at X2
  have X2 := Lib.hid X2
  have LB0 := Lib.hid (LB0.out.alloc LB0.out.size (.cells #[.int .i64 (u : Nat), .int .i64 (v : Nat), .slice B mm d] 24))
  have X1 := Lib.hid (X1.out.alloc (.cells #[.int .i64 (u : Nat), .int .i64 (v : Nat), .slice C mm e] 24))
  have X2 := Lib.hid (X2.out.alloc (.cells #[.int .i64 (u : Nat), .int .i64 (v : Nat), .slice C mm e] 24))
  have X3 := Box.new ((w.alloc (.cells #[.int .i64 (P : Nat), .int .i64 (Qq : Nat), .slice A M c] 24)).alloc (.cells #[.int .i64 (u : Nat), .int .i64 (v : Nat), .slice B mm d] 24)) (u : Nat) (v : Nat) (.slice C mm e)
  rw [show (((w.alloc (.cells #[.int .i64 (P : Nat), .int .i64 (Qq : Nat), .slice A M c] 24)).alloc (.cells #[.int .i64 (u : Nat), .int .i64 (v : Nat), .slice B mm d] 24))).heap.size = w.heap.size + 2 by simp] at X3
  have X3 := Lib.hid X3
  have LB0 := Lib.hid (LB0.out.alloc LB0.out.size (.cells #[.int .i64 (u : Nat), .int .i64 (v : Nat), .slice C mm e] 24))
  have X1 := Lib.hid (X1.out.alloc (.cells #[.int .i64 0, .int .i64 0, .slice none 0 0] 24))
  have X2 := Lib.hid (X2.out.alloc (.cells #[.int .i64 0, .int .i64 0, .slice none 0 0] 24))
  have X3 := Lib.hid (X3.out.alloc (.cells #[.int .i64 0, .int .i64 0, .slice none 0 0] 24))
  have R0 := Box.new (((w.alloc (.cells #[.int .i64 (P : Nat), .int .i64 (Qq : Nat), .slice A M c] 24)).alloc (.cells #[.int .i64 (u : Nat), .int .i64 (v : Nat), .slice B mm d] 24)).alloc (.cells #[.int .i64 (u : Nat), .int .i64 (v : Nat), .slice C mm e] 24)) 0 0 (.slice none 0 0)
  rw [show ((((w.alloc (.cells #[.int .i64 (P : Nat), .int .i64 (Qq : Nat), .slice A M c] 24)).alloc (.cells #[.int .i64 (u : Nat), .int .i64 (v : Nat), .slice B mm d] 24)).alloc (.cells #[.int .i64 (u : Nat), .int .i64 (v : Nat), .slice C mm e] 24))).heap.size = w.heap.size + 3 by simp] at R0
  have R0 := Lib.hid R0
  have LB0 := Lib.hid (LB0.out.alloc LB0.out.size (.cells #[.int .i64 0, .int .i64 0, .slice none 0 0] 24))
  go_enter Try.func48, Try.ntmps48
  go_upto_region 1 with (fail)
  generalize (((w.alloc (.cells #[.int .i64 (P : Nat), .int .i64 (Qq : Nat), .slice A M c] 24)).alloc (.cells #[.int .i64 (u : Nat), .int .i64 (v : Nat), .slice B mm d] 24)).alloc (.cells #[.int .i64 (u : Nat), .int .i64 (v : Nat), .slice C mm e] 24)).alloc (.cells #[.int .i64 0, .int .i64 0, .slice none 0 0] 24) = w0 at *
  obtain ⟨q0, q1, q2, q3, q4, q5, q6⟩ := X1.out.all
  obtain ⟨q7, q8, q9, q10, q11, q12, q13⟩ := X2.out.all
  obtain ⟨q14, q15, q16, q17, q18, q19, q20⟩ := X3.out.all
  go_wp2_with fail
  clear q0 q1 q2 q3 q4 q5 q6 q7 q8 q9 q10 q11 q12 q13 q14 q15 q16 q17 q18 q19 q20
  with_reducible refine Calls.mono (HT.out _) ?_
  rintro e w1 ⟨rfl, hb⟩
  have LB1 := Lib.hid (LB0.out.trans (hb.mono LB0.out.size))
  have X1 := Lib.hid (X1.out.below hb X1.out.lt)
  have X2 := Lib.hid (X2.out.below hb X2.out.lt)
  have X3 := Lib.hid (X3.out.below hb X3.out.lt)
  have R0 := Lib.hid (R0.out.below hb R0.out.lt)
  clear hb LB0 
  obtain ⟨q0, q1, q2, q3, q4, q5, q6⟩ := X1.out.all
  obtain ⟨q7, q8, q9, q10, q11, q12, q13⟩ := X2.out.all
  obtain ⟨q14, q15, q16, q17, q18, q19, q20⟩ := X3.out.all
  go_upto_region 3 with (fail)
  go_quiet (fail)
  have LB2 := Lib.hid (bel_dn LB1.out nq)
  have R0 := Lib.hid (show Box (w1.drewN nq) (w.heap.size + 3) 0 0 (.slice none 0 0) from R0.out)
  have X1 := Lib.hid (show Box (w1.drewN nq) w.heap.size (P : Nat) (Qq : Nat) (.slice A M c) from X1.out)
  have X2 := Lib.hid (show Box (w1.drewN nq) (w.heap.size + 1) (u : Nat) (v : Nat) (.slice B mm d) from X2.out)
  have X3 := Lib.hid (show Box (w1.drewN nq) (w.heap.size + 2) (u : Nat) (v : Nat) (.slice C mm e) from X3.out)
  generalize w1.drewN nq = w2 at *
  clear q0 q1 q2 q3 q4 q5 q6 q7 q8 q9 q10 q11 q12 q13 q14 q15 q16 q17 q18 q19 q20
  obtain ⟨q0, q1, q2, q3, q4, q5, q6⟩ := X1.out.all
  obtain ⟨q7, q8, q9, q10, q11, q12, q13⟩ := X2.out.all
  obtain ⟨q14, q15, q16, q17, q18, q19, q20⟩ := X3.out.all
  go_upto_region 5 with (fail)
  clear q0 q1 q2 q3 q4 q5 q6 q7 q8 q9 q10 q11 q12 q13 q14 q15 q16 q17 q18 q19 q20
  obtain ⟨rb, hrb⟩ : ∃ z, w.heap.size + 3 = z := ⟨_, rfl⟩
  have hrw : w.heap.size ≤ rb := by omega
  rw [hrb] at R0 ⊢
  clear hrb
  obtain ⟨q0, q1, q2, q3, q4, q5, q6⟩ := R0.out.all
  go_wp2
  refine bodyPost_ret (v := .tuple #[.agg #[.int .i64 0, .int .i64 0, .slice none 0 0], .int .i64 26]) (by simp [results, Try.results48, go_sem, q0, q1, q2, q3, q4, q5]) rfl ?_
  exact RG.err (fin_err hrw LB2.out)
set_option maxHeartbeats 1600000 in
theorem rprof_cnt4 (P Qq u v : Nat) (A B C : Option Addr) (c d e : Nat) (w : World) (P0 : 1 ≤ P) (P1 : P ≤ 64) (Q0 : 1 ≤ Qq) (Q1 : Qq ≤ 64) (u0 : 1 ≤ u) (u1 : u ≤ 64) (v0 : 1 ≤ v) (v1 : v ≤ 64) (F : Nat → Bool) (h1 : P % u = 0) (h2 : Qq % v ≠ 0) : Calls Try.prog 48 #[.agg #[.int .i64 (P : Nat), .int .i64 (Qq : Nat), .slice A (P * Qq) c], .agg #[.int .i64 (u : Nat), .int .i64 (v : Nat), .slice B (u * v) d], .agg #[.int .i64 (u : Nat), .int .i64 (v : Nat), .slice C (u * v) e]] w (RG w 0 0 0 F 26) := by
  have hM : P * Qq ≤ 64 * 64 := Nat.mul_le_mul P1 Q1
  have hmm : u * v ≤ 64 * 64 := Nat.mul_le_mul u1 v1
  have HT := Lib.hid (fun z => rthree_any (P : Nat) (Qq : Nat) (u : Nat) (v : Nat) (u : Nat) (v : Nat) A B C (P * Qq) c (u * v) d (u * v) e z (by omega) (by omega) (by omega))
  rw [show th3 (chk (P : Nat) (Qq : Nat) (P * Qq)) (chk (u : Nat) (v : Nat) (u * v)) (chk (u : Nat) (v : Nat) (u * v)) = 0 by rw [chk_zero P0 P1 Q0 Q1, chk_zero u0 u1 v0 v1]; rfl] at HT
  have y1 : ((0 : Int) != 0) = false := rfl
  obtain ⟨M, hMe⟩ : ∃ z, P * Qq = z := ⟨_, rfl⟩
  obtain ⟨mm, hme⟩ : ∃ z, u * v = z := ⟨_, rfl⟩
  simp only [hMe, hme] at HT ⊢
  clear hMe hme hM hmm
  have y2 : ((u : Int) != (u : Int)) = false := by simp
  have y3 : ((v : Int) != (v : Int)) = false := by simp
  have y11 : ((u : Int) == 0) = false := by rw [beq_eq_false_iff_ne]; omega
  have y12 : ((v : Int) == 0) = false := by rw [beq_eq_false_iff_ne]; omega
  have y13 : ¬ u = 0 := by omega
  have y14 : ¬ v = 0 := by omega
  have d7 := tmod_nat P u
  rw [h1] at d7
  have d8 := tmod_nat Qq v
  have y5 : decide ((0 : Int) < ((0 : Nat) : Int)) = false := rfl
  have y6 : decide ((0 : Int) < ((Qq % v : Nat) : Int)) = true := decide_eq_true (by omega)
  have y7 : (0 : Int) < ((Qq % v : Nat) : Int) := by omega
  have y8 : 0 < Qq % v := by omega
  obtain ⟨r1, hr1⟩ : ∃ z, Qq % v = z := ⟨_, rfl⟩
  rw [hr1] at d8 y6 y7 y8
  clear hr1 h1 h2
  have LB0 := Lib.hid (Below.refl w.heap.size w)
  have X1 := Lib.hid (Box.new w (P : Nat) (Qq : Nat) (.slice A M c))
  have LB0 := Lib.hid (LB0.out.alloc LB0.out.size (.cells #[.int .i64 (P : Nat), .int .i64 (Qq : Nat), .slice A M c] 24))
  have X1 := Lib.hid (X1.out.alloc (.cells #[.int .i64 (u : Nat), .int .i64 (v : Nat), .slice B mm d] 24))
  have X2 := Box.new (w.alloc (.cells #[.int .i64 (P : Nat), .int .i64 (Qq : Nat), .slice A M c] 24)) (u : Nat) (v : Nat) (.slice B mm d)
  rw [show ((w.alloc (.cells #[.int .i64 (P : Nat), .int .i64 (Qq : Nat), .slice A M c] 24))).heap.size = w.heap.size + 1 by simp] at X2
  have X2 := Lib.hid X2
  have LB0 := Lib.hid (LB0.out.alloc LB0.out.size (.cells #[.int .i64 (u : Nat), .int .i64 (v : Nat), .slice B mm d] 24))
  have X1 := Lib.hid (X1.out.alloc (.cells #[.int .i64 (u : Nat), .int .i64 (v : Nat), .slice C mm e] 24))
  have X2 := Lib.hid (X2.out.alloc (.cells #[.int .i64 (u : Nat), .int .i64 (v : Nat), .slice C mm e] 24))
  have X3 := Box.new ((w.alloc (.cells #[.int .i64 (P : Nat), .int .i64 (Qq : Nat), .slice A M c] 24)).alloc (.cells #[.int .i64 (u : Nat), .int .i64 (v : Nat), .slice B mm d] 24)) (u : Nat) (v : Nat) (.slice C mm e)
  rw [show (((w.alloc (.cells #[.int .i64 (P : Nat), .int .i64 (Qq : Nat), .slice A M c] 24)).alloc (.cells #[.int .i64 (u : Nat), .int .i64 (v : Nat), .slice B mm d] 24))).heap.size = w.heap.size + 2 by simp] at X3
  have X3 := Lib.hid X3
  have LB0 := Lib.hid (LB0.out.alloc LB0.out.size (.cells #[.int .i64 (u : Nat), .int .i64 (v : Nat), .slice C mm e] 24))
  have X1 := Lib.hid (X1.out.alloc (.cells #[.int .i64 0, .int .i64 0, .slice none 0 0] 24))
  have X2 := Lib.hid (X2.out.alloc (.cells #[.int .i64 0, .int .i64 0, .slice none 0 0] 24))
  have X3 := Lib.hid (X3.out.alloc (.cells #[.int .i64 0, .int .i64 0, .slice none 0 0] 24))
  have R0 := Box.new (((w.alloc (.cells #[.int .i64 (P : Nat), .int .i64 (Qq : Nat), .slice A M c] 24)).alloc (.cells #[.int .i64 (u : Nat), .int .i64 (v : Nat), .slice B mm d] 24)).alloc (.cells #[.int .i64 (u : Nat), .int .i64 (v : Nat), .slice C mm e] 24)) 0 0 (.slice none 0 0)
  rw [show ((((w.alloc (.cells #[.int .i64 (P : Nat), .int .i64 (Qq : Nat), .slice A M c] 24)).alloc (.cells #[.int .i64 (u : Nat), .int .i64 (v : Nat), .slice B mm d] 24)).alloc (.cells #[.int .i64 (u : Nat), .int .i64 (v : Nat), .slice C mm e] 24))).heap.size = w.heap.size + 3 by simp] at R0
  have R0 := Lib.hid R0
  have LB0 := Lib.hid (LB0.out.alloc LB0.out.size (.cells #[.int .i64 0, .int .i64 0, .slice none 0 0] 24))
  go_enter Try.func48, Try.ntmps48
  go_upto_region 1 with (fail)
  generalize (((w.alloc (.cells #[.int .i64 (P : Nat), .int .i64 (Qq : Nat), .slice A M c] 24)).alloc (.cells #[.int .i64 (u : Nat), .int .i64 (v : Nat), .slice B mm d] 24)).alloc (.cells #[.int .i64 (u : Nat), .int .i64 (v : Nat), .slice C mm e] 24)).alloc (.cells #[.int .i64 0, .int .i64 0, .slice none 0 0] 24) = w0 at *
  obtain ⟨q0, q1, q2, q3, q4, q5, q6⟩ := X1.out.all
  obtain ⟨q7, q8, q9, q10, q11, q12, q13⟩ := X2.out.all
  obtain ⟨q14, q15, q16, q17, q18, q19, q20⟩ := X3.out.all
  go_wp2_with fail
  clear q0 q1 q2 q3 q4 q5 q6 q7 q8 q9 q10 q11 q12 q13 q14 q15 q16 q17 q18 q19 q20
  with_reducible refine Calls.mono (HT.out _) ?_
  rintro e w1 ⟨rfl, hb⟩
  have LB1 := Lib.hid (LB0.out.trans (hb.mono LB0.out.size))
  have X1 := Lib.hid (X1.out.below hb X1.out.lt)
  have X2 := Lib.hid (X2.out.below hb X2.out.lt)
  have X3 := Lib.hid (X3.out.below hb X3.out.lt)
  have R0 := Lib.hid (R0.out.below hb R0.out.lt)
  clear hb LB0 
  obtain ⟨q0, q1, q2, q3, q4, q5, q6⟩ := X1.out.all
  obtain ⟨q7, q8, q9, q10, q11, q12, q13⟩ := X2.out.all
  obtain ⟨q14, q15, q16, q17, q18, q19, q20⟩ := X3.out.all
  go_upto_region 3 with (fail)
  go_quiet (fail)
  have LB2 := Lib.hid (bel_dn LB1.out nq)
  have R0 := Lib.hid (show Box (w1.drewN nq) (w.heap.size + 3) 0 0 (.slice none 0 0) from R0.out)
  have X1 := Lib.hid (show Box (w1.drewN nq) w.heap.size (P : Nat) (Qq : Nat) (.slice A M c) from X1.out)
  have X2 := Lib.hid (show Box (w1.drewN nq) (w.heap.size + 1) (u : Nat) (v : Nat) (.slice B mm d) from X2.out)
  have X3 := Lib.hid (show Box (w1.drewN nq) (w.heap.size + 2) (u : Nat) (v : Nat) (.slice C mm e) from X3.out)
  generalize w1.drewN nq = w2 at *
  clear q0 q1 q2 q3 q4 q5 q6 q7 q8 q9 q10 q11 q12 q13 q14 q15 q16 q17 q18 q19 q20
  obtain ⟨q0, q1, q2, q3, q4, q5, q6⟩ := X1.out.all
  obtain ⟨q7, q8, q9, q10, q11, q12, q13⟩ := X2.out.all
  obtain ⟨q14, q15, q16, q17, q18, q19, q20⟩ := X3.out.all
  go_upto_region 5 with (fail)
  clear q0 q1 q2 q3 q4 q5 q6 q7 q8 q9 q10 q11 q12 q13 q14 q15 q16 q17 q18 q19 q20
  obtain ⟨rb, hrb⟩ : ∃ z, w.heap.size + 3 = z := ⟨_, rfl⟩
  have hrw : w.heap.size ≤ rb := by omega
  rw [hrb] at R0 ⊢
  clear hrb
  obtain ⟨q0, q1, q2, q3, q4, q5, q6⟩ := R0.out.all
  go_wp2
  refine bodyPost_ret (v := .tuple #[.agg #[.int .i64 0, .int .i64 0, .slice none 0 0], .int .i64 26]) (by simp [results, Try.results48, go_sem, q0, q1, q2, q3, q4, q5]) rfl ?_
  exact RG.err (fin_err hrw LB2.out)
set_option maxHeartbeats 1600000 in
theorem rprof_same (P Qq u v : Nat) (A B C : Option Addr) (c d e : Nat) (w : World) (P0 : 1 ≤ P) (P1 : P ≤ 64) (Q0 : 1 ≤ Qq) (Q1 : Qq ≤ 64) (u0 : 1 ≤ u) (u1 : u ≤ 64) (v0 : 1 ≤ v) (v1 : v ≤ 64) (g a b : Nat → Bool) (hg : Holds w w.heap.size A (P * Qq) g) (ha : Holds w w.heap.size B (u * v) a) (hb1 : Holds w w.heap.size C (u * v) b) (F : Nat → Bool) (r1 : P % u = 0) (r2 : Qq % v = 0) (hs : ∀ j, j < u * v → a j = b j) : Calls Try.prog 48 #[.agg #[.int .i64 (P : Nat), .int .i64 (Qq : Nat), .slice A (P * Qq) c], .agg #[.int .i64 (u : Nat), .int .i64 (v : Nat), .slice B (u * v) d], .agg #[.int .i64 (u : Nat), .int .i64 (v : Nat), .slice C (u * v) e]] w (RG w 0 0 0 F 14) := by
  have hM : P * Qq ≤ 64 * 64 := Nat.mul_le_mul P1 Q1
  have hmm : u * v ≤ 64 * 64 := Nat.mul_le_mul u1 v1
  have HT := Lib.hid (fun z => rthree_any (P : Nat) (Qq : Nat) (u : Nat) (v : Nat) (u : Nat) (v : Nat) A B C (P * Qq) c (u * v) d (u * v) e z (by omega) (by omega) (by omega))
  rw [show th3 (chk (P : Nat) (Qq : Nat) (P * Qq)) (chk (u : Nat) (v : Nat) (u * v)) (chk (u : Nat) (v : Nat) (u * v)) = 0 by rw [chk_zero P0 P1 Q0 Q1, chk_zero u0 u1 v0 v1]; rfl] at HT
  have y1 : ((0 : Int) != 0) = false := rfl
  have HSG := Lib.hid (fun z (hb : Below w.heap.size w z) => rsame_loop (u : Nat) (v : Nat) (u : Nat) (v : Nat) B C (u * v) d e a b z (show u * v ≤ 5000 by omega) rfl rfl ((ha.below hb).more hb.size) ((hb1.below hb).more hb.size))
  rw [decide_eq_true hs] at HSG
  have y2 : ((u : Int) != (u : Int)) = false := by simp
  have y3 : ((v : Int) != (v : Int)) = false := by simp
  have y11 : ((u : Int) == 0) = false := by rw [beq_eq_false_iff_ne]; omega
  have y12 : ((v : Int) == 0) = false := by rw [beq_eq_false_iff_ne]; omega
  have y13 : ¬ u = 0 := by omega
  have y14 : ¬ v = 0 := by omega
  have d7 := tmod_nat P u
  rw [r1] at d7
  have d8 := tmod_nat Qq v
  rw [r2] at d8
  obtain ⟨M, hMe⟩ : ∃ z, P * Qq = z := ⟨_, rfl⟩
  obtain ⟨mm, hme⟩ : ∃ z, u * v = z := ⟨_, rfl⟩
  simp only [hMe, hme] at HT HSG ⊢
  clear hMe hme hM hmm hg ha hb1 r1 r2 hs
  have LB0 := Lib.hid (Below.refl w.heap.size w)
  have X1 := Lib.hid (Box.new w (P : Nat) (Qq : Nat) (.slice A M c))
  have LB0 := Lib.hid (LB0.out.alloc LB0.out.size (.cells #[.int .i64 (P : Nat), .int .i64 (Qq : Nat), .slice A M c] 24))
  have X1 := Lib.hid (X1.out.alloc (.cells #[.int .i64 (u : Nat), .int .i64 (v : Nat), .slice B mm d] 24))
  have X2 := Box.new (w.alloc (.cells #[.int .i64 (P : Nat), .int .i64 (Qq : Nat), .slice A M c] 24)) (u : Nat) (v : Nat) (.slice B mm d)
  rw [show ((w.alloc (.cells #[.int .i64 (P : Nat), .int .i64 (Qq : Nat), .slice A M c] 24))).heap.size = w.heap.size + 1 by simp] at X2
  have X2 := Lib.hid X2
  have LB0 := Lib.hid (LB0.out.alloc LB0.out.size (.cells #[.int .i64 (u : Nat), .int .i64 (v : Nat), .slice B mm d] 24))
  have X1 := Lib.hid (X1.out.alloc (.cells #[.int .i64 (u : Nat), .int .i64 (v : Nat), .slice C mm e] 24))
  have X2 := Lib.hid (X2.out.alloc (.cells #[.int .i64 (u : Nat), .int .i64 (v : Nat), .slice C mm e] 24))
  have X3 := Box.new ((w.alloc (.cells #[.int .i64 (P : Nat), .int .i64 (Qq : Nat), .slice A M c] 24)).alloc (.cells #[.int .i64 (u : Nat), .int .i64 (v : Nat), .slice B mm d] 24)) (u : Nat) (v : Nat) (.slice C mm e)
  rw [show (((w.alloc (.cells #[.int .i64 (P : Nat), .int .i64 (Qq : Nat), .slice A M c] 24)).alloc (.cells #[.int .i64 (u : Nat), .int .i64 (v : Nat), .slice B mm d] 24))).heap.size = w.heap.size + 2 by simp] at X3
  have X3 := Lib.hid X3
  have LB0 := Lib.hid (LB0.out.alloc LB0.out.size (.cells #[.int .i64 (u : Nat), .int .i64 (v : Nat), .slice C mm e] 24))
  have X1 := Lib.hid (X1.out.alloc (.cells #[.int .i64 0, .int .i64 0, .slice none 0 0] 24))
  have X2 := Lib.hid (X2.out.alloc (.cells #[.int .i64 0, .int .i64 0, .slice none 0 0] 24))
  have X3 := Lib.hid (X3.out.alloc (.cells #[.int .i64 0, .int .i64 0, .slice none 0 0] 24))
  have R0 := Box.new (((w.alloc (.cells #[.int .i64 (P : Nat), .int .i64 (Qq : Nat), .slice A M c] 24)).alloc (.cells #[.int .i64 (u : Nat), .int .i64 (v : Nat), .slice B mm d] 24)).alloc (.cells #[.int .i64 (u : Nat), .int .i64 (v : Nat), .slice C mm e] 24)) 0 0 (.slice none 0 0)
  rw [show ((((w.alloc (.cells #[.int .i64 (P : Nat), .int .i64 (Qq : Nat), .slice A M c] 24)).alloc (.cells #[.int .i64 (u : Nat), .int .i64 (v : Nat), .slice B mm d] 24)).alloc (.cells #[.int .i64 (u : Nat), .int .i64 (v : Nat), .slice C mm e] 24))).heap.size = w.heap.size + 3 by simp] at R0
  have R0 := Lib.hid R0
  have LB0 := Lib.hid (LB0.out.alloc LB0.out.size (.cells #[.int .i64 0, .int .i64 0, .slice none 0 0] 24))
  go_enter Try.func48, Try.ntmps48
  go_upto_region 1 with (fail)
  generalize (((w.alloc (.cells #[.int .i64 (P : Nat), .int .i64 (Qq : Nat), .slice A M c] 24)).alloc (.cells #[.int .i64 (u : Nat), .int .i64 (v : Nat), .slice B mm d] 24)).alloc (.cells #[.int .i64 (u : Nat), .int .i64 (v : Nat), .slice C mm e] 24)).alloc (.cells #[.int .i64 0, .int .i64 0, .slice none 0 0] 24) = w0 at *
  obtain ⟨q0, q1, q2, q3, q4, q5, q6⟩ := X1.out.all
  obtain ⟨q7, q8, q9, q10, q11, q12, q13⟩ := X2.out.all
  obtain ⟨q14, q15, q16, q17, q18, q19, q20⟩ := X3.out.all
  go_wp2_with fail
  clear q0 q1 q2 q3 q4 q5 q6 q7 q8 q9 q10 q11 q12 q13 q14 q15 q16 q17 q18 q19 q20
  with_reducible refine Calls.mono (HT.out _) ?_
  rintro e w1 ⟨rfl, hb⟩
  have LB1 := Lib.hid (LB0.out.trans (hb.mono LB0.out.size))
  have X1 := Lib.hid (X1.out.below hb X1.out.lt)
  have X2 := Lib.hid (X2.out.below hb X2.out.lt)
  have X3 := Lib.hid (X3.out.below hb X3.out.lt)
  have R0 := Lib.hid (R0.out.below hb R0.out.lt)
  clear hb LB0 
  obtain ⟨q0, q1, q2, q3, q4, q5, q6⟩ := X1.out.all
  obtain ⟨q7, q8, q9, q10, q11, q12, q13⟩ := X2.out.all
  obtain ⟨q14, q15, q16, q17, q18, q19, q20⟩ := X3.out.all
  go_upto_region 3 with (fail)
  go_quiet (fail)
  have LB2 := Lib.hid (bel_dn LB1.out nq)
  have R0 := Lib.hid (show Box (w1.drewN nq) (w.heap.size + 3) 0 0 (.slice none 0 0) from R0.out)
  have X1 := Lib.hid (show Box (w1.drewN nq) w.heap.size (P : Nat) (Qq : Nat) (.slice A M c) from X1.out)
  have X2 := Lib.hid (show Box (w1.drewN nq) (w.heap.size + 1) (u : Nat) (v : Nat) (.slice B mm d) from X2.out)
  have X3 := Lib.hid (show Box (w1.drewN nq) (w.heap.size + 2) (u : Nat) (v : Nat) (.slice C mm e) from X3.out)
  generalize w1.drewN nq = w2 at *
  clear q0 q1 q2 q3 q4 q5 q6 q7 q8 q9 q10 q11 q12 q13 q14 q15 q16 q17 q18 q19 q20
  obtain ⟨q0, q1, q2, q3, q4, q5, q6⟩ := X1.out.all
  obtain ⟨q7, q8, q9, q10, q11, q12, q13⟩ := X2.out.all
  obtain ⟨q14, q15, q16, q17, q18, q19, q20⟩ := X3.out.all
  go_wp2_with fail
  clear q0 q1 q2 q3 q4 q5 q6 q7 q8 q9 q10 q11 q12 q13 q14 q15 q16 q17 q18 q19 q20
  with_reducible refine Calls.mono (HSG.out _ LB2.out) ?_
  rintro e w3 ⟨rfl, hb⟩
  have LB3 := Lib.hid (LB2.out.trans (hb.mono LB2.out.size))
  have X1 := Lib.hid (X1.out.below hb X1.out.lt)
  have X2 := Lib.hid (X2.out.below hb X2.out.lt)
  have X3 := Lib.hid (X3.out.below hb X3.out.lt)
  have R0 := Lib.hid (R0.out.below hb R0.out.lt)
  clear hb LB2 
  obtain ⟨rb, hrb⟩ : ∃ z, w.heap.size + 3 = z := ⟨_, rfl⟩
  have hrw : w.heap.size ≤ rb := by omega
  rw [hrb] at R0 ⊢
  clear hrb
  obtain ⟨q0, q1, q2, q3, q4, q5, q6⟩ := R0.out.all
  go_wp2
  refine bodyPost_ret (v := .tuple #[.agg #[.int .i64 0, .int .i64 0, .slice none 0 0], .int .i64 14]) (by simp [results, Try.results48, go_sem, q0, q1, q2, q3, q4, q5]) rfl ?_
  exact RG.err (fin_err hrw LB3.out)
/-- Profile of units that differ came back. -/
def PRr (w : World) (nx ny mm : Nat) (FP : Nat → Nat → Bool) (a b : Nat → Bool) (e : Ending) (w' : World) : Prop :=
  ((∀ q, q < nx * ny → (∀ t, t < mm → FP q t = a t) ∨ ∀ t, t < mm → FP q t = b t) ∧ RG w (nx : Nat) (ny : Nat) (nx * ny) (fun q => decide (∀ t, t < mm → FP q t = a t)) 0 e w') ∨
  ((¬ ∀ q, q < nx * ny → (∀ t, t < mm → FP q t = a t) ∨ ∀ t, t < mm → FP q t = b t) ∧ RG w 0 0 0 (fun _ => false) 6 e w')
theorem part_skip {nx q : Nat} {F : Nat → Nat → Bool} (h : F (q % nx) (q / nx) = false) : part nx F q = part nx F (q + 1) := by
  funext l
  unfold part
  by_cases e : l = q
  · subst e; rw [if_neg (by omega), if_pos (by omega), h]
  · by_cases h2 : l < q
    · rw [if_pos h2, if_pos (by omega)]
    · rw [if_neg h2, if_neg (by omega)]
theorem lt_step {nx ny q : Nat} {G : Nat → Prop} (h : ∀ s, s < q → G s) (hq : G q) : ∀ s, s < q + 1 → G s := fun s hs => if e : s = q then e ▸ hq else h s (by omega)
set_option maxHeartbeats 6400000 in
theorem rprof_loop (nx ny P Qq u v : Nat) (A B C : Option Addr) (c d e : Nat) (w : World) (P0 : 1 ≤ P) (P1 : P ≤ 64) (Q0 : 1 ≤ Qq) (Q1 : Qq ≤ 64) (u0 : 1 ≤ u) (u1 : u ≤ 64) (v0 : 1 ≤ v) (v1 : v ≤ 64) (g a b : Nat → Bool) (hg : Holds w w.heap.size A (P * Qq) g) (ha : Holds w w.heap.size B (u * v) a) (hb1 : Holds w w.heap.size C (u * v) b) (hP : nx * u = P) (hQ : ny * v = Qq) (n1 : nx ≤ 64) (n2 : ny ≤ 64) (hs : ¬ ∀ j, j < u * v → a j = b j) : Calls Try.prog 48 #[.agg #[.int .i64 (P : Nat), .int .i64 (Qq : Nat), .slice A (P * Qq) c], .agg #[.int .i64 (u : Nat), .int .i64 (v : Nat), .slice B (u * v) d], .agg #[.int .i64 (u : Nat), .int .i64 (v : Nat), .slice C (u * v) e]] w (PRr w nx ny (u * v) (ptF P u v nx g) a b) := by
  have r1 : P % u = 0 := by rw [← hP]; exact Nat.mul_mod_left _ _
  have r2 : Qq % v = 0 := by rw [← hQ]; exact Nat.mul_mod_left _ _
  have hM : P * Qq ≤ 64 * 64 := Nat.mul_le_mul P1 Q1
  have hmm : u * v ≤ 64 * 64 := Nat.mul_le_mul u1 v1
  have HT := Lib.hid (fun z => rthree_any (P : Nat) (Qq : Nat) (u : Nat) (v : Nat) (u : Nat) (v : Nat) A B C (P * Qq) c (u * v) d (u * v) e z (by omega) (by omega) (by omega))
  rw [show th3 (chk (P : Nat) (Qq : Nat) (P * Qq)) (chk (u : Nat) (v : Nat) (u * v)) (chk (u : Nat) (v : Nat) (u * v)) = 0 by rw [chk_zero P0 P1 Q0 Q1, chk_zero u0 u1 v0 v1]; rfl] at HT
  have y1 : ((0 : Int) != 0) = false := rfl
  have HSG := Lib.hid (fun z (hb : Below w.heap.size w z) => rsame_loop (u : Nat) (v : Nat) (u : Nat) (v : Nat) B C (u * v) d e a b z (show u * v ≤ 5000 by omega) rfl rfl ((ha.below hb).more hb.size) ((hb1.below hb).more hb.size))
  rw [decide_eq_false hs] at HSG
  have y2 : ((u : Int) != (u : Int)) = false := by simp
  have y3 : ((v : Int) != (v : Int)) = false := by simp
  have y11 : ((u : Int) == 0) = false := by rw [beq_eq_false_iff_ne]; omega
  have y12 : ((v : Int) == 0) = false := by rw [beq_eq_false_iff_ne]; omega
  have y13 : ¬ u = 0 := by omega
  have y14 : ¬ v = 0 := by omega
  have d7 := tmod_nat P u
  rw [r1] at d7
  have d8 := tmod_nat Qq v
  rw [r2] at d8
  have d5 : ((P : Nat) : Int).tdiv (u : Nat) = (nx : Nat) := by rw [tdiv_nat, ← hP, Nat.mul_div_cancel _ (by omega)]
  have d6 : ((Qq : Nat) : Int).tdiv (v : Nat) = (ny : Nat) := by rw [tdiv_nat, ← hQ, Nat.mul_div_cancel _ (by omega)]
  have f5 := wrap_one (a := nx) (by omega)
  have f6 := wrap_one (a := ny) (by omega)
  have HZ := Lib.hid (fun z => zero_int (nx : Nat) (ny : Nat) nx ny rfl rfl n1 n2 z)
  have HPT := Lib.hid (fun z i j (hi : i < nx) (hj : j < ny) (hb : Below w.heap.size w z) => (rpart_ok P Qq u v i j A c g z P1 Q1 u0 u1 v0 v1 (by rw [← hP, ← Nat.succ_mul]; exact Nat.mul_le_mul_right _ hi) (by rw [← hQ, ← Nat.succ_mul]; exact Nat.mul_le_mul_right _ hj) ((hg.below hb).more hb.size)))
  have HPF := Lib.hid (fun i j (hi : i < nx) => part_f (W := P) (w := u) (h := v) (Y := j) (g := g) hi)
  obtain ⟨FP, hFP⟩ : ∃ z, ptF P u v nx g = z := ⟨_, rfl⟩
  simp only [hFP] at HPF ⊢
  have HSA := Lib.hid (fun z k c1 q (hb : Below w.heap.size w z) (hr : Row z k (u * v) (FP q)) => rsame_loop (u : Nat) (v : Nat) (u : Nat) (v : Nat) (some ⟨k, 0, none⟩) B (u * v) c1 d (FP q) a z (show u * v ≤ 5000 by omega) rfl rfl (hr.holds hr.lt) ((ha.below hb).more hb.size))
  have HSB := Lib.hid (fun z k c1 q (hb : Below w.heap.size w z) (hr : Row z k (u * v) (FP q)) => rsame_loop (u : Nat) (v : Nat) (u : Nat) (v : Nat) (some ⟨k, 0, none⟩) C (u * v) c1 e (FP q) b z (show u * v ≤ 5000 by omega) rfl rfl (hr.holds hr.lt) ((hb1.below hb).more hb.size))
  obtain ⟨M, hMe⟩ : ∃ z, P * Qq = z := ⟨_, rfl⟩
  obtain ⟨mm, hme⟩ : ∃ z, u * v = z := ⟨_, rfl⟩
  obtain ⟨N, hN⟩ : ∃ z, nx * ny = z := ⟨_, rfl⟩
  have HNE := Lib.hid hN
  have HST := Lib.hid (fun z k c1 x y q (F : Nat → Bool) (hx : x < nx) (hy : y < ny) (hr : Row z k N F) => set_nat nx ny k c1 (x : Nat) (y : Nat) q F z (by rw [hN]; exact hr) n1 n2 x y rfl rfl hx hy)
  simp only [hMe, hme] at HT HSG HPT HSA HSB ⊢
  simp only [hN] at HZ HST
  have HPR := Lib.hid (show PRr w nx ny mm FP a b = PRr w nx ny mm FP a b from rfl)
  clear hMe hme hM hmm hg ha hb1 r1 r2 hs hFP hN hP hQ
  have LB0 := Lib.hid (Below.refl w.heap.size w)
  have X1 := Lib.hid (Box.new w (P : Nat) (Qq : Nat) (.slice A M c))
  have LB0 := Lib.hid (LB0.out.alloc LB0.out.size (.cells #[.int .i64 (P : Nat), .int .i64 (Qq : Nat), .slice A M c] 24))
  have X1 := Lib.hid (X1.out.alloc (.cells #[.int .i64 (u : Nat), .int .i64 (v : Nat), .slice B mm d] 24))
  have X2 := Box.new (w.alloc (.cells #[.int .i64 (P : Nat), .int .i64 (Qq : Nat), .slice A M c] 24)) (u : Nat) (v : Nat) (.slice B mm d)
  rw [show ((w.alloc (.cells #[.int .i64 (P : Nat), .int .i64 (Qq : Nat), .slice A M c] 24))).heap.size = w.heap.size + 1 by simp] at X2
  have X2 := Lib.hid X2
  have LB0 := Lib.hid (LB0.out.alloc LB0.out.size (.cells #[.int .i64 (u : Nat), .int .i64 (v : Nat), .slice B mm d] 24))
  have X1 := Lib.hid (X1.out.alloc (.cells #[.int .i64 (u : Nat), .int .i64 (v : Nat), .slice C mm e] 24))
  have X2 := Lib.hid (X2.out.alloc (.cells #[.int .i64 (u : Nat), .int .i64 (v : Nat), .slice C mm e] 24))
  have X3 := Box.new ((w.alloc (.cells #[.int .i64 (P : Nat), .int .i64 (Qq : Nat), .slice A M c] 24)).alloc (.cells #[.int .i64 (u : Nat), .int .i64 (v : Nat), .slice B mm d] 24)) (u : Nat) (v : Nat) (.slice C mm e)
  rw [show (((w.alloc (.cells #[.int .i64 (P : Nat), .int .i64 (Qq : Nat), .slice A M c] 24)).alloc (.cells #[.int .i64 (u : Nat), .int .i64 (v : Nat), .slice B mm d] 24))).heap.size = w.heap.size + 2 by simp] at X3
  have X3 := Lib.hid X3
  have LB0 := Lib.hid (LB0.out.alloc LB0.out.size (.cells #[.int .i64 (u : Nat), .int .i64 (v : Nat), .slice C mm e] 24))
  have X1 := Lib.hid (X1.out.alloc (.cells #[.int .i64 0, .int .i64 0, .slice none 0 0] 24))
  have X2 := Lib.hid (X2.out.alloc (.cells #[.int .i64 0, .int .i64 0, .slice none 0 0] 24))
  have X3 := Lib.hid (X3.out.alloc (.cells #[.int .i64 0, .int .i64 0, .slice none 0 0] 24))
  have R0 := Box.new (((w.alloc (.cells #[.int .i64 (P : Nat), .int .i64 (Qq : Nat), .slice A M c] 24)).alloc (.cells #[.int .i64 (u : Nat), .int .i64 (v : Nat), .slice B mm d] 24)).alloc (.cells #[.int .i64 (u : Nat), .int .i64 (v : Nat), .slice C mm e] 24)) 0 0 (.slice none 0 0)
  rw [show ((((w.alloc (.cells #[.int .i64 (P : Nat), .int .i64 (Qq : Nat), .slice A M c] 24)).alloc (.cells #[.int .i64 (u : Nat), .int .i64 (v : Nat), .slice B mm d] 24)).alloc (.cells #[.int .i64 (u : Nat), .int .i64 (v : Nat), .slice C mm e] 24))).heap.size = w.heap.size + 3 by simp] at R0
  have R0 := Lib.hid R0
  have LB0 := Lib.hid (LB0.out.alloc LB0.out.size (.cells #[.int .i64 0, .int .i64 0, .slice none 0 0] 24))
  go_enter Try.func48, Try.ntmps48
  go_upto_region 1 with (fail)
  generalize (((w.alloc (.cells #[.int .i64 (P : Nat), .int .i64 (Qq : Nat), .slice A M c] 24)).alloc (.cells #[.int .i64 (u : Nat), .int .i64 (v : Nat), .slice B mm d] 24)).alloc (.cells #[.int .i64 (u : Nat), .int .i64 (v : Nat), .slice C mm e] 24)).alloc (.cells #[.int .i64 0, .int .i64 0, .slice none 0 0] 24) = w0 at *
  obtain ⟨q0, q1, q2, q3, q4, q5, q6⟩ := X1.out.all
  obtain ⟨q7, q8, q9, q10, q11, q12, q13⟩ := X2.out.all
  obtain ⟨q14, q15, q16, q17, q18, q19, q20⟩ := X3.out.all
  go_wp2_with fail
  clear q0 q1 q2 q3 q4 q5 q6 q7 q8 q9 q10 q11 q12 q13 q14 q15 q16 q17 q18 q19 q20
  with_reducible refine Calls.mono (HT.out _) ?_
  rintro e w1 ⟨rfl, hb⟩
  have LB1 := Lib.hid (LB0.out.trans (hb.mono LB0.out.size))
  have X1 := Lib.hid (X1.out.below hb X1.out.lt)
  have X2 := Lib.hid (X2.out.below hb X2.out.lt)
  have X3 := Lib.hid (X3.out.below hb X3.out.lt)
  have R0 := Lib.hid (R0.out.below hb R0.out.lt)
  clear hb LB0 
  obtain ⟨q0, q1, q2, q3, q4, q5, q6⟩ := X1.out.all
  obtain ⟨q7, q8, q9, q10, q11, q12, q13⟩ := X2.out.all
  obtain ⟨q14, q15, q16, q17, q18, q19, q20⟩ := X3.out.all
  go_upto_region 3 with (fail)
  go_quiet (fail)
  have LB2 := Lib.hid (bel_dn LB1.out nq)
  have R0 := Lib.hid (show Box (w1.drewN nq) (w.heap.size + 3) 0 0 (.slice none 0 0) from R0.out)
  have X1 := Lib.hid (show Box (w1.drewN nq) w.heap.size (P : Nat) (Qq : Nat) (.slice A M c) from X1.out)
  have X2 := Lib.hid (show Box (w1.drewN nq) (w.heap.size + 1) (u : Nat) (v : Nat) (.slice B mm d) from X2.out)
  have X3 := Lib.hid (show Box (w1.drewN nq) (w.heap.size + 2) (u : Nat) (v : Nat) (.slice C mm e) from X3.out)
  generalize w1.drewN nq = w2 at *
  clear q0 q1 q2 q3 q4 q5 q6 q7 q8 q9 q10 q11 q12 q13 q14 q15 q16 q17 q18 q19 q20
  obtain ⟨q0, q1, q2, q3, q4, q5, q6⟩ := X1.out.all
  obtain ⟨q7, q8, q9, q10, q11, q12, q13⟩ := X2.out.all
  obtain ⟨q14, q15, q16, q17, q18, q19, q20⟩ := X3.out.all
  go_wp2_with fail
  clear q0 q1 q2 q3 q4 q5 q6 q7 q8 q9 q10 q11 q12 q13 q14 q15 q16 q17 q18 q19 q20
  with_reducible refine Calls.mono (HSG.out _ LB2.out) ?_
  rintro e w3 ⟨rfl, hb⟩
  have LB3 := Lib.hid (LB2.out.trans (hb.mono LB2.out.size))
  have X1 := Lib.hid (X1.out.below hb X1.out.lt)
  have X2 := Lib.hid (X2.out.below hb X2.out.lt)
  have X3 := Lib.hid (X3.out.below hb X3.out.lt)
  have R0 := Lib.hid (R0.out.below hb R0.out.lt)
  clear hb LB2 
  go_upto_region 8 with (fail)
  go_cut [10] (fun s wx => ∃ g k, s = .pointer (some ⟨g, 0, none⟩) ∧ Hid (Box wx g (nx : Nat) (ny : Nat) (.slice (some ⟨k, 0, none⟩) N N)) ∧ Hid (Row wx k N (fun _ => false)) ∧ Hid (w3.heap.size ≤ k) ∧ Hid (Below w3.heap.size w3 wx))
  case first =>
    obtain ⟨q0, q1, q2, q3, q4, q5, q6⟩ := X1.out.all
    have HK := Lib.hid (fun (z : World) (h : Below w3.heap.size w3 z) => (show z.cell? ⟨w.heap.size, 0, none⟩ = some (.int .i64 (P : Nat)) ∧ z.cell? ⟨w.heap.size, 1, none⟩ = some (.int .i64 (Qq : Nat)) from ⟨(X1.out.below h X1.out.lt).c0, (X1.out.below h X1.out.lt).c1⟩))
    clear LB3
    go_region_held3 (fun z => z.cell? ⟨w.heap.size, 0, none⟩ = some (.int .i64 (P : Nat)) ∧ z.cell? ⟨w.heap.size, 1, none⟩ = some (.int .i64 (Qq : Nat)))
      (exact HK.out _ (by (repeat' (first | assumption | exact Below.refl _ _ | refine Below.drew ?_ | refine ba ?_ | refine bs ?_ ?_ | omega | (simp; done) | (simp; omega)))))
      ((first
        | (go_at_call 64
           with_reducible refine Calls.mono (HZ.out _) ?_
           rintro e u1 ⟨k1, rfl, hk1, hr1, hb1⟩
           have HB1 : Below w3.heap.size w3 u1 := bt (by (repeat' (first | assumption | exact Below.refl _ _ | refine Below.drew ?_ | refine ba ?_ | refine bs ?_ ?_ | omega | (simp; done) | (simp; omega)))) hb1
           have hs1 := HB1.size
           have hk2 : w3.heap.size ≤ k1 := Nat.le_trans (by first | exact Nat.le_refl _ | (simp; done) | (simp; omega)) hk1
           (first | have AF := bxb hb1 (bxn w3) | have AF := bxb hb1 (bxn w3.drew) | skip)
           (try obtain ⟨z0, z1, z2, z3, z4, z5, z6⟩ := AF.all))))
    all_goals
      clear HK
      go_wp2
      go_meet
      first
        | exact ⟨_, k1, rfl, Lib.hid (Box.new u1 (nx : Nat) (ny : Nat) _), Lib.hid (Row.alloc hr1 _), Lib.hid hk2, Lib.hid (ba HB1)⟩
        | exact ⟨_, k1, rfl, Lib.hid (AF.st3 (nx : Nat) (ny : Nat) _), Lib.hid (Row.st3 hr1 (hr1.ne_box AF) _ _ _), Lib.hid hk2, Lib.hid (bel_st3 HB1 (by first | exact Nat.le_refl _ | omega | (simp; done) | (simp; omega)) _ _ _)⟩
  case rest =>
    obtain ⟨ob, k, rfl, XO, RK, hkI, HB⟩ := hcut
    have X1 := Lib.hid (X1.out.below HB.out X1.out.lt)
    have X2 := Lib.hid (X2.out.below HB.out X2.out.lt)
    have X3 := Lib.hid (X3.out.below HB.out X3.out.lt)
    have R0 := Lib.hid (R0.out.below HB.out R0.out.lt)
    have LB4 := Lib.hid (LB3.out.trans (HB.out.mono LB3.out.size))
    have hkw : w.heap.size ≤ k := Nat.le_trans LB3.out.size hkI.out
    clear HB LB3 hkI
    go_upto_region 9 with (fail)
    obtain ⟨w4, hw4⟩ := wof LB4.out
    subst hw4
    have n1' : w.heap.size ≠ k := fun h => RK.out.ne_box X1.out h.symm
    have n2' : w.heap.size + 1 ≠ k := fun h => RK.out.ne_box X2.out h.symm
    have n3' : w.heap.size + 2 ≠ k := fun h => RK.out.ne_box X3.out h.symm
    have n4' : ob ≠ k := fun h => RK.out.ne_box XO.out h.symm
    have n5' : w.heap.size + 3 ≠ k := fun h => RK.out.ne_box R0.out h.symm
    go_wp2
    go_loopw [11] (fun i wr => ∃ j : Nat, j ≤ ny ∧ i = .int .i64 j ∧ Hid (Row wr k N (part nx (fun x y => decide (∀ t, t < mm → FP (y * nx + x) t = a t)) (j * nx))) ∧ Hid (But k w4 wr) ∧ Hid (∀ s, s < j * nx → (∀ t, t < mm → FP s t = a t) ∨ ∀ t, t < mm → FP s t = b t)) (fun i _ => ny - (intOf i).toNat)
    case atStart => exact ⟨0, Nat.zero_le _, rfl, Lib.hid (RK.out.congr fun i _ => by rw [Nat.zero_mul, part_zero]), Lib.hid (But.of (Below.refl _ _)), Lib.hid (fun s h => by omega)⟩
    case round =>
      obtain ⟨j, hj, rfl, HR, HU, HGD⟩ := hrel
      have XOr := Lib.hid (HU.out.box XO.out n4')
      obtain ⟨q0, q1, q2, q3, q4, q5, q6⟩ := XOr.out.all
      by_cases hlt : j < ny
      · have z1 : (j : Int) < (ny : Int) := by omega
        go_wp2
        clear q0 q1 q2 q3 q4 q5 q6 XOr
        go_loopw [12] (fun i wr => ∃ x : Nat, x ≤ nx ∧ i = .int .i64 x ∧ Hid (Row wr k N (part nx (fun x y => decide (∀ t, t < mm → FP (y * nx + x) t = a t)) (j * nx + x))) ∧ Hid (But k w4 wr) ∧ Hid (∀ s, s < j * nx + x → (∀ t, t < mm → FP s t = a t) ∨ ∀ t, t < mm → FP s t = b t)) (fun i _ => nx - (intOf i).toNat)
        case atStart => exact ⟨0, Nat.zero_le _, rfl, HR, HU, HGD⟩
        case round =>
          obtain ⟨x, hx, rfl, HR2, HU2, HG2⟩ := hrel
          clear HR HU HGD
          have XOr := Lib.hid (HU2.out.box XO.out n4')
          have X1r := Lib.hid (HU2.out.box X1.out n1')
          have X2r := Lib.hid (HU2.out.box X2.out n2')
          have X3r := Lib.hid (HU2.out.box X3.out n3')
          have R0r := Lib.hid (HU2.out.box R0.out n5')
          have LBr := Lib.hid (HU2.out.below LB4.out hkw)
          by_cases hlx : x < nx
          · have z3 : (x : Int) < (nx : Int) := by omega
            have HPF2 := Lib.hid (HPF.out x j hlx)
            have HPS := Lib.hid (part_succ (W := nx) (fun x y => decide (∀ t, t < mm → FP (y * nx + x) t = a t)) x j hlx)
            have HSK := Lib.hid (fun (h : ¬ ∀ t, t < mm → FP (j * nx + x) t = a t) => part_skip (nx := nx) (q := j * nx + x) (F := (fun x y => decide (∀ t, t < mm → FP (y * nx + x) t = a t))) (by rw [(co j hlx).1, (co j hlx).2]; exact decide_eq_false h))
            have HQN := Lib.hid (show j * nx + x < nx * ny by exact in_grid (W := nx) hlx hlt)
            have HQ2 := Lib.hid (show j * nx + (x + 1) = j * nx + x + 1 from rfl)
            obtain ⟨q, hq⟩ : ∃ z, j * nx + x = z := ⟨_, rfl⟩
            rw [hq] at HPF2 HPS HSK HQN HR2 HG2 HQ2
            have HPT2 := Lib.hid (HPT.out wr x j hlx hlt LBr.out)
            rw [HPF2.out] at HPT2
            have HQE := Lib.hid hq
            clear hq HPF2
            obtain ⟨q0, q1, q2, q3, q4, q5, q6⟩ := X1r.out.all
            obtain ⟨o0, o1, o2, o3, o4, o5, o6⟩ := XOr.out.all
            go_wp2_with fail
            clear q0 q1 q2 q3 q4 q5 q6 o0 o1 o2 o3 o4 o5 o6
            with_reducible refine Calls.mono HPT2.out ?_
            rintro e wa ⟨kp, rfl, hkp, hrp, hb⟩
            have hb2 := hb.alloc hb.size (.cells #[.int .i64 (u : Nat), .int .i64 (v : Nat), .slice (some ⟨kp, 0, none⟩) mm mm] 24)
            have HUa := Lib.hid (HU2.out.trans (But.of hb2))
            have RKa := Lib.hid (HR2.out.below hb2 HR2.out.lt)
            have XOa := Lib.hid (XOr.out.below hb2 XOr.out.lt)
            have X2a := Lib.hid (X2r.out.below hb2 X2r.out.lt)
            have X3a := Lib.hid (X3r.out.below hb2 X3r.out.lt)
            have R0a := Lib.hid (R0r.out.below hb2 R0r.out.lt)
            have LBa := Lib.hid (LBr.out.trans (hb2.mono LBr.out.size))
            have RP := Lib.hid (Row.alloc hrp (.cells #[.int .i64 (u : Nat), .int .i64 (v : Nat), .slice (some ⟨kp, 0, none⟩) mm mm] 24))
            have XP := Lib.hid (Box.new wa (u : Nat) (v : Nat) (.slice (some ⟨kp, 0, none⟩) mm mm))
            clear hb hb2 hrp hkp XOr X1r X2r X3r R0r LBr HPT2
            go_upto_region 16 with (fail)
            obtain ⟨pb, hpb⟩ : ∃ z, wa.heap.size = z := ⟨_, rfl⟩
            rw [hpb] at XP ⊢
            clear hpb
            generalize wa.alloc (.cells #[.int .i64 (u : Nat), .int .i64 (v : Nat), .slice (some ⟨kp, 0, none⟩) mm mm] 24) = wb at *
            by_cases h1 : ∀ t, t < mm → FP q t = a t
            · have HS1 := Lib.hid (HSA.out wb kp mm q LBa.out RP.out)
              rw [decide_eq_true h1] at HS1
              have HG3 := Lib.hid (lt_step (nx := nx) (ny := ny) (G := fun s => (∀ t, t < mm → FP s t = a t) ∨ ∀ t, t < mm → FP s t = b t) HG2.out (.inl h1))
              have HF1 := Lib.hid (decide_eq_true h1)
              clear h1
              obtain ⟨q0, q1, q2, q3, q4, q5, q6⟩ := X2a.out.all
              obtain ⟨o0, o1, o2, o3, o4, o5, o6⟩ := XP.out.all
              go_wp2_with fail
              clear q0 q1 q2 q3 q4 q5 q6 o0 o1 o2 o3 o4 o5 o6
              with_reducible refine Calls.mono HS1.out ?_
              rintro e wc ⟨rfl, hb⟩
              have HUc := Lib.hid (HUa.out.trans (But.of hb))
              have RKc := Lib.hid (RKa.out.below hb RKa.out.lt)
              have XOc := Lib.hid (XOa.out.below hb XOa.out.lt)
              clear hb
              obtain ⟨o0, o1, o2, o3, o4, o5, o6⟩ := XOc.out.all
              go_wp2_with fail
              clear o0 o1 o2 o3 o4 o5 o6
              with_reducible refine Calls.mono (HST.out _ k N x j _ _ hlx hlt RKc.out) ?_
              rintro e wd ⟨rfl, hrd, hbd⟩
              have RKd := Lib.hid hrd
              have HUd := Lib.hid (HUc.out.trans hbd)
              clear hrd hbd
              go_wp2
              go_roundw
              case rel => exact ⟨x + 1, by omega, by go_num, Lib.hid (by rw [HQ2.out, ← HPS.out]; refine RKd.out.congr fun i _ => ?_; rw [HQE.out, HF1.out]), HUd, Lib.hid (by rw [HQ2.out]; exact HG3.out)⟩
              case measure => simp [intOf]; omega
            · have HS1 := Lib.hid (HSA.out wb kp mm q LBa.out RP.out)
              rw [decide_eq_false h1] at HS1
              have HSK2 := Lib.hid (HSK.out h1)
              have HN1 := Lib.hid h1
              clear h1
              obtain ⟨q0, q1, q2, q3, q4, q5, q6⟩ := X2a.out.all
              obtain ⟨o0, o1, o2, o3, o4, o5, o6⟩ := XP.out.all
              go_wp2_with fail
              clear q0 q1 q2 q3 q4 q5 q6 o0 o1 o2 o3 o4 o5 o6
              with_reducible refine Calls.mono HS1.out ?_
              rintro e wc ⟨rfl, hb⟩
              have HUc := Lib.hid (HUa.out.trans (But.of hb))
              have RKc := Lib.hid (RKa.out.below hb RKa.out.lt)
              have RPc := Lib.hid (RP.out.below hb RP.out.lt)
              have XPc := Lib.hid (XP.out.below hb XP.out.lt)
              have X3c := Lib.hid (X3a.out.below hb X3a.out.lt)
              have R0c := Lib.hid (R0a.out.below hb R0a.out.lt)
              have LBc := Lib.hid (LBa.out.trans (hb.mono LBa.out.size))
              clear hb
              obtain ⟨q0, q1, q2, q3, q4, q5, q6⟩ := X3c.out.all
              obtain ⟨o0, o1, o2, o3, o4, o5, o6⟩ := XPc.out.all
              by_cases h2 : ∀ t, t < mm → FP q t = b t
              · have HS2 := Lib.hid (HSB.out wc kp mm q LBc.out RPc.out)
                rw [decide_eq_true h2] at HS2
                have HG3 := Lib.hid (lt_step (nx := nx) (ny := ny) (G := fun s => (∀ t, t < mm → FP s t = a t) ∨ ∀ t, t < mm → FP s t = b t) HG2.out (.inr h2))
                clear h2
                go_wp2_with fail
                clear q0 q1 q2 q3 q4 q5 q6 o0 o1 o2 o3 o4 o5 o6
                with_reducible refine Calls.mono HS2.out ?_
                rintro e wd ⟨rfl, hb⟩
                have HUd := Lib.hid (HUc.out.trans (But.of hb))
                have RKd := Lib.hid (RKc.out.below hb RKc.out.lt)
                clear hb
                go_wp2
                go_roundw
                case rel => exact ⟨x + 1, by omega, by go_num, Lib.hid (by rw [HQ2.out, ← HSK2.out]; exact RKd.out), HUd, Lib.hid (by rw [HQ2.out]; exact HG3.out)⟩
                case measure => simp [intOf]; omega
              · have HS2 := Lib.hid (HSB.out wc kp mm q LBc.out RPc.out)
                rw [decide_eq_false h2] at HS2
                have HBAD := Lib.hid (fun (h : ∀ s, s < nx * ny → (∀ t, t < mm → FP s t = a t) ∨ ∀ t, t < mm → FP s t = b t) => (h q HQN.out).elim HN1.out h2)
                clear h2
                go_wp2_with fail
                clear q0 q1 q2 q3 q4 q5 q6 o0 o1 o2 o3 o4 o5 o6
                with_reducible refine Calls.mono HS2.out ?_
                rintro e wd ⟨rfl, hb⟩
                have R0d := Lib.hid (R0c.out.below hb R0c.out.lt)
                have LBd := Lib.hid (LBc.out.trans (hb.mono LBc.out.size))
                clear hb
                obtain ⟨rb, hrb⟩ : ∃ z, w.heap.size + 3 = z := ⟨_, rfl⟩
                have hrw : w.heap.size ≤ rb := by omega
                rw [hrb] at R0d ⊢
                clear hrb
                obtain ⟨q0, q1, q2, q3, q4, q5, q6⟩ := R0d.out.all
                go_wp2
                refine bodyPost_ret (v := .tuple #[.agg #[.int .i64 0, .int .i64 0, .slice none 0 0], .int .i64 6]) (by simp [results, Try.results48, go_sem, q0, q1, q2, q3, q4, q5]) rfl ?_
                exact .inr ⟨HBAD.out, RG.err (fin_err hrw LBd.out)⟩
          · have e : x = nx := by omega
            have z3 : ¬ (x : Int) < (nx : Int) := by omega
            have HR3 := Lib.hid (show Row wr k N (part nx (fun x y => decide (∀ t, t < mm → FP (y * nx + x) t = a t)) ((j + 1) * nx)) by rw [Nat.add_mul, Nat.one_mul]; have h := HR2.out; rwa [e] at h)
            have HG3 := Lib.hid (show ∀ s, s < (j + 1) * nx → (∀ t, t < mm → FP s t = a t) ∨ ∀ t, t < mm → FP s t = b t by rw [Nat.add_mul, Nat.one_mul]; have h := HG2.out; rwa [e] at h)
            obtain ⟨q0, q1, q2, q3, q4, q5, q6⟩ := XOr.out.all
            clear e
            go_wp2
            go_roundw
            case rel => exact ⟨j + 1, by omega, by go_num, HR3, HU2, HG3⟩
            case measure => simp [intOf]; omega
      · have e' : j = ny := by omega
        have z1 : ¬ (j : Int) < (ny : Int) := by omega
        have R0r := Lib.hid (HU.out.box R0.out n5')
        have LBr := Lib.hid (HU.out.below LB4.out hkw)
        have HE := Lib.hid (show Row wr k N (fun q => decide (∀ t, t < mm → FP q t = a t)) from HR.out.congr fun i hi => by
          unfold part
          rw [if_pos (by rw [e', Nat.mul_comm, HNE.out]; exact hi)]
          show decide (∀ t, t < mm → FP (i / nx * nx + i % nx) t = a t) = _
          rw [nat_div_mod])
        have HALL := Lib.hid (show ∀ s, s < nx * ny → (∀ t, t < mm → FP s t = a t) ∨ ∀ t, t < mm → FP s t = b t by have h := HGD.out; rw [e', Nat.mul_comm] at h; exact h)
        obtain ⟨rb, hrb⟩ : ∃ z, w.heap.size + 3 = z := ⟨_, rfl⟩
        have hrw : w.heap.size ≤ rb := by omega
        rw [hrb] at R0r n5' ⊢
        clear hrb e' HR
        obtain ⟨r0, r1, r2, r3, r4, r5, r6⟩ := R0r.out.all
        have HF := Lib.hid (HE.out.st3 (fun h => n5' h.symm) (.int .i64 (nx : Nat)) (.int .i64 (ny : Nat)) (.slice (some ⟨k, 0, none⟩) N N))
        go_wp2
        refine bodyPost_ret (v := .tuple #[.agg #[.int .i64 (nx : Nat), .int .i64 (ny : Nat), .slice (some ⟨k, 0, none⟩) N N], .int .i64 0]) (by simp [results, Try.results48, go_sem, r0, r1, r2, r3, r4, r5]) rfl ?_
        refine .inl ⟨HALL.out, ?_⟩
        rw [HNE.out]
        exact ⟨_, _, rfl, HF.out.holds HF.out.lt, bel_st3 LBr.out hrw _ _ _⟩
end Go.Proofs.Ytngjcekjboedjaa
