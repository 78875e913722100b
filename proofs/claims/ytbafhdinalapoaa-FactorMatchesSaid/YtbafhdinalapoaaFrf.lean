/- The program's FromLift where it refuses (more). -/
import Derived.Test.YtbafhdinalapoaaFre
namespace Go.Proofs.Ytbafhdinalapoaa
open Go.RowKit
set_option linter.unusedVariables false
set_option linter.unusedSimpArgs false
set_option maxRecDepth 100000

open L2 (fst nd ren nd_le)

set_option maxHeartbeats 1000000 in
theorem fromlift_n (A : Option Addr) (n c : Nat) (th : Nat → Int) (W H b o cap : Nat) (f : Nat → Bool) (w : World) (ht : L2.Holds w w.heap.size A n th) (hr : Holds w w.heap.size (some ⟨b, o, none⟩) (W * H) f) (hcap : W * H ≤ cap)
    (hW0 : 1 ≤ W) (hW : W ≤ 64) (hH0 : 1 ≤ H) (hH : H ≤ 64) (hn : n ≤ 5000) (h : 64 < n) :
    Calls Try.prog 13 #[.slice A n c, .agg #[.int .i64 W, .int .i64 H, .slice (some ⟨b, o, none⟩) (W * H) cap]] w (ErrDr w 4) := by
  have HT := Lib.hid ht
  have HR := Lib.hid hr
  have HCP := Lib.hid hcap
  obtain ⟨K, hKe⟩ : ∃ K, nd (rc W f) H = K := ⟨_, rfl⟩
  skip
  try rw [hKe] at h
  try rw [hKe] at h2
  have HKE := Lib.hid hKe
  have X0 := Lib.hid ((Box.new w W H (.slice (some ⟨b, o, none⟩) (W * H) cap)).alloc (.cells #[.int .i64 0, .int .i64 0, .slice none 0 0, .slice none 0 0, .int .i64 0, .int .i64 0, .slice none 0 0] 30))
  have Z0 := Lib.hid (DBox.new (w.alloc (.cells #[.int .i64 W, .int .i64 H, .slice (some ⟨b, o, none⟩) (W * H) cap] 24)) Dr.zero)
  have L0 := Lib.hid (show Below w.heap.size w ((w.alloc (.cells #[.int .i64 W, .int .i64 H, .slice (some ⟨b, o, none⟩) (W * H) cap] 24)).alloc (.cells #[.int .i64 0, .int .i64 0, .slice none 0 0, .slice none 0 0, .int .i64 0, .int .i64 0, .slice none 0 0] 30)) from ((Below.refl _ _).alloc (Nat.le_refl _) _).alloc (by simp) _)
  simp only [World.size_alloc] at Z0
  have Z0' : Hid (DBox ((w.alloc (.cells #[.int .i64 W, .int .i64 H, .slice (some ⟨b, o, none⟩) (W * H) cap] 24)).alloc (.cells #[.int .i64 0, .int .i64 0, .slice none 0 0, .slice none 0 0, .int .i64 0, .int .i64 0, .slice none 0 0] 30)) (w.heap.size + 1) Dr.zero) := Z0
  clear Z0 ht hr hcap hKe
  go_enter Try.func13, Try.ntmps13
  go_wp2_with fail
  generalize (w.alloc (.cells #[.int .i64 W, .int .i64 H, .slice (some ⟨b, o, none⟩) (W * H) cap] 24)).alloc (.cells #[.int .i64 0, .int .i64 0, .slice none 0 0, .slice none 0 0, .int .i64 0, .int .i64 0, .slice none 0 0] 30) = w0 at *
  have hN : W * H ≤ 4200 := by have := Nat.mul_le_mul hW hH; omega
  refine (gchk_err hN (chk_zero hW0 hW hH0 hH) w0).mono ?_
  rintro e w1 ⟨rfl, hb⟩
  have X1 := Lib.hid (X0.out.below hb X0.out.lt)
  have Z1 := Lib.hid (Z0'.out.next hb)
  have L1 := Lib.hid (L0.out.trans (hb.mono L0.out.size))
  clear hb X0 Z0' L0
  obtain ⟨q0, q1, q2, q3, q4, q5, q6⟩ := X1.out.all
  go_wp2_with fail
  clear q0 q1 q2 q3 q4 q5 q6
  refine (kinds_any W H b o cap f w.heap.size w1 (HR.out.below L1.out) L1.out.size HCP.out hW0 hW hH0 hH).mono ?_
  rintro e w2 ⟨kk, A', c', rfl, hkk, hrk, hfr, hb⟩
  rw [HKE.out]
  have Z2 := Lib.hid ((Z1.out.next hb).alloc (.cells #[.slice A' K c'] 28))
  have L2a := Lib.hid (L1.out.trans (hb.mono L1.out.size))
  have hbs := Lib.hid hb.size
  have ZB := Lib.hid (Z1.out.next hb)
  have L1s := Lib.hid L1.out.size
  have L2' := Lib.hid ((L1.out.trans (hb.mono L1.out.size)).alloc (Nat.le_trans L1.out.size hb.size) (.cells #[.slice A' K c'] 28))
  obtain ⟨q0, q1, q2, q3, q4, q5, q6⟩ := (X1.out.below hb X1.out.lt).all
  have zz := (Z1.out.next hb).all
  have zf := (Z1.out.next hb).frees
  simp only [Dr.zero] at zz
  obtain ⟨t0, t1, t2, t3, t4, t5, t6, t7⟩ := zz
  obtain ⟨z0, z1, z2, z3, z4, z5, z6⟩ := zf
  have d1 : decide (64 < (n : Int)) = true := by simp; omega
  clear hb hkk hrk hfr X1 Z1 L1
  go_wp2
  obtain ⟨s0, s1, s2, s3, s4, s5, s6⟩ := set7_read ZB.out (.int .i64 0) (.int .i64 0) (.slice none 0 0) (.slice none 0 0) (.int .i64 0) (.int .i64 0) (.slice none 0 0) (.cells #[.slice A' K c'] 28) _ rfl
  refine bodyPost_ret (v := .tuple #[.agg #[.int .i64 0, .int .i64 0, .slice none 0 0, .slice none 0 0, .int .i64 0, .int .i64 0, .slice none 0 0], .int .i64 4]) (by simp [results, Try.results13, go_sem, s0, s1, s2, s3, s4, s5, s6]) rfl ?_
  refine ⟨rfl, ?_⟩
  exact (set7_below (by omega) L2a.out).alloc (by simpa [World.setCell] using Nat.le_trans L1s.out hbs.out) _

set_option maxHeartbeats 1000000 in
theorem fromlift_W (A : Option Addr) (n c : Nat) (th : Nat → Int) (W H b o cap : Nat) (f : Nat → Bool) (w : World) (ht : L2.Holds w w.heap.size A n th) (hr : Holds w w.heap.size (some ⟨b, o, none⟩) (W * H) f) (hcap : W * H ≤ cap)
    (hW0 : 1 ≤ W) (hW : W ≤ 64) (hH0 : 1 ≤ H) (hH : H ≤ 64) (hn : n ≤ 5000) (h0 : ¬ 64 < n) (h : 40 < W) :
    Calls Try.prog 13 #[.slice A n c, .agg #[.int .i64 W, .int .i64 H, .slice (some ⟨b, o, none⟩) (W * H) cap]] w (ErrDr w 4) := by
  have HT := Lib.hid ht
  have HR := Lib.hid hr
  have HCP := Lib.hid hcap
  obtain ⟨K, hKe⟩ : ∃ K, nd (rc W f) H = K := ⟨_, rfl⟩
  skip
  try rw [hKe] at h
  try rw [hKe] at h2
  have HKE := Lib.hid hKe
  have X0 := Lib.hid ((Box.new w W H (.slice (some ⟨b, o, none⟩) (W * H) cap)).alloc (.cells #[.int .i64 0, .int .i64 0, .slice none 0 0, .slice none 0 0, .int .i64 0, .int .i64 0, .slice none 0 0] 30))
  have Z0 := Lib.hid (DBox.new (w.alloc (.cells #[.int .i64 W, .int .i64 H, .slice (some ⟨b, o, none⟩) (W * H) cap] 24)) Dr.zero)
  have L0 := Lib.hid (show Below w.heap.size w ((w.alloc (.cells #[.int .i64 W, .int .i64 H, .slice (some ⟨b, o, none⟩) (W * H) cap] 24)).alloc (.cells #[.int .i64 0, .int .i64 0, .slice none 0 0, .slice none 0 0, .int .i64 0, .int .i64 0, .slice none 0 0] 30)) from ((Below.refl _ _).alloc (Nat.le_refl _) _).alloc (by simp) _)
  simp only [World.size_alloc] at Z0
  have Z0' : Hid (DBox ((w.alloc (.cells #[.int .i64 W, .int .i64 H, .slice (some ⟨b, o, none⟩) (W * H) cap] 24)).alloc (.cells #[.int .i64 0, .int .i64 0, .slice none 0 0, .slice none 0 0, .int .i64 0, .int .i64 0, .slice none 0 0] 30)) (w.heap.size + 1) Dr.zero) := Z0
  clear Z0 ht hr hcap hKe
  go_enter Try.func13, Try.ntmps13
  go_wp2_with fail
  generalize (w.alloc (.cells #[.int .i64 W, .int .i64 H, .slice (some ⟨b, o, none⟩) (W * H) cap] 24)).alloc (.cells #[.int .i64 0, .int .i64 0, .slice none 0 0, .slice none 0 0, .int .i64 0, .int .i64 0, .slice none 0 0] 30) = w0 at *
  have hN : W * H ≤ 4200 := by have := Nat.mul_le_mul hW hH; omega
  refine (gchk_err hN (chk_zero hW0 hW hH0 hH) w0).mono ?_
  rintro e w1 ⟨rfl, hb⟩
  have X1 := Lib.hid (X0.out.below hb X0.out.lt)
  have Z1 := Lib.hid (Z0'.out.next hb)
  have L1 := Lib.hid (L0.out.trans (hb.mono L0.out.size))
  clear hb X0 Z0' L0
  obtain ⟨q0, q1, q2, q3, q4, q5, q6⟩ := X1.out.all
  go_wp2_with fail
  clear q0 q1 q2 q3 q4 q5 q6
  refine (kinds_any W H b o cap f w.heap.size w1 (HR.out.below L1.out) L1.out.size HCP.out hW0 hW hH0 hH).mono ?_
  rintro e w2 ⟨kk, A', c', rfl, hkk, hrk, hfr, hb⟩
  rw [HKE.out]
  have Z2 := Lib.hid ((Z1.out.next hb).alloc (.cells #[.slice A' K c'] 28))
  have L2a := Lib.hid (L1.out.trans (hb.mono L1.out.size))
  have hbs := Lib.hid hb.size
  have ZB := Lib.hid (Z1.out.next hb)
  have L1s := Lib.hid L1.out.size
  have L2' := Lib.hid ((L1.out.trans (hb.mono L1.out.size)).alloc (Nat.le_trans L1.out.size hb.size) (.cells #[.slice A' K c'] 28))
  obtain ⟨q0, q1, q2, q3, q4, q5, q6⟩ := (X1.out.below hb X1.out.lt).all
  have zz := (Z1.out.next hb).all
  have zf := (Z1.out.next hb).frees
  simp only [Dr.zero] at zz
  obtain ⟨t0, t1, t2, t3, t4, t5, t6, t7⟩ := zz
  obtain ⟨z0, z1, z2, z3, z4, z5, z6⟩ := zf
  have d1 : decide (64 < (n : Int)) = false := by simp; omega
  have d2 : decide (40 < (W : Int)) = true := by simp; omega
  clear hb hkk hrk hfr X1 Z1 L1
  go_wp2
  obtain ⟨s0, s1, s2, s3, s4, s5, s6⟩ := set7_read ZB.out (.int .i64 0) (.int .i64 0) (.slice none 0 0) (.slice none 0 0) (.int .i64 0) (.int .i64 0) (.slice none 0 0) (.cells #[.slice A' K c'] 28) _ rfl
  refine bodyPost_ret (v := .tuple #[.agg #[.int .i64 0, .int .i64 0, .slice none 0 0, .slice none 0 0, .int .i64 0, .int .i64 0, .slice none 0 0], .int .i64 4]) (by simp [results, Try.results13, go_sem, s0, s1, s2, s3, s4, s5, s6]) rfl ?_
  refine ⟨rfl, ?_⟩
  exact (set7_below (by omega) L2a.out).alloc (by simpa [World.setCell] using Nat.le_trans L1s.out hbs.out) _

set_option maxHeartbeats 1000000 in
theorem fromlift_h (A : Option Addr) (n c : Nat) (th : Nat → Int) (W H b o cap : Nat) (f : Nat → Bool) (w : World) (ht : L2.Holds w w.heap.size A n th) (hr : Holds w w.heap.size (some ⟨b, o, none⟩) (W * H) f) (hcap : W * H ≤ cap)
    (hW0 : 1 ≤ W) (hW : W ≤ 64) (hH0 : 1 ≤ H) (hH : H ≤ 64) (hn : n ≤ 5000) (h0 : ¬ 64 < n) (h1 : ¬ 40 < W) (h2 : ¬ 40 < nd (rc W f) H) (hw : wi n th W = false) :
    Calls Try.prog 13 #[.slice A n c, .agg #[.int .i64 W, .int .i64 H, .slice (some ⟨b, o, none⟩) (W * H) cap]] w (ErrDr w 8) := by
  have HT := Lib.hid ht
  have HR := Lib.hid hr
  have HCP := Lib.hid hcap
  obtain ⟨K, hKe⟩ : ∃ K, nd (rc W f) H = K := ⟨_, rfl⟩
  have HW := Lib.hid hw
  clear hw
  try rw [hKe] at h
  try rw [hKe] at h2
  have HKE := Lib.hid hKe
  have X0 := Lib.hid ((Box.new w W H (.slice (some ⟨b, o, none⟩) (W * H) cap)).alloc (.cells #[.int .i64 0, .int .i64 0, .slice none 0 0, .slice none 0 0, .int .i64 0, .int .i64 0, .slice none 0 0] 30))
  have Z0 := Lib.hid (DBox.new (w.alloc (.cells #[.int .i64 W, .int .i64 H, .slice (some ⟨b, o, none⟩) (W * H) cap] 24)) Dr.zero)
  have L0 := Lib.hid (show Below w.heap.size w ((w.alloc (.cells #[.int .i64 W, .int .i64 H, .slice (some ⟨b, o, none⟩) (W * H) cap] 24)).alloc (.cells #[.int .i64 0, .int .i64 0, .slice none 0 0, .slice none 0 0, .int .i64 0, .int .i64 0, .slice none 0 0] 30)) from ((Below.refl _ _).alloc (Nat.le_refl _) _).alloc (by simp) _)
  simp only [World.size_alloc] at Z0
  have Z0' : Hid (DBox ((w.alloc (.cells #[.int .i64 W, .int .i64 H, .slice (some ⟨b, o, none⟩) (W * H) cap] 24)).alloc (.cells #[.int .i64 0, .int .i64 0, .slice none 0 0, .slice none 0 0, .int .i64 0, .int .i64 0, .slice none 0 0] 30)) (w.heap.size + 1) Dr.zero) := Z0
  clear Z0 ht hr hcap hKe
  go_enter Try.func13, Try.ntmps13
  go_wp2_with fail
  generalize (w.alloc (.cells #[.int .i64 W, .int .i64 H, .slice (some ⟨b, o, none⟩) (W * H) cap] 24)).alloc (.cells #[.int .i64 0, .int .i64 0, .slice none 0 0, .slice none 0 0, .int .i64 0, .int .i64 0, .slice none 0 0] 30) = w0 at *
  have hN : W * H ≤ 4200 := by have := Nat.mul_le_mul hW hH; omega
  refine (gchk_err hN (chk_zero hW0 hW hH0 hH) w0).mono ?_
  rintro e w1 ⟨rfl, hb⟩
  have X1 := Lib.hid (X0.out.below hb X0.out.lt)
  have Z1 := Lib.hid (Z0'.out.next hb)
  have L1 := Lib.hid (L0.out.trans (hb.mono L0.out.size))
  clear hb X0 Z0' L0
  obtain ⟨q0, q1, q2, q3, q4, q5, q6⟩ := X1.out.all
  go_wp2_with fail
  clear q0 q1 q2 q3 q4 q5 q6
  refine (kinds_any W H b o cap f w.heap.size w1 (HR.out.below L1.out) L1.out.size HCP.out hW0 hW hH0 hH).mono ?_
  rintro e w2 ⟨kk, A', c', rfl, hkk, hrk, hfr, hb⟩
  rw [HKE.out]
  have Z2 := Lib.hid ((Z1.out.next hb).alloc (.cells #[.slice A' K c'] 28))
  have L2a := Lib.hid (L1.out.trans (hb.mono L1.out.size))
  have hbs := Lib.hid hb.size
  have ZB := Lib.hid (Z1.out.next hb)
  have L1s := Lib.hid L1.out.size
  have L2' := Lib.hid ((L1.out.trans (hb.mono L1.out.size)).alloc (Nat.le_trans L1.out.size hb.size) (.cells #[.slice A' K c'] 28))
  obtain ⟨q0, q1, q2, q3, q4, q5, q6⟩ := (X1.out.below hb X1.out.lt).all
  have zz := (Z1.out.next hb).all
  have zf := (Z1.out.next hb).frees
  simp only [Dr.zero] at zz
  obtain ⟨t0, t1, t2, t3, t4, t5, t6, t7⟩ := zz
  obtain ⟨z0, z1, z2, z3, z4, z5, z6⟩ := zf
  have d1 : decide (64 < (n : Int)) = false := by simp; omega
  have d2 : decide (40 < (W : Int)) = false := by simp; omega
  have d3 : decide (40 < (K : Int)) = false := by simp; omega
  clear hb hkk hrk hfr X1 Z1 L1
  go_wp2_with fail
  clear q0 q1 q2 q3 q4 q5 q6 t0 t1 t2 t3 t4 t5 t6 t7 z0 z1 z2 z3 z4 z5 z6
  generalize w2.alloc (.cells #[.slice A' K c'] 28) = w3 at *
  have hh := hasn_any A n c th W w.heap.size w3 (by omega) (HT.out.below L2'.out)
  rw [HW.out] at hh
  refine hh.mono ?_
  rintro e w3' ⟨rfl, rfl⟩
  have zz := Z2.out.all
  have zf := Z2.out.frees
  simp only [Dr.zero] at zz
  obtain ⟨t0, t1, t2, t3, t4, t5, t6, t7⟩ := zz
  obtain ⟨z0, z1, z2, z3, z4, z5, z6⟩ := zf
  go_wp2
  refine bodyPost_ret (v := .tuple #[.agg #[.int .i64 0, .int .i64 0, .slice none 0 0, .slice none 0 0, .int .i64 0, .int .i64 0, .slice none 0 0], .int .i64 8]) (by simp [results, Try.results13, go_sem, t0, t1, t2, t3, t4, t5, t6]) rfl ?_
  refine ⟨rfl, ?_⟩
  exact set7_below (by omega) L2'.out
end Go.Proofs.Ytbafhdinalapoaa
