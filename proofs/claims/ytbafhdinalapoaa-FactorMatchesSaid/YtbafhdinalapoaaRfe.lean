/- The reference's FromLift where it refuses. -/
import Derived.Test.YtbafhdinalapoaaRkd
import Derived.Test.YtbafhdinalapoaaRrn
namespace Go.Proofs.Ytbafhdinalapoaa
open Go.RowKit
set_option linter.unusedVariables false
set_option linter.unusedSimpArgs false
set_option maxRecDepth 100000

open L2 (fst nd ren nd_le)
set_option maxHeartbeats 800000 in
theorem rfromlift_g (A : Option Addr) (n c : Nat) (W H : Int) (C : Option Addr) (N cap : Nat) (err : Int) (w : World) (hk : N ≤ 4200) (hx : chk W H N = err) (hne : (err != 0) = true) :
    Calls Try.prog 35 #[.slice A n c, .agg #[.int .i64 W, .int .i64 H, .slice C N cap]] w (ErrDr w err) := by
  have HC := Lib.hid (fun v => rgchk_err (A := C) (c := cap) hk hx v)
  clear hx
  have X0 := Lib.hid ((Box.new w W H (.slice C N cap)).alloc (.cells #[.int .i64 0, .int .i64 0, .slice none 0 0, .slice none 0 0, .int .i64 0, .int .i64 0, .slice none 0 0] 30))
  have Z0 : Hid (DBox ((w.alloc (.cells #[.int .i64 W, .int .i64 H, .slice C N cap] 24)).alloc (.cells #[.int .i64 0, .int .i64 0, .slice none 0 0, .slice none 0 0, .int .i64 0, .int .i64 0, .slice none 0 0] 30)) (w.heap.size + 1) Dr.zero) := Lib.hid (by
    have h := DBox.new (w.alloc (.cells #[.int .i64 W, .int .i64 H, .slice C N cap] 24)) Dr.zero
    simp only [World.size_alloc] at h
    exact h)
  have L0 := Lib.hid (show Below w.heap.size w ((w.alloc (.cells #[.int .i64 W, .int .i64 H, .slice C N cap] 24)).alloc (.cells #[.int .i64 0, .int .i64 0, .slice none 0 0, .slice none 0 0, .int .i64 0, .int .i64 0, .slice none 0 0] 30)) from ((Below.refl _ _).alloc (Nat.le_refl _) _).alloc (by simp) _)
  have S0 := Lib.hid (show ((w.alloc (.cells #[.int .i64 W, .int .i64 H, .slice C N cap] 24)).alloc (.cells #[.int .i64 0, .int .i64 0, .slice none 0 0, .slice none 0 0, .int .i64 0, .int .i64 0, .slice none 0 0] 30)).heap.size = w.heap.size + 2 by simp)
  go_enter Try.func35, Try.ntmps35
  go_wp2_with fail
  generalize (w.alloc (.cells #[.int .i64 W, .int .i64 H, .slice C N cap] 24)).alloc (.cells #[.int .i64 0, .int .i64 0, .slice none 0 0, .slice none 0 0, .int .i64 0, .int .i64 0, .slice none 0 0] 30) = w0 at *
  refine (HC.out _).mono ?_
  rintro e w1 ⟨rfl, hb⟩
  have X1 := Lib.hid (X0.out.below hb X0.out.lt)
  have Z1 := Lib.hid (Z0.out.next hb)
  have L1 := Lib.hid (L0.out.trans (hb.mono L0.out.size))
  clear X0 Z0 L0 hb
  obtain ⟨q0, q1, q2, q3, q4, q5, q6⟩ := X1.out.all
  go_wp2_with fail
  clear q0 q1 q2 q3 q4 q5 q6
  refine (HC.out _).mono ?_
  rintro e w2 ⟨rfl, hb⟩
  have X2 := Lib.hid (X1.out.below hb X1.out.lt)
  have Z2 := Lib.hid (Z1.out.next hb)
  have Lb := Lib.hid (L1.out.trans (hb.mono L1.out.size))
  clear X1 Z1 L1 hb
  have tt := Z2.out.all
  have zf := Z2.out.frees
  simp only [Dr.zero] at tt
  obtain ⟨t0, t1, t2, t3, t4, t5, t6, t7⟩ := tt
  obtain ⟨g0, g1, g2, g3, g4, g5, g6⟩ := zf
  have HB := Lib.hid Lb.out
  go_wp2
  refine bodyPost_ret (v := .tuple #[.agg #[.int .i64 0, .int .i64 0, .slice none 0 0, .slice none 0 0, .int .i64 0, .int .i64 0, .slice none 0 0], .int .i64 err]) (by simp [results, Try.results35, go_sem, t0, t1, t2, t3, t4, t5, t6]) rfl ?_
  exact dfin_err (by omega) HB.out

set_option maxHeartbeats 800000 in
theorem rfromlift_n (A : Option Addr) (n c : Nat) (th : Nat → Int) (W H N : Nat) (C : Option Addr) (cap : Nat) (f : Nat → Bool) (w : World) (ht : L2.Holds w w.heap.size A n th) (hr : Holds w w.heap.size C N f) (hN : W * H = N) (hW : W ≤ 64) (hH0 : 1 ≤ H) (hH : H ≤ 64) (hW0 : 1 ≤ W) (hn : n ≤ 5000) (h : 64 < n) :
    Calls Try.prog 35 #[.slice A n c, .agg #[.int .i64 W, .int .i64 H, .slice C N cap]] w (ErrDr w 4) := by
  have HT := Lib.hid ht
  have HR := Lib.hid hr
  have HNN := Lib.hid hN
  have hN2 : N ≤ 4200 := by have := Nat.mul_le_mul hW hH; omega
  have HX := Lib.hid (show chk W H N = 0 by rw [← hN]; exact chk_zero hW0 hW hH0 hH)
  obtain ⟨K, hKe⟩ : ∃ K, nd (rc W f) H = K := ⟨_, rfl⟩
  try rw [hKe] at h
  try rw [hKe] at h2
  try have HWI := Lib.hid hw
  try clear hw
  have HKE := Lib.hid hKe
  clear ht hr hN hKe
  have X0 := Lib.hid ((Box.new w W H (.slice C N cap)).alloc (.cells #[.int .i64 0, .int .i64 0, .slice none 0 0, .slice none 0 0, .int .i64 0, .int .i64 0, .slice none 0 0] 30))
  have Z0 : Hid (DBox ((w.alloc (.cells #[.int .i64 W, .int .i64 H, .slice C N cap] 24)).alloc (.cells #[.int .i64 0, .int .i64 0, .slice none 0 0, .slice none 0 0, .int .i64 0, .int .i64 0, .slice none 0 0] 30)) (w.heap.size + 1) Dr.zero) := Lib.hid (by
    have h := DBox.new (w.alloc (.cells #[.int .i64 W, .int .i64 H, .slice C N cap] 24)) Dr.zero
    simp only [World.size_alloc] at h
    exact h)
  have L0 := Lib.hid (show Below w.heap.size w ((w.alloc (.cells #[.int .i64 W, .int .i64 H, .slice C N cap] 24)).alloc (.cells #[.int .i64 0, .int .i64 0, .slice none 0 0, .slice none 0 0, .int .i64 0, .int .i64 0, .slice none 0 0] 30)) from ((Below.refl _ _).alloc (Nat.le_refl _) _).alloc (by simp) _)
  have S0 := Lib.hid (show ((w.alloc (.cells #[.int .i64 W, .int .i64 H, .slice C N cap] 24)).alloc (.cells #[.int .i64 0, .int .i64 0, .slice none 0 0, .slice none 0 0, .int .i64 0, .int .i64 0, .slice none 0 0] 30)).heap.size = w.heap.size + 2 by simp)
  go_enter Try.func35, Try.ntmps35
  go_wp2_with fail
  generalize (w.alloc (.cells #[.int .i64 W, .int .i64 H, .slice C N cap] 24)).alloc (.cells #[.int .i64 0, .int .i64 0, .slice none 0 0, .slice none 0 0, .int .i64 0, .int .i64 0, .slice none 0 0] 30) = w0 at *
  refine (rgchk_err hN2 HX.out _).mono ?_
  rintro e w1 ⟨rfl, hb⟩
  have X1 := Lib.hid (X0.out.below hb X0.out.lt)
  have Z1 := Lib.hid (Z0.out.next hb)
  have L1 := Lib.hid (L0.out.trans (hb.mono L0.out.size))
  clear X0 Z0 L0 hb
  obtain ⟨q0, q1, q2, q3, q4, q5, q6⟩ := X1.out.all
  go_wp2_with fail
  clear q0 q1 q2 q3 q4 q5 q6
  have hkd := rkinds_any W H C cap f w.heap.size w1 (by have := HR.out.below L1.out; rw [← HNN.out] at this; exact this) L1.out.size hW hH
  rw [HNN.out] at hkd
  refine hkd.mono ?_
  rintro e w2 ⟨B1, d1, B2, d2, rfl, hk1, hk2, hb⟩
  rw [HKE.out] at hk2 ⊢
  have hw1s : w.heap.size + 2 ≤ w1.heap.size := by have := Z1.out.lt; omega
  have HK1 := Lib.hid hk1
  have HK2 := Lib.hid hk2
  clear hk1 hk2 hkd
  have X2 := Lib.hid (X1.out.below hb X1.out.lt)
  have Z2 := Lib.hid (Z1.out.next hb)
  have Lb := Lib.hid (L1.out.trans (hb.mono L1.out.size))
  clear X1 Z1 L1 hb
  obtain ⟨q0, q1, q2, q3, q4, q5, q6⟩ := X2.out.all
  have e1 : decide (64 < (n : Int)) = true := by simp; omega
  have tt := Z2.out.all
  have zf := Z2.out.frees
  simp only [Dr.zero] at tt
  obtain ⟨t0, t1, t2, t3, t4, t5, t6, t7⟩ := tt
  obtain ⟨g0, g1, g2, g3, g4, g5, g6⟩ := zf
  have HB := Lib.hid Lb.out
  go_wp2
  refine bodyPost_ret (v := .tuple #[.agg #[.int .i64 0, .int .i64 0, .slice none 0 0, .slice none 0 0, .int .i64 0, .int .i64 0, .slice none 0 0], .int .i64 4]) (by simp [results, Try.results35, go_sem, t0, t1, t2, t3, t4, t5, t6]) rfl ?_
  exact dfin_err (by omega) HB.out

set_option maxHeartbeats 800000 in
theorem rfromlift_W (A : Option Addr) (n c : Nat) (th : Nat → Int) (W H N : Nat) (C : Option Addr) (cap : Nat) (f : Nat → Bool) (w : World) (ht : L2.Holds w w.heap.size A n th) (hr : Holds w w.heap.size C N f) (hN : W * H = N) (hW : W ≤ 64) (hH0 : 1 ≤ H) (hH : H ≤ 64) (hW0 : 1 ≤ W) (hn : n ≤ 5000) (h0 : ¬ 64 < n) (h : 40 < W) :
    Calls Try.prog 35 #[.slice A n c, .agg #[.int .i64 W, .int .i64 H, .slice C N cap]] w (ErrDr w 4) := by
  have HT := Lib.hid ht
  have HR := Lib.hid hr
  have HNN := Lib.hid hN
  have hN2 : N ≤ 4200 := by have := Nat.mul_le_mul hW hH; omega
  have HX := Lib.hid (show chk W H N = 0 by rw [← hN]; exact chk_zero hW0 hW hH0 hH)
  obtain ⟨K, hKe⟩ : ∃ K, nd (rc W f) H = K := ⟨_, rfl⟩
  try rw [hKe] at h
  try rw [hKe] at h2
  try have HWI := Lib.hid hw
  try clear hw
  have HKE := Lib.hid hKe
  clear ht hr hN hKe
  have X0 := Lib.hid ((Box.new w W H (.slice C N cap)).alloc (.cells #[.int .i64 0, .int .i64 0, .slice none 0 0, .slice none 0 0, .int .i64 0, .int .i64 0, .slice none 0 0] 30))
  have Z0 : Hid (DBox ((w.alloc (.cells #[.int .i64 W, .int .i64 H, .slice C N cap] 24)).alloc (.cells #[.int .i64 0, .int .i64 0, .slice none 0 0, .slice none 0 0, .int .i64 0, .int .i64 0, .slice none 0 0] 30)) (w.heap.size + 1) Dr.zero) := Lib.hid (by
    have h := DBox.new (w.alloc (.cells #[.int .i64 W, .int .i64 H, .slice C N cap] 24)) Dr.zero
    simp only [World.size_alloc] at h
    exact h)
  have L0 := Lib.hid (show Below w.heap.size w ((w.alloc (.cells #[.int .i64 W, .int .i64 H, .slice C N cap] 24)).alloc (.cells #[.int .i64 0, .int .i64 0, .slice none 0 0, .slice none 0 0, .int .i64 0, .int .i64 0, .slice none 0 0] 30)) from ((Below.refl _ _).alloc (Nat.le_refl _) _).alloc (by simp) _)
  have S0 := Lib.hid (show ((w.alloc (.cells #[.int .i64 W, .int .i64 H, .slice C N cap] 24)).alloc (.cells #[.int .i64 0, .int .i64 0, .slice none 0 0, .slice none 0 0, .int .i64 0, .int .i64 0, .slice none 0 0] 30)).heap.size = w.heap.size + 2 by simp)
  go_enter Try.func35, Try.ntmps35
  go_wp2_with fail
  generalize (w.alloc (.cells #[.int .i64 W, .int .i64 H, .slice C N cap] 24)).alloc (.cells #[.int .i64 0, .int .i64 0, .slice none 0 0, .slice none 0 0, .int .i64 0, .int .i64 0, .slice none 0 0] 30) = w0 at *
  refine (rgchk_err hN2 HX.out _).mono ?_
  rintro e w1 ⟨rfl, hb⟩
  have X1 := Lib.hid (X0.out.below hb X0.out.lt)
  have Z1 := Lib.hid (Z0.out.next hb)
  have L1 := Lib.hid (L0.out.trans (hb.mono L0.out.size))
  clear X0 Z0 L0 hb
  obtain ⟨q0, q1, q2, q3, q4, q5, q6⟩ := X1.out.all
  go_wp2_with fail
  clear q0 q1 q2 q3 q4 q5 q6
  have hkd := rkinds_any W H C cap f w.heap.size w1 (by have := HR.out.below L1.out; rw [← HNN.out] at this; exact this) L1.out.size hW hH
  rw [HNN.out] at hkd
  refine hkd.mono ?_
  rintro e w2 ⟨B1, d1, B2, d2, rfl, hk1, hk2, hb⟩
  rw [HKE.out] at hk2 ⊢
  have hw1s : w.heap.size + 2 ≤ w1.heap.size := by have := Z1.out.lt; omega
  have HK1 := Lib.hid hk1
  have HK2 := Lib.hid hk2
  clear hk1 hk2 hkd
  have X2 := Lib.hid (X1.out.below hb X1.out.lt)
  have Z2 := Lib.hid (Z1.out.next hb)
  have Lb := Lib.hid (L1.out.trans (hb.mono L1.out.size))
  clear X1 Z1 L1 hb
  obtain ⟨q0, q1, q2, q3, q4, q5, q6⟩ := X2.out.all
  have e1 : decide (64 < (n : Int)) = false := by simp; omega
  have e2 : decide (40 < (W : Int)) = true := by simp; omega
  have tt := Z2.out.all
  have zf := Z2.out.frees
  simp only [Dr.zero] at tt
  obtain ⟨t0, t1, t2, t3, t4, t5, t6, t7⟩ := tt
  obtain ⟨g0, g1, g2, g3, g4, g5, g6⟩ := zf
  have HB := Lib.hid Lb.out
  go_wp2
  refine bodyPost_ret (v := .tuple #[.agg #[.int .i64 0, .int .i64 0, .slice none 0 0, .slice none 0 0, .int .i64 0, .int .i64 0, .slice none 0 0], .int .i64 4]) (by simp [results, Try.results35, go_sem, t0, t1, t2, t3, t4, t5, t6]) rfl ?_
  exact dfin_err (by omega) HB.out

set_option maxHeartbeats 800000 in
theorem rfromlift_K (A : Option Addr) (n c : Nat) (th : Nat → Int) (W H N : Nat) (C : Option Addr) (cap : Nat) (f : Nat → Bool) (w : World) (ht : L2.Holds w w.heap.size A n th) (hr : Holds w w.heap.size C N f) (hN : W * H = N) (hW : W ≤ 64) (hH0 : 1 ≤ H) (hH : H ≤ 64) (hW0 : 1 ≤ W) (hn : n ≤ 5000) (h0 : ¬ 64 < n) (h1 : ¬ 40 < W) (h : 40 < nd (rc W f) H) :
    Calls Try.prog 35 #[.slice A n c, .agg #[.int .i64 W, .int .i64 H, .slice C N cap]] w (ErrDr w 4) := by
  have HT := Lib.hid ht
  have HR := Lib.hid hr
  have HNN := Lib.hid hN
  have hN2 : N ≤ 4200 := by have := Nat.mul_le_mul hW hH; omega
  have HX := Lib.hid (show chk W H N = 0 by rw [← hN]; exact chk_zero hW0 hW hH0 hH)
  obtain ⟨K, hKe⟩ : ∃ K, nd (rc W f) H = K := ⟨_, rfl⟩
  try rw [hKe] at h
  try rw [hKe] at h2
  try have HWI := Lib.hid hw
  try clear hw
  have HKE := Lib.hid hKe
  clear ht hr hN hKe
  have X0 := Lib.hid ((Box.new w W H (.slice C N cap)).alloc (.cells #[.int .i64 0, .int .i64 0, .slice none 0 0, .slice none 0 0, .int .i64 0, .int .i64 0, .slice none 0 0] 30))
  have Z0 : Hid (DBox ((w.alloc (.cells #[.int .i64 W, .int .i64 H, .slice C N cap] 24)).alloc (.cells #[.int .i64 0, .int .i64 0, .slice none 0 0, .slice none 0 0, .int .i64 0, .int .i64 0, .slice none 0 0] 30)) (w.heap.size + 1) Dr.zero) := Lib.hid (by
    have h := DBox.new (w.alloc (.cells #[.int .i64 W, .int .i64 H, .slice C N cap] 24)) Dr.zero
    simp only [World.size_alloc] at h
    exact h)
  have L0 := Lib.hid (show Below w.heap.size w ((w.alloc (.cells #[.int .i64 W, .int .i64 H, .slice C N cap] 24)).alloc (.cells #[.int .i64 0, .int .i64 0, .slice none 0 0, .slice none 0 0, .int .i64 0, .int .i64 0, .slice none 0 0] 30)) from ((Below.refl _ _).alloc (Nat.le_refl _) _).alloc (by simp) _)
  have S0 := Lib.hid (show ((w.alloc (.cells #[.int .i64 W, .int .i64 H, .slice C N cap] 24)).alloc (.cells #[.int .i64 0, .int .i64 0, .slice none 0 0, .slice none 0 0, .int .i64 0, .int .i64 0, .slice none 0 0] 30)).heap.size = w.heap.size + 2 by simp)
  go_enter Try.func35, Try.ntmps35
  go_wp2_with fail
  generalize (w.alloc (.cells #[.int .i64 W, .int .i64 H, .slice C N cap] 24)).alloc (.cells #[.int .i64 0, .int .i64 0, .slice none 0 0, .slice none 0 0, .int .i64 0, .int .i64 0, .slice none 0 0] 30) = w0 at *
  refine (rgchk_err hN2 HX.out _).mono ?_
  rintro e w1 ⟨rfl, hb⟩
  have X1 := Lib.hid (X0.out.below hb X0.out.lt)
  have Z1 := Lib.hid (Z0.out.next hb)
  have L1 := Lib.hid (L0.out.trans (hb.mono L0.out.size))
  clear X0 Z0 L0 hb
  obtain ⟨q0, q1, q2, q3, q4, q5, q6⟩ := X1.out.all
  go_wp2_with fail
  clear q0 q1 q2 q3 q4 q5 q6
  have hkd := rkinds_any W H C cap f w.heap.size w1 (by have := HR.out.below L1.out; rw [← HNN.out] at this; exact this) L1.out.size hW hH
  rw [HNN.out] at hkd
  refine hkd.mono ?_
  rintro e w2 ⟨B1, d1, B2, d2, rfl, hk1, hk2, hb⟩
  rw [HKE.out] at hk2 ⊢
  have hw1s : w.heap.size + 2 ≤ w1.heap.size := by have := Z1.out.lt; omega
  have HK1 := Lib.hid hk1
  have HK2 := Lib.hid hk2
  clear hk1 hk2 hkd
  have X2 := Lib.hid (X1.out.below hb X1.out.lt)
  have Z2 := Lib.hid (Z1.out.next hb)
  have Lb := Lib.hid (L1.out.trans (hb.mono L1.out.size))
  clear X1 Z1 L1 hb
  obtain ⟨q0, q1, q2, q3, q4, q5, q6⟩ := X2.out.all
  have e1 : decide (64 < (n : Int)) = false := by simp; omega
  have e2 : decide (40 < (W : Int)) = false := by simp; omega
  have e3 : decide (40 < (K : Int)) = true := by simp; omega
  have tt := Z2.out.all
  have zf := Z2.out.frees
  simp only [Dr.zero] at tt
  obtain ⟨t0, t1, t2, t3, t4, t5, t6, t7⟩ := tt
  obtain ⟨g0, g1, g2, g3, g4, g5, g6⟩ := zf
  have HB := Lib.hid Lb.out
  go_wp2
  refine bodyPost_ret (v := .tuple #[.agg #[.int .i64 0, .int .i64 0, .slice none 0 0, .slice none 0 0, .int .i64 0, .int .i64 0, .slice none 0 0], .int .i64 4]) (by simp [results, Try.results35, go_sem, t0, t1, t2, t3, t4, t5, t6]) rfl ?_
  exact dfin_err (by omega) HB.out

set_option maxHeartbeats 800000 in
theorem rfromlift_h (A : Option Addr) (n c : Nat) (th : Nat → Int) (W H N : Nat) (C : Option Addr) (cap : Nat) (f : Nat → Bool) (w : World) (ht : L2.Holds w w.heap.size A n th) (hr : Holds w w.heap.size C N f) (hN : W * H = N) (hW : W ≤ 64) (hH0 : 1 ≤ H) (hH : H ≤ 64) (hW0 : 1 ≤ W) (hn : n ≤ 5000) (h0 : ¬ 64 < n) (h1 : ¬ 40 < W) (h2 : ¬ 40 < nd (rc W f) H) (hw : wi n th W = false) :
    Calls Try.prog 35 #[.slice A n c, .agg #[.int .i64 W, .int .i64 H, .slice C N cap]] w (ErrDr w 8) := by
  have HT := Lib.hid ht
  have HR := Lib.hid hr
  have HNN := Lib.hid hN
  have hN2 : N ≤ 4200 := by have := Nat.mul_le_mul hW hH; omega
  have HX := Lib.hid (show chk W H N = 0 by rw [← hN]; exact chk_zero hW0 hW hH0 hH)
  obtain ⟨K, hKe⟩ : ∃ K, nd (rc W f) H = K := ⟨_, rfl⟩
  try rw [hKe] at h
  try rw [hKe] at h2
  try have HWI := Lib.hid hw
  try clear hw
  have HKE := Lib.hid hKe
  clear ht hr hN hKe
  have X0 := Lib.hid ((Box.new w W H (.slice C N cap)).alloc (.cells #[.int .i64 0, .int .i64 0, .slice none 0 0, .slice none 0 0, .int .i64 0, .int .i64 0, .slice none 0 0] 30))
  have Z0 : Hid (DBox ((w.alloc (.cells #[.int .i64 W, .int .i64 H, .slice C N cap] 24)).alloc (.cells #[.int .i64 0, .int .i64 0, .slice none 0 0, .slice none 0 0, .int .i64 0, .int .i64 0, .slice none 0 0] 30)) (w.heap.size + 1) Dr.zero) := Lib.hid (by
    have h := DBox.new (w.alloc (.cells #[.int .i64 W, .int .i64 H, .slice C N cap] 24)) Dr.zero
    simp only [World.size_alloc] at h
    exact h)
  have L0 := Lib.hid (show Below w.heap.size w ((w.alloc (.cells #[.int .i64 W, .int .i64 H, .slice C N cap] 24)).alloc (.cells #[.int .i64 0, .int .i64 0, .slice none 0 0, .slice none 0 0, .int .i64 0, .int .i64 0, .slice none 0 0] 30)) from ((Below.refl _ _).alloc (Nat.le_refl _) _).alloc (by simp) _)
  have S0 := Lib.hid (show ((w.alloc (.cells #[.int .i64 W, .int .i64 H, .slice C N cap] 24)).alloc (.cells #[.int .i64 0, .int .i64 0, .slice none 0 0, .slice none 0 0, .int .i64 0, .int .i64 0, .slice none 0 0] 30)).heap.size = w.heap.size + 2 by simp)
  go_enter Try.func35, Try.ntmps35
  go_wp2_with fail
  generalize (w.alloc (.cells #[.int .i64 W, .int .i64 H, .slice C N cap] 24)).alloc (.cells #[.int .i64 0, .int .i64 0, .slice none 0 0, .slice none 0 0, .int .i64 0, .int .i64 0, .slice none 0 0] 30) = w0 at *
  refine (rgchk_err hN2 HX.out _).mono ?_
  rintro e w1 ⟨rfl, hb⟩
  have X1 := Lib.hid (X0.out.below hb X0.out.lt)
  have Z1 := Lib.hid (Z0.out.next hb)
  have L1 := Lib.hid (L0.out.trans (hb.mono L0.out.size))
  clear X0 Z0 L0 hb
  obtain ⟨q0, q1, q2, q3, q4, q5, q6⟩ := X1.out.all
  go_wp2_with fail
  clear q0 q1 q2 q3 q4 q5 q6
  have hkd := rkinds_any W H C cap f w.heap.size w1 (by have := HR.out.below L1.out; rw [← HNN.out] at this; exact this) L1.out.size hW hH
  rw [HNN.out] at hkd
  refine hkd.mono ?_
  rintro e w2 ⟨B1, d1, B2, d2, rfl, hk1, hk2, hb⟩
  rw [HKE.out] at hk2 ⊢
  have hw1s : w.heap.size + 2 ≤ w1.heap.size := by have := Z1.out.lt; omega
  have HK1 := Lib.hid hk1
  have HK2 := Lib.hid hk2
  clear hk1 hk2 hkd
  have X2 := Lib.hid (X1.out.below hb X1.out.lt)
  have Z2 := Lib.hid (Z1.out.next hb)
  have Lb := Lib.hid (L1.out.trans (hb.mono L1.out.size))
  clear X1 Z1 L1 hb
  obtain ⟨q0, q1, q2, q3, q4, q5, q6⟩ := X2.out.all
  have e1 : decide (64 < (n : Int)) = false := by simp; omega
  have e2 : decide (40 < (W : Int)) = false := by simp; omega
  have e3 : decide (40 < (K : Int)) = false := by simp; omega
  go_wp2_with fail
  clear q0 q1 q2 q3 q4 q5 q6
  have hh := within_any A n c th W w.heap.size w2 (by omega) (HT.out.below Lb.out)
  rw [HWI.out] at hh
  refine hh.mono ?_
  rintro e w2' ⟨rfl, rfl⟩
  have tt := Z2.out.all
  have zf := Z2.out.frees
  simp only [Dr.zero] at tt
  obtain ⟨t0, t1, t2, t3, t4, t5, t6, t7⟩ := tt
  obtain ⟨g0, g1, g2, g3, g4, g5, g6⟩ := zf
  have HB := Lib.hid Lb.out
  go_wp2
  refine bodyPost_ret (v := .tuple #[.agg #[.int .i64 0, .int .i64 0, .slice none 0 0, .slice none 0 0, .int .i64 0, .int .i64 0, .slice none 0 0], .int .i64 8]) (by simp [results, Try.results35, go_sem, t0, t1, t2, t3, t4, t5, t6]) rfl ?_
  exact dfin_err (by omega) HB.out
end Go.Proofs.Ytbafhdinalapoaa
