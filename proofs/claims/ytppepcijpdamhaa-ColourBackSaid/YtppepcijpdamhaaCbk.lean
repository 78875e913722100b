/- Layer 14 of the program: Back. -/
import Derived.Test.YtppepcijpdamhaaCfr
namespace Go.Proofs.Ytppepcijpdamhaa
open Go.RowKit
set_option maxRecDepth 100000
set_option linter.unusedVariables false
set_option linter.unusedSimpArgs false

set_option maxHeartbeats 800000 in
theorem back_chk (W H : Int) (A B C : Option Addr) (n c m d k e : Nat) (a b : Nat → Int) (w : World) (F : Nat → Int) {z : Int} (hn : n ≤ 4200) (hz : chk W H n = z) (hne : z ≠ 0) : Calls Try.prog 15 #[.agg #[.int .i64 W, .int .i64 H, .slice A n c], .slice B m d, .slice C k e] w (RI w 0 0 0 F z) := by
  have y1 : (z != 0) = true := by rw [bne_iff_ne]; exact hne
  have HN := Lib.hid (fun u => not_err W H A n c u z hn hz y1)
  clear hz hne
  have LB0 := Lib.hid (Below.refl w.heap.size w)
  have X1 := Box.new w W H (.slice A n c)
  have X1 := Lib.hid X1
  have LB0 := Lib.hid (LB0.out.alloc LB0.out.size (.cells #[.int .i64 W, .int .i64 H, .slice A n c] 24))
  have X1 := Lib.hid (X1.out.alloc (.cells #[.int .i64 0, .int .i64 0, .slice none 0 0] 29))
  have R0 := IBox.new (w.alloc (.cells #[.int .i64 W, .int .i64 H, .slice A n c] 24)) 0 0 (.slice none 0 0)
  rw [show ((w.alloc (.cells #[.int .i64 W, .int .i64 H, .slice A n c] 24))).heap.size = w.heap.size + 1 by simp] at R0
  have R0 := Lib.hid R0
  have LB0 := Lib.hid (LB0.out.alloc LB0.out.size (.cells #[.int .i64 0, .int .i64 0, .slice none 0 0] 29))
  go_enter Try.func15, Try.ntmps15
  go_upto_region 1 with (fail)
  generalize (w.alloc (.cells #[.int .i64 W, .int .i64 H, .slice A n c] 24)).alloc (.cells #[.int .i64 0, .int .i64 0, .slice none 0 0] 29) = w0 at *
  obtain ⟨q0, q1, q2, q3, q4, q5, q6⟩ := X1.out.all
  go_wp2_with fail
  clear q0 q1 q2 q3 q4 q5 q6
  with_reducible refine Calls.mono (HN.out _) ?_
  rintro e w1 ⟨rfl, hb⟩
  have LB1 := Lib.hid (LB0.out.trans (hb.mono LB0.out.size))
  have X1 := Lib.hid (X1.out.below hb X1.out.lt)
  have R0 := Lib.hid (R0.out.below hb R0.out.lt)
  clear hb LB0 
  obtain ⟨rb, hrb⟩ : ∃ z, w.heap.size + 1 = z := ⟨_, rfl⟩
  have hrw : w.heap.size ≤ rb := by omega
  rw [hrb] at R0 ⊢
  clear hrb
  have hb := ((Below.refl w1.heap.size w1).alloc (by simp; try omega) (.cells #[.int .i64 0, .int .i64 0, .slice none 0 0] 24))
  have LB2 := Lib.hid (LB1.out.trans (hb.mono LB1.out.size))
  have X1 := Lib.hid (X1.out.below hb X1.out.lt)
  have R0 := Lib.hid (R0.out.below hb R0.out.lt)
  clear hb LB1
  go_upto_region 2 with (fail)
  generalize w1.alloc (.cells #[.int .i64 0, .int .i64 0, .slice none 0 0] 24) = w2 at *
  obtain ⟨s0, s1, s2, s3, s4, s5, s6⟩ := R0.out.all
  go_wp2
  refine bodyPost_ret (v := .tuple #[.agg #[.int .i64 0, .int .i64 0, .slice none 0 0], .int .i64 z]) (by simp [results, Try.results15, go_sem, s0, s1, s2, s3, s4, s5]) rfl ?_
  exact fin_ie _ hrw LB2.out
set_option maxHeartbeats 800000 in
theorem back_fr (W H : Nat) (A B C : Option Addr) (c m d k e : Nat) (f : Nat → Bool) (w : World) (F : Nat → Int) (hf : Holds w w.heap.size A (W * H) f) (W0 : 1 ≤ W) (W1 : W ≤ 64) (H0 : 1 ≤ H) (H1 : H ≤ 64) (z : Int) (hne : z ≠ 0)
    (hF : ∀ u D q, Below w.heap.size w u → Calls Try.prog 13 #[.agg #[.int .i64 (W : Nat), .int .i64 (H : Nat), .slice D (W * H) q], .slice B m d, .slice C k e] u (RI u 0 0 0 F z)) :
    Calls Try.prog 15 #[.agg #[.int .i64 (W : Nat), .int .i64 (H : Nat), .slice A (W * H) c], .slice B m d, .slice C k e] w (RI w 0 0 0 F z) := by
  have y1 : (z != 0) = true := by rw [bne_iff_ne]; exact hne
  have y2 : ((0 : Int) != 0) = false := rfl
  have HN := Lib.hid (fun u (hb : Below w.heap.size w u) => not_ok W H A c f u ((hf.below hb).more hb.size) W0 W1 H0 H1)
  have HF := Lib.hid hF
  clear hf hne hF
  have LB0 := Lib.hid (Below.refl w.heap.size w)
  have X1 := Box.new w (W : Nat) (H : Nat) (.slice A (W * H) c)
  have X1 := Lib.hid X1
  have LB0 := Lib.hid (LB0.out.alloc LB0.out.size (.cells #[.int .i64 (W : Nat), .int .i64 (H : Nat), .slice A (W * H) c] 24))
  have X1 := Lib.hid (X1.out.alloc (.cells #[.int .i64 0, .int .i64 0, .slice none 0 0] 29))
  have R0 := IBox.new (w.alloc (.cells #[.int .i64 (W : Nat), .int .i64 (H : Nat), .slice A (W * H) c] 24)) 0 0 (.slice none 0 0)
  rw [show ((w.alloc (.cells #[.int .i64 (W : Nat), .int .i64 (H : Nat), .slice A (W * H) c] 24))).heap.size = w.heap.size + 1 by simp] at R0
  have R0 := Lib.hid R0
  have LB0 := Lib.hid (LB0.out.alloc LB0.out.size (.cells #[.int .i64 0, .int .i64 0, .slice none 0 0] 29))
  go_enter Try.func15, Try.ntmps15
  go_upto_region 1 with (fail)
  generalize (w.alloc (.cells #[.int .i64 (W : Nat), .int .i64 (H : Nat), .slice A (W * H) c] 24)).alloc (.cells #[.int .i64 0, .int .i64 0, .slice none 0 0] 29) = w0 at *
  obtain ⟨q0, q1, q2, q3, q4, q5, q6⟩ := X1.out.all
  go_wp2_with fail
  clear q0 q1 q2 q3 q4 q5 q6
  with_reducible refine Calls.mono (HN.out _ LB0.out) ?_
  rintro e w1 ⟨k2, rfl, hk2, hrow, hb⟩
  have LB1 := Lib.hid (LB0.out.trans (hb.mono LB0.out.size))
  have X1 := Lib.hid (X1.out.below hb X1.out.lt)
  have R0 := Lib.hid (R0.out.below hb R0.out.lt)
  clear hb LB0 
  clear hrow
  obtain ⟨rb, hrb⟩ : ∃ z, w.heap.size + 1 = z := ⟨_, rfl⟩
  have hrw : w.heap.size ≤ rb := by omega
  rw [hrb] at R0 ⊢
  clear hrb
  have hb := ((Below.refl w1.heap.size w1).alloc (by simp; try omega) (.cells #[.int .i64 (W : Nat), .int .i64 (H : Nat), .slice (some ⟨k2, 0, none⟩) (W * H) (W * H)] 24))
  have LB2 := Lib.hid (LB1.out.trans (hb.mono LB1.out.size))
  have X1 := Lib.hid (X1.out.below hb X1.out.lt)
  have R0 := Lib.hid (R0.out.below hb R0.out.lt)
  have XN := Box.new w1 (W : Nat) (H : Nat) (.slice (some ⟨k2, 0, none⟩) (W * H) (W * H))
  have XN := Lib.hid XN
  clear hb LB1
  go_upto_region 2 with (fail)
  obtain ⟨nb, hnb⟩ : ∃ z, w1.heap.size = z := ⟨_, rfl⟩
  rw [hnb] at XN
  try rw [hnb]
  clear hnb
  generalize w1.alloc (.cells #[.int .i64 (W : Nat), .int .i64 (H : Nat), .slice (some ⟨k2, 0, none⟩) (W * H) (W * H)] 24) = w2 at *
  obtain ⟨q0, q1, q2, q3, q4, q5, q6⟩ := XN.out.all
  obtain ⟨q7, q8, q9, q10, q11, q12, q13⟩ := X1.out.all
  go_wp2_with fail
  clear q0 q1 q2 q3 q4 q5 q6 q7 q8 q9 q10 q11 q12 q13
  with_reducible refine Calls.mono (HF.out _ _ _ LB2.out) ?_
  rintro e w3 ⟨A1, c1, rfl, hh, hb⟩
  have LB3 := Lib.hid (LB2.out.trans (hb.mono LB2.out.size))
  have X1 := Lib.hid (X1.out.below hb X1.out.lt)
  have R0 := Lib.hid (R0.out.below hb R0.out.lt)
  have XN := Lib.hid (XN.out.below hb XN.out.lt)
  clear hb LB2 
  clear hh
  have hb := ((Below.refl w3.heap.size w3).alloc (by simp; try omega) (.cells #[.int .i64 0, .int .i64 0, .slice A1 0 c1] 29))
  have LB4 := Lib.hid (LB3.out.trans (hb.mono LB3.out.size))
  have X1 := Lib.hid (X1.out.below hb X1.out.lt)
  have R0 := Lib.hid (R0.out.below hb R0.out.lt)
  have XN := Lib.hid (XN.out.below hb XN.out.lt)
  clear hb LB3
  go_upto_region 5 with (fail)
  generalize w3.alloc (.cells #[.int .i64 0, .int .i64 0, .slice A1 0 c1] 29) = w4 at *
  obtain ⟨s0, s1, s2, s3, s4, s5, s6⟩ := R0.out.all
  go_wp2
  refine bodyPost_ret (v := .tuple #[.agg #[.int .i64 0, .int .i64 0, .slice none 0 0], .int .i64 z]) (by simp [results, Try.results15, go_sem, s0, s1, s2, s3, s4, s5]) rfl ?_
  exact fin_ie _ hrw LB4.out
theorem chk_nat {W H : Int} {n : Nat} (h : chk W H n = 0) : ∃ P Q : Nat, W = P ∧ H = Q ∧ n = P * Q ∧ 1 ≤ P ∧ P ≤ 64 ∧ 1 ≤ Q ∧ Q ≤ 64 := by
  obtain ⟨a1, a2, a3, a4, a5⟩ := chk_ok h
  obtain ⟨P, rfl⟩ := Int.eq_ofNat_of_zero_le (show 0 ≤ W by omega)
  obtain ⟨Q, rfl⟩ := Int.eq_ofNat_of_zero_le (show 0 ≤ H by omega)
  exact ⟨P, Q, rfl, rfl, by exact_mod_cast a5, by omega, by omega, by omega, by omega⟩
theorem back_err (W H : Int) (A B C : Option Addr) (n c m d k e : Nat) (a b : Nat → Int) (w : World) (f : Nat → Bool) (F : Nat → Int) (hn : n ≤ 4200) (hm1 : m ≤ 5000) (hk1 : k ≤ 5000) (hf : Holds w w.heap.size A n f) (ha : L2.Holds w w.heap.size B m a) (hb1 : L2.Holds w w.heap.size C k b) {z : Int} (hz : thE W H n m k a b = z) (hne : z ≠ 0) :
    Calls Try.prog 15 #[.agg #[.int .i64 W, .int .i64 H, .slice A n c], .slice B m d, .slice C k e] w (RI w 0 0 0 F z) := by
  by_cases h1 : chk W H n = 0
  · obtain ⟨P, Q, rfl, rfl, rfl, p0, p1, q0, q1⟩ := chk_nat h1
    exact back_fr P Q A B C c m d k e f w F hf p0 p1 q0 q1 z hne fun u D q hu => front_err P Q D B C (P * Q) q m d k e a b u F hn hm1 hk1 ((ha.below hu).more hu.size) ((hb1.below hu).more hu.size) hz hne
  · rw [thE_chk rfl h1] at hz
    exact back_chk W H A B C n c m d k e a b w F hn hz hne
set_option maxHeartbeats 1600000 in
theorem back_ok (W H : Nat) (A B C : Option Addr) (c d e : Nat) (f : Nat → Bool) (a b : Nat → Int) (w : World) (hf : Holds w w.heap.size A (W * H) f) (ha : L2.Holds w w.heap.size B W a) (hb1 : L2.Holds w w.heap.size C H b) (W0 : 1 ≤ W) (W1 : W ≤ 64) (H0 : 1 ≤ H) (H1 : H ≤ 64) (hx : fine W a = true) (hy : fine H b = true) :
    Calls Try.prog 15 #[.agg #[.int .i64 (W : Nat), .int .i64 (H : Nat), .slice A (W * H) c], .slice B W d, .slice C H e] w (RI w (W : Nat) (H : Nat) (W * H) (bkF W f a b) 0) := by
  have hmf := mk_fn
  have HN := Lib.hid (fun u (hb : Below w.heap.size w u) => not_ok W H A c f u ((hf.below hb).more hb.size) W0 W1 H0 H1)
  have HF := Lib.hid (fun u k q (hb : Below w.heap.size w u) (hr : Row u k (W * H) (fun i => !f i)) => front_ok W H (some ⟨k, 0, none⟩) B C q d e (fun i => !f i) a b u (hr.holds hr.lt) ((ha.below hb).more hb.size) ((hb1.below hb).more hb.size) W0 W1 H0 H1 hx hy)
  have HT := Lib.hid (fun u g1 g2 D q (hb : Below w.heap.size w u) (x1 : IBox u g1 (W : Nat) (H : Nat) (.slice D (W * H) q)) (hh : L2.Holds u u.heap.size D (W * H) (shF W (fun i => !f i) a b)) (x2 : Box u g2 (W : Nat) (H : Nat) (.slice A (W * H) c)) =>
    vimg_any W H W0 W1 H0 H1 51 _ _ u (back_clo ⟨x1, hh⟩ x2 W1 H1) (Go.Proofs.enters_of Try.func51 (by kernel_rfl) rfl))
  have y1 : ((0 : Int) != 0) = false := rfl
  clear hf ha hb1 hx hy
  have LB0 := Lib.hid (Below.refl w.heap.size w)
  have X1 := Box.new w (W : Nat) (H : Nat) (.slice A (W * H) c)
  have X1 := Lib.hid X1
  have LB0 := Lib.hid (LB0.out.alloc LB0.out.size (.cells #[.int .i64 (W : Nat), .int .i64 (H : Nat), .slice A (W * H) c] 24))
  have X1 := Lib.hid (X1.out.alloc (.cells #[.int .i64 0, .int .i64 0, .slice none 0 0] 29))
  have R0 := IBox.new (w.alloc (.cells #[.int .i64 (W : Nat), .int .i64 (H : Nat), .slice A (W * H) c] 24)) 0 0 (.slice none 0 0)
  rw [show ((w.alloc (.cells #[.int .i64 (W : Nat), .int .i64 (H : Nat), .slice A (W * H) c] 24))).heap.size = w.heap.size + 1 by simp] at R0
  have R0 := Lib.hid R0
  have LB0 := Lib.hid (LB0.out.alloc LB0.out.size (.cells #[.int .i64 0, .int .i64 0, .slice none 0 0] 29))
  go_enter Try.func15, Try.ntmps15
  go_upto_region 1 with (fail)
  generalize (w.alloc (.cells #[.int .i64 (W : Nat), .int .i64 (H : Nat), .slice A (W * H) c] 24)).alloc (.cells #[.int .i64 0, .int .i64 0, .slice none 0 0] 29) = w0 at *
  obtain ⟨q0, q1, q2, q3, q4, q5, q6⟩ := X1.out.all
  go_wp2_with fail
  clear q0 q1 q2 q3 q4 q5 q6
  with_reducible refine Calls.mono (HN.out _ LB0.out) ?_
  rintro e w1 ⟨k2, rfl, hk2, hrow, hb⟩
  have LB1 := Lib.hid (LB0.out.trans (hb.mono LB0.out.size))
  have X1 := Lib.hid (X1.out.below hb X1.out.lt)
  have R0 := Lib.hid (R0.out.below hb R0.out.lt)
  have RW := Lib.hid hrow
  clear hb LB0 hrow
  obtain ⟨rb, hrb⟩ : ∃ z, w.heap.size + 1 = z := ⟨_, rfl⟩
  have hrw : w.heap.size ≤ rb := by omega
  rw [hrb] at R0 ⊢
  clear hrb
  have hb := ((Below.refl w1.heap.size w1).alloc (by simp; try omega) (.cells #[.int .i64 (W : Nat), .int .i64 (H : Nat), .slice (some ⟨k2, 0, none⟩) (W * H) (W * H)] 24))
  have LB2 := Lib.hid (LB1.out.trans (hb.mono LB1.out.size))
  have X1 := Lib.hid (X1.out.below hb X1.out.lt)
  have R0 := Lib.hid (R0.out.below hb R0.out.lt)
  have RW := Lib.hid (RW.out.below hb RW.out.lt)
  have XN := Box.new w1 (W : Nat) (H : Nat) (.slice (some ⟨k2, 0, none⟩) (W * H) (W * H))
  have XN := Lib.hid XN
  clear hb LB1
  go_upto_region 2 with (fail)
  obtain ⟨nb, hnb⟩ : ∃ z, w1.heap.size = z := ⟨_, rfl⟩
  rw [hnb] at XN
  try rw [hnb]
  clear hnb
  generalize w1.alloc (.cells #[.int .i64 (W : Nat), .int .i64 (H : Nat), .slice (some ⟨k2, 0, none⟩) (W * H) (W * H)] 24) = w2 at *
  obtain ⟨q0, q1, q2, q3, q4, q5, q6⟩ := XN.out.all
  obtain ⟨q7, q8, q9, q10, q11, q12, q13⟩ := X1.out.all
  go_wp2_with fail
  clear q0 q1 q2 q3 q4 q5 q6 q7 q8 q9 q10 q11 q12 q13
  with_reducible refine Calls.mono (HF.out _ _ _ LB2.out RW.out) ?_
  rintro e w3 ⟨A1, c1, rfl, hh, hb⟩
  have LB3 := Lib.hid (LB2.out.trans (hb.mono LB2.out.size))
  have X1 := Lib.hid (X1.out.below hb X1.out.lt)
  have R0 := Lib.hid (R0.out.below hb R0.out.lt)
  have RW := Lib.hid (RW.out.below hb RW.out.lt)
  have XN := Lib.hid (XN.out.below hb XN.out.lt)
  have HH := Lib.hid hh
  clear hb LB2 hh
  clear RW XN
  have hb := ((Below.refl w3.heap.size w3).alloc (by simp; try omega) (.cells #[.int .i64 (W : Nat), .int .i64 (H : Nat), .slice A1 (W * H) c1] 29))
  have LB4 := Lib.hid (LB3.out.trans (hb.mono LB3.out.size))
  have X1 := Lib.hid (X1.out.below hb X1.out.lt)
  have R0 := Lib.hid (R0.out.below hb R0.out.lt)
  have HH := Lib.hid ((HH.out.below hb).more hb.size)
  have XI := IBox.new w3 (W : Nat) (H : Nat) (.slice A1 (W * H) c1)
  have XI := Lib.hid XI
  clear hb LB3
  go_upto_region 5 with (fail)
  obtain ⟨ib, hib⟩ : ∃ z, w3.heap.size = z := ⟨_, rfl⟩
  rw [hib] at XI
  try rw [hib]
  clear hib
  generalize w3.alloc (.cells #[.int .i64 (W : Nat), .int .i64 (H : Nat), .slice A1 (W * H) c1] 29) = w4 at *
  have HR := Lib.hid (HT.out _ _ _ _ _ LB4.out XI.out HH.out X1.out)
  have hrs := R0.out.lt
  obtain ⟨q0, q1, q2, q3, q4, q5, q6⟩ := X1.out.all
  obtain ⟨q7, q8, q9, q10, q11, q12, q13⟩ := XI.out.all
  go_wp2_with fail
  clear q0 q1 q2 q3 q4 q5 q6 q7 q8 q9 q10 q11 q12 q13
  with_reducible refine Calls.mono HR.out ?_
  rintro e w5 ⟨k3, c3, rfl, hk, hrow, hb⟩
  have LB5 := Lib.hid (LB4.out.trans (hb.mono LB4.out.size))
  have X1 := Lib.hid (X1.out.below hb X1.out.lt)
  have R0 := Lib.hid (R0.out.below hb R0.out.lt)
  have HH := Lib.hid ((HH.out.below hb).more hb.size)
  have XI := Lib.hid (XI.out.below hb XI.out.lt)
  have HRW := Lib.hid hrow
  have hk3 : rb < k3 := by omega
  clear hb hrow hk
  obtain ⟨q0, q1, q2, q3, q4, q5, q6⟩ := R0.out.all
  go_wp2
  refine bodyPost_ret (v := .tuple #[.agg #[.int .i64 (W : Nat), .int .i64 (H : Nat), .slice (some ⟨k3, 0, none⟩) (W * H) c3], .int .i64 0]) (by simp [results, Try.results15, go_sem, q0, q1, q2, q3, q4, q5]) rfl ?_
  exact fin_im hrw hk3 HRW.out LB5.out
end Go.Proofs.Ytppepcijpdamhaa
