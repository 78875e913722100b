/- ColourImages: the walk. -/
import Derived.Test.YtppepcijpdamhaaCtt
import Derived.Test.YtppepcijpdamhaaShw
import Derived.Test.YtppepcijpdamhaaRbk
import Derived.BigQuiet
namespace Go.Proofs.Ytppepcijpdamhaa
open Go.RowKit
set_option maxRecDepth 100000
set_option linter.unusedVariables false
set_option linter.unusedSimpArgs false

section
variable {W H : Int} {A : Option Addr} {n c : Nat} {f : Nat → Int} {w : World}
theorem counts_pair (hf : L2.Holds w w.heap.size A n f) : ∃ (N : Nat) (F : Nat → Int) (z : Int), N ≤ 5000 ∧
    (∀ u A1 c1, Below w.heap.size w u → L2.Holds u u.heap.size A1 n f → Calls Try.prog 23 #[.agg #[.int .i64 W, .int .i64 H, .slice A1 n c1]] u (RL u N F z)) ∧ ∀ u, Below w.heap.size w u → Calls Try.prog 24 #[.agg #[.int .i64 W, .int .i64 H, .slice A n c]] u (RL u N F z) := by
  by_cases hz : ick W H n f = 0
  · obtain ⟨P, Q, rfl, rfl, rfl, p0, p1, q0, q1, hx⟩ := ick_nat hz
    exact ⟨16, cntF f (P * Q), 0, by decide, fun u A1 c1 hu h1 => counts_ok P Q A1 c1 f u h1 p0 p1 q0 q1 hx, fun u hu => rcounts_ok P Q A c f u ((hf.below hu).more hu.size) p0 p1 q0 q1 hx⟩
  · exact ⟨0, (fun _ => 0), ick W H n f, Nat.zero_le _, fun u A1 c1 hu h1 => counts_err W H A1 n c1 f _ u h1 hz, fun u hu => rcounts_err W H A n c f _ u ((hf.below hu).more hu.size) hz⟩
theorem turn_pair (hf : L2.Holds w w.heap.size A n f) : ∃ (P Q : Int) (N : Nat) (F : Nat → Int) (z : Int), N ≤ 5000 ∧
    (∀ u A1 c1, Below w.heap.size w u → L2.Holds u u.heap.size A1 n f → Calls Try.prog 25 #[.agg #[.int .i64 W, .int .i64 H, .slice A1 n c1]] u (RI u P Q N F z)) ∧ ∀ u, Below w.heap.size w u → Calls Try.prog 26 #[.agg #[.int .i64 W, .int .i64 H, .slice A n c]] u (RI u P Q N F z) := by
  by_cases hz : ick W H n f = 0
  · obtain ⟨P, Q, rfl, rfl, rfl, p0, p1, q0, q1, hx⟩ := ick_nat hz
    have := Nat.mul_le_mul q1 p1
    exact ⟨_, _, _, (fun i => f (i % Q * P + i / Q)), 0, by omega, fun u A1 c1 hu h1 => iturn_ok P Q A1 c1 f u h1 p0 p1 q0 q1 hx, fun u hu => rturn_ok P Q A c f u ((hf.below hu).more hu.size) p0 p1 q0 q1 hx⟩
  · exact ⟨0, 0, 0, (fun _ => 0), ick W H n f, Nat.zero_le _, fun u A1 c1 hu h1 => iturn_err W H A1 n c1 f _ u h1 hz, fun u hu => rturn_err W H A n c f _ u ((hf.below hu).more hu.size) hz⟩
theorem text_pair (hf : L2.Holds w w.heap.size A n f) : ∃ (s : ByteArray) (z : Int),
    (∀ u A1 c1, Below w.heap.size w u → L2.Holds u u.heap.size A1 n f → Calls Try.prog 27 #[.agg #[.int .i64 W, .int .i64 H, .slice A1 n c1]] u (RS u s z)) ∧ ∀ u, Below w.heap.size w u → Calls Try.prog 28 #[.agg #[.int .i64 W, .int .i64 H, .slice A n c]] u (RS u s z) := by
  by_cases hz : ick W H n f = 0
  · obtain ⟨P, Q, rfl, rfl, rfl, p0, p1, q0, q1, hx⟩ := ick_nat hz
    exact ⟨_, 0, fun u A1 c1 hu h1 => ptext_ok P Q A1 c1 f u h1 p0 p1 q0 q1 hx, fun u hu => rtext_ok P Q A c f u ((hf.below hu).more hu.size) p0 p1 q0 q1 hx⟩
  · exact ⟨⟨#[]⟩, ick W H n f, fun u A1 c1 hu h1 => ptext_err W H A1 n c1 f u h1 hz, fun u hu => rtext_err W H A n c f u ((hf.below hu).more hu.size) hz⟩
end
theorem images_g0 (W H U V : Int) (A D : Option Addr) (n c k e : Nat) (w : World) (h0 : 4200 < n) : Calls Try.prog 4 #[.agg #[.int .i64 W, .int .i64 H, .slice A n c], .agg #[.int .i64 U, .int .i64 V, .slice D k e]] w fun e w' => e = .returned (.bool true) ∧ Below w.heap.size w w' := by
  have HG0 := Lib.hid (fun u => igreat_any W H A n c u)
  have HG1 := Lib.hid (fun u => igreat_any U V D k e u)
  rw [decide_eq_true h0] at HG0
  clear h0 HG1
  have LB0 := Lib.hid (Below.refl w.heap.size w)
  have X1 := IBox.new w W H (.slice A n c)
  have X1 := Lib.hid X1
  have LB0 := Lib.hid (LB0.out.alloc LB0.out.size (.cells #[.int .i64 W, .int .i64 H, .slice A n c] 29))
  have X1 := Lib.hid (X1.out.alloc (.cells #[.int .i64 U, .int .i64 V, .slice D k e] 29))
  have X2 := IBox.new (w.alloc (.cells #[.int .i64 W, .int .i64 H, .slice A n c] 29)) U V (.slice D k e)
  rw [show ((w.alloc (.cells #[.int .i64 W, .int .i64 H, .slice A n c] 29))).heap.size = w.heap.size + 1 by simp] at X2
  have X2 := Lib.hid X2
  have LB0 := Lib.hid (LB0.out.alloc LB0.out.size (.cells #[.int .i64 U, .int .i64 V, .slice D k e] 29))
  go_enter Try.func4, Try.ntmps4
  go_upto_region 1 with (fail)
  generalize (w.alloc (.cells #[.int .i64 W, .int .i64 H, .slice A n c] 29)).alloc (.cells #[.int .i64 U, .int .i64 V, .slice D k e] 29) = w0 at *
  obtain ⟨q0, q1, q2, q3, q4, q5, q6⟩ := X1.out.all
  obtain ⟨q7, q8, q9, q10, q11, q12, q13⟩ := X2.out.all
  go_wp2_with fail
  clear q0 q1 q2 q3 q4 q5 q6 q7 q8 q9 q10 q11 q12 q13
  with_reducible refine Calls.mono (HG0.out _) ?_
  rintro e w1 ⟨rfl, hb⟩
  have LB1 := Lib.hid (LB0.out.trans (hb.mono LB0.out.size))
  have X1 := Lib.hid (X1.out.below hb X1.out.lt)
  have X2 := Lib.hid (X2.out.below hb X2.out.lt)
  clear hb LB0 
  go_wp2
  go_ret
  exact ⟨rfl, LB1.out⟩
theorem images_g1 (W H U V : Int) (A D : Option Addr) (n c k e : Nat) (w : World) (h0 : ¬ 4200 < n) (h1 : 4200 < k) : Calls Try.prog 4 #[.agg #[.int .i64 W, .int .i64 H, .slice A n c], .agg #[.int .i64 U, .int .i64 V, .slice D k e]] w fun e w' => e = .returned (.bool true) ∧ Below w.heap.size w w' := by
  have HG0 := Lib.hid (fun u => igreat_any W H A n c u)
  have HG1 := Lib.hid (fun u => igreat_any U V D k e u)
  rw [decide_eq_false h0] at HG0
  rw [decide_eq_true h1] at HG1
  clear h0 h1
  have LB0 := Lib.hid (Below.refl w.heap.size w)
  have X1 := IBox.new w W H (.slice A n c)
  have X1 := Lib.hid X1
  have LB0 := Lib.hid (LB0.out.alloc LB0.out.size (.cells #[.int .i64 W, .int .i64 H, .slice A n c] 29))
  have X1 := Lib.hid (X1.out.alloc (.cells #[.int .i64 U, .int .i64 V, .slice D k e] 29))
  have X2 := IBox.new (w.alloc (.cells #[.int .i64 W, .int .i64 H, .slice A n c] 29)) U V (.slice D k e)
  rw [show ((w.alloc (.cells #[.int .i64 W, .int .i64 H, .slice A n c] 29))).heap.size = w.heap.size + 1 by simp] at X2
  have X2 := Lib.hid X2
  have LB0 := Lib.hid (LB0.out.alloc LB0.out.size (.cells #[.int .i64 U, .int .i64 V, .slice D k e] 29))
  go_enter Try.func4, Try.ntmps4
  go_upto_region 1 with (fail)
  generalize (w.alloc (.cells #[.int .i64 W, .int .i64 H, .slice A n c] 29)).alloc (.cells #[.int .i64 U, .int .i64 V, .slice D k e] 29) = w0 at *
  obtain ⟨q0, q1, q2, q3, q4, q5, q6⟩ := X1.out.all
  obtain ⟨q7, q8, q9, q10, q11, q12, q13⟩ := X2.out.all
  go_wp2_with fail
  clear q0 q1 q2 q3 q4 q5 q6 q7 q8 q9 q10 q11 q12 q13
  with_reducible refine Calls.mono (HG0.out _) ?_
  rintro e w1 ⟨rfl, hb⟩
  have LB1 := Lib.hid (LB0.out.trans (hb.mono LB0.out.size))
  have X1 := Lib.hid (X1.out.below hb X1.out.lt)
  have X2 := Lib.hid (X2.out.below hb X2.out.lt)
  clear hb LB0 
  obtain ⟨q0, q1, q2, q3, q4, q5, q6⟩ := X1.out.all
  obtain ⟨q7, q8, q9, q10, q11, q12, q13⟩ := X2.out.all
  go_wp2_with fail
  clear q0 q1 q2 q3 q4 q5 q6 q7 q8 q9 q10 q11 q12 q13
  with_reducible refine Calls.mono (HG1.out _) ?_
  rintro e w2 ⟨rfl, hb⟩
  have LB2 := Lib.hid (LB1.out.trans (hb.mono LB1.out.size))
  have X1 := Lib.hid (X1.out.below hb X1.out.lt)
  have X2 := Lib.hid (X2.out.below hb X2.out.lt)
  clear hb LB1 
  go_wp2
  go_ret
  exact ⟨rfl, LB2.out⟩
set_option maxHeartbeats 6400000 in
theorem images_core (W H U V : Int) (A D : Option Addr) (n c k e : Nat) (f g : Nat → Int) (w : World) (hf : L2.Holds w w.heap.size A n f) (hg : L2.Holds w w.heap.size D k g) (hn : ¬ 4200 < n) (hk : ¬ 4200 < k) (z0 z1 z2 z3 : Int) (N1 : Nat) (F1 : Nat → Int) (P2 Q2 : Int) (N2 : Nat) (F2 : Nat → Int) (s3 : ByteArray) (l1 : N1 ≤ 5000) (l2 : N2 ≤ 5000) (sb : Bool) (hsb : sameB W H U V n k f g = sb) (hz0 : ick W H n f = z0)
    (p1 : ∀ u A1 c1, Below w.heap.size w u → L2.Holds u u.heap.size A1 n f → Calls Try.prog 23 #[.agg #[.int .i64 W, .int .i64 H, .slice A1 n c1]] u (RL u N1 F1 z1)) (p2 : ∀ u, Below w.heap.size w u → Calls Try.prog 24 #[.agg #[.int .i64 W, .int .i64 H, .slice A n c]] u (RL u N1 F1 z1))
    (p3 : ∀ u A1 c1, Below w.heap.size w u → L2.Holds u u.heap.size A1 n f → Calls Try.prog 25 #[.agg #[.int .i64 W, .int .i64 H, .slice A1 n c1]] u (RI u P2 Q2 N2 F2 z2)) (p4 : ∀ u, Below w.heap.size w u → Calls Try.prog 26 #[.agg #[.int .i64 W, .int .i64 H, .slice A n c]] u (RI u P2 Q2 N2 F2 z2))
    (p5 : ∀ u A1 c1, Below w.heap.size w u → L2.Holds u u.heap.size A1 n f → Calls Try.prog 27 #[.agg #[.int .i64 W, .int .i64 H, .slice A1 n c1]] u (RS u s3 z3)) (p6 : ∀ u, Below w.heap.size w u → Calls Try.prog 28 #[.agg #[.int .i64 W, .int .i64 H, .slice A n c]] u (RS u s3 z3)) :
    Calls Try.prog 4 #[.agg #[.int .i64 W, .int .i64 H, .slice A n c], .agg #[.int .i64 U, .int .i64 V, .slice D k e]] w fun e w' => e = .returned (.bool true) ∧ Below w.heap.size w w' := by
  have HG0 := Lib.hid (fun u => igreat_any W H A n c u)
  have HG1 := Lib.hid (fun u => igreat_any U V D k e u)
  rw [decide_eq_false hn] at HG0
  rw [decide_eq_false hk] at HG1
  have HT := Lib.hid (fun u (hb : Below w.heap.size w u) => itwin_all (W := W) (H := H) (c := c) u (show n ≤ 4200 by omega) ((hf.below hb).more hb.size))
  have HS := Lib.hid (fun u A' c' (hb : Below w.heap.size w u) (h2 : L2.Holds u u.heap.size A' n f) => risame_b (W := W) (H := H) (c := c') (d := c) (show n ≤ 5000 by omega) (fun _ _ => rfl) u h2 ((hf.below hb).more hb.size))
  have HS2 := Lib.hid (fun u A' c' (hb : Below w.heap.size w u) (h2 : L2.Holds u u.heap.size A' n f) => isame_any W H U V A' D n k c' e f g u (show n ≤ 5000 by omega) h2 ((hg.below hb).more hb.size))
  have HS3 := Lib.hid (fun u (hb : Below w.heap.size w u) => risame_any W H U V A D n k c e f g u (show n ≤ 5000 by omega) ((hf.below hb).more hb.size) ((hg.below hb).more hb.size))
  rw [hsb] at HS2 HS3
  have HE1 := Lib.hid (fun u A1 A2 c1 c2 (h1 : L2.Holds u u.heap.size A1 N1 F1) (h2 : L2.Holds u u.heap.size A2 N1 F1) => lv_same (v := u) l1 ⟨h1⟩ ⟨h2⟩ c1 c2 (fun _ _ => rfl))
  have HE2 := Lib.hid (fun u A1 A2 c1 c2 (h1 : L2.Holds u u.heap.size A1 N2 F2) (h2 : L2.Holds u u.heap.size A2 N2 F2) => risame_b (W := P2) (H := Q2) (c := c1) (d := c2) l2 (fun _ _ => rfl) u h1 h2)
  have HC1 := Lib.hid (fun u A' c' (h2 : L2.Holds u u.heap.size A' n f) => ick_any W H A' n c' f u h2)
  have HC2 := Lib.hid (fun u (hb : Below w.heap.size w u) => rick_any W H A n c f u ((hf.below hb).more hb.size))
  rw [hz0] at HC1 HC2
  have HP1 := Lib.hid p1
  have HP2 := Lib.hid p2
  have HP3 := Lib.hid p3
  have HP4 := Lib.hid p4
  have HP5 := Lib.hid p5
  have HP6 := Lib.hid p6
  have y0 : (z0 == z0) = true := by simp
  have y1 : (z1 == z1) = true := by simp
  have y2 : (z2 == z2) = true := by simp
  have y3 : (z3 == z3) = true := by simp
  clear hf hg hn hk hsb hz0 p1 p2 p3 p4 p5 p6
  have LB0 := Lib.hid (Below.refl w.heap.size w)
  have X1 := IBox.new w W H (.slice A n c)
  have X1 := Lib.hid X1
  have LB0 := Lib.hid (LB0.out.alloc LB0.out.size (.cells #[.int .i64 W, .int .i64 H, .slice A n c] 29))
  have X1 := Lib.hid (X1.out.alloc (.cells #[.int .i64 U, .int .i64 V, .slice D k e] 29))
  have X2 := IBox.new (w.alloc (.cells #[.int .i64 W, .int .i64 H, .slice A n c] 29)) U V (.slice D k e)
  rw [show ((w.alloc (.cells #[.int .i64 W, .int .i64 H, .slice A n c] 29))).heap.size = w.heap.size + 1 by simp] at X2
  have X2 := Lib.hid X2
  have LB0 := Lib.hid (LB0.out.alloc LB0.out.size (.cells #[.int .i64 U, .int .i64 V, .slice D k e] 29))
  go_enter Try.func4, Try.ntmps4
  go_upto_region 1 with (fail)
  generalize (w.alloc (.cells #[.int .i64 W, .int .i64 H, .slice A n c] 29)).alloc (.cells #[.int .i64 U, .int .i64 V, .slice D k e] 29) = w0 at *
  obtain ⟨q0, q1, q2, q3, q4, q5, q6⟩ := X1.out.all
  obtain ⟨q7, q8, q9, q10, q11, q12, q13⟩ := X2.out.all
  go_wp2_with fail
  clear q0 q1 q2 q3 q4 q5 q6 q7 q8 q9 q10 q11 q12 q13
  with_reducible refine Calls.mono (HG0.out _) ?_
  rintro e w1 ⟨rfl, hb⟩
  have LB1 := Lib.hid (LB0.out.trans (hb.mono LB0.out.size))
  have X1 := Lib.hid (X1.out.below hb X1.out.lt)
  have X2 := Lib.hid (X2.out.below hb X2.out.lt)
  clear hb LB0 
  obtain ⟨q0, q1, q2, q3, q4, q5, q6⟩ := X1.out.all
  obtain ⟨q7, q8, q9, q10, q11, q12, q13⟩ := X2.out.all
  go_wp2_with fail
  clear q0 q1 q2 q3 q4 q5 q6 q7 q8 q9 q10 q11 q12 q13
  with_reducible refine Calls.mono (HG1.out _) ?_
  rintro e w2 ⟨rfl, hb⟩
  have LB2 := Lib.hid (LB1.out.trans (hb.mono LB1.out.size))
  have X1 := Lib.hid (X1.out.below hb X1.out.lt)
  have X2 := Lib.hid (X2.out.below hb X2.out.lt)
  clear hb LB1 
  obtain ⟨q0, q1, q2, q3, q4, q5, q6⟩ := X1.out.all
  go_wp2_with fail
  clear q0 q1 q2 q3 q4 q5 q6
  with_reducible refine Calls.mono (HT.out _ LB2.out) ?_
  rintro e w3 ⟨A1, c1, rfl, hh, hb⟩
  have LB3 := Lib.hid (LB2.out.trans (hb.mono LB2.out.size))
  have X1 := Lib.hid (X1.out.below hb X1.out.lt)
  have X2 := Lib.hid (X2.out.below hb X2.out.lt)
  have H1 := Lib.hid hh
  clear hb LB2 hh
  have hb := ((Below.refl w3.heap.size w3).alloc (by simp; try omega) (.cells #[.int .i64 W, .int .i64 H, .slice A1 n c1] 29))
  have LB4 := Lib.hid (LB3.out.trans (hb.mono LB3.out.size))
  have X1 := Lib.hid (X1.out.below hb X1.out.lt)
  have X2 := Lib.hid (X2.out.below hb X2.out.lt)
  have H1 := Lib.hid ((H1.out.below hb).more hb.size)
  have XT := IBox.new w3 W H (.slice A1 n c1)
  have XT := Lib.hid XT
  clear hb LB3
  go_upto_region 4 with (fail)
  obtain ⟨tb, htb⟩ : ∃ z, w3.heap.size = z := ⟨_, rfl⟩
  rw [htb] at XT
  try rw [htb]
  clear htb
  generalize w3.alloc (.cells #[.int .i64 W, .int .i64 H, .slice A1 n c1] 29) = w4 at *
  obtain ⟨q0, q1, q2, q3, q4, q5, q6⟩ := XT.out.all
  go_wp2_with fail
  clear q0 q1 q2 q3 q4 q5 q6
  with_reducible refine Calls.mono (HP1.out _ _ _ LB4.out H1.out) ?_
  rintro e w5 ⟨A2, c2, rfl, hh, hb⟩
  have LB5 := Lib.hid (LB4.out.trans (hb.mono LB4.out.size))
  have X1 := Lib.hid (X1.out.below hb X1.out.lt)
  have X2 := Lib.hid (X2.out.below hb X2.out.lt)
  have H1 := Lib.hid ((H1.out.below hb).more hb.size)
  have XT := Lib.hid (XT.out.below hb XT.out.lt)
  have H2 := Lib.hid hh
  clear hb LB4 hh
  obtain ⟨q0, q1, q2, q3, q4, q5, q6⟩ := X1.out.all
  go_wp2_with fail
  clear q0 q1 q2 q3 q4 q5 q6
  with_reducible refine Calls.mono (HP2.out _ LB5.out) ?_
  rintro e w6 ⟨A3, c3, rfl, hh, hb⟩
  have LB6 := Lib.hid (LB5.out.trans (hb.mono LB5.out.size))
  have X1 := Lib.hid (X1.out.below hb X1.out.lt)
  have X2 := Lib.hid (X2.out.below hb X2.out.lt)
  have H1 := Lib.hid ((H1.out.below hb).more hb.size)
  have XT := Lib.hid (XT.out.below hb XT.out.lt)
  have H2 := Lib.hid ((H2.out.below hb).more hb.size)
  have H3 := Lib.hid hh
  clear hb LB5 hh
  obtain ⟨q0, q1, q2, q3, q4, q5, q6⟩ := XT.out.all
  go_wp2_with fail
  clear q0 q1 q2 q3 q4 q5 q6
  with_reducible refine Calls.mono (HP3.out _ _ _ LB6.out H1.out) ?_
  rintro e w7 ⟨A4, c4, rfl, hh, hb⟩
  have LB7 := Lib.hid (LB6.out.trans (hb.mono LB6.out.size))
  have X1 := Lib.hid (X1.out.below hb X1.out.lt)
  have X2 := Lib.hid (X2.out.below hb X2.out.lt)
  have H1 := Lib.hid ((H1.out.below hb).more hb.size)
  have XT := Lib.hid (XT.out.below hb XT.out.lt)
  have H2 := Lib.hid ((H2.out.below hb).more hb.size)
  have H3 := Lib.hid ((H3.out.below hb).more hb.size)
  have H4 := Lib.hid hh
  clear hb LB6 hh
  have hb := ((Below.refl w7.heap.size w7).alloc (by simp; try omega) (.cells #[.int .i64 P2, .int .i64 Q2, .slice A4 N2 c4] 29))
  have LB8 := Lib.hid (LB7.out.trans (hb.mono LB7.out.size))
  have X1 := Lib.hid (X1.out.below hb X1.out.lt)
  have X2 := Lib.hid (X2.out.below hb X2.out.lt)
  have H1 := Lib.hid ((H1.out.below hb).more hb.size)
  have XT := Lib.hid (XT.out.below hb XT.out.lt)
  have H2 := Lib.hid ((H2.out.below hb).more hb.size)
  have H3 := Lib.hid ((H3.out.below hb).more hb.size)
  have H4 := Lib.hid ((H4.out.below hb).more hb.size)
  have B4 := IBox.new w7 P2 Q2 (.slice A4 N2 c4)
  have B4 := Lib.hid B4
  clear hb LB7
  go_upto_region 7 with (fail)
  obtain ⟨b4, hb4⟩ : ∃ z, w7.heap.size = z := ⟨_, rfl⟩
  rw [hb4] at B4
  try rw [hb4]
  clear hb4
  generalize w7.alloc (.cells #[.int .i64 P2, .int .i64 Q2, .slice A4 N2 c4] 29) = w8 at *
  obtain ⟨q0, q1, q2, q3, q4, q5, q6⟩ := X1.out.all
  go_wp2_with fail
  clear q0 q1 q2 q3 q4 q5 q6
  with_reducible refine Calls.mono (HP4.out _ LB8.out) ?_
  rintro e w9 ⟨A5, c5, rfl, hh, hb⟩
  have LB9 := Lib.hid (LB8.out.trans (hb.mono LB8.out.size))
  have X1 := Lib.hid (X1.out.below hb X1.out.lt)
  have X2 := Lib.hid (X2.out.below hb X2.out.lt)
  have H1 := Lib.hid ((H1.out.below hb).more hb.size)
  have XT := Lib.hid (XT.out.below hb XT.out.lt)
  have H2 := Lib.hid ((H2.out.below hb).more hb.size)
  have H3 := Lib.hid ((H3.out.below hb).more hb.size)
  have H4 := Lib.hid ((H4.out.below hb).more hb.size)
  have B4 := Lib.hid (B4.out.below hb B4.out.lt)
  have H5 := Lib.hid hh
  clear hb LB8 hh
  have hb := ((Below.refl w9.heap.size w9).alloc (by simp; try omega) (.cells #[.int .i64 P2, .int .i64 Q2, .slice A5 N2 c5] 29))
  have LB10 := Lib.hid (LB9.out.trans (hb.mono LB9.out.size))
  have X1 := Lib.hid (X1.out.below hb X1.out.lt)
  have X2 := Lib.hid (X2.out.below hb X2.out.lt)
  have H1 := Lib.hid ((H1.out.below hb).more hb.size)
  have XT := Lib.hid (XT.out.below hb XT.out.lt)
  have H2 := Lib.hid ((H2.out.below hb).more hb.size)
  have H3 := Lib.hid ((H3.out.below hb).more hb.size)
  have H4 := Lib.hid ((H4.out.below hb).more hb.size)
  have B4 := Lib.hid (B4.out.below hb B4.out.lt)
  have H5 := Lib.hid ((H5.out.below hb).more hb.size)
  have B5 := IBox.new w9 P2 Q2 (.slice A5 N2 c5)
  have B5 := Lib.hid B5
  clear hb LB9
  go_upto_region 8 with (fail)
  obtain ⟨b5, hb5⟩ : ∃ z, w9.heap.size = z := ⟨_, rfl⟩
  rw [hb5] at B5
  try rw [hb5]
  clear hb5
  generalize w9.alloc (.cells #[.int .i64 P2, .int .i64 Q2, .slice A5 N2 c5] 29) = w10 at *
  obtain ⟨q0, q1, q2, q3, q4, q5, q6⟩ := XT.out.all
  go_wp2_with fail
  clear q0 q1 q2 q3 q4 q5 q6
  with_reducible refine Calls.mono (HP5.out _ _ _ LB10.out H1.out) ?_
  rintro e w11 ⟨rfl, hb⟩
  have LB11 := Lib.hid (LB10.out.trans (hb.mono LB10.out.size))
  have X1 := Lib.hid (X1.out.below hb X1.out.lt)
  have X2 := Lib.hid (X2.out.below hb X2.out.lt)
  have H1 := Lib.hid ((H1.out.below hb).more hb.size)
  have XT := Lib.hid (XT.out.below hb XT.out.lt)
  have H2 := Lib.hid ((H2.out.below hb).more hb.size)
  have H3 := Lib.hid ((H3.out.below hb).more hb.size)
  have H4 := Lib.hid ((H4.out.below hb).more hb.size)
  have B4 := Lib.hid (B4.out.below hb B4.out.lt)
  have H5 := Lib.hid ((H5.out.below hb).more hb.size)
  have B5 := Lib.hid (B5.out.below hb B5.out.lt)
  clear hb LB10 
  obtain ⟨q0, q1, q2, q3, q4, q5, q6⟩ := X1.out.all
  go_wp2_with fail
  clear q0 q1 q2 q3 q4 q5 q6
  with_reducible refine Calls.mono (HP6.out _ LB11.out) ?_
  rintro e w12 ⟨rfl, hb⟩
  have LB12 := Lib.hid (LB11.out.trans (hb.mono LB11.out.size))
  have X1 := Lib.hid (X1.out.below hb X1.out.lt)
  have X2 := Lib.hid (X2.out.below hb X2.out.lt)
  have H1 := Lib.hid ((H1.out.below hb).more hb.size)
  have XT := Lib.hid (XT.out.below hb XT.out.lt)
  have H2 := Lib.hid ((H2.out.below hb).more hb.size)
  have H3 := Lib.hid ((H3.out.below hb).more hb.size)
  have H4 := Lib.hid ((H4.out.below hb).more hb.size)
  have B4 := Lib.hid (B4.out.below hb B4.out.lt)
  have H5 := Lib.hid ((H5.out.below hb).more hb.size)
  have B5 := Lib.hid (B5.out.below hb B5.out.lt)
  clear hb LB11 
  go_upto_region 10 with (fail)
  obtain ⟨I, Wf, i0, h0, hbf, hcf⟩ := family w12
  have hne : Nonempty I := ⟨i0⟩
  have HW := Lib.hid (fun n' => LB12.out.trans ((hbf n').mono LB12.out.size))
  have H1f := Lib.hid (fun n' => (H1.out.below (hbf n')).more (hbf n').size)
  have H2f := Lib.hid (fun n' => (H2.out.below (hbf n')).more (hbf n').size)
  have H3f := Lib.hid (fun n' => (H3.out.below (hbf n')).more (hbf n').size)
  have H4f := Lib.hid (fun n' => (H4.out.below (hbf n')).more (hbf n').size)
  have H5f := Lib.hid (fun n' => (H5.out.below (hbf n')).more (hbf n').size)
  have C1 := Lib.hid (fun n' => (HC1.out (Wf n') A1 c1 (H1f.out n')).mono fun e w2 h => (⟨h.1, hcf n' _ h.2⟩ : _ ∧ ∃ m, w2 = Wf m))
  have C2 := Lib.hid (fun n' => (HC2.out (Wf n') (HW.out n')).mono fun e w2 h => (⟨h.1, hcf n' _ h.2⟩ : _ ∧ ∃ m, w2 = Wf m))
  have C3 := Lib.hid (fun n' => (HE1.out (Wf n') A2 A3 c2 c3 (H2f.out n') (H3f.out n')).mono fun e w2 h => (⟨h.1, hcf n' _ h.2⟩ : _ ∧ ∃ m, w2 = Wf m))
  have C4 := Lib.hid (fun n' => (HE2.out (Wf n') A4 A5 c4 c5 (H4f.out n') (H5f.out n')).mono fun e w2 h => (⟨h.1, hcf n' _ h.2⟩ : _ ∧ ∃ m, w2 = Wf m))
  have C5 := Lib.hid (fun n' => (HS2.out (Wf n') A1 c1 (HW.out n') (H1f.out n')).mono fun e w2 h => (⟨h.1, hcf n' _ h.2⟩ : _ ∧ ∃ m, w2 = Wf m))
  have C6 := Lib.hid (fun n' => (HS3.out (Wf n') (HW.out n')).mono fun e w2 h => (⟨h.1, hcf n' _ h.2⟩ : _ ∧ ∃ m, w2 = Wf m))
  have C7 := Lib.hid (fun n' => (HS.out (Wf n') A1 c1 (HW.out n') (H1f.out n')).mono fun e w2 h => (⟨h.1, hcf n' _ h.2⟩ : _ ∧ ∃ m, w2 = Wf m))
  have x1 := fun n' => (X1.out.below (hbf n') X1.out.lt).c0
  have x2 := fun n' => (X1.out.below (hbf n') X1.out.lt).c1
  have x3 := fun n' => (X1.out.below (hbf n') X1.out.lt).c2
  have x4 := fun n' => (X2.out.below (hbf n') X2.out.lt).c0
  have x5 := fun n' => (X2.out.below (hbf n') X2.out.lt).c1
  have x6 := fun n' => (X2.out.below (hbf n') X2.out.lt).c2
  have x7 := fun n' => (XT.out.below (hbf n') XT.out.lt).c0
  have x8 := fun n' => (XT.out.below (hbf n') XT.out.lt).c1
  have x9 := fun n' => (XT.out.below (hbf n') XT.out.lt).c2
  have xa := fun n' => (B4.out.below (hbf n') B4.out.lt).c0
  have xb := fun n' => (B4.out.below (hbf n') B4.out.lt).c1
  have xc := fun n' => (B4.out.below (hbf n') B4.out.lt).c2
  have xd := fun n' => (B5.out.below (hbf n') B5.out.lt).c0
  have xe := fun n' => (B5.out.below (hbf n') B5.out.lt).c1
  have xf := fun n' => (B5.out.below (hbf n') B5.out.lt).c2
  have BF := Lib.hid hbf
  clear hbf hcf H1 H2 H3 H4 H5 H1f H2f H3f H4f H5f X1 X2 XT B4 B5 HS HS2 HS3 HE1 HE2 HC1 HC2 HG0 HG1 HT HP1 HP2 HP3 HP4 HP5 HP6
  have ys : (sb == sb) = true := by cases sb <;> rfl
  refine wp_region_fam Wf i0 h0 (by kernel_rfl) (by kernel_rfl) ?_
  clear h0
  try dsimp only [List.append]
  repeat (go_big_quiet_step (first | exact rfl | (go_at_call 29; with_reducible exact C1.out _) | (go_at_call 30; with_reducible exact C2.out _) | (go_at_call 31; with_reducible exact C3.out _) | (go_at_call 19; first | (with_reducible exact C4.out _) | (with_reducible exact C6.out _) | (with_reducible exact C7.out _)) | (go_at_call 32; with_reducible exact C5.out _)))
  refine wpQuiet_nil ?_
  rintro _ ⟨nq, rfl⟩
  have LBz := Lib.hid (HW.out nq)
  go_wp2
  go_ret
  exact ⟨rfl, LBz.out⟩
theorem images14_any (W H U V : Int) (A D : Option Addr) (n c k e : Nat) (f g : Nat → Int) (w : World) (hf : L2.Holds w w.heap.size A n f) (hg : L2.Holds w w.heap.size D k g) : Calls Try.prog 4 #[.agg #[.int .i64 W, .int .i64 H, .slice A n c], .agg #[.int .i64 U, .int .i64 V, .slice D k e]] w fun e w' => e = .returned (.bool true) ∧ Below w.heap.size w w' := by
  by_cases h0 : 4200 < n
  · exact images_g0 W H U V A D n c k e w h0
  by_cases h1 : 4200 < k
  · exact images_g1 W H U V A D n c k e w h0 h1
  obtain ⟨N1, F1, z1, l1, p1, p2⟩ := counts_pair (W := W) (H := H) (c := c) hf
  obtain ⟨P2, Q2, N2, F2, z2, l2, p3, p4⟩ := turn_pair (W := W) (H := H) (c := c) hf
  obtain ⟨s3, z3, p5, p6⟩ := text_pair (W := W) (H := H) (c := c) hf
  exact images_core W H U V A D n c k e f g w hf hg h0 h1 _ z1 z2 z3 N1 F1 P2 Q2 N2 F2 s3 l1 l2 _ rfl rfl p1 p2 p3 p4 p5 p6
end Go.Proofs.Ytppepcijpdamhaa
