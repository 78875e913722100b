/- ColourTurns: the walk. -/
import Derived.Test.YtppepcijpdamhaaCal
namespace Go.Proofs.Ytppepcijpdamhaa
open Go.RowKit
set_option maxRecDepth 100000
set_option linter.unusedVariables false
set_option linter.unusedSimpArgs false

theorem turns_nf (W H : Int) (A B C : Option Addr) (n c m d k e : Nat) (f : Nat → Bool) (a b : Nat → Int) (w : World) (hf : Holds w w.heap.size A n f) (ha : L2.Holds w w.heap.size B m a) (hb1 : L2.Holds w w.heap.size C k b) (hz : ¬ (n ≤ 4200 ∧ thE W H n m k a b = 0)) : Calls Try.prog 8 #[.agg #[.int .i64 W, .int .i64 H, .slice A n c], .slice B m d, .slice C k e] w fun e w' => e = .returned (.bool true) ∧ Below w.heap.size w w' := by
  have HF := Lib.hid (fun u (hb : Below w.heap.size w u) => fit_any W H A B C n c m d k e a b u ((ha.below hb).more hb.size) ((hb1.below hb).more hb.size))
  rw [decide_eq_false hz] at HF
  clear hz hf ha hb1
  have LB0 := Lib.hid (Below.refl w.heap.size w)
  have X1 := Box.new w W H (.slice A n c)
  have X1 := Lib.hid X1
  have LB0 := Lib.hid (LB0.out.alloc LB0.out.size (.cells #[.int .i64 W, .int .i64 H, .slice A n c] 24))
  go_enter Try.func8, Try.ntmps8
  go_upto_region 1 with (fail)
  generalize w.alloc (.cells #[.int .i64 W, .int .i64 H, .slice A n c] 24) = w0 at *
  go_wp2_with fail
  with_reducible refine Calls.mono (alive14_any _) ?_
  rintro e w1 ⟨rfl, hb⟩
  have LB1 := Lib.hid (LB0.out.trans (hb.mono LB0.out.size))
  have X1 := Lib.hid (X1.out.below hb X1.out.lt)
  clear hb LB0 
  obtain ⟨q0, q1, q2, q3, q4, q5, q6⟩ := X1.out.all
  go_wp2_with fail
  clear q0 q1 q2 q3 q4 q5 q6
  with_reducible refine Calls.mono (HF.out _ LB1.out) ?_
  rintro e w2 ⟨rfl, hb⟩
  have LB2 := Lib.hid (LB1.out.trans (hb.mono LB1.out.size))
  have X1 := Lib.hid (X1.out.below hb X1.out.lt)
  clear hb LB1 
  go_wp2
  go_ret
  exact ⟨rfl, LB2.out⟩
theorem turn_front {W H : Nat} (W0 : 1 ≤ W) (H0 : 1 ≤ H) (f : Nat → Bool) (a b : Nat → Int) : ∀ i, i < H * W → shF H (fun i => !f (i % H * W + i / H)) b a i = shF W f a b (i % H * W + i / H) := fun i hi => by
  have h1 : i / H < W := (Nat.div_lt_iff_lt_mul H0).2 (by rw [Nat.mul_comm]; exact hi)
  obtain ⟨e1, e2⟩ := co (W := W) (x := i / H) (i % H) h1
  unfold shF
  rw [e1, e2]
  show (if (!f (i % H * W + i / H)) = true then b (i % H) else a (i / H)) = _
  cases f (i % H * W + i / H) <;> rfl
set_option maxHeartbeats 3200000 in
theorem turns_ok (W H : Nat) (A B C : Option Addr) (c d e : Nat) (f : Nat → Bool) (a b : Nat → Int) (w : World) (hf : Holds w w.heap.size A (W * H) f) (ha : L2.Holds w w.heap.size B W a) (hb1 : L2.Holds w w.heap.size C H b) (W0 : 1 ≤ W) (W1 : W ≤ 64) (H0 : 1 ≤ H) (H1 : H ≤ 64) (hx : fine W a = true) (hy : fine H b = true) : Calls Try.prog 8 #[.agg #[.int .i64 (W : Nat), .int .i64 (H : Nat), .slice A (W * H) c], .slice B W d, .slice C H e] w fun e w' => e = .returned (.bool true) ∧ Below w.heap.size w w' := by
  have hN : W * H ≤ 4096 := Nat.mul_le_mul W1 H1
  have HF := Lib.hid (fun u (hb : Below w.heap.size w u) => fit_any (W : Nat) (H : Nat) A B C (W * H) c W d H e a b u ((ha.below hb).more hb.size) ((hb1.below hb).more hb.size))
  rw [decide_eq_true ⟨by omega, thE_ok (chk_zero W0 W1 H0 H1) ⟨rfl, rfl⟩ ⟨hx, hy⟩⟩] at HF
  have hM : H * W ≤ 4096 := Nat.mul_le_mul H1 W1
  have HT := Lib.hid (fun u (hb : Below w.heap.size w u) => turn_ok W H A c f u ((hf.below hb).more hb.size) W0 W1 H0 H1)
  have HN := Lib.hid (fun u k1 (hr : Row u k1 (H * W) (fun i => f (i % H * W + i / H))) => not_ok H W (some ⟨k1, 0, none⟩) (H * W) _ u (hr.holds hr.lt) H0 H1 W0 W1)
  have HA := Lib.hid (fun u k1 (hb : Below w.heap.size w u) (hr : Row u k1 (H * W) (fun i => !f (i % H * W + i / H))) => front_ok H W (some ⟨k1, 0, none⟩) C B (H * W) e d _ b a u (hr.holds hr.lt) ((hb1.below hb).more hb.size) ((ha.below hb).more hb.size) H0 H1 W0 W1 hy hx)
  have HB := Lib.hid (fun u (hb : Below w.heap.size w u) => front_ok W H A B C c d e f a b u ((hf.below hb).more hb.size) ((ha.below hb).more hb.size) ((hb1.below hb).more hb.size) W0 W1 H0 H1 hx hy)
  have hfi : fine (W * H) (shF W f a b) = true := fine_yes fun i hi => by
    unfold shF
    cases f i
    · exact fine_of hy _ ((Nat.div_lt_iff_lt_mul W0).2 (by rw [Nat.mul_comm]; exact hi))
    · exact fine_of hx _ (Nat.mod_lt _ W0)
  have HC := Lib.hid (fun u D q (hr : L2.Holds u u.heap.size D (W * H) (shF W f a b)) => iturn_ok W H D q _ u hr W0 W1 H0 H1 hfi)
  have HS := Lib.hid (fun u D E q r (h1 : L2.Holds u u.heap.size D (H * W) (shF H (fun i => !f (i % H * W + i / H)) b a)) (h2 : L2.Holds u u.heap.size E (H * W) (fun i => shF W f a b (i % H * W + i / H))) => risame_b (W := (H : Nat)) (H := (W : Nat)) (c := q) (d := r) (show H * W ≤ 5000 by omega) (turn_front W0 H0 f a b) u h1 h2)
  clear hf ha hb1 hx hy hfi
  have LB0 := Lib.hid (Below.refl w.heap.size w)
  have X1 := Box.new w (W : Nat) (H : Nat) (.slice A (W * H) c)
  have X1 := Lib.hid X1
  have LB0 := Lib.hid (LB0.out.alloc LB0.out.size (.cells #[.int .i64 (W : Nat), .int .i64 (H : Nat), .slice A (W * H) c] 24))
  go_enter Try.func8, Try.ntmps8
  go_upto_region 1 with (fail)
  generalize w.alloc (.cells #[.int .i64 (W : Nat), .int .i64 (H : Nat), .slice A (W * H) c] 24) = w0 at *
  go_wp2_with fail
  with_reducible refine Calls.mono (alive14_any _) ?_
  rintro e w1 ⟨rfl, hb⟩
  have LB1 := Lib.hid (LB0.out.trans (hb.mono LB0.out.size))
  have X1 := Lib.hid (X1.out.below hb X1.out.lt)
  clear hb LB0 
  obtain ⟨q0, q1, q2, q3, q4, q5, q6⟩ := X1.out.all
  go_wp2_with fail
  clear q0 q1 q2 q3 q4 q5 q6
  with_reducible refine Calls.mono (HF.out _ LB1.out) ?_
  rintro e w2 ⟨rfl, hb⟩
  have LB2 := Lib.hid (LB1.out.trans (hb.mono LB1.out.size))
  have X1 := Lib.hid (X1.out.below hb X1.out.lt)
  clear hb LB1 
  obtain ⟨q0, q1, q2, q3, q4, q5, q6⟩ := X1.out.all
  go_wp2_with fail
  clear q0 q1 q2 q3 q4 q5 q6
  with_reducible refine Calls.mono (HT.out _ LB2.out) ?_
  rintro e w3 ⟨k1, rfl, _, hrow, hb⟩
  have LB3 := Lib.hid (LB2.out.trans (hb.mono LB2.out.size))
  have X1 := Lib.hid (X1.out.below hb X1.out.lt)
  have R1 := Lib.hid hrow
  clear hb LB2 hrow
  have hb := ((Below.refl w3.heap.size w3).alloc (by simp; try omega) (.cells #[.int .i64 (H : Nat), .int .i64 (W : Nat), .slice (some ⟨k1, 0, none⟩) (H * W) (H * W)] 24))
  have LB4 := Lib.hid (LB3.out.trans (hb.mono LB3.out.size))
  have X1 := Lib.hid (X1.out.below hb X1.out.lt)
  have R1 := Lib.hid (R1.out.below hb R1.out.lt)
  have B1 := Box.new w3 (H : Nat) (W : Nat) (.slice (some ⟨k1, 0, none⟩) (H * W) (H * W))
  have B1 := Lib.hid B1
  clear hb LB3
  go_upto_region 5 with (fail)
  obtain ⟨b1, hb1⟩ : ∃ z, w3.heap.size = z := ⟨_, rfl⟩
  rw [hb1] at B1
  try rw [hb1]
  clear hb1
  generalize w3.alloc (.cells #[.int .i64 (H : Nat), .int .i64 (W : Nat), .slice (some ⟨k1, 0, none⟩) (H * W) (H * W)] 24) = w4 at *
  obtain ⟨q0, q1, q2, q3, q4, q5, q6⟩ := B1.out.all
  go_wp2_with fail
  clear q0 q1 q2 q3 q4 q5 q6
  with_reducible refine Calls.mono (HN.out _ _ R1.out) ?_
  rintro e w5 ⟨k2, rfl, _, hrow, hb⟩
  have LB5 := Lib.hid (LB4.out.trans (hb.mono LB4.out.size))
  have X1 := Lib.hid (X1.out.below hb X1.out.lt)
  have R1 := Lib.hid (R1.out.below hb R1.out.lt)
  have B1 := Lib.hid (B1.out.below hb B1.out.lt)
  have R2 := Lib.hid hrow
  clear hb LB4 hrow
  clear R1 B1
  have hb := ((Below.refl w5.heap.size w5).alloc (by simp; try omega) (.cells #[.int .i64 (H : Nat), .int .i64 (W : Nat), .slice (some ⟨k2, 0, none⟩) (H * W) (H * W)] 24))
  have LB6 := Lib.hid (LB5.out.trans (hb.mono LB5.out.size))
  have X1 := Lib.hid (X1.out.below hb X1.out.lt)
  have R2 := Lib.hid (R2.out.below hb R2.out.lt)
  have B2 := Box.new w5 (H : Nat) (W : Nat) (.slice (some ⟨k2, 0, none⟩) (H * W) (H * W))
  have B2 := Lib.hid B2
  clear hb LB5
  go_upto_region 6 with (fail)
  obtain ⟨b2, hb2⟩ : ∃ z, w5.heap.size = z := ⟨_, rfl⟩
  rw [hb2] at B2
  try rw [hb2]
  clear hb2
  generalize w5.alloc (.cells #[.int .i64 (H : Nat), .int .i64 (W : Nat), .slice (some ⟨k2, 0, none⟩) (H * W) (H * W)] 24) = w6 at *
  obtain ⟨q0, q1, q2, q3, q4, q5, q6⟩ := B2.out.all
  go_wp2_with fail
  clear q0 q1 q2 q3 q4 q5 q6
  with_reducible refine Calls.mono (HA.out _ _ LB6.out R2.out) ?_
  rintro e w7 ⟨A3, c3, rfl, hh, hb⟩
  have LB7 := Lib.hid (LB6.out.trans (hb.mono LB6.out.size))
  have X1 := Lib.hid (X1.out.below hb X1.out.lt)
  have R2 := Lib.hid (R2.out.below hb R2.out.lt)
  have B2 := Lib.hid (B2.out.below hb B2.out.lt)
  have H3 := Lib.hid hh
  clear hb LB6 hh
  clear R2 B2
  have hb := ((Below.refl w7.heap.size w7).alloc (by simp; try omega) (.cells #[.int .i64 (H : Nat), .int .i64 (W : Nat), .slice A3 (H * W) c3] 29))
  have LB8 := Lib.hid (LB7.out.trans (hb.mono LB7.out.size))
  have X1 := Lib.hid (X1.out.below hb X1.out.lt)
  have H3 := Lib.hid ((H3.out.below hb).more hb.size)
  have B3 := IBox.new w7 (H : Nat) (W : Nat) (.slice A3 (H * W) c3)
  have B3 := Lib.hid B3
  clear hb LB7
  go_upto_region 7 with (fail)
  obtain ⟨b3, hb3⟩ : ∃ z, w7.heap.size = z := ⟨_, rfl⟩
  rw [hb3] at B3
  try rw [hb3]
  clear hb3
  generalize w7.alloc (.cells #[.int .i64 (H : Nat), .int .i64 (W : Nat), .slice A3 (H * W) c3] 29) = w8 at *
  obtain ⟨q0, q1, q2, q3, q4, q5, q6⟩ := X1.out.all
  go_wp2_with fail
  clear q0 q1 q2 q3 q4 q5 q6
  with_reducible refine Calls.mono (HB.out _ LB8.out) ?_
  rintro e w9 ⟨A4, c4, rfl, hh, hb⟩
  have LB9 := Lib.hid (LB8.out.trans (hb.mono LB8.out.size))
  have X1 := Lib.hid (X1.out.below hb X1.out.lt)
  have H3 := Lib.hid ((H3.out.below hb).more hb.size)
  have B3 := Lib.hid (B3.out.below hb B3.out.lt)
  have H4 := Lib.hid hh
  clear hb LB8 hh
  have hb := ((Below.refl w9.heap.size w9).alloc (by simp; try omega) (.cells #[.int .i64 (W : Nat), .int .i64 (H : Nat), .slice A4 (W * H) c4] 29))
  have LB10 := Lib.hid (LB9.out.trans (hb.mono LB9.out.size))
  have X1 := Lib.hid (X1.out.below hb X1.out.lt)
  have H3 := Lib.hid ((H3.out.below hb).more hb.size)
  have B3 := Lib.hid (B3.out.below hb B3.out.lt)
  have H4 := Lib.hid ((H4.out.below hb).more hb.size)
  have B4 := IBox.new w9 (W : Nat) (H : Nat) (.slice A4 (W * H) c4)
  have B4 := Lib.hid B4
  clear hb LB9
  go_upto_region 8 with (fail)
  obtain ⟨b4, hb4⟩ : ∃ z, w9.heap.size = z := ⟨_, rfl⟩
  rw [hb4] at B4
  try rw [hb4]
  clear hb4
  generalize w9.alloc (.cells #[.int .i64 (W : Nat), .int .i64 (H : Nat), .slice A4 (W * H) c4] 29) = w10 at *
  obtain ⟨q0, q1, q2, q3, q4, q5, q6⟩ := B4.out.all
  go_wp2_with fail
  clear q0 q1 q2 q3 q4 q5 q6
  with_reducible refine Calls.mono (HC.out _ _ _ H4.out) ?_
  rintro e w11 ⟨A5, c5, rfl, hh, hb⟩
  have LB11 := Lib.hid (LB10.out.trans (hb.mono LB10.out.size))
  have X1 := Lib.hid (X1.out.below hb X1.out.lt)
  have H3 := Lib.hid ((H3.out.below hb).more hb.size)
  have B3 := Lib.hid (B3.out.below hb B3.out.lt)
  have H4 := Lib.hid ((H4.out.below hb).more hb.size)
  have B4 := Lib.hid (B4.out.below hb B4.out.lt)
  have H5 := Lib.hid hh
  clear hb LB10 hh
  clear H4 B4
  have hb := ((Below.refl w11.heap.size w11).alloc (by simp; try omega) (.cells #[.int .i64 (H : Nat), .int .i64 (W : Nat), .slice A5 (H * W) c5] 29))
  have LB12 := Lib.hid (LB11.out.trans (hb.mono LB11.out.size))
  have X1 := Lib.hid (X1.out.below hb X1.out.lt)
  have H3 := Lib.hid ((H3.out.below hb).more hb.size)
  have B3 := Lib.hid (B3.out.below hb B3.out.lt)
  have H5 := Lib.hid ((H5.out.below hb).more hb.size)
  have B5 := IBox.new w11 (H : Nat) (W : Nat) (.slice A5 (H * W) c5)
  have B5 := Lib.hid B5
  clear hb LB11
  go_upto_region 9 with (fail)
  obtain ⟨b5, hb5⟩ : ∃ z, w11.heap.size = z := ⟨_, rfl⟩
  rw [hb5] at B5
  try rw [hb5]
  clear hb5
  generalize w11.alloc (.cells #[.int .i64 (H : Nat), .int .i64 (W : Nat), .slice A5 (H * W) c5] 29) = w12 at *
  obtain ⟨q0, q1, q2, q3, q4, q5, q6⟩ := B3.out.all
  obtain ⟨q7, q8, q9, q10, q11, q12, q13⟩ := B5.out.all
  go_wp2_with fail
  clear q0 q1 q2 q3 q4 q5 q6 q7 q8 q9 q10 q11 q12 q13
  with_reducible refine Calls.mono (HS.out _ _ _ _ _ H3.out H5.out) ?_
  rintro e w13 ⟨rfl, hb⟩
  have LB13 := Lib.hid (LB12.out.trans (hb.mono LB12.out.size))
  have X1 := Lib.hid (X1.out.below hb X1.out.lt)
  have H3 := Lib.hid ((H3.out.below hb).more hb.size)
  have B3 := Lib.hid (B3.out.below hb B3.out.lt)
  have H5 := Lib.hid ((H5.out.below hb).more hb.size)
  have B5 := Lib.hid (B5.out.below hb B5.out.lt)
  clear hb LB12 
  go_wp2
  go_ret
  exact ⟨rfl, LB13.out⟩
theorem turns14_any (W H : Int) (A B C : Option Addr) (n c m d k e : Nat) (f : Nat → Bool) (a b : Nat → Int) (w : World) (hf : Holds w w.heap.size A n f) (ha : L2.Holds w w.heap.size B m a) (hb1 : L2.Holds w w.heap.size C k b) : Calls Try.prog 8 #[.agg #[.int .i64 W, .int .i64 H, .slice A n c], .slice B m d, .slice C k e] w fun e w' => e = .returned (.bool true) ∧ Below w.heap.size w w' := by
  by_cases hz : n ≤ 4200 ∧ thE W H n m k a b = 0
  · obtain ⟨P, Q, rfl, rfl, rfl, rfl, rfl, p0, p1, q0, q1, hx, hy⟩ := thE_zero hz.2
    exact turns_ok m k A B C c d e f a b w hf ha hb1 p0 p1 q0 q1 hx hy
  · exact turns_nf W H A B C n c m d k e f a b w hf ha hb1 hz
end Go.Proofs.Ytppepcijpdamhaa
