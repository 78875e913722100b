/- ColourTop: the walk. -/
import Derived.Test.YtppepcijpdamhaaCal
import Derived.BigQuiet
namespace Go.Proofs.Ytppepcijpdamhaa
open Go.RowKit
set_option maxRecDepth 100000
set_option linter.unusedVariables false
set_option linter.unusedSimpArgs false

theorem top_nf (W H : Int) (A B C : Option Addr) (n c m d k e : Nat) (f : Nat → Bool) (a b : Nat → Int) (w : World) (hf : Holds w w.heap.size A n f) (ha : L2.Holds w w.heap.size B m a) (hb1 : L2.Holds w w.heap.size C k b) (hz : ¬ (n ≤ 4200 ∧ thE W H n m k a b = 0)) : Calls Try.prog 7 #[.agg #[.int .i64 W, .int .i64 H, .slice A n c], .slice B m d, .slice C k e] w fun e w' => e = .returned (.bool true) ∧ Below w.heap.size w w' := by
  have HF := Lib.hid (fun u (hb : Below w.heap.size w u) => fit_any W H A B C n c m d k e a b u ((ha.below hb).more hb.size) ((hb1.below hb).more hb.size))
  rw [decide_eq_false hz] at HF
  clear hz hf ha hb1
  have LB0 := Lib.hid (Below.refl w.heap.size w)
  have X1 := Box.new w W H (.slice A n c)
  have X1 := Lib.hid X1
  have LB0 := Lib.hid (LB0.out.alloc LB0.out.size (.cells #[.int .i64 W, .int .i64 H, .slice A n c] 24))
  go_enter Try.func7, Try.ntmps7
  go_upto_region 1 with (fail)
  generalize w.alloc (.cells #[.int .i64 W, .int .i64 H, .slice A n c] 24) = w0 at *
  go_wp2_with fail
  with_reducible refine Calls.mono (alive14_any _) ?_
  rintro e w1 ⟨rfl, hb⟩
  have LB1 := Lib.hid (LB0.out.trans (hb.mono LB0.out.size))
  have X1 := Lib.hid (X1.out.below hb X1.out.lt)
  clear hb LB0 
  obtain ⟨q0, q1, q2, q3, q4, q5, q6⟩ := X1.out.all
  go_wp2_with fail
  clear q0 q1 q2 q3 q4 q5 q6
  with_reducible refine Calls.mono (HF.out _ LB1.out) ?_
  rintro e w2 ⟨rfl, hb⟩
  have LB2 := Lib.hid (LB1.out.trans (hb.mono LB1.out.size))
  have X1 := Lib.hid (X1.out.below hb X1.out.lt)
  clear hb LB1 
  go_wp2
  go_ret
  exact ⟨rfl, LB2.out⟩
theorem shF_at {W x y : Nat} {f : Nat → Bool} {a b : Nat → Int} (hx : x < W) : shF W f a b (y * W + x) = if f (y * W + x) = true then a x else b y := by
  unfold shF; rw [(co y hx).1, (co y hx).2]
theorem bkF_at {W x y : Nat} {f : Nat → Bool} {a b : Nat → Int} (hx : x < W) : bkF W f a b (y * W + (W - 1 - x)) = if f (y * W + x) = true then b y else a x := by
  have h1 : W - 1 - x < W := by omega
  unfold bkF
  rw [(co y h1).1, (co y h1).2, show W - 1 - (W - 1 - x) = x by omega, shF_at hx]
  show (if (!f (y * W + x)) = true then _ else _) = _
  cases f (y * W + x) <;> rfl
theorem fine_shF {W H : Nat} {f : Nat → Bool} {a b : Nat → Int} (W0 : 1 ≤ W) (hx : fine W a = true) (hy : fine H b = true) : fine (W * H) (shF W f a b) = true := fine_yes fun i hi => by
  unfold shF
  cases f i
  · exact fine_of hy _ ((Nat.div_lt_iff_lt_mul W0).2 (by rw [Nat.mul_comm]; exact hi))
  · exact fine_of hx _ (Nat.mod_lt _ W0)
theorem fine_bkF {W H : Nat} {f : Nat → Bool} {a b : Nat → Int} (W0 : 1 ≤ W) (hx : fine W a = true) (hy : fine H b = true) : fine (W * H) (bkF W f a b) = true := fine_yes fun i hi => by
  have h1 : i / W < H := (Nat.div_lt_iff_lt_mul W0).2 (by rw [Nat.mul_comm]; exact hi)
  exact fine_of (fine_shF W0 hx hy) _ (ix_bd (x := W - 1 - i % W) (by omega) h1)
set_option maxHeartbeats 6400000 in
theorem top_ok (W H : Nat) (A B C : Option Addr) (c d e : Nat) (f : Nat → Bool) (a b : Nat → Int) (w : World) (hf : Holds w w.heap.size A (W * H) f) (ha : L2.Holds w w.heap.size B W a) (hb1 : L2.Holds w w.heap.size C H b) (W0 : 1 ≤ W) (W1 : W ≤ 64) (H0 : 1 ≤ H) (H1 : H ≤ 64) (hx : fine W a = true) (hy : fine H b = true) : Calls Try.prog 7 #[.agg #[.int .i64 (W : Nat), .int .i64 (H : Nat), .slice A (W * H) c], .slice B W d, .slice C H e] w fun e w' => e = .returned (.bool true) ∧ Below w.heap.size w w' := by
  have hN : W * H ≤ 4096 := Nat.mul_le_mul W1 H1
  have HF := Lib.hid (fun u (hb : Below w.heap.size w u) => fit_any (W : Nat) (H : Nat) A B C (W * H) c W d H e a b u ((ha.below hb).more hb.size) ((hb1.below hb).more hb.size))
  rw [decide_eq_true ⟨by omega, thE_ok (chk_zero W0 W1 H0 H1) ⟨rfl, rfl⟩ ⟨hx, hy⟩⟩] at HF
  have HA := Lib.hid (fun u (hb : Below w.heap.size w u) => front_ok W H A B C c d e f a b u ((hf.below hb).more hb.size) ((ha.below hb).more hb.size) ((hb1.below hb).more hb.size) W0 W1 H0 H1 hx hy)
  have HB := Lib.hid (fun u (hb : Below w.heap.size w u) => back_ok W H A B C c d e f a b u ((hf.below hb).more hb.size) ((ha.below hb).more hb.size) ((hb1.below hb).more hb.size) W0 W1 H0 H1 hx hy)
  have HC1 := Lib.hid (fun u D q (h : L2.Holds u u.heap.size D (W * H) (shF W f a b)) => rick_any (W : Nat) (H : Nat) D (W * H) q _ u h)
  rw [ick_zero W0 W1 H0 H1 (fine_shF W0 hx hy)] at HC1
  have HC2 := Lib.hid (fun u D q (h : L2.Holds u u.heap.size D (W * H) (bkF W f a b)) => rick_any (W : Nat) (H : Nat) D (W * H) q _ u h)
  rw [ick_zero W0 W1 H0 H1 (fine_bkF W0 hx hy)] at HC2
  have HAT := Lib.hid (fun z (x y : Nat) (hx : x < W) (hy : y < H) (hb : Below w.heap.size w z) => at_nat W H A c (x : Nat) (y : Nat) f z z.heap.size ((hf.below hb).more hb.size) (Nat.le_refl _) W1 H1 x y rfl rfl hx hy)
  have HR1 := Lib.hid (fun z D q (x y : Nat) (hx : x < W) (hy : y < H) (h : L2.Holds z z.heap.size D (W * H) (shF W f a b)) => rat_nat W H D q (x : Nat) (y : Nat) _ z h W1 H1 x y rfl rfl hx hy)
  have HR2 := Lib.hid (fun z D q (x y : Nat) (xi : Int) (hxi : xi = ((W - 1 - x : Nat) : Int)) (hx : x < W) (hy : y < H) (h : L2.Holds z z.heap.size D (W * H) (bkF W f a b)) => rat_nat W H D q xi (y : Nat) _ z h W1 H1 (W - 1 - x) y hxi rfl (by omega) hy)
  have HS1 := Lib.hid (fun x y (hx : x < W) => shF_at (y := y) (f := f) (a := a) (b := b) hx)
  have HS2 := Lib.hid (fun x y (hx : x < W) => bkF_at (y := y) (f := f) (a := a) (b := b) hx)
  have HWA := Lib.hid (fun u (hb : Below w.heap.size w u) => (ha.below hb).more hb.size)
  have HWB := Lib.hid (fun u (hb : Below w.heap.size w u) => (hb1.below hb).more hb.size)
  have z1 : ((W : Int) != (W : Int)) = false := by simp
  have z2 : ((H : Int) != (H : Int)) = false := by simp
  have z3 : ((0 : Int) != 0) = false := rfl
  clear hf ha hb1 hx hy
  obtain ⟨F1, hF1⟩ : ∃ z, shF W f a b = z := ⟨_, rfl⟩
  obtain ⟨F2, hF2⟩ : ∃ z, bkF W f a b = z := ⟨_, rfl⟩
  simp only [hF1] at HA HC1 HR1 HS1
  simp only [hF2] at HB HC2 HR2 HS2
  clear hF1 hF2
  have LB0 := Lib.hid (Below.refl w.heap.size w)
  have X1 := Box.new w (W : Nat) (H : Nat) (.slice A (W * H) c)
  have X1 := Lib.hid X1
  have LB0 := Lib.hid (LB0.out.alloc LB0.out.size (.cells #[.int .i64 (W : Nat), .int .i64 (H : Nat), .slice A (W * H) c] 24))
  go_enter Try.func7, Try.ntmps7
  go_upto_region 1 with (fail)
  generalize w.alloc (.cells #[.int .i64 (W : Nat), .int .i64 (H : Nat), .slice A (W * H) c] 24) = w0 at *
  go_wp2_with fail
  with_reducible refine Calls.mono (alive14_any _) ?_
  rintro e w1 ⟨rfl, hb⟩
  have LB1 := Lib.hid (LB0.out.trans (hb.mono LB0.out.size))
  have X1 := Lib.hid (X1.out.below hb X1.out.lt)
  clear hb LB0 
  obtain ⟨q0, q1, q2, q3, q4, q5, q6⟩ := X1.out.all
  go_wp2_with fail
  clear q0 q1 q2 q3 q4 q5 q6
  with_reducible refine Calls.mono (HF.out _ LB1.out) ?_
  rintro e w2 ⟨rfl, hb⟩
  have LB2 := Lib.hid (LB1.out.trans (hb.mono LB1.out.size))
  have X1 := Lib.hid (X1.out.below hb X1.out.lt)
  clear hb LB1 
  obtain ⟨q0, q1, q2, q3, q4, q5, q6⟩ := X1.out.all
  go_wp2_with fail
  clear q0 q1 q2 q3 q4 q5 q6
  with_reducible refine Calls.mono (HA.out _ LB2.out) ?_
  rintro e w3 ⟨A3, c3, rfl, hh, hb⟩
  have LB3 := Lib.hid (LB2.out.trans (hb.mono LB2.out.size))
  have X1 := Lib.hid (X1.out.below hb X1.out.lt)
  have H3 := Lib.hid hh
  clear hb LB2 hh
  have hb := ((Below.refl w3.heap.size w3).alloc (by simp; try omega) (.cells #[.int .i64 (W : Nat), .int .i64 (H : Nat), .slice A3 (W * H) c3] 29))
  have LB4 := Lib.hid (LB3.out.trans (hb.mono LB3.out.size))
  have X1 := Lib.hid (X1.out.below hb X1.out.lt)
  have H3 := Lib.hid ((H3.out.below hb).more hb.size)
  have B3 := IBox.new w3 (W : Nat) (H : Nat) (.slice A3 (W * H) c3)
  have B3 := Lib.hid B3
  clear hb LB3
  go_upto_region 5 with (fail)
  obtain ⟨b3, hb3⟩ : ∃ z, w3.heap.size = z := ⟨_, rfl⟩
  rw [hb3] at B3
  try rw [hb3]
  clear hb3
  generalize w3.alloc (.cells #[.int .i64 (W : Nat), .int .i64 (H : Nat), .slice A3 (W * H) c3] 29) = w4 at *
  obtain ⟨q0, q1, q2, q3, q4, q5, q6⟩ := X1.out.all
  go_wp2_with fail
  clear q0 q1 q2 q3 q4 q5 q6
  with_reducible refine Calls.mono (HB.out _ LB4.out) ?_
  rintro e w5 ⟨A4, c4, rfl, hh, hb⟩
  have LB5 := Lib.hid (LB4.out.trans (hb.mono LB4.out.size))
  have X1 := Lib.hid (X1.out.below hb X1.out.lt)
  have H3 := Lib.hid ((H3.out.below hb).more hb.size)
  have B3 := Lib.hid (B3.out.below hb B3.out.lt)
  have H4 := Lib.hid hh
  clear hb LB4 hh
  have hb := ((Below.refl w5.heap.size w5).alloc (by simp; try omega) (.cells #[.int .i64 (W : Nat), .int .i64 (H : Nat), .slice A4 (W * H) c4] 29))
  have LB6 := Lib.hid (LB5.out.trans (hb.mono LB5.out.size))
  have X1 := Lib.hid (X1.out.below hb X1.out.lt)
  have H3 := Lib.hid ((H3.out.below hb).more hb.size)
  have B3 := Lib.hid (B3.out.below hb B3.out.lt)
  have H4 := Lib.hid ((H4.out.below hb).more hb.size)
  have B4 := IBox.new w5 (W : Nat) (H : Nat) (.slice A4 (W * H) c4)
  have B4 := Lib.hid B4
  clear hb LB5
  go_upto_region 6 with (fail)
  obtain ⟨b4, hb4⟩ : ∃ z, w5.heap.size = z := ⟨_, rfl⟩
  rw [hb4] at B4
  try rw [hb4]
  clear hb4
  generalize w5.alloc (.cells #[.int .i64 (W : Nat), .int .i64 (H : Nat), .slice A4 (W * H) c4] 29) = w6 at *
  obtain ⟨q0, q1, q2, q3, q4, q5, q6⟩ := B3.out.all
  obtain ⟨q7, q8, q9, q10, q11, q12, q13⟩ := B4.out.all
  obtain ⟨q14, q15, q16, q17, q18, q19, q20⟩ := X1.out.all
  go_wp2_with fail
  clear q0 q1 q2 q3 q4 q5 q6 q7 q8 q9 q10 q11 q12 q13 q14 q15 q16 q17 q18 q19 q20
  with_reducible refine Calls.mono (HC1.out _ _ _ H3.out) ?_
  rintro e w7 ⟨rfl, hb⟩
  have LB7 := Lib.hid (LB6.out.trans (hb.mono LB6.out.size))
  have X1 := Lib.hid (X1.out.below hb X1.out.lt)
  have H3 := Lib.hid ((H3.out.below hb).more hb.size)
  have B3 := Lib.hid (B3.out.below hb B3.out.lt)
  have H4 := Lib.hid ((H4.out.below hb).more hb.size)
  have B4 := Lib.hid (B4.out.below hb B4.out.lt)
  clear hb LB6 
  obtain ⟨q0, q1, q2, q3, q4, q5, q6⟩ := B3.out.all
  obtain ⟨q7, q8, q9, q10, q11, q12, q13⟩ := B4.out.all
  obtain ⟨q14, q15, q16, q17, q18, q19, q20⟩ := X1.out.all
  go_wp2_with fail
  clear q0 q1 q2 q3 q4 q5 q6 q7 q8 q9 q10 q11 q12 q13 q14 q15 q16 q17 q18 q19 q20
  with_reducible refine Calls.mono (HC2.out _ _ _ H4.out) ?_
  rintro e w8 ⟨rfl, hb⟩
  have LB8 := Lib.hid (LB7.out.trans (hb.mono LB7.out.size))
  have X1 := Lib.hid (X1.out.below hb X1.out.lt)
  have H3 := Lib.hid ((H3.out.below hb).more hb.size)
  have B3 := Lib.hid (B3.out.below hb B3.out.lt)
  have H4 := Lib.hid ((H4.out.below hb).more hb.size)
  have B4 := Lib.hid (B4.out.below hb B4.out.lt)
  clear hb LB7 
  have HK := Lib.hid (fun z (h : Below w8.heap.size w8 z) => (show Box z w.heap.size (W : Nat) (H : Nat) (.slice A (W * H) c) ∧ IBox z b3 (W : Nat) (H : Nat) (.slice A3 (W * H) c3) ∧ IBox z b4 (W : Nat) (H : Nat) (.slice A4 (W * H) c4) from ⟨X1.out.below h X1.out.lt, B3.out.below h B3.out.lt, B4.out.below h B4.out.lt⟩))
  have HL := Lib.hid (fun z (h : Below w8.heap.size w8 z) => (show Below w.heap.size w z from LB8.out.trans (h.mono LB8.out.size)))
  have HG3 := Lib.hid (fun z (h : Below w8.heap.size w8 z) => (H3.out.below h).more h.size)
  have HG4 := Lib.hid (fun z (h : Below w8.heap.size w8 z) => (H4.out.below h).more h.size)
  clear HA HB HC1 HC2 HF
  have e1 : IntKind.i64.wrap ((W : Int) - 1) = (W : Int) - 1 := IntWalk.i64_in _ (by omega)
  obtain ⟨k1, k2, k3⟩ := HK.out _ (Below.refl _ _)
  obtain ⟨s0, s1, s2, s3, s4, s5, s6⟩ := k1.all
  obtain ⟨t0, t1, t2, t3, t4, t5, t6⟩ := k2.all
  obtain ⟨v0, v1, v2, v3, v4, v5, v6⟩ := k3.all
  clear k1 k2 k3
  go_wp2
  clear s0 s1 s2 s3 s4 s5 s6 t0 t1 t2 t3 t4 t5 t6 v0 v1 v2 v3 v4 v5 v6
  go_loopw [12] (fun i wr => ∃ y : Nat, y ≤ H ∧ i = .int .i64 y ∧ Hid (Below w8.heap.size w8 wr)) (fun i _ => H - (intOf i).toNat)
  case atStart => exact ⟨0, Nat.zero_le _, rfl, Lib.hid (Below.refl _ _)⟩
  case round =>
    obtain ⟨y, hy, rfl, HU⟩ := hrel
    obtain ⟨s0, s1, s2, s3, s4, s5, s6⟩ := (HK.out _ HU.out).1.all
    by_cases hly : y < H
    · have y1 : (y : Int) < (H : Int) := by omega
      have y2 : (0 : Int) ≤ (y : Int) := by omega
      go_wp2
      clear s0 s1 s2 s3 s4 s5 s6
      go_loopw [13] (fun i wr => ∃ x : Nat, x ≤ W ∧ i = .int .i64 x ∧ Hid (Below w8.heap.size w8 wr)) (fun i _ => W - (intOf i).toNat)
      case atStart => exact ⟨0, Nat.zero_le _, rfl, HU⟩
      case round =>
        obtain ⟨x, hx, rfl, HU2⟩ := hrel
        clear HU
        obtain ⟨s0, s1, s2, s3, s4, s5, s6⟩ := (HK.out _ HU2.out).1.all
        by_cases hlx : x < W
        · have y3 : (x : Int) < (W : Int) := by omega
          have y4 : (0 : Int) ≤ (x : Int) := by omega
          have e2 : IntKind.i64.wrap ((W : Int) - 1 - (x : Int)) = (W : Int) - 1 - (x : Int) := IntWalk.i64_in _ (by omega)
          have hxw : (W : Int) - 1 - (x : Int) = ((W - 1 - x : Nat) : Int) := by omega
          have HATx := Lib.hid (fun z (hb : Below w8.heap.size w8 z) => HAT.out z x y hlx hly (HL.out z hb))
          have HR1x := Lib.hid (fun z (hb : Below w8.heap.size w8 z) => HR1.out z A3 c3 x y hlx hly (HG3.out z hb))
          have HR2x := Lib.hid (fun z (hb : Below w8.heap.size w8 z) => HR2.out z A4 c4 x y _ hxw hlx hly (HG4.out z hb))
          have g1 := HS1.out x y hlx
          have g2 := HS2.out x y hlx
          simp only [g1] at HR1x
          simp only [g2] at HR2x
          clear g1 g2 hxw
          obtain ⟨ba, oa, ea, la, ca⟩ := (HWA.out _ (HL.out _ HU2.out)) (by omega)
          obtain ⟨bb, ob, eb, lb, cb⟩ := (HWB.out _ (HL.out _ HU2.out)) (by omega)
          have c0 := ca x hlx
          have c1 := cb y hly
          clear ca cb
          obtain ⟨av, hav⟩ : ∃ z, a x = z := ⟨_, rfl⟩
          obtain ⟨bv, hbv⟩ : ∃ z, b y = z := ⟨_, rfl⟩
          rw [hav] at c0
          rw [hbv] at c1
          simp only [hav, hbv] at HR1x HR2x
          clear hav hbv
          have za : (av != av) = false := by simp
          have zb : (bv != bv) = false := by simp
          subst ea eb
          obtain ⟨fv, hfv⟩ : ∃ z, f (y * W + x) = z := ⟨_, rfl⟩
          simp only [hfv] at HATx HR1x HR2x
          clear hfv
          go_upto_region 14 with (fail)
          go_region
          clear s0 s1 s2 s3 s4 s5 s6 c0 c1
          have HU3 := Lib.hid (HU2.out.drew)
          clear HU2
          obtain ⟨w20, hw20⟩ : ∃ z, wr.drew = z := ⟨_, rfl⟩
          rw [hw20] at HU3 ⊢
          clear hw20
          cases fv
          all_goals
            simp only [if_true, if_false, Bool.false_eq_true] at HR1x HR2x
            obtain ⟨s0, s1, s2, s3, s4, s5, s6⟩ := (HK.out _ HU3.out).1.all
            go_wp2_with fail
            clear s0 s1 s2 s3 s4 s5 s6
            with_reducible refine Calls.mono (HATx.out _ HU3.out) ?_
            rintro e w21 ⟨rfl, hb⟩
            have HU4 := Lib.hid (HU3.out.trans (hb.mono HU3.out.size))
            clear hb HU3
            obtain ⟨t0, t1, t2, t3, t4, t5, t6⟩ := (HK.out _ HU4.out).2.1.all
            go_wp2_with fail
            clear t0 t1 t2 t3 t4 t5 t6
            with_reducible refine Calls.mono (HR1x.out _ HU4.out) ?_
            rintro e w22 ⟨rfl, hb⟩
            have HU5 := Lib.hid (HU4.out.trans (hb.mono HU4.out.size))
            clear hb HU4
            obtain ⟨s0, s1, s2, s3, s4, s5, s6⟩ := (HK.out _ HU5.out).1.all
            obtain ⟨t0, t1, t2, t3, t4, t5, t6⟩ := (HK.out _ HU5.out).2.2.all
            go_wp2_with fail
            clear s0 s1 s2 s3 s4 s5 s6 t0 t1 t2 t3 t4 t5 t6
            with_reducible refine Calls.mono (HR2x.out _ HU5.out) ?_
            rintro e w23 ⟨rfl, hb⟩
            have HU6 := Lib.hid (HU5.out.trans (hb.mono HU5.out.size))
            clear hb HU5
            go_wp2
            go_roundw
            case rel => exact ⟨x + 1, by omega, by go_num, HU6⟩
            case measure => simp [intOf]; omega
        · have y3 : ¬ (x : Int) < (W : Int) := by omega
          go_wp2
          go_roundw
          case rel => exact ⟨y + 1, by omega, by go_num, HU2⟩
          case measure => simp [intOf]; omega
    · have y1 : ¬ (y : Int) < (H : Int) := by omega
      go_wp2
      go_ret
      exact ⟨rfl, HL.out _ HU.out⟩
theorem top14_any (W H : Int) (A B C : Option Addr) (n c m d k e : Nat) (f : Nat → Bool) (a b : Nat → Int) (w : World) (hf : Holds w w.heap.size A n f) (ha : L2.Holds w w.heap.size B m a) (hb1 : L2.Holds w w.heap.size C k b) : Calls Try.prog 7 #[.agg #[.int .i64 W, .int .i64 H, .slice A n c], .slice B m d, .slice C k e] w fun e w' => e = .returned (.bool true) ∧ Below w.heap.size w w' := by
  by_cases hz : n ≤ 4200 ∧ thE W H n m k a b = 0
  · obtain ⟨P, Q, rfl, rfl, rfl, rfl, rfl, p0, p1, q0, q1, hx, hy⟩ := thE_zero hz.2
    exact top_ok m k A B C c d e f a b w hf ha hb1 p0 p1 q0 q1 hx hy
  · exact top_nf W H A B C n c m d k e f a b w hf ha hb1 hz
end Go.Proofs.Ytppepcijpdamhaa
