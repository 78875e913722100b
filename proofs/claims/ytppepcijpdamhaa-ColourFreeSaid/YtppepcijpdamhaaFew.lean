/- ColourFree: the walk. -/
import Derived.Test.YtppepcijpdamhaaTow
import Derived.Test.YtppepcijpdamhaaRsh
namespace Go.Proofs.Ytppepcijpdamhaa
open Go.RowKit
set_option maxRecDepth 100000
set_option linter.unusedVariables false
set_option linter.unusedSimpArgs false

theorem free_nf (W H : Int) (A B C : Option Addr) (n c m d k e : Nat) (f : Nat → Bool) (a b : Nat → Int) (x y : Int) (w : World) (hf : Holds w w.heap.size A n f) (ha : L2.Holds w w.heap.size B m a) (hb1 : L2.Holds w w.heap.size C k b) (hz : ¬ (n ≤ 4200 ∧ thE W H n m k a b = 0)) : Calls Try.prog 9 #[.agg #[.int .i64 W, .int .i64 H, .slice A n c], .slice B m d, .slice C k e, .int .i64 x, .int .i64 y] w fun e w' => e = .returned (.bool true) ∧ Below w.heap.size w w' := by
  have HF := Lib.hid (fun u (hb : Below w.heap.size w u) => fit_any W H A B C n c m d k e a b u ((ha.below hb).more hb.size) ((hb1.below hb).more hb.size))
  rw [decide_eq_false hz] at HF
  clear hz hf ha hb1
  have LB0 := Lib.hid (Below.refl w.heap.size w)
  have X1 := Box.new w W H (.slice A n c)
  have X1 := Lib.hid X1
  have LB0 := Lib.hid (LB0.out.alloc LB0.out.size (.cells #[.int .i64 W, .int .i64 H, .slice A n c] 24))
  go_enter Try.func9, Try.ntmps9
  go_upto_region 1 with (fail)
  generalize w.alloc (.cells #[.int .i64 W, .int .i64 H, .slice A n c] 24) = w0 at *
  go_wp2_with fail
  with_reducible refine Calls.mono (alive14_any _) ?_
  rintro e w1 ⟨rfl, hb⟩
  have LB1 := Lib.hid (LB0.out.trans (hb.mono LB0.out.size))
  have X1 := Lib.hid (X1.out.below hb X1.out.lt)
  clear hb LB0 
  obtain ⟨q0, q1, q2, q3, q4, q5, q6⟩ := X1.out.all
  go_wp2_with fail
  clear q0 q1 q2 q3 q4 q5 q6
  with_reducible refine Calls.mono (HF.out _ LB1.out) ?_
  rintro e w2 ⟨rfl, hb⟩
  have LB2 := Lib.hid (LB1.out.trans (hb.mono LB1.out.size))
  have X1 := Lib.hid (X1.out.below hb X1.out.lt)
  clear hb LB1 
  go_wp2
  go_ret
  exact ⟨rfl, LB2.out⟩
theorem free_o0 (W H : Nat) (A B C : Option Addr) (c d e : Nat) (f : Nat → Bool) (a b : Nat → Int) (x y : Int) (w : World) (hf : Holds w w.heap.size A (W * H) f) (ha : L2.Holds w w.heap.size B W a) (hb1 : L2.Holds w w.heap.size C H b) (W0 : 1 ≤ W) (W1 : W ≤ 64) (H0 : 1 ≤ H) (H1 : H ≤ 64) (hx : fine W a = true) (hy : fine H b = true) (h0 : x < 0) : Calls Try.prog 9 #[.agg #[.int .i64 (W : Nat), .int .i64 (H : Nat), .slice A (W * H) c], .slice B W d, .slice C H e, .int .i64 x, .int .i64 y] w fun e w' => e = .returned (.bool true) ∧ Below w.heap.size w w' := by
  have hN : W * H ≤ 4096 := Nat.mul_le_mul W1 H1
  have HF := Lib.hid (fun u (hb : Below w.heap.size w u) => fit_any (W : Nat) (H : Nat) A B C (W * H) c W d H e a b u ((ha.below hb).more hb.size) ((hb1.below hb).more hb.size))
  rw [decide_eq_true ⟨by omega, thE_ok (chk_zero W0 W1 H0 H1) ⟨rfl, rfl⟩ ⟨hx, hy⟩⟩] at HF
  clear hf ha hb1 hx hy
  have LB0 := Lib.hid (Below.refl w.heap.size w)
  have X1 := Box.new w (W : Nat) (H : Nat) (.slice A (W * H) c)
  have X1 := Lib.hid X1
  have LB0 := Lib.hid (LB0.out.alloc LB0.out.size (.cells #[.int .i64 (W : Nat), .int .i64 (H : Nat), .slice A (W * H) c] 24))
  go_enter Try.func9, Try.ntmps9
  go_upto_region 1 with (fail)
  generalize w.alloc (.cells #[.int .i64 (W : Nat), .int .i64 (H : Nat), .slice A (W * H) c] 24) = w0 at *
  go_wp2_with fail
  with_reducible refine Calls.mono (alive14_any _) ?_
  rintro e w1 ⟨rfl, hb⟩
  have LB1 := Lib.hid (LB0.out.trans (hb.mono LB0.out.size))
  have X1 := Lib.hid (X1.out.below hb X1.out.lt)
  clear hb LB0 
  obtain ⟨q0, q1, q2, q3, q4, q5, q6⟩ := X1.out.all
  go_wp2_with fail
  clear q0 q1 q2 q3 q4 q5 q6
  with_reducible refine Calls.mono (HF.out _ LB1.out) ?_
  rintro e w2 ⟨rfl, hb⟩
  have LB2 := Lib.hid (LB1.out.trans (hb.mono LB1.out.size))
  have X1 := Lib.hid (X1.out.below hb X1.out.lt)
  clear hb LB1 
  obtain ⟨q0, q1, q2, q3, q4, q5, q6⟩ := X1.out.all
  go_wp2
  go_ret
  exact ⟨rfl, LB2.out⟩
theorem free_o1 (W H : Nat) (A B C : Option Addr) (c d e : Nat) (f : Nat → Bool) (a b : Nat → Int) (x y : Int) (w : World) (hf : Holds w w.heap.size A (W * H) f) (ha : L2.Holds w w.heap.size B W a) (hb1 : L2.Holds w w.heap.size C H b) (W0 : 1 ≤ W) (W1 : W ≤ 64) (H0 : 1 ≤ H) (H1 : H ≤ 64) (hx : fine W a = true) (hy : fine H b = true) (h0 : ¬ x < 0) (h1 : y < 0) : Calls Try.prog 9 #[.agg #[.int .i64 (W : Nat), .int .i64 (H : Nat), .slice A (W * H) c], .slice B W d, .slice C H e, .int .i64 x, .int .i64 y] w fun e w' => e = .returned (.bool true) ∧ Below w.heap.size w w' := by
  have hN : W * H ≤ 4096 := Nat.mul_le_mul W1 H1
  have HF := Lib.hid (fun u (hb : Below w.heap.size w u) => fit_any (W : Nat) (H : Nat) A B C (W * H) c W d H e a b u ((ha.below hb).more hb.size) ((hb1.below hb).more hb.size))
  rw [decide_eq_true ⟨by omega, thE_ok (chk_zero W0 W1 H0 H1) ⟨rfl, rfl⟩ ⟨hx, hy⟩⟩] at HF
  clear hf ha hb1 hx hy
  have LB0 := Lib.hid (Below.refl w.heap.size w)
  have X1 := Box.new w (W : Nat) (H : Nat) (.slice A (W * H) c)
  have X1 := Lib.hid X1
  have LB0 := Lib.hid (LB0.out.alloc LB0.out.size (.cells #[.int .i64 (W : Nat), .int .i64 (H : Nat), .slice A (W * H) c] 24))
  go_enter Try.func9, Try.ntmps9
  go_upto_region 1 with (fail)
  generalize w.alloc (.cells #[.int .i64 (W : Nat), .int .i64 (H : Nat), .slice A (W * H) c] 24) = w0 at *
  go_wp2_with fail
  with_reducible refine Calls.mono (alive14_any _) ?_
  rintro e w1 ⟨rfl, hb⟩
  have LB1 := Lib.hid (LB0.out.trans (hb.mono LB0.out.size))
  have X1 := Lib.hid (X1.out.below hb X1.out.lt)
  clear hb LB0 
  obtain ⟨q0, q1, q2, q3, q4, q5, q6⟩ := X1.out.all
  go_wp2_with fail
  clear q0 q1 q2 q3 q4 q5 q6
  with_reducible refine Calls.mono (HF.out _ LB1.out) ?_
  rintro e w2 ⟨rfl, hb⟩
  have LB2 := Lib.hid (LB1.out.trans (hb.mono LB1.out.size))
  have X1 := Lib.hid (X1.out.below hb X1.out.lt)
  clear hb LB1 
  obtain ⟨q0, q1, q2, q3, q4, q5, q6⟩ := X1.out.all
  go_wp2
  go_ret
  exact ⟨rfl, LB2.out⟩
theorem free_o2 (W H : Nat) (A B C : Option Addr) (c d e : Nat) (f : Nat → Bool) (a b : Nat → Int) (x y : Int) (w : World) (hf : Holds w w.heap.size A (W * H) f) (ha : L2.Holds w w.heap.size B W a) (hb1 : L2.Holds w w.heap.size C H b) (W0 : 1 ≤ W) (W1 : W ≤ 64) (H0 : 1 ≤ H) (H1 : H ≤ 64) (hx : fine W a = true) (hy : fine H b = true) (h0 : ¬ x < 0) (h1 : ¬ y < 0) (h2 : (W : Int) ≤ x) : Calls Try.prog 9 #[.agg #[.int .i64 (W : Nat), .int .i64 (H : Nat), .slice A (W * H) c], .slice B W d, .slice C H e, .int .i64 x, .int .i64 y] w fun e w' => e = .returned (.bool true) ∧ Below w.heap.size w w' := by
  have hN : W * H ≤ 4096 := Nat.mul_le_mul W1 H1
  have HF := Lib.hid (fun u (hb : Below w.heap.size w u) => fit_any (W : Nat) (H : Nat) A B C (W * H) c W d H e a b u ((ha.below hb).more hb.size) ((hb1.below hb).more hb.size))
  rw [decide_eq_true ⟨by omega, thE_ok (chk_zero W0 W1 H0 H1) ⟨rfl, rfl⟩ ⟨hx, hy⟩⟩] at HF
  clear hf ha hb1 hx hy
  have LB0 := Lib.hid (Below.refl w.heap.size w)
  have X1 := Box.new w (W : Nat) (H : Nat) (.slice A (W * H) c)
  have X1 := Lib.hid X1
  have LB0 := Lib.hid (LB0.out.alloc LB0.out.size (.cells #[.int .i64 (W : Nat), .int .i64 (H : Nat), .slice A (W * H) c] 24))
  go_enter Try.func9, Try.ntmps9
  go_upto_region 1 with (fail)
  generalize w.alloc (.cells #[.int .i64 (W : Nat), .int .i64 (H : Nat), .slice A (W * H) c] 24) = w0 at *
  go_wp2_with fail
  with_reducible refine Calls.mono (alive14_any _) ?_
  rintro e w1 ⟨rfl, hb⟩
  have LB1 := Lib.hid (LB0.out.trans (hb.mono LB0.out.size))
  have X1 := Lib.hid (X1.out.below hb X1.out.lt)
  clear hb LB0 
  obtain ⟨q0, q1, q2, q3, q4, q5, q6⟩ := X1.out.all
  go_wp2_with fail
  clear q0 q1 q2 q3 q4 q5 q6
  with_reducible refine Calls.mono (HF.out _ LB1.out) ?_
  rintro e w2 ⟨rfl, hb⟩
  have LB2 := Lib.hid (LB1.out.trans (hb.mono LB1.out.size))
  have X1 := Lib.hid (X1.out.below hb X1.out.lt)
  clear hb LB1 
  obtain ⟨q0, q1, q2, q3, q4, q5, q6⟩ := X1.out.all
  go_wp2
  go_ret
  exact ⟨rfl, LB2.out⟩
theorem free_o3 (W H : Nat) (A B C : Option Addr) (c d e : Nat) (f : Nat → Bool) (a b : Nat → Int) (x y : Int) (w : World) (hf : Holds w w.heap.size A (W * H) f) (ha : L2.Holds w w.heap.size B W a) (hb1 : L2.Holds w w.heap.size C H b) (W0 : 1 ≤ W) (W1 : W ≤ 64) (H0 : 1 ≤ H) (H1 : H ≤ 64) (hx : fine W a = true) (hy : fine H b = true) (h0 : ¬ x < 0) (h1 : ¬ y < 0) (h2 : ¬ (W : Int) ≤ x) (h3 : (H : Int) ≤ y) : Calls Try.prog 9 #[.agg #[.int .i64 (W : Nat), .int .i64 (H : Nat), .slice A (W * H) c], .slice B W d, .slice C H e, .int .i64 x, .int .i64 y] w fun e w' => e = .returned (.bool true) ∧ Below w.heap.size w w' := by
  have hN : W * H ≤ 4096 := Nat.mul_le_mul W1 H1
  have HF := Lib.hid (fun u (hb : Below w.heap.size w u) => fit_any (W : Nat) (H : Nat) A B C (W * H) c W d H e a b u ((ha.below hb).more hb.size) ((hb1.below hb).more hb.size))
  rw [decide_eq_true ⟨by omega, thE_ok (chk_zero W0 W1 H0 H1) ⟨rfl, rfl⟩ ⟨hx, hy⟩⟩] at HF
  clear hf ha hb1 hx hy
  have LB0 := Lib.hid (Below.refl w.heap.size w)
  have X1 := Box.new w (W : Nat) (H : Nat) (.slice A (W * H) c)
  have X1 := Lib.hid X1
  have LB0 := Lib.hid (LB0.out.alloc LB0.out.size (.cells #[.int .i64 (W : Nat), .int .i64 (H : Nat), .slice A (W * H) c] 24))
  go_enter Try.func9, Try.ntmps9
  go_upto_region 1 with (fail)
  generalize w.alloc (.cells #[.int .i64 (W : Nat), .int .i64 (H : Nat), .slice A (W * H) c] 24) = w0 at *
  go_wp2_with fail
  with_reducible refine Calls.mono (alive14_any _) ?_
  rintro e w1 ⟨rfl, hb⟩
  have LB1 := Lib.hid (LB0.out.trans (hb.mono LB0.out.size))
  have X1 := Lib.hid (X1.out.below hb X1.out.lt)
  clear hb LB0 
  obtain ⟨q0, q1, q2, q3, q4, q5, q6⟩ := X1.out.all
  go_wp2_with fail
  clear q0 q1 q2 q3 q4 q5 q6
  with_reducible refine Calls.mono (HF.out _ LB1.out) ?_
  rintro e w2 ⟨rfl, hb⟩
  have LB2 := Lib.hid (LB1.out.trans (hb.mono LB1.out.size))
  have X1 := Lib.hid (X1.out.below hb X1.out.lt)
  clear hb LB1 
  obtain ⟨q0, q1, q2, q3, q4, q5, q6⟩ := X1.out.all
  go_wp2
  go_ret
  exact ⟨rfl, LB2.out⟩
theorem row_ne_ibox {w : World} {k g n : Nat} {f : Nat → Bool} {X Y : Int} {v : Value} (h : Row w k n f) (hx : IBox w g X Y v) : k ≠ g := by
  rintro rfl
  obtain ⟨cs, h1, _⟩ := h
  unfold IBox at hx
  rw [h1] at hx
  cases hx
/-- A weave with one cell changed. -/
def flF (p : Nat) (f : Nat → Bool) : Nat → Bool := fun j => if j = p then !f p else f j
set_option maxHeartbeats 6400000 in
theorem free_ok (W H : Nat) (A B C : Option Addr) (c d e : Nat) (f : Nat → Bool) (a b : Nat → Int) (X Y : Nat) (hX : X < W) (hY : Y < H) (w : World) (hf : Holds w w.heap.size A (W * H) f) (ha : L2.Holds w w.heap.size B W a) (hb1 : L2.Holds w w.heap.size C H b) (W0 : 1 ≤ W) (W1 : W ≤ 64) (H0 : 1 ≤ H) (H1 : H ≤ 64) (hx : fine W a = true) (hy : fine H b = true) : Calls Try.prog 9 #[.agg #[.int .i64 (W : Nat), .int .i64 (H : Nat), .slice A (W * H) c], .slice B W d, .slice C H e, .int .i64 (X : Nat), .int .i64 (Y : Nat)] w fun e w' => e = .returned (.bool true) ∧ Below w.heap.size w w' := by
  have hN : W * H ≤ 4096 := Nat.mul_le_mul W1 H1
  have HF := Lib.hid (fun u (hb : Below w.heap.size w u) => fit_any (W : Nat) (H : Nat) A B C (W * H) c W d H e a b u ((ha.below hb).more hb.size) ((hb1.below hb).more hb.size))
  rw [decide_eq_true ⟨by omega, thE_ok (chk_zero W0 W1 H0 H1) ⟨rfl, rfl⟩ ⟨hx, hy⟩⟩] at HF
  have hN0 : 0 < W * H := Nat.mul_pos W0 H0
  have HQ := Lib.hid (fun u (hb : Below w.heap.size w u) => equal_ok B C W d H e a b u W0 W1 H0 H1 ((ha.below hb).more hb.size) ((hb1.below hb).more hb.size) hx hy)
  have HA := Lib.hid (fun u D q g (h1 : Holds u u.heap.size D (W * H) g) (ha2 : L2.Holds u u.heap.size B W a) (hb2 : L2.Holds u u.heap.size C H b) => front_ok W H D B C q d e g a b u h1 ha2 hb2 W0 W1 H0 H1 hx hy)
  have HTW := Lib.hid (fun u (hb : Below w.heap.size w u) => twin_some (W : Nat) (H : Nat) A (W * H) c f u (by omega) hN0 ((hf.below hb).more hb.size))
  have HAT := Lib.hid (fun z (hb : Below w.heap.size w z) => at_nat W H A c (X : Nat) (Y : Nat) f z z.heap.size ((hf.below hb).more hb.size) (Nat.le_refl _) W1 H1 X Y rfl rfl hX hY)
  have HST := Lib.hid (fun z kb c1 v (hr : Row z kb (W * H) f) => set_nat W H kb c1 (X : Nat) (Y : Nat) v f z hr W1 H1 X Y rfl rfl hX hY)
  have HCQ := Lib.hid (fun u D q => rchk_valid (W := W) (H := H) D q u W0 W1 H0 H1)
  have HC1 := Lib.hid (fun u D q g (h : L2.Holds u u.heap.size D (W * H) (shF W g a b)) => rick_any (W : Nat) (H : Nat) D (W * H) q _ u h)
  have HCZ : ∀ g, ick (W : Nat) (H : Nat) (W * H) (shF W g a b) = 0 := fun g => ick_zero W0 W1 H0 H1 (fine_shF W0 hx hy)
  simp only [HCZ] at HC1
  have HAQ := Lib.hid (fun z D q (h : Holds z z.heap.size D (W * H) (eqF W a b)) => at_nat W H D q (X : Nat) (Y : Nat) (eqF W a b) z z.heap.size h (Nat.le_refl _) W1 H1 X Y rfl rfl hX hY)
  have HEQ : eqF W a b (Y * W + X) = (a X == b Y) := by unfold eqF; rw [(co Y hX).1, (co Y hX).2]
  rw [HEQ] at HAQ
  have HR1 := Lib.hid (fun z D q g (x y : Nat) (hx : x < W) (hy : y < H) (h : L2.Holds z z.heap.size D (W * H) (shF W g a b)) => rat_nat W H D q (x : Nat) (y : Nat) _ z h W1 H1 x y rfl rfl hx hy)
  have HS1 := Lib.hid (fun g x y (hx : x < W) => shF_at (y := y) (f := g) (a := a) (b := b) hx)
  have HIN := Lib.hid (fun x y (hx : x < W) => show y * W + x = Y * W + X ↔ x = X ∧ y = Y from ⟨fun q => by
      have e1 := (co y hx).1; have e2 := (co y hx).2; rw [q, (co Y hX).1] at e1; rw [q, (co Y hX).2] at e2; exact ⟨e2.symm, e1.symm⟩, fun q => by rw [q.1, q.2]⟩)
  have HHF := Lib.hid hf
  have HWA := Lib.hid ha
  have HWB := Lib.hid hb1
  have z1 : ((W : Int) != (W : Int)) = false := by simp
  have z2 : ((H : Int) != (H : Int)) = false := by simp
  have z3 : ((0 : Int) != 0) = false := rfl
  have z4 : ¬ (X : Int) < 0 := by omega
  have z5 : ¬ (Y : Int) < 0 := by omega
  have z6 : ¬ (W : Int) ≤ (X : Int) := by omega
  have z7 : ¬ (H : Int) ≤ (Y : Int) := by omega
  clear hf ha hb1 hx hy HCZ HEQ
  have LB0 := Lib.hid (Below.refl w.heap.size w)
  have X1 := Box.new w (W : Nat) (H : Nat) (.slice A (W * H) c)
  have X1 := Lib.hid X1
  have LB0 := Lib.hid (LB0.out.alloc LB0.out.size (.cells #[.int .i64 (W : Nat), .int .i64 (H : Nat), .slice A (W * H) c] 24))
  go_enter Try.func9, Try.ntmps9
  go_upto_region 1 with (fail)
  generalize w.alloc (.cells #[.int .i64 (W : Nat), .int .i64 (H : Nat), .slice A (W * H) c] 24) = w0 at *
  have HWA := Lib.hid ((HWA.out.below LB0.out).more LB0.out.size)
  have HWB := Lib.hid ((HWB.out.below LB0.out).more LB0.out.size)
  have HHF := Lib.hid ((HHF.out.below LB0.out).more LB0.out.size)
  go_wp2_with fail
  with_reducible refine Calls.mono (alive14_any _) ?_
  rintro e w1 ⟨rfl, hb⟩
  have LB1 := Lib.hid (LB0.out.trans (hb.mono LB0.out.size))
  have X1 := Lib.hid (X1.out.below hb X1.out.lt)
  have HWA := Lib.hid ((HWA.out.below hb).more hb.size)
  have HWB := Lib.hid ((HWB.out.below hb).more hb.size)
  have HHF := Lib.hid ((HHF.out.below hb).more hb.size)
  clear hb LB0 
  obtain ⟨q0, q1, q2, q3, q4, q5, q6⟩ := X1.out.all
  go_wp2_with fail
  clear q0 q1 q2 q3 q4 q5 q6
  with_reducible refine Calls.mono (HF.out _ LB1.out) ?_
  rintro e w2 ⟨rfl, hb⟩
  have LB2 := Lib.hid (LB1.out.trans (hb.mono LB1.out.size))
  have X1 := Lib.hid (X1.out.below hb X1.out.lt)
  have HWA := Lib.hid ((HWA.out.below hb).more hb.size)
  have HWB := Lib.hid ((HWB.out.below hb).more hb.size)
  have HHF := Lib.hid ((HHF.out.below hb).more hb.size)
  clear hb LB1 
  obtain ⟨q0, q1, q2, q3, q4, q5, q6⟩ := X1.out.all
  go_wp2_with fail
  clear q0 q1 q2 q3 q4 q5 q6
  with_reducible refine Calls.mono (HQ.out _ LB2.out) ?_
  rintro e w3 ⟨A2, c2, rfl, hh, hb⟩
  have LB3 := Lib.hid (LB2.out.trans (hb.mono LB2.out.size))
  have X1 := Lib.hid (X1.out.below hb X1.out.lt)
  have HWA := Lib.hid ((HWA.out.below hb).more hb.size)
  have HWB := Lib.hid ((HWB.out.below hb).more hb.size)
  have HHF := Lib.hid ((HHF.out.below hb).more hb.size)
  have H2 := Lib.hid hh
  clear hb LB2 hh
  have hb := ((Below.refl w3.heap.size w3).alloc (by simp; try omega) (.cells #[.int .i64 (W : Nat), .int .i64 (H : Nat), .slice A2 (W * H) c2] 24))
  have LB4 := Lib.hid (LB3.out.trans (hb.mono LB3.out.size))
  have X1 := Lib.hid (X1.out.below hb X1.out.lt)
  have HWA := Lib.hid ((HWA.out.below hb).more hb.size)
  have HWB := Lib.hid ((HWB.out.below hb).more hb.size)
  have HHF := Lib.hid ((HHF.out.below hb).more hb.size)
  have H2 := Lib.hid ((H2.out.below hb).more hb.size)
  have B2 := Box.new w3 (W : Nat) (H : Nat) (.slice A2 (W * H) c2)
  have B2 := Lib.hid B2
  clear hb LB3
  go_upto_region 5 with (fail)
  obtain ⟨b2, hb2⟩ : ∃ z, w3.heap.size = z := ⟨_, rfl⟩
  rw [hb2] at B2
  try rw [hb2]
  clear hb2
  generalize w3.alloc (.cells #[.int .i64 (W : Nat), .int .i64 (H : Nat), .slice A2 (W * H) c2] 24) = w4 at *
  obtain ⟨q0, q1, q2, q3, q4, q5, q6⟩ := X1.out.all
  go_wp2_with fail
  clear q0 q1 q2 q3 q4 q5 q6
  with_reducible refine Calls.mono (HA.out _ _ _ _ HHF.out HWA.out HWB.out) ?_
  rintro e w5 ⟨A3, c3, rfl, hh, hb⟩
  have LB5 := Lib.hid (LB4.out.trans (hb.mono LB4.out.size))
  have X1 := Lib.hid (X1.out.below hb X1.out.lt)
  have HWA := Lib.hid ((HWA.out.below hb).more hb.size)
  have HWB := Lib.hid ((HWB.out.below hb).more hb.size)
  have HHF := Lib.hid ((HHF.out.below hb).more hb.size)
  have H2 := Lib.hid ((H2.out.below hb).more hb.size)
  have B2 := Lib.hid (B2.out.below hb B2.out.lt)
  have H3 := Lib.hid hh
  clear hb LB4 hh
  have hb := ((Below.refl w5.heap.size w5).alloc (by simp; try omega) (.cells #[.int .i64 (W : Nat), .int .i64 (H : Nat), .slice A3 (W * H) c3] 29))
  have LB6 := Lib.hid (LB5.out.trans (hb.mono LB5.out.size))
  have X1 := Lib.hid (X1.out.below hb X1.out.lt)
  have HWA := Lib.hid ((HWA.out.below hb).more hb.size)
  have HWB := Lib.hid ((HWB.out.below hb).more hb.size)
  have HHF := Lib.hid ((HHF.out.below hb).more hb.size)
  have H2 := Lib.hid ((H2.out.below hb).more hb.size)
  have B2 := Lib.hid (B2.out.below hb B2.out.lt)
  have H3 := Lib.hid ((H3.out.below hb).more hb.size)
  have B3 := IBox.new w5 (W : Nat) (H : Nat) (.slice A3 (W * H) c3)
  have B3 := Lib.hid B3
  clear hb LB5
  go_upto_region 6 with (fail)
  obtain ⟨b3, hb3⟩ : ∃ z, w5.heap.size = z := ⟨_, rfl⟩
  rw [hb3] at B3
  try rw [hb3]
  clear hb3
  generalize w5.alloc (.cells #[.int .i64 (W : Nat), .int .i64 (H : Nat), .slice A3 (W * H) c3] 29) = w6 at *
  have LT := Lib.hid (Below.refl w6.heap.size w6)
  have GA := Lib.hid (fun z (h : Below w6.heap.size w6 z) => HWA.out.below h)
  have GB := Lib.hid (fun z (h : Below w6.heap.size w6 z) => HWB.out.below h)
  have G2 := Lib.hid (fun z (h : Below w6.heap.size w6 z) => H2.out.below h)
  have G3 := Lib.hid (fun z (h : Below w6.heap.size w6 z) => H3.out.below h)
  obtain ⟨q0, q1, q2, q3, q4, q5, q6⟩ := X1.out.all
  go_wp2_with fail
  clear q0 q1 q2 q3 q4 q5 q6
  with_reducible refine Calls.mono (HTW.out _ LB6.out) ?_
  rintro e w7 ⟨kb, d4, rfl, hkt, hrow, hb⟩
  have hkw : w.heap.size ≤ kb := Nat.le_trans LB6.out.size hkt
  have LB7 := Lib.hid (LB6.out.trans (hb.mono LB6.out.size))
  have X1 := Lib.hid (X1.out.below hb X1.out.lt)
  have HWA := Lib.hid ((HWA.out.below hb).more hb.size)
  have HWB := Lib.hid ((HWB.out.below hb).more hb.size)
  have HHF := Lib.hid ((HHF.out.below hb).more hb.size)
  have H2 := Lib.hid ((H2.out.below hb).more hb.size)
  have B2 := Lib.hid (B2.out.below hb B2.out.lt)
  have H3 := Lib.hid ((H3.out.below hb).more hb.size)
  have B3 := Lib.hid (B3.out.below hb B3.out.lt)
  have LT := Lib.hid (LT.out.trans (hb.mono LT.out.size))
  have RK := Lib.hid hrow
  clear hb hrow LB6
  clear HWA HWB HHF H2 H3
  have hb := ((Below.refl w7.heap.size w7).alloc (by simp; try omega) (.cells #[.int .i64 (W : Nat), .int .i64 (H : Nat), .slice (some ⟨kb, 0, none⟩) (W * H) d4] 24))
  have LB8 := Lib.hid (LB7.out.trans (hb.mono LB7.out.size))
  have X1 := Lib.hid (X1.out.below hb X1.out.lt)
  have B2 := Lib.hid (B2.out.below hb B2.out.lt)
  have B3 := Lib.hid (B3.out.below hb B3.out.lt)
  have LT := Lib.hid (LT.out.trans (hb.mono LT.out.size))
  have RK := Lib.hid (RK.out.below hb RK.out.lt)
  have XO := Box.new w7 (W : Nat) (H : Nat) (.slice (some ⟨kb, 0, none⟩) (W * H) d4)
  have XO := Lib.hid XO
  clear hb LB7
  go_upto_region 7 with (fail)
  obtain ⟨ob, hob⟩ : ∃ z, w7.heap.size = z := ⟨_, rfl⟩
  rw [hob] at XO
  try rw [hob]
  clear hob
  generalize w7.alloc (.cells #[.int .i64 (W : Nat), .int .i64 (H : Nat), .slice (some ⟨kb, 0, none⟩) (W * H) d4] 24) = w8 at *
  have n1 : w.heap.size ≠ kb := fun h => RK.out.ne_box X1.out h.symm
  have n2 : b2 ≠ kb := fun h => RK.out.ne_box B2.out h.symm
  have n3 : b3 ≠ kb := fun h => row_ne_ibox RK.out B3.out h.symm
  have n4 : ob ≠ kb := fun h => RK.out.ne_box XO.out h.symm
  clear HF HQ HTW
  obtain ⟨fv, hfv⟩ : ∃ z, f (Y * W + X) = z := ⟨_, rfl⟩
  rw [hfv] at HAT
  have HFL := Lib.hid (fun j => show (if j = Y * W + X then !fv else f j) = flF (Y * W + X) f j by unfold flF; rw [hfv])
  go_cut [11] (fun s wx => s = .bool true ∧ Hid (Row wx kb (W * H) (flF (Y * W + X) f)) ∧ Hid (But kb w8 wx))
  case first =>
    obtain ⟨p0, p1, p2, p3, p4, p5, p6⟩ := X1.out.all
    obtain ⟨q0, q1, q2, q3, q4, q5, q6⟩ := XO.out.all
    go_region_law (first
      | (go_simp
         with_reducible refine Calls.mono (HAT.out _ LB8.out.drew) ?_
         rintro e wa ⟨rfl, hb⟩
         have hbd : Below w8.heap.size w8 wa := (Below.refl _ _).drew.trans hb
         have HBa := Lib.hid hbd
         have RKa := Lib.hid (RK.out.below hbd RK.out.lt)
         obtain ⟨p0, p1, p2, p3, p4, p5, p6⟩ := (X1.out.below hbd X1.out.lt).all
         obtain ⟨q0, q1, q2, q3, q4, q5, q6⟩ := (XO.out.below hbd XO.out.lt).all
         clear hb hbd)
      | (go_simp
         with_reducible refine Calls.mono (HST.out _ kb d4 (!fv) RKa.out) ?_
         rintro e ws ⟨rfl, hr, hb⟩
         have HRs := Lib.hid (hr.congr (fun j hj => HFL.out j))
         have HDs := Lib.hid ((But.of HBa.out).trans hb)
         clear hr hb))
    all_goals
      go_wp2
      go_meet
      exact ⟨rfl, HRs, HDs⟩
  case rest =>
    obtain ⟨rfl, RK2, D⟩ := hcut
    have X1 := Lib.hid (D.out.box X1.out n1)
    have B2 := Lib.hid (D.out.box B2.out n2)
    have B3 := Lib.hid (D.out.ibox B3.out n3)
    have XO := Lib.hid (D.out.box XO.out n4)
    have HWA := Lib.hid ((D.out.iholds (GA.out _ LT.out) hkt LT.out.size).more (Nat.le_trans LT.out.size D.out.size))
    have HWB := Lib.hid ((D.out.iholds (GB.out _ LT.out) hkt LT.out.size).more (Nat.le_trans LT.out.size D.out.size))
    have H2 := Lib.hid ((D.out.holds (G2.out _ LT.out) hkt LT.out.size).more (Nat.le_trans LT.out.size D.out.size))
    have H3 := Lib.hid ((D.out.iholds (G3.out _ LT.out) hkt LT.out.size).more (Nat.le_trans LT.out.size D.out.size))
    have LB20 := Lib.hid (D.out.below LB8.out hkw)
    clear LT GA GB G2 G3 LB8 D RK HFL HAT HST hkt n1 n2 n3 n4 
    obtain ⟨w20, hw20⟩ := wofI LB20.out
    subst hw20
    obtain ⟨q0, q1, q2, q3, q4, q5, q6⟩ := XO.out.all
    go_wp2_with fail
    clear q0 q1 q2 q3 q4 q5 q6
    with_reducible refine Calls.mono (HA.out _ _ _ _ (RK2.out.holds RK2.out.lt) HWA.out HWB.out) ?_
    rintro e w21 ⟨A5, c5, rfl, hh, hb⟩
    have LB21 := Lib.hid (LB20.out.trans (hb.mono LB20.out.size))
    have X1 := Lib.hid (X1.out.below hb X1.out.lt)
    have B2 := Lib.hid (B2.out.below hb B2.out.lt)
    have B3 := Lib.hid (B3.out.below hb B3.out.lt)
    have XO := Lib.hid (XO.out.below hb XO.out.lt)
    have RK2 := Lib.hid (RK2.out.below hb RK2.out.lt)
    have HWA := Lib.hid ((HWA.out.below hb).more hb.size)
    have HWB := Lib.hid ((HWB.out.below hb).more hb.size)
    have H2 := Lib.hid ((H2.out.below hb).more hb.size)
    have H3 := Lib.hid ((H3.out.below hb).more hb.size)
    have H5 := Lib.hid hh
    clear hb LB20 hh
    clear RK2 XO
    have hb := ((Below.refl w21.heap.size w21).alloc (by simp; try omega) (.cells #[.int .i64 (W : Nat), .int .i64 (H : Nat), .slice A5 (W * H) c5] 29))
    have LB22 := Lib.hid (LB21.out.trans (hb.mono LB21.out.size))
    have X1 := Lib.hid (X1.out.below hb X1.out.lt)
    have B2 := Lib.hid (B2.out.below hb B2.out.lt)
    have B3 := Lib.hid (B3.out.below hb B3.out.lt)
    have HWA := Lib.hid ((HWA.out.below hb).more hb.size)
    have HWB := Lib.hid ((HWB.out.below hb).more hb.size)
    have H2 := Lib.hid ((H2.out.below hb).more hb.size)
    have H3 := Lib.hid ((H3.out.below hb).more hb.size)
    have H5 := Lib.hid ((H5.out.below hb).more hb.size)
    have B5 := IBox.new w21 (W : Nat) (H : Nat) (.slice A5 (W * H) c5)
    have B5 := Lib.hid B5
    clear hb LB21
    go_upto_region 9 with (fail)
    obtain ⟨b5, hb5⟩ : ∃ z, w21.heap.size = z := ⟨_, rfl⟩
    rw [hb5] at B5
    try rw [hb5]
    clear hb5
    generalize w21.alloc (.cells #[.int .i64 (W : Nat), .int .i64 (H : Nat), .slice A5 (W * H) c5] 29) = w22 at *
    obtain ⟨q0, q1, q2, q3, q4, q5, q6⟩ := B2.out.all
    obtain ⟨q7, q8, q9, q10, q11, q12, q13⟩ := B3.out.all
    obtain ⟨q14, q15, q16, q17, q18, q19, q20⟩ := B5.out.all
    obtain ⟨q21, q22, q23, q24, q25, q26, q27⟩ := X1.out.all
    go_wp2_with fail
    clear q0 q1 q2 q3 q4 q5 q6 q7 q8 q9 q10 q11 q12 q13 q14 q15 q16 q17 q18 q19 q20 q21 q22 q23 q24 q25 q26 q27
    with_reducible refine Calls.mono (HCQ.out _ _ _) ?_
    rintro e w23 ⟨rfl, hb⟩
    have LB23 := Lib.hid (LB22.out.trans (hb.mono LB22.out.size))
    have X1 := Lib.hid (X1.out.below hb X1.out.lt)
    have B2 := Lib.hid (B2.out.below hb B2.out.lt)
    have B3 := Lib.hid (B3.out.below hb B3.out.lt)
    have HWA := Lib.hid ((HWA.out.below hb).more hb.size)
    have HWB := Lib.hid ((HWB.out.below hb).more hb.size)
    have H2 := Lib.hid ((H2.out.below hb).more hb.size)
    have H3 := Lib.hid ((H3.out.below hb).more hb.size)
    have H5 := Lib.hid ((H5.out.below hb).more hb.size)
    have B5 := Lib.hid (B5.out.below hb B5.out.lt)
    clear hb LB22 
    obtain ⟨q0, q1, q2, q3, q4, q5, q6⟩ := B2.out.all
    obtain ⟨q7, q8, q9, q10, q11, q12, q13⟩ := B3.out.all
    obtain ⟨q14, q15, q16, q17, q18, q19, q20⟩ := B5.out.all
    obtain ⟨q21, q22, q23, q24, q25, q26, q27⟩ := X1.out.all
    go_wp2_with fail
    clear q0 q1 q2 q3 q4 q5 q6 q7 q8 q9 q10 q11 q12 q13 q14 q15 q16 q17 q18 q19 q20 q21 q22 q23 q24 q25 q26 q27
    with_reducible refine Calls.mono (HC1.out _ _ _ _ H3.out) ?_
    rintro e w24 ⟨rfl, hb⟩
    have LB24 := Lib.hid (LB23.out.trans (hb.mono LB23.out.size))
    have X1 := Lib.hid (X1.out.below hb X1.out.lt)
    have B2 := Lib.hid (B2.out.below hb B2.out.lt)
    have B3 := Lib.hid (B3.out.below hb B3.out.lt)
    have HWA := Lib.hid ((HWA.out.below hb).more hb.size)
    have HWB := Lib.hid ((HWB.out.below hb).more hb.size)
    have H2 := Lib.hid ((H2.out.below hb).more hb.size)
    have H3 := Lib.hid ((H3.out.below hb).more hb.size)
    have H5 := Lib.hid ((H5.out.below hb).more hb.size)
    have B5 := Lib.hid (B5.out.below hb B5.out.lt)
    clear hb LB23 
    obtain ⟨q0, q1, q2, q3, q4, q5, q6⟩ := B2.out.all
    obtain ⟨q7, q8, q9, q10, q11, q12, q13⟩ := B3.out.all
    obtain ⟨q14, q15, q16, q17, q18, q19, q20⟩ := B5.out.all
    obtain ⟨q21, q22, q23, q24, q25, q26, q27⟩ := X1.out.all
    go_wp2_with fail
    clear q0 q1 q2 q3 q4 q5 q6 q7 q8 q9 q10 q11 q12 q13 q14 q15 q16 q17 q18 q19 q20 q21 q22 q23 q24 q25 q26 q27
    with_reducible refine Calls.mono (HC1.out _ _ _ _ H5.out) ?_
    rintro e w25 ⟨rfl, hb⟩
    have LB25 := Lib.hid (LB24.out.trans (hb.mono LB24.out.size))
    have X1 := Lib.hid (X1.out.below hb X1.out.lt)
    have B2 := Lib.hid (B2.out.below hb B2.out.lt)
    have B3 := Lib.hid (B3.out.below hb B3.out.lt)
    have HWA := Lib.hid ((HWA.out.below hb).more hb.size)
    have HWB := Lib.hid ((HWB.out.below hb).more hb.size)
    have H2 := Lib.hid ((H2.out.below hb).more hb.size)
    have H3 := Lib.hid ((H3.out.below hb).more hb.size)
    have H5 := Lib.hid ((H5.out.below hb).more hb.size)
    have B5 := Lib.hid (B5.out.below hb B5.out.lt)
    clear hb LB24 
    have HK := Lib.hid (fun z (h : Below w25.heap.size w25 z) => (show Box z w.heap.size (W : Nat) (H : Nat) (.slice A (W * H) c) ∧ Box z b2 (W : Nat) (H : Nat) (.slice A2 (W * H) c2) ∧ IBox z b3 (W : Nat) (H : Nat) (.slice A3 (W * H) c3) ∧ IBox z b5 (W : Nat) (H : Nat) (.slice A5 (W * H) c5) from ⟨X1.out.below h X1.out.lt, B2.out.below h B2.out.lt, B3.out.below h B3.out.lt, B5.out.below h B5.out.lt⟩))
    have HL := Lib.hid (fun z (h : Below w25.heap.size w25 z) => (show Below w.heap.size w z from LB25.out.trans (h.mono LB25.out.size)))
    have G2 := Lib.hid (fun z (h : Below w25.heap.size w25 z) => (H2.out.below h).more h.size)
    have G3 := Lib.hid (fun z (h : Below w25.heap.size w25 z) => (H3.out.below h).more h.size)
    have G5 := Lib.hid (fun z (h : Below w25.heap.size w25 z) => (H5.out.below h).more h.size)
    have HFL := Lib.hid (fun j => show flF (Y * W + X) f j = if j = Y * W + X then !fv else f j by unfold flF; rw [hfv])
    have HFV := Lib.hid hfv
    clear HA HC1 HCQ HWA HWB hfv
    obtain ⟨k1, k2, k3, k4⟩ := HK.out _ (Below.refl _ _)
    obtain ⟨s0, s1, s2, s3, s4, s5, s6⟩ := k1.all
    obtain ⟨t0, t1, t2, t3, t4, t5, t6⟩ := k3.all
    obtain ⟨v0, v1, v2, v3, v4, v5, v6⟩ := k4.all
    clear k1 k2 k3 k4
    go_wp2
    clear s0 s1 s2 s3 s4 s5 s6 t0 t1 t2 t3 t4 t5 t6 v0 v1 v2 v3 v4 v5 v6
    go_loopw [19] (fun i wr => ∃ v : Nat, v ≤ H ∧ i = .int .i64 v ∧ Hid (Below w25.heap.size w25 wr)) (fun i _ => H - (intOf i).toNat)
    case atStart => exact ⟨0, Nat.zero_le _, rfl, Lib.hid (Below.refl _ _)⟩
    case round =>
      obtain ⟨v, hv, rfl, HU⟩ := hrel
      obtain ⟨s0, s1, s2, s3, s4, s5, s6⟩ := (HK.out _ HU.out).1.all
      by_cases hly : v < H
      · have y1 : (v : Int) < (H : Int) := by omega
        have y2 : (0 : Int) ≤ (v : Int) := by omega
        go_wp2
        clear s0 s1 s2 s3 s4 s5 s6
        go_loopw [20] (fun i wr => ∃ u : Nat, u ≤ W ∧ i = .int .i64 u ∧ Hid (Below w25.heap.size w25 wr)) (fun i _ => W - (intOf i).toNat)
        case atStart => exact ⟨0, Nat.zero_le _, rfl, HU⟩
        case round =>
          obtain ⟨u, hu, rfl, HU2⟩ := hrel
          clear HU
          obtain ⟨s0, s1, s2, s3, s4, s5, s6⟩ := (HK.out _ HU2.out).1.all
          by_cases hlx : u < W
          · have y3 : (u : Int) < (W : Int) := by omega
            have y4 : (0 : Int) ≤ (u : Int) := by omega
            have HR3 := Lib.hid (fun z (hb : Below w25.heap.size w25 z) => HR1.out z A3 c3 f u v hlx hly (G3.out z hb))
            have HR5 := Lib.hid (fun z (hb : Below w25.heap.size w25 z) => HR1.out z A5 c5 (flF (Y * W + X) f) u v hlx hly (G5.out z hb))
            have g1 := HS1.out f u v hlx
            have g2 := HS1.out (flF (Y * W + X) f) u v hlx
            have hin := HIN.out u v hlx
            simp only [g1] at HR3
            simp only [g2, HFL.out] at HR5
            clear g1 g2
            by_cases hc : u = X ∧ v = Y
            · obtain ⟨rfl, rfl⟩ := hc
              simp only [HFV.out, if_true] at HR3 HR5
              have HQx := Lib.hid (fun z (hb : Below w25.heap.size w25 z) => HAQ.out z A2 c2 (G2.out z hb))
              obtain ⟨av, hav⟩ : ∃ z, a u = z := ⟨_, rfl⟩
              obtain ⟨bv, hbv⟩ : ∃ z, b v = z := ⟨_, rfl⟩
              simp only [hav, hbv] at HR3 HR5 HQx
              obtain ⟨s, hs⟩ : ∃ z, (av == bv) = z := ⟨_, rfl⟩
              have hs2 : (bv == av) = s := by
                rw [← hs]
                by_cases q : av = bv
                · rw [q]
                · rw [beq_eq_false_iff_ne.2 q, beq_eq_false_iff_ne.2 (Ne.symm q)]
              simp only [hs] at HQx
              have za : ((u : Int) != (u : Int)) = false := by simp
              have zb : ((v : Int) != (v : Int)) = false := by simp
              have zc : ((u : Int) == (u : Int)) = true := by simp
              have zd : ((v : Int) == (v : Int)) = true := by simp
              clear hav hbv hin
              cases fv
              all_goals
                simp only [Bool.not_true, Bool.not_false, if_true, if_false, Bool.false_eq_true] at HR3 HR5
                cases s
                all_goals
                  obtain ⟨t0, t1, t2, t3, t4, t5, t6⟩ := (HK.out _ HU2.out).2.2.1.all
                  obtain ⟨v0, v1, v2, v3, v4, v5, v6⟩ := (HK.out _ HU2.out).2.2.2.all
                  go_upto_region 17 with (fail)
                  go_region_law (first
                    | (go_simp
                       with_reducible refine Calls.mono (HR3.out _ HU2.out.drew) ?_
                       rintro e wa ⟨rfl, hb⟩
                       have HUa := Lib.hid (HU2.out.trans (((Below.refl _ _).drew.trans hb).mono HU2.out.size))
                       obtain ⟨t0, t1, t2, t3, t4, t5, t6⟩ := (HK.out _ HUa.out).2.2.1.all
                       obtain ⟨v0, v1, v2, v3, v4, v5, v6⟩ := (HK.out _ HUa.out).2.2.2.all
                       clear hb)
                    | (go_simp
                       with_reducible refine Calls.mono (HR5.out _ HUa.out) ?_
                       rintro e wb ⟨rfl, hb⟩
                       have HUb := Lib.hid (HUa.out.trans (hb.mono HUa.out.size))
                       clear hb))
                  all_goals
                    clear s0 s1 s2 s3 s4 s5 s6 t0 t1 t2 t3 t4 t5 t6 v0 v1 v2 v3 v4 v5 v6
                    obtain ⟨r0, r1, r2, r3, r4, r5, r6⟩ := (HK.out _ HUb.out).2.1.all
                    go_wp2_with fail
                    with_reducible refine Calls.mono (HQx.out _ HUb.out) ?_
                    rintro e wc ⟨rfl, hb⟩
                    have HUc := Lib.hid (HUb.out.trans (hb.mono HUb.out.size))
                    clear hb r0 r1 r2 r3 r4 r5 r6
                    go_wp2
                    go_roundw
                    case rel => exact ⟨u + 1, by omega, by go_num, HUc⟩
                    case measure => simp [intOf]; omega
            · have hne : ¬ v * W + u = Y * W + X := fun q => hc (hin.1 q)
              simp only [if_neg hne] at HR5
              obtain ⟨pv, hpv⟩ : ∃ z, (if f (v * W + u) = true then a u else b v) = z := ⟨_, rfl⟩
              simp only [hpv] at HR3 HR5
              clear hpv hne hin
              have zp : (pv == pv) = true := by simp
              by_cases hux : u = X
              · have hvy : ¬ v = Y := fun q => hc ⟨hux, q⟩
                subst hux
                have za : ((u : Int) != (u : Int)) = false := by simp
                have zb : ((v : Int) != (Y : Int)) = true := by simp; omega
                have zc : ((u : Int) == (u : Int)) = true := by simp
                have zd : ((v : Int) == (Y : Int)) = false := by simp; omega
                clear hc hvy
                obtain ⟨t0, t1, t2, t3, t4, t5, t6⟩ := (HK.out _ HU2.out).2.2.1.all
                obtain ⟨v0, v1, v2, v3, v4, v5, v6⟩ := (HK.out _ HU2.out).2.2.2.all
                go_upto_region 17 with (fail)
                go_region_law (first
                  | (go_simp
                     with_reducible refine Calls.mono (HR3.out _ HU2.out.drew) ?_
                     rintro e wa ⟨rfl, hb⟩
                     have HUa := Lib.hid (HU2.out.trans (((Below.refl _ _).drew.trans hb).mono HU2.out.size))
                     obtain ⟨t0, t1, t2, t3, t4, t5, t6⟩ := (HK.out _ HUa.out).2.2.1.all
                     obtain ⟨v0, v1, v2, v3, v4, v5, v6⟩ := (HK.out _ HUa.out).2.2.2.all
                     clear hb)
                  | (go_simp
                     with_reducible refine Calls.mono (HR5.out _ HUa.out) ?_
                     rintro e wb ⟨rfl, hb⟩
                     have HUb := Lib.hid (HUa.out.trans (hb.mono HUa.out.size))
                     clear hb))
                all_goals
                  clear s0 s1 s2 s3 s4 s5 s6 t0 t1 t2 t3 t4 t5 t6 v0 v1 v2 v3 v4 v5 v6
                  go_wp2
                  go_roundw
                  case rel => exact ⟨u + 1, by omega, by go_num, HUb⟩
                  case measure => simp [intOf]; omega
              · have za : ((u : Int) != (X : Int)) = true := by simp; omega
                have zc : ((u : Int) == (X : Int)) = false := by simp; omega
                clear hc hux
                obtain ⟨t0, t1, t2, t3, t4, t5, t6⟩ := (HK.out _ HU2.out).2.2.1.all
                obtain ⟨v0, v1, v2, v3, v4, v5, v6⟩ := (HK.out _ HU2.out).2.2.2.all
                go_upto_region 17 with (fail)
                go_region_law (first
                  | (go_simp
                     with_reducible refine Calls.mono (HR3.out _ HU2.out.drew) ?_
                     rintro e wa ⟨rfl, hb⟩
                     have HUa := Lib.hid (HU2.out.trans (((Below.refl _ _).drew.trans hb).mono HU2.out.size))
                     obtain ⟨t0, t1, t2, t3, t4, t5, t6⟩ := (HK.out _ HUa.out).2.2.1.all
                     obtain ⟨v0, v1, v2, v3, v4, v5, v6⟩ := (HK.out _ HUa.out).2.2.2.all
                     clear hb)
                  | (go_simp
                     with_reducible refine Calls.mono (HR5.out _ HUa.out) ?_
                     rintro e wb ⟨rfl, hb⟩
                     have HUb := Lib.hid (HUa.out.trans (hb.mono HUa.out.size))
                     clear hb))
                all_goals
                  clear s0 s1 s2 s3 s4 s5 s6 t0 t1 t2 t3 t4 t5 t6 v0 v1 v2 v3 v4 v5 v6
                  go_wp2
                  go_roundw
                  case rel => exact ⟨u + 1, by omega, by go_num, HUb⟩
                  case measure => simp [intOf]; omega
          · have y3 : ¬ (u : Int) < (W : Int) := by omega
            go_wp2
            go_roundw
            case rel => exact ⟨v + 1, by omega, by go_num, HU2⟩
            case measure => simp [intOf]; omega
      · have y1 : ¬ (v : Int) < (H : Int) := by omega
        go_wp2
        go_ret
        exact ⟨rfl, HL.out _ HU.out⟩
theorem free14_any (W H : Int) (A B C : Option Addr) (n c m d k e : Nat) (f : Nat → Bool) (a b : Nat → Int) (x y : Int) (w : World) (hf : Holds w w.heap.size A n f) (ha : L2.Holds w w.heap.size B m a) (hb1 : L2.Holds w w.heap.size C k b) : Calls Try.prog 9 #[.agg #[.int .i64 W, .int .i64 H, .slice A n c], .slice B m d, .slice C k e, .int .i64 x, .int .i64 y] w fun e w' => e = .returned (.bool true) ∧ Below w.heap.size w w' := by
  by_cases hz : n ≤ 4200 ∧ thE W H n m k a b = 0
  · obtain ⟨P, Q, rfl, rfl, rfl, rfl, rfl, p0, p1, q0, q1, hx, hy⟩ := thE_zero hz.2
    by_cases h0 : x < 0
    · exact free_o0 m k A B C c d e f a b x y w hf ha hb1 p0 p1 q0 q1 hx hy h0
    by_cases h1 : y < 0
    · exact free_o1 m k A B C c d e f a b x y w hf ha hb1 p0 p1 q0 q1 hx hy h0 h1
    by_cases h2 : (m : Int) ≤ x
    · exact free_o2 m k A B C c d e f a b x y w hf ha hb1 p0 p1 q0 q1 hx hy h0 h1 h2
    by_cases h3 : (k : Int) ≤ y
    · exact free_o3 m k A B C c d e f a b x y w hf ha hb1 p0 p1 q0 q1 hx hy h0 h1 h2 h3
    obtain ⟨X, rfl⟩ := Int.eq_ofNat_of_zero_le (show 0 ≤ x by omega)
    obtain ⟨Y, rfl⟩ := Int.eq_ofNat_of_zero_le (show 0 ≤ y by omega)
    exact free_ok m k A B C c d e f a b X Y (by omega) (by omega) w hf ha hb1 p0 p1 q0 q1 hx hy
  · exact free_nf W H A B C n c m d k e f a b x y w hf ha hb1 hz
end Go.Proofs.Ytppepcijpdamhaa
