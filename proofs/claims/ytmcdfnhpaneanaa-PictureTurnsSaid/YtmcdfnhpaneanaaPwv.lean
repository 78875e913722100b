/- Weave of the program. -/
import Derived.Test.YtmcdfnhpaneanaaPce
import Derived.Test.YtmcdfnhpaneanaaGd
namespace Go.Proofs.Ytmcdfnhpaneanaa
open Go.RowKit
set_option maxRecDepth 100000
set_option linter.unusedVariables false
set_option linter.unusedSimpArgs false

theorem and_ok (W H : Nat) (A D : Option Addr) (c d : Nat) (f g : Nat → Bool) (w : World) (hr : Holds w w.heap.size A (W * H) f) (hs : Holds w w.heap.size D (W * H) g) (hW0 : 1 ≤ W) (hW : W ≤ 64) (hH0 : 1 ≤ H) (hH : H ≤ 64) :
    Calls Try.prog 48 #[.agg #[.int .i64 W, .int .i64 H, .slice A (W * H) c], .agg #[.int .i64 W, .int .i64 H, .slice D (W * H) d]] w (OkGrid w W H fun i => (f i && g i)) :=
  and_of_ok W H W H A D (W * H) (W * H) c d w W H _ fun w' hb => comb_and_ok W H A D c d f g w' ((hr.below hb).more hb.size) ((hs.below hb).more hb.size) hW0 hW hH0 hH
theorem or_ok (W H : Nat) (A D : Option Addr) (c d : Nat) (f g : Nat → Bool) (w : World) (hr : Holds w w.heap.size A (W * H) f) (hs : Holds w w.heap.size D (W * H) g) (hW0 : 1 ≤ W) (hW : W ≤ 64) (hH0 : 1 ≤ H) (hH : H ≤ 64) :
    Calls Try.prog 49 #[.agg #[.int .i64 W, .int .i64 H, .slice A (W * H) c], .agg #[.int .i64 W, .int .i64 H, .slice D (W * H) d]] w (OkGrid w W H fun i => (f i || g i)) :=
  or_of_ok W H W H A D (W * H) (W * H) c d w W H _ fun w' hb => comb_or_ok W H A D c d f g w' ((hr.below hb).more hb.size) ((hs.below hb).more hb.size) hW0 hW hH0 hH
/-- No grid came back, as the error is z. -/
def WvE (w : World) (z : Int) (e : Ending) (w' : World) : Prop := e = .returned (.tuple #[.agg #[.int .i64 0, .int .i64 0, .slice none 0 0], .int .i64 z]) ∧ Below w.heap.size w w'
set_option maxHeartbeats 800000 in
theorem weave_err (X Y : Int) (D : Option Addr) (N g : Nat) (W H : Int) (A B C : Option Addr) (n c m d k e : Nat) (f a b : Nat → Int) (w : World) (hf : L2.Holds w w.heap.size A n f) (ha : L2.Holds w w.heap.size B m a) (hb1 : L2.Holds w w.heap.size C k b) (hN : N ≤ 4200) {z : Int} (hz : pwE X Y N W H (pcE W H n m k f a b) = z) (hne : z ≠ 0) :
    Calls Try.prog 16 #[.agg #[.int .i64 W, .int .i64 H, .slice A n c], .slice B m d, .slice C k e, .agg #[.int .i64 X, .int .i64 Y, .slice D N g]] w (WvE w z) := by
  have HC := Lib.hid (fun u (hb : Below w.heap.size w u) => checkw_any X Y D N g W H A B C n c m d k e f a b u ((hf.below hb).more hb.size) ((ha.below hb).more hb.size) ((hb1.below hb).more hb.size) hN)
  rw [hz] at HC
  have y1 : (z != 0) = true := by simp [hne]
  clear hf ha hb1 hz hne
  have LB0 := Lib.hid (Below.refl w.heap.size w)
  have X1 := IBox.new w W H (.slice A n c)
  have X1 := Lib.hid X1
  have LB0 := Lib.hid (LB0.out.alloc LB0.out.size (.cells #[.int .i64 W, .int .i64 H, .slice A n c] 24))
  have X1 := Lib.hid (X1.out.alloc (.cells #[.int .i64 X, .int .i64 Y, .slice D N g] 27))
  have X2 := Box.new (w.alloc (.cells #[.int .i64 W, .int .i64 H, .slice A n c] 24)) X Y (.slice D N g)
  rw [show ((w.alloc (.cells #[.int .i64 W, .int .i64 H, .slice A n c] 24))).heap.size = w.heap.size + 1 by simp] at X2
  have X2 := Lib.hid X2
  have LB0 := Lib.hid (LB0.out.alloc LB0.out.size (.cells #[.int .i64 X, .int .i64 Y, .slice D N g] 27))
  have X1 := Lib.hid (X1.out.alloc (.cells #[.int .i64 0, .int .i64 0, .slice none 0 0] 27))
  have X2 := Lib.hid (X2.out.alloc (.cells #[.int .i64 0, .int .i64 0, .slice none 0 0] 27))
  have R1 := Box.new ((w.alloc (.cells #[.int .i64 W, .int .i64 H, .slice A n c] 24)).alloc (.cells #[.int .i64 X, .int .i64 Y, .slice D N g] 27)) 0 0 (.slice none 0 0)
  rw [show (((w.alloc (.cells #[.int .i64 W, .int .i64 H, .slice A n c] 24)).alloc (.cells #[.int .i64 X, .int .i64 Y, .slice D N g] 27))).heap.size = w.heap.size + 2 by simp] at R1
  have R1 := Lib.hid R1
  have LB0 := Lib.hid (LB0.out.alloc LB0.out.size (.cells #[.int .i64 0, .int .i64 0, .slice none 0 0] 27))
  go_enter Try.func16, Try.ntmps16
  go_upto_region 1 with (fail)
  generalize ((w.alloc (.cells #[.int .i64 W, .int .i64 H, .slice A n c] 24)).alloc (.cells #[.int .i64 X, .int .i64 Y, .slice D N g] 27)).alloc (.cells #[.int .i64 0, .int .i64 0, .slice none 0 0] 27) = w0 at *
  obtain ⟨rr, hrr⟩ : ∃ z, w.heap.size + 2 = z := ⟨_, rfl⟩
  have hwr : w.heap.size ≤ rr := by omega
  try rw [show w.heap.size + 1 + 1 = w.heap.size + 2 from rfl]
  rw [hrr] at R1 ⊢
  clear hrr
  obtain ⟨p0, p1, p2, p3, p4, p5, p6⟩ := X2.out.all
  obtain ⟨q0, q1, q2, q3, q4, q5, q6⟩ := X1.out.all
  go_wp2_with fail
  clear q0 q1 q2 q3 q4 q5 q6
  with_reducible refine Calls.mono (HC.out _ LB0.out) ?_
  rintro e w1 ⟨rfl, hb⟩
  have LB1 := Lib.hid (LB0.out.trans (hb.mono LB0.out.size))
  have X1 := Lib.hid (X1.out.below hb X1.out.lt)
  have X2 := Lib.hid (X2.out.below hb X2.out.lt)
  have R1 := Lib.hid (R1.out.below hb R1.out.lt)
  clear hb LB0 
  clear p0 p1 p2 p3 p4 p5 p6
  obtain ⟨r10, r11, r12, r13, r14, r15, r16⟩ := R1.out.all
  go_wp2
  have P1 := R1.out.st3 0 0 (.slice none 0 0)
  have PL := bel_st3 LB1.out (g := rr) hwr (.int .i64 0) (.int .i64 0) (.slice none 0 0)
  generalize (((w1.setCell ⟨rr, 0, none⟩ (.int .i64 0)).setCell ⟨rr, 1, none⟩ (.int .i64 0)).setCell ⟨rr, 2, none⟩ (.slice none 0 0)) = wz at *
  obtain ⟨s0, s1, s2, s3, s4, s5, s6⟩ := P1.all
  refine bodyPost_ret (v := .tuple #[.agg #[.int .i64 0, .int .i64 0, .slice none 0 0], .int .i64 z]) (by simp [results, Try.results16, go_sem, s0, s1, s2]) rfl ?_
  exact ⟨rfl, PL⟩
/-- What Weave hands back. -/
def WevR (W H : Nat) (f a b : Nat → Int) (s : Nat → Bool) (w : World) (e : Ending) (w' : World) : Prop :=
  (∃ A1 c1, e = .returned (.tuple #[.agg #[.int .i64 (W : Nat), .int .i64 (H : Nat), .slice A1 (W * H) c1], .int .i64 0]) ∧ AllF W (W * H) f a b ∧ Holds w' w'.heap.size A1 (W * H) (fun i => upF W f a b i || (opF W f a b i && s i)) ∧ Below w.heap.size w w') ∨
  (e = .returned (.tuple #[.agg #[.int .i64 0, .int .i64 0, .slice none 0 0], .int .i64 6]) ∧ ¬ AllF W (W * H) f a b ∧ Below w.heap.size w w')
set_option maxHeartbeats 3200000 in
theorem weave_ok (D : Option Addr) (g : Nat) (s : Nat → Bool) (W H : Nat) (A B C : Option Addr) (c d e : Nat) (f a b : Nat → Int) (w : World) (hf : L2.Holds w w.heap.size A (W * H) f) (ha : L2.Holds w w.heap.size B W a) (hb1 : L2.Holds w w.heap.size C H b) (W0 : 1 ≤ W) (W1 : W ≤ 64) (H0 : 1 ≤ H) (H1 : H ≤ 64) (h1 : fine (W * H) f = true) (h2 : fine W a = true) (h3 : fine H b = true) (hg : Holds w w.heap.size D (W * H) s) :
    Calls Try.prog 16 #[.agg #[.int .i64 (W : Nat), .int .i64 (H : Nat), .slice A (W * H) c], .slice B W d, .slice C H e, .agg #[.int .i64 (W : Nat), .int .i64 (H : Nat), .slice D (W * H) g]] w (WevR W H f a b s w) := by
  have hM : W * H ≤ 4096 := Nat.mul_le_mul W1 H1
  have HC := Lib.hid (fun u (hb : Below w.heap.size w u) => checkw_any (W : Nat) (H : Nat) D (W * H) g (W : Nat) (H : Nat) A B C (W * H) c W d H e f a b u ((hf.below hb).more hb.size) ((ha.below hb).more hb.size) ((hb1.below hb).more hb.size) (by omega))
  rw [pcE_ok (m := 0) (k := 0) W0 W1 H0 H1 h1 h2 h3, pwE_ok (chk_zero W0 W1 H0 H1) ⟨rfl, rfl⟩] at HC
  have HS := Lib.hid (fun u (hb : Below w.heap.size w u) => split_any W H A B C c d e f a b u ((hf.below hb).more hb.size) ((ha.below hb).more hb.size) ((hb1.below hb).more hb.size) W0 W1 H0 H1)
  have HAN := Lib.hid (fun u A2 c2 F (hb : Below w.heap.size w u) (h : Holds u u.heap.size A2 (W * H) F) => and_ok W H A2 D c2 g F s u h ((hg.below hb).more hb.size) W0 W1 H0 H1)
  have HOR := Lib.hid (fun u A1 c1 A2 c2 F G (h : Holds u u.heap.size A1 (W * H) F) (h' : Holds u u.heap.size A2 (W * H) G) => or_ok W H A1 A2 c1 c2 F G u h h' W0 W1 H0 H1)
  have z0 : ((0 : Int) != 0) = false := rfl
  have z6 : ((6 : Int) != 0) = true := rfl
  clear hf ha hb1 h1 h2 h3 hg
  unfold SplR at HS
  unfold WevR
  unfold OkGrid at HAN HOR
  obtain ⟨M, hMe⟩ : ∃ M, W * H = M := ⟨_, rfl⟩
  rw [hMe] at hM ⊢
  simp only [hMe] at HC HS HAN HOR
  clear hMe
  have LB0 := Lib.hid (Below.refl w.heap.size w)
  have X1 := IBox.new w (W : Nat) (H : Nat) (.slice A M c)
  have X1 := Lib.hid X1
  have LB0 := Lib.hid (LB0.out.alloc LB0.out.size (.cells #[.int .i64 (W : Nat), .int .i64 (H : Nat), .slice A M c] 24))
  have X1 := Lib.hid (X1.out.alloc (.cells #[.int .i64 (W : Nat), .int .i64 (H : Nat), .slice D M g] 27))
  have X2 := Box.new (w.alloc (.cells #[.int .i64 (W : Nat), .int .i64 (H : Nat), .slice A M c] 24)) (W : Nat) (H : Nat) (.slice D M g)
  rw [show ((w.alloc (.cells #[.int .i64 (W : Nat), .int .i64 (H : Nat), .slice A M c] 24))).heap.size = w.heap.size + 1 by simp] at X2
  have X2 := Lib.hid X2
  have LB0 := Lib.hid (LB0.out.alloc LB0.out.size (.cells #[.int .i64 (W : Nat), .int .i64 (H : Nat), .slice D M g] 27))
  have X1 := Lib.hid (X1.out.alloc (.cells #[.int .i64 0, .int .i64 0, .slice none 0 0] 27))
  have X2 := Lib.hid (X2.out.alloc (.cells #[.int .i64 0, .int .i64 0, .slice none 0 0] 27))
  have R1 := Box.new ((w.alloc (.cells #[.int .i64 (W : Nat), .int .i64 (H : Nat), .slice A M c] 24)).alloc (.cells #[.int .i64 (W : Nat), .int .i64 (H : Nat), .slice D M g] 27)) 0 0 (.slice none 0 0)
  rw [show (((w.alloc (.cells #[.int .i64 (W : Nat), .int .i64 (H : Nat), .slice A M c] 24)).alloc (.cells #[.int .i64 (W : Nat), .int .i64 (H : Nat), .slice D M g] 27))).heap.size = w.heap.size + 2 by simp] at R1
  have R1 := Lib.hid R1
  have LB0 := Lib.hid (LB0.out.alloc LB0.out.size (.cells #[.int .i64 0, .int .i64 0, .slice none 0 0] 27))
  go_enter Try.func16, Try.ntmps16
  go_upto_region 1 with (fail)
  generalize ((w.alloc (.cells #[.int .i64 (W : Nat), .int .i64 (H : Nat), .slice A M c] 24)).alloc (.cells #[.int .i64 (W : Nat), .int .i64 (H : Nat), .slice D M g] 27)).alloc (.cells #[.int .i64 0, .int .i64 0, .slice none 0 0] 27) = w0 at *
  obtain ⟨rr, hrr⟩ : ∃ z, w.heap.size + 2 = z := ⟨_, rfl⟩
  have hwr : w.heap.size ≤ rr := by omega
  try rw [show w.heap.size + 1 + 1 = w.heap.size + 2 from rfl]
  rw [hrr] at R1 ⊢
  clear hrr
  obtain ⟨p0, p1, p2, p3, p4, p5, p6⟩ := X2.out.all
  obtain ⟨q0, q1, q2, q3, q4, q5, q6⟩ := X1.out.all
  go_wp2_with fail
  clear q0 q1 q2 q3 q4 q5 q6
  with_reducible refine Calls.mono (HC.out _ LB0.out) ?_
  rintro e w1 ⟨rfl, hb⟩
  have LB1 := Lib.hid (LB0.out.trans (hb.mono LB0.out.size))
  have X1 := Lib.hid (X1.out.below hb X1.out.lt)
  have X2 := Lib.hid (X2.out.below hb X2.out.lt)
  have R1 := Lib.hid (R1.out.below hb R1.out.lt)
  clear hb LB0 
  clear p0 p1 p2 p3 p4 p5 p6
  obtain ⟨q0, q1, q2, q3, q4, q5, q6⟩ := X1.out.all
  go_wp2_with fail
  clear q0 q1 q2 q3 q4 q5 q6
  with_reducible refine Calls.mono (HS.out _ LB1.out) ?_
  rintro e w2 (⟨A1, c1, A2, c2, rfl, hok, hh1, hh2, hb⟩ | ⟨rfl, hno, hb⟩)
  case inr =>
    have HNO := Lib.hid hno
    have LB2 := Lib.hid (LB1.out.trans (hb.mono LB1.out.size))
    have X1 := Lib.hid (X1.out.below hb X1.out.lt)
    have R1 := Lib.hid (R1.out.below hb R1.out.lt)
    clear hb hno
    have O1 := Lib.hid (((R1.out.alloc (.cells #[.int .i64 0, .int .i64 0, .slice none 0 0] 27)).alloc (.cells #[.int .i64 0, .int .i64 0, .slice none 0 0] 27)))
    have OB := Lib.hid ((LB2.out.alloc LB2.out.size (.cells #[.int .i64 0, .int .i64 0, .slice none 0 0] 27)).alloc (by have := LB2.out.size; simp; omega) (.cells #[.int .i64 0, .int .i64 0, .slice none 0 0] 27))
    go_upto_region 5 with (fail)
    generalize (w2.alloc (.cells #[.int .i64 0, .int .i64 0, .slice none 0 0] 27)).alloc (.cells #[.int .i64 0, .int .i64 0, .slice none 0 0] 27) = w3 at *
    have LB3 := OB
    have R1 := O1
    obtain ⟨r10, r11, r12, r13, r14, r15, r16⟩ := R1.out.all
    go_wp2
    have P1 := R1.out.st3 0 0 (.slice none 0 0)
    have PL := bel_st3 LB3.out (g := rr) hwr (.int .i64 0) (.int .i64 0) (.slice none 0 0)
    generalize (((w3.setCell ⟨rr, 0, none⟩ (.int .i64 0)).setCell ⟨rr, 1, none⟩ (.int .i64 0)).setCell ⟨rr, 2, none⟩ (.slice none 0 0)) = wz at *
    obtain ⟨s0, s1, s2, s3, s4, s5, s6⟩ := P1.all
    refine bodyPost_ret (v := .tuple #[.agg #[.int .i64 0, .int .i64 0, .slice none 0 0], .int .i64 6]) (by simp [results, Try.results16, go_sem, s0, s1, s2]) rfl ?_
    exact .inr ⟨rfl, HNO.out, PL⟩
  case inl =>
    have HOK := Lib.hid hok
    have H1x := Lib.hid hh1
    have H2x := Lib.hid hh2
    have LB2 := Lib.hid (LB1.out.trans (hb.mono LB1.out.size))
    have X2 := Lib.hid (X2.out.below hb X2.out.lt)
    have R1 := Lib.hid (R1.out.below hb R1.out.lt)
    clear hb hok hh1 hh2 X1 LB0 LB1
    have hb := (((Below.refl w2.heap.size w2).alloc (by simp; try omega) (.cells #[.int .i64 (W : Nat), .int .i64 (H : Nat), .slice A1 M c1] 27)).alloc (by simp; try omega) (.cells #[.int .i64 (W : Nat), .int .i64 (H : Nat), .slice A2 M c2] 27))
    have LB3 := Lib.hid (LB2.out.trans (hb.mono LB2.out.size))
    have X2 := Lib.hid (X2.out.below hb X2.out.lt)
    have R1 := Lib.hid (R1.out.below hb R1.out.lt)
    have H1x := Lib.hid ((H1x.out.below hb).more hb.size)
    have H2x := Lib.hid ((H2x.out.below hb).more hb.size)
    have U1 := Box.new w2 (W : Nat) (H : Nat) (.slice A1 M c1)
    have U1 := Lib.hid U1
    have U1 := Lib.hid (U1.out.alloc (.cells #[.int .i64 (W : Nat), .int .i64 (H : Nat), .slice A2 M c2] 27))
    have U2 := Box.new (w2.alloc (.cells #[.int .i64 (W : Nat), .int .i64 (H : Nat), .slice A1 M c1] 27)) (W : Nat) (H : Nat) (.slice A2 M c2)
    rw [show (w2.alloc (.cells #[.int .i64 (W : Nat), .int .i64 (H : Nat), .slice A1 M c1] 27)).heap.size = w2.heap.size + 1 by simp] at U2
    have U2 := Lib.hid U2
    clear hb LB2
    go_upto_region 5 with (fail)
    obtain ⟨u2b, hu2b⟩ : ∃ z, w2.heap.size + 1 = z := ⟨_, rfl⟩
    rw [hu2b] at U2
    try rw [hu2b]
    obtain ⟨u1b, hu1b⟩ : ∃ z, w2.heap.size = z := ⟨_, rfl⟩
    rw [hu1b] at U1
    try rw [hu1b]
    clear hu1b hu2b
    generalize (w2.alloc (.cells #[.int .i64 (W : Nat), .int .i64 (H : Nat), .slice A1 M c1] 27)).alloc (.cells #[.int .i64 (W : Nat), .int .i64 (H : Nat), .slice A2 M c2] 27) = w3 at *
    obtain ⟨p0, p1, p2, p3, p4, p5, p6⟩ := X2.out.all
    obtain ⟨q0, q1, q2, q3, q4, q5, q6⟩ := U2.out.all
    go_wp2_with fail
    clear q0 q1 q2 q3 q4 q5 q6
    with_reducible refine Calls.mono (HAN.out _ _ _ _ LB3.out H2x.out) ?_
    rintro e w4 ⟨k3, rfl, hk3, hrow, hb⟩
    have LB4 := Lib.hid (LB3.out.trans (hb.mono LB3.out.size))
    have X2 := Lib.hid (X2.out.below hb X2.out.lt)
    have R1 := Lib.hid (R1.out.below hb R1.out.lt)
    have H1x := Lib.hid ((H1x.out.below hb).more hb.size)
    have H2x := Lib.hid ((H2x.out.below hb).more hb.size)
    have U1 := Lib.hid (U1.out.below hb U1.out.lt)
    have U2 := Lib.hid (U2.out.below hb U2.out.lt)
    have RW := Lib.hid hrow
    clear hb LB3 hrow
    clear p0 p1 p2 p3 p4 p5 p6 hk3
    have hb := ((Below.refl w4.heap.size w4).alloc (by simp; try omega) (.cells #[.int .i64 (W : Nat), .int .i64 (H : Nat), .slice (some ⟨k3, 0, none⟩) M M] 27))
    have LB5 := Lib.hid (LB4.out.trans (hb.mono LB4.out.size))
    have X2 := Lib.hid (X2.out.below hb X2.out.lt)
    have R1 := Lib.hid (R1.out.below hb R1.out.lt)
    have H1x := Lib.hid ((H1x.out.below hb).more hb.size)
    have H2x := Lib.hid ((H2x.out.below hb).more hb.size)
    have U1 := Lib.hid (U1.out.below hb U1.out.lt)
    have U2 := Lib.hid (U2.out.below hb U2.out.lt)
    have RW := Lib.hid (RW.out.below hb RW.out.lt)
    have U3 := Box.new w4 (W : Nat) (H : Nat) (.slice (some ⟨k3, 0, none⟩) M M)
    have U3 := Lib.hid U3
    clear hb LB4
    go_upto_region 8 with (fail)
    obtain ⟨u3b, hu3b⟩ : ∃ z, w4.heap.size = z := ⟨_, rfl⟩
    rw [hu3b] at U3
    try rw [hu3b]
    clear hu3b
    generalize w4.alloc (.cells #[.int .i64 (W : Nat), .int .i64 (H : Nat), .slice (some ⟨k3, 0, none⟩) M M] 27) = w5 at *
    obtain ⟨p0, p1, p2, p3, p4, p5, p6⟩ := U3.out.all
    obtain ⟨q0, q1, q2, q3, q4, q5, q6⟩ := U1.out.all
    go_wp2_with fail
    clear q0 q1 q2 q3 q4 q5 q6
    have hrl5 := R1.out.lt
    with_reducible refine Calls.mono (HOR.out _ _ _ _ _ _ _ H1x.out (RW.out.holds RW.out.lt)) ?_
    rintro e w6 ⟨k4, rfl, hk4, hrow, hb⟩
    have LB6 := Lib.hid (LB5.out.trans (hb.mono LB5.out.size))
    have X2 := Lib.hid (X2.out.below hb X2.out.lt)
    have R1 := Lib.hid (R1.out.below hb R1.out.lt)
    have H1x := Lib.hid ((H1x.out.below hb).more hb.size)
    have H2x := Lib.hid ((H2x.out.below hb).more hb.size)
    have U1 := Lib.hid (U1.out.below hb U1.out.lt)
    have U2 := Lib.hid (U2.out.below hb U2.out.lt)
    have RW := Lib.hid (RW.out.below hb RW.out.lt)
    have U3 := Lib.hid (U3.out.below hb U3.out.lt)
    have RZ := Lib.hid hrow
    clear hb LB5 hrow
    clear p0 p1 p2 p3 p4 p5 p6
    have hk5 : k4 ≠ rr := by have := R1.out.lt; have h2 : rr < w5.heap.size := hrl5; omega
    obtain ⟨r10, r11, r12, r13, r14, r15, r16⟩ := R1.out.all
    go_wp2
    have P1 := R1.out.st3 (W : Nat) (H : Nat) (.slice (some ⟨k4, 0, none⟩) M M)
    have PL := bel_st3 LB6.out (g := rr) hwr (.int .i64 (W : Nat)) (.int .i64 (H : Nat)) (.slice (some ⟨k4, 0, none⟩) M M)
    have PR := RZ.out.st3 hk5 (.int .i64 (W : Nat)) (.int .i64 (H : Nat)) (.slice (some ⟨k4, 0, none⟩) M M)
    generalize (((w6.setCell ⟨rr, 0, none⟩ (.int .i64 (W : Nat))).setCell ⟨rr, 1, none⟩ (.int .i64 (H : Nat))).setCell ⟨rr, 2, none⟩ (.slice (some ⟨k4, 0, none⟩) M M)) = wz at *
    obtain ⟨s0, s1, s2, s3, s4, s5, s6⟩ := P1.all
    refine bodyPost_ret (v := .tuple #[.agg #[.int .i64 (W : Nat), .int .i64 (H : Nat), .slice (some ⟨k4, 0, none⟩) M M], .int .i64 0]) (by simp [results, Try.results16, go_sem, s0, s1, s2]) rfl ?_
    exact .inl ⟨_, _, rfl, HOK.out, PR.holds PR.lt, PL⟩
end Go.Proofs.Ytmcdfnhpaneanaa
