/- Cells, Weave, Shows of the program. -/
import Derived.Test.YtmcdfnhpaneanaaPsp
import Derived.Test.YtmcdfnhpaneanaaCsm
namespace Go.Proofs.Ytmcdfnhpaneanaa
open Go.RowKit
set_option maxRecDepth 100000
set_option linter.unusedVariables false
set_option linter.unusedSimpArgs false

theorem holds_ne_box {w : World} {B g n k e : Nat} {A D : Option Addr} {f : Nat → Bool} {W H : Int} (h : Holds w B A n f) (hx : Box w g W H (.slice D k e)) : 0 < n → ∀ b o, A = some ⟨b, o, none⟩ → b ≠ g := fun hn b o hA hb => by
  obtain ⟨b', o', e1, _, hc⟩ := h hn
  rw [hA] at e1
  cases e1
  subst hb
  have h0 := hc 0 hn
  rw [Lib.cell_of_heap hx] at h0
  match o, h0 with
  | 0, h0 => simp at h0
  | 1, h0 => simp at h0
  | 2, h0 => simp at h0
  | n + 3, h0 => simp at h0
/-- Two grids and an error came back: none, as the error is z. -/
def CelE (w : World) (z : Int) (e : Ending) (w' : World) : Prop := e = .returned (.tuple #[.agg #[.int .i64 0, .int .i64 0, .slice none 0 0], .agg #[.int .i64 0, .int .i64 0, .slice none 0 0], .int .i64 z]) ∧ Below w.heap.size w w'
set_option maxHeartbeats 800000 in
theorem cells_err (W H : Int) (A B C : Option Addr) (n c m d k e : Nat) (f a b : Nat → Int) (w : World) (hf : L2.Holds w w.heap.size A n f) (ha : L2.Holds w w.heap.size B m a) (hb1 : L2.Holds w w.heap.size C k b) {z : Int} (hz : pcE W H n m k f a b = z) (hne : z ≠ 0) :
    Calls Try.prog 14 #[.agg #[.int .i64 W, .int .i64 H, .slice A n c], .slice B m d, .slice C k e] w (CelE w z) := by
  have HC := Lib.hid (fun u (hb : Below w.heap.size w u) => check_any W H A B C n c m d k e f a b u ((hf.below hb).more hb.size) ((ha.below hb).more hb.size) ((hb1.below hb).more hb.size))
  rw [hz] at HC
  have y1 : (z != 0) = true := by simp [hne]
  clear hf ha hb1 hz hne
  have LB0 := Lib.hid (Below.refl w.heap.size w)
  have X1 := IBox.new w W H (.slice A n c)
  have X1 := Lib.hid X1
  have LB0 := Lib.hid (LB0.out.alloc LB0.out.size (.cells #[.int .i64 W, .int .i64 H, .slice A n c] 24))
  have X1 := Lib.hid (X1.out.alloc (.cells #[.int .i64 0, .int .i64 0, .slice none 0 0] 27))
  have R1 := Box.new (w.alloc (.cells #[.int .i64 W, .int .i64 H, .slice A n c] 24)) 0 0 (.slice none 0 0)
  rw [show ((w.alloc (.cells #[.int .i64 W, .int .i64 H, .slice A n c] 24))).heap.size = w.heap.size + 1 by simp] at R1
  have R1 := Lib.hid R1
  have LB0 := Lib.hid (LB0.out.alloc LB0.out.size (.cells #[.int .i64 0, .int .i64 0, .slice none 0 0] 27))
  have X1 := Lib.hid (X1.out.alloc (.cells #[.int .i64 0, .int .i64 0, .slice none 0 0] 27))
  have R1 := Lib.hid (R1.out.alloc (.cells #[.int .i64 0, .int .i64 0, .slice none 0 0] 27))
  have R2 := Box.new ((w.alloc (.cells #[.int .i64 W, .int .i64 H, .slice A n c] 24)).alloc (.cells #[.int .i64 0, .int .i64 0, .slice none 0 0] 27)) 0 0 (.slice none 0 0)
  rw [show (((w.alloc (.cells #[.int .i64 W, .int .i64 H, .slice A n c] 24)).alloc (.cells #[.int .i64 0, .int .i64 0, .slice none 0 0] 27))).heap.size = w.heap.size + 2 by simp] at R2
  have R2 := Lib.hid R2
  have LB0 := Lib.hid (LB0.out.alloc LB0.out.size (.cells #[.int .i64 0, .int .i64 0, .slice none 0 0] 27))
  go_enter Try.func14, Try.ntmps14
  go_upto_region 1 with (fail)
  generalize ((w.alloc (.cells #[.int .i64 W, .int .i64 H, .slice A n c] 24)).alloc (.cells #[.int .i64 0, .int .i64 0, .slice none 0 0] 27)).alloc (.cells #[.int .i64 0, .int .i64 0, .slice none 0 0] 27) = w0 at *
  obtain ⟨r2, hr2⟩ : ∃ z, w.heap.size + 2 = z := ⟨_, rfl⟩
  have hw2 : w.heap.size + 2 = r2 := hr2
  try rw [show w.heap.size + 1 + 1 = w.heap.size + 2 from rfl]
  rw [hr2] at R2 ⊢
  clear hr2
  obtain ⟨r1, hr1⟩ : ∃ z, w.heap.size + 1 = z := ⟨_, rfl⟩
  have hw1 : w.heap.size + 1 = r1 := hr1
  rw [hr1] at R1 ⊢
  clear hr1
  have n21 : r2 ≠ r1 := by omega
  have n12' : r1 ≠ r2 := by omega
  have HSK := Lib.hid (show w.heap.size ≤ r1 ∧ w.heap.size ≤ r2 from by omega)
  clear hw1 hw2
  obtain ⟨q0, q1, q2, q3, q4, q5, q6⟩ := X1.out.all
  go_wp2_with fail
  clear q0 q1 q2 q3 q4 q5 q6
  with_reducible refine Calls.mono (HC.out _ LB0.out) ?_
  rintro e w1 ⟨rfl, hb⟩
  have LB1 := Lib.hid (LB0.out.trans (hb.mono LB0.out.size))
  have X1 := Lib.hid (X1.out.below hb X1.out.lt)
  have R1 := Lib.hid (R1.out.below hb R1.out.lt)
  have R2 := Lib.hid (R2.out.below hb R2.out.lt)
  clear hb LB0 
  obtain ⟨r10, r11, r12, r13, r14, r15, r16⟩ := R1.out.all
  obtain ⟨r20, r21, r22, r23, r24, r25, r26⟩ := R2.out.all
  go_wp2
  have P1 := (R1.out.st3 0 0 (.slice none 0 0)).st3f n12' (.int .i64 0) (.int .i64 0) (.slice none 0 0)
  have P2 := (R2.out.st3f n21 (.int .i64 0) (.int .i64 0) (.slice none 0 0)).st3 0 0 (.slice none 0 0)
  have PL := bel_st3 (bel_st3 LB1.out (g := r1) HSK.out.1 (.int .i64 0) (.int .i64 0) (.slice none 0 0)) (g := r2) HSK.out.2 (.int .i64 0) (.int .i64 0) (.slice none 0 0)
  generalize ((((((w1.setCell ⟨r1, 0, none⟩ (.int .i64 0)).setCell ⟨r1, 1, none⟩ (.int .i64 0)).setCell ⟨r1, 2, none⟩ (.slice none 0 0)).setCell ⟨r2, 0, none⟩ (.int .i64 0)).setCell ⟨r2, 1, none⟩ (.int .i64 0)).setCell ⟨r2, 2, none⟩ (.slice none 0 0)) = wz at *
  obtain ⟨s0, s1, s2, s3, s4, s5, s6⟩ := P1.all
  obtain ⟨t0, t1, t2, t3, t4, t5, t6⟩ := P2.all
  refine bodyPost_ret (v := .tuple #[.agg #[.int .i64 0, .int .i64 0, .slice none 0 0], .agg #[.int .i64 0, .int .i64 0, .slice none 0 0], .int .i64 z]) (by simp [results, Try.results14, go_sem, s0, s1, s2, t0, t1, t2]) rfl ?_
  exact ⟨rfl, PL⟩
set_option maxHeartbeats 1600000 in
theorem cells_ok (W H : Nat) (A B C : Option Addr) (c d e : Nat) (f a b : Nat → Int) (w : World) (hf : L2.Holds w w.heap.size A (W * H) f) (ha : L2.Holds w w.heap.size B W a) (hb1 : L2.Holds w w.heap.size C H b) (W0 : 1 ≤ W) (W1 : W ≤ 64) (H0 : 1 ≤ H) (H1 : H ≤ 64) (h1 : fine (W * H) f = true) (h2 : fine W a = true) (h3 : fine H b = true) :
    Calls Try.prog 14 #[.agg #[.int .i64 (W : Nat), .int .i64 (H : Nat), .slice A (W * H) c], .slice B W d, .slice C H e] w (SplR W H f a b w) := by
  have HC := Lib.hid (fun u (hb : Below w.heap.size w u) => check_any (W : Nat) (H : Nat) A B C (W * H) c W d H e f a b u ((hf.below hb).more hb.size) ((ha.below hb).more hb.size) ((hb1.below hb).more hb.size))
  rw [pcE_ok (m := 0) (k := 0) W0 W1 H0 H1 h1 h2 h3] at HC
  have HS := Lib.hid (fun u (hb : Below w.heap.size w u) => split_any W H A B C c d e f a b u ((hf.below hb).more hb.size) ((ha.below hb).more hb.size) ((hb1.below hb).more hb.size) W0 W1 H0 H1)
  have z0 : ((0 : Int) != 0) = false := rfl
  clear hf ha hb1 h1 h2 h3
  unfold SplR at HS ⊢
  obtain ⟨M, hMe⟩ : ∃ M, W * H = M := ⟨_, rfl⟩
  rw [hMe] at HC HS ⊢
  clear hMe
  have LB0 := Lib.hid (Below.refl w.heap.size w)
  have X1 := IBox.new w (W : Nat) (H : Nat) (.slice A M c)
  have X1 := Lib.hid X1
  have LB0 := Lib.hid (LB0.out.alloc LB0.out.size (.cells #[.int .i64 (W : Nat), .int .i64 (H : Nat), .slice A M c] 24))
  have X1 := Lib.hid (X1.out.alloc (.cells #[.int .i64 0, .int .i64 0, .slice none 0 0] 27))
  have R1 := Box.new (w.alloc (.cells #[.int .i64 (W : Nat), .int .i64 (H : Nat), .slice A M c] 24)) 0 0 (.slice none 0 0)
  rw [show ((w.alloc (.cells #[.int .i64 (W : Nat), .int .i64 (H : Nat), .slice A M c] 24))).heap.size = w.heap.size + 1 by simp] at R1
  have R1 := Lib.hid R1
  have LB0 := Lib.hid (LB0.out.alloc LB0.out.size (.cells #[.int .i64 0, .int .i64 0, .slice none 0 0] 27))
  have X1 := Lib.hid (X1.out.alloc (.cells #[.int .i64 0, .int .i64 0, .slice none 0 0] 27))
  have R1 := Lib.hid (R1.out.alloc (.cells #[.int .i64 0, .int .i64 0, .slice none 0 0] 27))
  have R2 := Box.new ((w.alloc (.cells #[.int .i64 (W : Nat), .int .i64 (H : Nat), .slice A M c] 24)).alloc (.cells #[.int .i64 0, .int .i64 0, .slice none 0 0] 27)) 0 0 (.slice none 0 0)
  rw [show (((w.alloc (.cells #[.int .i64 (W : Nat), .int .i64 (H : Nat), .slice A M c] 24)).alloc (.cells #[.int .i64 0, .int .i64 0, .slice none 0 0] 27))).heap.size = w.heap.size + 2 by simp] at R2
  have R2 := Lib.hid R2
  have LB0 := Lib.hid (LB0.out.alloc LB0.out.size (.cells #[.int .i64 0, .int .i64 0, .slice none 0 0] 27))
  go_enter Try.func14, Try.ntmps14
  go_upto_region 1 with (fail)
  generalize ((w.alloc (.cells #[.int .i64 (W : Nat), .int .i64 (H : Nat), .slice A M c] 24)).alloc (.cells #[.int .i64 0, .int .i64 0, .slice none 0 0] 27)).alloc (.cells #[.int .i64 0, .int .i64 0, .slice none 0 0] 27) = w0 at *
  obtain ⟨r2, hr2⟩ : ∃ z, w.heap.size + 2 = z := ⟨_, rfl⟩
  have hw2 : w.heap.size + 2 = r2 := hr2
  try rw [show w.heap.size + 1 + 1 = w.heap.size + 2 from rfl]
  rw [hr2] at R2 ⊢
  clear hr2
  obtain ⟨r1, hr1⟩ : ∃ z, w.heap.size + 1 = z := ⟨_, rfl⟩
  have hw1 : w.heap.size + 1 = r1 := hr1
  rw [hr1] at R1 ⊢
  clear hr1
  have n21 : r2 ≠ r1 := by omega
  have n12' : r1 ≠ r2 := by omega
  have HSK := Lib.hid (show w.heap.size ≤ r1 ∧ w.heap.size ≤ r2 from by omega)
  clear hw1 hw2
  obtain ⟨q0, q1, q2, q3, q4, q5, q6⟩ := X1.out.all
  go_wp2_with fail
  clear q0 q1 q2 q3 q4 q5 q6
  with_reducible refine Calls.mono (HC.out _ LB0.out) ?_
  rintro e w1 ⟨rfl, hb⟩
  have LB1 := Lib.hid (LB0.out.trans (hb.mono LB0.out.size))
  have X1 := Lib.hid (X1.out.below hb X1.out.lt)
  have R1 := Lib.hid (R1.out.below hb R1.out.lt)
  have R2 := Lib.hid (R2.out.below hb R2.out.lt)
  clear hb LB0 
  obtain ⟨q0, q1, q2, q3, q4, q5, q6⟩ := X1.out.all
  go_wp2_with fail
  clear q0 q1 q2 q3 q4 q5 q6
  with_reducible refine Calls.mono (HS.out _ LB1.out) ?_
  rintro e w2 (⟨A1, c1, A2, c2, rfl, hok, hh1, hh2, hb⟩ | ⟨rfl, hno, hb⟩)
  case inr =>
    have HNO := Lib.hid hno
    have LB2 := Lib.hid (LB1.out.trans (hb.mono LB1.out.size))
    have R1 := Lib.hid (R1.out.below hb R1.out.lt)
    have R2 := Lib.hid (R2.out.below hb R2.out.lt)
    clear hb hno
    obtain ⟨r10, r11, r12, r13, r14, r15, r16⟩ := R1.out.all
    obtain ⟨r20, r21, r22, r23, r24, r25, r26⟩ := R2.out.all
    go_wp2
    have P1 := (R1.out.st3 0 0 (.slice none 0 0)).st3f n12' (.int .i64 0) (.int .i64 0) (.slice none 0 0)
    have P2 := (R2.out.st3f n21 (.int .i64 0) (.int .i64 0) (.slice none 0 0)).st3 0 0 (.slice none 0 0)
    have PL := bel_st3 (bel_st3 LB2.out (g := r1) HSK.out.1 (.int .i64 0) (.int .i64 0) (.slice none 0 0)) (g := r2) HSK.out.2 (.int .i64 0) (.int .i64 0) (.slice none 0 0)
    generalize ((((((w2.setCell ⟨r1, 0, none⟩ (.int .i64 0)).setCell ⟨r1, 1, none⟩ (.int .i64 0)).setCell ⟨r1, 2, none⟩ (.slice none 0 0)).setCell ⟨r2, 0, none⟩ (.int .i64 0)).setCell ⟨r2, 1, none⟩ (.int .i64 0)).setCell ⟨r2, 2, none⟩ (.slice none 0 0)) = wz at *
    obtain ⟨s0, s1, s2, s3, s4, s5, s6⟩ := P1.all
    obtain ⟨t0, t1, t2, t3, t4, t5, t6⟩ := P2.all
    refine bodyPost_ret (v := .tuple #[.agg #[.int .i64 0, .int .i64 0, .slice none 0 0], .agg #[.int .i64 0, .int .i64 0, .slice none 0 0], .int .i64 6]) (by simp [results, Try.results14, go_sem, s0, s1, s2, t0, t1, t2]) rfl ?_
    exact .inr ⟨rfl, HNO.out, PL⟩
  case inl =>
    have HOK := Lib.hid hok
    have LB2 := Lib.hid (LB1.out.trans (hb.mono LB1.out.size))
    have R1 := Lib.hid (R1.out.below hb R1.out.lt)
    have R2 := Lib.hid (R2.out.below hb R2.out.lt)
    have HH1 := Lib.hid hh1
    have HH2 := Lib.hid hh2
    clear hb hok hh1 hh2
    obtain ⟨r10, r11, r12, r13, r14, r15, r16⟩ := R1.out.all
    obtain ⟨r20, r21, r22, r23, r24, r25, r26⟩ := R2.out.all
    go_wp2
    have P1 := (R1.out.st3 (W : Nat) (H : Nat) (.slice A1 M c1)).st3f n12' (.int .i64 (W : Nat)) (.int .i64 (H : Nat)) (.slice A2 M c2)
    have P2 := (R2.out.st3f n21 (.int .i64 (W : Nat)) (.int .i64 (H : Nat)) (.slice A1 M c1)).st3 (W : Nat) (H : Nat) (.slice A2 M c2)
    have PL := bel_st3 (bel_st3 LB2.out (g := r1) HSK.out.1 (.int .i64 (W : Nat)) (.int .i64 (H : Nat)) (.slice A1 M c1)) (g := r2) HSK.out.2 (.int .i64 (W : Nat)) (.int .i64 (H : Nat)) (.slice A2 M c2)
    have G1 := ((HH1.out.st3 (holds_ne_box HH1.out R1.out) (.int .i64 (W : Nat)) (.int .i64 (H : Nat)) (.slice A1 M c1)).st3 (holds_ne_box HH1.out R2.out) (.int .i64 (W : Nat)) (.int .i64 (H : Nat)) (.slice A2 M c2)).more (B' := ((((((w2.setCell ⟨r1, 0, none⟩ (.int .i64 (W : Nat))).setCell ⟨r1, 1, none⟩ (.int .i64 (H : Nat))).setCell ⟨r1, 2, none⟩ (.slice A1 M c1)).setCell ⟨r2, 0, none⟩ (.int .i64 (W : Nat))).setCell ⟨r2, 1, none⟩ (.int .i64 (H : Nat))).setCell ⟨r2, 2, none⟩ (.slice A2 M c2)).heap.size) (by simp)
    have G2 := ((HH2.out.st3 (holds_ne_box HH2.out R1.out) (.int .i64 (W : Nat)) (.int .i64 (H : Nat)) (.slice A1 M c1)).st3 (holds_ne_box HH2.out R2.out) (.int .i64 (W : Nat)) (.int .i64 (H : Nat)) (.slice A2 M c2)).more (B' := ((((((w2.setCell ⟨r1, 0, none⟩ (.int .i64 (W : Nat))).setCell ⟨r1, 1, none⟩ (.int .i64 (H : Nat))).setCell ⟨r1, 2, none⟩ (.slice A1 M c1)).setCell ⟨r2, 0, none⟩ (.int .i64 (W : Nat))).setCell ⟨r2, 1, none⟩ (.int .i64 (H : Nat))).setCell ⟨r2, 2, none⟩ (.slice A2 M c2)).heap.size) (by simp)
    generalize ((((((w2.setCell ⟨r1, 0, none⟩ (.int .i64 (W : Nat))).setCell ⟨r1, 1, none⟩ (.int .i64 (H : Nat))).setCell ⟨r1, 2, none⟩ (.slice A1 M c1)).setCell ⟨r2, 0, none⟩ (.int .i64 (W : Nat))).setCell ⟨r2, 1, none⟩ (.int .i64 (H : Nat))).setCell ⟨r2, 2, none⟩ (.slice A2 M c2)) = wz at *
    obtain ⟨s0, s1, s2, s3, s4, s5, s6⟩ := P1.all
    obtain ⟨t0, t1, t2, t3, t4, t5, t6⟩ := P2.all
    refine bodyPost_ret (v := .tuple #[.agg #[.int .i64 (W : Nat), .int .i64 (H : Nat), .slice A1 M c1], .agg #[.int .i64 (W : Nat), .int .i64 (H : Nat), .slice A2 M c2], .int .i64 0]) (by simp [results, Try.results14, go_sem, s0, s1, s2, t0, t1, t2]) rfl ?_
    exact .inl ⟨_, _, _, _, rfl, HOK.out, G1, G2, PL⟩
set_option maxHeartbeats 1600000 in
/-- Shows: what is wrong. -/
theorem shows_err (X Y : Int) (D : Option Addr) (N g : Nat) (W H : Int) (A B C : Option Addr) (n c m d k e : Nat) (f a b : Nat → Int) (w : World) (hf : L2.Holds w w.heap.size A n f) (ha : L2.Holds w w.heap.size B m a) (hb1 : L2.Holds w w.heap.size C k b) (hN : N ≤ 4200) {z : Int} (hz : pwE X Y N W H (pcE W H n m k f a b) = z) (hne : z ≠ 0) :
    Calls Try.prog 18 #[.agg #[.int .i64 X, .int .i64 Y, .slice D N g], .agg #[.int .i64 W, .int .i64 H, .slice A n c], .slice B m d, .slice C k e] w fun e w' => e = .returned (.tuple #[.bool false, .int .i64 z]) ∧ Below w.heap.size w w' := by
  have HC := Lib.hid (fun u (hb : Below w.heap.size w u) => checkw_any X Y D N g W H A B C n c m d k e f a b u ((hf.below hb).more hb.size) ((ha.below hb).more hb.size) ((hb1.below hb).more hb.size) hN)
  rw [hz] at HC
  have y1 : (z != 0) = true := by simp [hne]
  clear hf ha hb1 hz hne
  have LB0 := Lib.hid (Below.refl w.heap.size w)
  have X2 := Box.new w X Y (.slice D N g)
  have X2 := Lib.hid X2
  have LB0 := Lib.hid (LB0.out.alloc LB0.out.size (.cells #[.int .i64 X, .int .i64 Y, .slice D N g] 27))
  have X2 := Lib.hid (X2.out.alloc (.cells #[.int .i64 W, .int .i64 H, .slice A n c] 24))
  have X1 := IBox.new (w.alloc (.cells #[.int .i64 X, .int .i64 Y, .slice D N g] 27)) W H (.slice A n c)
  rw [show ((w.alloc (.cells #[.int .i64 X, .int .i64 Y, .slice D N g] 27))).heap.size = w.heap.size + 1 by simp] at X1
  have X1 := Lib.hid X1
  have LB0 := Lib.hid (LB0.out.alloc LB0.out.size (.cells #[.int .i64 W, .int .i64 H, .slice A n c] 24))
  go_enter Try.func18, Try.ntmps18
  go_upto_region 1 with (fail)
  generalize (w.alloc (.cells #[.int .i64 X, .int .i64 Y, .slice D N g] 27)).alloc (.cells #[.int .i64 W, .int .i64 H, .slice A n c] 24) = w0 at *
  obtain ⟨p0, p1, p2, p3, p4, p5, p6⟩ := X2.out.all
  obtain ⟨q0, q1, q2, q3, q4, q5, q6⟩ := X1.out.all
  go_wp2_with fail
  clear q0 q1 q2 q3 q4 q5 q6
  with_reducible refine Calls.mono (HC.out _ LB0.out) ?_
  rintro e w1 ⟨rfl, hb⟩
  have LB1 := Lib.hid (LB0.out.trans (hb.mono LB0.out.size))
  have X2 := Lib.hid (X2.out.below hb X2.out.lt)
  have X1 := Lib.hid (X1.out.below hb X1.out.lt)
  clear hb LB0 
  clear p0 p1 p2 p3 p4 p5 p6
  go_wp2
  refine bodyPost_ret (v := .tuple #[.bool false, .int .i64 z]) (by simp [results, Try.results18, go_sem]) rfl ?_
  exact ⟨rfl, LB1.out⟩
set_option maxHeartbeats 1600000 in
theorem shows_ok (D : Option Addr) (g : Nat) (s : Nat → Bool) (W H : Nat) (A B C : Option Addr) (c d e : Nat) (f a b : Nat → Int) (w : World) (hf : L2.Holds w w.heap.size A (W * H) f) (ha : L2.Holds w w.heap.size B W a) (hb1 : L2.Holds w w.heap.size C H b) (W0 : 1 ≤ W) (W1 : W ≤ 64) (H0 : 1 ≤ H) (H1 : H ≤ 64) (h1 : fine (W * H) f = true) (h2 : fine W a = true) (h3 : fine H b = true) (hg : Holds w w.heap.size D (W * H) s) :
    Calls Try.prog 18 #[.agg #[.int .i64 (W : Nat), .int .i64 (H : Nat), .slice D (W * H) g], .agg #[.int .i64 (W : Nat), .int .i64 (H : Nat), .slice A (W * H) c], .slice B W d, .slice C H e] w fun e w' => e = .returned (.tuple #[.bool (sameB (W : Nat) (H : Nat) (W : Nat) (H : Nat) (W * H) (W * H) (shF W s a b) f), .int .i64 0]) ∧ Below w.heap.size w w' := by
  have hM : W * H ≤ 4096 := Nat.mul_le_mul W1 H1
  have HC := Lib.hid (fun u (hb : Below w.heap.size w u) => checkw_any (W : Nat) (H : Nat) D (W * H) g (W : Nat) (H : Nat) A B C (W * H) c W d H e f a b u ((hf.below hb).more hb.size) ((ha.below hb).more hb.size) ((hb1.below hb).more hb.size) (by omega))
  rw [pcE_ok (m := 0) (k := 0) W0 W1 H0 H1 h1 h2 h3, pwE_ok (chk_zero W0 W1 H0 H1) ⟨rfl, rfl⟩] at HC
  have HFR := Lib.hid (fun u (hb : Below w.heap.size w u) => front_ok W H D B C g d e s a b u ((hg.below hb).more hb.size) ((ha.below hb).more hb.size) ((hb1.below hb).more hb.size) W0 W1 H0 H1 h2 h3)
  have HSM := Lib.hid (fun u A2 c2 (hb : Below w.heap.size w u) (hh : L2.Holds u u.heap.size A2 (W * H) (shF W s a b)) => isame_any (W : Nat) (H : Nat) (W : Nat) (H : Nat) A2 A (W * H) (W * H) c2 c (shF W s a b) f u (by omega) hh ((hf.below hb).more hb.size))
  have z0 : ((0 : Int) != 0) = false := rfl
  clear hf ha hb1 h1 h2 h3 hg
  obtain ⟨M, hMe⟩ : ∃ M, W * H = M := ⟨_, rfl⟩
  rw [hMe] at HC HFR HSM hM ⊢
  clear hMe
  have LB0 := Lib.hid (Below.refl w.heap.size w)
  have X2 := Box.new w (W : Nat) (H : Nat) (.slice D M g)
  have X2 := Lib.hid X2
  have LB0 := Lib.hid (LB0.out.alloc LB0.out.size (.cells #[.int .i64 (W : Nat), .int .i64 (H : Nat), .slice D M g] 27))
  have X2 := Lib.hid (X2.out.alloc (.cells #[.int .i64 (W : Nat), .int .i64 (H : Nat), .slice A M c] 24))
  have X1 := IBox.new (w.alloc (.cells #[.int .i64 (W : Nat), .int .i64 (H : Nat), .slice D M g] 27)) (W : Nat) (H : Nat) (.slice A M c)
  rw [show ((w.alloc (.cells #[.int .i64 (W : Nat), .int .i64 (H : Nat), .slice D M g] 27))).heap.size = w.heap.size + 1 by simp] at X1
  have X1 := Lib.hid X1
  have LB0 := Lib.hid (LB0.out.alloc LB0.out.size (.cells #[.int .i64 (W : Nat), .int .i64 (H : Nat), .slice A M c] 24))
  go_enter Try.func18, Try.ntmps18
  go_upto_region 1 with (fail)
  generalize (w.alloc (.cells #[.int .i64 (W : Nat), .int .i64 (H : Nat), .slice D M g] 27)).alloc (.cells #[.int .i64 (W : Nat), .int .i64 (H : Nat), .slice A M c] 24) = w0 at *
  obtain ⟨p0, p1, p2, p3, p4, p5, p6⟩ := X2.out.all
  obtain ⟨q0, q1, q2, q3, q4, q5, q6⟩ := X1.out.all
  go_wp2_with fail
  clear q0 q1 q2 q3 q4 q5 q6
  with_reducible refine Calls.mono (HC.out _ LB0.out) ?_
  rintro e w1 ⟨rfl, hb⟩
  have LB1 := Lib.hid (LB0.out.trans (hb.mono LB0.out.size))
  have X2 := Lib.hid (X2.out.below hb X2.out.lt)
  have X1 := Lib.hid (X1.out.below hb X1.out.lt)
  clear hb LB0 
  clear p0 p1 p2 p3 p4 p5 p6
  obtain ⟨q0, q1, q2, q3, q4, q5, q6⟩ := X2.out.all
  go_wp2_with fail
  clear q0 q1 q2 q3 q4 q5 q6
  with_reducible refine Calls.mono (HFR.out _ LB1.out) ?_
  rintro e w2 ⟨A2, c2, rfl, hh, hb⟩
  have LB2 := Lib.hid (LB1.out.trans (hb.mono LB1.out.size))
  have X2 := Lib.hid (X2.out.below hb X2.out.lt)
  have X1 := Lib.hid (X1.out.below hb X1.out.lt)
  have HH := Lib.hid hh
  clear hb LB1 hh
  have XF := Lib.hid (IBox.new w2 (W : Nat) (H : Nat) (.slice A2 M c2))
  have hb := bel_alloc w2 (.cells #[.int .i64 (W : Nat), .int .i64 (H : Nat), .slice A2 M c2] 24)
  have X1 := Lib.hid (X1.out.below hb X1.out.lt)
  have LB3 := Lib.hid (LB2.out.trans (hb.mono LB2.out.size))
  have HH := Lib.hid ((HH.out.below hb).more hb.size)
  clear hb LB2
  go_upto_region 5 with (fail)
  obtain ⟨b3, hb3⟩ : ∃ z, w2.heap.size = z := ⟨_, rfl⟩
  rw [hb3] at XF ⊢
  clear hb3
  generalize w2.alloc (.cells #[.int .i64 (W : Nat), .int .i64 (H : Nat), .slice A2 M c2] 24) = w3 at *
  obtain ⟨p0, p1, p2, p3, p4, p5, p6⟩ := XF.out.all
  obtain ⟨q0, q1, q2, q3, q4, q5, q6⟩ := X1.out.all
  go_wp2_with fail
  clear q0 q1 q2 q3 q4 q5 q6 p0 p1 p2 p3 p4 p5 p6
  with_reducible refine Calls.mono (HSM.out _ _ _ LB3.out HH.out) ?_
  rintro e w4 ⟨rfl, hb⟩
  have LB4 := Lib.hid (LB3.out.trans (hb.mono LB3.out.size))
  clear hb
  obtain ⟨bz, hbz⟩ : ∃ z, sameB (W : Nat) (H : Nat) (W : Nat) (H : Nat) M M (shF W s a b) f = z := ⟨_, rfl⟩
  rw [hbz]
  have HBZ := Lib.hid hbz
  clear hbz
  go_wp2
  refine bodyPost_ret (v := .tuple #[.bool bz, .int .i64 0]) (by simp [results, Try.results18, go_sem]) rfl ?_
  exact ⟨by rw [HBZ.out], LB4.out⟩
end Go.Proofs.Ytmcdfnhpaneanaa
