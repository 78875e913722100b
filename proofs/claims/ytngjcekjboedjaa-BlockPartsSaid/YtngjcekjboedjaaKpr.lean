/- Layer 13 of the program: Profile. -/
import Derived.Test.YtngjcekjboedjaaKuo
import Derived.StillTailTactics
namespace Go.Proofs.Ytngjcekjboedjaa
open Go.RowKit
set_option maxRecDepth 100000
set_option linter.unusedVariables false
set_option linter.unusedSimpArgs false

/-- Three grids in a new slice. -/
def G3 (a b d : GV) (i : Nat) : GV := if i = 0 then a else if i = 1 then b else d
theorem gls3 {w : World} (a b d : GV) (ha : Holds w w.heap.size a.A a.n a.f) (hb : Holds w w.heap.size b.A b.n b.f) (hd : Holds w w.heap.size d.A d.n d.f) :
    GLs (w.alloc (.cells #[.int .i64 a.W, .int .i64 a.H, .slice a.A a.n a.c, .int .i64 b.W, .int .i64 b.H, .slice b.A b.n b.c, .int .i64 d.W, .int .i64 d.H, .slice d.A d.n d.c] 24)) (some ⟨w.heap.size, 0, none⟩) 3 (G3 a b d) := fun _ => by
  have hB := bel_alloc w (.cells #[.int .i64 a.W, .int .i64 a.H, .slice a.A a.n a.c, .int .i64 b.W, .int .i64 b.H, .slice b.A b.n b.c, .int .i64 d.W, .int .i64 d.H, .slice d.A d.n d.c] 24)
  have hn := halloc w (.cells #[.int .i64 a.W, .int .i64 a.H, .slice a.A a.n a.c, .int .i64 b.W, .int .i64 b.H, .slice b.A b.n b.c, .int .i64 d.W, .int .i64 d.H, .slice d.A d.n d.c] 24)
  refine ⟨_, _, rfl, by simp, fun i hi => ?_⟩
  rcases (show i = 0 ∨ i = 1 ∨ i = 2 by omega) with rfl | rfl | rfl
  · exact ⟨by rw [Lib.cell_of_heap hn]; rfl, by rw [Lib.cell_of_heap hn]; rfl, by rw [Lib.cell_of_heap hn]; rfl, (ha.below hB).more hB.size⟩
  · exact ⟨by rw [Lib.cell_of_heap hn]; rfl, by rw [Lib.cell_of_heap hn]; rfl, by rw [Lib.cell_of_heap hn]; rfl, (hb.below hB).more hB.size⟩
  · exact ⟨by rw [Lib.cell_of_heap hn]; rfl, by rw [Lib.cell_of_heap hn]; rfl, by rw [Lib.cell_of_heap hn]; rfl, (hd.below hB).more hB.size⟩
theorem gfe_3 (a b d : GV) : gfe 3 (G3 a b d) = if chk a.W a.H a.n ≠ 0 then chk a.W a.H a.n else if chk b.W b.H b.n ≠ 0 then chk b.W b.H b.n else chk d.W d.H d.n := by
  unfold gfe
  simp only [fe, G3]
  by_cases h1 : chk a.W a.H a.n = 0 <;> by_cases h2 : chk b.W b.H b.n = 0 <;> simp [h1, h2]
theorem gfe_2 (a b : GV) : gfe 2 (fun i => if i = 0 then a else b) = if chk a.W a.H a.n ≠ 0 then chk a.W a.H a.n else chk b.W b.H b.n := by
  unfold gfe
  simp only [fe]
  by_cases h1 : chk a.W a.H a.n = 0 <;> simp [h1]
theorem one_2 (a b : GV) : one 2 (fun i => if i = 0 then a else b) = decide (b.W = a.W ∧ b.H = a.H) := by
  unfold one
  rw [Bool.eq_iff_iff, decide_eq_true_iff, decide_eq_true_iff]
  refine ⟨fun h => by simpa using h 1 (by omega), fun h i hi => ?_⟩
  rcases (show i = 0 ∨ i = 1 by omega) with rfl | rfl
  · exact ⟨rfl, rfl⟩
  · simpa using h
set_option maxHeartbeats 1600000 in
theorem prof_err {W H X Y U V : Int} {A B C : Option Addr} {n c m d k e : Nat} {a b g : Nat → Bool} (w : World) (hg : Holds w w.heap.size A n g) (ha : Holds w w.heap.size B m a) (hb1 : Holds w w.heap.size C k b) (hn : n ≤ 4200) (hm : m ≤ 4200) (hk : k ≤ 4200) (F : Nat → Bool) (z : Int) (hz : gfe 3 (G3 ⟨W, H, A, n, c, g⟩ ⟨X, Y, B, m, d, a⟩ ⟨U, V, C, k, e, b⟩) = z) (hne : z ≠ 0) :
    Calls Try.prog 47 #[.agg #[.int .i64 W, .int .i64 H, .slice A n c], .agg #[.int .i64 X, .int .i64 Y, .slice B m d], .agg #[.int .i64 U, .int .i64 V, .slice C k e]] w (RG w 0 0 0 F z) := by
  have HCA := Lib.hid (fun u D (h : GLs u D 3 (G3 ⟨W, H, A, n, c, g⟩ ⟨X, Y, B, m, d, a⟩ ⟨U, V, C, k, e, b⟩)) => checkg_any D 3 3 _ u (by omega) (fun i hi => by rcases (show i = 0 ∨ i = 1 ∨ i = 2 by omega) with rfl | rfl | rfl <;> assumption) h)
  have HON := Lib.hid (fun u D (h : GLs u D 2 (fun i => if i = 0 then ⟨X, Y, B, m, d, a⟩ else ⟨U, V, C, k, e, b⟩)) => onesize_any D 2 2 _ u (by omega) h)
  rw [one_2] at HON
  have HGH := Lib.hid hg
  have HAH := Lib.hid ha
  have HBH := Lib.hid hb1
  clear hg ha hb1
  rw [hz] at HCA
  have y1 : (z != 0) = true := by rw [bne_iff_ne]; exact hne
  clear hz hne
  have LB0 := Lib.hid (Below.refl w.heap.size w)
  have X1 := Lib.hid (Box.new w W H (.slice A n c))
  have LB0 := Lib.hid (LB0.out.alloc LB0.out.size (.cells #[.int .i64 W, .int .i64 H, .slice A n c] 24))
  have X1 := Lib.hid (X1.out.alloc (.cells #[.int .i64 X, .int .i64 Y, .slice B m d] 24))
  have X2 := Box.new (w.alloc (.cells #[.int .i64 W, .int .i64 H, .slice A n c] 24)) X Y (.slice B m d)
  rw [show ((w.alloc (.cells #[.int .i64 W, .int .i64 H, .slice A n c] 24))).heap.size = w.heap.size + 1 by simp] at X2
  have X2 := Lib.hid X2
  have LB0 := Lib.hid (LB0.out.alloc LB0.out.size (.cells #[.int .i64 X, .int .i64 Y, .slice B m d] 24))
  have X1 := Lib.hid (X1.out.alloc (.cells #[.int .i64 U, .int .i64 V, .slice C k e] 24))
  have X2 := Lib.hid (X2.out.alloc (.cells #[.int .i64 U, .int .i64 V, .slice C k e] 24))
  have X3 := Box.new ((w.alloc (.cells #[.int .i64 W, .int .i64 H, .slice A n c] 24)).alloc (.cells #[.int .i64 X, .int .i64 Y, .slice B m d] 24)) U V (.slice C k e)
  rw [show (((w.alloc (.cells #[.int .i64 W, .int .i64 H, .slice A n c] 24)).alloc (.cells #[.int .i64 X, .int .i64 Y, .slice B m d] 24))).heap.size = w.heap.size + 2 by simp] at X3
  have X3 := Lib.hid X3
  have LB0 := Lib.hid (LB0.out.alloc LB0.out.size (.cells #[.int .i64 U, .int .i64 V, .slice C k e] 24))
  have X1 := Lib.hid (X1.out.alloc (.cells #[.int .i64 0, .int .i64 0, .slice none 0 0] 24))
  have X2 := Lib.hid (X2.out.alloc (.cells #[.int .i64 0, .int .i64 0, .slice none 0 0] 24))
  have X3 := Lib.hid (X3.out.alloc (.cells #[.int .i64 0, .int .i64 0, .slice none 0 0] 24))
  have R0 := Box.new (((w.alloc (.cells #[.int .i64 W, .int .i64 H, .slice A n c] 24)).alloc (.cells #[.int .i64 X, .int .i64 Y, .slice B m d] 24)).alloc (.cells #[.int .i64 U, .int .i64 V, .slice C k e] 24)) 0 0 (.slice none 0 0)
  rw [show ((((w.alloc (.cells #[.int .i64 W, .int .i64 H, .slice A n c] 24)).alloc (.cells #[.int .i64 X, .int .i64 Y, .slice B m d] 24)).alloc (.cells #[.int .i64 U, .int .i64 V, .slice C k e] 24))).heap.size = w.heap.size + 3 by simp] at R0
  have R0 := Lib.hid R0
  have LB0 := Lib.hid (LB0.out.alloc LB0.out.size (.cells #[.int .i64 0, .int .i64 0, .slice none 0 0] 24))
  go_enter Try.func47, Try.ntmps47
  go_upto_region 1 with (fail)
  generalize (((w.alloc (.cells #[.int .i64 W, .int .i64 H, .slice A n c] 24)).alloc (.cells #[.int .i64 X, .int .i64 Y, .slice B m d] 24)).alloc (.cells #[.int .i64 U, .int .i64 V, .slice C k e] 24)).alloc (.cells #[.int .i64 0, .int .i64 0, .slice none 0 0] 24) = w0 at *
  obtain ⟨rb, hrb⟩ : ∃ z, w.heap.size + 3 = z := ⟨_, rfl⟩
  have hrw : w.heap.size ≤ rb := by omega
  rw [hrb] at R0 ⊢
  clear hrb
  have GL3 := Lib.hid (gls3 (w := w0) ⟨W, H, A, n, c, g⟩ ⟨X, Y, B, m, d, a⟩ ⟨U, V, C, k, e, b⟩ ((HGH.out.below LB0.out).more LB0.out.size) ((HAH.out.below LB0.out).more LB0.out.size) ((HBH.out.below LB0.out).more LB0.out.size))
  have hb := bel_alloc w0 (.cells #[.int .i64 W, .int .i64 H, .slice A n c, .int .i64 X, .int .i64 Y, .slice B m d, .int .i64 U, .int .i64 V, .slice C k e] 24)
  obtain ⟨q0, q1, q2, q3, q4, q5, q6⟩ := X1.out.all
  obtain ⟨q7, q8, q9, q10, q11, q12, q13⟩ := X2.out.all
  obtain ⟨q14, q15, q16, q17, q18, q19, q20⟩ := X3.out.all
  have LB1 := Lib.hid (LB0.out.trans (hb.mono LB0.out.size))
  have X1 := Lib.hid (X1.out.below hb X1.out.lt)
  have X2 := Lib.hid (X2.out.below hb X2.out.lt)
  have X3 := Lib.hid (X3.out.below hb X3.out.lt)
  have R0 := Lib.hid (R0.out.below hb R0.out.lt)
  clear hb LB0
  go_wp2_with fail
  clear q0 q1 q2 q3 q4 q5 q6 q7 q8 q9 q10 q11 q12 q13 q14 q15 q16 q17 q18 q19 q20
  generalize w0.alloc (.cells #[.int .i64 W, .int .i64 H, .slice A n c, .int .i64 X, .int .i64 Y, .slice B m d, .int .i64 U, .int .i64 V, .slice C k e] 24) = w1 at *
  generalize w0.heap.size = a3 at *
  with_reducible refine Calls.mono (HCA.out _ _ GL3.out) ?_
  rintro e w2 ⟨rfl, hb⟩
  have LB2 := Lib.hid (LB1.out.trans (hb.mono LB1.out.size))
  have X1 := Lib.hid (X1.out.below hb X1.out.lt)
  have X2 := Lib.hid (X2.out.below hb X2.out.lt)
  have X3 := Lib.hid (X3.out.below hb X3.out.lt)
  have R0 := Lib.hid (R0.out.below hb R0.out.lt)
  clear hb LB1 
  clear GL3
  obtain ⟨q0, q1, q2, q3, q4, q5, q6⟩ := R0.out.all
  go_wp2
  refine bodyPost_ret (v := .tuple #[.agg #[.int .i64 0, .int .i64 0, .slice none 0 0], .int .i64 z]) (by simp [results, Try.results47, go_sem, q0, q1, q2, q3, q4, q5]) rfl ?_
  exact RG.err (fin_err hrw LB2.out)
set_option maxHeartbeats 1600000 in
theorem prof_c1 {W H X Y U V : Int} {A B C : Option Addr} {n c m d k e : Nat} {a b g : Nat → Bool} (w : World) (hg : Holds w w.heap.size A n g) (ha : Holds w w.heap.size B m a) (hb1 : Holds w w.heap.size C k b) (hn : n ≤ 4200) (hm : m ≤ 4200) (hk : k ≤ 4200) (F : Nat → Bool) (hz : gfe 3 (G3 ⟨W, H, A, n, c, g⟩ ⟨X, Y, B, m, d, a⟩ ⟨U, V, C, k, e, b⟩) = 0) (h1 : ¬ (U = X ∧ V = Y)) :
    Calls Try.prog 47 #[.agg #[.int .i64 W, .int .i64 H, .slice A n c], .agg #[.int .i64 X, .int .i64 Y, .slice B m d], .agg #[.int .i64 U, .int .i64 V, .slice C k e]] w (RG w 0 0 0 F 26) := by
  have HCA := Lib.hid (fun u D (h : GLs u D 3 (G3 ⟨W, H, A, n, c, g⟩ ⟨X, Y, B, m, d, a⟩ ⟨U, V, C, k, e, b⟩)) => checkg_any D 3 3 _ u (by omega) (fun i hi => by rcases (show i = 0 ∨ i = 1 ∨ i = 2 by omega) with rfl | rfl | rfl <;> assumption) h)
  have HON := Lib.hid (fun u D (h : GLs u D 2 (fun i => if i = 0 then ⟨X, Y, B, m, d, a⟩ else ⟨U, V, C, k, e, b⟩)) => onesize_any D 2 2 _ u (by omega) h)
  rw [one_2] at HON
  have HGH := Lib.hid hg
  have HAH := Lib.hid ha
  have HBH := Lib.hid hb1
  clear hg ha hb1
  rw [hz] at HCA
  have y1 : ((0 : Int) != 0) = false := rfl
  clear hz
  rw [decide_eq_false h1] at HON
  clear h1
  have LB0 := Lib.hid (Below.refl w.heap.size w)
  have X1 := Lib.hid (Box.new w W H (.slice A n c))
  have LB0 := Lib.hid (LB0.out.alloc LB0.out.size (.cells #[.int .i64 W, .int .i64 H, .slice A n c] 24))
  have X1 := Lib.hid (X1.out.alloc (.cells #[.int .i64 X, .int .i64 Y, .slice B m d] 24))
  have X2 := Box.new (w.alloc (.cells #[.int .i64 W, .int .i64 H, .slice A n c] 24)) X Y (.slice B m d)
  rw [show ((w.alloc (.cells #[.int .i64 W, .int .i64 H, .slice A n c] 24))).heap.size = w.heap.size + 1 by simp] at X2
  have X2 := Lib.hid X2
  have LB0 := Lib.hid (LB0.out.alloc LB0.out.size (.cells #[.int .i64 X, .int .i64 Y, .slice B m d] 24))
  have X1 := Lib.hid (X1.out.alloc (.cells #[.int .i64 U, .int .i64 V, .slice C k e] 24))
  have X2 := Lib.hid (X2.out.alloc (.cells #[.int .i64 U, .int .i64 V, .slice C k e] 24))
  have X3 := Box.new ((w.alloc (.cells #[.int .i64 W, .int .i64 H, .slice A n c] 24)).alloc (.cells #[.int .i64 X, .int .i64 Y, .slice B m d] 24)) U V (.slice C k e)
  rw [show (((w.alloc (.cells #[.int .i64 W, .int .i64 H, .slice A n c] 24)).alloc (.cells #[.int .i64 X, .int .i64 Y, .slice B m d] 24))).heap.size = w.heap.size + 2 by simp] at X3
  have X3 := Lib.hid X3
  have LB0 := Lib.hid (LB0.out.alloc LB0.out.size (.cells #[.int .i64 U, .int .i64 V, .slice C k e] 24))
  have X1 := Lib.hid (X1.out.alloc (.cells #[.int .i64 0, .int .i64 0, .slice none 0 0] 24))
  have X2 := Lib.hid (X2.out.alloc (.cells #[.int .i64 0, .int .i64 0, .slice none 0 0] 24))
  have X3 := Lib.hid (X3.out.alloc (.cells #[.int .i64 0, .int .i64 0, .slice none 0 0] 24))
  have R0 := Box.new (((w.alloc (.cells #[.int .i64 W, .int .i64 H, .slice A n c] 24)).alloc (.cells #[.int .i64 X, .int .i64 Y, .slice B m d] 24)).alloc (.cells #[.int .i64 U, .int .i64 V, .slice C k e] 24)) 0 0 (.slice none 0 0)
  rw [show ((((w.alloc (.cells #[.int .i64 W, .int .i64 H, .slice A n c] 24)).alloc (.cells #[.int .i64 X, .int .i64 Y, .slice B m d] 24)).alloc (.cells #[.int .i64 U, .int .i64 V, .slice C k e] 24))).heap.size = w.heap.size + 3 by simp] at R0
  have R0 := Lib.hid R0
  have LB0 := Lib.hid (LB0.out.alloc LB0.out.size (.cells #[.int .i64 0, .int .i64 0, .slice none 0 0] 24))
  go_enter Try.func47, Try.ntmps47
  go_upto_region 1 with (fail)
  generalize (((w.alloc (.cells #[.int .i64 W, .int .i64 H, .slice A n c] 24)).alloc (.cells #[.int .i64 X, .int .i64 Y, .slice B m d] 24)).alloc (.cells #[.int .i64 U, .int .i64 V, .slice C k e] 24)).alloc (.cells #[.int .i64 0, .int .i64 0, .slice none 0 0] 24) = w0 at *
  obtain ⟨rb, hrb⟩ : ∃ z, w.heap.size + 3 = z := ⟨_, rfl⟩
  have hrw : w.heap.size ≤ rb := by omega
  rw [hrb] at R0 ⊢
  clear hrb
  have GL3 := Lib.hid (gls3 (w := w0) ⟨W, H, A, n, c, g⟩ ⟨X, Y, B, m, d, a⟩ ⟨U, V, C, k, e, b⟩ ((HGH.out.below LB0.out).more LB0.out.size) ((HAH.out.below LB0.out).more LB0.out.size) ((HBH.out.below LB0.out).more LB0.out.size))
  have hb := bel_alloc w0 (.cells #[.int .i64 W, .int .i64 H, .slice A n c, .int .i64 X, .int .i64 Y, .slice B m d, .int .i64 U, .int .i64 V, .slice C k e] 24)
  obtain ⟨q0, q1, q2, q3, q4, q5, q6⟩ := X1.out.all
  obtain ⟨q7, q8, q9, q10, q11, q12, q13⟩ := X2.out.all
  obtain ⟨q14, q15, q16, q17, q18, q19, q20⟩ := X3.out.all
  have LB1 := Lib.hid (LB0.out.trans (hb.mono LB0.out.size))
  have X1 := Lib.hid (X1.out.below hb X1.out.lt)
  have X2 := Lib.hid (X2.out.below hb X2.out.lt)
  have X3 := Lib.hid (X3.out.below hb X3.out.lt)
  have R0 := Lib.hid (R0.out.below hb R0.out.lt)
  clear hb LB0
  go_wp2_with fail
  clear q0 q1 q2 q3 q4 q5 q6 q7 q8 q9 q10 q11 q12 q13 q14 q15 q16 q17 q18 q19 q20
  generalize w0.alloc (.cells #[.int .i64 W, .int .i64 H, .slice A n c, .int .i64 X, .int .i64 Y, .slice B m d, .int .i64 U, .int .i64 V, .slice C k e] 24) = w1 at *
  generalize w0.heap.size = a3 at *
  with_reducible refine Calls.mono (HCA.out _ _ GL3.out) ?_
  rintro e w2 ⟨rfl, hb⟩
  have LB2 := Lib.hid (LB1.out.trans (hb.mono LB1.out.size))
  have X1 := Lib.hid (X1.out.below hb X1.out.lt)
  have X2 := Lib.hid (X2.out.below hb X2.out.lt)
  have X3 := Lib.hid (X3.out.below hb X3.out.lt)
  have R0 := Lib.hid (R0.out.below hb R0.out.lt)
  clear hb LB1 
  clear GL3
  have GL2 := Lib.hid (gls2 (w := w2) ⟨X, Y, B, m, d, a⟩ ⟨U, V, C, k, e, b⟩ ((HAH.out.below LB2.out).more LB2.out.size) ((HBH.out.below LB2.out).more LB2.out.size))
  have hb := bel_alloc w2 (.cells #[.int .i64 X, .int .i64 Y, .slice B m d, .int .i64 U, .int .i64 V, .slice C k e] 24)
  obtain ⟨q0, q1, q2, q3, q4, q5, q6⟩ := X2.out.all
  obtain ⟨q7, q8, q9, q10, q11, q12, q13⟩ := X3.out.all
  have LB3 := Lib.hid (LB2.out.trans (hb.mono LB2.out.size))
  have X1 := Lib.hid (X1.out.below hb X1.out.lt)
  have X2 := Lib.hid (X2.out.below hb X2.out.lt)
  have X3 := Lib.hid (X3.out.below hb X3.out.lt)
  have R0 := Lib.hid (R0.out.below hb R0.out.lt)
  clear hb LB2
  go_wp2_with fail
  clear q0 q1 q2 q3 q4 q5 q6 q7 q8 q9 q10 q11 q12 q13
  generalize w2.alloc (.cells #[.int .i64 X, .int .i64 Y, .slice B m d, .int .i64 U, .int .i64 V, .slice C k e] 24) = w3 at *
  generalize w2.heap.size = a2 at *
  with_reducible refine Calls.mono (HON.out _ _ GL2.out) ?_
  rintro e w4 ⟨rfl, hb⟩
  have LB4 := Lib.hid (LB3.out.trans (hb.mono LB3.out.size))
  have X1 := Lib.hid (X1.out.below hb X1.out.lt)
  have X2 := Lib.hid (X2.out.below hb X2.out.lt)
  have X3 := Lib.hid (X3.out.below hb X3.out.lt)
  have R0 := Lib.hid (R0.out.below hb R0.out.lt)
  clear hb LB3 
  clear GL2
  obtain ⟨q0, q1, q2, q3, q4, q5, q6⟩ := R0.out.all
  go_wp2
  refine bodyPost_ret (v := .tuple #[.agg #[.int .i64 0, .int .i64 0, .slice none 0 0], .int .i64 26]) (by simp [results, Try.results47, go_sem, q0, q1, q2, q3, q4, q5]) rfl ?_
  exact RG.err (fin_err hrw LB4.out)
set_option maxHeartbeats 1600000 in
theorem prof_un {W H X Y U V : Int} {A B C : Option Addr} {n c m d k e : Nat} {a b g : Nat → Bool} (w : World) (hg : Holds w w.heap.size A n g) (ha : Holds w w.heap.size B m a) (hb1 : Holds w w.heap.size C k b) (hn : n ≤ 4200) (hm : m ≤ 4200) (hk : k ≤ 4200) (F : Nat → Bool) (hz : gfe 3 (G3 ⟨W, H, A, n, c, g⟩ ⟨X, Y, B, m, d, a⟩ ⟨U, V, C, k, e, b⟩) = 0) (h1 : U = X ∧ V = Y) {wd ht : Int} {nn : Nat} {FF : Nat → Nat → Bool} {pp : Nat → Nat} (z : Int) (hne : z ≠ 0) (hU : ∀ u, Below w.heap.size w u → Calls Try.prog 51 #[.agg #[.int .i64 W, .int .i64 H, .slice A n c], .int .i64 X, .int .i64 Y] u (UR u wd ht nn FF 0 0 pp z)) :
    Calls Try.prog 47 #[.agg #[.int .i64 W, .int .i64 H, .slice A n c], .agg #[.int .i64 X, .int .i64 Y, .slice B m d], .agg #[.int .i64 U, .int .i64 V, .slice C k e]] w (RG w 0 0 0 F z) := by
  have HCA := Lib.hid (fun u D (h : GLs u D 3 (G3 ⟨W, H, A, n, c, g⟩ ⟨X, Y, B, m, d, a⟩ ⟨U, V, C, k, e, b⟩)) => checkg_any D 3 3 _ u (by omega) (fun i hi => by rcases (show i = 0 ∨ i = 1 ∨ i = 2 by omega) with rfl | rfl | rfl <;> assumption) h)
  have HON := Lib.hid (fun u D (h : GLs u D 2 (fun i => if i = 0 then ⟨X, Y, B, m, d, a⟩ else ⟨U, V, C, k, e, b⟩)) => onesize_any D 2 2 _ u (by omega) h)
  rw [one_2] at HON
  have HGH := Lib.hid hg
  have HAH := Lib.hid ha
  have HBH := Lib.hid hb1
  clear hg ha hb1
  rw [hz] at HCA
  have y1 : ((0 : Int) != 0) = false := rfl
  clear hz
  rw [decide_eq_true h1] at HON
  clear h1
  have HU := Lib.hid hU
  have y2 : (z != 0) = true := by rw [bne_iff_ne]; exact hne
  clear hU hne
  have LB0 := Lib.hid (Below.refl w.heap.size w)
  have X1 := Lib.hid (Box.new w W H (.slice A n c))
  have LB0 := Lib.hid (LB0.out.alloc LB0.out.size (.cells #[.int .i64 W, .int .i64 H, .slice A n c] 24))
  have X1 := Lib.hid (X1.out.alloc (.cells #[.int .i64 X, .int .i64 Y, .slice B m d] 24))
  have X2 := Box.new (w.alloc (.cells #[.int .i64 W, .int .i64 H, .slice A n c] 24)) X Y (.slice B m d)
  rw [show ((w.alloc (.cells #[.int .i64 W, .int .i64 H, .slice A n c] 24))).heap.size = w.heap.size + 1 by simp] at X2
  have X2 := Lib.hid X2
  have LB0 := Lib.hid (LB0.out.alloc LB0.out.size (.cells #[.int .i64 X, .int .i64 Y, .slice B m d] 24))
  have X1 := Lib.hid (X1.out.alloc (.cells #[.int .i64 U, .int .i64 V, .slice C k e] 24))
  have X2 := Lib.hid (X2.out.alloc (.cells #[.int .i64 U, .int .i64 V, .slice C k e] 24))
  have X3 := Box.new ((w.alloc (.cells #[.int .i64 W, .int .i64 H, .slice A n c] 24)).alloc (.cells #[.int .i64 X, .int .i64 Y, .slice B m d] 24)) U V (.slice C k e)
  rw [show (((w.alloc (.cells #[.int .i64 W, .int .i64 H, .slice A n c] 24)).alloc (.cells #[.int .i64 X, .int .i64 Y, .slice B m d] 24))).heap.size = w.heap.size + 2 by simp] at X3
  have X3 := Lib.hid X3
  have LB0 := Lib.hid (LB0.out.alloc LB0.out.size (.cells #[.int .i64 U, .int .i64 V, .slice C k e] 24))
  have X1 := Lib.hid (X1.out.alloc (.cells #[.int .i64 0, .int .i64 0, .slice none 0 0] 24))
  have X2 := Lib.hid (X2.out.alloc (.cells #[.int .i64 0, .int .i64 0, .slice none 0 0] 24))
  have X3 := Lib.hid (X3.out.alloc (.cells #[.int .i64 0, .int .i64 0, .slice none 0 0] 24))
  have R0 := Box.new (((w.alloc (.cells #[.int .i64 W, .int .i64 H, .slice A n c] 24)).alloc (.cells #[.int .i64 X, .int .i64 Y, .slice B m d] 24)).alloc (.cells #[.int .i64 U, .int .i64 V, .slice C k e] 24)) 0 0 (.slice none 0 0)
  rw [show ((((w.alloc (.cells #[.int .i64 W, .int .i64 H, .slice A n c] 24)).alloc (.cells #[.int .i64 X, .int .i64 Y, .slice B m d] 24)).alloc (.cells #[.int .i64 U, .int .i64 V, .slice C k e] 24))).heap.size = w.heap.size + 3 by simp] at R0
  have R0 := Lib.hid R0
  have LB0 := Lib.hid (LB0.out.alloc LB0.out.size (.cells #[.int .i64 0, .int .i64 0, .slice none 0 0] 24))
  go_enter Try.func47, Try.ntmps47
  go_upto_region 1 with (fail)
  generalize (((w.alloc (.cells #[.int .i64 W, .int .i64 H, .slice A n c] 24)).alloc (.cells #[.int .i64 X, .int .i64 Y, .slice B m d] 24)).alloc (.cells #[.int .i64 U, .int .i64 V, .slice C k e] 24)).alloc (.cells #[.int .i64 0, .int .i64 0, .slice none 0 0] 24) = w0 at *
  obtain ⟨rb, hrb⟩ : ∃ z, w.heap.size + 3 = z := ⟨_, rfl⟩
  have hrw : w.heap.size ≤ rb := by omega
  rw [hrb] at R0 ⊢
  clear hrb
  have GL3 := Lib.hid (gls3 (w := w0) ⟨W, H, A, n, c, g⟩ ⟨X, Y, B, m, d, a⟩ ⟨U, V, C, k, e, b⟩ ((HGH.out.below LB0.out).more LB0.out.size) ((HAH.out.below LB0.out).more LB0.out.size) ((HBH.out.below LB0.out).more LB0.out.size))
  have hb := bel_alloc w0 (.cells #[.int .i64 W, .int .i64 H, .slice A n c, .int .i64 X, .int .i64 Y, .slice B m d, .int .i64 U, .int .i64 V, .slice C k e] 24)
  obtain ⟨q0, q1, q2, q3, q4, q5, q6⟩ := X1.out.all
  obtain ⟨q7, q8, q9, q10, q11, q12, q13⟩ := X2.out.all
  obtain ⟨q14, q15, q16, q17, q18, q19, q20⟩ := X3.out.all
  have LB1 := Lib.hid (LB0.out.trans (hb.mono LB0.out.size))
  have X1 := Lib.hid (X1.out.below hb X1.out.lt)
  have X2 := Lib.hid (X2.out.below hb X2.out.lt)
  have X3 := Lib.hid (X3.out.below hb X3.out.lt)
  have R0 := Lib.hid (R0.out.below hb R0.out.lt)
  clear hb LB0
  go_wp2_with fail
  clear q0 q1 q2 q3 q4 q5 q6 q7 q8 q9 q10 q11 q12 q13 q14 q15 q16 q17 q18 q19 q20
  generalize w0.alloc (.cells #[.int .i64 W, .int .i64 H, .slice A n c, .int .i64 X, .int .i64 Y, .slice B m d, .int .i64 U, .int .i64 V, .slice C k e] 24) = w1 at *
  generalize w0.heap.size = a3 at *
  with_reducible refine Calls.mono (HCA.out _ _ GL3.out) ?_
  rintro e w2 ⟨rfl, hb⟩
  have LB2 := Lib.hid (LB1.out.trans (hb.mono LB1.out.size))
  have X1 := Lib.hid (X1.out.below hb X1.out.lt)
  have X2 := Lib.hid (X2.out.below hb X2.out.lt)
  have X3 := Lib.hid (X3.out.below hb X3.out.lt)
  have R0 := Lib.hid (R0.out.below hb R0.out.lt)
  clear hb LB1 
  clear GL3
  have GL2 := Lib.hid (gls2 (w := w2) ⟨X, Y, B, m, d, a⟩ ⟨U, V, C, k, e, b⟩ ((HAH.out.below LB2.out).more LB2.out.size) ((HBH.out.below LB2.out).more LB2.out.size))
  have hb := bel_alloc w2 (.cells #[.int .i64 X, .int .i64 Y, .slice B m d, .int .i64 U, .int .i64 V, .slice C k e] 24)
  obtain ⟨q0, q1, q2, q3, q4, q5, q6⟩ := X2.out.all
  obtain ⟨q7, q8, q9, q10, q11, q12, q13⟩ := X3.out.all
  have LB3 := Lib.hid (LB2.out.trans (hb.mono LB2.out.size))
  have X1 := Lib.hid (X1.out.below hb X1.out.lt)
  have X2 := Lib.hid (X2.out.below hb X2.out.lt)
  have X3 := Lib.hid (X3.out.below hb X3.out.lt)
  have R0 := Lib.hid (R0.out.below hb R0.out.lt)
  clear hb LB2
  go_wp2_with fail
  clear q0 q1 q2 q3 q4 q5 q6 q7 q8 q9 q10 q11 q12 q13
  generalize w2.alloc (.cells #[.int .i64 X, .int .i64 Y, .slice B m d, .int .i64 U, .int .i64 V, .slice C k e] 24) = w3 at *
  generalize w2.heap.size = a2 at *
  with_reducible refine Calls.mono (HON.out _ _ GL2.out) ?_
  rintro e w4 ⟨rfl, hb⟩
  have LB4 := Lib.hid (LB3.out.trans (hb.mono LB3.out.size))
  have X1 := Lib.hid (X1.out.below hb X1.out.lt)
  have X2 := Lib.hid (X2.out.below hb X2.out.lt)
  have X3 := Lib.hid (X3.out.below hb X3.out.lt)
  have R0 := Lib.hid (R0.out.below hb R0.out.lt)
  clear hb LB3 
  clear GL2
  obtain ⟨q0, q1, q2, q3, q4, q5, q6⟩ := X1.out.all
  obtain ⟨q7, q8, q9, q10, q11, q12, q13⟩ := X2.out.all
  go_wp2_with fail
  clear q0 q1 q2 q3 q4 q5 q6 q7 q8 q9 q10 q11 q12 q13
  with_reducible refine Calls.mono (HU.out _ LB4.out) ?_
  rintro e w5 ⟨A1, c1, A2, c2, rfl, _, _, hb⟩
  have LB5 := Lib.hid (LB4.out.trans (hb.mono LB4.out.size))
  have X1 := Lib.hid (X1.out.below hb X1.out.lt)
  have X2 := Lib.hid (X2.out.below hb X2.out.lt)
  have X3 := Lib.hid (X3.out.below hb X3.out.lt)
  have R0 := Lib.hid (R0.out.below hb R0.out.lt)
  clear hb LB4 
  obtain ⟨q0, q1, q2, q3, q4, q5, q6⟩ := R0.out.all
  go_wp2
  refine bodyPost_ret (v := .tuple #[.agg #[.int .i64 0, .int .i64 0, .slice none 0 0], .int .i64 z]) (by simp [results, Try.results47, go_sem, q0, q1, q2, q3, q4, q5]) rfl ?_
  exact RG.err (fin_err hrw LB5.out)
end Go.Proofs.Ytngjcekjboedjaa
