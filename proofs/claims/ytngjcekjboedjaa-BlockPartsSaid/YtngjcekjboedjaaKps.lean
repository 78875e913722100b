/- Layer 13 of the program: Profile, behind Units. -/
import Derived.Test.YtngjcekjboedjaaKpr
import Derived.StillTailTactics
namespace Go.Proofs.Ytngjcekjboedjaa
open Go.RowKit
set_option maxRecDepth 100000
set_option linter.unusedVariables false
set_option linter.unusedSimpArgs false

theorem mkb_run (N : Nat) (hN : N ≤ 100000) (w : World) : (Instr.makeSlice 22 (.int .i64 (N : Nat)) (.int .i64 (N : Nat))).run Try.prog w = .ok (.slice (some ⟨w.heap.size, 0, none⟩) N N) (w.alloc (.cells (madeCells #[.bool false] N) 4)) := by
  obtain ⟨i0, hi, hz0, hz1, hz2⟩ := info_parts Try.info4
  have h := run_make (P := Try.prog) w 22 4 i0 (.bool false) Try.underlying22 hi hz0 .i64 .i64 (N : Nat) (N : Nat) (by omega) (by omega) (by rw [hz2]; omega) (by omega)
  simp only [Int.toNat_natCast, hz1, Nat.mul_one] at h
  exact h
theorem gv_same {gv : GV} {X Y : Int} {m : Nat} {Fi a : Nat → Bool} (h : gv.W = X ∧ gv.H = Y ∧ gv.n = m ∧ ∀ j, j < m → gv.f j = Fi j) : decide (gv.W = X ∧ gv.H = Y ∧ gv.n = m ∧ ∀ j, j < gv.n → gv.f j = a j) = decide (∀ j, j < m → Fi j = a j) := by
  obtain ⟨h1, h2, h3, h4⟩ := h
  rw [Bool.eq_iff_iff, decide_eq_true_iff, decide_eq_true_iff]
  exact ⟨fun q j hj => by rw [← h4 j hj]; exact q.2.2.2 j (by rw [h3]; exact hj), fun q => ⟨h1, h2, h3, fun j hj => by rw [h4 j (by rw [← h3]; exact hj)]; exact q j (by rw [← h3]; exact hj)⟩⟩
set_option maxHeartbeats 3200000 in
theorem prof_tw {W H X Y : Int} {A B C : Option Addr} {n c m d e : Nat} {a b g : Nat → Bool} (w : World) (hg : Holds w w.heap.size A n g) (ha : Holds w w.heap.size B m a) (hb1 : Holds w w.heap.size C m b) (hn : n ≤ 4200) (hm : m ≤ 4200) (hz : gfe 3 (G3 ⟨W, H, A, n, c, g⟩ ⟨X, Y, B, m, d, a⟩ ⟨X, Y, C, m, e, b⟩) = 0) {F : Nat → Nat → Bool} {M K : Nat} {p : Nat → Nat} (hM : M ≤ 5000) (hK : K ≤ 5000) (hU : ∀ u, Below w.heap.size w u → Calls Try.prog 51 #[.agg #[.int .i64 W, .int .i64 H, .slice A n c], .int .i64 X, .int .i64 Y] u (UR u X Y m F M K p 0))  (F1 : Nat → Bool) (hs : ∀ j, j < m → a j = b j) :
    Calls Try.prog 47 #[.agg #[.int .i64 W, .int .i64 H, .slice A n c], .agg #[.int .i64 X, .int .i64 Y, .slice B m d], .agg #[.int .i64 X, .int .i64 Y, .slice C m e]] w (RG w 0 0 0 F1 14) := by
  have hk := hm
  have HCA := Lib.hid (fun u D (h : GLs u D 3 (G3 ⟨W, H, A, n, c, g⟩ ⟨X, Y, B, m, d, a⟩ ⟨X, Y, C, m, e, b⟩)) => checkg_any D 3 3 _ u (by omega) (fun i hi => by rcases (show i = 0 ∨ i = 1 ∨ i = 2 by omega) with rfl | rfl | rfl <;> assumption) h)
  have HON := Lib.hid (fun u D (h : GLs u D 2 (fun i => if i = 0 then ⟨X, Y, B, m, d, a⟩ else ⟨X, Y, C, m, e, b⟩)) => onesize_any D 2 2 _ u (by omega) h)
  rw [one_2, decide_eq_true (show X = X ∧ Y = Y from ⟨rfl, rfl⟩)] at HON
  rw [hz] at HCA
  have y1 : ((0 : Int) != 0) = false := rfl
  have HGH := Lib.hid hg
  have HAH := Lib.hid ha
  have HBH := Lib.hid hb1
  have HU := Lib.hid hU
  have HSP := Lib.hid (fun u (hb : Below w.heap.size w u) => same_any X Y X Y B C m m d e a b u (by omega) ((ha.below hb).more hb.size) ((hb1.below hb).more hb.size))
  have HSA := Lib.hid (fun u (gv : GV) (hb : Below w.heap.size w u) (h : Holds u u.heap.size gv.A gv.n gv.f) (h1 : gv.n ≤ 5000) => same_any gv.W gv.H X Y gv.A B gv.n m gv.c d gv.f a u h1 h ((ha.below hb).more hb.size))
  have HSB := Lib.hid (fun u (gv : GV) (hb : Below w.heap.size w u) (h : Holds u u.heap.size gv.A gv.n gv.f) (h1 : gv.n ≤ 5000) => same_any gv.W gv.H X Y gv.A C gv.n m gv.c e gv.f b u h1 h ((hb1.below hb).more hb.size))
  rw [decide_eq_true (show X = X ∧ Y = Y ∧ m = m ∧ ∀ j, j < m → a j = b j from ⟨rfl, rfl, rfl, hs⟩)] at HSP
  clear hg ha hb1 hz hU hs
  have LB0 := Lib.hid (Below.refl w.heap.size w)
  have X1 := Lib.hid (Box.new w W H (.slice A n c))
  have LB0 := Lib.hid (LB0.out.alloc LB0.out.size (.cells #[.int .i64 W, .int .i64 H, .slice A n c] 24))
  have X1 := Lib.hid (X1.out.alloc (.cells #[.int .i64 X, .int .i64 Y, .slice B m d] 24))
  have X2 := Box.new (w.alloc (.cells #[.int .i64 W, .int .i64 H, .slice A n c] 24)) X Y (.slice B m d)
  rw [show ((w.alloc (.cells #[.int .i64 W, .int .i64 H, .slice A n c] 24))).heap.size = w.heap.size + 1 by simp] at X2
  have X2 := Lib.hid X2
  have LB0 := Lib.hid (LB0.out.alloc LB0.out.size (.cells #[.int .i64 X, .int .i64 Y, .slice B m d] 24))
  have X1 := Lib.hid (X1.out.alloc (.cells #[.int .i64 X, .int .i64 Y, .slice C m e] 24))
  have X2 := Lib.hid (X2.out.alloc (.cells #[.int .i64 X, .int .i64 Y, .slice C m e] 24))
  have X3 := Box.new ((w.alloc (.cells #[.int .i64 W, .int .i64 H, .slice A n c] 24)).alloc (.cells #[.int .i64 X, .int .i64 Y, .slice B m d] 24)) X Y (.slice C m e)
  rw [show (((w.alloc (.cells #[.int .i64 W, .int .i64 H, .slice A n c] 24)).alloc (.cells #[.int .i64 X, .int .i64 Y, .slice B m d] 24))).heap.size = w.heap.size + 2 by simp] at X3
  have X3 := Lib.hid X3
  have LB0 := Lib.hid (LB0.out.alloc LB0.out.size (.cells #[.int .i64 X, .int .i64 Y, .slice C m e] 24))
  have X1 := Lib.hid (X1.out.alloc (.cells #[.int .i64 0, .int .i64 0, .slice none 0 0] 24))
  have X2 := Lib.hid (X2.out.alloc (.cells #[.int .i64 0, .int .i64 0, .slice none 0 0] 24))
  have X3 := Lib.hid (X3.out.alloc (.cells #[.int .i64 0, .int .i64 0, .slice none 0 0] 24))
  have R0 := Box.new (((w.alloc (.cells #[.int .i64 W, .int .i64 H, .slice A n c] 24)).alloc (.cells #[.int .i64 X, .int .i64 Y, .slice B m d] 24)).alloc (.cells #[.int .i64 X, .int .i64 Y, .slice C m e] 24)) 0 0 (.slice none 0 0)
  rw [show ((((w.alloc (.cells #[.int .i64 W, .int .i64 H, .slice A n c] 24)).alloc (.cells #[.int .i64 X, .int .i64 Y, .slice B m d] 24)).alloc (.cells #[.int .i64 X, .int .i64 Y, .slice C m e] 24))).heap.size = w.heap.size + 3 by simp] at R0
  have R0 := Lib.hid R0
  have LB0 := Lib.hid (LB0.out.alloc LB0.out.size (.cells #[.int .i64 0, .int .i64 0, .slice none 0 0] 24))
  go_enter Try.func47, Try.ntmps47
  go_upto_region 1 with (fail)
  generalize (((w.alloc (.cells #[.int .i64 W, .int .i64 H, .slice A n c] 24)).alloc (.cells #[.int .i64 X, .int .i64 Y, .slice B m d] 24)).alloc (.cells #[.int .i64 X, .int .i64 Y, .slice C m e] 24)).alloc (.cells #[.int .i64 0, .int .i64 0, .slice none 0 0] 24) = w0 at *
  obtain ⟨rb, hrb⟩ : ∃ z, w.heap.size + 3 = z := ⟨_, rfl⟩
  have hrw : w.heap.size ≤ rb := by omega
  rw [hrb] at R0 ⊢
  clear hrb
  have GL3 := Lib.hid (gls3 (w := w0) ⟨W, H, A, n, c, g⟩ ⟨X, Y, B, m, d, a⟩ ⟨X, Y, C, m, e, b⟩ ((HGH.out.below LB0.out).more LB0.out.size) ((HAH.out.below LB0.out).more LB0.out.size) ((HBH.out.below LB0.out).more LB0.out.size))
  have hb := bel_alloc w0 (.cells #[.int .i64 W, .int .i64 H, .slice A n c, .int .i64 X, .int .i64 Y, .slice B m d, .int .i64 X, .int .i64 Y, .slice C m e] 24)
  obtain ⟨q0, q1, q2, q3, q4, q5, q6⟩ := X1.out.all
  obtain ⟨q7, q8, q9, q10, q11, q12, q13⟩ := X2.out.all
  obtain ⟨q14, q15, q16, q17, q18, q19, q20⟩ := X3.out.all
  have LB1 := Lib.hid (LB0.out.trans (hb.mono LB0.out.size))
  have X1 := Lib.hid (X1.out.below hb X1.out.lt)
  have X2 := Lib.hid (X2.out.below hb X2.out.lt)
  have X3 := Lib.hid (X3.out.below hb X3.out.lt)
  have R0 := Lib.hid (R0.out.below hb R0.out.lt)
  clear hb LB0
  go_wp2_with fail
  clear q0 q1 q2 q3 q4 q5 q6 q7 q8 q9 q10 q11 q12 q13 q14 q15 q16 q17 q18 q19 q20
  generalize w0.alloc (.cells #[.int .i64 W, .int .i64 H, .slice A n c, .int .i64 X, .int .i64 Y, .slice B m d, .int .i64 X, .int .i64 Y, .slice C m e] 24) = w1 at *
  generalize w0.heap.size = a3 at *
  with_reducible refine Calls.mono (HCA.out _ _ GL3.out) ?_
  rintro e w2 ⟨rfl, hb⟩
  have LB2 := Lib.hid (LB1.out.trans (hb.mono LB1.out.size))
  have X1 := Lib.hid (X1.out.below hb X1.out.lt)
  have X2 := Lib.hid (X2.out.below hb X2.out.lt)
  have X3 := Lib.hid (X3.out.below hb X3.out.lt)
  have R0 := Lib.hid (R0.out.below hb R0.out.lt)
  clear hb LB1 
  clear GL3
  have GL2 := Lib.hid (gls2 (w := w2) ⟨X, Y, B, m, d, a⟩ ⟨X, Y, C, m, e, b⟩ ((HAH.out.below LB2.out).more LB2.out.size) ((HBH.out.below LB2.out).more LB2.out.size))
  have hb := bel_alloc w2 (.cells #[.int .i64 X, .int .i64 Y, .slice B m d, .int .i64 X, .int .i64 Y, .slice C m e] 24)
  obtain ⟨q0, q1, q2, q3, q4, q5, q6⟩ := X2.out.all
  obtain ⟨q7, q8, q9, q10, q11, q12, q13⟩ := X3.out.all
  have LB3 := Lib.hid (LB2.out.trans (hb.mono LB2.out.size))
  have X1 := Lib.hid (X1.out.below hb X1.out.lt)
  have X2 := Lib.hid (X2.out.below hb X2.out.lt)
  have X3 := Lib.hid (X3.out.below hb X3.out.lt)
  have R0 := Lib.hid (R0.out.below hb R0.out.lt)
  clear hb LB2
  go_wp2_with fail
  clear q0 q1 q2 q3 q4 q5 q6 q7 q8 q9 q10 q11 q12 q13
  generalize w2.alloc (.cells #[.int .i64 X, .int .i64 Y, .slice B m d, .int .i64 X, .int .i64 Y, .slice C m e] 24) = w3 at *
  generalize w2.heap.size = a2 at *
  with_reducible refine Calls.mono (HON.out _ _ GL2.out) ?_
  rintro e w4 ⟨rfl, hb⟩
  have LB4 := Lib.hid (LB3.out.trans (hb.mono LB3.out.size))
  have X1 := Lib.hid (X1.out.below hb X1.out.lt)
  have X2 := Lib.hid (X2.out.below hb X2.out.lt)
  have X3 := Lib.hid (X3.out.below hb X3.out.lt)
  have R0 := Lib.hid (R0.out.below hb R0.out.lt)
  clear hb LB3 
  clear GL2
  obtain ⟨q0, q1, q2, q3, q4, q5, q6⟩ := X1.out.all
  obtain ⟨q7, q8, q9, q10, q11, q12, q13⟩ := X2.out.all
  go_wp2_with fail
  clear q0 q1 q2 q3 q4 q5 q6 q7 q8 q9 q10 q11 q12 q13
  with_reducible refine Calls.mono (HU.out _ LB4.out) ?_
  rintro e w5 ⟨A1, c1, A2, c2, rfl, ⟨GU, hgu, hge⟩, hpl, hb⟩
  have LB5 := Lib.hid (LB4.out.trans (hb.mono LB4.out.size))
  have X1 := Lib.hid (X1.out.below hb X1.out.lt)
  have X2 := Lib.hid (X2.out.below hb X2.out.lt)
  have X3 := Lib.hid (X3.out.below hb X3.out.lt)
  have R0 := Lib.hid (R0.out.below hb R0.out.lt)
  have HGU := Lib.hid hgu
  have HPL := Lib.hid hpl
  clear hb LB4 hgu hpl
  have HGE := Lib.hid hge
  clear hge
  obtain ⟨q0, q1, q2, q3, q4, q5, q6⟩ := X2.out.all
  obtain ⟨q7, q8, q9, q10, q11, q12, q13⟩ := X3.out.all
  go_wp2_with fail
  clear q0 q1 q2 q3 q4 q5 q6 q7 q8 q9 q10 q11 q12 q13
  with_reducible refine Calls.mono (HSP.out _ LB5.out) ?_
  rintro e w6 ⟨rfl, hb⟩
  have LB6 := Lib.hid (LB5.out.trans (hb.mono LB5.out.size))
  have X1 := Lib.hid (X1.out.below hb X1.out.lt)
  have X2 := Lib.hid (X2.out.below hb X2.out.lt)
  have X3 := Lib.hid (X3.out.below hb X3.out.lt)
  have R0 := Lib.hid (R0.out.below hb R0.out.lt)
  have HGU := Lib.hid (HGU.out.below hb)
  have HPL := Lib.hid ((HPL.out.below hb).more hb.size)
  clear hb LB5 
  obtain ⟨q0, q1, q2, q3, q4, q5, q6⟩ := R0.out.all
  go_wp2
  refine bodyPost_ret (v := .tuple #[.agg #[.int .i64 0, .int .i64 0, .slice none 0 0], .int .i64 14]) (by simp [results, Try.results47, go_sem, q0, q1, q2, q3, q4, q5]) rfl ?_
  exact RG.err (fin_err hrw LB6.out)
set_option maxHeartbeats 3200000 in
theorem prof_no {W H X Y : Int} {A B C : Option Addr} {n c m d e : Nat} {a b g : Nat → Bool} (w : World) (hg : Holds w w.heap.size A n g) (ha : Holds w w.heap.size B m a) (hb1 : Holds w w.heap.size C m b) (hn : n ≤ 4200) (hm : m ≤ 4200) (hz : gfe 3 (G3 ⟨W, H, A, n, c, g⟩ ⟨X, Y, B, m, d, a⟩ ⟨X, Y, C, m, e, b⟩) = 0) {F : Nat → Nat → Bool} {M K : Nat} {p : Nat → Nat} (hM : M ≤ 5000) (hK : K ≤ 5000) (hU : ∀ u, Below w.heap.size w u → Calls Try.prog 51 #[.agg #[.int .i64 W, .int .i64 H, .slice A n c], .int .i64 X, .int .i64 Y] u (UR u X Y m F M K p 0))  (F1 : Nat → Bool) (hs : ¬ ∀ j, j < m → a j = b j) (i0 : Nat) (hi0 : i0 < M) (hba : ¬ ∀ t, t < m → F i0 t = a t) (hbb : ¬ ∀ t, t < m → F i0 t = b t) :
    Calls Try.prog 47 #[.agg #[.int .i64 W, .int .i64 H, .slice A n c], .agg #[.int .i64 X, .int .i64 Y, .slice B m d], .agg #[.int .i64 X, .int .i64 Y, .slice C m e]] w (RG w 0 0 0 F1 6) := by
  have hk := hm
  have HCA := Lib.hid (fun u D (h : GLs u D 3 (G3 ⟨W, H, A, n, c, g⟩ ⟨X, Y, B, m, d, a⟩ ⟨X, Y, C, m, e, b⟩)) => checkg_any D 3 3 _ u (by omega) (fun i hi => by rcases (show i = 0 ∨ i = 1 ∨ i = 2 by omega) with rfl | rfl | rfl <;> assumption) h)
  have HON := Lib.hid (fun u D (h : GLs u D 2 (fun i => if i = 0 then ⟨X, Y, B, m, d, a⟩ else ⟨X, Y, C, m, e, b⟩)) => onesize_any D 2 2 _ u (by omega) h)
  rw [one_2, decide_eq_true (show X = X ∧ Y = Y from ⟨rfl, rfl⟩)] at HON
  rw [hz] at HCA
  have y1 : ((0 : Int) != 0) = false := rfl
  have HGH := Lib.hid hg
  have HAH := Lib.hid ha
  have HBH := Lib.hid hb1
  have HU := Lib.hid hU
  have HSP := Lib.hid (fun u (hb : Below w.heap.size w u) => same_any X Y X Y B C m m d e a b u (by omega) ((ha.below hb).more hb.size) ((hb1.below hb).more hb.size))
  have HSA := Lib.hid (fun u (gv : GV) (hb : Below w.heap.size w u) (h : Holds u u.heap.size gv.A gv.n gv.f) (h1 : gv.n ≤ 5000) => same_any gv.W gv.H X Y gv.A B gv.n m gv.c d gv.f a u h1 h ((ha.below hb).more hb.size))
  have HSB := Lib.hid (fun u (gv : GV) (hb : Below w.heap.size w u) (h : Holds u u.heap.size gv.A gv.n gv.f) (h1 : gv.n ≤ 5000) => same_any gv.W gv.H X Y gv.A C gv.n m gv.c e gv.f b u h1 h ((hb1.below hb).more hb.size))
  rw [decide_eq_false (show ¬ (X = X ∧ Y = Y ∧ m = m ∧ ∀ j, j < m → a j = b j) from fun q => hs q.2.2.2)] at HSP
  have HNO := Lib.hid (fun (h : ∀ i, i < M → (∀ t, t < m → F i t = a t) ∨ (∀ t, t < m → F i t = b t)) => (h i0 hi0).elim hba hbb)
  clear hg ha hb1 hz hU hs hba hbb
  have LB0 := Lib.hid (Below.refl w.heap.size w)
  have X1 := Lib.hid (Box.new w W H (.slice A n c))
  have LB0 := Lib.hid (LB0.out.alloc LB0.out.size (.cells #[.int .i64 W, .int .i64 H, .slice A n c] 24))
  have X1 := Lib.hid (X1.out.alloc (.cells #[.int .i64 X, .int .i64 Y, .slice B m d] 24))
  have X2 := Box.new (w.alloc (.cells #[.int .i64 W, .int .i64 H, .slice A n c] 24)) X Y (.slice B m d)
  rw [show ((w.alloc (.cells #[.int .i64 W, .int .i64 H, .slice A n c] 24))).heap.size = w.heap.size + 1 by simp] at X2
  have X2 := Lib.hid X2
  have LB0 := Lib.hid (LB0.out.alloc LB0.out.size (.cells #[.int .i64 X, .int .i64 Y, .slice B m d] 24))
  have X1 := Lib.hid (X1.out.alloc (.cells #[.int .i64 X, .int .i64 Y, .slice C m e] 24))
  have X2 := Lib.hid (X2.out.alloc (.cells #[.int .i64 X, .int .i64 Y, .slice C m e] 24))
  have X3 := Box.new ((w.alloc (.cells #[.int .i64 W, .int .i64 H, .slice A n c] 24)).alloc (.cells #[.int .i64 X, .int .i64 Y, .slice B m d] 24)) X Y (.slice C m e)
  rw [show (((w.alloc (.cells #[.int .i64 W, .int .i64 H, .slice A n c] 24)).alloc (.cells #[.int .i64 X, .int .i64 Y, .slice B m d] 24))).heap.size = w.heap.size + 2 by simp] at X3
  have X3 := Lib.hid X3
  have LB0 := Lib.hid (LB0.out.alloc LB0.out.size (.cells #[.int .i64 X, .int .i64 Y, .slice C m e] 24))
  have X1 := Lib.hid (X1.out.alloc (.cells #[.int .i64 0, .int .i64 0, .slice none 0 0] 24))
  have X2 := Lib.hid (X2.out.alloc (.cells #[.int .i64 0, .int .i64 0, .slice none 0 0] 24))
  have X3 := Lib.hid (X3.out.alloc (.cells #[.int .i64 0, .int .i64 0, .slice none 0 0] 24))
  have R0 := Box.new (((w.alloc (.cells #[.int .i64 W, .int .i64 H, .slice A n c] 24)).alloc (.cells #[.int .i64 X, .int .i64 Y, .slice B m d] 24)).alloc (.cells #[.int .i64 X, .int .i64 Y, .slice C m e] 24)) 0 0 (.slice none 0 0)
  rw [show ((((w.alloc (.cells #[.int .i64 W, .int .i64 H, .slice A n c] 24)).alloc (.cells #[.int .i64 X, .int .i64 Y, .slice B m d] 24)).alloc (.cells #[.int .i64 X, .int .i64 Y, .slice C m e] 24))).heap.size = w.heap.size + 3 by simp] at R0
  have R0 := Lib.hid R0
  have LB0 := Lib.hid (LB0.out.alloc LB0.out.size (.cells #[.int .i64 0, .int .i64 0, .slice none 0 0] 24))
  go_enter Try.func47, Try.ntmps47
  go_upto_region 1 with (fail)
  generalize (((w.alloc (.cells #[.int .i64 W, .int .i64 H, .slice A n c] 24)).alloc (.cells #[.int .i64 X, .int .i64 Y, .slice B m d] 24)).alloc (.cells #[.int .i64 X, .int .i64 Y, .slice C m e] 24)).alloc (.cells #[.int .i64 0, .int .i64 0, .slice none 0 0] 24) = w0 at *
  obtain ⟨rb, hrb⟩ : ∃ z, w.heap.size + 3 = z := ⟨_, rfl⟩
  have hrw : w.heap.size ≤ rb := by omega
  rw [hrb] at R0 ⊢
  clear hrb
  have GL3 := Lib.hid (gls3 (w := w0) ⟨W, H, A, n, c, g⟩ ⟨X, Y, B, m, d, a⟩ ⟨X, Y, C, m, e, b⟩ ((HGH.out.below LB0.out).more LB0.out.size) ((HAH.out.below LB0.out).more LB0.out.size) ((HBH.out.below LB0.out).more LB0.out.size))
  have hb := bel_alloc w0 (.cells #[.int .i64 W, .int .i64 H, .slice A n c, .int .i64 X, .int .i64 Y, .slice B m d, .int .i64 X, .int .i64 Y, .slice C m e] 24)
  obtain ⟨q0, q1, q2, q3, q4, q5, q6⟩ := X1.out.all
  obtain ⟨q7, q8, q9, q10, q11, q12, q13⟩ := X2.out.all
  obtain ⟨q14, q15, q16, q17, q18, q19, q20⟩ := X3.out.all
  have LB1 := Lib.hid (LB0.out.trans (hb.mono LB0.out.size))
  have X1 := Lib.hid (X1.out.below hb X1.out.lt)
  have X2 := Lib.hid (X2.out.below hb X2.out.lt)
  have X3 := Lib.hid (X3.out.below hb X3.out.lt)
  have R0 := Lib.hid (R0.out.below hb R0.out.lt)
  clear hb LB0
  go_wp2_with fail
  clear q0 q1 q2 q3 q4 q5 q6 q7 q8 q9 q10 q11 q12 q13 q14 q15 q16 q17 q18 q19 q20
  generalize w0.alloc (.cells #[.int .i64 W, .int .i64 H, .slice A n c, .int .i64 X, .int .i64 Y, .slice B m d, .int .i64 X, .int .i64 Y, .slice C m e] 24) = w1 at *
  generalize w0.heap.size = a3 at *
  with_reducible refine Calls.mono (HCA.out _ _ GL3.out) ?_
  rintro e w2 ⟨rfl, hb⟩
  have LB2 := Lib.hid (LB1.out.trans (hb.mono LB1.out.size))
  have X1 := Lib.hid (X1.out.below hb X1.out.lt)
  have X2 := Lib.hid (X2.out.below hb X2.out.lt)
  have X3 := Lib.hid (X3.out.below hb X3.out.lt)
  have R0 := Lib.hid (R0.out.below hb R0.out.lt)
  clear hb LB1 
  clear GL3
  have GL2 := Lib.hid (gls2 (w := w2) ⟨X, Y, B, m, d, a⟩ ⟨X, Y, C, m, e, b⟩ ((HAH.out.below LB2.out).more LB2.out.size) ((HBH.out.below LB2.out).more LB2.out.size))
  have hb := bel_alloc w2 (.cells #[.int .i64 X, .int .i64 Y, .slice B m d, .int .i64 X, .int .i64 Y, .slice C m e] 24)
  obtain ⟨q0, q1, q2, q3, q4, q5, q6⟩ := X2.out.all
  obtain ⟨q7, q8, q9, q10, q11, q12, q13⟩ := X3.out.all
  have LB3 := Lib.hid (LB2.out.trans (hb.mono LB2.out.size))
  have X1 := Lib.hid (X1.out.below hb X1.out.lt)
  have X2 := Lib.hid (X2.out.below hb X2.out.lt)
  have X3 := Lib.hid (X3.out.below hb X3.out.lt)
  have R0 := Lib.hid (R0.out.below hb R0.out.lt)
  clear hb LB2
  go_wp2_with fail
  clear q0 q1 q2 q3 q4 q5 q6 q7 q8 q9 q10 q11 q12 q13
  generalize w2.alloc (.cells #[.int .i64 X, .int .i64 Y, .slice B m d, .int .i64 X, .int .i64 Y, .slice C m e] 24) = w3 at *
  generalize w2.heap.size = a2 at *
  with_reducible refine Calls.mono (HON.out _ _ GL2.out) ?_
  rintro e w4 ⟨rfl, hb⟩
  have LB4 := Lib.hid (LB3.out.trans (hb.mono LB3.out.size))
  have X1 := Lib.hid (X1.out.below hb X1.out.lt)
  have X2 := Lib.hid (X2.out.below hb X2.out.lt)
  have X3 := Lib.hid (X3.out.below hb X3.out.lt)
  have R0 := Lib.hid (R0.out.below hb R0.out.lt)
  clear hb LB3 
  clear GL2
  obtain ⟨q0, q1, q2, q3, q4, q5, q6⟩ := X1.out.all
  obtain ⟨q7, q8, q9, q10, q11, q12, q13⟩ := X2.out.all
  go_wp2_with fail
  clear q0 q1 q2 q3 q4 q5 q6 q7 q8 q9 q10 q11 q12 q13
  with_reducible refine Calls.mono (HU.out _ LB4.out) ?_
  rintro e w5 ⟨A1, c1, A2, c2, rfl, ⟨GU, hgu, hge⟩, hpl, hb⟩
  have LB5 := Lib.hid (LB4.out.trans (hb.mono LB4.out.size))
  have X1 := Lib.hid (X1.out.below hb X1.out.lt)
  have X2 := Lib.hid (X2.out.below hb X2.out.lt)
  have X3 := Lib.hid (X3.out.below hb X3.out.lt)
  have R0 := Lib.hid (R0.out.below hb R0.out.lt)
  have HGU := Lib.hid hgu
  have HPL := Lib.hid hpl
  clear hb LB4 hgu hpl
  have HGE := Lib.hid hge
  clear hge
  obtain ⟨q0, q1, q2, q3, q4, q5, q6⟩ := X2.out.all
  obtain ⟨q7, q8, q9, q10, q11, q12, q13⟩ := X3.out.all
  go_wp2_with fail
  clear q0 q1 q2 q3 q4 q5 q6 q7 q8 q9 q10 q11 q12 q13
  with_reducible refine Calls.mono (HSP.out _ LB5.out) ?_
  rintro e w6 ⟨rfl, hb⟩
  have LB6 := Lib.hid (LB5.out.trans (hb.mono LB5.out.size))
  have X1 := Lib.hid (X1.out.below hb X1.out.lt)
  have X2 := Lib.hid (X2.out.below hb X2.out.lt)
  have X3 := Lib.hid (X3.out.below hb X3.out.lt)
  have R0 := Lib.hid (R0.out.below hb R0.out.lt)
  have HGU := Lib.hid (HGU.out.below hb)
  have HPL := Lib.hid ((HPL.out.below hb).more hb.size)
  clear hb LB5 
  go_upto_region 12 with (fail)
  obtain ⟨ws, hws⟩ : ∃ z : World, z = w6 := ⟨_, rfl⟩
  have HWS := Lib.hid hws
  clear hws
  go_loopw [52] (fun i wr => ∃ j : Nat, j ≤ M ∧ i = .int .i64 j ∧ Hid (∀ i, i < j → (∀ t, t < m → F i t = a t) ∨ (∀ t, t < m → F i t = b t)) ∧ Hid (Below w6.heap.size w6 wr)) (fun i _ => M - (intOf i).toNat)
  case atStart => exact ⟨0, Nat.zero_le _, rfl, Lib.hid (fun i h => by omega), Lib.hid (Below.refl _ _)⟩
  case round =>
    obtain ⟨j, hj, rfl, HQ, HB⟩ := hrel
    have LBr := Lib.hid (LB6.out.trans (HB.out.mono LB6.out.size))
    by_cases hlt : j < M
    · have z1 : (j : Int) < (M : Int) := by omega
      have z2 : (0 : Int) ≤ (j : Int) := by omega
      obtain ⟨b', o', eD, hl', hc'⟩ := (HGU.out.below HB.out) (by omega)
      obtain ⟨g0, g1, g2, g3⟩ := hc' j hlt
      have hge := HGE.out j hlt
      have hb := bel_alloc wr (.cells #[.int .i64 (GU j).W, .int .i64 (GU j).H, .slice (GU j).A (GU j).n (GU j).c] 24)
      have NB := Lib.hid (Box.new wr (GU j).W (GU j).H (.slice (GU j).A (GU j).n (GU j).c))
      have LBs := Lib.hid (LBr.out.trans (hb.mono LBr.out.size))
      have HBs := Lib.hid (HB.out.trans (hb.mono HB.out.size))
      have G3' := Lib.hid ((g3.below hb).more hb.size)
      have hgn : (GU j).n ≤ 5000 := by rw [hge.2.2.1]; omega
      have HA1 := Lib.hid (fun u (h : Below (wr.alloc (.cells #[.int .i64 (GU j).W, .int .i64 (GU j).H, .slice (GU j).A (GU j).n (GU j).c] 24)).heap.size (wr.alloc (.cells #[.int .i64 (GU j).W, .int .i64 (GU j).H, .slice (GU j).A (GU j).n (GU j).c] 24)) u) => HSA.out u (GU j) (LBs.out.trans (h.mono LBs.out.size)) ((G3'.out.below h).more h.size) hgn)
      have HB1 := Lib.hid (fun u (h : Below (wr.alloc (.cells #[.int .i64 (GU j).W, .int .i64 (GU j).H, .slice (GU j).A (GU j).n (GU j).c] 24)).heap.size (wr.alloc (.cells #[.int .i64 (GU j).W, .int .i64 (GU j).H, .slice (GU j).A (GU j).n (GU j).c] 24)) u) => HSB.out u (GU j) (LBs.out.trans (h.mono LBs.out.size)) ((G3'.out.below h).more h.size) hgn)
      simp only [gv_same hge] at HA1 HB1
      subst eD
      clear hc' g3 hb hge G3'
      go_upto_region 14 with (fail)
      obtain ⟨nb, hnb⟩ : ∃ z, wr.heap.size = z := ⟨_, rfl⟩
      rw [hnb] at NB ⊢
      clear hnb g0 g1 g2
      generalize (GU j).W = gw at *
      generalize (GU j).H = gh at *
      generalize (GU j).A = ga at *
      generalize (GU j).n = gn at *
      generalize (GU j).c = gc at *
      generalize wr.alloc (.cells #[.int .i64 gw, .int .i64 gh, .slice ga gn gc] 24) = wu at *
      have X2r := Lib.hid (X2.out.below HBs.out X2.out.lt)
      have X3r := Lib.hid (X3.out.below HBs.out X3.out.lt)
      obtain ⟨q0, q1, q2, q3, q4, q5, q6⟩ := X2r.out.all
      obtain ⟨r0, r1, r2, r3, r4, r5, r6⟩ := NB.out.all
      by_cases hsa : ∀ t, t < m → F j t = a t
      · rw [decide_eq_true hsa] at HA1
        have HQ2 := Lib.hid (fun i (hi : i < j + 1) => if e : i = j then (show (∀ t, t < m → F i t = a t) ∨ (∀ t, t < m → F i t = b t) from .inl (by rw [e]; exact hsa)) else HQ.out i (by omega))
        clear hsa
        go_wp2_with (go_at_call 98; (with_reducible refine Calls.mono (HA1.out _ (Below.refl _ _)) ?_); rintro e w9 ⟨rfl, hb⟩; have HB9 := Lib.hid (HBs.out.trans (hb.mono HBs.out.size)); clear hb)
        go_roundw
        case rel => exact ⟨j + 1, by omega, by go_num, HQ2, HB9⟩
        case measure => simp [intOf]; omega
      · rw [decide_eq_false hsa] at HA1
        by_cases hsb : ∀ t, t < m → F j t = b t
        · rw [decide_eq_true hsb] at HB1
          have HQ2 := Lib.hid (fun i (hi : i < j + 1) => if e : i = j then (show (∀ t, t < m → F i t = a t) ∨ (∀ t, t < m → F i t = b t) from .inr (by rw [e]; exact hsb)) else HQ.out i (by omega))
          clear hsa hsb
          go_wp2_with fail
          with_reducible refine Calls.mono (HA1.out _ (Below.refl _ _)) ?_
          rintro e w9 ⟨rfl, hb⟩
          have HB9 := Lib.hid (HBs.out.trans (hb.mono HBs.out.size))
          have X3s := Lib.hid (X3r.out.below hb X3r.out.lt)
          have NBs := Lib.hid (NB.out.below hb NB.out.lt)
          have HB2 := Lib.hid (HB1.out _ hb)
          clear hb q0 q1 q2 q3 q4 q5 q6 r0 r1 r2 r3 r4 r5 r6
          obtain ⟨q0, q1, q2, q3, q4, q5, q6⟩ := X3s.out.all
          obtain ⟨r0, r1, r2, r3, r4, r5, r6⟩ := NBs.out.all
          go_wp2_with fail
          with_reducible refine Calls.mono HB2.out ?_
          rintro e wx ⟨rfl, hb⟩
          have HBx := Lib.hid (HB9.out.trans (hb.mono HB9.out.size))
          clear hb
          go_wp2
          go_roundw
          case rel => exact ⟨j + 1, by omega, by go_num, HQ2, HBx⟩
          case measure => simp [intOf]; omega
        · rw [decide_eq_false hsb] at HB1
          clear hsa hsb
          go_wp2_with fail
          with_reducible refine Calls.mono (HA1.out _ (Below.refl _ _)) ?_
          rintro e w9 ⟨rfl, hb⟩
          have HB9 := Lib.hid (HBs.out.trans (hb.mono HBs.out.size))
          have X3s := Lib.hid (X3r.out.below hb X3r.out.lt)
          have NBs := Lib.hid (NB.out.below hb NB.out.lt)
          have HB2 := Lib.hid (HB1.out _ hb)
          clear hb q0 q1 q2 q3 q4 q5 q6 r0 r1 r2 r3 r4 r5 r6
          obtain ⟨q0, q1, q2, q3, q4, q5, q6⟩ := X3s.out.all
          obtain ⟨r0, r1, r2, r3, r4, r5, r6⟩ := NBs.out.all
          go_wp2_with fail
          with_reducible refine Calls.mono HB2.out ?_
          rintro e wx ⟨rfl, hb⟩
          have HBx := Lib.hid (HB9.out.trans (hb.mono HB9.out.size))
          clear hb q0 q1 q2 q3 q4 q5 q6 r0 r1 r2 r3 r4 r5 r6
          have LBx := Lib.hid (LB6.out.trans (HBx.out.mono LB6.out.size))
          have R0x := Lib.hid (R0.out.below HBx.out R0.out.lt)
          obtain ⟨q0, q1, q2, q3, q4, q5, q6⟩ := R0x.out.all
          go_wp2
          refine bodyPost_ret (v := .tuple #[.agg #[.int .i64 0, .int .i64 0, .slice none 0 0], .int .i64 6]) (by simp [results, Try.results47, go_sem, q0, q1, q2, q3, q4, q5]) rfl ?_
          exact RG.err (fin_err hrw LBx.out)
    · have e : j = M := by omega
      have z1 : ¬ (j : Int) < (M : Int) := by omega
      exact absurd (fun i hi => HQ.out i (by omega)) HNO.out
set_option maxHeartbeats 3200000 in
theorem prof_ok {W H X Y : Int} {A B C : Option Addr} {n c m d e : Nat} {a b g : Nat → Bool} (w : World) (hg : Holds w w.heap.size A n g) (ha : Holds w w.heap.size B m a) (hb1 : Holds w w.heap.size C m b) (hn : n ≤ 4200) (hm : m ≤ 4200) (hz : gfe 3 (G3 ⟨W, H, A, n, c, g⟩ ⟨X, Y, B, m, d, a⟩ ⟨X, Y, C, m, e, b⟩) = 0) {F : Nat → Nat → Bool} {M K : Nat} {p : Nat → Nat} (hM : M ≤ 5000) (hK : K ≤ 5000) (hU : ∀ u, Below w.heap.size w u → Calls Try.prog 51 #[.agg #[.int .i64 W, .int .i64 H, .slice A n c], .int .i64 X, .int .i64 Y] u (UR u X Y m F M K p 0))  (hs : ¬ ∀ j, j < m → a j = b j) (hall : ∀ i, i < M → (∀ t, t < m → F i t = a t) ∨ (∀ t, t < m → F i t = b t)) (hp : ∀ i, i < K → p i < M) (nx ny : Nat) (hX : 1 ≤ X) (hY : 1 ≤ Y) (hnx : W.tdiv X = (nx : Nat)) (hny : H.tdiv Y = (ny : Nat)) (hnx1 : nx ≤ 64) (hny1 : ny ≤ 64) (hKK : K = nx * ny) :
    Calls Try.prog 47 #[.agg #[.int .i64 W, .int .i64 H, .slice A n c], .agg #[.int .i64 X, .int .i64 Y, .slice B m d], .agg #[.int .i64 X, .int .i64 Y, .slice C m e]] w (RG w (nx : Nat) (ny : Nat) (nx * ny) (fun s => decide (∀ j, j < m → F (p s) j = a j)) 0) := by
  have hk := hm
  have HCA := Lib.hid (fun u D (h : GLs u D 3 (G3 ⟨W, H, A, n, c, g⟩ ⟨X, Y, B, m, d, a⟩ ⟨X, Y, C, m, e, b⟩)) => checkg_any D 3 3 _ u (by omega) (fun i hi => by rcases (show i = 0 ∨ i = 1 ∨ i = 2 by omega) with rfl | rfl | rfl <;> assumption) h)
  have HON := Lib.hid (fun u D (h : GLs u D 2 (fun i => if i = 0 then ⟨X, Y, B, m, d, a⟩ else ⟨X, Y, C, m, e, b⟩)) => onesize_any D 2 2 _ u (by omega) h)
  rw [one_2, decide_eq_true (show X = X ∧ Y = Y from ⟨rfl, rfl⟩)] at HON
  rw [hz] at HCA
  have y1 : ((0 : Int) != 0) = false := rfl
  have HGH := Lib.hid hg
  have HAH := Lib.hid ha
  have HBH := Lib.hid hb1
  have HU := Lib.hid hU
  have HSP := Lib.hid (fun u (hb : Below w.heap.size w u) => same_any X Y X Y B C m m d e a b u (by omega) ((ha.below hb).more hb.size) ((hb1.below hb).more hb.size))
  have HSA := Lib.hid (fun u (gv : GV) (hb : Below w.heap.size w u) (h : Holds u u.heap.size gv.A gv.n gv.f) (h1 : gv.n ≤ 5000) => same_any gv.W gv.H X Y gv.A B gv.n m gv.c d gv.f a u h1 h ((ha.below hb).more hb.size))
  have HSB := Lib.hid (fun u (gv : GV) (hb : Below w.heap.size w u) (h : Holds u u.heap.size gv.A gv.n gv.f) (h1 : gv.n ≤ 5000) => same_any gv.W gv.H X Y gv.A C gv.n m gv.c e gv.f b u h1 h ((hb1.below hb).more hb.size))
  rw [decide_eq_false (show ¬ (X = X ∧ Y = Y ∧ m = m ∧ ∀ j, j < m → a j = b j) from fun q => hs q.2.2.2)] at HSP
  have HHA := Lib.hid hall
  have HP := Lib.hid hp
  have HKK := Lib.hid hKK
  have d1 : (X == 0) = false := by rw [beq_eq_false_iff_ne]; omega
  have d2 : (Y == 0) = false := by rw [beq_eq_false_iff_ne]; omega
  have d3 : ¬ X = 0 := by omega
  have d4 : ¬ Y = 0 := by omega
  have d5 := wrap_one (a := nx) (by omega)
  have d6 := wrap_one (a := ny) (by omega)
  clear hg ha hb1 hz hU hs hall hp hKK
  have LB0 := Lib.hid (Below.refl w.heap.size w)
  have X1 := Lib.hid (Box.new w W H (.slice A n c))
  have LB0 := Lib.hid (LB0.out.alloc LB0.out.size (.cells #[.int .i64 W, .int .i64 H, .slice A n c] 24))
  have X1 := Lib.hid (X1.out.alloc (.cells #[.int .i64 X, .int .i64 Y, .slice B m d] 24))
  have X2 := Box.new (w.alloc (.cells #[.int .i64 W, .int .i64 H, .slice A n c] 24)) X Y (.slice B m d)
  rw [show ((w.alloc (.cells #[.int .i64 W, .int .i64 H, .slice A n c] 24))).heap.size = w.heap.size + 1 by simp] at X2
  have X2 := Lib.hid X2
  have LB0 := Lib.hid (LB0.out.alloc LB0.out.size (.cells #[.int .i64 X, .int .i64 Y, .slice B m d] 24))
  have X1 := Lib.hid (X1.out.alloc (.cells #[.int .i64 X, .int .i64 Y, .slice C m e] 24))
  have X2 := Lib.hid (X2.out.alloc (.cells #[.int .i64 X, .int .i64 Y, .slice C m e] 24))
  have X3 := Box.new ((w.alloc (.cells #[.int .i64 W, .int .i64 H, .slice A n c] 24)).alloc (.cells #[.int .i64 X, .int .i64 Y, .slice B m d] 24)) X Y (.slice C m e)
  rw [show (((w.alloc (.cells #[.int .i64 W, .int .i64 H, .slice A n c] 24)).alloc (.cells #[.int .i64 X, .int .i64 Y, .slice B m d] 24))).heap.size = w.heap.size + 2 by simp] at X3
  have X3 := Lib.hid X3
  have LB0 := Lib.hid (LB0.out.alloc LB0.out.size (.cells #[.int .i64 X, .int .i64 Y, .slice C m e] 24))
  have X1 := Lib.hid (X1.out.alloc (.cells #[.int .i64 0, .int .i64 0, .slice none 0 0] 24))
  have X2 := Lib.hid (X2.out.alloc (.cells #[.int .i64 0, .int .i64 0, .slice none 0 0] 24))
  have X3 := Lib.hid (X3.out.alloc (.cells #[.int .i64 0, .int .i64 0, .slice none 0 0] 24))
  have R0 := Box.new (((w.alloc (.cells #[.int .i64 W, .int .i64 H, .slice A n c] 24)).alloc (.cells #[.int .i64 X, .int .i64 Y, .slice B m d] 24)).alloc (.cells #[.int .i64 X, .int .i64 Y, .slice C m e] 24)) 0 0 (.slice none 0 0)
  rw [show ((((w.alloc (.cells #[.int .i64 W, .int .i64 H, .slice A n c] 24)).alloc (.cells #[.int .i64 X, .int .i64 Y, .slice B m d] 24)).alloc (.cells #[.int .i64 X, .int .i64 Y, .slice C m e] 24))).heap.size = w.heap.size + 3 by simp] at R0
  have R0 := Lib.hid R0
  have LB0 := Lib.hid (LB0.out.alloc LB0.out.size (.cells #[.int .i64 0, .int .i64 0, .slice none 0 0] 24))
  go_enter Try.func47, Try.ntmps47
  go_upto_region 1 with (fail)
  generalize (((w.alloc (.cells #[.int .i64 W, .int .i64 H, .slice A n c] 24)).alloc (.cells #[.int .i64 X, .int .i64 Y, .slice B m d] 24)).alloc (.cells #[.int .i64 X, .int .i64 Y, .slice C m e] 24)).alloc (.cells #[.int .i64 0, .int .i64 0, .slice none 0 0] 24) = w0 at *
  obtain ⟨rb, hrb⟩ : ∃ z, w.heap.size + 3 = z := ⟨_, rfl⟩
  have hrw : w.heap.size ≤ rb := by omega
  rw [hrb] at R0 ⊢
  clear hrb
  have GL3 := Lib.hid (gls3 (w := w0) ⟨W, H, A, n, c, g⟩ ⟨X, Y, B, m, d, a⟩ ⟨X, Y, C, m, e, b⟩ ((HGH.out.below LB0.out).more LB0.out.size) ((HAH.out.below LB0.out).more LB0.out.size) ((HBH.out.below LB0.out).more LB0.out.size))
  have hb := bel_alloc w0 (.cells #[.int .i64 W, .int .i64 H, .slice A n c, .int .i64 X, .int .i64 Y, .slice B m d, .int .i64 X, .int .i64 Y, .slice C m e] 24)
  obtain ⟨q0, q1, q2, q3, q4, q5, q6⟩ := X1.out.all
  obtain ⟨q7, q8, q9, q10, q11, q12, q13⟩ := X2.out.all
  obtain ⟨q14, q15, q16, q17, q18, q19, q20⟩ := X3.out.all
  have LB1 := Lib.hid (LB0.out.trans (hb.mono LB0.out.size))
  have X1 := Lib.hid (X1.out.below hb X1.out.lt)
  have X2 := Lib.hid (X2.out.below hb X2.out.lt)
  have X3 := Lib.hid (X3.out.below hb X3.out.lt)
  have R0 := Lib.hid (R0.out.below hb R0.out.lt)
  clear hb LB0
  go_wp2_with fail
  clear q0 q1 q2 q3 q4 q5 q6 q7 q8 q9 q10 q11 q12 q13 q14 q15 q16 q17 q18 q19 q20
  generalize w0.alloc (.cells #[.int .i64 W, .int .i64 H, .slice A n c, .int .i64 X, .int .i64 Y, .slice B m d, .int .i64 X, .int .i64 Y, .slice C m e] 24) = w1 at *
  generalize w0.heap.size = a3 at *
  with_reducible refine Calls.mono (HCA.out _ _ GL3.out) ?_
  rintro e w2 ⟨rfl, hb⟩
  have LB2 := Lib.hid (LB1.out.trans (hb.mono LB1.out.size))
  have X1 := Lib.hid (X1.out.below hb X1.out.lt)
  have X2 := Lib.hid (X2.out.below hb X2.out.lt)
  have X3 := Lib.hid (X3.out.below hb X3.out.lt)
  have R0 := Lib.hid (R0.out.below hb R0.out.lt)
  clear hb LB1 
  clear GL3
  have GL2 := Lib.hid (gls2 (w := w2) ⟨X, Y, B, m, d, a⟩ ⟨X, Y, C, m, e, b⟩ ((HAH.out.below LB2.out).more LB2.out.size) ((HBH.out.below LB2.out).more LB2.out.size))
  have hb := bel_alloc w2 (.cells #[.int .i64 X, .int .i64 Y, .slice B m d, .int .i64 X, .int .i64 Y, .slice C m e] 24)
  obtain ⟨q0, q1, q2, q3, q4, q5, q6⟩ := X2.out.all
  obtain ⟨q7, q8, q9, q10, q11, q12, q13⟩ := X3.out.all
  have LB3 := Lib.hid (LB2.out.trans (hb.mono LB2.out.size))
  have X1 := Lib.hid (X1.out.below hb X1.out.lt)
  have X2 := Lib.hid (X2.out.below hb X2.out.lt)
  have X3 := Lib.hid (X3.out.below hb X3.out.lt)
  have R0 := Lib.hid (R0.out.below hb R0.out.lt)
  clear hb LB2
  go_wp2_with fail
  clear q0 q1 q2 q3 q4 q5 q6 q7 q8 q9 q10 q11 q12 q13
  generalize w2.alloc (.cells #[.int .i64 X, .int .i64 Y, .slice B m d, .int .i64 X, .int .i64 Y, .slice C m e] 24) = w3 at *
  generalize w2.heap.size = a2 at *
  with_reducible refine Calls.mono (HON.out _ _ GL2.out) ?_
  rintro e w4 ⟨rfl, hb⟩
  have LB4 := Lib.hid (LB3.out.trans (hb.mono LB3.out.size))
  have X1 := Lib.hid (X1.out.below hb X1.out.lt)
  have X2 := Lib.hid (X2.out.below hb X2.out.lt)
  have X3 := Lib.hid (X3.out.below hb X3.out.lt)
  have R0 := Lib.hid (R0.out.below hb R0.out.lt)
  clear hb LB3 
  clear GL2
  obtain ⟨q0, q1, q2, q3, q4, q5, q6⟩ := X1.out.all
  obtain ⟨q7, q8, q9, q10, q11, q12, q13⟩ := X2.out.all
  go_wp2_with fail
  clear q0 q1 q2 q3 q4 q5 q6 q7 q8 q9 q10 q11 q12 q13
  with_reducible refine Calls.mono (HU.out _ LB4.out) ?_
  rintro e w5 ⟨A1, c1, A2, c2, rfl, ⟨GU, hgu, hge⟩, hpl, hb⟩
  have LB5 := Lib.hid (LB4.out.trans (hb.mono LB4.out.size))
  have X1 := Lib.hid (X1.out.below hb X1.out.lt)
  have X2 := Lib.hid (X2.out.below hb X2.out.lt)
  have X3 := Lib.hid (X3.out.below hb X3.out.lt)
  have R0 := Lib.hid (R0.out.below hb R0.out.lt)
  have HGU := Lib.hid hgu
  have HPL := Lib.hid hpl
  clear hb LB4 hgu hpl
  have HGE := Lib.hid hge
  clear hge
  obtain ⟨q0, q1, q2, q3, q4, q5, q6⟩ := X2.out.all
  obtain ⟨q7, q8, q9, q10, q11, q12, q13⟩ := X3.out.all
  go_wp2_with fail
  clear q0 q1 q2 q3 q4 q5 q6 q7 q8 q9 q10 q11 q12 q13
  with_reducible refine Calls.mono (HSP.out _ LB5.out) ?_
  rintro e w6 ⟨rfl, hb⟩
  have LB6 := Lib.hid (LB5.out.trans (hb.mono LB5.out.size))
  have X1 := Lib.hid (X1.out.below hb X1.out.lt)
  have X2 := Lib.hid (X2.out.below hb X2.out.lt)
  have X3 := Lib.hid (X3.out.below hb X3.out.lt)
  have R0 := Lib.hid (R0.out.below hb R0.out.lt)
  have HGU := Lib.hid (HGU.out.below hb)
  have HPL := Lib.hid ((HPL.out.below hb).more hb.size)
  clear hb LB5 
  go_upto_region 12 with (fail)
  obtain ⟨ws, hws⟩ : ∃ z : World, z = w6 := ⟨_, rfl⟩
  have HWS := Lib.hid hws
  clear hws
  go_loopw [52] (fun i wr => ∃ j : Nat, j ≤ M ∧ i = .int .i64 j ∧ Hid (∀ i, i < j → (∀ t, t < m → F i t = a t) ∨ (∀ t, t < m → F i t = b t)) ∧ Hid (Below w6.heap.size w6 wr)) (fun i _ => M - (intOf i).toNat)
  case atStart => exact ⟨0, Nat.zero_le _, rfl, Lib.hid (fun i h => by omega), Lib.hid (Below.refl _ _)⟩
  case round =>
    obtain ⟨j, hj, rfl, HQ, HB⟩ := hrel
    have LBr := Lib.hid (LB6.out.trans (HB.out.mono LB6.out.size))
    by_cases hlt : j < M
    · have z1 : (j : Int) < (M : Int) := by omega
      have z2 : (0 : Int) ≤ (j : Int) := by omega
      obtain ⟨b', o', eD, hl', hc'⟩ := (HGU.out.below HB.out) (by omega)
      obtain ⟨g0, g1, g2, g3⟩ := hc' j hlt
      have hge := HGE.out j hlt
      have hb := bel_alloc wr (.cells #[.int .i64 (GU j).W, .int .i64 (GU j).H, .slice (GU j).A (GU j).n (GU j).c] 24)
      have NB := Lib.hid (Box.new wr (GU j).W (GU j).H (.slice (GU j).A (GU j).n (GU j).c))
      have LBs := Lib.hid (LBr.out.trans (hb.mono LBr.out.size))
      have HBs := Lib.hid (HB.out.trans (hb.mono HB.out.size))
      have G3' := Lib.hid ((g3.below hb).more hb.size)
      have hgn : (GU j).n ≤ 5000 := by rw [hge.2.2.1]; omega
      have HA1 := Lib.hid (fun u (h : Below (wr.alloc (.cells #[.int .i64 (GU j).W, .int .i64 (GU j).H, .slice (GU j).A (GU j).n (GU j).c] 24)).heap.size (wr.alloc (.cells #[.int .i64 (GU j).W, .int .i64 (GU j).H, .slice (GU j).A (GU j).n (GU j).c] 24)) u) => HSA.out u (GU j) (LBs.out.trans (h.mono LBs.out.size)) ((G3'.out.below h).more h.size) hgn)
      have HB1 := Lib.hid (fun u (h : Below (wr.alloc (.cells #[.int .i64 (GU j).W, .int .i64 (GU j).H, .slice (GU j).A (GU j).n (GU j).c] 24)).heap.size (wr.alloc (.cells #[.int .i64 (GU j).W, .int .i64 (GU j).H, .slice (GU j).A (GU j).n (GU j).c] 24)) u) => HSB.out u (GU j) (LBs.out.trans (h.mono LBs.out.size)) ((G3'.out.below h).more h.size) hgn)
      simp only [gv_same hge] at HA1 HB1
      subst eD
      clear hc' g3 hb hge G3'
      go_upto_region 14 with (fail)
      obtain ⟨nb, hnb⟩ : ∃ z, wr.heap.size = z := ⟨_, rfl⟩
      rw [hnb] at NB ⊢
      clear hnb g0 g1 g2
      generalize (GU j).W = gw at *
      generalize (GU j).H = gh at *
      generalize (GU j).A = ga at *
      generalize (GU j).n = gn at *
      generalize (GU j).c = gc at *
      generalize wr.alloc (.cells #[.int .i64 gw, .int .i64 gh, .slice ga gn gc] 24) = wu at *
      have X2r := Lib.hid (X2.out.below HBs.out X2.out.lt)
      have X3r := Lib.hid (X3.out.below HBs.out X3.out.lt)
      obtain ⟨q0, q1, q2, q3, q4, q5, q6⟩ := X2r.out.all
      obtain ⟨r0, r1, r2, r3, r4, r5, r6⟩ := NB.out.all
      by_cases hsa : ∀ t, t < m → F j t = a t
      · rw [decide_eq_true hsa] at HA1
        have HQ2 := Lib.hid (fun i (hi : i < j + 1) => if e : i = j then (show (∀ t, t < m → F i t = a t) ∨ (∀ t, t < m → F i t = b t) from .inl (by rw [e]; exact hsa)) else HQ.out i (by omega))
        clear hsa
        go_wp2_with (go_at_call 98; (with_reducible refine Calls.mono (HA1.out _ (Below.refl _ _)) ?_); rintro e w9 ⟨rfl, hb⟩; have HB9 := Lib.hid (HBs.out.trans (hb.mono HBs.out.size)); clear hb)
        go_roundw
        case rel => exact ⟨j + 1, by omega, by go_num, HQ2, HB9⟩
        case measure => simp [intOf]; omega
      · rw [decide_eq_false hsa] at HA1
        by_cases hsb : ∀ t, t < m → F j t = b t
        · rw [decide_eq_true hsb] at HB1
          have HQ2 := Lib.hid (fun i (hi : i < j + 1) => if e : i = j then (show (∀ t, t < m → F i t = a t) ∨ (∀ t, t < m → F i t = b t) from .inr (by rw [e]; exact hsb)) else HQ.out i (by omega))
          clear hsa hsb
          go_wp2_with fail
          with_reducible refine Calls.mono (HA1.out _ (Below.refl _ _)) ?_
          rintro e w9 ⟨rfl, hb⟩
          have HB9 := Lib.hid (HBs.out.trans (hb.mono HBs.out.size))
          have X3s := Lib.hid (X3r.out.below hb X3r.out.lt)
          have NBs := Lib.hid (NB.out.below hb NB.out.lt)
          have HB2 := Lib.hid (HB1.out _ hb)
          clear hb q0 q1 q2 q3 q4 q5 q6 r0 r1 r2 r3 r4 r5 r6
          obtain ⟨q0, q1, q2, q3, q4, q5, q6⟩ := X3s.out.all
          obtain ⟨r0, r1, r2, r3, r4, r5, r6⟩ := NBs.out.all
          go_wp2_with fail
          with_reducible refine Calls.mono HB2.out ?_
          rintro e wx ⟨rfl, hb⟩
          have HBx := Lib.hid (HB9.out.trans (hb.mono HB9.out.size))
          clear hb
          go_wp2
          go_roundw
          case rel => exact ⟨j + 1, by omega, by go_num, HQ2, HBx⟩
          case measure => simp [intOf]; omega
        · exact absurd (HHA.out j hlt) (fun q => q.elim hsa hsb)
    · have e : j = M := by omega
      have z1 : ¬ (j : Int) < (M : Int) := by omega
      have HALL := Lib.hid (fun i (hi : i < M) => HQ.out i (by omega))
      have X1q := Lib.hid (X1.out.below HB.out X1.out.lt)
      have X2q := Lib.hid (X2.out.below HB.out X2.out.lt)
      have R0q := Lib.hid (R0.out.below HB.out R0.out.lt)
      have HPLq := Lib.hid ((HPL.out.below HB.out).more HB.out.size)
      have HGUq := Lib.hid (HGU.out.below HB.out)
      have hmk := mkb_run K (by omega)
      have M0 := Lib.hid (Row.made wr K)
      obtain ⟨mk, hmk0⟩ : ∃ z, madeCells #[.bool false] K = z := ⟨_, rfl⟩
      rw [hmk0] at hmk M0
      clear hmk0 e HQ HB X1 X2 X3 R0 HPL HGU HWS
      obtain ⟨wo, rfl⟩ : ∃ wo : World, wo = wr := ⟨_, rfl⟩
      have hb0 := bel_alloc wo (.cells mk 4)
      have HB0 := Lib.hid hb0
      clear hb0
      go_upto_region 18 with (fail)
      have X1l := X1q.out.lt
      have X2l := X2q.out.lt
      have R0l := R0q.out.lt
      obtain ⟨kb, hkb⟩ : ∃ z, wo.heap.size = z := ⟨_, rfl⟩
      have HKB := Lib.hid hkb
      rw [hkb] at M0 HB0 X1l X2l R0l ⊢
      clear hkb
      generalize wo.alloc (.cells mk 4) = wm at *
      go_upto_region 19 with (fail)
      go_loopw [73] (fun i wr => ∃ t : Nat, t ≤ K ∧ i = .int .i64 t ∧ Hid (Row wr kb K (fun s => if s < t then decide (∀ j, j < m → F (p s) j = a j) else false)) ∧ Hid (Below kb wo wr) ∧ kb < wr.heap.size) (fun i _ => K - (intOf i).toNat)
      case atStart => exact ⟨0, Nat.zero_le _, rfl, Lib.hid (M0.out.congr fun i _ => by rw [if_neg (by omega)]), HB0, M0.out.lt⟩
      case round =>
        obtain ⟨t, ht, rfl, HR, HC, hkw⟩ := hrel
        have LBt := Lib.hid (LBr.out.trans (HC.out.mono (by rw [← HKB.out]; exact LBr.out.size)))
        have X2t := Lib.hid (X2q.out.below HC.out X2l)
        clear M0
        by_cases hlt2 : t < K
        · have z3 : (t : Int) < (K : Int) := by omega
          have z4 : (0 : Int) ≤ (t : Int) := by omega
          obtain ⟨ba, oa, eA, hba, hca⟩ := HPLq.out (by omega)
          have a0 := (HC.out.cell (p := ⟨ba, oa + t, none⟩) (by rw [← HKB.out]; exact hba)).trans (hca t hlt2)
          have hpt := HP.out t hlt2
          obtain ⟨q, hq⟩ : ∃ z, p t = z := ⟨_, rfl⟩
          have HQE := Lib.hid hq
          rw [show ((fun i => ((p i : Nat) : Int)) t) = ((p t : Nat) : Int) from rfl] at a0
          rw [hq] at a0 hpt
          obtain ⟨b', o', eD, hl', hc'⟩ := HGUq.out (by omega)
          obtain ⟨g0, g1, g2, g3⟩ := hc' q hpt
          have g0 := (HC.out.cell (p := ⟨b', o' + q * 3, none⟩) (by rw [← HKB.out]; exact hl')).trans g0
          have g1 := (HC.out.cell (p := ⟨b', o' + q * 3 + 1, none⟩) (by rw [← HKB.out]; exact hl')).trans g1
          have g2 := (HC.out.cell (p := ⟨b', o' + q * 3 + 2, none⟩) (by rw [← HKB.out]; exact hl')).trans g2
          have hge := HGE.out q hpt
          have HA1 := Lib.hid (fun u (h : Below kb wo u) => HSA.out u (GU q) (LBr.out.trans (h.mono (by rw [← HKB.out]; exact LBr.out.size))) ((g3.below (by rw [HKB.out]; exact h)).more (by exact h.size)) (by rw [hge.2.2.1]; omega))
          simp only [gv_same hge] at HA1
          subst eA eD
          have z5 : (q : Int) < (M : Int) := by omega
          have z6 : (0 : Int) ≤ (q : Int) := by omega
          have hlk : b' < kb := by rw [← HKB.out]; exact hl'
          clear hc' hca g3 hge hq hba hl'
          generalize (GU q).W = gw at *
          generalize (GU q).H = gh at *
          generalize (GU q).A = ga at *
          generalize (GU q).n = gn at *
          generalize (GU q).c = gc at *
          obtain ⟨q0, q1, q2, q3, q4, q5, q6⟩ := X2t.out.all
          have HST := Lib.hid (HR.out.drew)
          have HCD := Lib.hid (HC.out.drew)
          obtain ⟨bq, hbq⟩ : ∃ z, decide (∀ j, j < m → F q j = a j) = z := ⟨_, rfl⟩
          rw [hbq] at HA1
          have HBQ := Lib.hid hbq
          clear hbq
          go_upto_region 21 with (fail)
          have HSF := Lib.hid (fun (z : World) (h : Below kb wr z) => (show z.cell? ⟨b', o' + q * 3, none⟩ = some (.int .i64 gw) ∧ z.cell? ⟨b', o' + q * 3 + 1, none⟩ = some (.int .i64 gh) ∧ z.cell? ⟨b', o' + q * 3 + 2, none⟩ = some (.slice ga gn gc) ∧ z.cell? ⟨w.heap.size + 1, 0, none⟩ = some (.int .i64 X) ∧ z.cell? ⟨w.heap.size + 1, 1, none⟩ = some (.int .i64 Y) ∧ z.cell? ⟨w.heap.size + 1, 2, none⟩ = some (.slice B m d) from ⟨(h.cell (p := ⟨b', _, none⟩) hlk).trans g0, (h.cell (p := ⟨b', _, none⟩) hlk).trans g1, (h.cell (p := ⟨b', _, none⟩) hlk).trans g2, (h.cell (p := ⟨w.heap.size + 1, _, none⟩) X2l).trans q0, (h.cell (p := ⟨w.heap.size + 1, _, none⟩) X2l).trans q1, (h.cell (p := ⟨w.heap.size + 1, _, none⟩) X2l).trans q2⟩))
          have D0 := Lib.hid ((Below.refl kb wr).drew)
          have S0 := Lib.hid (HSF.out _ D0.out)
          go_region_held3 (fun z => z.cell? ⟨b', o' + q * 3, none⟩ = some (.int .i64 gw) ∧ z.cell? ⟨b', o' + q * 3 + 1, none⟩ = some (.int .i64 gh) ∧ z.cell? ⟨b', o' + q * 3 + 2, none⟩ = some (.slice ga gn gc) ∧ z.cell? ⟨w.heap.size + 1, 0, none⟩ = some (.int .i64 X) ∧ z.cell? ⟨w.heap.size + 1, 1, none⟩ = some (.int .i64 Y) ∧ z.cell? ⟨w.heap.size + 1, 2, none⟩ = some (.slice B m d))
            (first
              | with_reducible exact S0.out
              | with_reducible exact S1.out
              | with_reducible exact S2.out
              | go_keep)
            ((first
              | (go_at_call 98
                 with_reducible refine Calls.mono (HA1.out _ HCD.out) ?_
                 rintro e w9 ⟨rfl, hb⟩
                 have HR9 := Lib.hid (HST.out.below hb HST.out.lt)
                 have HC9 := Lib.hid (HCD.out.trans (hb.mono (Nat.le_of_lt hkw)))
                 have D9 := Lib.hid (D0.out.trans (hb.mono (Nat.le_of_lt hkw)))
                 have S1 := Lib.hid (HSF.out _ D9.out)
                 have S2 := Lib.hid (HSF.out _ (D9.out.setCell (p := ⟨kb, t, none⟩) (Nat.le_refl _) (.bool bq)))
                 have hcl := HR9.out.cell hlt2
                 have hfr := HR9.out.free t
                 have hk9 := HR9.out.lt
                 clear hb)))
          all_goals go_wp2
          go_roundw
          case rel => exact ⟨t + 1, by omega, by go_num, Lib.hid ((HR9.out.set_ t bq).congr fun i _ => by
            by_cases e : i = t
            · subst e; rw [if_pos rfl, if_pos (by omega), HQE.out, HBQ.out]
            · rw [if_neg e]
              by_cases e2 : i < t
              · rw [if_pos e2, if_pos (by omega)]
              · rw [if_neg e2, if_neg (by omega)]), Lib.hid (HC9.out.setCell (p := ⟨kb, t, none⟩) (Nat.le_refl _) _), by simpa using hk9⟩
          case measure => simp [intOf]; omega
        · have e : t = K := by omega
          have z3 : ¬ (t : Int) < (K : Int) := by omega
          have X1t := Lib.hid (X1q.out.below HC.out X1l)
          have R0t := Lib.hid (R0q.out.below HC.out R0l)
          have HE := Lib.hid (show Row wr kb K (fun s => decide (∀ j, j < m → F (p s) j = a j)) from HR.out.congr fun i hi => by rw [if_pos (by omega)])
          clear HR e
          obtain ⟨q0, q1, q2, q3, q4, q5, q6⟩ := X1t.out.all
          obtain ⟨r0, r1, r2, r3, r4, r5, r6⟩ := X2t.out.all
          obtain ⟨t0, t1, t2, t3, t4, t5, t6⟩ := R0t.out.all
          go_upto_region 23 with (fail)
          go_region
          have hkr : kb ≠ rb := by omega
          have HF := Lib.hid (HE.out.st3 hkr (.int .i64 (nx : Nat)) (.int .i64 (ny : Nat)) (.slice (some ⟨kb, 0, none⟩) K K))
          go_wp2
          refine bodyPost_ret (v := .tuple #[.agg #[.int .i64 (nx : Nat), .int .i64 (ny : Nat), .slice (some ⟨kb, 0, none⟩) K K], .int .i64 0]) (by simp [results, Try.results47, go_sem, t0, t1, t2, t3, t4, t5]) rfl ?_
          refine ⟨some ⟨kb, 0, none⟩, K, by rw [HKK.out], ?_, (bel_st3 LBt.out hrw _ _ _).drew⟩
          rw [← HKK.out]
          exact HF.out.drew.holds HF.out.drew.lt
end Go.Proofs.Ytngjcekjboedjaa
